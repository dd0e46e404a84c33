import Derived.Test.YtpphmbfghfmdlaaGreatY12
import Derived.Test.YtpphmbfghfmdlaaGreatY13
import Derived.Test.YtpphmbfghfmdlaaGreatRows
import Derived.Deep.Slices
import Derived.Laws.MakeOwn
import Derived.Laws.ShiftsVarLaws
import Derived.Lib.SliceRun
import Derived.RegionTactic
namespace Go.Proofs.YtpphmbfghfmdlaaGreat
set_option linter.unusedSimpArgs false
set_option maxRecDepth 100000
section
section
open Go.RowKit
section
variable {w : World} {B : Nat} {A : Option Addr}
theorem Lies.old {t t' : TypeId} {xs : List Value} (h : Lies w B t A xs) : Lies w w.heap.size t' A xs := fun q => by
 obtain ⟨ad, e, hb, hc⟩ := h q
 refine ⟨ad, e, .inl ?_, hc⟩
 obtain ⟨u, hu⟩ : ∃ u, xs[0]? = some u := by
  cases xs with
  | nil => exact absurd rfl q
  | cons x xs => exact ⟨x, rfl⟩
 have := World.block_lt_of_cell? _ _ (hc 0 u hu)
 rwa [addr_block] at this
end
theorem lies_own {w : World} {B base : Nat} {t : TypeId} {A : Option Addr} {size m n c : Nat} {xs : List Value} (h : w.ownsRow base t size (.slice A m c) n xs) : Lies w B t A xs := by
 obtain ⟨rfl, _⟩ := own_room h
 exact Lies.of_own h
def AppOk (B : Nat) (l : List UInt8) (w : World) (e : Ending) (w' : World) : Prop :=
 ∃ A n c, e = .returned (.slice A n c) ∧ w'.ownsRow B 5 1 (.slice A n c) l.length (bcells l) ∧ Tch B [5] w w'
theorem AppOk.then {B : Nat} {l : List UInt8} {w w1 w' : World} {e : Ending} (h : AppOk B l w1 e w') (t : Tch B [5] w w1) : AppOk B l w e w' := by
 obtain ⟨A, n, c, h1, h2, h3⟩ := h
 exact ⟨A, n, c, h1, h2, t.trans h3⟩
end
section
open Go.RowKit
structure MTx where
 b : List UInt8
 A : Option Addr
 c : Nat
def MTx.cell (m : MTx) : Value := .slice m.A m.b.length m.c
def tcells (ms : List MTx) : List Value := ms.map MTx.cell
def MTx.fine (m : MTx) (w : World) (B : Nat) (tb : TypeId) : Prop := Lies w B tb m.A (bcells m.b) ∧ m.b.length ≤ m.c
def TL (w : World) (B : Nat) (tt tb : TypeId) (A : Option Addr) (ms : List MTx) : Prop := Lies w B tt A (tcells ms) ∧ ∀ m ∈ ms, m.fine w B tb
theorem below_drewN {B : Nat} {w w' : World} (h : Below B w w') (n : Nat) : Below B w (w'.drewN n) := ⟨h.os, h.tape, h.output, h.size, h.block⟩
theorem tcells_len (ms : List MTx) : (tcells ms).length = ms.length := by simp [tcells]
theorem tcells_take (ms : List MTx) (k : Nat) : (tcells ms).take k = tcells (ms.take k) := by simp [tcells]
section
variable {w w' : World} {B B' : Nat} {tt tb tt' tb' : TypeId} {A : Option Addr} {ms : List MTx}
theorem TL.nil : TL w B tt tb A [] := ⟨Lies.nil, by simp⟩
theorem MTx.fine.tch {m : MTx} (h : m.fine w B tb) {ts : List TypeId} (hT : Tch B ts w w') (h2 : tb ∉ ts) : m.fine w' B tb := ⟨h.1.tch hT h2, h.2⟩
theorem MTx.fine.below {m : MTx} (h : m.fine w B tb) (hB : B ≤ w.heap.size) (hT : Below w.heap.size w w') : m.fine w' B tb := ⟨h.1.below hB hT, h.2⟩
theorem TL.tch (h : TL w B tt tb A ms) {ts : List TypeId} (hT : Tch B ts w w') (h1 : tt ∉ ts) (h2 : tb ∉ ts) : TL w' B tt tb A ms := ⟨h.1.tch hT h1, fun m hm => (h.2 m hm).tch hT h2⟩
theorem TL.below (h : TL w B tt tb A ms) (hB : B ≤ w.heap.size) (hT : Below w.heap.size w w') : TL w' B tt tb A ms := h.tch (Tch.of_below hT hB []) (by simp) (by simp)
theorem TL.take (h : TL w B tt tb A ms) (k : Nat) : TL w B tt tb A (ms.take k) := ⟨by have := h.1.take k; rwa [tcells_take] at this, fun m hm => h.2 m (List.mem_of_mem_take hm)⟩
theorem TL.at_ (h : TL w B tt tb A ms) {k : Nat} (hk : k < ms.length) : ∃ ad m, A = some ad ∧ ms[k]? = some m ∧ m.fine w B tb ∧ w.cell? (ad.add k) = some (.slice m.A m.b.length m.c) := by
 have hx : ms[k]? = some ms[k] := List.getElem?_eq_getElem hk
 obtain ⟨ad, e, hc⟩ := h.1.at_ (k := k) (by rw [tcells_len]; exact hk)
 refine ⟨ad, ms[k], e, hx, h.2 _ (List.getElem_mem hk), ?_⟩
 rw [hc]
 simp [tcells, MTx.cell]
end
end
end
end Go.Proofs.YtpphmbfghfmdlaaGreat
