import Derived.Test.YtnhpkcphgdkdiaaGreatZ19
import Derived.Test.YtnhpkcphgdkdiaaGreatZ13
import Derived.Test.YtnhpkcphgdkdiaaGreatZ18
import Derived.Lib.SliceRun
import Derived.Laws.IdiomStrings
import Derived.Laws.BitsAllLaws
namespace Go.Proofs.YtnhpkcphgdkdiaaGreat
set_option linter.unusedSimpArgs false
set_option maxRecDepth 100000
section
section
open Go.RowKit
section
variable {B : Nat} {w w' : World} {p : Nat} {l : List UInt8}
end
end
section
open Go.RowKit
structure MPt where
 pt : Cd.Pt
 A : Option Addr
 c : Nat
def MPt.cells (m : MPt) : List Value := [.int .i64 m.pt.kind, .int .u64 m.pt.n, .int .i64 m.pt.i, .float .f64 m.pt.f, .slice m.A m.pt.b.length m.c, .bool m.pt.is]
def flat (ms : List MPt) : List Value := ms.flatMap MPt.cells
def MPt.fine (m : MPt) (w : World) (B : Nat) (tb : TypeId) : Prop := Lies w B tb m.A (bcells m.pt.b) ∧ m.pt.b.length ≤ m.c
def PL (w : World) (B : Nat) (tp tb : TypeId) (A : Option Addr) (ms : List MPt) : Prop := Lies w B tp A (flat ms) ∧ ∀ m ∈ ms, m.fine w B tb
theorem flat_len (ms : List MPt) : (flat ms).length = ms.length * 6 := by
 induction ms with
 | nil => rfl
 | cons m ms ih => simp only [flat, List.flatMap_cons, List.length_append, List.length_cons] at ih ⊢; rw [ih]; simp [MPt.cells]; omega
theorem flat_at {ms : List MPt} {k : Nat} {m : MPt} (h : ms[k]? = some m) {j : Nat} (hj : j < 6) : (flat ms)[k * 6 + j]? = m.cells[j]? := by
 induction ms generalizing k with
 | nil => simp at h
 | cons q ms ih =>
  have hq : q.cells.length = 6 := rfl
  cases k with
  | zero =>
   simp only [List.getElem?_cons_zero, Option.some.injEq] at h
   subst h
   simp only [flat, List.flatMap_cons, Nat.zero_mul, Nat.zero_add]
   rw [List.getElem?_append_left (by omega)]
  | succ k =>
   simp only [List.getElem?_cons_succ] at h
   have := ih h
   simp only [flat, List.flatMap_cons] at this ⊢
   rw [List.getElem?_append_right (by omega), hq, show (k + 1) * 6 + j - 6 = k * 6 + j by omega]
   exact this
theorem PL.nil {w : World} {B : Nat} {tp tb : TypeId} {A : Option Addr} : PL w B tp tb A [] := ⟨Lies.nil, by simp⟩
section
variable {w w' : World} {B B' : Nat} {tp tb tp' tb' : TypeId} {A : Option Addr} {ms : List MPt}
theorem MPt.fine.tch {m : MPt} (h : m.fine w B tb) {ts : List TypeId} (hT : Tch B ts w w') (h2 : tb ∉ ts) : m.fine w' B tb := ⟨h.1.tch hT h2, h.2⟩
theorem PL.tch (h : PL w B tp tb A ms) {ts : List TypeId} (hT : Tch B ts w w') (h1 : tp ∉ ts) (h2 : tb ∉ ts) : PL w' B tp tb A ms := ⟨h.1.tch hT h1, fun m hm => (h.2 m hm).tch hT h2⟩
theorem PL.below (h : PL w B tp tb A ms) (hB : B ≤ w.heap.size) (hT : Below w.heap.size w w') : PL w' B tp tb A ms := h.tch (Tch.of_below hT hB []) (by simp) (by simp)
theorem PL.old (h : PL w B tp tb A ms) : PL w w.heap.size tp' tb' A ms := ⟨h.1.old, fun m hm => ⟨(h.2 m hm).1.old, (h.2 m hm).2⟩⟩
theorem PL.at_ (h : PL w B tp tb A ms) {k : Nat} (hk : k < ms.length) : ∃ ad m, A = some ad ∧ ms[k]? = some m ∧ m.fine w B tb ∧
  w.cell? (ad.add (k * 6)) = some (.int .i64 m.pt.kind) ∧ w.cell? ⟨(ad.add (k * 6)).block, (ad.add (k * 6)).off + 1, none⟩ = some (.int .u64 m.pt.n) ∧
  w.cell? ⟨(ad.add (k * 6)).block, (ad.add (k * 6)).off + 2, none⟩ = some (.int .i64 m.pt.i) ∧ w.cell? ⟨(ad.add (k * 6)).block, (ad.add (k * 6)).off + 3, none⟩ = some (.float .f64 m.pt.f) ∧
  w.cell? ⟨(ad.add (k * 6)).block, (ad.add (k * 6)).off + 4, none⟩ = some (.slice m.A m.pt.b.length m.c) ∧ w.cell? ⟨(ad.add (k * 6)).block, (ad.add (k * 6)).off + 5, none⟩ = some (.bool m.pt.is) := by
 have hx : ms[k]? = some ms[k] := List.getElem?_eq_getElem hk
 obtain ⟨ad, e, _, hc⟩ := h.1 (fun q => by
  have := flat_len ms
  rw [q] at this
  simp at this
  omega)
 have c : ∀ j u, j < 6 → (ms[k]).cells[j]? = some u → w.cell? ((ad.add (k * 6)).add j) = some u := fun j u hj hu => by
  rw [addr_add]
  exact hc _ _ ((flat_at hx hj).trans hu)
 refine ⟨ad, ms[k], e, hx, h.2 _ (List.getElem_mem hk), ?_, ?_, ?_, ?_, ?_, ?_⟩
 ·exact c 0 _ (by omega) rfl
 ·exact c 1 _ (by omega) rfl
 ·exact c 2 _ (by omega) rfl
 ·exact c 3 _ (by omega) rfl
 ·exact c 4 _ (by omega) rfl
 ·exact c 5 _ (by omega) rfl
end
end
section
open Go.RowKit
end
end
section
section
section
open Go.RowKit
section
variable {g B p : Nat} {w w' : World} {l : List UInt8}
end
end
end
section
open Go.RowKit
end
end
section
section
open Go.RowKit
def RS (t : TypeId) (B : Nat) (tb : TypeId) (w : World) (p : Nat) (s : Option (List UInt8)) : Prop :=
 B ≤ p ∧ match s with
 | none => w.heap[p]? = some (.cells #[.slice none 0 0, .bool true] t (0, 0))
 | some l => ∃ A c, l.length ≤ c ∧ w.heap[p]? = some (.cells #[.slice A l.length c, .bool false] t (0, 0)) ∧ Lies w B tb A (bcells l)
section
variable {t tb : TypeId} {B p : Nat} {w w' : World} {s : Option (List UInt8)}
theorem RS.tch (h : RS t B tb w p s) {ts : List TypeId} (hT : Tch B ts w w') (h1 : t ∉ ts) (h2 : tb ∉ ts) : RS t B tb w' p s := by
 refine ⟨h.1, ?_⟩
 cases s with
 | none => exact hT.blk h.2 h1
 | some l =>
  obtain ⟨_, A, c, hc, hp, hL⟩ := h
  exact ⟨A, c, hc, hT.blk hp h1, hL.tch hT h2⟩
theorem RS.size (h : RS t B tb w p s) : B ≤ w.heap.size := by
 obtain ⟨hB, h⟩ := h
 cases s with
 | none => have := lt_of_block h; omega
 | some l =>
  obtain ⟨A, c, _, hp, _⟩ := h
  have := lt_of_block hp
  omega
theorem RS.below (h : RS t B tb w p s) (hT : Below w.heap.size w w') : RS t B tb w' p s := h.tch (Tch.of_below hT h.size []) (by simp) (by simp)
end
def tk (n : Nat) : Option (List UInt8) → List UInt8
 | none => []
 | some l => if n ≤ l.length then l.take n else []
end
section
open Go.RowKit
end
end
end Go.Proofs.YtnhpkcphgdkdiaaGreat
