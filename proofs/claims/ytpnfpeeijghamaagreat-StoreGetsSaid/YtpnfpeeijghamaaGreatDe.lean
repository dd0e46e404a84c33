/- The document's own Disk in memory. Contracts of the document's own Disk: has, act, Arm, Fault, Read. Contracts of the document's own Disk: Fault, Read. Contracts of the document's own Disk: Flush, Crash. Contract of the document's own Disk: Crash. Contracts of the document's own NewDisk. -/
import Derived.Test.YtpnfpeeijghamaaGreatDk
import Derived.Test.YtpnfpeeijghamaaGreatBy
import Derived.Test.YtpnfpeeijghamaaGreatAp
import Derived.Laws.ShiftsVarLaws
import Derived.BigRegion
import Derived.IntWalk
namespace Go.Proofs.YtpnfpeeijghamaaGreat
set_option maxRecDepth 100000

section
open Go.RowKit

/-- A write that is cached: where, and its bytes. -/
structure MWr where
  i : Nat
  m : MTx
def MWr.cells (x : MWr) : List Value := [.int .i64 (x.i : Int), x.m.cell]
def wcells (l : List MWr) : List Value := l.flatMap MWr.cells
def wrs (l : List MWr) : List (Nat × List UInt8) := l.map fun x => (x.i, x.m.b)
theorem wcells_len (l : List MWr) : (wcells l).length = l.length * 2 := by
  induction l with
  | nil => rfl
  | cons x l ih => simp only [wcells, List.flatMap_cons, List.length_append, List.length_cons] at ih ⊢; rw [ih]; simp [MWr.cells]; omega
theorem wcells_snoc (l : List MWr) (x : MWr) : wcells (l ++ [x]) = wcells l ++ x.cells := by simp [wcells]
theorem wrs_snoc (l : List MWr) (x : MWr) : wrs (l ++ [x]) = wrs l ++ [(x.i, x.m.b)] := by simp [wrs]
theorem wrs_len (l : List MWr) : (wrs l).length = l.length := by simp [wrs]
theorem wcells_one (l : List MWr) : ∀ u ∈ wcells l, u.oneCell' = true := by
  intro u hu
  simp only [wcells, List.mem_flatMap] at hu
  obtain ⟨x, _, hx⟩ := hu
  simp only [MWr.cells, List.mem_cons, List.not_mem_nil, or_false] at hx
  rcases hx with rfl | rfl <;> rfl
theorem wcells_at {l : List MWr} {k : Nat} {x : MWr} (h : l[k]? = some x) {j : Nat} (hj : j < 2) : (wcells l)[k * 2 + j]? = x.cells[j]? := by
  induction l generalizing k with
  | nil => simp at h
  | cons q l ih =>
    have hq : q.cells.length = 2 := rfl
    cases k with
    | zero =>
      simp only [List.getElem?_cons_zero, Option.some.injEq] at h
      subst h
      simp only [wcells, List.flatMap_cons, Nat.zero_mul, Nat.zero_add]
      rw [List.getElem?_append_left (by omega)]
    | succ k =>
      simp only [List.getElem?_cons_succ] at h
      have := ih h
      simp only [wcells, List.flatMap_cons] at this ⊢
      rw [List.getElem?_append_right (by omega), hq, show (k + 1) * 2 + j - 2 = k * 2 + j by omega]
      exact this

/-- A text that the disk holds: of 64 bytes, in a block of bytes of F. -/
def Held (w : World) (F : Nat → Prop) (m : MTx) : Prop := m.fine w 0 5 ∧ InF F m.A ∧ m.b.length = 64

section
variable {w w' : World} {F G : Nat → Prop} {p : Nat} {AS AC AB : Option Addr} {cS cC cB : Nat} {ms : List MTx} {cs : List MWr} {bad : List Bool} {left : Int} {dead : Bool}
theorem Held.keepF {m : MTx} (h : Held w F m) (hk : ∀ k, F k → w'.heap[k]? = w.heap[k]?) : Held w' F m := ⟨⟨h.1.1.keepF h.2.1 hk, h.1.2⟩, h.2⟩
theorem Held.mono {m : MTx} (h : Held w F m) (hF : ∀ k, F k → G k) : Held w G m := ⟨h.1, h.2.1.mono hF, h.2.2⟩
theorem Held.tch {m : MTx} (h : Held w F m) {B : Nat} {ts : List TypeId} (hT : Tch B ts w w') (ht : 5 ∉ ts) : Held w' F m := ⟨⟨h.1.1.keep fun b hb => hb.elim (fun q => absurd q (Nat.not_lt_zero _)) (fun ⟨_, _, r⟩ => hT.typed b _ _ _ r ht), h.1.2⟩, h.2⟩
theorem Held.cap {m : MTx} (h : Held w F m) : Held w (fun k => F k ∧ k < w.heap.size) m :=
  ⟨h.1, fun ad e => ⟨h.2.1 ad e, h.1.1.ltF (fun q => by have := bcells_len m.b; rw [q, h.2.2] at this; cases this) ad e⟩, h.2.2⟩
end

section
variable {w w' : World} {F : Nat → Prop} {p : Nat} {AS AC AB : Option Addr} {cS cC cB : Nat} {ms : List MTx} {cs : List MWr} {bad : List Bool} {left : Int} {dead : Bool}
/-- Only the block p has turned. -/
theorem own_off {w w' : World} {base : Nat} {e t : TypeId} {size n : Nat} {v : Value} {xs : List Value} {o : Array Value} {fr : Nat × Nat} (h : w.ownsRow base e size v n xs) (hp : w.heap[p]? = some (.cells o t fr)) (ht : e ≠ t) (hk : ∀ k, k ≠ p → w'.heap[k]? = w.heap[k]?) : w'.ownsRow base e size v n xs :=
  own_keep h fun k q => hk k (by
    obtain ⟨_, _, _, r⟩ := own_row h k q
    exact blk_ne r hp ht)
theorem Held.off {m : MTx} {t : TypeId} {o : Array Value} {fr : Nat × Nat} (h : Held w F m) (hp : w.heap[p]? = some (.cells o t fr)) (ht : 5 ≠ t) (hk : ∀ k, k ≠ p → w'.heap[k]? = w.heap[k]?) : Held w' F m :=
  ⟨⟨h.1.1.keep fun b hb => hb.elim (fun q => absurd q (Nat.not_lt_zero _)) (fun ⟨_, _, r⟩ => hk b (blk_ne r hp ht)), h.1.2⟩, h.2⟩
theorem set_off {u : Value} {i : Nat} : ∀ k, k ≠ p → (w.setCell ⟨p, i, none⟩ u).heap[k]? = w.heap[k]? := fun _ hk => Below.heap_setCell _ _ _ _ hk
end

theorem up_self {F : Nat → Prop} {B : Nat} : ∀ k, F k → Up F B k := fun _ h => Or.inl h

end

section
open Go.RowKit

theorem wr_at {w : World} {B : Nat} {t : TypeId} {A : Option Addr} {l : List MWr} (h : Lies w B t A (wcells l)) {k : Nat} (hk : k < l.length) : ∃ ad x, A = some ad ∧ l[k]? = some x ∧
    w.cell? (ad.add (k * 2)) = some (.int .i64 (x.i : Int)) ∧ w.cell? ⟨(ad.add (k * 2)).block, (ad.add (k * 2)).off + 1, none⟩ = some (.slice x.m.A x.m.b.length x.m.c) := by
  have hx : l[k]? = some l[k] := List.getElem?_eq_getElem hk
  obtain ⟨ad, e, _, hc⟩ := h (fun q => by
    have := wcells_len l
    rw [q] at this
    simp at this
    omega)
  have c : ∀ j u, j < 2 → (l[k]).cells[j]? = some u → w.cell? ((ad.add (k * 2)).add j) = some u := fun j u hj hu => by
    rw [addr_add]
    exact hc _ _ ((wcells_at hx hj).trans hu)
  exact ⟨ad, l[k], e, hx, c 0 _ (by omega) rfl, c 1 _ (by omega) rfl⟩
theorem bools_set (l : List Bool) (j : Nat) (x : Bool) : (l.map Value.bool).set j (.bool x) = (l.set j x).map Value.bool := by rw [List.map_set]

theorem seen_snoc (s : List UInt8) (i : Nat) (c : List (Nat × List UInt8)) (x : Nat × List UInt8) : Dk.seen s i (c ++ [x]) = if x.1 = i then x.2 else Dk.seen s i c := by
  unfold Dk.seen
  rw [List.foldl_append]
  rfl

theorem Held.below {w w' : World} {F : Nat → Prop} {m : MTx} (h : Held w F m) (hb : Below w.heap.size w w') : Held w' F m := ⟨⟨h.1.1.below (Nat.zero_le _) hb, h.1.2⟩, h.2⟩

namespace Dk
theorem keepAll_snoc (s : List (List UInt8)) (c : List (Nat × List UInt8)) (x : Nat × List UInt8) : keepAll s (c ++ [x]) = (keepAll s c).set x.1 x.2 := by
  unfold keepAll
  rw [List.foldl_append]
  rfl
theorem keepSome_snoc (s : List (List UInt8)) (c : List (Nat × List UInt8)) (ks : List Bool) (x : Nat × List UInt8) : keepSome s (c ++ [x]) ks = if ks.getD c.length false = true then (keepSome s c ks).set x.1 x.2 else keepSome s c ks := by
  induction c generalizing s ks with
  | nil =>
    cases ks with
    | nil => rfl
    | cons k ks => cases k <;> cases ks <;> rfl
  | cons y c ih =>
    cases ks with
    | nil => simp [keepSome]
    | cons k ks =>
      have q := ih (if k = true then s.set y.1 y.2 else s) ks
      rw [List.cons_append]
      show keepSome (if k = true then s.set y.1 y.2 else s) (c ++ [x]) ks = _
      rw [q]
      simp [keepSome]
end Dk

section
variable {w w' : World} {F : Nat → Prop} {p : Nat} {AS AC AB : Option Addr} {cS cC cB : Nat} {ms : List MTx} {cs : List MWr} {bad : List Bool} {left : Int} {dead : Bool}
theorem Lies.but {B B0 : Nat} {t : TypeId} {A : Option Addr} {xs : List Value} (h : Lies w B t A xs) (hi : xs ≠ [] → InF (fun k => ¬ F k ∧ k < B0) A) (hb : But F B0 w w') : Lies w' B t A xs := fun hx => by
  obtain ⟨ad, rfl, hbl, hc⟩ := h hx
  obtain ⟨q1, q2⟩ := hi hx ad rfl
  have q := hb.block ad.block q2 q1
  exact ⟨ad, rfl, hbl.imp id (fun ⟨cs, fr, r⟩ => ⟨cs, fr, q.trans r⟩), fun j u hu => (World.cell?_of_block (by rw [addr_block]; exact q)).trans (hc j u hu)⟩
end

theorem crash_snoc {s : List (List UInt8)} {c : List (Nat × List UInt8)} {ks : List Bool} {x : Nat × List UInt8} {j : Nat} {v : Bool} (hj : c.length = j) (hk : ks.getD j false = v) : Dk.keepSome s (c ++ [x]) ks = if v = true then (Dk.keepSome s c ks).set x.1 x.2 else Dk.keepSome s c ks := by
  rw [Dk.keepSome_snoc, hj, hk]

end

section
open Go.RowKit

theorem Tryz.infoTexts : (Tryz.prog.info? 23).map (fun i => (i.zero, i.size, i.bytes)) = some (some (.slice none 0 0), 1, 24) := by kernel_rfl

theorem Tryz.infoBool : (Tryz.prog.info? 4).map (fun i => (i.zero, i.size, i.bytes)) = some (some (.bool false), 1, 1) := by kernel_rfl

theorem five {w : World} {p : Nat} {t : TypeId} {a b c d e : Value} (h : w.heap[p]? = some (.cells #[a, b, c, d, e] t (0, 0))) : w.cell? ⟨p, 0, none⟩ = some a ∧ w.cell? ⟨p, 1, none⟩ = some b ∧ w.cell? ⟨p, 2, none⟩ = some c ∧ w.cell? ⟨p, 3, none⟩ = some d ∧ w.cell? ⟨p, 4, none⟩ = some e ∧ (∀ j, w.frozen? ⟨p, j, none⟩ = false) := by
  refine ⟨?_, ?_, ?_, ?_, ?_, fun j => blk_free h j⟩ <;> simp [World.cell?, h]
theorem own_ne {w : World} {base : Nat} {e t : TypeId} {size n p : Nat} {v : Value} {xs : List Value} {o : Array Value} {fr : Nat × Nat} (h : w.ownsRow base e size v n xs) (hp : w.heap[p]? = some (.cells o t fr)) (ht : e ≠ t) : some p ≠ v.ownBlock := fun q => by
  obtain ⟨_, _, _, r⟩ := own_row h p q.symm
  exact blk_ne r hp ht rfl

section
variable {w X w2 : World} {F : Nat → Prop} {p : Nat} {AS AC AB : Option Addr} {cS cC cB : Nat} {ms : List MTx} {cs : List MWr} {bad : List Bool} {left : Int} {dead : Bool}
/-- Where the row's block is behind an append. -/
theorem InF.grow {v : Value} {A2 : Option Addr} {n k2 N : Nat} (hv : ∀ k, v.ownBlock = some k → F k) (h : (Value.slice A2 n k2).ownBlock = v.ownBlock ∨ (Value.slice A2 n k2).ownBlock = some N) (hn : F N) : InF F A2 := fun ad e => by
  subst e
  rcases h with h | h
  · exact hv _ h.symm
  · have q : some ad.block = some N := h
    injection q with q
    rw [q]
    exact hn
end

end
end Go.Proofs.YtpnfpeeijghamaaGreat
