/- The document's own Disk in memory. Contracts of the document's own Disk: has, act, Arm, Fault, Read. -/
import Derived.Test.YtbfkjneidabijaaDk
import Derived.Test.YtbfkjneidabijaaTx
import Derived.Test.YtbfkjneidabijaaFp0
import Derived.Test.YtbfkjneidabijaaAp
import Derived.Laws.ShiftsVarLaws
import Derived.BigRegion
namespace Go.Proofs.Ytbfkjneidabijaa
open Go.RowKit
set_option maxRecDepth 100000

/-- A write that is cached: where, and its bytes. -/
structure MWr where
  i : Nat
  m : MTx
def MWr.cells (x : MWr) : List Value := [.int .i64 (x.i : Int), x.m.cell]
def wcells (l : List MWr) : List Value := l.flatMap MWr.cells
def wrs (l : List MWr) : List (Nat × List UInt8) := l.map fun x => (x.i, x.m.b)
theorem wcells_len (l : List MWr) : (wcells l).length = l.length * 2 := by
  induction l with
  | nil => rfl
  | cons x l ih => simp only [wcells, List.flatMap_cons, List.length_append, List.length_cons] at ih ⊢; rw [ih]; simp [MWr.cells]; omega
theorem wcells_snoc (l : List MWr) (x : MWr) : wcells (l ++ [x]) = wcells l ++ x.cells := by simp [wcells]
theorem wrs_snoc (l : List MWr) (x : MWr) : wrs (l ++ [x]) = wrs l ++ [(x.i, x.m.b)] := by simp [wrs]
theorem wrs_len (l : List MWr) : (wrs l).length = l.length := by simp [wrs]
theorem wcells_one (l : List MWr) : ∀ u ∈ wcells l, u.oneCell' = true := by
  intro u hu
  simp only [wcells, List.mem_flatMap] at hu
  obtain ⟨x, _, hx⟩ := hu
  simp only [MWr.cells, List.mem_cons, List.not_mem_nil, or_false] at hx
  rcases hx with rfl | rfl <;> rfl
theorem wcells_at {l : List MWr} {k : Nat} {x : MWr} (h : l[k]? = some x) {j : Nat} (hj : j < 2) : (wcells l)[k * 2 + j]? = x.cells[j]? := by
  induction l generalizing k with
  | nil => simp at h
  | cons q l ih =>
    have hq : q.cells.length = 2 := rfl
    cases k with
    | zero =>
      simp only [List.getElem?_cons_zero, Option.some.injEq] at h
      subst h
      simp only [wcells, List.flatMap_cons, Nat.zero_mul, Nat.zero_add]
      rw [List.getElem?_append_left (by omega)]
    | succ k =>
      simp only [List.getElem?_cons_succ] at h
      have := ih h
      simp only [wcells, List.flatMap_cons] at this ⊢
      rw [List.getElem?_append_right (by omega), hq, show (k + 1) * 2 + j - 2 = k * 2 + j by omega]
      exact this

/-- A text that the disk holds: of 64 bytes, in a block of bytes of F. -/
def Held (w : World) (F : Nat → Prop) (m : MTx) : Prop := m.fine w 0 5 ∧ InF F m.A ∧ m.b.length = 64

section
variable {w w' : World} {F G : Nat → Prop} {p : Nat} {AS AC AB : Option Addr} {cS cC cB : Nat} {ms : List MTx} {cs : List MWr} {bad : List Bool} {left : Int} {dead : Bool}
theorem Held.keepF {m : MTx} (h : Held w F m) (hk : ∀ k, F k → w'.heap[k]? = w.heap[k]?) : Held w' F m := ⟨⟨h.1.1.keepF h.2.1 hk, h.1.2⟩, h.2⟩
theorem Held.mono {m : MTx} (h : Held w F m) (hF : ∀ k, F k → G k) : Held w G m := ⟨h.1, h.2.1.mono hF, h.2.2⟩
theorem Held.tch {m : MTx} (h : Held w F m) {B : Nat} {ts : List TypeId} (hT : Tch B ts w w') (ht : 5 ∉ ts) : Held w' F m := ⟨⟨h.1.1.keep fun b hb => hb.elim (fun q => absurd q (Nat.not_lt_zero _)) (fun ⟨_, _, r⟩ => hT.typed b _ _ _ r ht), h.1.2⟩, h.2⟩
theorem Held.cap {m : MTx} (h : Held w F m) : Held w (fun k => F k ∧ k < w.heap.size) m :=
  ⟨h.1, fun ad e => ⟨h.2.1 ad e, h.1.1.ltF (fun q => by have := bcells_len m.b; rw [q, h.2.2] at this; cases this) ad e⟩, h.2.2⟩
end

section
variable {w w' : World} {F : Nat → Prop} {p : Nat} {AS AC AB : Option Addr} {cS cC cB : Nat} {ms : List MTx} {cs : List MWr} {bad : List Bool} {left : Int} {dead : Bool}
/-- Only the block p has turned. -/
theorem own_off {w w' : World} {base : Nat} {e t : TypeId} {size n : Nat} {v : Value} {xs : List Value} {o : Array Value} {fr : Nat × Nat} (h : w.ownsRow base e size v n xs) (hp : w.heap[p]? = some (.cells o t fr)) (ht : e ≠ t) (hk : ∀ k, k ≠ p → w'.heap[k]? = w.heap[k]?) : w'.ownsRow base e size v n xs :=
  own_keep h fun k q => hk k (by
    obtain ⟨_, _, _, r⟩ := own_row h k q
    exact blk_ne r hp ht)
theorem Held.off {m : MTx} {t : TypeId} {o : Array Value} {fr : Nat × Nat} (h : Held w F m) (hp : w.heap[p]? = some (.cells o t fr)) (ht : 5 ≠ t) (hk : ∀ k, k ≠ p → w'.heap[k]? = w.heap[k]?) : Held w' F m :=
  ⟨⟨h.1.1.keep fun b hb => hb.elim (fun q => absurd q (Nat.not_lt_zero _)) (fun ⟨_, _, r⟩ => hk b (blk_ne r hp ht)), h.1.2⟩, h.2⟩
theorem set_off {u : Value} {i : Nat} : ∀ k, k ≠ p → (w.setCell ⟨p, i, none⟩ u).heap[k]? = w.heap[k]? := fun _ hk => Below.heap_setCell _ _ _ _ hk
end

theorem up_self {F : Nat → Prop} {B : Nat} : ∀ k, F k → Up F B k := fun _ h => Or.inl h

end Go.Proofs.Ytbfkjneidabijaa
