/- The document's own Disk in memory. -/
import Derived.Test.YtogobeinckgjmaaDk
import Derived.Test.YtogobeinckgjmaaTx
import Derived.Test.YtogobeinckgjmaaFp0
import Derived.Test.YtogobeinckgjmaaAp
namespace Go.Proofs.Ytogobeinckgjmaa
open Go.RowKit

/-- A write that is cached: where, and its bytes. -/
structure MWr where
  i : Nat
  m : MTx
def MWr.cells (x : MWr) : List Value := [.int .i64 (x.i : Int), x.m.cell]
def wcells (l : List MWr) : List Value := l.flatMap MWr.cells
def wrs (l : List MWr) : List (Nat × List UInt8) := l.map fun x => (x.i, x.m.b)
theorem wcells_len (l : List MWr) : (wcells l).length = l.length * 2 := by
  induction l with
  | nil => rfl
  | cons x l ih => simp only [wcells, List.flatMap_cons, List.length_append, List.length_cons] at ih ⊢; rw [ih]; simp [MWr.cells]; omega
theorem wcells_snoc (l : List MWr) (x : MWr) : wcells (l ++ [x]) = wcells l ++ x.cells := by simp [wcells]
theorem wrs_snoc (l : List MWr) (x : MWr) : wrs (l ++ [x]) = wrs l ++ [(x.i, x.m.b)] := by simp [wrs]
theorem wrs_len (l : List MWr) : (wrs l).length = l.length := by simp [wrs]
theorem wcells_one (l : List MWr) : ∀ u ∈ wcells l, u.oneCell' = true := by
  intro u hu
  simp only [wcells, List.mem_flatMap] at hu
  obtain ⟨x, _, hx⟩ := hu
  simp only [MWr.cells, List.mem_cons, List.not_mem_nil, or_false] at hx
  rcases hx with rfl | rfl <;> rfl
theorem wcells_at {l : List MWr} {k : Nat} {x : MWr} (h : l[k]? = some x) {j : Nat} (hj : j < 2) : (wcells l)[k * 2 + j]? = x.cells[j]? := by
  induction l generalizing k with
  | nil => simp at h
  | cons q l ih =>
    have hq : q.cells.length = 2 := rfl
    cases k with
    | zero =>
      simp only [List.getElem?_cons_zero, Option.some.injEq] at h
      subst h
      simp only [wcells, List.flatMap_cons, Nat.zero_mul, Nat.zero_add]
      rw [List.getElem?_append_left (by omega)]
    | succ k =>
      simp only [List.getElem?_cons_succ] at h
      have := ih h
      simp only [wcells, List.flatMap_cons] at this ⊢
      rw [List.getElem?_append_right (by omega), hq, show (k + 1) * 2 + j - 2 = k * 2 + j by omega]
      exact this

/-- A text that the disk holds: of 64 bytes, in a block of bytes of F. -/
def Held (w : World) (F : Nat → Prop) (m : MTx) : Prop := m.fine w 0 5 ∧ InF F m.A ∧ m.b.length = 64

/-- The document's Disk at block p, as these lists tell it; all its blocks are F's. -/
structure RS5 (w : World) (F : Nat → Prop) (p : Nat) (AS AC AB : Option Addr) (cS cC cB : Nat) (ms : List MTx) (cs : List MWr) (bad : List Bool) (left : Int) (dead : Bool) : Prop where
  fp : F p
  cell : w.heap[p]? = some (.cells #[.slice AS ms.length cS, .slice AC cs.length cC, .slice AB bad.length cB, .int .i64 left, .bool dead] 51 (0, 0))
  s : w.ownsRow 0 29 1 (.slice AS ms.length cS) ms.length (tcells ms)
  sF : InF F AS
  held : ∀ m ∈ ms, Held w F m
  c : w.ownsRow 0 67 2 (.slice AC cs.length cC) cs.length (wcells cs)
  cF : InF F AC
  heldC : ∀ x ∈ cs, Held w F x.m
  b : w.ownsRow 0 4 1 (.slice AB bad.length cB) bad.length (bad.map Value.bool)
  bF : InF F AB
/-- The document's Disk at block p. -/
def RD (w : World) (F : Nat → Prop) (p : Nat) (d : Dk.D) : Prop :=
  ∃ (AS AC AB : Option Addr) (cS cC cB : Nat) (ms : List MTx) (cs : List MWr), RS5 w F p AS AC AB cS cC cB ms cs d.bad d.left d.dead ∧ txs ms = d.s ∧ wrs cs = d.cache

section
variable {w w' : World} {F G : Nat → Prop} {p : Nat} {AS AC AB : Option Addr} {cS cC cB : Nat} {ms : List MTx} {cs : List MWr} {bad : List Bool} {left : Int} {dead : Bool}
theorem Held.keepF {m : MTx} (h : Held w F m) (hk : ∀ k, F k → w'.heap[k]? = w.heap[k]?) : Held w' F m := ⟨⟨h.1.1.keepF h.2.1 hk, h.1.2⟩, h.2⟩
theorem Held.mono {m : MTx} (h : Held w F m) (hF : ∀ k, F k → G k) : Held w G m := ⟨h.1, h.2.1.mono hF, h.2.2⟩
theorem Held.tch {m : MTx} (h : Held w F m) {B : Nat} {ts : List TypeId} (hT : Tch B ts w w') (ht : 5 ∉ ts) : Held w' F m := ⟨⟨h.1.1.keep fun b hb => hb.elim (fun q => absurd q (Nat.not_lt_zero _)) (fun ⟨_, _, r⟩ => hT.typed b _ _ _ r ht), h.1.2⟩, h.2⟩
theorem RS5.keep (h : RS5 w F p AS AC AB cS cC cB ms cs bad left dead) (hk : ∀ k, F k → w'.heap[k]? = w.heap[k]?) : RS5 w' F p AS AC AB cS cC cB ms cs bad left dead :=
  ⟨h.fp, (hk p h.fp).trans h.cell, own_keep h.s (fun k e => hk k (h.sF.row k e)), h.sF, fun m hm => (h.held m hm).keepF hk, own_keep h.c (fun k e => hk k (h.cF.row k e)), h.cF, fun x hx => (h.heldC x hx).keepF hk, own_keep h.b (fun k e => hk k (h.bF.row k e)), h.bF⟩
theorem RS5.mono (h : RS5 w F p AS AC AB cS cC cB ms cs bad left dead) (hF : ∀ k, F k → G k) : RS5 w G p AS AC AB cS cC cB ms cs bad left dead :=
  ⟨hF p h.fp, h.cell, h.s, h.sF.mono hF, fun m hm => (h.held m hm).mono hF, h.c, h.cF.mono hF, fun x hx => (h.heldC x hx).mono hF, h.b, h.bF.mono hF⟩
theorem Held.cap {m : MTx} (h : Held w F m) : Held w (fun k => F k ∧ k < w.heap.size) m :=
  ⟨h.1, fun ad e => ⟨h.2.1 ad e, h.1.1.ltF (fun q => by have := bcells_len m.b; rw [q, h.2.2] at this; cases this) ad e⟩, h.2.2⟩
theorem RS5.cap (h : RS5 w F p AS AC AB cS cC cB ms cs bad left dead) : RS5 w (fun k => F k ∧ k < w.heap.size) p AS AC AB cS cC cB ms cs bad left dead :=
  ⟨⟨h.fp, lt_of_block h.cell⟩, h.cell, h.s, fun ad e => ⟨h.sF ad e, own_lt h.s ad e⟩, fun m hm => (h.held m hm).cap, h.c, fun ad e => ⟨h.cF ad e, own_lt h.c ad e⟩, fun x hx => (h.heldC x hx).cap, h.b, fun ad e => ⟨h.bF ad e, own_lt h.b ad e⟩⟩
theorem RD.keep {d : Dk.D} (h : RD w F p d) (hk : ∀ k, F k → w'.heap[k]? = w.heap[k]?) : RD w' F p d := by
  obtain ⟨AS, AC, AB, cS, cC, cB, ms, cs, r, e1, e2⟩ := h
  exact ⟨AS, AC, AB, cS, cC, cB, ms, cs, r.keep hk, e1, e2⟩
theorem RD.mono {d : Dk.D} (h : RD w F p d) (hF : ∀ k, F k → G k) : RD w G p d := by
  obtain ⟨AS, AC, AB, cS, cC, cB, ms, cs, r, e1, e2⟩ := h
  exact ⟨AS, AC, AB, cS, cC, cB, ms, cs, r.mono hF, e1, e2⟩
theorem RD.cap {d : Dk.D} (h : RD w F p d) : RD w (fun k => F k ∧ k < w.heap.size) p d := by
  obtain ⟨AS, AC, AB, cS, cC, cB, ms, cs, r, e1, e2⟩ := h
  exact ⟨AS, AC, AB, cS, cC, cB, ms, cs, r.cap, e1, e2⟩
/-- Behind a call that touched what isn't F's. -/
theorem RD.but {d : Dk.D} (h : RD w F p d) {B : Nat} (hb : But G B w w') (hB : ∀ k, F k → k < B ∧ ¬ G k) : RD w' F p d := h.keep fun k hk => hb.block k (hB k hk).1 (hB k hk).2
theorem RD.fp {d : Dk.D} (h : RD w F p d) : F p := by
  obtain ⟨_, _, _, _, _, _, _, _, r, _, _⟩ := h
  exact r.fp
end
end Go.Proofs.Ytogobeinckgjmaa
