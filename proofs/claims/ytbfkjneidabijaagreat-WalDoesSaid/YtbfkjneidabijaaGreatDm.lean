/- The document's own Disk in memory. Contracts of the document's own Disk: has, act, Arm, Fault, Read. -/
import Derived.Test.YtbfkjneidabijaaGreatDk
import Derived.Test.YtbfkjneidabijaaGreatTx
import Derived.Test.YtbfkjneidabijaaGreatFp0
import Derived.Test.YtbfkjneidabijaaGreatAp
import Derived.Laws.ShiftsVarLaws
import Derived.BigRegion
namespace Go.Proofs.YtbfkjneidabijaaGreat
open Go.RowKit
set_option maxRecDepth 100000

/-- A write that is cached: where, and its bytes. -/
structure MWr where
  i : Nat
  m : MTx
def MWr.cells (x : MWr) : List Value := [.int .i64 (x.i : Int), x.m.cell]
def wcells (l : List MWr) : List Value := l.flatMap MWr.cells
def wrs (l : List MWr) : List (Nat × List UInt8) := l.map fun x => (x.i, x.m.b)
theorem wcells_len (l : List MWr) : (wcells l).length = l.length * 2 := by
  induction l with
  | nil => rfl
  | cons x l ih => simp only [wcells, List.flatMap_cons, List.length_append, List.length_cons] at ih ⊢; rw [ih]; simp [MWr.cells]; omega
theorem wcells_snoc (l : List MWr) (x : MWr) : wcells (l ++ [x]) = wcells l ++ x.cells := by simp [wcells]
theorem wrs_snoc (l : List MWr) (x : MWr) : wrs (l ++ [x]) = wrs l ++ [(x.i, x.m.b)] := by simp [wrs]
theorem wrs_len (l : List MWr) : (wrs l).length = l.length := by simp [wrs]
theorem wcells_one (l : List MWr) : ∀ u ∈ wcells l, u.oneCell' = true := by
  intro u hu
  simp only [wcells, List.mem_flatMap] at hu
  obtain ⟨x, _, hx⟩ := hu
  simp only [MWr.cells, List.mem_cons, List.not_mem_nil, or_false] at hx
  rcases hx with rfl | rfl <;> rfl
theorem wcells_at {l : List MWr} {k : Nat} {x : MWr} (h : l[k]? = some x) {j : Nat} (hj : j < 2) : (wcells l)[k * 2 + j]? = x.cells[j]? := by
  induction l generalizing k with
  | nil => simp at h
  | cons q l ih =>
    have hq : q.cells.length = 2 := rfl
    cases k with
    | zero =>
      simp only [List.getElem?_cons_zero, Option.some.injEq] at h
      subst h
      simp only [wcells, List.flatMap_cons, Nat.zero_mul, Nat.zero_add]
      rw [List.getElem?_append_left (by omega)]
    | succ k =>
      simp only [List.getElem?_cons_succ] at h
      have := ih h
      simp only [wcells, List.flatMap_cons] at this ⊢
      rw [List.getElem?_append_right (by omega), hq, show (k + 1) * 2 + j - 2 = k * 2 + j by omega]
      exact this

/-- A text that the disk holds: of 64 bytes, in a block of bytes of F. -/
def Held (w : World) (F : Nat → Prop) (m : MTx) : Prop := m.fine w 0 5 ∧ InF F m.A ∧ m.b.length = 64

/-- The document's Disk at block p, as these lists tell it; all its blocks are F's. -/
structure RS5 (w : World) (F : Nat → Prop) (p : Nat) (AS AC AB : Option Addr) (cS cC cB : Nat) (ms : List MTx) (cs : List MWr) (bad : List Bool) (left : Int) (dead : Bool) : Prop where
  fp : F p
  cell : w.heap[p]? = some (.cells #[.slice AS ms.length cS, .slice AC cs.length cC, .slice AB bad.length cB, .int .i64 left, .bool dead] 68 (0, 0))
  s : w.ownsRow 0 57 1 (.slice AS ms.length cS) ms.length (tcells ms)
  sF : InF F AS
  held : ∀ m ∈ ms, Held w F m
  c : w.ownsRow 0 96 2 (.slice AC cs.length cC) cs.length (wcells cs)
  cF : InF F AC
  heldC : ∀ x ∈ cs, Held w F x.m
  b : w.ownsRow 0 4 1 (.slice AB bad.length cB) bad.length (bad.map Value.bool)
  bF : InF F AB
/-- The document's Disk at block p. -/
def RD (w : World) (F : Nat → Prop) (p : Nat) (d : Dk.D) : Prop :=
  ∃ (AS AC AB : Option Addr) (cS cC cB : Nat) (ms : List MTx) (cs : List MWr), RS5 w F p AS AC AB cS cC cB ms cs d.bad d.left d.dead ∧ txs ms = d.s ∧ wrs cs = d.cache

section
variable {w w' : World} {F G : Nat → Prop} {p : Nat} {AS AC AB : Option Addr} {cS cC cB : Nat} {ms : List MTx} {cs : List MWr} {bad : List Bool} {left : Int} {dead : Bool}
theorem Held.keepF {m : MTx} (h : Held w F m) (hk : ∀ k, F k → w'.heap[k]? = w.heap[k]?) : Held w' F m := ⟨⟨h.1.1.keepF h.2.1 hk, h.1.2⟩, h.2⟩
theorem Held.mono {m : MTx} (h : Held w F m) (hF : ∀ k, F k → G k) : Held w G m := ⟨h.1, h.2.1.mono hF, h.2.2⟩
theorem Held.tch {m : MTx} (h : Held w F m) {B : Nat} {ts : List TypeId} (hT : Tch B ts w w') (ht : 5 ∉ ts) : Held w' F m := ⟨⟨h.1.1.keep fun b hb => hb.elim (fun q => absurd q (Nat.not_lt_zero _)) (fun ⟨_, _, r⟩ => hT.typed b _ _ _ r ht), h.1.2⟩, h.2⟩
theorem RS5.keep (h : RS5 w F p AS AC AB cS cC cB ms cs bad left dead) (hk : ∀ k, F k → w'.heap[k]? = w.heap[k]?) : RS5 w' F p AS AC AB cS cC cB ms cs bad left dead :=
  ⟨h.fp, (hk p h.fp).trans h.cell, own_keep h.s (fun k e => hk k (h.sF.row k e)), h.sF, fun m hm => (h.held m hm).keepF hk, own_keep h.c (fun k e => hk k (h.cF.row k e)), h.cF, fun x hx => (h.heldC x hx).keepF hk, own_keep h.b (fun k e => hk k (h.bF.row k e)), h.bF⟩
theorem RS5.mono (h : RS5 w F p AS AC AB cS cC cB ms cs bad left dead) (hF : ∀ k, F k → G k) : RS5 w G p AS AC AB cS cC cB ms cs bad left dead :=
  ⟨hF p h.fp, h.cell, h.s, h.sF.mono hF, fun m hm => (h.held m hm).mono hF, h.c, h.cF.mono hF, fun x hx => (h.heldC x hx).mono hF, h.b, h.bF.mono hF⟩
theorem Held.cap {m : MTx} (h : Held w F m) : Held w (fun k => F k ∧ k < w.heap.size) m :=
  ⟨h.1, fun ad e => ⟨h.2.1 ad e, h.1.1.ltF (fun q => by have := bcells_len m.b; rw [q, h.2.2] at this; cases this) ad e⟩, h.2.2⟩
theorem RS5.cap (h : RS5 w F p AS AC AB cS cC cB ms cs bad left dead) : RS5 w (fun k => F k ∧ k < w.heap.size) p AS AC AB cS cC cB ms cs bad left dead :=
  ⟨⟨h.fp, lt_of_block h.cell⟩, h.cell, h.s, fun ad e => ⟨h.sF ad e, own_lt h.s ad e⟩, fun m hm => (h.held m hm).cap, h.c, fun ad e => ⟨h.cF ad e, own_lt h.c ad e⟩, fun x hx => (h.heldC x hx).cap, h.b, fun ad e => ⟨h.bF ad e, own_lt h.b ad e⟩⟩
theorem RD.keep {d : Dk.D} (h : RD w F p d) (hk : ∀ k, F k → w'.heap[k]? = w.heap[k]?) : RD w' F p d := by
  obtain ⟨AS, AC, AB, cS, cC, cB, ms, cs, r, e1, e2⟩ := h
  exact ⟨AS, AC, AB, cS, cC, cB, ms, cs, r.keep hk, e1, e2⟩
theorem RD.mono {d : Dk.D} (h : RD w F p d) (hF : ∀ k, F k → G k) : RD w G p d := by
  obtain ⟨AS, AC, AB, cS, cC, cB, ms, cs, r, e1, e2⟩ := h
  exact ⟨AS, AC, AB, cS, cC, cB, ms, cs, r.mono hF, e1, e2⟩
theorem RD.cap {d : Dk.D} (h : RD w F p d) : RD w (fun k => F k ∧ k < w.heap.size) p d := by
  obtain ⟨AS, AC, AB, cS, cC, cB, ms, cs, r, e1, e2⟩ := h
  exact ⟨AS, AC, AB, cS, cC, cB, ms, cs, r.cap, e1, e2⟩
/-- Behind a call that touched what isn't F's. -/
theorem RD.but {d : Dk.D} (h : RD w F p d) {B : Nat} (hb : But G B w w') (hB : ∀ k, F k → k < B ∧ ¬ G k) : RD w' F p d := h.keep fun k hk => hb.block k (hB k hk).1 (hB k hk).2
theorem RD.fp {d : Dk.D} (h : RD w F p d) : F p := by
  obtain ⟨_, _, _, _, _, _, _, _, r, _, _⟩ := h
  exact r.fp
end

section
variable {w w' : World} {F : Nat → Prop} {p : Nat} {AS AC AB : Option Addr} {cS cC cB : Nat} {ms : List MTx} {cs : List MWr} {bad : List Bool} {left : Int} {dead : Bool}
/-- Only the block p has turned. -/
theorem own_off {w w' : World} {base : Nat} {e t : TypeId} {size n : Nat} {v : Value} {xs : List Value} {o : Array Value} {fr : Nat × Nat} (h : w.ownsRow base e size v n xs) (hp : w.heap[p]? = some (.cells o t fr)) (ht : e ≠ t) (hk : ∀ k, k ≠ p → w'.heap[k]? = w.heap[k]?) : w'.ownsRow base e size v n xs :=
  own_keep h fun k q => hk k (by
    obtain ⟨_, _, _, r⟩ := own_row h k q
    exact blk_ne r hp ht)
theorem Held.off {m : MTx} {t : TypeId} {o : Array Value} {fr : Nat × Nat} (h : Held w F m) (hp : w.heap[p]? = some (.cells o t fr)) (ht : 5 ≠ t) (hk : ∀ k, k ≠ p → w'.heap[k]? = w.heap[k]?) : Held w' F m :=
  ⟨⟨h.1.1.keep fun b hb => hb.elim (fun q => absurd q (Nat.not_lt_zero _)) (fun ⟨_, _, r⟩ => hk b (blk_ne r hp ht)), h.1.2⟩, h.2⟩
/-- The last two fields anew. -/
theorem RS5.reset (h : RS5 w F p AS AC AB cS cC cB ms cs bad left dead) {left' : Int} {dead' : Bool}
    (hp : w'.heap[p]? = some (.cells #[.slice AS ms.length cS, .slice AC cs.length cC, .slice AB bad.length cB, .int .i64 left', .bool dead'] 68 (0, 0))) (hk : ∀ k, k ≠ p → w'.heap[k]? = w.heap[k]?) : RS5 w' F p AS AC AB cS cC cB ms cs bad left' dead' :=
  ⟨h.fp, hp, own_off h.s h.cell (by decide) hk, h.sF, fun m hm => (h.held m hm).off h.cell (by decide) hk, own_off h.c h.cell (by decide) hk, h.cF, fun x hx => (h.heldC x hx).off h.cell (by decide) hk, own_off h.b h.cell (by decide) hk, h.bF⟩
/-- The same, and nothing cached. -/
theorem RS5.drop (h : RS5 w F p AS AC AB cS cC cB ms cs bad left dead) {left' : Int} {dead' : Bool}
    (hp : w'.heap[p]? = some (.cells #[.slice AS ms.length cS, .slice none 0 0, .slice AB bad.length cB, .int .i64 left', .bool dead'] 68 (0, 0))) (hk : ∀ k, k ≠ p → w'.heap[k]? = w.heap[k]?) : RS5 w' F p AS none AB cS 0 cB ms [] bad left' dead' :=
  ⟨h.fp, hp, own_off h.s h.cell (by decide) hk, h.sF, fun m hm => (h.held m hm).off h.cell (by decide) hk, World.ownsRow_nil _ _ _ _, InF.none, by simp, own_off h.b h.cell (by decide) hk, h.bF⟩
theorem RS5.fields (h : RS5 w F p AS AC AB cS cC cB ms cs bad left dead) :
    w.cell? ⟨p, 0, none⟩ = some (.slice AS ms.length cS) ∧ w.cell? ⟨p, 1, none⟩ = some (.slice AC cs.length cC) ∧ w.cell? ⟨p, 2, none⟩ = some (.slice AB bad.length cB) ∧ w.cell? ⟨p, 3, none⟩ = some (.int .i64 left) ∧ w.cell? ⟨p, 4, none⟩ = some (.bool dead) ∧ (∀ j, w.frozen? ⟨p, j, none⟩ = false) := by
  have q := h.cell
  refine ⟨?_, ?_, ?_, ?_, ?_, fun j => blk_free q j⟩ <;> simp [World.cell?, q]
theorem set_off {u : Value} {i : Nat} : ∀ k, k ≠ p → (w.setCell ⟨p, i, none⟩ u).heap[k]? = w.heap[k]? := fun _ hk => Below.heap_setCell _ _ _ _ hk
end

/-- What a method of the document's Disk that answers an error's number leaves. -/
def DiskOk (F : Nat → Prop) (p : Nat) (er : Int) (d : Dk.D) (w : World) (e : Ending) (w' : World) : Prop := e = .returned (.int .i64 er) ∧ RD w' (Up F w.heap.size) p d ∧ But F w.heap.size w w'
/-- Of one that answers nothing. -/
def DiskOk0 (F : Nat → Prop) (p : Nat) (d : Dk.D) (w : World) (e : Ending) (w' : World) : Prop := e = .returned (.tuple #[]) ∧ RD w' (Up F w.heap.size) p d ∧ But F w.heap.size w w'

theorem up_self {F : Nat → Prop} {B : Nat} : ∀ k, F k → Up F B k := fun _ h => Or.inl h

set_option maxHeartbeats 1000000 in
theorem refHas_c {w : World} {F : Nat → Prop} {p : Nat} {d : Dk.D} (h : RD w F p d) (i : Int) :
    Calls Tryz.prog 52 #[.pointer (some ⟨p, 0, none⟩), .int .i64 i] w fun e w' => e = .returned (.bool (Dk.has d i)) ∧ w = w' := by
  obtain ⟨AS, AC, AB, cS, cC, cB, ms, cs, r, e1, _⟩ := h
  have c0 := r.fields.1
  have hl : (d.s.length : Int) = (ms.length : Int) := by rw [← e1, txs_len]
  clear r e1
  have E : Hid (Dk.has d i = (decide (0 ≤ i) && decide (i < (ms.length : Int)))) := by unfold Hid Dk.has; rw [hl]
  clear hl
  by_cases h0 : 0 ≤ i
  · by_cases h1 : i < (ms.length : Int)
    · go_enter Tryz.func52, Tryz.ntmps52
      go_wp2
      go_ret
      exact ⟨ret_bool (by rw [E.out]; simp; omega), rfl⟩
    · go_enter Tryz.func52, Tryz.ntmps52
      go_wp2
      go_ret
      exact ⟨ret_bool (by rw [E.out]; simp; omega), rfl⟩
  · go_enter Tryz.func52, Tryz.ntmps52
    go_wp2
    go_ret
    exact ⟨ret_bool (by rw [E.out]; simp; omega), rfl⟩

set_option maxHeartbeats 1000000 in
theorem refAct_c {w : World} {F : Nat → Prop} {p : Nat} {d : Dk.D} (h : RD w F p d) (hd : d.ok) (hl : d.left ≤ 9223372036854775807) :
    Calls Tryz.prog 53 #[.pointer (some ⟨p, 0, none⟩)] w (DiskOk F p (Dk.act d).1 (Dk.act d).2 w) := by
  obtain ⟨AS, AC, AB, cS, cC, cB, ms, cs, r, e1, e2⟩ := h
  obtain ⟨_, _, _, c3, c4, fz⟩ := r.fields
  have R := Lib.hid r
  have E1 := Lib.hid e1
  have E2 := Lib.hid e2
  have ll := hd.left
  have f3 := fz 3
  have f4 := fz 4
  have fp := r.fp
  clear r e1 e2 hd fz
  have dead_end : ∀ (he : Dk.act d = (50, { d with dead := true })), DiskOk F p (Dk.act d).1 (Dk.act d).2 w (.returned (.int .i64 50)) (w.setCell ⟨p, 4, none⟩ (.bool true)) := fun he => by
    rw [he]
    refine ⟨rfl, ⟨AS, AC, AB, cS, cC, cB, ms, cs, (R.out.reset ?_ set_off).mono up_self, E1.out, E2.out⟩, (But.refl _ _ _).setCell (Or.inl fp) _⟩
    rw [blk_set R.out.cell]; rfl
  have DE := Lib.hid dead_end
  clear dead_end
  cases hdd : d.dead
  · rw [hdd] at c4 R
    by_cases h0 : d.left = 0
    · have he : Dk.act d = (50, { d with dead := true }) := by unfold Dk.act; rw [if_pos (Or.inr h0)]
      have HE := Lib.hid he
      rw [h0] at c3
      clear he hdd h0
      go_enter Tryz.func53, Tryz.ntmps53
      go_wp2
      go_ret
      exact DE.out HE.out
    · by_cases h1 : 0 < d.left
      · have he : Dk.act d = (0, { d with left := d.left - 1 }) := by unfold Dk.act; rw [if_neg (by rw [hdd]; simp [h0]), if_pos h1]
        have HE := Lib.hid he
        have HDD := Lib.hid hdd
        clear he hdd DE
        have q0 : (d.left == 0) = false := by simpa using h0
        go_enter Tryz.func53, Tryz.ntmps53
        go_wp2
        go_ret
        rw [HE.out]
        refine ⟨rfl, ⟨AS, AC, AB, cS, cC, cB, ms, cs, (RS5.reset R.out (left' := d.left - 1) (dead' := d.dead) ?_ set_off).mono up_self, E1.out, E2.out⟩, (But.refl _ _ _).setCell (Or.inl fp) _⟩
        rw [blk_set R.out.cell, HDD.out]; rfl
      · have he : Dk.act d = (0, d) := by unfold Dk.act; rw [if_neg (by rw [hdd]; simp [h0]), if_neg h1]
        have HE := Lib.hid he
        have HDD := Lib.hid hdd
        clear he hdd DE
        have q0 : (d.left == 0) = false := by simpa using h0
        go_enter Tryz.func53, Tryz.ntmps53
        go_wp2
        go_ret
        rw [HE.out]
        refine ⟨rfl, ⟨AS, AC, AB, cS, cC, cB, ms, cs, ?_, E1.out, E2.out⟩, But.refl _ _ _⟩
        rw [HDD.out]
        exact R.out.mono up_self
  · rw [hdd] at c4
    have he : Dk.act d = (50, { d with dead := true }) := by unfold Dk.act; rw [if_pos (Or.inl hdd)]
    have HE := Lib.hid he
    clear he hdd
    go_enter Tryz.func53, Tryz.ntmps53
    go_wp2
    go_ret
    exact DE.out HE.out

set_option maxHeartbeats 1000000 in
theorem refArm_c {w : World} {F : Nat → Prop} {p : Nat} {d : Dk.D} (h : RD w F p d) (n : Int) :
    Calls Tryz.prog 20 #[.pointer (some ⟨p, 0, none⟩), .int .i64 n] w (DiskOk0 F p (Dk.arm d n) w) := by
  obtain ⟨AS, AC, AB, cS, cC, cB, ms, cs, r, e1, e2⟩ := h
  obtain ⟨_, _, _, c3, _, fz⟩ := r.fields
  have R := Lib.hid r
  have E1 := Lib.hid e1
  have E2 := Lib.hid e2
  have f3 := fz 3
  have fp := r.fp
  clear r e1 e2 fz
  by_cases h0 : 0 ≤ n
  · have he : Dk.arm d n = { d with left := n } := by unfold Dk.arm; rw [if_pos h0]
    have HE := Lib.hid he
    clear he
    go_enter Tryz.func20, Tryz.ntmps20
    go_wp2
    go_end0
    rw [HE.out]
    refine ⟨rfl, ⟨AS, AC, AB, cS, cC, cB, ms, cs, (RS5.reset R.out (left' := n) (dead' := d.dead) ?_ ?_).mono up_self, E1.out, E2.out⟩, ((But.refl _ _ _).setCell (Or.inl fp) _).setCell (Or.inl fp) _⟩
    · rw [blk_set (blk_set R.out.cell 3 _)]; rfl
    · exact fun k hk => (set_off k hk).trans (set_off k hk)
  · have he : Dk.arm d n = { d with left := -1 } := by unfold Dk.arm; rw [if_neg h0]
    have HE := Lib.hid he
    clear he
    go_enter Tryz.func20, Tryz.ntmps20
    go_wp2
    go_end0
    rw [HE.out]
    refine ⟨rfl, ⟨AS, AC, AB, cS, cC, cB, ms, cs, (RS5.reset R.out (left' := -1) (dead' := d.dead) ?_ set_off).mono up_self, E1.out, E2.out⟩, (But.refl _ _ _).setCell (Or.inl fp) _⟩
    rw [blk_set R.out.cell]; rfl
end Go.Proofs.YtbfkjneidabijaaGreat
