/- Contracts of the document's own Disk: has, act, Arm, Fault, Read. -/
import Derived.Test.YtogobeinckgjmaaDm
import Derived.Laws.ShiftsVarLaws
import Derived.BigRegion
namespace Go.Proofs.Ytogobeinckgjmaa
open Go.RowKit

section
variable {w w' : World} {F : Nat → Prop} {p : Nat} {AS AC AB : Option Addr} {cS cC cB : Nat} {ms : List MTx} {cs : List MWr} {bad : List Bool} {left : Int} {dead : Bool}
/-- Only the block p has turned. -/
theorem own_off {w w' : World} {base : Nat} {e t : TypeId} {size n : Nat} {v : Value} {xs : List Value} {o : Array Value} {fr : Nat × Nat} (h : w.ownsRow base e size v n xs) (hp : w.heap[p]? = some (.cells o t fr)) (ht : e ≠ t) (hk : ∀ k, k ≠ p → w'.heap[k]? = w.heap[k]?) : w'.ownsRow base e size v n xs :=
  own_keep h fun k q => hk k (by
    obtain ⟨_, _, _, r⟩ := own_row h k q
    exact blk_ne r hp ht)
theorem Held.off {m : MTx} {t : TypeId} {o : Array Value} {fr : Nat × Nat} (h : Held w F m) (hp : w.heap[p]? = some (.cells o t fr)) (ht : 5 ≠ t) (hk : ∀ k, k ≠ p → w'.heap[k]? = w.heap[k]?) : Held w' F m :=
  ⟨⟨h.1.1.keep fun b hb => hb.elim (fun q => absurd q (Nat.not_lt_zero _)) (fun ⟨_, _, r⟩ => hk b (blk_ne r hp ht)), h.1.2⟩, h.2⟩
/-- The last two fields anew. -/
theorem RS5.reset (h : RS5 w F p AS AC AB cS cC cB ms cs bad left dead) {left' : Int} {dead' : Bool}
    (hp : w'.heap[p]? = some (.cells #[.slice AS ms.length cS, .slice AC cs.length cC, .slice AB bad.length cB, .int .i64 left', .bool dead'] 51 (0, 0))) (hk : ∀ k, k ≠ p → w'.heap[k]? = w.heap[k]?) : RS5 w' F p AS AC AB cS cC cB ms cs bad left' dead' :=
  ⟨h.fp, hp, own_off h.s h.cell (by decide) hk, h.sF, fun m hm => (h.held m hm).off h.cell (by decide) hk, own_off h.c h.cell (by decide) hk, h.cF, fun x hx => (h.heldC x hx).off h.cell (by decide) hk, own_off h.b h.cell (by decide) hk, h.bF⟩
/-- The same, and nothing cached. -/
theorem RS5.drop (h : RS5 w F p AS AC AB cS cC cB ms cs bad left dead) {left' : Int} {dead' : Bool}
    (hp : w'.heap[p]? = some (.cells #[.slice AS ms.length cS, .slice none 0 0, .slice AB bad.length cB, .int .i64 left', .bool dead'] 51 (0, 0))) (hk : ∀ k, k ≠ p → w'.heap[k]? = w.heap[k]?) : RS5 w' F p AS none AB cS 0 cB ms [] bad left' dead' :=
  ⟨h.fp, hp, own_off h.s h.cell (by decide) hk, h.sF, fun m hm => (h.held m hm).off h.cell (by decide) hk, World.ownsRow_nil _ _ _ _, InF.none, by simp, own_off h.b h.cell (by decide) hk, h.bF⟩
theorem RS5.fields (h : RS5 w F p AS AC AB cS cC cB ms cs bad left dead) :
    w.cell? ⟨p, 0, none⟩ = some (.slice AS ms.length cS) ∧ w.cell? ⟨p, 1, none⟩ = some (.slice AC cs.length cC) ∧ w.cell? ⟨p, 2, none⟩ = some (.slice AB bad.length cB) ∧ w.cell? ⟨p, 3, none⟩ = some (.int .i64 left) ∧ w.cell? ⟨p, 4, none⟩ = some (.bool dead) ∧ (∀ j, w.frozen? ⟨p, j, none⟩ = false) := by
  have q := h.cell
  refine ⟨?_, ?_, ?_, ?_, ?_, fun j => blk_free q j⟩ <;> simp [World.cell?, q]
theorem set_off {u : Value} {i : Nat} : ∀ k, k ≠ p → (w.setCell ⟨p, i, none⟩ u).heap[k]? = w.heap[k]? := fun _ hk => Below.heap_setCell _ _ _ _ hk
end

/-- What a method of the document's Disk that answers an error's number leaves. -/
def DiskOk (F : Nat → Prop) (p : Nat) (er : Int) (d : Dk.D) (w : World) (e : Ending) (w' : World) : Prop := e = .returned (.int .i64 er) ∧ RD w' (Up F w.heap.size) p d ∧ But F w.heap.size w w'
/-- Of one that answers nothing. -/
def DiskOk0 (F : Nat → Prop) (p : Nat) (d : Dk.D) (w : World) (e : Ending) (w' : World) : Prop := e = .returned (.tuple #[]) ∧ RD w' (Up F w.heap.size) p d ∧ But F w.heap.size w w'

theorem up_self {F : Nat → Prop} {B : Nat} : ∀ k, F k → Up F B k := fun _ h => Or.inl h

set_option maxHeartbeats 1000000 in
theorem refHas_c {w : World} {F : Nat → Prop} {p : Nat} {d : Dk.D} (h : RD w F p d) (i : Int) :
    Calls Try.prog 32 #[.pointer (some ⟨p, 0, none⟩), .int .i64 i] w fun e w' => e = .returned (.bool (Dk.has d i)) ∧ w = w' := by
  obtain ⟨AS, AC, AB, cS, cC, cB, ms, cs, r, e1, _⟩ := h
  have c0 := r.fields.1
  have hl : (d.s.length : Int) = (ms.length : Int) := by rw [← e1, txs_len]
  clear r e1
  have E : Hid (Dk.has d i = (decide (0 ≤ i) && decide (i < (ms.length : Int)))) := by unfold Hid Dk.has; rw [hl]
  clear hl
  by_cases h0 : 0 ≤ i
  · by_cases h1 : i < (ms.length : Int)
    · go_enter Try.func32, Try.ntmps32
      go_wp2
      go_ret
      exact ⟨ret_bool (by rw [E.out]; simp; omega), rfl⟩
    · go_enter Try.func32, Try.ntmps32
      go_wp2
      go_ret
      exact ⟨ret_bool (by rw [E.out]; simp; omega), rfl⟩
  · go_enter Try.func32, Try.ntmps32
    go_wp2
    go_ret
    exact ⟨ret_bool (by rw [E.out]; simp; omega), rfl⟩

set_option maxHeartbeats 1000000 in
theorem refAct_c {w : World} {F : Nat → Prop} {p : Nat} {d : Dk.D} (h : RD w F p d) (hd : d.ok) (hl : d.left ≤ 9223372036854775807) :
    Calls Try.prog 33 #[.pointer (some ⟨p, 0, none⟩)] w (DiskOk F p (Dk.act d).1 (Dk.act d).2 w) := by
  obtain ⟨AS, AC, AB, cS, cC, cB, ms, cs, r, e1, e2⟩ := h
  obtain ⟨_, _, _, c3, c4, fz⟩ := r.fields
  have R := Lib.hid r
  have E1 := Lib.hid e1
  have E2 := Lib.hid e2
  have ll := hd.left
  have f3 := fz 3
  have f4 := fz 4
  have fp := r.fp
  clear r e1 e2 hd fz
  have dead_end : ∀ (he : Dk.act d = (50, { d with dead := true })), DiskOk F p (Dk.act d).1 (Dk.act d).2 w (.returned (.int .i64 50)) (w.setCell ⟨p, 4, none⟩ (.bool true)) := fun he => by
    rw [he]
    refine ⟨rfl, ⟨AS, AC, AB, cS, cC, cB, ms, cs, (R.out.reset ?_ set_off).mono up_self, E1.out, E2.out⟩, (But.refl _ _ _).setCell (Or.inl fp) _⟩
    rw [blk_set R.out.cell]; rfl
  have DE := Lib.hid dead_end
  clear dead_end
  cases hdd : d.dead
  · rw [hdd] at c4 R
    by_cases h0 : d.left = 0
    · have he : Dk.act d = (50, { d with dead := true }) := by unfold Dk.act; rw [if_pos (Or.inr h0)]
      have HE := Lib.hid he
      rw [h0] at c3
      clear he hdd h0
      go_enter Try.func33, Try.ntmps33
      go_wp2
      go_ret
      exact DE.out HE.out
    · by_cases h1 : 0 < d.left
      · have he : Dk.act d = (0, { d with left := d.left - 1 }) := by unfold Dk.act; rw [if_neg (by rw [hdd]; simp [h0]), if_pos h1]
        have HE := Lib.hid he
        have HDD := Lib.hid hdd
        clear he hdd DE
        have q0 : (d.left == 0) = false := by simpa using h0
        go_enter Try.func33, Try.ntmps33
        go_wp2
        go_ret
        rw [HE.out]
        refine ⟨rfl, ⟨AS, AC, AB, cS, cC, cB, ms, cs, (RS5.reset R.out (left' := d.left - 1) (dead' := d.dead) ?_ set_off).mono up_self, E1.out, E2.out⟩, (But.refl _ _ _).setCell (Or.inl fp) _⟩
        rw [blk_set R.out.cell, HDD.out]; rfl
      · have he : Dk.act d = (0, d) := by unfold Dk.act; rw [if_neg (by rw [hdd]; simp [h0]), if_neg h1]
        have HE := Lib.hid he
        have HDD := Lib.hid hdd
        clear he hdd DE
        have q0 : (d.left == 0) = false := by simpa using h0
        go_enter Try.func33, Try.ntmps33
        go_wp2
        go_ret
        rw [HE.out]
        refine ⟨rfl, ⟨AS, AC, AB, cS, cC, cB, ms, cs, ?_, E1.out, E2.out⟩, But.refl _ _ _⟩
        rw [HDD.out]
        exact R.out.mono up_self
  · rw [hdd] at c4
    have he : Dk.act d = (50, { d with dead := true }) := by unfold Dk.act; rw [if_pos (Or.inl hdd)]
    have HE := Lib.hid he
    clear he hdd
    go_enter Try.func33, Try.ntmps33
    go_wp2
    go_ret
    exact DE.out HE.out

set_option maxHeartbeats 1000000 in
theorem refArm_c {w : World} {F : Nat → Prop} {p : Nat} {d : Dk.D} (h : RD w F p d) (n : Int) :
    Calls Try.prog 18 #[.pointer (some ⟨p, 0, none⟩), .int .i64 n] w (DiskOk0 F p (Dk.arm d n) w) := by
  obtain ⟨AS, AC, AB, cS, cC, cB, ms, cs, r, e1, e2⟩ := h
  obtain ⟨_, _, _, c3, _, fz⟩ := r.fields
  have R := Lib.hid r
  have E1 := Lib.hid e1
  have E2 := Lib.hid e2
  have f3 := fz 3
  have fp := r.fp
  clear r e1 e2 fz
  by_cases h0 : 0 ≤ n
  · have he : Dk.arm d n = { d with left := n } := by unfold Dk.arm; rw [if_pos h0]
    have HE := Lib.hid he
    clear he
    go_enter Try.func18, Try.ntmps18
    go_wp2
    go_end0
    rw [HE.out]
    refine ⟨rfl, ⟨AS, AC, AB, cS, cC, cB, ms, cs, (RS5.reset R.out (left' := n) (dead' := d.dead) ?_ ?_).mono up_self, E1.out, E2.out⟩, ((But.refl _ _ _).setCell (Or.inl fp) _).setCell (Or.inl fp) _⟩
    · rw [blk_set (blk_set R.out.cell 3 _)]; rfl
    · exact fun k hk => (set_off k hk).trans (set_off k hk)
  · have he : Dk.arm d n = { d with left := -1 } := by unfold Dk.arm; rw [if_neg h0]
    have HE := Lib.hid he
    clear he
    go_enter Try.func18, Try.ntmps18
    go_wp2
    go_end0
    rw [HE.out]
    refine ⟨rfl, ⟨AS, AC, AB, cS, cC, cB, ms, cs, (RS5.reset R.out (left' := -1) (dead' := d.dead) ?_ set_off).mono up_self, E1.out, E2.out⟩, (But.refl _ _ _).setCell (Or.inl fp) _⟩
    rw [blk_set R.out.cell]; rfl
end Go.Proofs.Ytogobeinckgjmaa
