/- Contracts of the document's own Disk: Wipe. -/
import Derived.Test.YtogobeinckgjmaaDi
namespace Go.Proofs.Ytogobeinckgjmaa
open Go.RowKit

theorem new_len {n : Nat} (h : n ≤ 4096) : Dk.new (n : Int) = Dk.fresh n := by
  unfold Dk.new Dk.count
  rw [Int.toNat_natCast, Nat.min_eq_left h]

/-- The disk of block q, put into block p. -/
theorem RS5.moved {w w' : World} {F G : Nat → Prop} {p q : Nat} {AS AC AB : Option Addr} {cS cC cB : Nat} {ms : List MTx} {cs : List MWr} {bad : List Bool} {left : Int} {dead : Bool} (h : RS5 w G q AS AC AB cS cC cB ms cs bad left dead)
    (hp : w'.heap[p]? = some (.cells #[.slice AS ms.length cS, .slice AC cs.length cC, .slice AB bad.length cB, .int .i64 left, .bool dead] 51 (0, 0))) (hk : ∀ k, k ≠ p → w'.heap[k]? = w.heap[k]?) (hG : ¬ G p) (hF : F p) (hGF : ∀ k, G k → F k) : RS5 w' F p AS AC AB cS cC cB ms cs bad left dead :=
  have hh : ∀ k, G k → w'.heap[k]? = w.heap[k]? := fun k g => hk k (fun e => hG (e ▸ g))
  ⟨hF, hp, own_keep h.s (fun k e => hh k (h.sF.row k e)), h.sF.mono hGF, fun m hm => ((h.held m hm).keepF hh).mono hGF, own_keep h.c (fun k e => hh k (h.cF.row k e)), h.cF.mono hGF, fun x hx => ((h.heldC x hx).keepF hh).mono hGF, own_keep h.b (fun k e => hh k (h.bF.row k e)), h.bF.mono hGF⟩

set_option maxHeartbeats 2000000 in
theorem refWipe_c {w : World} {F : Nat → Prop} {p : Nat} {d : Dk.D} (h : RD w F p d) (hd : d.ok) :
    Calls Try.prog 24 #[.pointer (some ⟨p, 0, none⟩)] w (DiskOk0 F p (Dk.wipe d) w) := by
  have hf := hd.few
  obtain ⟨AS, AC, AB, cS, cC, cB, ms, cs, r, e1, e2⟩ := h
  have c0 := r.fields.1
  have hml : ms.length = d.s.length := by rw [← e1, txs_len]
  have NW := Lib.hid (show Dk.new (ms.length : Int) = Dk.wipe d by rw [hml]; exact new_len hf)
  have hm : (ms.length : Int) ≤ 9223372036854775807 := by omega
  have R := Lib.hid r
  have plt := lt_of_block r.cell
  clear r e1 e2 hd hf hml
  go_enter Try.func24, Try.ntmps24
  go_wp2_with fail
  refine (refNewDisk_c _ _ hm).mono ?_
  rw [NW.out]
  rintro e w1 ⟨q, rfl, hq, hb1⟩
  obtain ⟨AS1, AC1, AB1, cS1, cC1, cB1, ms1, cs1, r1, e3, e4⟩ := hq
  have fd := five r1.cell
  have hp1 := (hb1.block p plt).trans R.out.cell
  have fz := five hp1
  have z0 := fz.2.2.2.2.2 0
  have z1 := fz.2.2.2.2.2 1
  have z2 := fz.2.2.2.2.2 2
  have z3 := fz.2.2.2.2.2 3
  have z4 := fz.2.2.2.2.2 4
  have f0 := fd.1
  have f1 := fd.2.1
  have f2 := fd.2.2.1
  have f3 := fd.2.2.2.1
  have f4 := fd.2.2.2.2.1
  have R1 := Lib.hid r1
  have E3 := Lib.hid e3
  have E4 := Lib.hid e4
  have HB1 := Lib.hid hb1
  have HP1 := Lib.hid hp1
  have p0 := fz.1
  have p1 := fz.2.1
  have p2 := fz.2.2.1
  have p3 := fz.2.2.2.1
  have p4 := fz.2.2.2.2.1
  clear fd fz r1 e3 e4 hb1 hp1 c0 hm
  go_wp2
  go_end0
  refine ⟨rfl, ⟨AS1, AC1, AB1, cS1, cC1, cB1, ms1, cs1, R1.out.moved ?_ ?_ (by omega) (Or.inl R.out.fp) (fun k g => Or.inr g), E3.out, E4.out⟩, (((((But.of_below HB1.out F).setCell (Or.inl R.out.fp) _).setCell (Or.inl R.out.fp) _).setCell (Or.inl R.out.fp) _).setCell (Or.inl R.out.fp) _).setCell (Or.inl R.out.fp) _⟩
  · rw [blk_set (blk_set (blk_set (blk_set (blk_set HP1.out 0 _) 1 _) 2 _) 3 _) 4 _]; rfl
  · exact fun k hk => (set_off k hk).trans ((set_off k hk).trans ((set_off k hk).trans ((set_off k hk).trans (set_off k hk))))
end Go.Proofs.Ytogobeinckgjmaa
