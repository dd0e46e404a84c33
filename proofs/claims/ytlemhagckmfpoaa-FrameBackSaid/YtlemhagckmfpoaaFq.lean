/- The laws of frame: contract of their own awake; the law FramePuts: the walk. -/
import Derived.Test.YtlemhagckmfpoaaFp
import Derived.Lib.SlBytesConst
import Derived.RegionTactic
import Derived.IntWalk
namespace Go.Proofs.Ytlemhagckmfpoaa
open Go.RowKit

set_option maxHeartbeats 1000000 in
theorem awake4_c (w : World) :
    Calls Try.prog 7 #[] w fun e w' => e = .returned (.bool true) ∧ Below w.heap.size w w' := by
  have hL := Lies.of_blk (B := 0) (heap_alloc_new w (.cells (bcells [97]).toArray 5 (1, 2)))
  have HL := Lib.hid hL
  clear hL
  have kc := fun (w : World) (C : Array Value) (n c : Nat) => Lib.run_convert_bytes_const (P := Try.prog) w 22 5 C n c Try.underlying22 Try.underlying5
  go_enter Try.func7, Try.ntmps7
  go_wp2_with fail
  refine (fput_ok (b := [97]) HL.out rfl (by decide)).mono ?_
  rintro e w1 ⟨A, n, c, rfl, rfl, hnc, ho, hb⟩
  have HB := Lib.hid (((Below.refl w.heap.size w).alloc (Nat.le_refl _) _).trans (hb.mono (by simp)))
  obtain ⟨g, rfl, _, _, hcell, _⟩ := own_at ho (by decide)
  have c0 : w1.cell? ⟨g, 0, none⟩ = some (.int .u8 165) := hcell 0 _ rfl
  have c2 : w1.cell? ⟨g, 2, none⟩ = some (.int .u8 1) := hcell 2 _ rfl
  have c3 : w1.cell? ⟨g, 3, none⟩ = some (.int .u8 97) := hcell 3 _ rfl
  clear hcell ho hb kc
  have hl : (Fr.frame [97]).length = 8 := Fr.frame_len [97]
  rw [hl]
  clear hnc
  go_wp2
  go_ret
  exact ⟨rfl, HB.out⟩
end Go.Proofs.Ytlemhagckmfpoaa
