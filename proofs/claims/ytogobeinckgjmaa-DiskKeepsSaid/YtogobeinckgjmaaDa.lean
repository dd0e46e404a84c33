/- Stage 5: chapter 5's examples. -/
import Derived.Test.YtogobeinckgjmaaDs
import Derived.Test.YtogobeinckgjmaaDd
import Derived.Lib.SlBytesConst
import Derived.RegionTactic
import Derived.IntWalk
namespace Go.Proofs.Ytogobeinckgjmaa
open Go.RowKit

set_option maxHeartbeats 4000000 in
set_option maxRecDepth 100000 in
theorem awake5 (w : World) : Calls Try.prog 7 #[] w fun e w' => e = .returned (.bool true) ∧ Below w.heap.size w w' := by
  have kc := fun (w : World) (C : Array Value) (n c : Nat) => Lib.run_convert_bytes_const (P := Try.prog) w 29 5 C n c Try.underlying29 Try.underlying5
  have O0 := Lib.hid (Dk.new_ok 2)
  have O1 := Lib.hid (Dk.write_ok (Dk.new_ok 2) 0 [97])
  have O2 := Lib.hid (Dk.write_ok O1.out 1 [98])
  have O3 := Lib.hid (Dk.crash_ok O2.out [false, true])
  go_enter Try.func7, Try.ntmps7
  go_wp2_with fail
  refine (cdNew_c _ _ (by decide)).mono ?_
  intro e w1 hp
  obtain ⟨q, G1, rfl, hs1, _, hb1⟩ := CNewOk.step (Nat.le_refl _) hp
  have S1 := Lib.hid hs1
  have B1 := Lib.hid hb1
  clear hp hs1 hb1
  go_wp2_with fail
  have S1a := Lib.hid (S1.out.keep ((Below.refl w1.heap.size w1).alloc (Nat.le_refl _) (.cells (bcells [97]).toArray 5 (1, 2))))
  have z1 := B1.out.size
  refine (cdWrite_c (b := [97]) S1a.out.cd O0.out (by decide) (by decide) (Lies.of_blk (B := 0) (heap_alloc_new w1 _)) (S1.out.far _) rfl (by decide) (by decide) 0).mono ?_
  intro e w2 hp
  obtain ⟨rfl, G2, hs2⟩ := CdOk.step S1a.out (by simp; omega) hp
  have S2 := Lib.hid hs2
  have B2 := Lib.hid ((B1.out.alloc z1 _).trans hs2.below)
  have z2 := B2.out.size
  clear hp hs2
  rw [show (Dk.write (Dk.new 2) 0 [97]).1 = 0 from rfl]
  go_wp2_with fail
  have S2a := Lib.hid (S2.out.cs.keep ((Below.refl w2.heap.size w2).alloc (Nat.le_refl _) (.cells (bcells [98]).toArray 5 (1, 2))))
  refine (cdWrite_c (b := [98]) S2a.out.cd O1.out (by decide) (by decide) (Lies.of_blk (B := 0) (heap_alloc_new w2 _)) (S2.out.cs.far _) rfl (by decide) (by decide) 1).mono ?_
  intro e w3 hp
  obtain ⟨rfl, G3, hs3⟩ := CdOk.step S2a.out (by simp; omega) hp
  have S3 := Lib.hid hs3
  have B3 := Lib.hid ((B2.out.alloc z2 _).trans hs3.below)
  have z3 := B3.out.size
  clear hp hs3
  rw [show (Dk.write (Dk.write (Dk.new 2) 0 [97]).2 1 [98]).1 = 0 from rfl]
  go_wp2_with fail
  have S3a := Lib.hid (S3.out.cs.keep ((Below.refl w3.heap.size w3).alloc (Nat.le_refl _) (.cells #[.bool false, .bool true] 4)))
  refine (cdCrash_c (ks := [false, true]) S3a.out.cd O2.out (by decide) (Lies.of_blk (B := 0) (heap_alloc_new w3 _)) (S3.out.cs.far _) rfl (by decide) (by decide)).mono ?_
  intro e w4 hp
  obtain ⟨rfl, G4, hs4⟩ := CdOk0.step S3a.out (by simp; omega) hp
  have S4 := Lib.hid hs4
  have B4 := Lib.hid ((B3.out.alloc z3 _).trans hs4.below)
  have z4 := B4.out.size
  clear hp hs4
  go_wp2_with fail
  refine (cdRead_c S4.out.cs.cd O3.out (by decide) 0).mono ?_
  rw [show Dk.read (Dk.crash (Dk.write (Dk.write (Dk.new 2) 0 [97]).2 1 [98]).2 [false, true]) 0 = (Dk.zero64, 0) from rfl]
  rintro e w5 ⟨A5, n5, c5, rfl, hl5, hn5, ho5, hb5⟩
  have z5 := hb5.size
  subst hl5
  obtain ⟨g5, rfl, hg5, hh5, hc5, _⟩ := own_at ho5 (by decide)
  have x0 : w5.cell? ⟨g5, 0, none⟩ = some (.int .u8 0) := hc5 0 _ rfl
  have S5 := Lib.hid (S4.out.cs.keep hb5)
  have B5 := Lib.hid (B4.out.trans (hb5.mono z4))
  clear ho5 hb5 hc5
  go_wp2_with fail
  refine (cdRead_c S5.out.cd O3.out (by decide) 1).mono ?_
  rw [show Dk.read (Dk.crash (Dk.write (Dk.write (Dk.new 2) 0 [97]).2 1 [98]).2 [false, true]) 1 = (Dk.sec [98], 0) from rfl]
  rintro e w6 ⟨A6, n6, c6, rfl, hl6, hn6, ho6, hb6⟩
  subst hl6
  obtain ⟨g6, rfl, hg6, hh6, hc6, _⟩ := own_at ho6 (by decide)
  have y0 : w6.cell? ⟨g6, 0, none⟩ = some (.int .u8 98) := hc6 0 _ rfl
  have y1 : w6.cell? ⟨g6, 1, none⟩ = some (.int .u8 0) := hc6 1 _ rfl
  have x1 := (hb6.cell (p := ⟨g5, 0, none⟩) hh5).trans x0
  have B6 := Lib.hid (B5.out.trans (hb6.mono (Nat.le_trans z4 z5)))
  clear ho6 hb6 hc6 x0 kc
  rw [show Dk.zero64.length = 64 from rfl, show (Dk.sec [98]).length = 64 from rfl]
  go_wp2
  go_ret
  exact ⟨rfl, B6.out⟩
end Go.Proofs.Ytogobeinckgjmaa
