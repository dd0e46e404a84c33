/- The law FramePuts: the frame of any bytes, and the frame with which any bytes begin; one frame. Every input, no condition: the walk. -/
import Derived.Test.YtlemhagckmfpoaaFq
import Derived.Deep.RegionHeld3
namespace Go.Proofs.Ytlemhagckmfpoaa
open Go.RowKit

set_option maxHeartbeats 8000000 in
set_option maxRecDepth 100000 in
theorem framePuts_some {A A2 : Option Addr} {n c n2 c2 : Nat} {l l2 b : List UInt8} {w : World} (h0 : Lies w w.heap.size 0 A (bcells l)) (hn : n = l.length) (h2 : Lies w w.heap.size 0 A2 (bcells l2)) (hn2 : n2 = l2.length) (hc2 : n2 ≤ c2) (b0 : n ≤ 500) (b1 : n2 ≤ 1000)
    (hu : Fr.unf l2 = some b) (hl : 7 + b.length = l2.length) :
    Calls Try.prog 3 #[.slice A n c, .slice A2 n2 c2] w fun e w' => e = .returned (.bool true) ∧ Below w.heap.size w w' := by
  have H0 := Lib.hid h0
  have H2 := Lib.hid (h2.old (t' := 5))
  have HN := Lib.hid hn
  have HN2 := Lib.hid hn2
  have HU := Lib.hid hu
  have HO := Lib.hid (Fr.only_some hu hl)
  have hq : (7 + (b.length : Int) == (n2 : Int)) = true := by simp; omega
  clear hl
  clear h0 h2 hn hn2 hu
  go_enter Try.func3, Try.ntmps3
  go_wp2_with (go_at_call 7; refine (awake4_c _).mono ?_; rintro e w1 ⟨rfl, hb1⟩; have HB1 := Lib.hid hb1; have hz1 := hb1.size; clear hb1)
  refine (fput_ok (H0.out.below (Nat.le_refl _) HB1.out) HN.out (by omega)).mono ?_
  rintro e w2 ⟨Ax, nx, cx, rfl, hnx, _, hox, hb2⟩
  have HNX := Lib.hid hnx
  have HX2 := Lib.hid (lies_own (B := w1.heap.size) hox)
  have HB2 := Lib.hid (HB1.out.trans (hb2.mono hz1))
  have hz2 := hb2.size
  clear hnx hox hb2
  go_wp2_with fail
  refine (fof_c (H2.out.below (Nat.le_refl _) HB2.out) HN2.out hc2 (by omega)).mono ?_
  rw [HU.out]
  rintro e w3 ⟨Ay, ny, cy, k3, e3, rfl, hb3, _, hg3, hd3⟩
  obtain ⟨hny, hly, rfl, rfl⟩ := hg3 b rfl
  have HNY := Lib.hid hny
  have HY3 : Hid (Lies w3 w2.heap.size 5 Ay (bcells b)) := hly
  have HX3 := Lib.hid (HX2.out.below hz2 hb3)
  have HB3 := Lib.hid (HB2.out.trans (hb3.mono (by omega)))
  have hz3 := hb3.size
  clear hb3 hg3 hd3 hny hly
  go_wp2_with fail
  refine (unframe_c (H2.out.below (Nat.le_refl _) HB3.out) (by omega) HN2.out hc2 (by omega)).mono ?_
  rw [HU.out]
  rintro e w4 ⟨Az, nz, cz, k4, e4, rfl, hb4, _, hg4, hd4⟩
  obtain ⟨hny, hly, rfl, rfl⟩ := hg4 b rfl
  have HNZ := Lib.hid hny
  have HZ4 : Hid (Lies w4 w.heap.size 5 Az (bcells b)) := hly
  have HX4 := Lib.hid (HX3.out.below (by omega) hb4)
  have HY4 := Lib.hid (HY3.out.below (by omega) hb4)
  have HB4 := Lib.hid (HB3.out.trans (hb4.mono (by omega)))
  have hz4 := hb4.size
  clear hb4 hg4 hd4 hny hly
  go_wp2_with fail
  refine (fonly_c (H2.out.below (Nat.le_refl _) HB4.out) HN2.out hc2 (by omega)).mono ?_
  rw [HO.out.1, HO.out.2]
  rintro e w5 ⟨Aw, nw, cw, rfl, hnw, _, how, hb5⟩
  have HNW := Lib.hid hnw
  have HW5 := Lib.hid ((lies_own (B := 0) how).old (t' := 0))
  have HX5 := Lib.hid ((HX4.out.below (by omega) hb5).old (t' := 0))
  have HY5 := Lib.hid ((HY4.out.below (by omega) hb5).old (t' := 0))
  have HZ5 := Lib.hid ((HZ4.out.below (by omega) hb5).old (t' := 0))
  have HB5 := Lib.hid (HB4.out.trans (hb5.mono (by omega)))
  have H05 := Lib.hid (H0.out.below (Nat.le_refl _) HB5.out)
  have hz5 : w.heap.size ≤ w5.heap.size := HB5.out.size
  clear hnw how hb5
  go_wp2_with fail
  have q1 : (Fr.frame l == Fr.frame l) = true := by simp
  have q2 : (b == b) = true := by simp
  have q3 : (7 + (b.length : Int) == 7 + (b.length : Int)) = true := by simp
  first | go_region_held (fun w' => (convert 22 9 (.slice Ax nx cx)).run Try.prog w' = .ok (.string (str (Fr.frame l))) w' ∧ (convert 22 9 (.slice Ay ny cy)).run Try.prog w' = .ok (.string (str b)) w' ∧ (convert 22 9 (.slice Az nz cz)).run Try.prog w' = .ok (.string (str b)) w' ∧ (convert 22 9 (.slice Aw nw cw)).run Try.prog w' = .ok (.string (str b)) w') (first | exact ⟨conv_at (c := cx) HX5.out HNX.out, conv_at (c := cy) HY5.out HNY.out, conv_at (c := cz) HZ5.out HNZ.out, conv_at (c := cw) HW5.out HNW.out⟩ | exact ⟨g1, g2, g3, g4⟩) ((go_at_call 12; (refine (refFrame_c (b := l) (B := w.heap.size) (t := 0) (by exact H05.out) HN.out (by omega)).mono ?_); rintro e w6 ⟨Ab, nb, cb, rfl, hob, hb6⟩; have h6 : Below w5.heap.size w5 w6 := ⟨hb6.os, hb6.tape, hb6.output, hb6.size, hb6.block⟩; have g0 := conv_at (c := cb) (lies_own (B := 0) hob) (own_room hob).1; have g1 := conv_at (c := cx) (HX5.out.below (Nat.le_refl _) h6) HNX.out; have g2 := conv_at (c := cy) (HY5.out.below (Nat.le_refl _) h6) HNY.out; have g3 := conv_at (c := cz) (HZ5.out.below (Nat.le_refl _) h6) HNZ.out; have g4 := conv_at (c := cw) (HW5.out.below (Nat.le_refl _) h6) HNW.out; have H6 := Lib.hid h6; clear h6 hob hb6)) | fail
  all_goals (go_wp2; go_ret; exact ⟨rfl, HB5.out.trans (H6.out.mono hz5)⟩)

end Go.Proofs.Ytlemhagckmfpoaa
