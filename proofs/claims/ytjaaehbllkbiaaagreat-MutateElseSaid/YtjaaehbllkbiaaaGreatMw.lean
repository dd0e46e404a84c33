/- Stage 11: the code's Check: what is named (written by wip/gen11cc.py). -/
import Derived.Test.YtjaaehbllkbiaaaGreatMu
namespace Go.Proofs.YtjaaehbllkbiaaaGreat
open Go.RowKit Go.Lib
set_option maxRecDepth 100000

theorem isCanonM_c (b : Nat) (w : World) : Calls Tryz.prog 29 #[.float .f64 b] w fun e w' => e = .returned (.bool (T9.isC b)) ∧ w = w' := by
 go_enter Tryz.func29, Tryz.ntmps29
 go_wp2_with (first | (go_at_call 72; refine (float64bits_c _ _).mono ?_; rintro e w' ⟨rfl, rfl⟩) | (go_at_call 53; refine (canon_c _ _).mono ?_; rintro e w' ⟨rfl, rfl⟩))
 go_ret
 exact ⟨rfl, rfl⟩
theorem named_c {g : Nat} {all what : Int} {b : Bool} {W : World} (hc : W.cell? ⟨g, 0, none⟩ = some (.int .i64 all)) (hx : (bits BinOp.and IntKind.i64 all what != 0) = b) :
  Calls Tryz.prog 28 #[.int .i64 what, .pointer (some ⟨g, 0, none⟩)] W fun e w' => e = .returned (.bool b) ∧ W = w' := by
 go_enter Tryz.func28, Tryz.ntmps28
 go_wp2
 go_ret
 exact ⟨rfl, rfl⟩
theorem names1_c (w : World) : Calls Tryz.prog 27 #[.int .i64 1] w fun e w' => e = .returned (.int .i64 10) ∧ w = w' := by
 go_enter Tryz.func27, Tryz.ntmps27
 go_wp2
 go_ret
 exact ⟨rfl, rfl⟩
theorem names2_c (w : World) : Calls Tryz.prog 27 #[.int .i64 2] w fun e w' => e = .returned (.int .i64 2) ∧ w = w' := by
 go_enter Tryz.func27, Tryz.ntmps27
 go_wp2
 go_ret
 exact ⟨rfl, rfl⟩
theorem names3_c (w : World) : Calls Tryz.prog 27 #[.int .i64 3] w fun e w' => e = .returned (.int .i64 45) ∧ w = w' := by
 go_enter Tryz.func27, Tryz.ntmps27
 go_wp2
 go_ret
 exact ⟨rfl, rfl⟩
theorem names4_c (w : World) : Calls Tryz.prog 27 #[.int .i64 4] w fun e w' => e = .returned (.int .i64 12) ∧ w = w' := by
 go_enter Tryz.func27, Tryz.ntmps27
 go_wp2
 go_ret
 exact ⟨rfl, rfl⟩
theorem names5_c (w : World) : Calls Tryz.prog 27 #[.int .i64 5] w fun e w' => e = .returned (.int .i64 132) ∧ w = w' := by
 go_enter Tryz.func27, Tryz.ntmps27
 go_wp2
 go_ret
 exact ⟨rfl, rfl⟩
theorem names6_c (w : World) : Calls Tryz.prog 27 #[.int .i64 6] w fun e w' => e = .returned (.int .i64 37) ∧ w = w' := by
 go_enter Tryz.func27, Tryz.ntmps27
 go_wp2
 go_ret
 exact ⟨rfl, rfl⟩
theorem names7_c (w : World) : Calls Tryz.prog 27 #[.int .i64 7] w fun e w' => e = .returned (.int .i64 36) ∧ w = w' := by
 go_enter Tryz.func27, Tryz.ntmps27
 go_wp2
 go_ret
 exact ⟨rfl, rfl⟩
theorem names8_c (w : World) : Calls Tryz.prog 27 #[.int .i64 8] w fun e w' => e = .returned (.int .i64 68) ∧ w = w' := by
 go_enter Tryz.func27, Tryz.ntmps27
 go_wp2
 go_ret
 exact ⟨rfl, rfl⟩
theorem names9_c (w : World) : Calls Tryz.prog 27 #[.int .i64 9] w fun e w' => e = .returned (.int .i64 20) ∧ w = w' := by
 go_enter Tryz.func27, Tryz.ntmps27
 go_wp2
 go_ret
 exact ⟨rfl, rfl⟩
theorem names10_c (w : World) : Calls Tryz.prog 27 #[.int .i64 10] w fun e w' => e = .returned (.int .i64 20) ∧ w = w' := by
 go_enter Tryz.func27, Tryz.ntmps27
 go_wp2
 go_ret
 exact ⟨rfl, rfl⟩
theorem names11_c (w : World) : Calls Tryz.prog 27 #[.int .i64 11] w fun e w' => e = .returned (.int .i64 4) ∧ w = w' := by
 go_enter Tryz.func27, Tryz.ntmps27
 go_wp2
 go_ret
 exact ⟨rfl, rfl⟩
theorem names12_c (w : World) : Calls Tryz.prog 27 #[.int .i64 12] w fun e w' => e = .returned (.int .i64 1) ∧ w = w' := by
 go_enter Tryz.func27, Tryz.ntmps27
 go_wp2
 go_ret
 exact ⟨rfl, rfl⟩
theorem names13_c (w : World) : Calls Tryz.prog 27 #[.int .i64 13] w fun e w' => e = .returned (.int .i64 1) ∧ w = w' := by
 go_enter Tryz.func27, Tryz.ntmps27
 go_wp2
 go_ret
 exact ⟨rfl, rfl⟩
end Go.Proofs.YtjaaehbllkbiaaaGreat
