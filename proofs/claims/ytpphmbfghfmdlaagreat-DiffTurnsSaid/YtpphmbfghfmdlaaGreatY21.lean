import Derived.Test.YtpphmbfghfmdlaaGreatY20
import Derived.Test.YtpphmbfghfmdlaaGreatY12
import Derived.Test.YtpphmbfghfmdlaaGreatRows
import Derived.WalkKit
import Derived.WalkSpells
import Derived.WalkLawsBesides
import Derived.Lib.Hide
import Derived.LoopN
namespace Go.Proofs.YtpphmbfghfmdlaaGreat
set_option linter.unusedSimpArgs false
set_option maxRecDepth 100000
section
section
open Go.RowKit
@[go_sem] theorem callBits (b : Nat) (w : World) : (callFunc 93 #[.float .f64 b]).run Tryz.prog w = .ok (.value (.int .u64 (Fl.I b))) w := by
 rw [run_callFunc_extern Tryz.func93 (by kernel_rfl) (by kernel_rfl) (by kernel_rfl) (by kernel_rfl) (e := Extern.MathFloatBits.float64bits)]; rfl
@[go_sem] theorem callFrom (n : Int) (w : World) : (callFunc 126 #[.int .u64 n]).run Tryz.prog w = .ok (.value (.float .f64 (Fl.W n))) w := by
 rw [run_callFunc_extern Tryz.func126 (by kernel_rfl) (by kernel_rfl) (by kernel_rfl) (by kernel_rfl) (e := Extern.MathFloatBits.float64frombits)]; rfl
@[go_sem] theorem unary_neg_float (k : FloatKind) (b : Nat) : Op.unary .neg (.float k b) = pure (.float k (Op.negFloat k b)) := rfl
@[go_sem] theorem ord_lt (a b : Nat) : (FloatKind.f64.format.order a b == some .lt) = Fl.ltB a b := Fl.order_lt a b
@[go_sem] theorem ord_eq (a b : Nat) : (FloatKind.f64.format.order a b == some .eq) = Fl.eqB a b := Fl.order_eq a b
@[go_sem] theorem ord_ne (a b : Nat) : (FloatKind.f64.format.order a b != some .eq) = !Fl.eqB a b := Fl.order_ne a b
@[go_sem] theorem ord_gt (a b : Nat) : (FloatKind.f64.format.order a b == some .gt) = Fl.ltB b a := Fl.order_gt a b
@[go_sem] theorem eq_self (a : Nat) : Fl.eqB a a = !Fl.isN a := Fl.eqB_self a
set_option maxHeartbeats 400000 in
theorem isNaN_c (b : Nat) (w : World) :
  Calls Tryz.prog 97 #[.float .f64 b] w fun e w' => e = .returned (.bool (Fl.isN b)) ∧ w = w' := by
 go_enter Tryz.func97, Tryz.ntmps97
 go_wp2
 go_ret
 exact ⟨ret_bool (by simp), rfl⟩
set_option maxHeartbeats 400000 in
theorem bits_c (b : Nat) (w : World) :
  Calls Tryz.prog 99 #[.float .f64 b] w fun e w' => e = .returned (.int .u64 (Fl.I b)) ∧ w = w' := by
 go_enter Tryz.func99, Tryz.ntmps99
 go_wp2
 go_ret
 exact ⟨rfl, rfl⟩
set_option maxHeartbeats 400000 in
theorem isInfP_c (b : Nat) (w : World) :
  Calls Tryz.prog 98 #[.float .f64 b, .int .i64 1] w fun e w' => e = .returned (.bool (Fl.infP b)) ∧ w = w' := by
 go_enter Tryz.func98, Tryz.ntmps98
 go_wp2
 go_ret
 exact ⟨ret_bool (Fl.ltB_max b), rfl⟩
set_option maxHeartbeats 400000 in
theorem isInfM_c (b : Nat) (w : World) :
  Calls Tryz.prog 98 #[.float .f64 b, .int .i64 (-1)] w fun e w' => e = .returned (.bool (Fl.infM b)) ∧ w = w' := by
 go_enter Tryz.func98, Tryz.ntmps98
 go_wp2
 go_ret
 exact ⟨ret_bool (Fl.ltB_max_neg b), rfl⟩
@[go_sem] theorem lt_low (b : Nat) : Fl.ltB b 18442240474082181119 = Fl.infM b := Fl.ltB_low b
@[go_sem] theorem lt_max (b : Nat) : Fl.ltB 9218868437227405311 b = Fl.infP b := Fl.ltB_max b
@[go_sem] theorem cls_zero (b : Nat) : (Fl.cls b == 0) = Fl.isN b := Fl.cls_zero_iff b
set_option maxHeartbeats 400000 in
theorem class_c (b : Nat) (w : World) :
  Calls Tryz.prog 39 #[.float .f64 b] w fun e w' => e = .returned (.int .i64 (Fl.cls b)) ∧ w = w' := by
 by_cases h1 : Fl.isN b = true
 ·go_enter Tryz.func39, Tryz.ntmps39
  go_wp2_with (go_at_call 97; refine (isNaN_c _ _).mono ?_; rintro e w' ⟨rfl, rfl⟩)
  go_ret
  exact ⟨ret_i64 (Fl.cls_nan h1).symm, rfl⟩
 ·have h1 : Fl.isN b = false := by simpa using h1
  have bd := Lib.hid (Fl.sv_bound h1)
  go_enter Tryz.func39, Tryz.ntmps39
  go_wp2_with (go_at_call 97; refine (isNaN_c _ _).mono ?_; rintro e w' ⟨rfl, rfl⟩)
  refine (isInfM_c _ _).mono ?_
  rintro e w' ⟨rfl, rfl⟩
  go_wp2_with fail
  ·go_ret
   exact ⟨ret_i64 (Fl.cls_below (by assumption)).symm, rfl⟩
  ·refine (isInfP_c _ _).mono ?_
   rintro e w' ⟨rfl, rfl⟩
   go_wp2_with fail
   ·go_ret; exact ⟨ret_i64 (Fl.cls_above (by assumption)).symm, rfl⟩
   ·go_ret; exact ⟨ret_i64 (Fl.cls_minus h1 (by assumption) (by assumption)).symm, rfl⟩
   ·go_ret; exact ⟨ret_i64 (Fl.cls_plus h1 (by assumption) (Fl.pos_of h1 (by assumption))).symm, rfl⟩
   ·go_ret; exact ⟨ret_i64 (Fl.cls_nought h1 (by assumption) (by assumption)).symm, rfl⟩
set_option maxHeartbeats 400000 in
theorem canon_c (b : Nat) (w : World) :
  Calls Tryz.prog 74 #[.float .f64 b] w fun e w' => e = .returned (.float .f64 (Fl.canon b)) ∧ w = w' := by
 by_cases h1 : Fl.isN b = true
 ·go_enter Tryz.func74, Tryz.ntmps74
  go_wp2_with (go_at_call 39; refine (class_c _ _).mono ?_; rintro e w' ⟨rfl, rfl⟩)
  go_ret
  exact ⟨ret_f64 (by rw [Fl.canon_nan h1]; rfl), rfl⟩
 ·have h1 : Fl.isN b = false := by simpa using h1
  by_cases h2 : Fl.sv b = 0
  ·have h3 : (Fl.cls b == 3) = true := by rw [Fl.cls_three h1]; simp [h2]
   have h2' := Lib.hid h2; clear h2
   go_enter Tryz.func74, Tryz.ntmps74
   go_wp2_with (go_at_call 39; refine (class_c _ _).mono ?_; rintro e w' ⟨rfl, rfl⟩)
   go_ret
   exact ⟨ret_f64 (by rw [Fl.canon_zero h1 h2'.out]), rfl⟩
  ·have h3 : (Fl.cls b == 3) = false := by rw [Fl.cls_three h1]; simp [h2]
   have h2' := Lib.hid h2; clear h2
   go_enter Tryz.func74, Tryz.ntmps74
   go_wp2_with (go_at_call 39; refine (class_c _ _).mono ?_; rintro e w' ⟨rfl, rfl⟩)
   go_ret
   exact ⟨ret_f64 (by rw [Fl.canon_self h1 h2'.out]), rfl⟩
set_option maxHeartbeats 400000 in
theorem refCanon_c (b : Nat) (w : World) :
  Calls Tryz.prog 91 #[.float .f64 b] w fun e w' => e = .returned (.float .f64 (Fl.canon b)) ∧ w = w' := by
 by_cases h1 : Fl.isN b = true
 ·go_enter Tryz.func91, Tryz.ntmps91
  go_wp2_with fail
  go_ret
  exact ⟨ret_f64 (by rw [Fl.canon_nan h1]; rfl), rfl⟩
 ·have h1 : Fl.isN b = false := by simpa using h1
  by_cases h2 : Fl.sv b = 0
  ·have h3 : Fl.eqB b 0 = true := by rw [Fl.eqB_zero h1]; simp [h2]
   have h2' := Lib.hid h2; clear h2
   go_enter Tryz.func91, Tryz.ntmps91
   go_wp2_with fail
   go_ret
   exact ⟨ret_f64 (by rw [Fl.canon_zero h1 h2'.out]), rfl⟩
  ·have h3 : Fl.eqB b 0 = false := by rw [Fl.eqB_zero h1]; simp [h2]
   have h2' := Lib.hid h2; clear h2
   go_enter Tryz.func91, Tryz.ntmps91
   go_wp2_with fail
   go_ret
   exact ⟨ret_f64 (by rw [Fl.canon_self h1 h2'.out]), rfl⟩
namespace Fl
end Fl
set_option maxHeartbeats 400000 in
theorem key_c (b : Nat) (w : World) (hb : b < 18446744073709551616) :
  Calls Tryz.prog 182 #[.float .f64 b] w fun e w' => e = .returned (.int .u64 (Fl.key b)) ∧ w = w' := by
 by_cases h1 : Fl.isN b = true
 ·go_enter Tryz.func182, Tryz.ntmps182
  go_wp2_with (go_at_call 39; refine (class_c _ _).mono ?_; rintro e w' ⟨rfl, rfl⟩)
  go_ret
  exact ⟨ret_u64 (Fl.key_nan h1).symm, rfl⟩
 ·have h1 : Fl.isN b = false := by simpa using h1
  by_cases h2 : 0 ≤ Fl.sv b
  ·have c1 := Fl.canon_low hb h1 h2
   have c2 := Lib.hid (Fl.key_end_ge hb h1 h2)
   clear h2 hb
   go_enter Tryz.func182, Tryz.ntmps182
   go_wp2_with (first | (go_at_call 39; refine (class_c _ _).mono ?_; rintro e w' ⟨rfl, rfl⟩) | (go_at_call 74; refine (canon_c _ _).mono ?_; rintro e w' ⟨rfl, rfl⟩))
   go_ret
   exact ⟨ret_u64 c2.out, rfl⟩
  ·have c1 := Fl.canon_high hb h1 h2
   have c2 := Lib.hid (Fl.key_end_neg hb h1 h2)
   clear h2 hb
   go_enter Tryz.func182, Tryz.ntmps182
   go_wp2_with (first | (go_at_call 39; refine (class_c _ _).mono ?_; rintro e w' ⟨rfl, rfl⟩) | (go_at_call 74; refine (canon_c _ _).mono ?_; rintro e w' ⟨rfl, rfl⟩))
   go_ret
   exact ⟨ret_u64 c2.out, rfl⟩
set_option maxHeartbeats 400000 in
theorem refKey_c (b : Nat) (w : World) (hb : b < 18446744073709551616) :
  Calls Tryz.prog 155 #[.float .f64 b] w fun e w' => e = .returned (.int .u64 (Fl.key b)) ∧ w = w' := by
 by_cases h1 : Fl.isN b = true
 ·go_enter Tryz.func155, Tryz.ntmps155
  go_wp2_with fail
  go_ret
  exact ⟨ret_u64 (Fl.key_nan h1).symm, rfl⟩
 ·have h1 : Fl.isN b = false := by simpa using h1
  by_cases h2 : 0 ≤ Fl.sv b
  ·have c1 := Fl.canon_low' hb h1 h2
   have c2 := Lib.hid (Fl.key_end_ge hb h1 h2)
   clear h2 hb
   go_enter Tryz.func155, Tryz.ntmps155
   go_wp2_with (first | (go_at_call 99; refine (bits_c _ _).mono ?_; rintro e w' ⟨rfl, rfl⟩) | (go_at_call 91; refine (refCanon_c _ _).mono ?_; rintro e w' ⟨rfl, rfl⟩))
   go_ret
   exact ⟨ret_u64 c2.out, rfl⟩
  ·have c1 := Fl.canon_high' hb h1 h2
   have c2 := Lib.hid (Fl.key_end_neg hb h1 h2)
   clear h2 hb
   go_enter Tryz.func155, Tryz.ntmps155
   go_wp2_with (first | (go_at_call 99; refine (bits_c _ _).mono ?_; rintro e w' ⟨rfl, rfl⟩) | (go_at_call 91; refine (refCanon_c _ _).mono ?_; rintro e w' ⟨rfl, rfl⟩))
   go_ret
   exact ⟨ret_u64 c2.out, rfl⟩
set_option maxHeartbeats 400000 in
theorem same_c (a b : Nat) (w : World) (ha : a < 18446744073709551616) (hb : b < 18446744073709551616) :
  Calls Tryz.prog 177 #[.float .f64 a, .float .f64 b] w fun e w' => e = .returned (.bool (Fl.same a b)) ∧ w = w' := by
 go_enter Tryz.func177, Tryz.ntmps177
 go_wp2_with (go_at_call 182; refine (key_c _ _ (by assumption)).mono ?_; rintro e w' ⟨rfl, rfl⟩)
 go_ret
 exact ⟨rfl, rfl⟩
set_option maxHeartbeats 400000 in
theorem refSame_c (a b : Nat) (w : World) (ha : a < 18446744073709551616) (hb : b < 18446744073709551616) :
  Calls Tryz.prog 105 #[.float .f64 a, .float .f64 b] w fun e w' => e = .returned (.bool (Fl.same a b)) ∧ w = w' := by
 go_enter Tryz.func105, Tryz.ntmps105
 go_wp2_with (go_at_call 155; refine (refKey_c _ _ (by assumption)).mono ?_; rintro e w' ⟨rfl, rfl⟩)
 go_ret
 exact ⟨rfl, rfl⟩
end
section
open Go.RowKit
namespace Fl
end Fl
open Go.ChangeShapes Go.WideShapes Go.ChangeAt Go.RowKit
namespace Fl
end Fl
end
end
end Go.Proofs.YtpphmbfghfmdlaaGreat
