import Derived.Test.YtnhpkcphgdkdiaaGreatZ17
import Derived.Test.YtnhpkcphgdkdiaaGreatZ11
import Derived.Test.YtnhpkcphgdkdiaaGreatRows
import Derived.WalkKit
import Derived.WalkSpells
import Derived.WalkLawsBesides
import Derived.Lib.Hide
import Derived.LoopN
namespace Go.Proofs.YtnhpkcphgdkdiaaGreat
set_option linter.unusedSimpArgs false
set_option maxRecDepth 100000
section
section
open Go.RowKit
@[go_sem] theorem callBits (b : Nat) (w : World) : (callFunc 90 #[.float .f64 b]).run Tryz.prog w = .ok (.value (.int .u64 (Fl.I b))) w := by
 rw [run_callFunc_extern Tryz.func90 (by kernel_rfl) (by kernel_rfl) (by kernel_rfl) (by kernel_rfl) (e := Extern.MathFloatBits.float64bits)]; rfl
@[go_sem] theorem callFrom (n : Int) (w : World) : (callFunc 77 #[.int .u64 n]).run Tryz.prog w = .ok (.value (.float .f64 (Fl.W n))) w := by
 rw [run_callFunc_extern Tryz.func77 (by kernel_rfl) (by kernel_rfl) (by kernel_rfl) (by kernel_rfl) (e := Extern.MathFloatBits.float64frombits)]; rfl
@[go_sem] theorem unary_neg_float (k : FloatKind) (b : Nat) : Op.unary .neg (.float k b) = pure (.float k (Op.negFloat k b)) := rfl
@[go_sem] theorem ord_lt (a b : Nat) : (FloatKind.f64.format.order a b == some .lt) = Fl.ltB a b := Fl.order_lt a b
@[go_sem] theorem ord_eq (a b : Nat) : (FloatKind.f64.format.order a b == some .eq) = Fl.eqB a b := Fl.order_eq a b
@[go_sem] theorem ord_ne (a b : Nat) : (FloatKind.f64.format.order a b != some .eq) = !Fl.eqB a b := Fl.order_ne a b
@[go_sem] theorem ord_gt (a b : Nat) : (FloatKind.f64.format.order a b == some .gt) = Fl.ltB b a := Fl.order_gt a b
@[go_sem] theorem eq_self (a : Nat) : Fl.eqB a a = !Fl.isN a := Fl.eqB_self a
set_option maxHeartbeats 400000 in
theorem isNaN_c (b : Nat) (w : World) :
  Calls Tryz.prog 88 #[.float .f64 b] w fun e w' => e = .returned (.bool (Fl.isN b)) ∧ w = w' := by
 go_enter Tryz.func88, Tryz.ntmps88
 go_wp2
 go_ret
 exact ⟨ret_bool (by simp), rfl⟩
set_option maxHeartbeats 400000 in
theorem bits_c (b : Nat) (w : World) :
  Calls Tryz.prog 117 #[.float .f64 b] w fun e w' => e = .returned (.int .u64 (Fl.I b)) ∧ w = w' := by
 go_enter Tryz.func117, Tryz.ntmps117
 go_wp2
 go_ret
 exact ⟨rfl, rfl⟩
set_option maxHeartbeats 400000 in
theorem isInfP_c (b : Nat) (w : World) :
  Calls Tryz.prog 89 #[.float .f64 b, .int .i64 1] w fun e w' => e = .returned (.bool (Fl.infP b)) ∧ w = w' := by
 go_enter Tryz.func89, Tryz.ntmps89
 go_wp2
 go_ret
 exact ⟨ret_bool (Fl.ltB_max b), rfl⟩
set_option maxHeartbeats 400000 in
theorem isInfM_c (b : Nat) (w : World) :
  Calls Tryz.prog 89 #[.float .f64 b, .int .i64 (-1)] w fun e w' => e = .returned (.bool (Fl.infM b)) ∧ w = w' := by
 go_enter Tryz.func89, Tryz.ntmps89
 go_wp2
 go_ret
 exact ⟨ret_bool (Fl.ltB_max_neg b), rfl⟩
@[go_sem] theorem lt_low (b : Nat) : Fl.ltB b 18442240474082181119 = Fl.infM b := Fl.ltB_low b
@[go_sem] theorem lt_max (b : Nat) : Fl.ltB 9218868437227405311 b = Fl.infP b := Fl.ltB_max b
@[go_sem] theorem cls_zero (b : Nat) : (Fl.cls b == 0) = Fl.isN b := Fl.cls_zero_iff b
set_option maxHeartbeats 400000 in
theorem class_c (b : Nat) (w : World) :
  Calls Tryz.prog 57 #[.float .f64 b] w fun e w' => e = .returned (.int .i64 (Fl.cls b)) ∧ w = w' := by
 by_cases h1 : Fl.isN b = true
 ·go_enter Tryz.func57, Tryz.ntmps57
  go_wp2_with (go_at_call 88; refine (isNaN_c _ _).mono ?_; rintro e w' ⟨rfl, rfl⟩)
  go_ret
  exact ⟨ret_i64 (Fl.cls_nan h1).symm, rfl⟩
 ·have h1 : Fl.isN b = false := by simpa using h1
  have bd := Lib.hid (Fl.sv_bound h1)
  go_enter Tryz.func57, Tryz.ntmps57
  go_wp2_with (go_at_call 88; refine (isNaN_c _ _).mono ?_; rintro e w' ⟨rfl, rfl⟩)
  refine (isInfM_c _ _).mono ?_
  rintro e w' ⟨rfl, rfl⟩
  go_wp2_with fail
  ·go_ret
   exact ⟨ret_i64 (Fl.cls_below (by assumption)).symm, rfl⟩
  ·refine (isInfP_c _ _).mono ?_
   rintro e w' ⟨rfl, rfl⟩
   go_wp2_with fail
   ·go_ret; exact ⟨ret_i64 (Fl.cls_above (by assumption)).symm, rfl⟩
   ·go_ret; exact ⟨ret_i64 (Fl.cls_minus h1 (by assumption) (by assumption)).symm, rfl⟩
   ·go_ret; exact ⟨ret_i64 (Fl.cls_plus h1 (by assumption) (Fl.pos_of h1 (by assumption))).symm, rfl⟩
   ·go_ret; exact ⟨ret_i64 (Fl.cls_nought h1 (by assumption) (by assumption)).symm, rfl⟩
set_option maxHeartbeats 400000 in
theorem canon_c (b : Nat) (w : World) :
  Calls Tryz.prog 44 #[.float .f64 b] w fun e w' => e = .returned (.float .f64 (Fl.canon b)) ∧ w = w' := by
 by_cases h1 : Fl.isN b = true
 ·go_enter Tryz.func44, Tryz.ntmps44
  go_wp2_with (go_at_call 57; refine (class_c _ _).mono ?_; rintro e w' ⟨rfl, rfl⟩)
  go_ret
  exact ⟨ret_f64 (by rw [Fl.canon_nan h1]; rfl), rfl⟩
 ·have h1 : Fl.isN b = false := by simpa using h1
  by_cases h2 : Fl.sv b = 0
  ·have h3 : (Fl.cls b == 3) = true := by rw [Fl.cls_three h1]; simp [h2]
   have h2' := Lib.hid h2; clear h2
   go_enter Tryz.func44, Tryz.ntmps44
   go_wp2_with (go_at_call 57; refine (class_c _ _).mono ?_; rintro e w' ⟨rfl, rfl⟩)
   go_ret
   exact ⟨ret_f64 (by rw [Fl.canon_zero h1 h2'.out]), rfl⟩
  ·have h3 : (Fl.cls b == 3) = false := by rw [Fl.cls_three h1]; simp [h2]
   have h2' := Lib.hid h2; clear h2
   go_enter Tryz.func44, Tryz.ntmps44
   go_wp2_with (go_at_call 57; refine (class_c _ _).mono ?_; rintro e w' ⟨rfl, rfl⟩)
   go_ret
   exact ⟨ret_f64 (by rw [Fl.canon_self h1 h2'.out]), rfl⟩
set_option maxHeartbeats 400000 in
theorem refCanon_c (b : Nat) (w : World) :
  Calls Tryz.prog 118 #[.float .f64 b] w fun e w' => e = .returned (.float .f64 (Fl.canon b)) ∧ w = w' := by
 by_cases h1 : Fl.isN b = true
 ·go_enter Tryz.func118, Tryz.ntmps118
  go_wp2_with fail
  go_ret
  exact ⟨ret_f64 (by rw [Fl.canon_nan h1]; rfl), rfl⟩
 ·have h1 : Fl.isN b = false := by simpa using h1
  by_cases h2 : Fl.sv b = 0
  ·have h3 : Fl.eqB b 0 = true := by rw [Fl.eqB_zero h1]; simp [h2]
   have h2' := Lib.hid h2; clear h2
   go_enter Tryz.func118, Tryz.ntmps118
   go_wp2_with fail
   go_ret
   exact ⟨ret_f64 (by rw [Fl.canon_zero h1 h2'.out]), rfl⟩
  ·have h3 : Fl.eqB b 0 = false := by rw [Fl.eqB_zero h1]; simp [h2]
   have h2' := Lib.hid h2; clear h2
   go_enter Tryz.func118, Tryz.ntmps118
   go_wp2_with fail
   go_ret
   exact ⟨ret_f64 (by rw [Fl.canon_self h1 h2'.out]), rfl⟩
namespace Fl
end Fl
set_option maxHeartbeats 400000 in
theorem key_c (b : Nat) (w : World) (hb : b < 18446744073709551616) :
  Calls Tryz.prog 116 #[.float .f64 b] w fun e w' => e = .returned (.int .u64 (Fl.key b)) ∧ w = w' := by
 by_cases h1 : Fl.isN b = true
 ·go_enter Tryz.func116, Tryz.ntmps116
  go_wp2_with (go_at_call 57; refine (class_c _ _).mono ?_; rintro e w' ⟨rfl, rfl⟩)
  go_ret
  exact ⟨ret_u64 (Fl.key_nan h1).symm, rfl⟩
 ·have h1 : Fl.isN b = false := by simpa using h1
  by_cases h2 : 0 ≤ Fl.sv b
  ·have c1 := Fl.canon_low hb h1 h2
   have c2 := Lib.hid (Fl.key_end_ge hb h1 h2)
   clear h2 hb
   go_enter Tryz.func116, Tryz.ntmps116
   go_wp2_with (first | (go_at_call 57; refine (class_c _ _).mono ?_; rintro e w' ⟨rfl, rfl⟩) | (go_at_call 44; refine (canon_c _ _).mono ?_; rintro e w' ⟨rfl, rfl⟩))
   go_ret
   exact ⟨ret_u64 c2.out, rfl⟩
  ·have c1 := Fl.canon_high hb h1 h2
   have c2 := Lib.hid (Fl.key_end_neg hb h1 h2)
   clear h2 hb
   go_enter Tryz.func116, Tryz.ntmps116
   go_wp2_with (first | (go_at_call 57; refine (class_c _ _).mono ?_; rintro e w' ⟨rfl, rfl⟩) | (go_at_call 44; refine (canon_c _ _).mono ?_; rintro e w' ⟨rfl, rfl⟩))
   go_ret
   exact ⟨ret_u64 c2.out, rfl⟩
set_option maxHeartbeats 400000 in
theorem refKey_c (b : Nat) (w : World) (hb : b < 18446744073709551616) :
  Calls Tryz.prog 105 #[.float .f64 b] w fun e w' => e = .returned (.int .u64 (Fl.key b)) ∧ w = w' := by
 by_cases h1 : Fl.isN b = true
 ·go_enter Tryz.func105, Tryz.ntmps105
  go_wp2_with fail
  go_ret
  exact ⟨ret_u64 (Fl.key_nan h1).symm, rfl⟩
 ·have h1 : Fl.isN b = false := by simpa using h1
  by_cases h2 : 0 ≤ Fl.sv b
  ·have c1 := Fl.canon_low' hb h1 h2
   have c2 := Lib.hid (Fl.key_end_ge hb h1 h2)
   clear h2 hb
   go_enter Tryz.func105, Tryz.ntmps105
   go_wp2_with (first | (go_at_call 117; refine (bits_c _ _).mono ?_; rintro e w' ⟨rfl, rfl⟩) | (go_at_call 118; refine (refCanon_c _ _).mono ?_; rintro e w' ⟨rfl, rfl⟩))
   go_ret
   exact ⟨ret_u64 c2.out, rfl⟩
  ·have c1 := Fl.canon_high' hb h1 h2
   have c2 := Lib.hid (Fl.key_end_neg hb h1 h2)
   clear h2 hb
   go_enter Tryz.func105, Tryz.ntmps105
   go_wp2_with (first | (go_at_call 117; refine (bits_c _ _).mono ?_; rintro e w' ⟨rfl, rfl⟩) | (go_at_call 118; refine (refCanon_c _ _).mono ?_; rintro e w' ⟨rfl, rfl⟩))
   go_ret
   exact ⟨ret_u64 c2.out, rfl⟩
set_option maxHeartbeats 400000 in
theorem same_c (a b : Nat) (w : World) (ha : a < 18446744073709551616) (hb : b < 18446744073709551616) :
  Calls Tryz.prog 103 #[.float .f64 a, .float .f64 b] w fun e w' => e = .returned (.bool (Fl.same a b)) ∧ w = w' := by
 go_enter Tryz.func103, Tryz.ntmps103
 go_wp2_with (go_at_call 116; refine (key_c _ _ (by assumption)).mono ?_; rintro e w' ⟨rfl, rfl⟩)
 go_ret
 exact ⟨rfl, rfl⟩
set_option maxHeartbeats 400000 in
theorem refSame_c (a b : Nat) (w : World) (ha : a < 18446744073709551616) (hb : b < 18446744073709551616) :
  Calls Tryz.prog 86 #[.float .f64 a, .float .f64 b] w fun e w' => e = .returned (.bool (Fl.same a b)) ∧ w = w' := by
 go_enter Tryz.func86, Tryz.ntmps86
 go_wp2_with (go_at_call 105; refine (refKey_c _ _ (by assumption)).mono ?_; rintro e w' ⟨rfl, rfl⟩)
 go_ret
 exact ⟨rfl, rfl⟩
end
section
open Go.RowKit
namespace Fl
def cand (k : Int) : Int := if k < 9223372036854775808 then 18446744073709551615 - k else k - 9223372036854775808
def fit (k : Int) : Bool := key (W (cand k)) == k
def wd (k : Int) : Nat := if fit k = true then canon (W (cand k)) else 0
theorem fit_yes {k : Int} (h : fit k = true) : wd k = canon (W (cand k)) := by unfold wd; rw [if_pos h]
theorem fit_iff (k : Int) (h0 : 0 ≤ k) (h1 : k < 18446744073709551616) :
  fit k = true ↔ k = 0 ∨ (9223372036854775808 ≤ k ∧ k ≤ 9223372036854775808 + inf) ∨ (9223372036854775807 - inf ≤ k ∧ k < 9223372036854775807) := by
 have e1 := inf_eq; have e2 := two63_eq; have e3 := nanW_eq
 unfold fit cand
 by_cases a : k < 9223372036854775808
 ·rw [if_pos a]
  generalize hc : W (18446744073709551615 - k) = c
  have hc2 : (c : Int) = 18446744073709551615 - k := by rw [← hc]; unfold W; omega
  have hl : two63 ≤ c := by omega
  have hl2 : c < 2 * two63 := by omega
  have hs := sv_min hl hl2
  cases hn : isN c
  ·have := sv_bound hn
   by_cases z : k = 9223372036854775807
   ·rw [key_ge hn (by omega), beq_iff_eq]; omega
   ·rw [key_neg hn (by omega), beq_iff_eq]; omega
  ·rw [isN_min hl hl2] at hn
   have hn' := of_decide_eq_true hn
   rw [key_nan (by rw [isN_min hl hl2, hn]), beq_iff_eq]; omega
 ·rw [if_neg a]
  generalize hc : W (k - 9223372036854775808) = c
  have hc2 : (c : Int) = k - 9223372036854775808 := by rw [← hc]; unfold W; omega
  have hl : c < two63 := by omega
  have hs := sv_pos hl
  cases hn : isN c
  ·have := sv_bound hn
   rw [key_ge hn (by omega), beq_iff_eq]; omega
  ·rw [isN_pos hl] at hn
   have hn' := of_decide_eq_true hn
   rw [key_nan (by rw [isN_pos hl, hn]), beq_iff_eq]; omega
end Fl
open Go.ChangeShapes Go.WideShapes Go.ChangeAt Go.RowKit
namespace Fl
theorem fit_key {a : Nat} (ha : a < 18446744073709551616) : fit (key a) = true ∧ wd (key a) = canon a := by
 have e1 := inf_eq
 have e2 := two63_eq
 cases n : isN a
 ·have bd := sv_bound n
  by_cases s : 0 ≤ sv a
  ·have hk := key_ge n s
   have hf : fit (key a) = true := (fit_iff _ (key_bound a).1 (key_bound a).2).2 (by omega)
   refine ⟨hf, ?_⟩
   have hc := canon_ge ha n s
   have hw : W (cand (key a)) = canon a := by
    unfold cand; rw [if_neg (by omega)]; unfold W; unfold I at hc; omega
   rw [fit_yes hf, hw, canon_canon]
  ·have hk := key_neg n (by omega)
   have hf : fit (key a) = true := (fit_iff _ (key_bound a).1 (key_bound a).2).2 (by omega)
   refine ⟨hf, ?_⟩
   have hc := canon_neg ha n (by omega)
   have hw : W (cand (key a)) = canon a := by
    unfold cand; rw [if_pos (by omega)]; unfold W; unfold I at hc; omega
   rw [fit_yes hf, hw, canon_canon]
 ·rw [key_nan n, canon_nan n]
  have hf : fit 0 = true := by decide +kernel
  exact ⟨hf, by rw [fit_yes hf]; decide +kernel⟩
end Fl
end
end
end Go.Proofs.YtnhpkcphgdkdiaaGreat
