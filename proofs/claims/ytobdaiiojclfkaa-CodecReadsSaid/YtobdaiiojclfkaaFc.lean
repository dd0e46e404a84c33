/- Contracts of flt.Class, Canon, Key and of the document's own Class, Canon, Key, IsCanon, over any float64 words: they return what the plain functions Fl.cls, Fl.canon, Fl.key tell, and leave the world alone. -/
import Derived.Test.YtobdaiiojclfkaaRows
import Derived.Test.YtobdaiiojclfkaaOrd
import Derived.WalkKit
import Derived.WalkSpells
import Derived.WalkLawsBesides
import Derived.Lib.Hide
namespace Go.Proofs.Ytobdaiiojclfkaa
open Go.RowKit

theorem ret_u64 {a b : Int} (h : a = b) : Ending.returned (.int .u64 a) = .returned (.int .u64 b) := by rw [h]
theorem ret_i64 {a b : Int} (h : a = b) : Ending.returned (.int .i64 a) = .returned (.int .i64 b) := by rw [h]
theorem ret_f64 {a b : Nat} (h : a = b) : Ending.returned (.float .f64 a) = .returned (.float .f64 b) := by rw [h]
theorem ret_bool {a b : Bool} (h : a = b) : Ending.returned (.bool a) = .returned (.bool b) := by rw [h]

@[go_sem] theorem callBits (b : Nat) (w : World) : (callFunc 53 #[.float .f64 b]).run Try.prog w = .ok (.value (.int .u64 (Fl.I b))) w := by
  rw [run_callFunc_extern Try.func53 (by kernel_rfl) (by kernel_rfl) (by kernel_rfl) (by kernel_rfl) (e := Extern.MathFloatBits.float64bits)]; rfl
@[go_sem] theorem callFrom (n : Int) (w : World) : (callFunc 62 #[.int .u64 n]).run Try.prog w = .ok (.value (.float .f64 (Fl.W n))) w := by
  rw [run_callFunc_extern Try.func62 (by kernel_rfl) (by kernel_rfl) (by kernel_rfl) (by kernel_rfl) (e := Extern.MathFloatBits.float64frombits)]; rfl

@[go_sem] theorem unary_neg_float (k : FloatKind) (b : Nat) : Op.unary .neg (.float k b) = pure (.float k (Op.negFloat k b)) := rfl
@[go_sem] theorem ord_lt (a b : Nat) : (FloatKind.f64.format.order a b == some .lt) = Fl.ltB a b := Fl.order_lt a b
@[go_sem] theorem ord_eq (a b : Nat) : (FloatKind.f64.format.order a b == some .eq) = Fl.eqB a b := Fl.order_eq a b
@[go_sem] theorem ord_ne (a b : Nat) : (FloatKind.f64.format.order a b != some .eq) = !Fl.eqB a b := Fl.order_ne a b
@[go_sem] theorem ord_gt (a b : Nat) : (FloatKind.f64.format.order a b == some .gt) = Fl.ltB b a := Fl.order_gt a b
@[go_sem] theorem eq_self (a : Nat) : Fl.eqB a a = !Fl.isN a := Fl.eqB_self a

set_option maxHeartbeats 400000 in
theorem isNaN_c (b : Nat) (w : World) :
    Calls Try.prog 67 #[.float .f64 b] w fun e w' => e = .returned (.bool (Fl.isN b)) ∧ w = w' := by
  go_enter Try.func67, Try.ntmps67
  go_wp2
  go_ret
  exact ⟨ret_bool (by simp), rfl⟩

set_option maxHeartbeats 400000 in
theorem bits_c (b : Nat) (w : World) :
    Calls Try.prog 22 #[.float .f64 b] w fun e w' => e = .returned (.int .u64 (Fl.I b)) ∧ w = w' := by
  go_enter Try.func22, Try.ntmps22
  go_wp2
  go_ret
  exact ⟨rfl, rfl⟩

set_option maxHeartbeats 400000 in
theorem isInfP_c (b : Nat) (w : World) :
    Calls Try.prog 68 #[.float .f64 b, .int .i64 1] w fun e w' => e = .returned (.bool (Fl.infP b)) ∧ w = w' := by
  go_enter Try.func68, Try.ntmps68
  go_wp2
  go_ret
  exact ⟨ret_bool (Fl.ltB_max b), rfl⟩

set_option maxHeartbeats 400000 in
theorem isInfM_c (b : Nat) (w : World) :
    Calls Try.prog 68 #[.float .f64 b, .int .i64 (-1)] w fun e w' => e = .returned (.bool (Fl.infM b)) ∧ w = w' := by
  go_enter Try.func68, Try.ntmps68
  go_wp2
  go_ret
  exact ⟨ret_bool (Fl.ltB_max_neg b), rfl⟩

@[go_sem] theorem lt_low (b : Nat) : Fl.ltB b 18442240474082181119 = Fl.infM b := Fl.ltB_low b
@[go_sem] theorem lt_max (b : Nat) : Fl.ltB 9218868437227405311 b = Fl.infP b := Fl.ltB_max b
@[go_sem] theorem cls_zero (b : Nat) : (Fl.cls b == 0) = Fl.isN b := Fl.cls_zero_iff b

set_option maxHeartbeats 400000 in
theorem class_c (b : Nat) (w : World) :
    Calls Try.prog 66 #[.float .f64 b] w fun e w' => e = .returned (.int .i64 (Fl.cls b)) ∧ w = w' := by
  by_cases h1 : Fl.isN b = true
  · go_enter Try.func66, Try.ntmps66
    go_wp2_with (go_at_call 67; refine (isNaN_c _ _).mono ?_; rintro e w' ⟨rfl, rfl⟩)
    go_ret
    exact ⟨ret_i64 (Fl.cls_nan h1).symm, rfl⟩
  · have h1 : Fl.isN b = false := by simpa using h1
    have bd := Lib.hid (Fl.sv_bound h1)
    go_enter Try.func66, Try.ntmps66
    go_wp2_with (go_at_call 67; refine (isNaN_c _ _).mono ?_; rintro e w' ⟨rfl, rfl⟩)
    refine (isInfM_c _ _).mono ?_
    rintro e w' ⟨rfl, rfl⟩
    go_wp2_with fail
    · go_ret
      exact ⟨ret_i64 (Fl.cls_below (by assumption)).symm, rfl⟩
    · refine (isInfP_c _ _).mono ?_
      rintro e w' ⟨rfl, rfl⟩
      go_wp2_with fail
      · go_ret; exact ⟨ret_i64 (Fl.cls_above (by assumption)).symm, rfl⟩
      · go_ret; exact ⟨ret_i64 (Fl.cls_minus h1 (by assumption) (by assumption)).symm, rfl⟩
      · go_ret; exact ⟨ret_i64 (Fl.cls_plus h1 (by assumption) (Fl.pos_of h1 (by assumption))).symm, rfl⟩
      · go_ret; exact ⟨ret_i64 (Fl.cls_nought h1 (by assumption) (by assumption)).symm, rfl⟩

set_option maxHeartbeats 400000 in
theorem canon_c (b : Nat) (w : World) :
    Calls Try.prog 64 #[.float .f64 b] w fun e w' => e = .returned (.float .f64 (Fl.canon b)) ∧ w = w' := by
  by_cases h1 : Fl.isN b = true
  · go_enter Try.func64, Try.ntmps64
    go_wp2_with (go_at_call 66; refine (class_c _ _).mono ?_; rintro e w' ⟨rfl, rfl⟩)
    go_ret
    exact ⟨ret_f64 (by rw [Fl.canon_nan h1]; rfl), rfl⟩
  · have h1 : Fl.isN b = false := by simpa using h1
    by_cases h2 : Fl.sv b = 0
    · have h3 : (Fl.cls b == 3) = true := by rw [Fl.cls_three h1]; simp [h2]
      have h2' := Lib.hid h2; clear h2
      go_enter Try.func64, Try.ntmps64
      go_wp2_with (go_at_call 66; refine (class_c _ _).mono ?_; rintro e w' ⟨rfl, rfl⟩)
      go_ret
      exact ⟨ret_f64 (by rw [Fl.canon_zero h1 h2'.out]), rfl⟩
    · have h3 : (Fl.cls b == 3) = false := by rw [Fl.cls_three h1]; simp [h2]
      have h2' := Lib.hid h2; clear h2
      go_enter Try.func64, Try.ntmps64
      go_wp2_with (go_at_call 66; refine (class_c _ _).mono ?_; rintro e w' ⟨rfl, rfl⟩)
      go_ret
      exact ⟨ret_f64 (by rw [Fl.canon_self h1 h2'.out]), rfl⟩

set_option maxHeartbeats 400000 in
theorem refCanon_c (b : Nat) (w : World) :
    Calls Try.prog 45 #[.float .f64 b] w fun e w' => e = .returned (.float .f64 (Fl.canon b)) ∧ w = w' := by
  by_cases h1 : Fl.isN b = true
  · go_enter Try.func45, Try.ntmps45
    go_wp2_with fail
    go_ret
    exact ⟨ret_f64 (by rw [Fl.canon_nan h1]; rfl), rfl⟩
  · have h1 : Fl.isN b = false := by simpa using h1
    by_cases h2 : Fl.sv b = 0
    · have h3 : Fl.eqB b 0 = true := by rw [Fl.eqB_zero h1]; simp [h2]
      have h2' := Lib.hid h2; clear h2
      go_enter Try.func45, Try.ntmps45
      go_wp2_with fail
      go_ret
      exact ⟨ret_f64 (by rw [Fl.canon_zero h1 h2'.out]), rfl⟩
    · have h3 : Fl.eqB b 0 = false := by rw [Fl.eqB_zero h1]; simp [h2]
      have h2' := Lib.hid h2; clear h2
      go_enter Try.func45, Try.ntmps45
      go_wp2_with fail
      go_ret
      exact ⟨ret_f64 (by rw [Fl.canon_self h1 h2'.out]), rfl⟩

set_option maxHeartbeats 400000 in
theorem isCanon_c (b : Nat) (w : World) :
    Calls Try.prog 65 #[.float .f64 b] w fun e w' => e = .returned (.bool (Fl.I b == Fl.I (Fl.canon b))) ∧ w = w' := by
  go_enter Try.func65, Try.ntmps65
  go_wp2_with (first | (go_at_call 22; refine (bits_c _ _).mono ?_; rintro e w' ⟨rfl, rfl⟩) | (go_at_call 45; refine (refCanon_c _ _).mono ?_; rintro e w' ⟨rfl, rfl⟩))
  go_ret
  exact ⟨rfl, rfl⟩

end Go.Proofs.Ytobdaiiojclfkaa
