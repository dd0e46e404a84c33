/- Contracts of flt.Class, Canon, Key and of the document's own Class, Canon, Key, IsCanon, over any float64 words: they return what the plain functions Fl.cls, Fl.canon, Fl.key tell, and leave the world alone. Contracts of the keys and places: flt.Key, Less, Same, place, at, Steps, Mid and the document's own Key, Less, Same, over any float64 words below 2 to the 64. Contracts of flt.Of and of the document's own Of, at any key below 2 to the 64. The float of a float's key is that float, and the key of a key's float is that key, of words alone. -/
import Derived.Test.YtnhpkcphgdkdiaaRows
import Derived.Test.YtnhpkcphgdkdiaaOrd
import Derived.Test.YtnhpkcphgdkdiaaRet
import Derived.WalkKit
import Derived.WalkSpells
import Derived.WalkLawsBesides
import Derived.Lib.Hide
import Derived.LoopN
namespace Go.Proofs.Ytnhpkcphgdkdiaa
set_option maxRecDepth 100000

section
open Go.RowKit

@[go_sem] theorem callBits (b : Nat) (w : World) : (callFunc 66 #[.float .f64 b]).run Try.prog w = .ok (.value (.int .u64 (Fl.I b))) w := by
  rw [run_callFunc_extern Try.func66 (by kernel_rfl) (by kernel_rfl) (by kernel_rfl) (by kernel_rfl) (e := Extern.MathFloatBits.float64bits)]; rfl
@[go_sem] theorem callFrom (n : Int) (w : World) : (callFunc 62 #[.int .u64 n]).run Try.prog w = .ok (.value (.float .f64 (Fl.W n))) w := by
  rw [run_callFunc_extern Try.func62 (by kernel_rfl) (by kernel_rfl) (by kernel_rfl) (by kernel_rfl) (e := Extern.MathFloatBits.float64frombits)]; rfl

@[go_sem] theorem unary_neg_float (k : FloatKind) (b : Nat) : Op.unary .neg (.float k b) = pure (.float k (Op.negFloat k b)) := rfl
@[go_sem] theorem ord_lt (a b : Nat) : (FloatKind.f64.format.order a b == some .lt) = Fl.ltB a b := Fl.order_lt a b
@[go_sem] theorem ord_eq (a b : Nat) : (FloatKind.f64.format.order a b == some .eq) = Fl.eqB a b := Fl.order_eq a b
@[go_sem] theorem ord_ne (a b : Nat) : (FloatKind.f64.format.order a b != some .eq) = !Fl.eqB a b := Fl.order_ne a b
@[go_sem] theorem ord_gt (a b : Nat) : (FloatKind.f64.format.order a b == some .gt) = Fl.ltB b a := Fl.order_gt a b
@[go_sem] theorem eq_self (a : Nat) : Fl.eqB a a = !Fl.isN a := Fl.eqB_self a

set_option maxHeartbeats 400000 in
theorem isNaN_c (b : Nat) (w : World) :
    Calls Try.prog 42 #[.float .f64 b] w fun e w' => e = .returned (.bool (Fl.isN b)) ∧ w = w' := by
  go_enter Try.func42, Try.ntmps42
  go_wp2
  go_ret
  exact ⟨ret_bool (by simp), rfl⟩

set_option maxHeartbeats 400000 in
theorem bits_c (b : Nat) (w : World) :
    Calls Try.prog 60 #[.float .f64 b] w fun e w' => e = .returned (.int .u64 (Fl.I b)) ∧ w = w' := by
  go_enter Try.func60, Try.ntmps60
  go_wp2
  go_ret
  exact ⟨rfl, rfl⟩

set_option maxHeartbeats 400000 in
theorem isInfP_c (b : Nat) (w : World) :
    Calls Try.prog 43 #[.float .f64 b, .int .i64 1] w fun e w' => e = .returned (.bool (Fl.infP b)) ∧ w = w' := by
  go_enter Try.func43, Try.ntmps43
  go_wp2
  go_ret
  exact ⟨ret_bool (Fl.ltB_max b), rfl⟩

set_option maxHeartbeats 400000 in
theorem isInfM_c (b : Nat) (w : World) :
    Calls Try.prog 43 #[.float .f64 b, .int .i64 (-1)] w fun e w' => e = .returned (.bool (Fl.infM b)) ∧ w = w' := by
  go_enter Try.func43, Try.ntmps43
  go_wp2
  go_ret
  exact ⟨ret_bool (Fl.ltB_max_neg b), rfl⟩

@[go_sem] theorem lt_low (b : Nat) : Fl.ltB b 18442240474082181119 = Fl.infM b := Fl.ltB_low b
@[go_sem] theorem lt_max (b : Nat) : Fl.ltB 9218868437227405311 b = Fl.infP b := Fl.ltB_max b
@[go_sem] theorem cls_zero (b : Nat) : (Fl.cls b == 0) = Fl.isN b := Fl.cls_zero_iff b

set_option maxHeartbeats 400000 in
theorem class_c (b : Nat) (w : World) :
    Calls Try.prog 26 #[.float .f64 b] w fun e w' => e = .returned (.int .i64 (Fl.cls b)) ∧ w = w' := by
  by_cases h1 : Fl.isN b = true
  · go_enter Try.func26, Try.ntmps26
    go_wp2_with (go_at_call 42; refine (isNaN_c _ _).mono ?_; rintro e w' ⟨rfl, rfl⟩)
    go_ret
    exact ⟨ret_i64 (Fl.cls_nan h1).symm, rfl⟩
  · have h1 : Fl.isN b = false := by simpa using h1
    have bd := Lib.hid (Fl.sv_bound h1)
    go_enter Try.func26, Try.ntmps26
    go_wp2_with (go_at_call 42; refine (isNaN_c _ _).mono ?_; rintro e w' ⟨rfl, rfl⟩)
    refine (isInfM_c _ _).mono ?_
    rintro e w' ⟨rfl, rfl⟩
    go_wp2_with fail
    · go_ret
      exact ⟨ret_i64 (Fl.cls_below (by assumption)).symm, rfl⟩
    · refine (isInfP_c _ _).mono ?_
      rintro e w' ⟨rfl, rfl⟩
      go_wp2_with fail
      · go_ret; exact ⟨ret_i64 (Fl.cls_above (by assumption)).symm, rfl⟩
      · go_ret; exact ⟨ret_i64 (Fl.cls_minus h1 (by assumption) (by assumption)).symm, rfl⟩
      · go_ret; exact ⟨ret_i64 (Fl.cls_plus h1 (by assumption) (Fl.pos_of h1 (by assumption))).symm, rfl⟩
      · go_ret; exact ⟨ret_i64 (Fl.cls_nought h1 (by assumption) (by assumption)).symm, rfl⟩

set_option maxHeartbeats 400000 in
theorem canon_c (b : Nat) (w : World) :
    Calls Try.prog 44 #[.float .f64 b] w fun e w' => e = .returned (.float .f64 (Fl.canon b)) ∧ w = w' := by
  by_cases h1 : Fl.isN b = true
  · go_enter Try.func44, Try.ntmps44
    go_wp2_with (go_at_call 26; refine (class_c _ _).mono ?_; rintro e w' ⟨rfl, rfl⟩)
    go_ret
    exact ⟨ret_f64 (by rw [Fl.canon_nan h1]; rfl), rfl⟩
  · have h1 : Fl.isN b = false := by simpa using h1
    by_cases h2 : Fl.sv b = 0
    · have h3 : (Fl.cls b == 3) = true := by rw [Fl.cls_three h1]; simp [h2]
      have h2' := Lib.hid h2; clear h2
      go_enter Try.func44, Try.ntmps44
      go_wp2_with (go_at_call 26; refine (class_c _ _).mono ?_; rintro e w' ⟨rfl, rfl⟩)
      go_ret
      exact ⟨ret_f64 (by rw [Fl.canon_zero h1 h2'.out]), rfl⟩
    · have h3 : (Fl.cls b == 3) = false := by rw [Fl.cls_three h1]; simp [h2]
      have h2' := Lib.hid h2; clear h2
      go_enter Try.func44, Try.ntmps44
      go_wp2_with (go_at_call 26; refine (class_c _ _).mono ?_; rintro e w' ⟨rfl, rfl⟩)
      go_ret
      exact ⟨ret_f64 (by rw [Fl.canon_self h1 h2'.out]), rfl⟩

set_option maxHeartbeats 400000 in
theorem refCanon_c (b : Nat) (w : World) :
    Calls Try.prog 49 #[.float .f64 b] w fun e w' => e = .returned (.float .f64 (Fl.canon b)) ∧ w = w' := by
  by_cases h1 : Fl.isN b = true
  · go_enter Try.func49, Try.ntmps49
    go_wp2_with fail
    go_ret
    exact ⟨ret_f64 (by rw [Fl.canon_nan h1]; rfl), rfl⟩
  · have h1 : Fl.isN b = false := by simpa using h1
    by_cases h2 : Fl.sv b = 0
    · have h3 : Fl.eqB b 0 = true := by rw [Fl.eqB_zero h1]; simp [h2]
      have h2' := Lib.hid h2; clear h2
      go_enter Try.func49, Try.ntmps49
      go_wp2_with fail
      go_ret
      exact ⟨ret_f64 (by rw [Fl.canon_zero h1 h2'.out]), rfl⟩
    · have h3 : Fl.eqB b 0 = false := by rw [Fl.eqB_zero h1]; simp [h2]
      have h2' := Lib.hid h2; clear h2
      go_enter Try.func49, Try.ntmps49
      go_wp2_with fail
      go_ret
      exact ⟨ret_f64 (by rw [Fl.canon_self h1 h2'.out]), rfl⟩

set_option maxHeartbeats 400000 in
theorem isCanon_c (b : Nat) (w : World) :
    Calls Try.prog 54 #[.float .f64 b] w fun e w' => e = .returned (.bool (Fl.I b == Fl.I (Fl.canon b))) ∧ w = w' := by
  go_enter Try.func54, Try.ntmps54
  go_wp2_with (first | (go_at_call 60; refine (bits_c _ _).mono ?_; rintro e w' ⟨rfl, rfl⟩) | (go_at_call 49; refine (refCanon_c _ _).mono ?_; rintro e w' ⟨rfl, rfl⟩))
  go_ret
  exact ⟨rfl, rfl⟩

namespace Fl
theorem place_pos {b : Nat} (h : isN b = false) (hb : b < two63) : wrap64 (I b) = pl b := by
  have := two63_eq
  rw [pl_num h, sv_pos hb]; unfold I wrap64; omega
theorem place_min {b : Nat} (h : isN b = false) (h1 : ¬ b < two63) (hb : b < 18446744073709551616) : wrap64 (-wrap64 (IntKind.u64.wrap (I b - 9223372036854775808))) = pl b := by
  have := two63_eq; have := inf_eq
  have bd := sv_bound h
  have e := sv_min (b := b) (by omega) (by omega)
  rw [pl_num h, wrap_u64]; unfold I wrap64; omega
theorem at_min {p : Int} (h : p < 0) (h1 : -(inf : Int) ≤ p) : IntKind.u64.wrap (IntKind.u64.wrap (wrap64 (-p)) + 9223372036854775808) = atI p := by
  have := two63_eq; have := inf_eq
  unfold atI; rw [if_pos h, wrap_u64, wrap_u64]; unfold wrap64; omega
theorem at_pos {p : Int} (h : ¬ p < 0) (h1 : p ≤ inf) : IntKind.u64.wrap p = atI p := by
  have := two63_eq; have := inf_eq
  unfold atI; rw [if_neg h, wrap_u64]; omega
theorem steps_end {a b : Nat} (h : lt a b = true) : IntKind.u64.wrap (IntKind.u64.wrap (IntKind.u64.wrap (pl b) - IntKind.u64.wrap (pl a)) - 1) = stp a b := by
  have := stp_bound a b
  rw [stp_yes h] at *
  simp only [wrap_u64]; omega
theorem mid_end {a b : Nat} (h2 : (stp a b == 0) = false) :
    wrap64 (IntKind.u64.wrap (IntKind.u64.wrap (IntKind.u64.wrap (pl a) + 1) + IntKind.u64.wrap ((stp a b).tdiv 2))) = pl a + 1 + stp a b / 2
    ∧ -(inf : Int) ≤ pl a + 1 + stp a b / 2 ∧ pl a + 1 + stp a b / 2 ≤ inf := by
  have := inf_eq
  have b1 := pl_bound a
  have b2 := pl_bound b
  have b3 : ¬ stp a b = 0 := by simpa using h2
  have hl : lt a b = true := by
    cases e : lt a b
    · exact absurd (stp_no e) b3
    · rfl
  have b4 := stp_bound a b
  have b5 := stp_yes hl
  have b6 := lt_true.1 hl
  rw [Int.tdiv_eq_ediv_of_nonneg b4.1]
  simp only [wrap_u64]; unfold wrap64; omega
theorem mid_no {a b : Nat} (h : isN a = true ∨ (stp a b == 0) = true) : midOk a b = false ∧ midW a b = 0 := by
  have e : midOk a b = false := by
    unfold midOk
    rcases h with h | h
    · rw [h]; rfl
    · rw [h]; simp
  exact ⟨e, by unfold midW; rw [if_neg (by simp [e])]⟩
theorem mid_yes {a b : Nat} (h : isN a = false) (h2 : (stp a b == 0) = false) : midOk a b = true ∧ midW a b = W (atI (pl a + 1 + stp a b / 2)) := by
  have e : midOk a b = true := by unfold midOk; rw [h, h2]; rfl
  exact ⟨e, by unfold midW; rw [if_pos e]⟩
end Fl

theorem ret_fb {a b : Nat} {c d : Bool} (h : a = b) (h2 : c = d) : Ending.returned (.tuple #[.float .f64 a, .bool c]) = .returned (.tuple #[.float .f64 b, .bool d]) := by rw [h, h2]

set_option maxHeartbeats 400000 in
theorem key_c (b : Nat) (w : World) (hb : b < 18446744073709551616) :
    Calls Try.prog 64 #[.float .f64 b] w fun e w' => e = .returned (.int .u64 (Fl.key b)) ∧ w = w' := by
  by_cases h1 : Fl.isN b = true
  · go_enter Try.func64, Try.ntmps64
    go_wp2_with (go_at_call 26; refine (class_c _ _).mono ?_; rintro e w' ⟨rfl, rfl⟩)
    go_ret
    exact ⟨ret_u64 (Fl.key_nan h1).symm, rfl⟩
  · have h1 : Fl.isN b = false := by simpa using h1
    by_cases h2 : 0 ≤ Fl.sv b
    · have c1 := Fl.canon_low hb h1 h2
      have c2 := Lib.hid (Fl.key_end_ge hb h1 h2)
      clear h2 hb
      go_enter Try.func64, Try.ntmps64
      go_wp2_with (first | (go_at_call 26; refine (class_c _ _).mono ?_; rintro e w' ⟨rfl, rfl⟩) | (go_at_call 44; refine (canon_c _ _).mono ?_; rintro e w' ⟨rfl, rfl⟩))
      go_ret
      exact ⟨ret_u64 c2.out, rfl⟩
    · have c1 := Fl.canon_high hb h1 h2
      have c2 := Lib.hid (Fl.key_end_neg hb h1 h2)
      clear h2 hb
      go_enter Try.func64, Try.ntmps64
      go_wp2_with (first | (go_at_call 26; refine (class_c _ _).mono ?_; rintro e w' ⟨rfl, rfl⟩) | (go_at_call 44; refine (canon_c _ _).mono ?_; rintro e w' ⟨rfl, rfl⟩))
      go_ret
      exact ⟨ret_u64 c2.out, rfl⟩

set_option maxHeartbeats 400000 in
theorem refKey_c (b : Nat) (w : World) (hb : b < 18446744073709551616) :
    Calls Try.prog 41 #[.float .f64 b] w fun e w' => e = .returned (.int .u64 (Fl.key b)) ∧ w = w' := by
  by_cases h1 : Fl.isN b = true
  · go_enter Try.func41, Try.ntmps41
    go_wp2_with fail
    go_ret
    exact ⟨ret_u64 (Fl.key_nan h1).symm, rfl⟩
  · have h1 : Fl.isN b = false := by simpa using h1
    by_cases h2 : 0 ≤ Fl.sv b
    · have c1 := Fl.canon_low' hb h1 h2
      have c2 := Lib.hid (Fl.key_end_ge hb h1 h2)
      clear h2 hb
      go_enter Try.func41, Try.ntmps41
      go_wp2_with (first | (go_at_call 60; refine (bits_c _ _).mono ?_; rintro e w' ⟨rfl, rfl⟩) | (go_at_call 49; refine (refCanon_c _ _).mono ?_; rintro e w' ⟨rfl, rfl⟩))
      go_ret
      exact ⟨ret_u64 c2.out, rfl⟩
    · have c1 := Fl.canon_high' hb h1 h2
      have c2 := Lib.hid (Fl.key_end_neg hb h1 h2)
      clear h2 hb
      go_enter Try.func41, Try.ntmps41
      go_wp2_with (first | (go_at_call 60; refine (bits_c _ _).mono ?_; rintro e w' ⟨rfl, rfl⟩) | (go_at_call 49; refine (refCanon_c _ _).mono ?_; rintro e w' ⟨rfl, rfl⟩))
      go_ret
      exact ⟨ret_u64 c2.out, rfl⟩

set_option maxHeartbeats 400000 in
theorem less_c (a b : Nat) (w : World) (ha : a < 18446744073709551616) (hb : b < 18446744073709551616) :
    Calls Try.prog 46 #[.float .f64 a, .float .f64 b] w fun e w' => e = .returned (.bool (Fl.lt a b)) ∧ w = w' := by
  go_enter Try.func46, Try.ntmps46
  go_wp2_with (go_at_call 64; refine (key_c _ _ (by assumption)).mono ?_; rintro e w' ⟨rfl, rfl⟩)
  go_ret
  exact ⟨rfl, rfl⟩

set_option maxHeartbeats 400000 in
theorem refSame_c (a b : Nat) (w : World) (ha : a < 18446744073709551616) (hb : b < 18446744073709551616) :
    Calls Try.prog 24 #[.float .f64 a, .float .f64 b] w fun e w' => e = .returned (.bool (Fl.same a b)) ∧ w = w' := by
  go_enter Try.func24, Try.ntmps24
  go_wp2_with (go_at_call 41; refine (refKey_c _ _ (by assumption)).mono ?_; rintro e w' ⟨rfl, rfl⟩)
  go_ret
  exact ⟨rfl, rfl⟩

end

section
open Go.RowKit

namespace Fl
/-- The word that a key would have; whether it has that key; the float of a key. -/
def cand (k : Int) : Int := if k < 9223372036854775808 then 18446744073709551615 - k else k - 9223372036854775808
def fit (k : Int) : Bool := key (W (cand k)) == k
def wd (k : Int) : Nat := if fit k = true then canon (W (cand k)) else 0
theorem key_canon (b : Nat) : key (canon b) = key b := by
  unfold key; rw [isN_canon]
  cases h : isN b
  · rw [sv_canon h]
  · rfl
theorem cand_bound {k : Int} (h0 : 0 ≤ k) (h1 : k < 18446744073709551616) : 0 ≤ cand k ∧ cand k < 18446744073709551616 := by
  unfold cand; split <;> omega
theorem W_lt {n : Int} (h1 : n < 18446744073709551616) : W n < 18446744073709551616 := by unfold W; omega
theorem cand_low {k : Int} (h : k < 9223372036854775808) (h0 : 0 ≤ k) : IntKind.u64.wrap (18446744073709551615 - k) = cand k := by
  unfold cand; rw [if_pos h, wrap_u64]; omega
theorem cand_high {k : Int} (h : ¬ k < 9223372036854775808) (h0 : k < 18446744073709551616) : IntKind.u64.wrap (k - 9223372036854775808) = cand k := by
  unfold cand; rw [if_neg h, wrap_u64]; omega
theorem fit_yes {k : Int} (h : fit k = true) : wd k = canon (W (cand k)) := by unfold wd; rw [if_pos h]
theorem fit_no {k : Int} (h : fit k = false) : wd k = 0 := by unfold wd; rw [if_neg (by simp [h])]

/-- Whether a word is as it must be, and has a key: the question that is asked of each of three words. -/
def asks (b : Nat) (k : Int) : Bool := (I b == I (canon b)) && (key b == k)
theorem asks_num {b : Nat} (k : Int) (h2 : canon b = b) : asks b k = (key b == k) := by unfold asks; rw [h2]; simp
theorem asks_not {b : Nat} (k : Int) (h : canon b ≠ b) : asks b k = false := by
  unfold asks I
  have : ((b : Int) == (canon b : Int)) = false := by rw [beq_eq_false_iff_ne]; omega
  rw [this]; rfl
theorem asks_nan {b : Nat} {k : Int} (h : isN b = true) (hk : k ≠ 0) : asks b k = false := by
  unfold asks
  have : (key b == k) = false := by rw [key_nan h, beq_eq_false_iff_ne]; omega
  rw [this]; simp
theorem asks_split {b : Nat} {k : Int} (h : asks b k = false) : (I b == I (canon b)) = false ∨ ((I b == I (canon b)) = true ∧ (key b == k) = false) := by
  unfold asks at h
  cases e : (I b == I (canon b))
  · exact Or.inl rfl
  · rw [e] at h; exact Or.inr ⟨rfl, by simpa using h⟩
theorem asks_both {b : Nat} {k : Int} (h : asks b k = true) : (I b == I (canon b)) = true ∧ (key b == k) = true := by
  unfold asks at h; simpa using h
theorem first_word (k : Int) (h0 : 0 ≤ k) (h1 : k < 18446744073709551616) :
    asks (W (IntKind.u64.wrap (k - 9223372036854775808))) k = decide (9223372036854775808 ≤ k ∧ k ≤ 9223372036854775808 + inf) := by
  have e1 := inf_eq; have e2 := two63_eq; have e3 := nanW_eq
  rw [wrap_u64]
  by_cases a : 9223372036854775808 ≤ k
  · have ew : W ((k - 9223372036854775808) % 18446744073709551616) = (k - 9223372036854775808).toNat := by unfold W; congr 1; omega
    rw [ew]
    generalize hc : (k - 9223372036854775808).toNat = c
    have hl : c < two63 := by omega
    by_cases b : k ≤ 9223372036854775808 + inf
    · have hn : isN c = false := by rw [isN_pos hl]; exact decide_eq_false (by omega)
      have hs := sv_pos hl
      have hcan : canon c = c := by
        by_cases z : c = 0
        · rw [canon_zero hn (by omega), z]
        · exact canon_self hn (by omega)
      rw [asks_num k hcan, key_ge hn (by omega)]
      rw [decide_eq_true (⟨a, b⟩ : 9223372036854775808 ≤ k ∧ k ≤ 9223372036854775808 + inf), beq_iff_eq]; omega
    · have hn : isN c = true := by rw [isN_pos hl]; exact decide_eq_true (by omega)
      rw [asks_nan hn (by omega)]
      exact (decide_eq_false (by omega)).symm
  · rw [decide_eq_false (by omega)]
    have ew : W ((k - 9223372036854775808) % 18446744073709551616) = (k + 9223372036854775808).toNat := by unfold W; congr 1; omega
    rw [ew]
    generalize hc : (k + 9223372036854775808).toNat = c
    have hl : two63 ≤ c := by omega
    have hl2 : c < 2 * two63 := by omega
    have hs := sv_min hl hl2
    by_cases b : k ≤ inf
    · have hn : isN c = false := by rw [isN_min hl hl2]; exact decide_eq_false (by omega)
      by_cases z : k = 0
      · exact asks_not k (by rw [canon_zero hn (by omega)]; omega)
      · rw [asks_num k (canon_self hn (by omega)), key_neg hn (by omega), beq_eq_false_iff_ne]; omega
    · have hn : isN c = true := by rw [isN_min hl hl2]; exact decide_eq_true (by omega)
      exact asks_nan hn (by omega)
theorem second_word (k : Int) (h0 : 0 ≤ k) (h1 : k < 18446744073709551616) :
    asks (W (IntKind.u64.wrap (18446744073709551615 - k))) k = decide (9223372036854775807 - inf ≤ k ∧ k < 9223372036854775807) := by
  have e1 := inf_eq; have e2 := two63_eq; have e3 := nanW_eq
  rw [wrap_u64]
  have ew : W ((18446744073709551615 - k) % 18446744073709551616) = (18446744073709551615 - k).toNat := by unfold W; congr 1; omega
  rw [ew]
  generalize hc : (18446744073709551615 - k).toNat = c
  by_cases a : 9223372036854775808 ≤ k
  · rw [decide_eq_false (by omega)]
    have hl : c < two63 := by omega
    have hs := sv_pos hl
    cases hn : isN c
    · by_cases z : c = 0
      · rw [asks_num k (by rw [canon_zero hn (by omega), z]), key_ge hn (by omega), beq_eq_false_iff_ne]; omega
      · rw [asks_num k (canon_self hn (by omega)), key_ge hn (by omega), beq_eq_false_iff_ne]; omega
    · exact asks_nan hn (by omega)
  · have hl : two63 ≤ c := by omega
    have hl2 : c < 2 * two63 := by omega
    have hs := sv_min hl hl2
    by_cases b : 9223372036854775807 - inf ≤ k
    · have hn : isN c = false := by rw [isN_min hl hl2]; exact decide_eq_false (by omega)
      by_cases z : k = 9223372036854775807
      · rw [decide_eq_false (by omega)]
        exact asks_not k (by rw [canon_zero hn (by omega)]; omega)
      · rw [decide_eq_true (by omega : 9223372036854775807 - inf ≤ k ∧ k < 9223372036854775807)]
        rw [asks_num k (canon_self hn (by omega)), key_neg hn (by omega), beq_iff_eq]; omega
    · rw [decide_eq_false (by omega)]
      have hn : isN c = true := by rw [isN_min hl hl2]; exact decide_eq_true (by omega)
      exact asks_not k (by rw [canon_nan hn]; omega)
theorem third_word (k : Int) : asks 9221120237041090561 k = decide (k = 0) := by
  have hn : isN 9221120237041090561 = true := isN_nanW
  by_cases h : k = 0
  · subst h; decide +kernel
  · rw [decide_eq_false h]; exact asks_nan hn h
theorem fit_iff (k : Int) (h0 : 0 ≤ k) (h1 : k < 18446744073709551616) :
    fit k = true ↔ k = 0 ∨ (9223372036854775808 ≤ k ∧ k ≤ 9223372036854775808 + inf) ∨ (9223372036854775807 - inf ≤ k ∧ k < 9223372036854775807) := by
  have e1 := inf_eq; have e2 := two63_eq; have e3 := nanW_eq
  unfold fit cand
  by_cases a : k < 9223372036854775808
  · rw [if_pos a]
    generalize hc : W (18446744073709551615 - k) = c
    have hc2 : (c : Int) = 18446744073709551615 - k := by rw [← hc]; unfold W; omega
    have hl : two63 ≤ c := by omega
    have hl2 : c < 2 * two63 := by omega
    have hs := sv_min hl hl2
    cases hn : isN c
    · have := sv_bound hn
      by_cases z : k = 9223372036854775807
      · rw [key_ge hn (by omega), beq_iff_eq]; omega
      · rw [key_neg hn (by omega), beq_iff_eq]; omega
    · rw [isN_min hl hl2] at hn
      have hn' := of_decide_eq_true hn
      rw [key_nan (by rw [isN_min hl hl2, hn]), beq_iff_eq]; omega
  · rw [if_neg a]
    generalize hc : W (k - 9223372036854775808) = c
    have hc2 : (c : Int) = k - 9223372036854775808 := by rw [← hc]; unfold W; omega
    have hl : c < two63 := by omega
    have hs := sv_pos hl
    cases hn : isN c
    · have := sv_bound hn
      rw [key_ge hn (by omega), beq_iff_eq]; omega
    · rw [isN_pos hl] at hn
      have hn' := of_decide_eq_true hn
      rw [key_nan (by rw [isN_pos hl, hn]), beq_iff_eq]; omega
theorem wd_of {k : Int} {b : Nat} (h : asks b k = true) (hf : fit k = true) (e : b = W (cand k)) : wd k = b := by
  have h2 := (asks_both h).1
  have h3 : canon b = b := by rw [beq_iff_eq] at h2; unfold I at h2; omega
  rw [fit_yes hf, ← e, h3]
theorem ref_words (k : Int) (h0 : 0 ≤ k) (h1 : k < 18446744073709551616) :
    (asks (W (IntKind.u64.wrap (k - 9223372036854775808))) k = true ∧ fit k = true ∧ wd k = W (IntKind.u64.wrap (k - 9223372036854775808)))
    ∨ (asks (W (IntKind.u64.wrap (k - 9223372036854775808))) k = false ∧ asks (W (IntKind.u64.wrap (18446744073709551615 - k))) k = true ∧ fit k = true ∧ wd k = W (IntKind.u64.wrap (18446744073709551615 - k)))
    ∨ (asks (W (IntKind.u64.wrap (k - 9223372036854775808))) k = false ∧ asks (W (IntKind.u64.wrap (18446744073709551615 - k))) k = false ∧ asks (W 9221120237041090561) k = true ∧ fit k = true ∧ wd k = W 9221120237041090561)
    ∨ (asks (W (IntKind.u64.wrap (k - 9223372036854775808))) k = false ∧ asks (W (IntKind.u64.wrap (18446744073709551615 - k))) k = false ∧ asks (W 9221120237041090561) k = false ∧ fit k = false ∧ wd k = 0) := by
  have e1 := inf_eq
  have a1 := first_word k h0 h1
  have a2 := second_word k h0 h1
  have a3 : asks (W 9221120237041090561) k = decide (k = 0) := third_word k
  have a4 := fit_iff k h0 h1
  by_cases b1 : 9223372036854775808 ≤ k ∧ k ≤ 9223372036854775808 + inf
  · have hf : fit k = true := a4.2 (by omega)
    rw [decide_eq_true b1] at a1
    exact Or.inl ⟨a1, hf, wd_of a1 hf (by rw [cand_high (by omega) h1])⟩
  · rw [decide_eq_false b1] at a1
    by_cases b2 : 9223372036854775807 - inf ≤ k ∧ k < 9223372036854775807
    · have hf : fit k = true := a4.2 (by omega)
      rw [decide_eq_true b2] at a2
      exact Or.inr (Or.inl ⟨a1, a2, hf, wd_of a2 hf (by rw [cand_low (by omega) h0])⟩)
    · rw [decide_eq_false b2] at a2
      by_cases b3 : k = 0
      · rw [decide_eq_true b3] at a3
        have hf : fit k = true := a4.2 (by omega)
        refine Or.inr (Or.inr (Or.inl ⟨a1, a2, a3, hf, ?_⟩))
        rw [fit_yes hf, b3]; decide +kernel
      · rw [decide_eq_false b3] at a3
        have hf : fit k = false := by
          cases e : fit k
          · rfl
          · have := a4.1 e; omega
        exact Or.inr (Or.inr (Or.inr ⟨a1, a2, a3, hf, fit_no hf⟩))
theorem W_wrap_lt (n : Int) : W (IntKind.u64.wrap n) < 18446744073709551616 := by rw [wrap_u64]; unfold W; omega
theorem W_nan_lt : W 9221120237041090561 < 18446744073709551616 := by decide +kernel
end Fl

open Go.ChangeShapes Go.WideShapes Go.ChangeAt Go.RowKit

namespace Fl
theorem fit_key {a : Nat} (ha : a < 18446744073709551616) : fit (key a) = true ∧ wd (key a) = canon a := by
  have e1 := inf_eq
  have e2 := two63_eq
  cases n : isN a
  · have bd := sv_bound n
    by_cases s : 0 ≤ sv a
    · have hk := key_ge n s
      have hf : fit (key a) = true := (fit_iff _ (key_bound a).1 (key_bound a).2).2 (by omega)
      refine ⟨hf, ?_⟩
      have hc := canon_ge ha n s
      have hw : W (cand (key a)) = canon a := by
        unfold cand; rw [if_neg (by omega)]; unfold W; unfold I at hc; omega
      rw [fit_yes hf, hw, canon_canon]
    · have hk := key_neg n (by omega)
      have hf : fit (key a) = true := (fit_iff _ (key_bound a).1 (key_bound a).2).2 (by omega)
      refine ⟨hf, ?_⟩
      have hc := canon_neg ha n (by omega)
      have hw : W (cand (key a)) = canon a := by
        unfold cand; rw [if_pos (by omega)]; unfold W; unfold I at hc; omega
      rw [fit_yes hf, hw, canon_canon]
  · rw [key_nan n, canon_nan n]
    have hf : fit 0 = true := by decide +kernel
    exact ⟨hf, by rw [fit_yes hf]; decide +kernel⟩
theorem wd_lt (k : Int) (h0 : 0 ≤ k) (h1 : k < 18446744073709551616) : wd k < 18446744073709551616 := by
  unfold wd; split
  · exact canon_lt (W_lt (cand_bound h0 h1).2)
  · omega
theorem key_wd {k : Int} (h : fit k = true) : (key (wd k) == k) = true := by
  rw [fit_yes h, key_canon]; exact h
end Fl
end
end Go.Proofs.Ytnhpkcphgdkdiaa
