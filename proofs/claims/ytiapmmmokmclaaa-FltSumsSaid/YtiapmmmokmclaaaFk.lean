/- Contracts of the keys and places: flt.Key, Less, Same, place, at, Steps, Mid and the document's own Key, Less, Same, over any float64 words below 2 to the 64. -/
import Derived.Test.YtiapmmmokmclaaaFc
namespace Go.Proofs.Ytiapmmmokmclaaa
open Go.RowKit

namespace Fl
theorem place_pos {b : Nat} (h : isN b = false) (hb : b < two63) : wrap64 (I b) = pl b := by
  have := two63_eq
  rw [pl_num h, sv_pos hb]; unfold I wrap64; omega
theorem place_min {b : Nat} (h : isN b = false) (h1 : ¬ b < two63) (hb : b < 18446744073709551616) : wrap64 (-wrap64 (IntKind.u64.wrap (I b - 9223372036854775808))) = pl b := by
  have := two63_eq; have := inf_eq
  have bd := sv_bound h
  have e := sv_min (b := b) (by omega) (by omega)
  rw [pl_num h, wrap_u64]; unfold I wrap64; omega
theorem at_min {p : Int} (h : p < 0) (h1 : -(inf : Int) ≤ p) : IntKind.u64.wrap (IntKind.u64.wrap (wrap64 (-p)) + 9223372036854775808) = atI p := by
  have := two63_eq; have := inf_eq
  unfold atI; rw [if_pos h, wrap_u64, wrap_u64]; unfold wrap64; omega
theorem at_pos {p : Int} (h : ¬ p < 0) (h1 : p ≤ inf) : IntKind.u64.wrap p = atI p := by
  have := two63_eq; have := inf_eq
  unfold atI; rw [if_neg h, wrap_u64]; omega
theorem steps_end {a b : Nat} (h : lt a b = true) : IntKind.u64.wrap (IntKind.u64.wrap (IntKind.u64.wrap (pl b) - IntKind.u64.wrap (pl a)) - 1) = stp a b := by
  have := stp_bound a b
  rw [stp_yes h] at *
  simp only [wrap_u64]; omega
theorem mid_end {a b : Nat} (h2 : (stp a b == 0) = false) :
    wrap64 (IntKind.u64.wrap (IntKind.u64.wrap (IntKind.u64.wrap (pl a) + 1) + IntKind.u64.wrap ((stp a b).tdiv 2))) = pl a + 1 + stp a b / 2
    ∧ -(inf : Int) ≤ pl a + 1 + stp a b / 2 ∧ pl a + 1 + stp a b / 2 ≤ inf := by
  have := inf_eq
  have b1 := pl_bound a
  have b2 := pl_bound b
  have b3 : ¬ stp a b = 0 := by simpa using h2
  have hl : lt a b = true := by
    cases e : lt a b
    · exact absurd (stp_no e) b3
    · rfl
  have b4 := stp_bound a b
  have b5 := stp_yes hl
  have b6 := lt_true.1 hl
  rw [Int.tdiv_eq_ediv_of_nonneg b4.1]
  simp only [wrap_u64]; unfold wrap64; omega
theorem mid_no {a b : Nat} (h : isN a = true ∨ (stp a b == 0) = true) : midOk a b = false ∧ midW a b = 0 := by
  have e : midOk a b = false := by
    unfold midOk
    rcases h with h | h
    · rw [h]; rfl
    · rw [h]; simp
  exact ⟨e, by unfold midW; rw [if_neg (by simp [e])]⟩
theorem mid_yes {a b : Nat} (h : isN a = false) (h2 : (stp a b == 0) = false) : midOk a b = true ∧ midW a b = W (atI (pl a + 1 + stp a b / 2)) := by
  have e : midOk a b = true := by unfold midOk; rw [h, h2]; rfl
  exact ⟨e, by unfold midW; rw [if_pos e]⟩
end Fl

theorem ret_fb {a b : Nat} {c d : Bool} (h : a = b) (h2 : c = d) : Ending.returned (.tuple #[.float .f64 a, .bool c]) = .returned (.tuple #[.float .f64 b, .bool d]) := by rw [h, h2]

set_option maxHeartbeats 400000 in
theorem key_c (b : Nat) (w : World) (hb : b < 18446744073709551616) :
    Calls Try.prog 19 #[.float .f64 b] w fun e w' => e = .returned (.int .u64 (Fl.key b)) ∧ w = w' := by
  by_cases h1 : Fl.isN b = true
  · go_enter Try.func19, Try.ntmps19
    go_wp2_with (go_at_call 12; refine (class_c _ _).mono ?_; rintro e w' ⟨rfl, rfl⟩)
    go_ret
    exact ⟨ret_u64 (Fl.key_nan h1).symm, rfl⟩
  · have h1 : Fl.isN b = false := by simpa using h1
    by_cases h2 : 0 ≤ Fl.sv b
    · have c1 := Fl.canon_low hb h1 h2
      have c2 := Lib.hid (Fl.key_end_ge hb h1 h2)
      clear h2 hb
      go_enter Try.func19, Try.ntmps19
      go_wp2_with (first | (go_at_call 12; refine (class_c _ _).mono ?_; rintro e w' ⟨rfl, rfl⟩) | (go_at_call 15; refine (canon_c _ _).mono ?_; rintro e w' ⟨rfl, rfl⟩))
      go_ret
      exact ⟨ret_u64 c2.out, rfl⟩
    · have c1 := Fl.canon_high hb h1 h2
      have c2 := Lib.hid (Fl.key_end_neg hb h1 h2)
      clear h2 hb
      go_enter Try.func19, Try.ntmps19
      go_wp2_with (first | (go_at_call 12; refine (class_c _ _).mono ?_; rintro e w' ⟨rfl, rfl⟩) | (go_at_call 15; refine (canon_c _ _).mono ?_; rintro e w' ⟨rfl, rfl⟩))
      go_ret
      exact ⟨ret_u64 c2.out, rfl⟩

set_option maxHeartbeats 400000 in
theorem refKey_c (b : Nat) (w : World) (hb : b < 18446744073709551616) :
    Calls Try.prog 20 #[.float .f64 b] w fun e w' => e = .returned (.int .u64 (Fl.key b)) ∧ w = w' := by
  by_cases h1 : Fl.isN b = true
  · go_enter Try.func20, Try.ntmps20
    go_wp2_with fail
    go_ret
    exact ⟨ret_u64 (Fl.key_nan h1).symm, rfl⟩
  · have h1 : Fl.isN b = false := by simpa using h1
    by_cases h2 : 0 ≤ Fl.sv b
    · have c1 := Fl.canon_low' hb h1 h2
      have c2 := Lib.hid (Fl.key_end_ge hb h1 h2)
      clear h2 hb
      go_enter Try.func20, Try.ntmps20
      go_wp2_with (first | (go_at_call 37; refine (bits_c _ _).mono ?_; rintro e w' ⟨rfl, rfl⟩) | (go_at_call 16; refine (refCanon_c _ _).mono ?_; rintro e w' ⟨rfl, rfl⟩))
      go_ret
      exact ⟨ret_u64 c2.out, rfl⟩
    · have c1 := Fl.canon_high' hb h1 h2
      have c2 := Lib.hid (Fl.key_end_neg hb h1 h2)
      clear h2 hb
      go_enter Try.func20, Try.ntmps20
      go_wp2_with (first | (go_at_call 37; refine (bits_c _ _).mono ?_; rintro e w' ⟨rfl, rfl⟩) | (go_at_call 16; refine (refCanon_c _ _).mono ?_; rintro e w' ⟨rfl, rfl⟩))
      go_ret
      exact ⟨ret_u64 c2.out, rfl⟩

set_option maxHeartbeats 400000 in
theorem less_c (a b : Nat) (w : World) (ha : a < 18446744073709551616) (hb : b < 18446744073709551616) :
    Calls Try.prog 23 #[.float .f64 a, .float .f64 b] w fun e w' => e = .returned (.bool (Fl.lt a b)) ∧ w = w' := by
  go_enter Try.func23, Try.ntmps23
  go_wp2_with (go_at_call 19; refine (key_c _ _ (by assumption)).mono ?_; rintro e w' ⟨rfl, rfl⟩)
  go_ret
  exact ⟨rfl, rfl⟩

set_option maxHeartbeats 400000 in
theorem refLess_c (a b : Nat) (w : World) (ha : a < 18446744073709551616) (hb : b < 18446744073709551616) :
    Calls Try.prog 24 #[.float .f64 a, .float .f64 b] w fun e w' => e = .returned (.bool (Fl.lt a b)) ∧ w = w' := by
  go_enter Try.func24, Try.ntmps24
  go_wp2_with (go_at_call 20; refine (refKey_c _ _ (by assumption)).mono ?_; rintro e w' ⟨rfl, rfl⟩)
  go_ret
  exact ⟨rfl, rfl⟩

set_option maxHeartbeats 400000 in
theorem same_c (a b : Nat) (w : World) (ha : a < 18446744073709551616) (hb : b < 18446744073709551616) :
    Calls Try.prog 25 #[.float .f64 a, .float .f64 b] w fun e w' => e = .returned (.bool (Fl.same a b)) ∧ w = w' := by
  go_enter Try.func25, Try.ntmps25
  go_wp2_with (go_at_call 19; refine (key_c _ _ (by assumption)).mono ?_; rintro e w' ⟨rfl, rfl⟩)
  go_ret
  exact ⟨rfl, rfl⟩

set_option maxHeartbeats 400000 in
theorem refSame_c (a b : Nat) (w : World) (ha : a < 18446744073709551616) (hb : b < 18446744073709551616) :
    Calls Try.prog 26 #[.float .f64 a, .float .f64 b] w fun e w' => e = .returned (.bool (Fl.same a b)) ∧ w = w' := by
  go_enter Try.func26, Try.ntmps26
  go_wp2_with (go_at_call 20; refine (refKey_c _ _ (by assumption)).mono ?_; rintro e w' ⟨rfl, rfl⟩)
  go_ret
  exact ⟨rfl, rfl⟩

set_option maxHeartbeats 400000 in
theorem place_c (b : Nat) (w : World) (hb : b < 18446744073709551616) :
    Calls Try.prog 42 #[.float .f64 b] w fun e w' => e = .returned (.int .i64 (Fl.pl b)) ∧ w = w' := by
  by_cases h1 : Fl.isN b = true
  · go_enter Try.func42, Try.ntmps42
    go_wp2_with (go_at_call 12; refine (class_c _ _).mono ?_; rintro e w' ⟨rfl, rfl⟩)
    go_ret
    have e : (-9218868437227405313 : Int) = Fl.pl b := by rw [Fl.pl_nan h1, Fl.inf_eq]; rfl
    exact ⟨ret_i64 e, rfl⟩
  · have h1 : Fl.isN b = false := by simpa using h1
    by_cases h2 : b < Fl.two63
    · have c1 : decide (Fl.I b < 9223372036854775808) = true := decide_eq_true (show Fl.I b < 9223372036854775808 by have := Fl.two63_eq; unfold Fl.I; omega)
      have c2 := Lib.hid (Fl.place_pos h1 h2)
      clear h2 hb
      go_enter Try.func42, Try.ntmps42
      go_wp2_with (go_at_call 12; refine (class_c _ _).mono ?_; rintro e w' ⟨rfl, rfl⟩)
      go_ret
      exact ⟨ret_i64 c2.out, rfl⟩
    · have c1 : decide (Fl.I b < 9223372036854775808) = false := decide_eq_false (show ¬ Fl.I b < 9223372036854775808 by have := Fl.two63_eq; unfold Fl.I; omega)
      have c2 := Lib.hid (Fl.place_min h1 h2 hb)
      clear h2 hb
      go_enter Try.func42, Try.ntmps42
      go_wp2_with (go_at_call 12; refine (class_c _ _).mono ?_; rintro e w' ⟨rfl, rfl⟩)
      go_ret
      exact ⟨ret_i64 c2.out, rfl⟩

set_option maxHeartbeats 400000 in
theorem at_c (p : Int) (w : World) (h1 : -(Fl.inf : Int) ≤ p) (h2 : p ≤ Fl.inf) :
    Calls Try.prog 41 #[.int .i64 p] w fun e w' => e = .returned (.float .f64 (Fl.W (Fl.atI p))) ∧ w = w' := by
  by_cases h : p < 0
  · have c2 := Lib.hid (Fl.at_min h h1)
    clear h1 h2
    go_enter Try.func41, Try.ntmps41
    go_wp2_with fail
    go_ret
    exact ⟨ret_f64 (congrArg Fl.W c2.out), rfl⟩
  · have c2 := Lib.hid (Fl.at_pos h h2)
    clear h1 h2
    go_enter Try.func41, Try.ntmps41
    go_wp2_with fail
    go_ret
    exact ⟨ret_f64 (congrArg Fl.W c2.out), rfl⟩

set_option maxHeartbeats 400000 in
theorem steps_c (a b : Nat) (w : World) (ha : a < 18446744073709551616) (hb : b < 18446744073709551616) :
    Calls Try.prog 27 #[.float .f64 a, .float .f64 b] w fun e w' => e = .returned (.int .u64 (Fl.stp a b)) ∧ w = w' := by
  cases h : Fl.lt a b
  · have c2 := Lib.hid (Fl.stp_no h)
    go_enter Try.func27, Try.ntmps27
    go_wp2_with (go_at_call 23; refine (less_c _ _ _ (by assumption) (by assumption)).mono ?_; rintro e w' ⟨rfl, rfl⟩)
    go_ret
    exact ⟨ret_u64 c2.out.symm, rfl⟩
  · have c2 := Lib.hid (Fl.steps_end h)
    go_enter Try.func27, Try.ntmps27
    go_wp2_with (first | (go_at_call 23; refine (less_c _ _ _ (by assumption) (by assumption)).mono ?_; rintro e w' ⟨rfl, rfl⟩) | (go_at_call 42; refine (place_c _ _ (by assumption)).mono ?_; rintro e w' ⟨rfl, rfl⟩))
    go_ret
    exact ⟨ret_u64 c2.out, rfl⟩

set_option maxHeartbeats 400000 in
theorem mid_c (a b : Nat) (w : World) (ha : a < 18446744073709551616) (hb : b < 18446744073709551616) :
    Calls Try.prog 21 #[.float .f64 a, .float .f64 b] w fun e w' => e = .returned (.tuple #[.float .f64 (Fl.midW a b), .bool (Fl.midOk a b)]) ∧ w = w' := by
  cases h : Fl.isN a
  · cases h2 : Fl.stp a b == 0
    · have m1 := Lib.hid (Fl.mid_yes h h2)
      have m2 := Lib.hid (Fl.mid_end h2)
      go_enter Try.func21, Try.ntmps21
      go_wp2_with (first | (go_at_call 27; refine (steps_c _ _ _ (by assumption) (by assumption)).mono ?_; rintro e w' ⟨rfl, rfl⟩) | (go_at_call 12; refine (class_c _ _).mono ?_; rintro e w' ⟨rfl, rfl⟩) | (go_at_call 42; refine (place_c _ _ (by assumption)).mono ?_; rintro e w' ⟨rfl, rfl⟩))
      rw [m2.out.1]
      refine (at_c _ _ m2.out.2.1 m2.out.2.2).mono ?_
      rintro e w' ⟨rfl, rfl⟩
      go_wp2_with fail
      go_ret2
      exact ⟨ret_fb m1.out.2.symm m1.out.1.symm, rfl⟩
    · have m1 := Lib.hid (Fl.mid_no (Or.inr h2))
      go_enter Try.func21, Try.ntmps21
      go_wp2_with (first | (go_at_call 27; refine (steps_c _ _ _ (by assumption) (by assumption)).mono ?_; rintro e w' ⟨rfl, rfl⟩) | (go_at_call 12; refine (class_c _ _).mono ?_; rintro e w' ⟨rfl, rfl⟩))
      go_ret2
      exact ⟨ret_fb m1.out.2.symm m1.out.1.symm, rfl⟩
  · have m1 := Lib.hid (Fl.mid_no (b := b) (Or.inl h))
    cases h2 : Fl.stp a b == 0
    all_goals
      go_enter Try.func21, Try.ntmps21
      go_wp2_with (first | (go_at_call 27; refine (steps_c _ _ _ (by assumption) (by assumption)).mono ?_; rintro e w' ⟨rfl, rfl⟩) | (go_at_call 12; refine (class_c _ _).mono ?_; rintro e w' ⟨rfl, rfl⟩))
      go_ret2
      exact ⟨ret_fb m1.out.2.symm m1.out.1.symm, rfl⟩

set_option maxHeartbeats 400000 in
theorem awake_c (w : World) :
    Calls Try.prog 11 #[] w fun e w' => e = .returned (.bool true) ∧ w = w' := by
  have k0 : (Fl.key 0 == 9223372036854775808) = true := by decide +kernel
  have k1 : Fl.midOk 0 4607182418800017408 = true := by decide +kernel
  have k2 : Fl.ltB 0 (Fl.midW 0 4607182418800017408) = true := by decide +kernel
  have k3 : Fl.ltB (Fl.midW 0 4607182418800017408) 4607182418800017408 = true := by decide +kernel
  have k4 : (Fl.cls 13830554455654793216 == 2) = true := by decide +kernel
  go_enter Try.func11, Try.ntmps11
  go_wp2_with (first | (go_at_call 21; refine (mid_c _ _ _ (by decide) (by decide)).mono ?_; rintro e w' ⟨rfl, rfl⟩) | (go_at_call 19; refine (key_c _ _ (by decide)).mono ?_; rintro e w' ⟨rfl, rfl⟩) | (go_at_call 12; refine (class_c _ _).mono ?_; rintro e w' ⟨rfl, rfl⟩))
  go_ret
  exact ⟨rfl, rfl⟩

end Go.Proofs.Ytiapmmmokmclaaa
