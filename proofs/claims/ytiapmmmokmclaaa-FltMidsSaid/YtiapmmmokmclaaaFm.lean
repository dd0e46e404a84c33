/- Contracts of the document's own Steps and Mid, over any float64 words below 2 to the 64. -/
import Derived.Test.YtiapmmmokmclaaaFo
namespace Go.Proofs.Ytiapmmmokmclaaa
open Go.RowKit

namespace Fl
theorem atw {p : Int} (h1 : -(inf : Int) ≤ p) (h2 : p ≤ inf) :
    isN (W (atI p)) = false ∧ sv (W (atI p)) = p ∧ canon (W (atI p)) = W (atI p) := by
  have e1 := inf_eq
  have e2 := two63_eq
  by_cases h : p < 0
  · have ea : atI p = two63 - p := by unfold atI; rw [if_pos h]
    have a : two63 ≤ W (atI p) := by rw [ea]; unfold W; omega
    have b : W (atI p) < 2 * two63 := by rw [ea]; unfold W; omega
    have n : isN (W (atI p)) = false := by rw [isN_min a b, ea]; exact decide_eq_false (by unfold W; omega)
    have s : sv (W (atI p)) = p := by rw [sv_min a b, ea]; unfold W; omega
    exact ⟨n, s, canon_self n (by omega)⟩
  · have ea : atI p = p := by unfold atI; rw [if_neg h]
    have b : W (atI p) < two63 := by rw [ea]; unfold W; omega
    have n : isN (W (atI p)) = false := by rw [isN_pos b, ea]; exact decide_eq_false (by unfold W; omega)
    have s : sv (W (atI p)) = p := by rw [sv_pos b, ea]; unfold W; omega
    refine ⟨n, s, ?_⟩
    by_cases z : p = 0
    · rw [canon_zero n (by omega), ea, z]; rfl
    · exact canon_self n (by omega)
/-- The key as the count takes it: a NaN stands right below what is least. -/
def kx (p : Int) : Int := if p < 0 then 9223372036854775807 + p else 9223372036854775808 + p
theorem key_kx {b : Nat} (h : (key b == 0) = false) : key b = kx (pl b) := by
  have e1 := inf_eq; have e2 := two63_eq
  have bd := pl_bound b
  have h' : ¬ key b = 0 := by simpa using h
  rw [key_pl] at *
  unfold kp at *; unfold kx
  by_cases a : pl b = -(inf : Int) - 1
  · rw [if_pos a] at h'; omega
  · rw [if_neg a]; rw [e2]; split <;> omega
theorem nan_kx {b : Nat} (h : (key b == 0) = true) : IntKind.u64.wrap (key (W 18442240474082181120) - 1) = kx (pl b) := by
  have e1 := inf_eq; have e2 := two63_eq
  have bd := pl_bound b
  have h' : key b = 0 := by simpa using h
  have c : key (W 18442240474082181120) = 4503599627370495 := by decide +kernel
  rw [key_pl] at h'
  rw [c, wrap_u64]
  unfold kp at h'; unfold kx
  by_cases a : pl b = -(inf : Int) - 1
  · rw [if_pos (by omega)]; omega
  · rw [if_neg a, e2] at h'; split at h' <;> omega
theorem key_high {b : Nat} (h : (key b == 0) = false) : decide (9223372036854775807 < key b) = decide (0 ≤ pl b) := by
  have bd := pl_bound b; have e1 := inf_eq
  rw [key_kx h]; unfold kx; congr 1; rw [eq_iff_iff]; split <;> omega
theorem key_low {b : Nat} (h : (key b == 0) = false) : decide (key b < 9223372036854775807) = decide (pl b < 0) := by
  have bd := pl_bound b; have e1 := inf_eq
  rw [key_kx h]; unfold kx; congr 1; rw [eq_iff_iff]; split <;> omega
theorem above_zero {a b : Nat} (h : lt a b = true) : (key b == 0) = false := by
  have := key_bound a
  unfold lt at h; simp at h; rw [beq_eq_false_iff_ne]; omega
theorem count_both {a b : Nat} (h : lt a b = true) (x : Int) (hx : x = kx (pl a)) (l : pl a < 0) (m : 0 ≤ pl b) : IntKind.u64.wrap (IntKind.u64.wrap (IntKind.u64.wrap (key b - x) - 1) - 1) = stp a b := by
  have b1 := pl_bound a; have b2 := pl_bound b; have e := inf_eq
  rw [key_kx (above_zero h), hx, stp_yes h]; unfold kx; rw [if_pos l, if_neg (by omega)]; simp only [wrap_u64]; omega
theorem count_one {a b : Nat} (h : lt a b = true) (x : Int) (hx : x = kx (pl a)) (l : 0 ≤ pl a ∨ pl b < 0) : IntKind.u64.wrap (IntKind.u64.wrap (key b - x) - 1) = stp a b := by
  have b1 := pl_bound a; have b2 := pl_bound b; have e := inf_eq
  have b3 := lt_true.1 h
  rw [key_kx (above_zero h), hx, stp_yes h]; unfold kx; simp only [wrap_u64]; split <;> split <;> omega
theorem nan_pl {b : Nat} (h : (key b == 0) = true) : pl b < 0 := by
  have e := nan_kx h
  have bd := pl_bound b; have e1 := inf_eq
  have c : IntKind.u64.wrap (key (W 18442240474082181120) - 1) = 4503599627370494 := by decide +kernel
  rw [c] at e; unfold kx at e; split at e <;> omega
theorem low_const : decide (IntKind.u64.wrap (key (W 18442240474082181120) - 1) < 9223372036854775807) = true := by decide +kernel
theorem not_above {a b : Nat} : lt a b = false ↔ decide (key b ≤ key a) = true := by unfold lt; rw [decide_eq_false_iff_not, decide_eq_true_iff]; omega
theorem above {a b : Nat} (h : lt a b = true) : decide (key b ≤ key a) = false := by
  unfold lt at h; simp at h; exact decide_eq_false (by omega)
theorem W_inf_lt : W 18442240474082181120 < 18446744073709551616 := by decide +kernel
end Fl

set_option maxHeartbeats 400000 in
theorem infM_c (w : World) :
    Calls Try.prog 43 #[.int .i64 (-1)] w fun e w' => e = .returned (.float .f64 (Fl.W 18442240474082181120)) ∧ w = w' := by
  go_enter Try.func43, Try.ntmps43
  go_wp2_with fail
  go_ret
  exact ⟨rfl, rfl⟩

set_option maxHeartbeats 1000000 in
theorem refSteps_c (a b : Nat) (w : World) (ha : a < 18446744073709551616) (hb : b < 18446744073709551616) :
    Calls Try.prog 28 #[.float .f64 a, .float .f64 b] w fun e w' => e = .returned (.int .u64 (Fl.stp a b)) ∧ w = w' := by
  have hi := Fl.W_inf_lt
  cases h : Fl.lt a b
  · have h' := Fl.not_above.1 h
    have c := Lib.hid (Fl.stp_no h)
    go_enter Try.func28, Try.ntmps28
    go_wp2_with (first
        | (go_at_call 20; refine (refKey_c _ _ (by assumption)).mono ?_; rintro e w' ⟨rfl, rfl⟩)
        | (go_at_call 43; refine (infM_c _).mono ?_; rintro e w' ⟨rfl, rfl⟩))
    go_ret; exact ⟨ret_u64 c.out.symm, rfl⟩
  · have h' := Fl.above h
    have z := Fl.above_zero h
    have kh := Fl.key_high z
    cases n : Fl.key a == 0
    · have kl := Fl.key_low n
      by_cases l : Fl.pl a < 0 <;> by_cases m : 0 ≤ Fl.pl b
      · have c := Lib.hid (Fl.count_both h _ (Fl.key_kx n) l m)
        rw [decide_eq_true l] at kl; rw [decide_eq_true m] at kh
        clear l m
        go_enter Try.func28, Try.ntmps28
        go_wp2_with (first
        | (go_at_call 20; refine (refKey_c _ _ (by assumption)).mono ?_; rintro e w' ⟨rfl, rfl⟩)
        | (go_at_call 43; refine (infM_c _).mono ?_; rintro e w' ⟨rfl, rfl⟩))
        go_ret; exact ⟨ret_u64 c.out, rfl⟩
      · have c := Lib.hid (Fl.count_one h _ (Fl.key_kx n) (Or.inr (by omega)))
        rw [decide_eq_true l] at kl; rw [decide_eq_false m] at kh
        clear l m
        go_enter Try.func28, Try.ntmps28
        go_wp2_with (first
        | (go_at_call 20; refine (refKey_c _ _ (by assumption)).mono ?_; rintro e w' ⟨rfl, rfl⟩)
        | (go_at_call 43; refine (infM_c _).mono ?_; rintro e w' ⟨rfl, rfl⟩))
        go_ret; exact ⟨ret_u64 c.out, rfl⟩
      · have c := Lib.hid (Fl.count_one h _ (Fl.key_kx n) (Or.inl (by omega)))
        rw [decide_eq_false l] at kl; rw [decide_eq_true m] at kh
        clear l m
        go_enter Try.func28, Try.ntmps28
        go_wp2_with (first
        | (go_at_call 20; refine (refKey_c _ _ (by assumption)).mono ?_; rintro e w' ⟨rfl, rfl⟩)
        | (go_at_call 43; refine (infM_c _).mono ?_; rintro e w' ⟨rfl, rfl⟩))
        go_ret; exact ⟨ret_u64 c.out, rfl⟩
      · have c := Lib.hid (Fl.count_one h _ (Fl.key_kx n) (Or.inl (by omega)))
        rw [decide_eq_false l] at kl; rw [decide_eq_false m] at kh
        clear l m
        go_enter Try.func28, Try.ntmps28
        go_wp2_with (first
        | (go_at_call 20; refine (refKey_c _ _ (by assumption)).mono ?_; rintro e w' ⟨rfl, rfl⟩)
        | (go_at_call 43; refine (infM_c _).mono ?_; rintro e w' ⟨rfl, rfl⟩))
        go_ret; exact ⟨ret_u64 c.out, rfl⟩
    · have kl := Fl.low_const
      have l := Fl.nan_pl n
      by_cases m : 0 ≤ Fl.pl b
      · have c := Lib.hid (Fl.count_both h _ (Fl.nan_kx n) l m)
        rw [decide_eq_true m] at kh
        clear l m
        go_enter Try.func28, Try.ntmps28
        go_wp2_with (first
        | (go_at_call 20; refine (refKey_c _ _ (by assumption)).mono ?_; rintro e w' ⟨rfl, rfl⟩)
        | (go_at_call 43; refine (infM_c _).mono ?_; rintro e w' ⟨rfl, rfl⟩))
        go_ret; exact ⟨ret_u64 c.out, rfl⟩
      · have c := Lib.hid (Fl.count_one h _ (Fl.nan_kx n) (Or.inr (by omega)))
        rw [decide_eq_false m] at kh
        clear l m
        go_enter Try.func28, Try.ntmps28
        go_wp2_with (first
        | (go_at_call 20; refine (refKey_c _ _ (by assumption)).mono ?_; rintro e w' ⟨rfl, rfl⟩)
        | (go_at_call 43; refine (infM_c _).mono ?_; rintro e w' ⟨rfl, rfl⟩))
        go_ret; exact ⟨ret_u64 c.out, rfl⟩

namespace Fl
theorem of_kp {p : Int} (h1 : -(inf : Int) ≤ p) (h2 : p ≤ inf) : fit (kp p) = true ∧ wd (kp p) = W (atI p) ∧ 0 ≤ kp p ∧ kp p < 18446744073709551616 := by
  have e1 := inf_eq; have e2 := two63_eq
  obtain ⟨n, s, c⟩ := atw h1 h2
  have hk : kp p = if p < 0 then 9223372036854775807 + p else 9223372036854775808 + p := by
    unfold kp; rw [if_neg (by omega), e2]; rfl
  have hb : 0 ≤ kp p ∧ kp p < 18446744073709551616 := by rw [hk]; split <;> omega
  have hf : fit (kp p) = true := (fit_iff _ hb.1 hb.2).2 (by rw [hk]; split <;> omega)
  have hw : cand (kp p) = atI p := by
    unfold cand atI; rw [hk]
    by_cases h : p < 0
    · rw [if_pos h, if_pos h, if_pos (by omega)]; omega
    · rw [if_neg h, if_neg h, if_neg (by omega)]; omega
  exact ⟨hf, by rw [fit_yes hf, hw, c], hb⟩
theorem key_pos {a : Nat} (h : isN a = false) : (key a == 0) = false := by
  have bd := sv_bound h; have e1 := inf_eq; have e2 := two63_eq
  rw [beq_eq_false_iff_ne]
  by_cases s : 0 ≤ sv a
  · rw [key_ge h s]; omega
  · rw [key_neg h (by omega)]; omega
theorem first_count {a b : Nat} (n : isN a = false) (z : (stp a b == 0) = false) :
    IntKind.u64.wrap (IntKind.u64.wrap (key a + 1) + IntKind.u64.wrap ((stp a b).tdiv 2)) = kx (pl a) + 1 + stp a b / 2 := by
  obtain ⟨_, l1, l2⟩ := mid_end z
  have b4 := stp_bound a b
  have b1 := pl_bound a; have e1 := inf_eq
  rw [key_kx (key_pos n), Int.tdiv_eq_ediv_of_nonneg b4.1]; simp only [wrap_u64]; unfold kx; split <;> omega
theorem count_up {a b : Nat} (n : isN a = false) (z : (stp a b == 0) = false) (l : pl a < 0) (m : 0 ≤ pl a + 1 + stp a b / 2) :
    decide (9223372036854775807 ≤ IntKind.u64.wrap (IntKind.u64.wrap (key a + 1) + IntKind.u64.wrap ((stp a b).tdiv 2))) = true
    ∧ IntKind.u64.wrap (IntKind.u64.wrap (IntKind.u64.wrap (key a + 1) + IntKind.u64.wrap ((stp a b).tdiv 2)) + 1) = kp (pl a + 1 + stp a b / 2) := by
  obtain ⟨_, l1, l2⟩ := mid_end z
  have e1 := inf_eq; have e2 := two63_eq
  have b1 := pl_bound a
  rw [first_count n z]; unfold kx kp
  rw [if_pos l, if_neg (by omega), if_neg (by omega), wrap_u64, e2]
  exact ⟨decide_eq_true (by omega), by omega⟩
theorem count_under {a b : Nat} (n : isN a = false) (z : (stp a b == 0) = false) (l : pl a < 0) (m : ¬ 0 ≤ pl a + 1 + stp a b / 2) :
    decide (9223372036854775807 ≤ IntKind.u64.wrap (IntKind.u64.wrap (key a + 1) + IntKind.u64.wrap ((stp a b).tdiv 2))) = false
    ∧ IntKind.u64.wrap (IntKind.u64.wrap (key a + 1) + IntKind.u64.wrap ((stp a b).tdiv 2)) = kp (pl a + 1 + stp a b / 2) := by
  obtain ⟨_, l1, l2⟩ := mid_end z
  have e1 := inf_eq; have e2 := two63_eq
  have b1 := pl_bound a
  rw [first_count n z]; unfold kx kp
  rw [if_pos l, if_neg (by omega), if_pos (by omega), e2]
  exact ⟨decide_eq_false (by omega), by omega⟩
theorem count_over {a b : Nat} (n : isN a = false) (z : (stp a b == 0) = false) (l : ¬ pl a < 0) :
    IntKind.u64.wrap (IntKind.u64.wrap (key a + 1) + IntKind.u64.wrap ((stp a b).tdiv 2)) = kp (pl a + 1 + stp a b / 2) := by
  obtain ⟨_, l1, l2⟩ := mid_end z
  have e1 := inf_eq; have e2 := two63_eq
  have b1 := pl_bound a
  have b4 := stp_bound a b
  rw [first_count n z]; unfold kx kp
  rw [if_neg l, if_neg (by omega), if_neg (by omega), e2]
  omega
theorem stp_nan_right {a b : Nat} (h : isN b = true) : (stp a b == 0) = true := by rw [stp_no (lt_nan_right a h)]; rfl
end Fl

set_option maxHeartbeats 1000000 in
theorem refMid_c (a b : Nat) (w : World) (ha : a < 18446744073709551616) (hb : b < 18446744073709551616) :
    Calls Try.prog 22 #[.float .f64 a, .float .f64 b] w fun e w' => e = .returned (.tuple #[.float .f64 (Fl.midW a b), .bool (Fl.midOk a b)]) ∧ Below w.heap.size w w' := by
  cases n : Fl.isN a
  · cases m : Fl.isN b
    · cases z : Fl.stp a b == 0
      · have e := Lib.hid (Fl.mid_yes n z)
        obtain ⟨_, l1, l2⟩ := Fl.mid_end z
        have o := Lib.hid (Fl.of_kp l1 l2)
        have kl := Fl.key_low (Fl.key_pos n)
        by_cases l : Fl.pl a < 0
        · rw [decide_eq_true l] at kl
          by_cases q : 0 ≤ Fl.pl a + 1 + Fl.stp a b / 2
          · obtain ⟨t1, t2⟩ := Fl.count_up n z l q
            have c := Lib.hid t2
            clear t2 l1 l2 l q
            go_enter Try.func22, Try.ntmps22
            go_wp2_with (first
        | (go_at_call 20; refine (refKey_c _ _ (by assumption)).mono ?_; rintro e w' ⟨rfl, rfl⟩)
        | (go_at_call 28; refine (refSteps_c _ _ _ (by assumption) (by assumption)).mono ?_; rintro e w' ⟨rfl, rfl⟩))
            rw [c.out]
            refine (refOf_c _ _ o.out.2.2.1 o.out.2.2.2).mono ?_
            rintro e' w' ⟨rfl, hq⟩
            rw [o.out.1, o.out.2.1]
            go_wp2_with (first
        | (go_at_call 20; refine (refKey_c _ _ (by assumption)).mono ?_; rintro e w' ⟨rfl, rfl⟩)
        | (go_at_call 28; refine (refSteps_c _ _ _ (by assumption) (by assumption)).mono ?_; rintro e w' ⟨rfl, rfl⟩))
            go_ret2; exact ⟨ret_fb e.out.2.symm e.out.1.symm, hq⟩
          · obtain ⟨t1, t2⟩ := Fl.count_under n z l q
            have c := Lib.hid t2
            clear t2 l1 l2 l q
            go_enter Try.func22, Try.ntmps22
            go_wp2_with (first
        | (go_at_call 20; refine (refKey_c _ _ (by assumption)).mono ?_; rintro e w' ⟨rfl, rfl⟩)
        | (go_at_call 28; refine (refSteps_c _ _ _ (by assumption) (by assumption)).mono ?_; rintro e w' ⟨rfl, rfl⟩))
            rw [c.out]
            refine (refOf_c _ _ o.out.2.2.1 o.out.2.2.2).mono ?_
            rintro e' w' ⟨rfl, hq⟩
            rw [o.out.1, o.out.2.1]
            go_wp2_with (first
        | (go_at_call 20; refine (refKey_c _ _ (by assumption)).mono ?_; rintro e w' ⟨rfl, rfl⟩)
        | (go_at_call 28; refine (refSteps_c _ _ _ (by assumption) (by assumption)).mono ?_; rintro e w' ⟨rfl, rfl⟩))
            go_ret2; exact ⟨ret_fb e.out.2.symm e.out.1.symm, hq⟩
        · rw [decide_eq_false l] at kl
          have c := Lib.hid (Fl.count_over n z l)
          clear l1 l2 l
          go_enter Try.func22, Try.ntmps22
          go_wp2_with (first
        | (go_at_call 20; refine (refKey_c _ _ (by assumption)).mono ?_; rintro e w' ⟨rfl, rfl⟩)
        | (go_at_call 28; refine (refSteps_c _ _ _ (by assumption) (by assumption)).mono ?_; rintro e w' ⟨rfl, rfl⟩))
          rw [c.out]
          refine (refOf_c _ _ o.out.2.2.1 o.out.2.2.2).mono ?_
          rintro e' w' ⟨rfl, hq⟩
          rw [o.out.1, o.out.2.1]
          go_wp2_with (first
        | (go_at_call 20; refine (refKey_c _ _ (by assumption)).mono ?_; rintro e w' ⟨rfl, rfl⟩)
        | (go_at_call 28; refine (refSteps_c _ _ _ (by assumption) (by assumption)).mono ?_; rintro e w' ⟨rfl, rfl⟩))
          go_ret2; exact ⟨ret_fb e.out.2.symm e.out.1.symm, hq⟩
      · have e := Lib.hid (Fl.mid_no (Or.inr z))
        go_enter Try.func22, Try.ntmps22
        go_wp2_with (first
        | (go_at_call 20; refine (refKey_c _ _ (by assumption)).mono ?_; rintro e w' ⟨rfl, rfl⟩)
        | (go_at_call 28; refine (refSteps_c _ _ _ (by assumption) (by assumption)).mono ?_; rintro e w' ⟨rfl, rfl⟩))
        go_ret2; exact ⟨ret_fb e.out.2.symm e.out.1.symm, Below.refl _ _⟩
    · have e := Lib.hid (Fl.mid_no (a := a) (Or.inr (Fl.stp_nan_right m)))
      go_enter Try.func22, Try.ntmps22
      go_wp2_with (first
        | (go_at_call 20; refine (refKey_c _ _ (by assumption)).mono ?_; rintro e w' ⟨rfl, rfl⟩)
        | (go_at_call 28; refine (refSteps_c _ _ _ (by assumption) (by assumption)).mono ?_; rintro e w' ⟨rfl, rfl⟩))
      go_ret2; exact ⟨ret_fb e.out.2.symm e.out.1.symm, Below.refl _ _⟩
  · have e := Lib.hid (Fl.mid_no (b := b) (Or.inl n))
    go_enter Try.func22, Try.ntmps22
    go_wp2_with (first
        | (go_at_call 20; refine (refKey_c _ _ (by assumption)).mono ?_; rintro e w' ⟨rfl, rfl⟩)
        | (go_at_call 28; refine (refSteps_c _ _ _ (by assumption) (by assumption)).mono ?_; rintro e w' ⟨rfl, rfl⟩))
    go_ret2; exact ⟨ret_fb e.out.2.symm e.out.1.symm, Below.refl _ _⟩

end Go.Proofs.Ytiapmmmokmclaaa
