/- The law FltBetween: what is in the middle is between the two; of any two floats one is less, or they are the same. Every input, no condition. -/
import Derived.Test.YtiapmmmokmclaaaLCanon
namespace Go.Proofs.Ytiapmmmokmclaaa
open Go.ChangeShapes Go.WideShapes Go.ChangeAt Go.RowKit

namespace Fl
theorem at_word {p : Int} (h1 : -(inf : Int) ≤ p) (h2 : p ≤ inf) :
    W (atI p) < 18446744073709551616 ∧ isN (W (atI p)) = false ∧ sv (W (atI p)) = p ∧ canon (W (atI p)) = W (atI p) := by
  have e1 := inf_eq
  have e2 := two63_eq
  by_cases h : p < 0
  · have ea : atI p = two63 - p := by unfold atI; rw [if_pos h]
    have a : two63 ≤ W (atI p) := by rw [ea]; unfold W; omega
    have b : W (atI p) < 2 * two63 := by rw [ea]; unfold W; omega
    have n : isN (W (atI p)) = false := by rw [isN_min a b, ea]; exact decide_eq_false (by unfold W; omega)
    have s : sv (W (atI p)) = p := by rw [sv_min a b, ea]; unfold W; omega
    exact ⟨by omega, n, s, canon_self n (by omega)⟩
  · have ea : atI p = p := by unfold atI; rw [if_neg h]
    have b : W (atI p) < two63 := by rw [ea]; unfold W; omega
    have n : isN (W (atI p)) = false := by rw [isN_pos b, ea]; exact decide_eq_false (by unfold W; omega)
    have s : sv (W (atI p)) = p := by rw [sv_pos b, ea]; unfold W; omega
    refine ⟨by omega, n, s, ?_⟩
    by_cases z : p = 0
    · rw [canon_zero n (by omega), ea, z]; rfl
    · exact canon_self n (by omega)
theorem mid_word {a b : Nat} (h : midOk a b = true) :
    midW a b < 18446744073709551616 ∧ lt a (midW a b) = true ∧ lt (midW a b) b = true ∧ (I (midW a b) == I (canon (midW a b))) = true := by
  have hn : isN a = false := by cases e : isN a <;> simp [midOk, e] at h ⊢
  have hz : (stp a b == 0) = false := by cases e : stp a b == 0 <;> simp [midOk, hn, e] at h ⊢
  obtain ⟨_, m⟩ := mid_yes hn hz
  obtain ⟨_, l1, l2⟩ := mid_end hz
  obtain ⟨c1, c2, c3, c4⟩ := at_word l1 l2
  have hl : lt a b = true := by
    cases e : lt a b
    · rw [stp_no e] at hz; simp at hz
    · rfl
  have b4 := stp_bound a b
  have b5 := stp_yes hl
  have b3 : ¬ stp a b = 0 := by simpa using hz
  rw [m]
  refine ⟨c1, ?_, ?_, ?_⟩
  · rw [lt_true, pl_num c2, c3]; omega
  · rw [lt_true, pl_num c2, c3]; omega
  · rw [c4]; simp
theorem three_ways (a b : Nat) : (lt a b = true ∧ lt b a = false ∧ same a b = false) ∨ (lt a b = false ∧ lt b a = true ∧ same a b = false) ∨ (lt a b = false ∧ lt b a = false ∧ same a b = true) := by
  have e : same a b = false ↔ ¬ pl a = pl b := by rw [← same_true]; cases same a b <;> simp
  rw [e, lt_true, lt_true, lt_false, lt_false, same_true]; omega
theorem lt_trans {a b c : Nat} (h : lt a b = true) (h2 : lt b c = true) : lt a c = true := by
  rw [lt_true] at *; omega
theorem mid_none {a b : Nat} (h : midOk a b = false) (h1 : isN a = false) : (stp a b == 0) = true := by
  cases e : stp a b == 0
  · simp [midOk, h1, e] at h
  · rfl
end Fl

/-- What stands behind the order: the middle. -/
theorem fltBetween_rest (a b : Nat) (k : Bool) : (Fl.lt a b = k) → (Fl.midOk a b = true ∧ k = true) ∨ (Fl.midOk a b = false ∧ (Fl.isN a = true ∨ (Fl.isN a = false ∧ Fl.isN b = true) ∨ (Fl.isN a = false ∧ Fl.isN b = false ∧ k = false) ∨ (Fl.isN a = false ∧ Fl.isN b = false ∧ k = true ∧ (Fl.stp a b == 0) = true))) := by
  intro h
  cases e : Fl.midOk a b
  · refine Or.inr ⟨rfl, ?_⟩
    cases n : Fl.isN a
    · cases m : Fl.isN b
      · cases k
        · simp
        · simp [Fl.mid_none e n] at *
      · simp
    · simp
  · refine Or.inl ⟨rfl, ?_⟩
    have := Fl.mid_word e
    rw [← h]
    exact Fl.lt_trans this.2.1 this.2.2.1

set_option maxHeartbeats 1000000 in
theorem fltBetween_c (a b c : Nat) (w : World) (ha : a < 18446744073709551616) (hb : b < 18446744073709551616) (hc : c < 18446744073709551616) :
    Calls Try.prog 7 #[.float .f64 a, .float .f64 b, .float .f64 c] w fun e w' => e = .returned (.bool true) ∧ w = w' := by
  rcases Fl.three_ways a b with ⟨h1, h2, h3⟩ | ⟨h1, h2, h3⟩ | ⟨h1, h2, h3⟩
  · have hr := fltBetween_rest a b _ h1
    cases h4 : Fl.lt b c
    · rcases hr with ⟨m, -⟩ | ⟨m, n | ⟨n, n2⟩ | ⟨_, _, n2⟩ | ⟨n, n2, -, n3⟩⟩
      · obtain ⟨m1, m2, m3, m4⟩ := Fl.mid_word m
        go_enter Try.func7, Try.ntmps7
        go_wp2_with (first
        | (go_at_call 11; refine (awake_c _).mono ?_; rintro e w' ⟨rfl, rfl⟩)
        | (go_at_call 23; refine (less_c _ _ _ (by assumption) (by assumption)).mono ?_; rintro e w' ⟨rfl, rfl⟩)
        | (go_at_call 25; refine (same_c _ _ _ (by assumption) (by assumption)).mono ?_; rintro e w' ⟨rfl, rfl⟩)
        | (go_at_call 21; refine (mid_c _ _ _ (by assumption) (by assumption)).mono ?_; rintro e w' ⟨rfl, rfl⟩)
        | (go_at_call 27; refine (steps_c _ _ _ (by assumption) (by assumption)).mono ?_; rintro e w' ⟨rfl, rfl⟩)
        | (go_at_call 14; refine (lawBits_c _ _ _).mono ?_; rintro e w' ⟨rfl, rfl⟩)
        | (go_at_call 16; refine (refCanon_c _ _).mono ?_; rintro e w' ⟨rfl, rfl⟩))
        go_ret; exact ⟨ret_bool (by simp), rfl⟩
      · go_enter Try.func7, Try.ntmps7
        go_wp2_with (first
        | (go_at_call 11; refine (awake_c _).mono ?_; rintro e w' ⟨rfl, rfl⟩)
        | (go_at_call 23; refine (less_c _ _ _ (by assumption) (by assumption)).mono ?_; rintro e w' ⟨rfl, rfl⟩)
        | (go_at_call 25; refine (same_c _ _ _ (by assumption) (by assumption)).mono ?_; rintro e w' ⟨rfl, rfl⟩)
        | (go_at_call 21; refine (mid_c _ _ _ (by assumption) (by assumption)).mono ?_; rintro e w' ⟨rfl, rfl⟩)
        | (go_at_call 27; refine (steps_c _ _ _ (by assumption) (by assumption)).mono ?_; rintro e w' ⟨rfl, rfl⟩)
        | (go_at_call 14; refine (lawBits_c _ _ _).mono ?_; rintro e w' ⟨rfl, rfl⟩)
        | (go_at_call 16; refine (refCanon_c _ _).mono ?_; rintro e w' ⟨rfl, rfl⟩))
        go_ret; exact ⟨ret_bool (by simp), rfl⟩
      · go_enter Try.func7, Try.ntmps7
        go_wp2_with (first
        | (go_at_call 11; refine (awake_c _).mono ?_; rintro e w' ⟨rfl, rfl⟩)
        | (go_at_call 23; refine (less_c _ _ _ (by assumption) (by assumption)).mono ?_; rintro e w' ⟨rfl, rfl⟩)
        | (go_at_call 25; refine (same_c _ _ _ (by assumption) (by assumption)).mono ?_; rintro e w' ⟨rfl, rfl⟩)
        | (go_at_call 21; refine (mid_c _ _ _ (by assumption) (by assumption)).mono ?_; rintro e w' ⟨rfl, rfl⟩)
        | (go_at_call 27; refine (steps_c _ _ _ (by assumption) (by assumption)).mono ?_; rintro e w' ⟨rfl, rfl⟩)
        | (go_at_call 14; refine (lawBits_c _ _ _).mono ?_; rintro e w' ⟨rfl, rfl⟩)
        | (go_at_call 16; refine (refCanon_c _ _).mono ?_; rintro e w' ⟨rfl, rfl⟩))
        go_ret; exact ⟨ret_bool (by simp), rfl⟩
      · exact absurd n2 (by simp)
      · go_enter Try.func7, Try.ntmps7
        go_wp2_with (first
        | (go_at_call 11; refine (awake_c _).mono ?_; rintro e w' ⟨rfl, rfl⟩)
        | (go_at_call 23; refine (less_c _ _ _ (by assumption) (by assumption)).mono ?_; rintro e w' ⟨rfl, rfl⟩)
        | (go_at_call 25; refine (same_c _ _ _ (by assumption) (by assumption)).mono ?_; rintro e w' ⟨rfl, rfl⟩)
        | (go_at_call 21; refine (mid_c _ _ _ (by assumption) (by assumption)).mono ?_; rintro e w' ⟨rfl, rfl⟩)
        | (go_at_call 27; refine (steps_c _ _ _ (by assumption) (by assumption)).mono ?_; rintro e w' ⟨rfl, rfl⟩)
        | (go_at_call 14; refine (lawBits_c _ _ _).mono ?_; rintro e w' ⟨rfl, rfl⟩)
        | (go_at_call 16; refine (refCanon_c _ _).mono ?_; rintro e w' ⟨rfl, rfl⟩))
        go_ret; exact ⟨ret_bool (by simp), rfl⟩
    · have h5 := Fl.lt_trans h1 h4
      rcases hr with ⟨m, -⟩ | ⟨m, n | ⟨n, n2⟩ | ⟨_, _, n2⟩ | ⟨n, n2, -, n3⟩⟩
      · obtain ⟨m1, m2, m3, m4⟩ := Fl.mid_word m
        go_enter Try.func7, Try.ntmps7
        go_wp2_with (first
        | (go_at_call 11; refine (awake_c _).mono ?_; rintro e w' ⟨rfl, rfl⟩)
        | (go_at_call 23; refine (less_c _ _ _ (by assumption) (by assumption)).mono ?_; rintro e w' ⟨rfl, rfl⟩)
        | (go_at_call 25; refine (same_c _ _ _ (by assumption) (by assumption)).mono ?_; rintro e w' ⟨rfl, rfl⟩)
        | (go_at_call 21; refine (mid_c _ _ _ (by assumption) (by assumption)).mono ?_; rintro e w' ⟨rfl, rfl⟩)
        | (go_at_call 27; refine (steps_c _ _ _ (by assumption) (by assumption)).mono ?_; rintro e w' ⟨rfl, rfl⟩)
        | (go_at_call 14; refine (lawBits_c _ _ _).mono ?_; rintro e w' ⟨rfl, rfl⟩)
        | (go_at_call 16; refine (refCanon_c _ _).mono ?_; rintro e w' ⟨rfl, rfl⟩))
        go_ret; exact ⟨ret_bool (by simp), rfl⟩
      · go_enter Try.func7, Try.ntmps7
        go_wp2_with (first
        | (go_at_call 11; refine (awake_c _).mono ?_; rintro e w' ⟨rfl, rfl⟩)
        | (go_at_call 23; refine (less_c _ _ _ (by assumption) (by assumption)).mono ?_; rintro e w' ⟨rfl, rfl⟩)
        | (go_at_call 25; refine (same_c _ _ _ (by assumption) (by assumption)).mono ?_; rintro e w' ⟨rfl, rfl⟩)
        | (go_at_call 21; refine (mid_c _ _ _ (by assumption) (by assumption)).mono ?_; rintro e w' ⟨rfl, rfl⟩)
        | (go_at_call 27; refine (steps_c _ _ _ (by assumption) (by assumption)).mono ?_; rintro e w' ⟨rfl, rfl⟩)
        | (go_at_call 14; refine (lawBits_c _ _ _).mono ?_; rintro e w' ⟨rfl, rfl⟩)
        | (go_at_call 16; refine (refCanon_c _ _).mono ?_; rintro e w' ⟨rfl, rfl⟩))
        go_ret; exact ⟨ret_bool (by simp), rfl⟩
      · go_enter Try.func7, Try.ntmps7
        go_wp2_with (first
        | (go_at_call 11; refine (awake_c _).mono ?_; rintro e w' ⟨rfl, rfl⟩)
        | (go_at_call 23; refine (less_c _ _ _ (by assumption) (by assumption)).mono ?_; rintro e w' ⟨rfl, rfl⟩)
        | (go_at_call 25; refine (same_c _ _ _ (by assumption) (by assumption)).mono ?_; rintro e w' ⟨rfl, rfl⟩)
        | (go_at_call 21; refine (mid_c _ _ _ (by assumption) (by assumption)).mono ?_; rintro e w' ⟨rfl, rfl⟩)
        | (go_at_call 27; refine (steps_c _ _ _ (by assumption) (by assumption)).mono ?_; rintro e w' ⟨rfl, rfl⟩)
        | (go_at_call 14; refine (lawBits_c _ _ _).mono ?_; rintro e w' ⟨rfl, rfl⟩)
        | (go_at_call 16; refine (refCanon_c _ _).mono ?_; rintro e w' ⟨rfl, rfl⟩))
        go_ret; exact ⟨ret_bool (by simp), rfl⟩
      · exact absurd n2 (by simp)
      · go_enter Try.func7, Try.ntmps7
        go_wp2_with (first
        | (go_at_call 11; refine (awake_c _).mono ?_; rintro e w' ⟨rfl, rfl⟩)
        | (go_at_call 23; refine (less_c _ _ _ (by assumption) (by assumption)).mono ?_; rintro e w' ⟨rfl, rfl⟩)
        | (go_at_call 25; refine (same_c _ _ _ (by assumption) (by assumption)).mono ?_; rintro e w' ⟨rfl, rfl⟩)
        | (go_at_call 21; refine (mid_c _ _ _ (by assumption) (by assumption)).mono ?_; rintro e w' ⟨rfl, rfl⟩)
        | (go_at_call 27; refine (steps_c _ _ _ (by assumption) (by assumption)).mono ?_; rintro e w' ⟨rfl, rfl⟩)
        | (go_at_call 14; refine (lawBits_c _ _ _).mono ?_; rintro e w' ⟨rfl, rfl⟩)
        | (go_at_call 16; refine (refCanon_c _ _).mono ?_; rintro e w' ⟨rfl, rfl⟩))
        go_ret; exact ⟨ret_bool (by simp), rfl⟩
  all_goals
    have hr := fltBetween_rest a b _ h1
    rcases hr with ⟨_, n⟩ | ⟨m, n | ⟨n, n2⟩ | ⟨n, n2, -⟩ | ⟨_, _, n, _⟩⟩
    · exact absurd n (by simp)
    · go_enter Try.func7, Try.ntmps7
      go_wp2_with (first
        | (go_at_call 11; refine (awake_c _).mono ?_; rintro e w' ⟨rfl, rfl⟩)
        | (go_at_call 23; refine (less_c _ _ _ (by assumption) (by assumption)).mono ?_; rintro e w' ⟨rfl, rfl⟩)
        | (go_at_call 25; refine (same_c _ _ _ (by assumption) (by assumption)).mono ?_; rintro e w' ⟨rfl, rfl⟩)
        | (go_at_call 21; refine (mid_c _ _ _ (by assumption) (by assumption)).mono ?_; rintro e w' ⟨rfl, rfl⟩)
        | (go_at_call 27; refine (steps_c _ _ _ (by assumption) (by assumption)).mono ?_; rintro e w' ⟨rfl, rfl⟩)
        | (go_at_call 14; refine (lawBits_c _ _ _).mono ?_; rintro e w' ⟨rfl, rfl⟩)
        | (go_at_call 16; refine (refCanon_c _ _).mono ?_; rintro e w' ⟨rfl, rfl⟩))
      go_ret; exact ⟨ret_bool (by simp), rfl⟩
    · go_enter Try.func7, Try.ntmps7
      go_wp2_with (first
        | (go_at_call 11; refine (awake_c _).mono ?_; rintro e w' ⟨rfl, rfl⟩)
        | (go_at_call 23; refine (less_c _ _ _ (by assumption) (by assumption)).mono ?_; rintro e w' ⟨rfl, rfl⟩)
        | (go_at_call 25; refine (same_c _ _ _ (by assumption) (by assumption)).mono ?_; rintro e w' ⟨rfl, rfl⟩)
        | (go_at_call 21; refine (mid_c _ _ _ (by assumption) (by assumption)).mono ?_; rintro e w' ⟨rfl, rfl⟩)
        | (go_at_call 27; refine (steps_c _ _ _ (by assumption) (by assumption)).mono ?_; rintro e w' ⟨rfl, rfl⟩)
        | (go_at_call 14; refine (lawBits_c _ _ _).mono ?_; rintro e w' ⟨rfl, rfl⟩)
        | (go_at_call 16; refine (refCanon_c _ _).mono ?_; rintro e w' ⟨rfl, rfl⟩))
      go_ret; exact ⟨ret_bool (by simp), rfl⟩
    · go_enter Try.func7, Try.ntmps7
      go_wp2_with (first
        | (go_at_call 11; refine (awake_c _).mono ?_; rintro e w' ⟨rfl, rfl⟩)
        | (go_at_call 23; refine (less_c _ _ _ (by assumption) (by assumption)).mono ?_; rintro e w' ⟨rfl, rfl⟩)
        | (go_at_call 25; refine (same_c _ _ _ (by assumption) (by assumption)).mono ?_; rintro e w' ⟨rfl, rfl⟩)
        | (go_at_call 21; refine (mid_c _ _ _ (by assumption) (by assumption)).mono ?_; rintro e w' ⟨rfl, rfl⟩)
        | (go_at_call 27; refine (steps_c _ _ _ (by assumption) (by assumption)).mono ?_; rintro e w' ⟨rfl, rfl⟩)
        | (go_at_call 14; refine (lawBits_c _ _ _).mono ?_; rintro e w' ⟨rfl, rfl⟩)
        | (go_at_call 16; refine (refCanon_c _ _).mono ?_; rintro e w' ⟨rfl, rfl⟩))
      go_ret; exact ⟨ret_bool (by simp), rfl⟩
    · exact absurd n (by simp)

set_option maxRecDepth 100000 in
theorem fltBetween_lifted (os : Os) (started : os.Started) (H : Type) (enc : TypeId × Value → H) :
    ReturnsInHanded {} Try.checked os 7 .any (Rows.fltBetweenSpec.pre6 enc Try.prog Try.f7 Rows.fltBetweenRow.domain false) (Rows.fltBetweenSpec.post enc Try.prog Try.f7 false true false false) := by
  refine returnsInHanded_of_change (C := Try.checked) Try.own started (by kernel_rfl) Try.func7
    (ChangeSpec.witness6 (enc := enc) (C := Try.checked) false ⟨#[], #[.float .f64 0, .float .f64 0, .float .f64 0], []⟩ 8 (by kernel_rfl) (by kernel_rfl) (by kernel_rfl) (by kernel_rfl)) ?_
  intro W base args ds gs before hval0 hW hcnd _
  have hval : ∀ (j : Nat) t v, Try.f7.params[j]? = some t → args[j]? = some v → Value.okWide Try.prog W .any base t v := hval0
  have hW' := hW
  obtain ⟨p, q, hA0, hV, rfl, hfz, hnd⟩ := hW
  have hA : DataW.TrodAll enc Try.prog W 0 (fun _ => true) true Try.f7.params.toList args.toList ds p := hA0
  rw [Try.params7] at hA hval
  obtain ⟨v0, v1, v2, d0, d1, d2, p0, p1, p2, rfl, rfl, rfl, h0, h1, h2⟩ := trodAll_three hA
  obtain ⟨rfl, rfl⟩ := trodVars_none hV
  obtain ⟨x0, rfl, rfl, rfl, w0⟩ := open_float Try.underlying22 (hval 0 22 v0 rfl rfl) h0
  obtain ⟨x1, rfl, rfl, rfl, w1⟩ := open_float Try.underlying22 (hval 1 22 v1 rfl rfl) h1
  obtain ⟨x2, rfl, rfl, rfl, w2⟩ := open_float Try.underlying22 (hval 2 22 v2 rfl rfl) h2
  clear hA0 hval0
  simp only [List.append_nil] at hW'
  refine (fltBetween_c x0 x1 x2 W (wf_f w0) (wf_f w1) (wf_f w2)).mono fun e W' ⟨he, hw⟩ => ?_
  subst he; subst hw
  exact ⟨_, rfl, post_of_same (pa := []) (pv := []) hW' (fun _ _ _ => trodAll_mk1 (shut_bool Try.underlying4 _)) (fun sp _ => trodAll_mk3 (shut_float Try.underlying22 w0) (shut_float Try.underlying22 w1) (shut_float Try.underlying22 w2)) (fun _ _ => rfl) rfl
    (World.keptBut_refl _ _) (fun _ => rfl) (ok_one (by kernel_rfl) rfl (okWide_bool_mk Try.underlying4 _))⟩

theorem fltBetween_holds : Rows.FltBetweenSaid :=
  OpenClaim.holds_of_wide 7 Try.f7 rfl rfl rfl rfl rfl rfl rfl ⟨rfl, rfl, rfl, rfl, rfl⟩ rfl rfl rfl rfl rfl (by kernel_rfl) Try.func7 (by kernel_rfl)
    (of_decide_eq_true (by kernel_rfl)) (by unfold Func.isWrapper; first | (rw [if_pos (by decide +kernel)]; kernel_rfl) | (rw [if_neg (by decide +kernel)]; exact ⟨rfl, rfl⟩))
    (fun os started H enc _ => fltBetween_lifted os started H enc)

end Go.Proofs.Ytiapmmmokmclaaa
