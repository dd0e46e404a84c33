/- The law FltOrder: for floats that are no NaN the order is that of numbers. Every input, no condition. -/
import Derived.Test.YtiapmmmokmclaaaLCanon
namespace Go.Proofs.Ytiapmmmokmclaaa
open Go.ChangeShapes Go.WideShapes Go.ChangeAt Go.RowKit

namespace Fl
theorem lt_numbers {a b : Nat} (ha : isN a = false) (hb : isN b = false) : ltB a b = lt a b := by
  rw [ltB_yes ha hb, Bool.eq_iff_iff, decide_eq_true_iff, lt_true, pl_num ha, pl_num hb]
theorem eq_numbers {a b : Nat} (ha : isN a = false) (hb : isN b = false) : eqB a b = same a b := by
  rw [eqB_yes ha hb, Bool.eq_iff_iff, decide_eq_true_iff, same_true, pl_num ha, pl_num hb]
theorem lt_nan_left {a b : Nat} (ha : isN a = true) (hb : isN b = false) : lt a b = true := by
  have := sv_bound hb
  rw [lt_true, pl_num hb, pl_nan ha]; omega
end Fl

set_option maxHeartbeats 1000000 in
theorem fltOrder_c (a b : Nat) (w : World) (ha : a < 18446744073709551616) (hb : b < 18446744073709551616) :
    Calls Try.prog 9 #[.float .f64 a, .float .f64 b] w fun e w' => e = .returned (.bool true) ∧ w = w' := by
  cases n : Fl.isN a
  · cases m : Fl.isN b
    · have h1 := Fl.lt_numbers n m
      have h2 := Fl.eq_numbers n m
      go_enter Try.func9, Try.ntmps9
      go_wp2_with (first
        | (go_at_call 11; refine (awake_c _).mono ?_; rintro e w' ⟨rfl, rfl⟩)
        | (go_at_call 23; refine (less_c _ _ _ (by assumption) (by assumption)).mono ?_; rintro e w' ⟨rfl, rfl⟩)
        | (go_at_call 25; refine (same_c _ _ _ (by assumption) (by assumption)).mono ?_; rintro e w' ⟨rfl, rfl⟩))
      go_ret; exact ⟨ret_bool (by simp), rfl⟩
    · have h1 := Fl.lt_nan_right a m
      go_enter Try.func9, Try.ntmps9
      go_wp2_with (first
        | (go_at_call 11; refine (awake_c _).mono ?_; rintro e w' ⟨rfl, rfl⟩)
        | (go_at_call 23; refine (less_c _ _ _ (by assumption) (by assumption)).mono ?_; rintro e w' ⟨rfl, rfl⟩)
        | (go_at_call 25; refine (same_c _ _ _ (by assumption) (by assumption)).mono ?_; rintro e w' ⟨rfl, rfl⟩))
      go_ret; exact ⟨ret_bool (by simp), rfl⟩
  · cases m : Fl.isN b
    · have h1 := Fl.lt_nan_left n m
      go_enter Try.func9, Try.ntmps9
      go_wp2_with (first
        | (go_at_call 11; refine (awake_c _).mono ?_; rintro e w' ⟨rfl, rfl⟩)
        | (go_at_call 23; refine (less_c _ _ _ (by assumption) (by assumption)).mono ?_; rintro e w' ⟨rfl, rfl⟩)
        | (go_at_call 25; refine (same_c _ _ _ (by assumption) (by assumption)).mono ?_; rintro e w' ⟨rfl, rfl⟩))
      go_ret; exact ⟨ret_bool (by simp), rfl⟩
    · have h1 := Fl.lt_nan_right a m
      go_enter Try.func9, Try.ntmps9
      go_wp2_with (first
        | (go_at_call 11; refine (awake_c _).mono ?_; rintro e w' ⟨rfl, rfl⟩)
        | (go_at_call 23; refine (less_c _ _ _ (by assumption) (by assumption)).mono ?_; rintro e w' ⟨rfl, rfl⟩)
        | (go_at_call 25; refine (same_c _ _ _ (by assumption) (by assumption)).mono ?_; rintro e w' ⟨rfl, rfl⟩))
      go_ret; exact ⟨ret_bool (by simp), rfl⟩

set_option maxRecDepth 100000 in
theorem fltOrder_lifted (os : Os) (started : os.Started) (H : Type) (enc : TypeId × Value → H) :
    ReturnsInHanded {} Try.checked os 9 .any (Rows.fltOrderSpec.pre6 enc Try.prog Try.f9 Rows.fltOrderRow.domain false) (Rows.fltOrderSpec.post enc Try.prog Try.f9 false true false false) := by
  refine returnsInHanded_of_change (C := Try.checked) Try.own started (by kernel_rfl) Try.func9
    (ChangeSpec.witness6 (enc := enc) (C := Try.checked) false ⟨#[], #[.float .f64 0, .float .f64 0], []⟩ 8 (by kernel_rfl) (by kernel_rfl) (by kernel_rfl) (by kernel_rfl)) ?_
  intro W base args ds gs before hval0 hW hcnd _
  have hval : ∀ (j : Nat) t v, Try.f9.params[j]? = some t → args[j]? = some v → Value.okWide Try.prog W .any base t v := hval0
  have hW' := hW
  obtain ⟨p, q, hA0, hV, rfl, hfz, hnd⟩ := hW
  have hA : DataW.TrodAll enc Try.prog W 0 (fun _ => true) true Try.f9.params.toList args.toList ds p := hA0
  rw [Try.params9] at hA hval
  obtain ⟨v0, v1, d0, d1, p0, p1, rfl, rfl, rfl, h0, h1⟩ := trodAll_two hA
  obtain ⟨rfl, rfl⟩ := trodVars_none hV
  obtain ⟨x0, rfl, rfl, rfl, w0⟩ := open_float Try.underlying22 (hval 0 22 v0 rfl rfl) h0
  obtain ⟨x1, rfl, rfl, rfl, w1⟩ := open_float Try.underlying22 (hval 1 22 v1 rfl rfl) h1
  clear hA0 hval0
  simp only [List.append_nil] at hW'
  refine (fltOrder_c x0 x1 W (wf_f w0) (wf_f w1)).mono fun e W' ⟨he, hw⟩ => ?_
  subst he; subst hw
  exact ⟨_, rfl, post_of_same (pa := []) (pv := []) hW' (fun _ _ _ => trodAll_mk1 (shut_bool Try.underlying4 _)) (fun sp _ => trodAll_mk2 (shut_float Try.underlying22 w0) (shut_float Try.underlying22 w1)) (fun _ _ => rfl) rfl
    (World.keptBut_refl _ _) (fun _ => rfl) (ok_one (by kernel_rfl) rfl (okWide_bool_mk Try.underlying4 _))⟩

theorem fltOrder_holds : Rows.FltOrderSaid :=
  OpenClaim.holds_of_wide 9 Try.f9 rfl rfl rfl rfl rfl rfl rfl ⟨rfl, rfl, rfl, rfl, rfl⟩ rfl rfl rfl rfl rfl (by kernel_rfl) Try.func9 (by kernel_rfl)
    (of_decide_eq_true (by kernel_rfl)) (by unfold Func.isWrapper; first | (rw [if_pos (by decide +kernel)]; kernel_rfl) | (rw [if_neg (by decide +kernel)]; exact ⟨rfl, rfl⟩))
    (fun os started H enc _ => fltOrder_lifted os started H enc)

end Go.Proofs.Ytiapmmmokmclaaa
