/- The law FltBack: the float of a float's key is that float, and the key of a key's float is that key. Every input, no condition. -/
import Derived.Test.YtiapmmmokmclaaaFo
import Derived.Test.YtiapmmmokmclaaaLCanon
import Derived.Test.YtiapmmmokmclaaaPost
namespace Go.Proofs.Ytiapmmmokmclaaa
open Go.ChangeShapes Go.WideShapes Go.ChangeAt Go.RowKit

theorem wf_u {k : Int} (h : (Lit.int .u64 k).wf = true) : 0 ≤ k ∧ k < 18446744073709551616 := by
  unfold Lit.wf at h
  simp only [Bool.and_eq_true, decide_eq_true_eq] at h
  have a : IntKind.u64.min = 0 := by decide +kernel
  have b : IntKind.u64.max = 18446744073709551615 := by decide +kernel
  rw [a, b] at h; omega

namespace Fl
theorem fit_key {a : Nat} (ha : a < 18446744073709551616) : fit (key a) = true ∧ wd (key a) = canon a := by
  have e1 := inf_eq
  have e2 := two63_eq
  cases n : isN a
  · have bd := sv_bound n
    by_cases s : 0 ≤ sv a
    · have hk := key_ge n s
      have hf : fit (key a) = true := (fit_iff _ (key_bound a).1 (key_bound a).2).2 (by omega)
      refine ⟨hf, ?_⟩
      have hc := canon_ge ha n s
      have hw : W (cand (key a)) = canon a := by
        unfold cand; rw [if_neg (by omega)]; unfold W; unfold I at hc; omega
      rw [fit_yes hf, hw, canon_canon]
    · have hk := key_neg n (by omega)
      have hf : fit (key a) = true := (fit_iff _ (key_bound a).1 (key_bound a).2).2 (by omega)
      refine ⟨hf, ?_⟩
      have hc := canon_neg ha n (by omega)
      have hw : W (cand (key a)) = canon a := by
        unfold cand; rw [if_pos (by omega)]; unfold W; unfold I at hc; omega
      rw [fit_yes hf, hw, canon_canon]
  · rw [key_nan n, canon_nan n]
    have hf : fit 0 = true := by decide +kernel
    exact ⟨hf, by rw [fit_yes hf]; decide +kernel⟩
theorem wd_lt (k : Int) (h0 : 0 ≤ k) (h1 : k < 18446744073709551616) : wd k < 18446744073709551616 := by
  unfold wd; split
  · exact canon_lt (W_lt (cand_bound h0 h1).2)
  · omega
theorem key_wd {k : Int} (h : fit k = true) : (key (wd k) == k) = true := by
  rw [fit_yes h, key_canon]; exact h
end Fl

set_option maxHeartbeats 1000000 in
theorem fltBack_c (a : Nat) (k : Int) (w : World) (ha : a < 18446744073709551616) (h0 : 0 ≤ k) (h1 : k < 18446744073709551616) :
    Calls Try.prog 5 #[.float .f64 a, .int .u64 k] w fun e w' => e = .returned (.bool true) ∧ Below w.heap.size w w' := by
  have b0 := (Fl.key_bound a).1
  have b1 := (Fl.key_bound a).2
  obtain ⟨f1, f2⟩ := Fl.fit_key ha
  have f3 := Lib.hid f2
  have g0 : (Fl.I (Fl.canon a) == Fl.I (Fl.canon a)) = true := by simp
  have g1 := Fl.wd_lt k h0 h1
  clear f2
  cases g : Fl.fit k
  · go_enter Try.func5, Try.ntmps5
    go_wp2_with (first
        | (go_at_call 11; refine (awake_c _).mono ?_; rintro e w' ⟨rfl, rfl⟩)
        | (go_at_call 19; refine (key_c _ _ (by assumption)).mono ?_; rintro e w' ⟨rfl, rfl⟩)
        | (go_at_call 14; refine (lawBits_c _ _ _).mono ?_; rintro e w' ⟨rfl, rfl⟩)
        | (go_at_call 16; refine (refCanon_c _ _).mono ?_; rintro e w' ⟨rfl, rfl⟩))
    refine (of_c _ _ b0 b1).mono ?_
    rintro e w' ⟨rfl, rfl⟩
    rw [f3.out]
    go_wp2_with (first
        | (go_at_call 11; refine (awake_c _).mono ?_; rintro e w' ⟨rfl, rfl⟩)
        | (go_at_call 19; refine (key_c _ _ (by assumption)).mono ?_; rintro e w' ⟨rfl, rfl⟩)
        | (go_at_call 14; refine (lawBits_c _ _ _).mono ?_; rintro e w' ⟨rfl, rfl⟩)
        | (go_at_call 16; refine (refCanon_c _ _).mono ?_; rintro e w' ⟨rfl, rfl⟩))
    refine (of_c _ _ h0 h1).mono ?_
    rintro e w' ⟨rfl, rfl⟩
    go_wp2_with (first
        | (go_at_call 11; refine (awake_c _).mono ?_; rintro e w' ⟨rfl, rfl⟩)
        | (go_at_call 19; refine (key_c _ _ (by assumption)).mono ?_; rintro e w' ⟨rfl, rfl⟩)
        | (go_at_call 14; refine (lawBits_c _ _ _).mono ?_; rintro e w' ⟨rfl, rfl⟩)
        | (go_at_call 16; refine (refCanon_c _ _).mono ?_; rintro e w' ⟨rfl, rfl⟩))
    go_ret; exact ⟨ret_bool (by simp), Below.refl _ _⟩
  · have g2 := Fl.key_wd g
    go_enter Try.func5, Try.ntmps5
    go_wp2_with (first
        | (go_at_call 11; refine (awake_c _).mono ?_; rintro e w' ⟨rfl, rfl⟩)
        | (go_at_call 19; refine (key_c _ _ (by assumption)).mono ?_; rintro e w' ⟨rfl, rfl⟩)
        | (go_at_call 14; refine (lawBits_c _ _ _).mono ?_; rintro e w' ⟨rfl, rfl⟩)
        | (go_at_call 16; refine (refCanon_c _ _).mono ?_; rintro e w' ⟨rfl, rfl⟩))
    refine (of_c _ _ b0 b1).mono ?_
    rintro e w' ⟨rfl, rfl⟩
    rw [f3.out]
    go_wp2_with (first
        | (go_at_call 11; refine (awake_c _).mono ?_; rintro e w' ⟨rfl, rfl⟩)
        | (go_at_call 19; refine (key_c _ _ (by assumption)).mono ?_; rintro e w' ⟨rfl, rfl⟩)
        | (go_at_call 14; refine (lawBits_c _ _ _).mono ?_; rintro e w' ⟨rfl, rfl⟩)
        | (go_at_call 16; refine (refCanon_c _ _).mono ?_; rintro e w' ⟨rfl, rfl⟩))
    refine (of_c _ _ h0 h1).mono ?_
    rintro e w' ⟨rfl, rfl⟩
    go_wp2_with (first
        | (go_at_call 11; refine (awake_c _).mono ?_; rintro e w' ⟨rfl, rfl⟩)
        | (go_at_call 19; refine (key_c _ _ (by assumption)).mono ?_; rintro e w' ⟨rfl, rfl⟩)
        | (go_at_call 14; refine (lawBits_c _ _ _).mono ?_; rintro e w' ⟨rfl, rfl⟩)
        | (go_at_call 16; refine (refCanon_c _ _).mono ?_; rintro e w' ⟨rfl, rfl⟩))
    go_ret; exact ⟨ret_bool (by simp), Below.refl _ _⟩

set_option maxRecDepth 100000 in
theorem fltBack_lifted (os : Os) (started : os.Started) (H : Type) (enc : TypeId × Value → H) :
    ReturnsInHanded {} Try.checked os 5 .any (Rows.fltBackSpec.pre6 enc Try.prog Try.f5 Rows.fltBackRow.domain false) (Rows.fltBackSpec.post enc Try.prog Try.f5 false true false false) := by
  refine returnsInHanded_of_change (C := Try.checked) Try.own started (by kernel_rfl) Try.func5
    (ChangeSpec.witness6 (enc := enc) (C := Try.checked) false ⟨#[], #[.float .f64 0, .int .u64 0], []⟩ 8 (by kernel_rfl) (by kernel_rfl) (by kernel_rfl) (by kernel_rfl)) ?_
  intro W base args ds gs before hval0 hW hcnd _
  have hval : ∀ (j : Nat) t v, Try.f5.params[j]? = some t → args[j]? = some v → Value.okWide Try.prog W .any base t v := hval0
  have hW' := hW
  obtain ⟨p, q, hA0, hV, rfl, hfz, hnd⟩ := hW
  have hA : DataW.TrodAll enc Try.prog W 0 (fun _ => true) true Try.f5.params.toList args.toList ds p := hA0
  rw [Try.params5] at hA hval
  obtain ⟨v0, v1, d0, d1, p0, p1, rfl, rfl, rfl, h0, h1⟩ := trodAll_two hA
  obtain ⟨rfl, rfl⟩ := trodVars_none hV
  obtain ⟨x0, rfl, rfl, rfl, w0⟩ := open_float Try.underlying22 (hval 0 22 v0 rfl rfl) h0
  obtain ⟨x1, rfl, rfl, rfl, w1⟩ := open_int Try.underlying28 (hval 1 28 v1 rfl rfl) h1
  clear hA0 hval0
  simp only [List.append_nil] at hW'
  refine (fltBack_c x0 x1 W (wf_f w0) (wf_u w1).1 (wf_u w1).2).mono fun e W' ⟨he, hw⟩ => ?_
  subst he
  exact ⟨_, rfl, post_behind (pa := []) (pv := []) hW' rfl hw (fun _ _ _ => trodAll_mk1 (shut_bool Try.underlying4 _)) (fun sp _ => trodAll_mk2 (shut_float Try.underlying22 w0) (shut_int Try.underlying28 w1)) (fun _ _ => rfl)
    (ok_one (by kernel_rfl) rfl (okWide_bool_mk Try.underlying4 _))⟩

theorem fltBack_holds : Rows.FltBackSaid :=
  OpenClaim.holds_of_wide 5 Try.f5 rfl rfl rfl rfl rfl rfl rfl ⟨rfl, rfl, rfl, rfl, rfl⟩ rfl rfl rfl rfl rfl (by kernel_rfl) Try.func5 (by kernel_rfl)
    (of_decide_eq_true (by kernel_rfl)) (by unfold Func.isWrapper; first | (rw [if_pos (by decide +kernel)]; kernel_rfl) | (rw [if_neg (by decide +kernel)]; exact ⟨rfl, rfl⟩))
    (fun os started H enc _ => fltBack_lifted os started H enc)

end Go.Proofs.Ytiapmmmokmclaaa
