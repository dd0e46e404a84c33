/- The law StoreKeeps: the row. Every input, no condition. -/
import Derived.Test.YtpnfpeeijghamaaGreatEv
import Derived.Test.YtpnfpeeijghamaaGreatLaw
import Derived.Test.YtpnfpeeijghamaaGreatOpe
import Derived.ProofKit
namespace Go.Proofs.YtpnfpeeijghamaaGreat
open Go.ChangeShapes Go.WideShapes Go.ChangeAt Go.RowKit
set_option maxRecDepth 100000

set_option maxRecDepth 100000 in
theorem storeKeeps_lifted (os : Os) (started : os.Started) (H : Type) (enc : TypeId × Value → H) :
    ReturnsInHanded {} Tryz.checked os 4 .any (Rows.storeKeepsSpec.pre6 enc Tryz.prog Tryz.f4 Rows.storeKeepsRow.domain false) (Rows.storeKeepsSpec.post enc Tryz.prog Tryz.f4 false true false false) := by
  refine returnsInHanded_of_change (C := Tryz.checked) Tryz.own2 started (by kernel_rfl) Tryz.func4
    (ChangeSpec.witness6 (enc := enc) (C := Tryz.checked) false ⟨#[], #[.slice none 0 0, .slice none 0 0, .bool false, .int .i64 0, .slice none 0 0], []⟩ 8 (by kernel_rfl) (by kernel_rfl) (by kernel_rfl) (by kernel_rfl)) ?_
  intro W base args ds gs before hval0 hW hcnd _
  have hval : ∀ (j : Nat) t v, Tryz.f4.params[j]? = some t → args[j]? = some v → Value.okWide Tryz.prog W .any base t v := hval0
  have hW' := hW
  obtain ⟨p, q, hA0, hV, rfl, hfz, hnd⟩ := hW
  have hA : DataW.TrodAll enc Tryz.prog W 0 (fun _ => true) true Tryz.f4.params.toList args.toList ds p := hA0
  rw [Tryz.params4] at hA hval
  obtain ⟨v0, v1, v2, v3, v4, d0, d1, d2, d3, d4, p0, p1, p2, p3, p4, rfl, rfl, hps, h0, h1, h2, h3, h4⟩ := trodAll_five hA
  obtain ⟨A0, c0, x0, e0, hc0, hm0, hr0, hk0⟩ := open_deeds8 (hval 0 37 v0 rfl rfl) h0
  subst e0
  obtain ⟨A1, c1, x1, e1, hc1, hm1, hr1, hk1⟩ := open_puts8 (hval 1 22 v1 rfl rfl) h1
  subst e1
  obtain ⟨x2, e2, f2, g2⟩ := open_bool Tryz.underlying4 (hval 2 4 v2 rfl rfl) h2
  subst e2
  obtain ⟨x3, e3, f3, g3, w3⟩ := open_int Tryz.underlying3 (hval 3 3 v3 rfl rfl) h3
  subst e3
  obtain ⟨A4, c4, x4, e4, hc4, hm4, hr4⟩ := open_bools (hval 4 38 v4 rfl rfl) h4
  subst e4
  refine (storeKeeps_c x2 x3 hr0 hk0 (Nat.le_trans hc0 hm0) hr1 hk1 (Nat.le_trans hc1 hm1) hr4 hc4 (Nat.le_trans hc4 hm4) (wf_i64 w3).2).mono fun e W' ⟨he, hw⟩ => ?_
  subst he
  refine ⟨_, rfl, post_law (tb := 4) Tryz.laidOut2 ?_ rfl (by kernel_rfl) Tryz.underlying4 hW' hw ?_ ?_ ?_⟩
  · intro t ht
    rw [Tryz.params4] at ht
    simp at ht
    rcases ht with rfl | rfl | rfl | rfl | rfl
    all_goals exact ⟨by kernel_rfl, of_decide_eq_true (by kernel_rfl)⟩
  all_goals
    obtain ⟨rfl, rfl⟩ := trodVars_none hV
    rfl

theorem storeKeeps_holds : Rows.StoreKeepsSaid :=
  OpenClaim.holds_of_wide 4 Tryz.f4 rfl rfl rfl rfl rfl rfl rfl ⟨rfl, rfl, rfl, rfl, rfl⟩ rfl rfl rfl rfl rfl (by kernel_rfl) Tryz.func4 (by kernel_rfl)
    (of_decide_eq_true (by kernel_rfl)) (by unfold Func.isWrapper; first | (rw [if_pos (by decide +kernel)]; kernel_rfl) | (rw [if_neg (by decide +kernel)]; exact ⟨rfl, rfl⟩))
    (fun os started H enc _ => storeKeeps_lifted os started H enc)

end Go.Proofs.YtpnfpeeijghamaaGreat
