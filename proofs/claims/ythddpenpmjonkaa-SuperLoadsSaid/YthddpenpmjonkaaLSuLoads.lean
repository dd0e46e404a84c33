/- The law SuperLoads: the row. Every input, no condition. -/
import Derived.Test.YthddpenpmjonkaaSld
import Derived.Test.YthddpenpmjonkaaLaw
import Derived.Test.YthddpenpmjonkaaOpu
import Derived.ProofKit
namespace Go.Proofs.Ythddpenpmjonkaa
open Go.ChangeShapes Go.WideShapes Go.ChangeAt Go.RowKit
set_option maxRecDepth 100000

set_option maxRecDepth 100000 in
theorem superLoads_lifted (os : Os) (started : os.Started) (H : Type) (enc : TypeId × Value → H) :
    ReturnsInHanded {} Try.checked os 4 .any (Rows.superLoadsSpec.pre6 enc Try.prog Try.f4 Rows.superLoadsRow.domain false) (Rows.superLoadsSpec.post enc Try.prog Try.f4 false true false false) := by
  refine returnsInHanded_of_change (C := Try.checked) Try.own2 started (by kernel_rfl) Try.func4
    (ChangeSpec.witness6 (enc := enc) (C := Try.checked) false ⟨#[], #[.int .i64 0, .slice none 0 0, .slice none 0 0, .slice none 0 0, .slice none 0 0], []⟩ 8 (by kernel_rfl) (by kernel_rfl) (by kernel_rfl) (by kernel_rfl)) ?_
  intro W base args ds gs before hval0 hW hcnd _
  have hval : ∀ (j : Nat) t v, Try.f4.params[j]? = some t → args[j]? = some v → Value.okWide Try.prog W .any base t v := hval0
  have hW' := hW
  obtain ⟨p, q, hA0, hV, rfl, hfz, hnd⟩ := hW
  have hA : DataW.TrodAll enc Try.prog W 0 (fun _ => true) true Try.f4.params.toList args.toList ds p := hA0
  rw [Try.params4] at hA hval
  obtain ⟨v0, v1, v2, v3, v4, d0, d1, d2, d3, d4, p0, p1, p2, p3, p4, rfl, rfl, hps, h0, h1, h2, h3, h4⟩ := trodAll_five hA
  obtain ⟨x0, e0, f0, g0, w0⟩ := open_int Try.underlying3 (hval 0 3 v0 rfl rfl) h0
  subst e0
  obtain ⟨A1, c1, x1, e1, hc1, hm1, hr1⟩ := open_bytes (hval 1 24 v1 rfl rfl) h1
  subst e1
  obtain ⟨A2, c2, x2, e2, hc2, hm2, hr2⟩ := open_bytes (hval 2 24 v2 rfl rfl) h2
  subst e2
  obtain ⟨A3, c3, x3, e3, hc3, hm3, hr3, hk3⟩ := open_u64s (hval 3 23 v3 rfl rfl) h3
  subst e3
  obtain ⟨A4, c4, x4, e4, hc4, hm4, hr4, hk4⟩ := open_u64s (hval 4 23 v4 rfl rfl) h4
  subst e4
  refine (superLoads_c x0 (by have := (wf_i64 w0).2; omega) hr1 hc1 hr2 hc2 hr3 hk3 hr4 hc4 hk4).mono fun e W' ⟨he, hw⟩ => ?_
  subst he
  refine ⟨_, rfl, post_law (tb := 4) Try.laidOut2 ?_ rfl (by kernel_rfl) Try.underlying4 hW' hw ?_ ?_ ?_⟩
  · intro t ht
    rw [Try.params4] at ht
    simp at ht
    rcases ht with rfl | rfl | rfl | rfl | rfl
    all_goals exact ⟨by kernel_rfl, of_decide_eq_true (by kernel_rfl)⟩
  all_goals
    obtain ⟨rfl, rfl⟩ := trodVars_none hV
    rfl

theorem superLoads_holds : Rows.SuperLoadsSaid :=
  OpenClaim.holds_of_wide 4 Try.f4 rfl rfl rfl rfl rfl rfl rfl ⟨rfl, rfl, rfl, rfl, rfl⟩ rfl rfl rfl rfl rfl (by kernel_rfl) Try.func4 (by kernel_rfl)
    (of_decide_eq_true (by kernel_rfl)) (by unfold Func.isWrapper; first | (rw [if_pos (by decide +kernel)]; kernel_rfl) | (rw [if_neg (by decide +kernel)]; exact ⟨rfl, rfl⟩))
    (fun os started H enc _ => superLoads_lifted os started H enc)

end Go.Proofs.Ythddpenpmjonkaa
