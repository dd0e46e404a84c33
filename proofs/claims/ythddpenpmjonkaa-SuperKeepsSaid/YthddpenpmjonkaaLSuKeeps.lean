/- The law SuperKeeps: the row. Every input, no condition. -/
import Derived.Test.YthddpenpmjonkaaSkp
import Derived.Test.YthddpenpmjonkaaLaw
import Derived.Test.YthddpenpmjonkaaOpu
import Derived.ProofKit
namespace Go.Proofs.Ythddpenpmjonkaa
open Go.ChangeShapes Go.WideShapes Go.ChangeAt Go.RowKit
set_option maxRecDepth 100000

set_option maxRecDepth 100000 in
theorem superKeeps_lifted (os : Os) (started : os.Started) (H : Type) (enc : TypeId × Value → H) :
    ReturnsInHanded {} Try.checked os 5 .any (Rows.superKeepsSpec.pre6 enc Try.prog Try.f5 Rows.superKeepsRow.domain false) (Rows.superKeepsSpec.post enc Try.prog Try.f5 false true false false) := by
  refine returnsInHanded_of_change (C := Try.checked) Try.own2 started (by kernel_rfl) Try.func5
    (ChangeSpec.witness6 (enc := enc) (C := Try.checked) false ⟨#[], #[.slice none 0 0, .slice none 0 0, .int .i64 0, .slice none 0 0], []⟩ 8 (by kernel_rfl) (by kernel_rfl) (by kernel_rfl) (by kernel_rfl)) ?_
  intro W base args ds gs before hval0 hW hcnd _
  have hval : ∀ (j : Nat) t v, Try.f5.params[j]? = some t → args[j]? = some v → Value.okWide Try.prog W .any base t v := hval0
  have hW' := hW
  obtain ⟨p, q, hA0, hV, rfl, hfz, hnd⟩ := hW
  have hA : DataW.TrodAll enc Try.prog W 0 (fun _ => true) true Try.f5.params.toList args.toList ds p := hA0
  rw [Try.params5] at hA hval
  obtain ⟨v0, v1, v2, v3, d0, d1, d2, d3, p0, p1, p2, p3, rfl, rfl, hps, h0, h1, h2, h3⟩ := trodAll_four hA
  obtain ⟨A0, c0, x0, e0, hc0, hm0, hr0, hk0⟩ := open_u64lists (hval 0 48 v0 rfl rfl) h0
  subst e0
  obtain ⟨A1, c1, x1, e1, hc1, hm1, hr1, hk1⟩ := open_u64s (hval 1 23 v1 rfl rfl) h1
  subst e1
  obtain ⟨x2, e2, f2, g2, w2⟩ := open_int Try.underlying3 (hval 2 3 v2 rfl rfl) h2
  subst e2
  obtain ⟨A3, c3, x3, e3, hc3, hm3, hr3⟩ := open_bools (hval 3 49 v3 rfl rfl) h3
  subst e3
  refine (superKeeps_c x2 hr0 hr1 hc1 hk1 (by have := (wf_i64 w2).2; omega) hr3 hc3).mono fun e W' ⟨he, hw⟩ => ?_
  subst he
  refine ⟨_, rfl, post_law (tb := 4) Try.laidOut2 ?_ rfl (by kernel_rfl) Try.underlying4 hW' hw ?_ ?_ ?_⟩
  · intro t ht
    rw [Try.params5] at ht
    simp at ht
    rcases ht with rfl | rfl | rfl | rfl
    all_goals exact ⟨by kernel_rfl, of_decide_eq_true (by kernel_rfl)⟩
  all_goals
    obtain ⟨rfl, rfl⟩ := trodVars_none hV
    rfl

theorem superKeeps_holds : Rows.SuperKeepsSaid :=
  OpenClaim.holds_of_wide 5 Try.f5 rfl rfl rfl rfl rfl rfl rfl ⟨rfl, rfl, rfl, rfl, rfl⟩ rfl rfl rfl rfl rfl (by kernel_rfl) Try.func5 (by kernel_rfl)
    (of_decide_eq_true (by kernel_rfl)) (by unfold Func.isWrapper; first | (rw [if_pos (by decide +kernel)]; kernel_rfl) | (rw [if_neg (by decide +kernel)]; exact ⟨rfl, rfl⟩))
    (fun os started H enc _ => superKeeps_lifted os started H enc)

end Go.Proofs.Ythddpenpmjonkaa
