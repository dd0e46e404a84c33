/- The law MutateElse: the row. Every input, no condition. -/
import Derived.Test.YtjaaehbllkbiaaaGreatMh
import Derived.Test.YtjaaehbllkbiaaaGreatLaw
import Derived.Test.YtjaaehbllkbiaaaGreatTae
import Derived.Test.YtjaaehbllkbiaaaGreatMc
import Derived.ProofKit
namespace Go.Proofs.YtjaaehbllkbiaaaGreat
open Go.ChangeShapes Go.WideShapes Go.ChangeAt Go.RowKit
set_option maxRecDepth 100000

set_option maxRecDepth 100000 in
theorem mutateElse_lifted (os : Os) (started : os.Started) (H : Type) (enc : TypeId × Value → H) :
    ReturnsInHanded {} Tryz.checked os 5 .any (Rows.mutateElseSpec.pre6 enc Tryz.prog Tryz.f5 Rows.mutateElseRow.domain false) (Rows.mutateElseSpec.post enc Tryz.prog Tryz.f5 false true false false) := by
  refine returnsInHanded_of_change (C := Tryz.checked) Tryz.own2 started (by kernel_rfl) Tryz.func5
    (ChangeSpec.witness6 (enc := enc) (C := Tryz.checked) false ⟨#[], #[.agg #[.slice none 0 0, .slice none 0 0], .agg #[.int .i64 0, .int .u64 0, .int .u64 0, .string ⟨#[]⟩, .float .f64 0, .bool false]], []⟩ 8 (by kernel_rfl) (by kernel_rfl) (by kernel_rfl) (by kernel_rfl)) ?_
  intro W base args ds gs before hval0 hW hcnd _
  have hval : ∀ (j : Nat) t v, Tryz.f5.params[j]? = some t → args[j]? = some v → Value.okWide Tryz.prog W .any base t v := hval0
  have hW' := hW
  obtain ⟨p, q, hA0, hV, rfl, hfz, hnd⟩ := hW
  have hA : DataW.TrodAll enc Tryz.prog W 0 (fun _ => true) true Tryz.f5.params.toList args.toList ds p := hA0
  rw [Tryz.params5] at hA hval
  obtain ⟨v0, v1, d0, d1, p0, p1, rfl, rfl, hps, h0, h1⟩ := trodAll_two hA
  obtain ⟨m0, e0, hs0, ho0, hf0⟩ := open_state9 (hval 0 25 v0 rfl rfl) h0
  subst e0
  obtain ⟨m1, e1, hm1⟩ := open_mut11 (hval 1 29 v1 rfl rfl) h1
  subst e1
  refine (mutateElse_c hs0 ho0 hf0 hm1).mono fun e W' ⟨he, hw⟩ => ?_
  subst he
  refine ⟨_, rfl, post_law (tb := 4) Tryz.laidOut2 ?_ rfl (by kernel_rfl) Tryz.underlying4 hW' hw ?_ ?_ ?_⟩
  · intro t ht
    rw [Tryz.params5] at ht
    simp at ht
    rcases ht with rfl | rfl
    all_goals exact ⟨by kernel_rfl, of_decide_eq_true (by kernel_rfl)⟩
  all_goals
    obtain ⟨rfl, rfl⟩ := trodVars_none hV
    rfl

theorem mutateElse_holds : Rows.MutateElseSaid :=
  OpenClaim.holds_of_wide 5 Tryz.f5 rfl rfl rfl rfl rfl rfl rfl ⟨rfl, rfl, rfl, rfl, rfl⟩ rfl rfl rfl rfl rfl (by kernel_rfl) Tryz.func5 (by kernel_rfl)
    (of_decide_eq_true (by kernel_rfl)) (by unfold Func.isWrapper; first | (rw [if_pos (by decide +kernel)]; kernel_rfl) | (rw [if_neg (by decide +kernel)]; exact ⟨rfl, rfl⟩))
    (fun os started H enc _ => mutateElse_lifted os started H enc)

end Go.Proofs.YtjaaehbllkbiaaaGreat
