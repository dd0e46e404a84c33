/- The law DedupAll: the row. Every input, no condition. -/
import Derived.Test.YtmcfknnfaokmlaaUm
import Derived.Test.YtmcfknnfaokmlaaLaw
import Derived.ProofKit
namespace Go.Proofs.Ytmcfknnfaokmlaa
open Go.ChangeShapes Go.WideShapes Go.ChangeAt Go.RowKit
set_option maxRecDepth 100000

set_option maxRecDepth 100000 in
theorem dedupAll_lifted (os : Os) (started : os.Started) (H : Type) (enc : TypeId × Value → H) :
    ReturnsInHanded {} Try.checked os 6 .any (Rows.dedupAllSpec.pre6 enc Try.prog Try.f6 Rows.dedupAllRow.domain false) (Rows.dedupAllSpec.post enc Try.prog Try.f6 false true false false) := by
  refine returnsInHanded_of_change (C := Try.checked) Try.own2 started (by kernel_rfl) Try.func6
    (ChangeSpec.witness6 (enc := enc) (C := Try.checked) false ⟨#[], #[.slice none 0 0, .int .u64 0], []⟩ 8 (by kernel_rfl) (by kernel_rfl) (by kernel_rfl) (by kernel_rfl)) ?_
  intro W base args ds gs before hval0 hW hcnd _
  have hval : ∀ (j : Nat) t v, Try.f6.params[j]? = some t → args[j]? = some v → Value.okWide Try.prog W .any base t v := hval0
  have hW' := hW
  obtain ⟨p, q, hA0, hV, rfl, hfz, hnd⟩ := hW
  have hA : DataW.TrodAll enc Try.prog W 0 (fun _ => true) true Try.f6.params.toList args.toList ds p := hA0
  rw [Try.params6] at hA hval
  obtain ⟨v0, v1, d0, d1, p0, p1, rfl, rfl, hps, h0, h1⟩ := trodAll_two hA
  obtain ⟨A0, c0, x0, e0, hc0, hm0, hr0, hk0⟩ := open_lasts16 (hval 0 22 v0 rfl rfl) h0
  subst e0
  obtain ⟨x1, e1, f1, g1, w1⟩ := open_int Try.underlying24 (hval 1 24 v1 rfl rfl) h1
  subst e1
  obtain ⟨y1, rfl⟩ := Int.eq_ofNat_of_zero_le (wf_u64 w1).1
  refine (dedupAll_c hr0 rfl hk0 (by have := (wf_u64 w1).2; omega)).mono fun e W' ⟨he, hw⟩ => ?_
  subst he
  refine ⟨_, rfl, post_law (tb := 4) Try.laidOut2 ?_ rfl (by kernel_rfl) Try.underlying4 hW' hw ?_ ?_ ?_⟩
  · intro t ht
    rw [Try.params6] at ht
    simp at ht
    rcases ht with rfl | rfl
    all_goals exact ⟨by kernel_rfl, of_decide_eq_true (by kernel_rfl)⟩
  all_goals
    obtain ⟨rfl, rfl⟩ := trodVars_none hV
    rfl

theorem dedupAll_holds : Rows.DedupAllSaid :=
  OpenClaim.holds_of_wide 6 Try.f6 rfl rfl rfl rfl rfl rfl rfl ⟨rfl, rfl, rfl, rfl, rfl⟩ rfl rfl rfl rfl rfl (by kernel_rfl) Try.func6 (by kernel_rfl)
    (of_decide_eq_true (by kernel_rfl)) (by unfold Func.isWrapper; first | (rw [if_pos (by decide +kernel)]; kernel_rfl) | (rw [if_neg (by decide +kernel)]; exact ⟨rfl, rfl⟩))
    (fun os started H enc _ => dedupAll_lifted os started H enc)

end Go.Proofs.Ytmcfknnfaokmlaa
