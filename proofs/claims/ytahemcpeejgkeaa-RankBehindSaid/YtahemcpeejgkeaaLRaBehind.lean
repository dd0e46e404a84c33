/- The law RankBehind: the row. Every input, no condition. -/
import Derived.Test.YtahemcpeejgkeaaKk
import Derived.Test.YtahemcpeejgkeaaLaw
import Derived.Test.YtahemcpeejgkeaaTae
import Derived.ProofKit
namespace Go.Proofs.Ytahemcpeejgkeaa
open Go.ChangeShapes Go.WideShapes Go.ChangeAt Go.RowKit
set_option maxRecDepth 100000

set_option maxRecDepth 100000 in
theorem rankBehind_lifted (os : Os) (started : os.Started) (H : Type) (enc : TypeId × Value → H) :
    ReturnsInHanded {} Try.checked os 4 .any (Rows.rankBehindSpec.pre6 enc Try.prog Try.f4 Rows.rankBehindRow.domain false) (Rows.rankBehindSpec.post enc Try.prog Try.f4 false true false false) := by
  refine returnsInHanded_of_change (C := Try.checked) Try.own2 started (by kernel_rfl) Try.func4
    (ChangeSpec.witness6 (enc := enc) (C := Try.checked) false ⟨#[], #[.agg #[.slice none 0 0, .slice none 0 0], .int .u64 0, .int .u64 0, .int .u64 0], []⟩ 8 (by kernel_rfl) (by kernel_rfl) (by kernel_rfl) (by kernel_rfl)) ?_
  intro W base args ds gs before hval0 hW hcnd _
  have hval : ∀ (j : Nat) t v, Try.f4.params[j]? = some t → args[j]? = some v → Value.okWide Try.prog W .any base t v := hval0
  have hW' := hW
  obtain ⟨p, q, hA0, hV, rfl, hfz, hnd⟩ := hW
  have hA : DataW.TrodAll enc Try.prog W 0 (fun _ => true) true Try.f4.params.toList args.toList ds p := hA0
  rw [Try.params4] at hA hval
  obtain ⟨v0, v1, v2, v3, d0, d1, d2, d3, p0, p1, p2, p3, rfl, rfl, hps, h0, h1, h2, h3⟩ := trodAll_four hA
  obtain ⟨m0, e0, hs0, ho0, hf0⟩ := open_state9 (hval 0 25 v0 rfl rfl) h0
  subst e0
  obtain ⟨x1, e1, f1, g1, w1⟩ := open_int Try.underlying26 (hval 1 26 v1 rfl rfl) h1
  subst e1
  obtain ⟨x2, e2, f2, g2, w2⟩ := open_int Try.underlying26 (hval 2 26 v2 rfl rfl) h2
  subst e2
  obtain ⟨x3, e3, f3, g3, w3⟩ := open_int Try.underlying26 (hval 3 26 v3 rfl rfl) h3
  subst e3
  obtain ⟨y1, rfl⟩ := Int.eq_ofNat_of_zero_le (wf_u64 w1).1
  obtain ⟨y2, rfl⟩ := Int.eq_ofNat_of_zero_le (wf_u64 w2).1
  obtain ⟨y3, rfl⟩ := Int.eq_ofNat_of_zero_le (wf_u64 w3).1
  refine (rankBehind_c (list := y1) (after := y2) (id := y3) hs0 ho0 hf0).mono fun e W' ⟨he, hw⟩ => ?_
  subst he
  refine ⟨_, rfl, post_law (tb := 4) Try.laidOut2 ?_ rfl (by kernel_rfl) Try.underlying4 hW' hw ?_ ?_ ?_⟩
  · intro t ht
    rw [Try.params4] at ht
    simp at ht
    rcases ht with rfl | rfl | rfl | rfl
    all_goals exact ⟨by kernel_rfl, of_decide_eq_true (by kernel_rfl)⟩
  all_goals
    obtain ⟨rfl, rfl⟩ := trodVars_none hV
    rfl

theorem rankBehind_holds : Rows.RankBehindSaid :=
  OpenClaim.holds_of_wide 4 Try.f4 rfl rfl rfl rfl rfl rfl rfl ⟨rfl, rfl, rfl, rfl, rfl⟩ rfl rfl rfl rfl rfl (by kernel_rfl) Try.func4 (by kernel_rfl)
    (of_decide_eq_true (by kernel_rfl)) (by unfold Func.isWrapper; first | (rw [if_pos (by decide +kernel)]; kernel_rfl) | (rw [if_neg (by decide +kernel)]; exact ⟨rfl, rfl⟩))
    (fun os started H enc _ => rankBehind_lifted os started H enc)

end Go.Proofs.Ytahemcpeejgkeaa
