/- The law FltSums: what any floats come to, and the least and the greatest of them, NaNs passed over. Every list, no condition. -/
import Derived.Test.YtiapmmmokmclaaaFs
import Derived.Test.YtiapmmmokmclaaaLCanon
import Derived.Test.YtiapmmmokmclaaaLaw
import Derived.Deep.Slices
import Derived.WalkLawsBesides
namespace Go.Proofs.Ytiapmmmokmclaaa
open Go.ChangeShapes Go.WideShapes Go.ChangeAt Go.RowKit

theorem Try.laidOut : laidOutB Try.prog = true := by kernel_rfl

set_option maxHeartbeats 1000000 in
theorem fltSums_some (b off len cap : Nat) (B : Nat → Nat) (w : World) (hlen : len ≤ 9223372036854775807) (hB : ∀ j, B j < 18446744073709551616) (hc : ∀ j, j < len → w.cell? ⟨b, off + j, none⟩ = some (.float .f64 (B j))) :
    Calls Try.prog 8 #[.slice (some ⟨b, off, none⟩) len cap] w fun e w' => e = .returned (.bool true) ∧ ∃ n, w' = w.drewN n := by
  have HC := Lib.hid hc
  have HB := Lib.hid hB
  clear hc hB
  by_cases big : 100 < len
  · go_enter Try.func8, Try.ntmps8
    go_wp2_with (first
        | (go_at_call 11; refine (awake_c _).mono ?_; rintro e w' ⟨rfl, rfl⟩)
        | (go_at_call 14; refine (lawBits_c _ _ _).mono ?_; rintro e w' ⟨rfl, rfl⟩))
    go_ret
    exact ⟨rfl, 0, rfl⟩
  · go_enter Try.func8, Try.ntmps8
    go_wp2_with (first
        | (go_at_call 11; refine (awake_c _).mono ?_; rintro e w' ⟨rfl, rfl⟩)
        | (go_at_call 14; refine (lawBits_c _ _ _).mono ?_; rintro e w' ⟨rfl, rfl⟩))
    refine (sum_c b off len cap B _ hlen (fun j hj => by simpa using HC.out j hj)).mono ?_
    rintro e w' ⟨rfl, n1, rfl⟩
    go_wp2_with (first
        | (go_at_call 11; refine (awake_c _).mono ?_; rintro e w' ⟨rfl, rfl⟩)
        | (go_at_call 14; refine (lawBits_c _ _ _).mono ?_; rintro e w' ⟨rfl, rfl⟩))
    refine (refSum_c b off len cap B _ hlen (fun j hj => by simpa using HC.out j hj)).mono ?_
    rintro e w' ⟨rfl, n2, rfl⟩
    go_wp2_with (first
        | (go_at_call 11; refine (awake_c _).mono ?_; rintro e w' ⟨rfl, rfl⟩)
        | (go_at_call 14; refine (lawBits_c _ _ _).mono ?_; rintro e w' ⟨rfl, rfl⟩))
    refine (least_c b off len cap B _ hlen HB.out (fun j hj => by simpa using HC.out j hj)).mono ?_
    rintro e w' ⟨rfl, rfl⟩
    go_wp2_with (first
        | (go_at_call 11; refine (awake_c _).mono ?_; rintro e w' ⟨rfl, rfl⟩)
        | (go_at_call 14; refine (lawBits_c _ _ _).mono ?_; rintro e w' ⟨rfl, rfl⟩))
    refine (refLeast_c b off len cap B _ hlen HB.out (fun j hj => by simpa using HC.out j hj)).mono ?_
    rintro e w' ⟨rfl, rfl⟩
    go_wp2_with (first
        | (go_at_call 11; refine (awake_c _).mono ?_; rintro e w' ⟨rfl, rfl⟩)
        | (go_at_call 14; refine (lawBits_c _ _ _).mono ?_; rintro e w' ⟨rfl, rfl⟩))
    refine (most_c b off len cap B _ hlen HB.out (fun j hj => by simpa using HC.out j hj)).mono ?_
    rintro e w' ⟨rfl, rfl⟩
    go_wp2_with (first
        | (go_at_call 11; refine (awake_c _).mono ?_; rintro e w' ⟨rfl, rfl⟩)
        | (go_at_call 14; refine (lawBits_c _ _ _).mono ?_; rintro e w' ⟨rfl, rfl⟩))
    refine (refMost_c b off len cap B _ hlen HB.out (fun j hj => by simpa using HC.out j hj)).mono ?_
    rintro e w' ⟨rfl, rfl⟩
    go_wp2_with (first
        | (go_at_call 11; refine (awake_c _).mono ?_; rintro e w' ⟨rfl, rfl⟩)
        | (go_at_call 14; refine (lawBits_c _ _ _).mono ?_; rintro e w' ⟨rfl, rfl⟩))
    go_ret
    exact ⟨ret_bool (by simp), _, rfl⟩

set_option maxHeartbeats 1000000 in
theorem fltSums_empty (a : Option Addr) (cap : Nat) (w : World) :
    Calls Try.prog 8 #[.slice a 0 cap] w fun e w' => e = .returned (.bool true) ∧ ∃ n, w' = w.drewN n := by
  obtain ⟨B, -⟩ : ∃ B : Nat → Nat, B = B := ⟨fun _ => 0, rfl⟩
  go_enter Try.func8, Try.ntmps8
  go_wp2_with (first
        | (go_at_call 11; refine (awake_c _).mono ?_; rintro e w' ⟨rfl, rfl⟩)
        | (go_at_call 14; refine (lawBits_c _ _ _).mono ?_; rintro e w' ⟨rfl, rfl⟩))
  refine (sum_empty _ _ B _).mono ?_
  rintro e w' ⟨rfl, n1, rfl⟩
  go_wp2_with (first
        | (go_at_call 11; refine (awake_c _).mono ?_; rintro e w' ⟨rfl, rfl⟩)
        | (go_at_call 14; refine (lawBits_c _ _ _).mono ?_; rintro e w' ⟨rfl, rfl⟩))
  refine (refSum_empty _ _ B _).mono ?_
  rintro e w' ⟨rfl, n2, rfl⟩
  go_wp2_with (first
        | (go_at_call 11; refine (awake_c _).mono ?_; rintro e w' ⟨rfl, rfl⟩)
        | (go_at_call 14; refine (lawBits_c _ _ _).mono ?_; rintro e w' ⟨rfl, rfl⟩))
  refine (least_empty _ _ B _).mono ?_
  rintro e w' ⟨rfl, rfl⟩
  go_wp2_with (first
        | (go_at_call 11; refine (awake_c _).mono ?_; rintro e w' ⟨rfl, rfl⟩)
        | (go_at_call 14; refine (lawBits_c _ _ _).mono ?_; rintro e w' ⟨rfl, rfl⟩))
  refine (refLeast_empty _ _ B _).mono ?_
  rintro e w' ⟨rfl, rfl⟩
  go_wp2_with (first
        | (go_at_call 11; refine (awake_c _).mono ?_; rintro e w' ⟨rfl, rfl⟩)
        | (go_at_call 14; refine (lawBits_c _ _ _).mono ?_; rintro e w' ⟨rfl, rfl⟩))
  refine (most_empty _ _ B _).mono ?_
  rintro e w' ⟨rfl, rfl⟩
  go_wp2_with (first
        | (go_at_call 11; refine (awake_c _).mono ?_; rintro e w' ⟨rfl, rfl⟩)
        | (go_at_call 14; refine (lawBits_c _ _ _).mono ?_; rintro e w' ⟨rfl, rfl⟩))
  refine (refMost_empty _ _ B _).mono ?_
  rintro e w' ⟨rfl, rfl⟩
  go_wp2_with (first
        | (go_at_call 11; refine (awake_c _).mono ?_; rintro e w' ⟨rfl, rfl⟩)
        | (go_at_call 14; refine (lawBits_c _ _ _).mono ?_; rintro e w' ⟨rfl, rfl⟩))
  go_ret
  exact ⟨ret_bool (by simp), _, rfl⟩

theorem fltSums_any (v : Value) (w : World) (h : (∃ a cap, v = .slice a 0 cap) ∨ ∃ (b off len cap : Nat) (B : Nat → Nat), v = .slice (some ⟨b, off, none⟩) len cap ∧ len ≤ maxLen ∧ (∀ j, B j < 18446744073709551616) ∧ ∀ j, j < len → w.cell? ⟨b, off + j, none⟩ = some (.float .f64 (B j))) :
    Calls Try.prog 8 #[v] w fun e w' => e = .returned (.bool true) ∧ Below w.heap.size w w' := by
  rcases h with ⟨a, cap, rfl⟩ | ⟨b, off, len, cap, B, rfl, hl, hB, hc⟩
  · refine (fltSums_empty a cap w).mono fun e w' h => ?_
    obtain ⟨h1, n, rfl⟩ := h
    exact ⟨h1, below_drewN (Below.refl _ _) n⟩
  · unfold maxLen at hl
    refine (fltSums_some b off len cap B w (by omega) hB hc).mono fun e w' h => ?_
    obtain ⟨h1, n, rfl⟩ := h
    exact ⟨h1, below_drewN (Below.refl _ _) n⟩

set_option maxRecDepth 100000 in
theorem fltSums_lifted (os : Os) (started : os.Started) (H : Type) (enc : TypeId × Value → H) :
    ReturnsInHanded {} Try.checked os 8 .any (Rows.fltSumsSpec.pre6 enc Try.prog Try.f8 Rows.fltSumsRow.domain false) (Rows.fltSumsSpec.post enc Try.prog Try.f8 false true false false) := by
  refine returnsInHanded_of_change (C := Try.checked) Try.own started (by kernel_rfl) Try.func8
    (ChangeSpec.witness6 (enc := enc) (C := Try.checked) false ⟨#[], #[.slice none 0 0], []⟩ 8 (by kernel_rfl) (by kernel_rfl) (by kernel_rfl) (by kernel_rfl)) ?_
  intro W base args ds gs before hval0 hW hcnd _
  have hval : ∀ (j : Nat) t v, Try.f8.params[j]? = some t → args[j]? = some v → Value.okWide Try.prog W .any base t v := hval0
  have hW' := hW
  obtain ⟨p, q, hA0, hV, rfl, hfz, hnd⟩ := hW
  have hA : DataW.TrodAll enc Try.prog W 0 (fun _ => true) true Try.f8.params.toList args.toList ds p := hA0
  rw [Try.params8] at hA hval
  obtain ⟨v0, d0, rfl, rfl, h0⟩ := trodAll_one hA
  have s := open_words Try.underlying36 Try.underlying22 (by kernel_rfl) (hval 0 36 v0 rfl rfl) h0
  refine (fltSums_any v0 W s).mono fun e W' ⟨he, hw⟩ => ?_
  subst he
  refine ⟨_, rfl, post_law (tb := 4) Try.laidOut ?_ rfl (by kernel_rfl) Try.underlying4 hW' hw ?_ ?_ ?_⟩
  · intro t ht
    rw [Try.params8] at ht
    simp at ht
    subst ht
    exact ⟨by kernel_rfl, of_decide_eq_true (by kernel_rfl)⟩
  all_goals
    obtain ⟨rfl, rfl⟩ := trodVars_none hV
    rfl

theorem fltSums_holds : Rows.FltSumsSaid :=
  OpenClaim.holds_of_wide 8 Try.f8 rfl rfl rfl rfl rfl rfl rfl ⟨rfl, rfl, rfl, rfl, rfl⟩ rfl rfl rfl rfl rfl (by kernel_rfl) Try.func8 (by kernel_rfl)
    (of_decide_eq_true (by kernel_rfl)) (by unfold Func.isWrapper; first | (rw [if_pos (by decide +kernel)]; kernel_rfl) | (rw [if_neg (by decide +kernel)]; exact ⟨rfl, rfl⟩))
    (fun os started H enc _ => fltSums_lifted os started H enc)

end Go.Proofs.Ytiapmmmokmclaaa
