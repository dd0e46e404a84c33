/- Contracts of the keys and places: flt.Key, Less, Same, place, at, Steps, Mid and the document's own Key, Less, Same, over any float64 words below 2 to the 64. -/
import Derived.Test.YtobdaiiojclfkaaFc
namespace Go.Proofs.Ytobdaiiojclfkaa
open Go.RowKit

namespace Fl
theorem place_pos {b : Nat} (h : isN b = false) (hb : b < two63) : wrap64 (I b) = pl b := by
  have := two63_eq
  rw [pl_num h, sv_pos hb]; unfold I wrap64; omega
theorem place_min {b : Nat} (h : isN b = false) (h1 : ¬ b < two63) (hb : b < 18446744073709551616) : wrap64 (-wrap64 (IntKind.u64.wrap (I b - 9223372036854775808))) = pl b := by
  have := two63_eq; have := inf_eq
  have bd := sv_bound h
  have e := sv_min (b := b) (by omega) (by omega)
  rw [pl_num h, wrap_u64]; unfold I wrap64; omega
theorem at_min {p : Int} (h : p < 0) (h1 : -(inf : Int) ≤ p) : IntKind.u64.wrap (IntKind.u64.wrap (wrap64 (-p)) + 9223372036854775808) = atI p := by
  have := two63_eq; have := inf_eq
  unfold atI; rw [if_pos h, wrap_u64, wrap_u64]; unfold wrap64; omega
theorem at_pos {p : Int} (h : ¬ p < 0) (h1 : p ≤ inf) : IntKind.u64.wrap p = atI p := by
  have := two63_eq; have := inf_eq
  unfold atI; rw [if_neg h, wrap_u64]; omega
theorem steps_end {a b : Nat} (h : lt a b = true) : IntKind.u64.wrap (IntKind.u64.wrap (IntKind.u64.wrap (pl b) - IntKind.u64.wrap (pl a)) - 1) = stp a b := by
  have := stp_bound a b
  rw [stp_yes h] at *
  simp only [wrap_u64]; omega
theorem mid_end {a b : Nat} (h2 : (stp a b == 0) = false) :
    wrap64 (IntKind.u64.wrap (IntKind.u64.wrap (IntKind.u64.wrap (pl a) + 1) + IntKind.u64.wrap ((stp a b).tdiv 2))) = pl a + 1 + stp a b / 2
    ∧ -(inf : Int) ≤ pl a + 1 + stp a b / 2 ∧ pl a + 1 + stp a b / 2 ≤ inf := by
  have := inf_eq
  have b1 := pl_bound a
  have b2 := pl_bound b
  have b3 : ¬ stp a b = 0 := by simpa using h2
  have hl : lt a b = true := by
    cases e : lt a b
    · exact absurd (stp_no e) b3
    · rfl
  have b4 := stp_bound a b
  have b5 := stp_yes hl
  have b6 := lt_true.1 hl
  rw [Int.tdiv_eq_ediv_of_nonneg b4.1]
  simp only [wrap_u64]; unfold wrap64; omega
theorem mid_no {a b : Nat} (h : isN a = true ∨ (stp a b == 0) = true) : midOk a b = false ∧ midW a b = 0 := by
  have e : midOk a b = false := by
    unfold midOk
    rcases h with h | h
    · rw [h]; rfl
    · rw [h]; simp
  exact ⟨e, by unfold midW; rw [if_neg (by simp [e])]⟩
theorem mid_yes {a b : Nat} (h : isN a = false) (h2 : (stp a b == 0) = false) : midOk a b = true ∧ midW a b = W (atI (pl a + 1 + stp a b / 2)) := by
  have e : midOk a b = true := by unfold midOk; rw [h, h2]; rfl
  exact ⟨e, by unfold midW; rw [if_pos e]⟩
end Fl

theorem ret_fb {a b : Nat} {c d : Bool} (h : a = b) (h2 : c = d) : Ending.returned (.tuple #[.float .f64 a, .bool c]) = .returned (.tuple #[.float .f64 b, .bool d]) := by rw [h, h2]

set_option maxHeartbeats 400000 in
theorem key_c (b : Nat) (w : World) (hb : b < 18446744073709551616) :
    Calls Try.prog 59 #[.float .f64 b] w fun e w' => e = .returned (.int .u64 (Fl.key b)) ∧ w = w' := by
  by_cases h1 : Fl.isN b = true
  · go_enter Try.func59, Try.ntmps59
    go_wp2_with (go_at_call 66; refine (class_c _ _).mono ?_; rintro e w' ⟨rfl, rfl⟩)
    go_ret
    exact ⟨ret_u64 (Fl.key_nan h1).symm, rfl⟩
  · have h1 : Fl.isN b = false := by simpa using h1
    by_cases h2 : 0 ≤ Fl.sv b
    · have c1 := Fl.canon_low hb h1 h2
      have c2 := Lib.hid (Fl.key_end_ge hb h1 h2)
      clear h2 hb
      go_enter Try.func59, Try.ntmps59
      go_wp2_with (first | (go_at_call 66; refine (class_c _ _).mono ?_; rintro e w' ⟨rfl, rfl⟩) | (go_at_call 64; refine (canon_c _ _).mono ?_; rintro e w' ⟨rfl, rfl⟩))
      go_ret
      exact ⟨ret_u64 c2.out, rfl⟩
    · have c1 := Fl.canon_high hb h1 h2
      have c2 := Lib.hid (Fl.key_end_neg hb h1 h2)
      clear h2 hb
      go_enter Try.func59, Try.ntmps59
      go_wp2_with (first | (go_at_call 66; refine (class_c _ _).mono ?_; rintro e w' ⟨rfl, rfl⟩) | (go_at_call 64; refine (canon_c _ _).mono ?_; rintro e w' ⟨rfl, rfl⟩))
      go_ret
      exact ⟨ret_u64 c2.out, rfl⟩

set_option maxHeartbeats 400000 in
theorem refKey_c (b : Nat) (w : World) (hb : b < 18446744073709551616) :
    Calls Try.prog 61 #[.float .f64 b] w fun e w' => e = .returned (.int .u64 (Fl.key b)) ∧ w = w' := by
  by_cases h1 : Fl.isN b = true
  · go_enter Try.func61, Try.ntmps61
    go_wp2_with fail
    go_ret
    exact ⟨ret_u64 (Fl.key_nan h1).symm, rfl⟩
  · have h1 : Fl.isN b = false := by simpa using h1
    by_cases h2 : 0 ≤ Fl.sv b
    · have c1 := Fl.canon_low' hb h1 h2
      have c2 := Lib.hid (Fl.key_end_ge hb h1 h2)
      clear h2 hb
      go_enter Try.func61, Try.ntmps61
      go_wp2_with (first | (go_at_call 22; refine (bits_c _ _).mono ?_; rintro e w' ⟨rfl, rfl⟩) | (go_at_call 45; refine (refCanon_c _ _).mono ?_; rintro e w' ⟨rfl, rfl⟩))
      go_ret
      exact ⟨ret_u64 c2.out, rfl⟩
    · have c1 := Fl.canon_high' hb h1 h2
      have c2 := Lib.hid (Fl.key_end_neg hb h1 h2)
      clear h2 hb
      go_enter Try.func61, Try.ntmps61
      go_wp2_with (first | (go_at_call 22; refine (bits_c _ _).mono ?_; rintro e w' ⟨rfl, rfl⟩) | (go_at_call 45; refine (refCanon_c _ _).mono ?_; rintro e w' ⟨rfl, rfl⟩))
      go_ret
      exact ⟨ret_u64 c2.out, rfl⟩

set_option maxHeartbeats 400000 in
theorem refSame_c (a b : Nat) (w : World) (ha : a < 18446744073709551616) (hb : b < 18446744073709551616) :
    Calls Try.prog 44 #[.float .f64 a, .float .f64 b] w fun e w' => e = .returned (.bool (Fl.same a b)) ∧ w = w' := by
  go_enter Try.func44, Try.ntmps44
  go_wp2_with (go_at_call 61; refine (refKey_c _ _ (by assumption)).mono ?_; rintro e w' ⟨rfl, rfl⟩)
  go_ret
  exact ⟨rfl, rfl⟩

end Go.Proofs.Ytobdaiiojclfkaa
