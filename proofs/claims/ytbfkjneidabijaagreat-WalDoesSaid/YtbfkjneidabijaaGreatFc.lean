/- Contracts of flt.Class, Canon, Key and of the document's own Class, Canon, Key, IsCanon, over any float64 words: they return what the plain functions Fl.cls, Fl.canon, Fl.key tell, and leave the world alone. Contracts of the keys and places: flt.Key, Less, Same, place, at, Steps, Mid and the document's own Key, Less, Same, over any float64 words below 2 to the 64. -/
import Derived.Test.YtbfkjneidabijaaGreatRows
import Derived.Test.YtbfkjneidabijaaGreatOrd
import Derived.Test.YtbfkjneidabijaaGreatRet
import Derived.WalkKit
import Derived.WalkSpells
import Derived.WalkLawsBesides
import Derived.Lib.Hide
namespace Go.Proofs.YtbfkjneidabijaaGreat
open Go.RowKit
set_option maxRecDepth 100000

@[go_sem] theorem unary_neg_float (k : FloatKind) (b : Nat) : Op.unary .neg (.float k b) = pure (.float k (Op.negFloat k b)) := rfl
@[go_sem] theorem ord_lt (a b : Nat) : (FloatKind.f64.format.order a b == some .lt) = Fl.ltB a b := Fl.order_lt a b
@[go_sem] theorem ord_eq (a b : Nat) : (FloatKind.f64.format.order a b == some .eq) = Fl.eqB a b := Fl.order_eq a b
@[go_sem] theorem ord_ne (a b : Nat) : (FloatKind.f64.format.order a b != some .eq) = !Fl.eqB a b := Fl.order_ne a b
@[go_sem] theorem ord_gt (a b : Nat) : (FloatKind.f64.format.order a b == some .gt) = Fl.ltB b a := Fl.order_gt a b
@[go_sem] theorem eq_self (a : Nat) : Fl.eqB a a = !Fl.isN a := Fl.eqB_self a

@[go_sem] theorem lt_low (b : Nat) : Fl.ltB b 18442240474082181119 = Fl.infM b := Fl.ltB_low b
@[go_sem] theorem lt_max (b : Nat) : Fl.ltB 9218868437227405311 b = Fl.infP b := Fl.ltB_max b
@[go_sem] theorem cls_zero (b : Nat) : (Fl.cls b == 0) = Fl.isN b := Fl.cls_zero_iff b

namespace Fl
theorem place_pos {b : Nat} (h : isN b = false) (hb : b < two63) : wrap64 (I b) = pl b := by
  have := two63_eq
  rw [pl_num h, sv_pos hb]; unfold I wrap64; omega
theorem place_min {b : Nat} (h : isN b = false) (h1 : ¬ b < two63) (hb : b < 18446744073709551616) : wrap64 (-wrap64 (IntKind.u64.wrap (I b - 9223372036854775808))) = pl b := by
  have := two63_eq; have := inf_eq
  have bd := sv_bound h
  have e := sv_min (b := b) (by omega) (by omega)
  rw [pl_num h, wrap_u64]; unfold I wrap64; omega
theorem at_min {p : Int} (h : p < 0) (h1 : -(inf : Int) ≤ p) : IntKind.u64.wrap (IntKind.u64.wrap (wrap64 (-p)) + 9223372036854775808) = atI p := by
  have := two63_eq; have := inf_eq
  unfold atI; rw [if_pos h, wrap_u64, wrap_u64]; unfold wrap64; omega
theorem at_pos {p : Int} (h : ¬ p < 0) (h1 : p ≤ inf) : IntKind.u64.wrap p = atI p := by
  have := two63_eq; have := inf_eq
  unfold atI; rw [if_neg h, wrap_u64]; omega
theorem steps_end {a b : Nat} (h : lt a b = true) : IntKind.u64.wrap (IntKind.u64.wrap (IntKind.u64.wrap (pl b) - IntKind.u64.wrap (pl a)) - 1) = stp a b := by
  have := stp_bound a b
  rw [stp_yes h] at *
  simp only [wrap_u64]; omega
theorem mid_end {a b : Nat} (h2 : (stp a b == 0) = false) :
    wrap64 (IntKind.u64.wrap (IntKind.u64.wrap (IntKind.u64.wrap (pl a) + 1) + IntKind.u64.wrap ((stp a b).tdiv 2))) = pl a + 1 + stp a b / 2
    ∧ -(inf : Int) ≤ pl a + 1 + stp a b / 2 ∧ pl a + 1 + stp a b / 2 ≤ inf := by
  have := inf_eq
  have b1 := pl_bound a
  have b2 := pl_bound b
  have b3 : ¬ stp a b = 0 := by simpa using h2
  have hl : lt a b = true := by
    cases e : lt a b
    · exact absurd (stp_no e) b3
    · rfl
  have b4 := stp_bound a b
  have b5 := stp_yes hl
  have b6 := lt_true.1 hl
  rw [Int.tdiv_eq_ediv_of_nonneg b4.1]
  simp only [wrap_u64]; unfold wrap64; omega
theorem mid_no {a b : Nat} (h : isN a = true ∨ (stp a b == 0) = true) : midOk a b = false ∧ midW a b = 0 := by
  have e : midOk a b = false := by
    unfold midOk
    rcases h with h | h
    · rw [h]; rfl
    · rw [h]; simp
  exact ⟨e, by unfold midW; rw [if_neg (by simp [e])]⟩
theorem mid_yes {a b : Nat} (h : isN a = false) (h2 : (stp a b == 0) = false) : midOk a b = true ∧ midW a b = W (atI (pl a + 1 + stp a b / 2)) := by
  have e : midOk a b = true := by unfold midOk; rw [h, h2]; rfl
  exact ⟨e, by unfold midW; rw [if_pos e]⟩
end Fl

theorem ret_fb {a b : Nat} {c d : Bool} (h : a = b) (h2 : c = d) : Ending.returned (.tuple #[.float .f64 a, .bool c]) = .returned (.tuple #[.float .f64 b, .bool d]) := by rw [h, h2]

end Go.Proofs.YtbfkjneidabijaaGreat
