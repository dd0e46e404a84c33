/- The float of a float's key is that float, and the key of a key's float is that key, of words alone. -/
import Derived.Test.YtobdaiiojclfkaaFo
import Derived.Test.YtobdaiiojclfkaaPost
namespace Go.Proofs.Ytobdaiiojclfkaa
open Go.ChangeShapes Go.WideShapes Go.ChangeAt Go.RowKit

namespace Fl
theorem fit_key {a : Nat} (ha : a < 18446744073709551616) : fit (key a) = true ∧ wd (key a) = canon a := by
  have e1 := inf_eq
  have e2 := two63_eq
  cases n : isN a
  · have bd := sv_bound n
    by_cases s : 0 ≤ sv a
    · have hk := key_ge n s
      have hf : fit (key a) = true := (fit_iff _ (key_bound a).1 (key_bound a).2).2 (by omega)
      refine ⟨hf, ?_⟩
      have hc := canon_ge ha n s
      have hw : W (cand (key a)) = canon a := by
        unfold cand; rw [if_neg (by omega)]; unfold W; unfold I at hc; omega
      rw [fit_yes hf, hw, canon_canon]
    · have hk := key_neg n (by omega)
      have hf : fit (key a) = true := (fit_iff _ (key_bound a).1 (key_bound a).2).2 (by omega)
      refine ⟨hf, ?_⟩
      have hc := canon_neg ha n (by omega)
      have hw : W (cand (key a)) = canon a := by
        unfold cand; rw [if_pos (by omega)]; unfold W; unfold I at hc; omega
      rw [fit_yes hf, hw, canon_canon]
  · rw [key_nan n, canon_nan n]
    have hf : fit 0 = true := by decide +kernel
    exact ⟨hf, by rw [fit_yes hf]; decide +kernel⟩
theorem wd_lt (k : Int) (h0 : 0 ≤ k) (h1 : k < 18446744073709551616) : wd k < 18446744073709551616 := by
  unfold wd; split
  · exact canon_lt (W_lt (cand_bound h0 h1).2)
  · omega
theorem key_wd {k : Int} (h : fit k = true) : (key (wd k) == k) = true := by
  rw [fit_yes h, key_canon]; exact h
end Fl

end Go.Proofs.Ytobdaiiojclfkaa
