/- Stage 13: Run: the row sorted, turned round, cut off, copied. -/
import Derived.Test.YtnhpkcphgdkdiaaGg
namespace Go.Proofs.Ytnhpkcphgdkdiaa
set_option maxRecDepth 100000
set_option linter.unusedSimpArgs false
section
open Go.RowKit Go.Lib Go.Shelf Go.Sort
theorem sortU13_c {A : Option Addr} {n c B g : Nat} {xs : List MTk} {q : T9.Qr} {w : World} (ho : w.ownsRow B 32 7 (.slice A n c) n (tkcells xs)) (hn : xs.length = n) (hs : n ≤ 1000000) (hq : w.heap[g]? = some (.cells (qcells q) 28 (0, 0))) (hg : g < B) (hf : ∀ m ∈ xs, m.t.rank < 18446744073709551616 ∧ m.t.est < 18446744073709551616) :
    Calls Try.prog 19 #[.slice A n c, .func (.func 20) #[] #[.pointer (some ⟨g, 0, none⟩)]] w fun e w' => e = .returned (.tuple #[]) ∧ Below B w w' ∧ ∃ W, w'.ownsRow B 32 7 (.slice A n c) n (tkcells W) ∧ W.length = n ∧ Sr.Srt (ltOf (cfQ q.sort)) W ∧ Sr.Stb (ltOf (cfQ q.sort)) xs W := by
  by_cases h0 : n = 0
  · subst h0
    have e : xs = [] := List.length_eq_zero_iff.1 hn
    subst e
    refine (sort0M_c A c _ w).mono ?_
    rintro e w' ⟨rfl, rfl⟩
    exact ⟨rfl, Below.refl _ _, [], ho, rfl, Sr.Srt.nil, Sr.Stb.refl _⟩
  · obtain ⟨b, hA, hBb⟩ := own_at_any ho (by omega)
    subst hA
    have gl := ho.lt b rfl
    have hown2 : w.ownsRow B 32 7 (.slice (some ⟨b, 0, none⟩) n c) n (xs.toArray.toList.flatMap encQ) := by
      rw [tkcells_Q hf]
      exact ho
    have R : RowK encQ 7 w b 0 xs.toArray := rowK_own (d := xs.toArray) encQ_len encQ_one (by decide) rfl hown2
    have S0 : SWK encQ 7 w b 0 xs.toArray w := SWK.start R.hH
    refine (sortQ_c (s := q.sort) (cap := c) R S0 (fun args w => Try.call20 args w) (cb := #[.pointer (some ⟨g, 0, none⟩)]) (fun m os dk _ x y => runClo_c x y _ ((swk_keep (⟨m, os, rfl⟩ : SWK encQ 7 w b 0 dk _) g (lt_of_block hq) (by omega)).trans hq)) (by simp; omega) n (by simp; exact hn.symm)).mono ?_
    rintro e w2 ⟨rfl, dk, W, hs2, hd2, hl2, hw2, hsr, hst⟩
    have hWl : W.length = n := by rw [hw2]; simpa using hn
    have hWm : ∀ m ∈ W, m ∈ xs := fun m hm => by simpa using Sr.Stb.mem (woQ q.sort) hst hm
    have hlw : dk.toList = W := by rw [hl2]; simp
    refine ⟨rfl, swk_below hs2 hBb gl.2, W, ?_, hWl, hsr, by simpa using hst⟩
    have q := swk_own hs2 R hd2 ho (l := W) (by rw [hlw, List.take_length]) (by omega)
    rw [hWl] at q
    rw [← tkcells_Q (fun m hm => hf m (hWm m hm))]
    exact q
theorem rev0_13 (A : Option Addr) (c : Nat) (w : World) : Calls Try.prog 22 #[.slice A 0 c] w fun e w' => e = .returned (.tuple #[]) ∧ w = w' := by
  go_enter Try.func22, Try.ntmps22
  go_wp2_with fail
  refine wp_loop_rounds 1 ?_
  rw [rounds_succ]
  go_wp2_with fail
  go_end0
  exact ⟨rfl, rfl⟩
theorem revU13_c {A : Option Addr} {n c B : Nat} {xs : List MTk} {w : World} (ho : w.ownsRow B 32 7 (.slice A n c) n (tkcells xs)) (hn : xs.length = n) (hs : n ≤ 1000000) :
    Calls Try.prog 22 #[.slice A n c] w fun e w' => e = .returned (.tuple #[]) ∧ Below B w w' ∧ w'.ownsRow B 32 7 (.slice A n c) n (tkcells xs.reverse) := by
  by_cases h0 : n = 0
  · subst h0
    have e : xs = [] := List.length_eq_zero_iff.1 hn
    subst e
    refine (rev0_13 A c w).mono ?_
    rintro e w' ⟨rfl, rfl⟩
    exact ⟨rfl, Below.refl _ _, ho⟩
  · obtain ⟨b, hA, hBb⟩ := own_at_any ho (by omega)
    subst hA
    have gl := ho.lt b rfl
    have hown2 : w.ownsRow B 32 7 (.slice (some ⟨b, 0, none⟩) n c) n (xs.toArray.toList.flatMap encK) := ho
    have R : RowK encK 7 w b 0 xs.toArray := rowK_own (d := xs.toArray) encK_len encK_one (by decide) rfl hown2
    have S0 : SWK encK 7 w b 0 xs.toArray w := SWK.start R.hH
    refine (reverse13_c (cap := c) R rfl S0 (by simp; omega) n (by simp; exact hn.symm)).mono ?_
    rintro e w2 ⟨rfl, dk, hs2, hd2, hl2⟩
    have hlw : dk.toList = xs.reverse := by rw [hl2]
    refine ⟨rfl, swk_below hs2 hBb gl.2, ?_⟩
    have q := swk_own hs2 R hd2 ho (l := xs.reverse) (by rw [hlw, List.take_length]) (by rw [List.length_reverse]; omega)
    rw [List.length_reverse, hn] at q
    exact q
end
end Go.Proofs.Ytnhpkcphgdkdiaa
