/- The law FrameAll: the frames one behind the other with which any bytes begin; how long a body may be. Every input, no condition: the walk. -/
import Derived.Test.YtlemhagckmfpoaaFq
import Derived.Laws.MakeOwn
namespace Go.Proofs.Ytlemhagckmfpoaa
open Go.RowKit

theorem same_texts {ms ks : List MTx} {l : List (List UInt8)} (h1 : txs ms = l) (h2 : txs ks = l) : decide (txs ms = txs ks) = true := by rw [h1, h2]; simp

set_option maxHeartbeats 4000000 in
set_option maxRecDepth 100000 in
theorem frameAll_c {A : Option Addr} {n c : Nat} {l : List UInt8} {i : Int} {w : World} (h0 : Lies w w.heap.size 0 A (bcells l)) (hn : n = l.length) (hc : n ≤ c) :
    Calls Try.prog 4 #[.slice A n c, .int .i64 i] w fun e w' => e = .returned (.bool true) ∧ Below w.heap.size w w' := by
  have H0 := Lib.hid h0
  have HN := Lib.hid hn
  clear h0 hn
  by_cases big : 1000 < n ∨ i < 0 ∨ 70000 < i
  · rcases big with big | big | big
    all_goals
      go_enter Try.func4, Try.ntmps4
      go_wp2_with (go_at_call 7; refine (awake4_c _).mono ?_; rintro e w1 ⟨rfl, hb1⟩; have HB1 := Lib.hid hb1; clear hb1)
    all_goals first
      | (go_ret; exact ⟨rfl, HB1.out⟩)
      | (exfalso; omega)
  · obtain ⟨k, rfl⟩ := Int.eq_ofNat_of_zero_le (show 0 ≤ i by omega)
    have b0 : n ≤ 1000 := by omega
    have b1 : (k : Int) ≤ 70000 := by omega
    have k0 : (0 : Int) ≤ (k : Int) := by omega
    clear big
    have hmk := mk_bytes k (by omega)
    by_cases hk : k ≤ 60000
    · have hk' : (k : Int) ≤ 60000 := by omega
      have hL := fun w : World => (Lies.of_blk (B := 0) (heap_alloc_new w (.cells (bcells (List.replicate k 0)).toArray 5)) : Lies _ 0 _ _ _)
      have HL := Lib.hid hL
      clear hL
      go_enter Try.func4, Try.ntmps4
      go_wp2_with (go_at_call 7; refine (awake4_c _).mono ?_; rintro e w1 ⟨rfl, hb1⟩; have HB1 := Lib.hid hb1; have hz1 := hb1.size; clear hb1)
      refine (fput_ok (b := List.replicate k 0) (HL.out w1) (by simp) (by omega)).mono ?_
      rintro e w2 ⟨Ax, nx, cx, rfl, _, _, _, hb2⟩
      have HB2 := Lib.hid ((HB1.out.alloc hz1 _).trans (hb2.mono (by simp; omega)))
      have hz2 := HB2.out.size
      clear hb2 hmk
      go_wp2_with fail
      refine (fall_c (H0.out.below (Nat.le_refl _) HB2.out) HN.out hc (by omega)).mono ?_
      rintro e w3 ⟨ms, A3, n3, c3, rfl, hn3, _, ht3, hx3, hb3⟩
      have HN3 := Lib.hid hn3
      have HT3 := Lib.hid ht3
      have HX3 := Lib.hid hx3
      have HB3 := Lib.hid (HB2.out.trans (hb3.mono hz2))
      have hz3 := hb3.size
      clear hn3 ht3 hx3 hb3
      go_wp2_with fail
      refine (frames_c (H0.out.below (Nat.le_refl _) HB3.out) HN.out hc (by omega)).mono ?_
      rintro e w4 ⟨ks, A4, n4, c4, rfl, hn4, _, ht4, hx4, hb4⟩
      have HN4 := Lib.hid hn4
      have HT4 := Lib.hid ht4
      have HT34 := Lib.hid (HT3.out.below hz3 hb4)
      have D := Lib.hid (same_texts HX3.out hx4)
      have HB4 := Lib.hid (HB3.out.trans (hb4.mono (by omega)))
      have hl3 := (Fr.all_len l).1
      have hl4 := congrArg List.length HX3.out
      rw [txs_len, ← HN3.out] at hl4
      have hs3 : n3 ≤ 1000000000 := by have := HN.out; omega
      clear hn4 ht4 hx4 hb4 hl3 hl4
      go_wp2_with fail
      refine (sameTexts_c HT34.out HT4.out HN3.out HN4.out hs3).mono ?_
      rw [D.out]
      rintro e w5 ⟨rfl, j, rfl⟩
      go_wp2
      go_ret
      exact ⟨rfl, below_drewN HB4.out j⟩
    · have hk' : (60000 : Int) < (k : Int) := by omega
      go_enter Try.func4, Try.ntmps4
      go_wp2_with (go_at_call 7; refine (awake4_c _).mono ?_; rintro e w1 ⟨rfl, hb1⟩; have HB1 := Lib.hid hb1; have hz1 := hb1.size; clear hb1)
      refine (fput_long (by omega) (by omega)).mono ?_
      rintro e w2 ⟨Ax, nx, cx, rfl, _, _, _, hb2⟩
      have HB2 := Lib.hid ((HB1.out.alloc hz1 _).trans (hb2.mono (by simp; omega)))
      have hz2 := HB2.out.size
      clear hb2 hmk
      go_wp2_with fail
      refine (fall_c (H0.out.below (Nat.le_refl _) HB2.out) HN.out hc (by omega)).mono ?_
      rintro e w3 ⟨ms, A3, n3, c3, rfl, hn3, _, ht3, hx3, hb3⟩
      have HN3 := Lib.hid hn3
      have HT3 := Lib.hid ht3
      have HX3 := Lib.hid hx3
      have HB3 := Lib.hid (HB2.out.trans (hb3.mono hz2))
      have hz3 := hb3.size
      clear hn3 ht3 hx3 hb3
      go_wp2_with fail
      refine (frames_c (H0.out.below (Nat.le_refl _) HB3.out) HN.out hc (by omega)).mono ?_
      rintro e w4 ⟨ks, A4, n4, c4, rfl, hn4, _, ht4, hx4, hb4⟩
      have HN4 := Lib.hid hn4
      have HT4 := Lib.hid ht4
      have HT34 := Lib.hid (HT3.out.below hz3 hb4)
      have D := Lib.hid (same_texts HX3.out hx4)
      have HB4 := Lib.hid (HB3.out.trans (hb4.mono (by omega)))
      have hl3 := (Fr.all_len l).1
      have hl4 := congrArg List.length HX3.out
      rw [txs_len, ← HN3.out] at hl4
      have hs3 : n3 ≤ 1000000000 := by have := HN.out; omega
      clear hn4 ht4 hx4 hb4 hl3 hl4
      go_wp2_with fail
      refine (sameTexts_c HT34.out HT4.out HN3.out HN4.out hs3).mono ?_
      rw [D.out]
      rintro e w5 ⟨rfl, j, rfl⟩
      go_wp2
      go_ret
      exact ⟨ret_bool (by simp; omega), below_drewN HB4.out j⟩
end Go.Proofs.Ytlemhagckmfpoaa
