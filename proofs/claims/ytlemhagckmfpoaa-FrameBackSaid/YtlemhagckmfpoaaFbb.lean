/- The law FrameBack: what was framed is told again, whatever stands behind it. Every input, no condition: the walk. -/
import Derived.Test.YtlemhagckmfpoaaFq
import Derived.Test.YtlemhagckmfpoaaFaa
namespace Go.Proofs.Ytlemhagckmfpoaa
open Go.RowKit

def frs (ms : List MTx) : List UInt8 := (txs ms).flatMap Fr.frame
theorem frs_snoc (ms : List MTx) (m : MTx) : frs (ms ++ [m]) = frs ms ++ Fr.frame m.b := by simp [frs, txs]
theorem frs_len {ms : List MTx} (h : ∀ m ∈ ms, m.b.length ≤ 300) : (frs ms).length ≤ 307 * ms.length := by
  induction ms with
  | nil => simp [frs, txs]
  | cons m ms ih =>
    have a := h m (by simp)
    have b := ih (fun x hx => h x (by simp [hx]))
    unfold frs txs at b ⊢
    rw [List.map_cons, List.flatMap_cons, List.length_append, Fr.frame_len, List.length_cons]
    omega
theorem frs_all {ms : List MTx} (h : ∀ m ∈ ms, m.b.length ≤ 300) (c : List UInt8) : Fr.all (frs ms ++ c) = txs ms ++ Fr.all c :=
  Fr.all_frames (fun b hb => by
    obtain ⟨m, hm, rfl⟩ := List.mem_map.1 hb
    have := h m hm
    omega) c

set_option maxHeartbeats 4000000 in
set_option maxRecDepth 100000 in
theorem frameBack_c {A A2 : Option Addr} {n c n2 c2 : Nat} {ms : List MTx} {l : List UInt8} {w : World} (h0 : TL w w.heap.size 0 0 A ms) (hn : n = ms.length) (h2 : Lies w w.heap.size 0 A2 (bcells l)) (hn2 : n2 = l.length) (hs : n ≤ 9223372036854775807) (hs2 : n2 ≤ 9223372036854775807) (hms : ∀ m ∈ ms, m.b.length ≤ 9223372036854775807) :
    Calls Try.prog 5 #[.slice A n c, .slice A2 n2 c2] w fun e w' => e = .returned (.bool true) ∧ Below w.heap.size w w' := by
  have H0 := Lib.hid h0
  have H2 := Lib.hid h2
  have HN := Lib.hid hn
  have HN2 := Lib.hid hn2
  have HMS := Lib.hid hms
  clear h0 h2 hn hn2 hms
  obtain ⟨ti, hi, iz0, iz1, iz2⟩ := info_parts Try.infoU8
  by_cases big : 10 < n ∨ 300 < n2
  · rcases big with big | big
    all_goals
      go_enter Try.func5, Try.ntmps5
      go_wp2_with (go_at_call 7; refine (awake4_c _).mono ?_; rintro e w1 ⟨rfl, hb1⟩; have HB1 := Lib.hid hb1; clear hb1)
    all_goals first
      | (go_ret; exact ⟨rfl, HB1.out⟩)
      | (exfalso; omega)
  · have b0 : n ≤ 10 := by omega
    have b1 : n2 ≤ 300 := by omega
    clear big hs hs2
    go_enter Try.func5, Try.ntmps5
    go_wp2_with (go_at_call 7; refine (awake4_c _).mono ?_; rintro e w1 ⟨rfl, hb1⟩; have HB1 := Lib.hid hb1; clear hb1)
    go_loopw [5, 23] (fun o i wr => ∃ (k nb cb : Nat) (Ab : Option Addr), k ≤ n ∧ i = .int .i64 k ∧ o = .slice Ab nb cb ∧ nb = (frs (ms.take k)).length ∧ nb ≤ 307 * k ∧ wr.ownsRow w.heap.size 5 1 (.slice Ab nb cb) nb (bcells (frs (ms.take k))) ∧ (∀ m ∈ ms.take k, m.b.length ≤ 300) ∧ Below w.heap.size w wr) (fun _ i _ => n - (intOf i).toNat)
    case atStart => exact ⟨0, 0, 0, none, Nat.zero_le _, rfl, rfl, rfl, by omega, World.ownsRow_nil _ _ _ _, by simp, HB1.out⟩
    case round =>
      obtain ⟨k, nb, cb, Ab, hk, rfl, rfl, hnb, hnk, ho, hsm, hb⟩ := hrel
      have HNB := Lib.hid hnb
      have HO := Lib.hid ho
      have HSM := Lib.hid hsm
      have HB := Lib.hid hb
      have hz := hb.size
      clear hnb ho hsm hb
      by_cases hlt : k < n
      · obtain ⟨ad, m, rfl, hm, hf, hc⟩ := (H0.out.below (Nat.le_refl _) HB.out).at_ (k := k) (by rw [← HN.out]; exact hlt)
        have HM := Lib.hid hm
        have HF := Lib.hid hf
        have ml := HMS.out m (List.mem_of_getElem? hm)
        clear hm hf
        by_cases h3 : 300 < m.b.length
        · have h3' : (300 : Int) < (m.b.length : Int) := by omega
          go_wp2
          go_ret
          exact ⟨rfl, HB.out⟩
        · have h3' : (m.b.length : Int) ≤ 300 := by omega
          clear ml
          go_wp2_with fail
          refine (fput_ok HF.out.1 rfl (by omega)).mono ?_
          rintro e w2 ⟨Ax, nx, cx, rfl, hnx, _, hox, hb2⟩
          have HNX := Lib.hid (hnx.trans (Fr.frame_len _))
          have HX := Lib.hid (lies_own (B := 0) hox)
          have HB2 := Lib.hid (HB.out.trans (hb2.mono hz))
          have HO2 := Lib.hid (own_below HO.out hb2)
          have hz2 := HB2.out.size
          have lx : nx ≤ 307 := by have := HNX.out; omega
          have LX := Lib.hid (show (bcells (Fr.frame m.b)).length = nx * 1 by rw [bcells_len, Nat.mul_one]; exact hnx.symm)
          clear hnx hox hb2
          go_wp2_with (at_builtin; refine wpList_app _ rfl _ _ 22 rfl w.heap.size 5 ti (.int .u8 0) 1 1 Try.underlying22 hi iz0 iz1 iz2 rfl (by decide) _ nb _ rfl HO2.out 0 Ax nx cx (bcells (Fr.frame m.b)) 5 rfl LX.out HX.out (bcells_one _) (by unfold maxLen; omega) (by omega) hz2 ?_)
          intro v' w3 hown hgrow _
          obtain ⟨A3, k3, rfl⟩ := own_slice hown
          have HB3 := Lib.hid (HB2.out.trans (app_step HO2.out hgrow hz2).below)
          rw [← bcells_app] at hown
          have O3 := Lib.hid hown
          clear hown hgrow
          go_wp2
          go_roundw
          case rel =>
            have e1 : frs (ms.take (k + 1)) = frs (ms.take k) ++ Fr.frame m.b := by rw [take_next HM.out, frs_snoc]
            refine ⟨k + 1, nb + nx, k3, A3, by omega, by go_num, rfl, ?_, by omega, ?_, ?_, HB3.out⟩
            · rw [e1, List.length_append, Fr.frame_len, HNB.out, HNX.out]
            · rw [e1]; exact O3.out
            · rw [take_next HM.out]
              intro q hq
              rw [List.mem_append, List.mem_singleton] at hq
              rcases hq with hq | rfl
              · exact HSM.out q hq
              · omega
          case measure => simp [intOf]; omega
      · obtain rfl : k = n := by omega
        have et : ms.take k = ms := by rw [HN.out, List.take_length]
        have hnb := HNB.out
        have ho := HO.out
        have hsm := HSM.out
        rw [et] at hnb ho hsm
        have HNB2 := Lib.hid hnb
        have HO2 := Lib.hid ho
        have FA := Lib.hid (frs_all hsm l)
        clear et hnb ho hsm
        go_wp2_with (at_builtin; refine wpList_app _ rfl _ _ 22 rfl w.heap.size 5 ti (.int .u8 0) 1 1 Try.underlying22 hi iz0 iz1 iz2 rfl (by decide) _ nb _ rfl HO2.out w.heap.size A2 n2 c2 (bcells l) 0 rfl (by rw [bcells_len, HN2.out]; omega) (H2.out.below (Nat.le_refl _) HB.out) (bcells_one _) (by unfold maxLen; omega) (by omega) hz ?_)
        intro v' w3 hown hgrow _
        obtain ⟨A3, k3, rfl⟩ := own_slice hown
        have HB3 := Lib.hid (HB.out.trans (app_step HO2.out hgrow hz).below)
        have hz3 := HB3.out.size
        rw [← bcells_app] at hown
        have O3 := Lib.hid hown
        have rm := (own_room hown).2
        clear hown hgrow
        go_wp2_with fail
        refine (fall_c (l := frs ms ++ l) (B := 0) (t := 5) (lies_own O3.out) (by rw [List.length_append, ← HNB2.out, ← HN2.out]) rm (by omega)).mono ?_
        rw [FA.out]
        rintro e w4 ⟨ks, A4, n4, c4, rfl, hn4, hc4, ht4, hx4, hb4⟩
        have hl4 := congrArg List.length hx4
        rw [txs_len, List.length_append, txs_len, ← hn4, ← HN.out] at hl4
        have ge : decide (n4 < k) = false := by simp; omega
        have ge2 : decide (k ≤ n4) = true := by simp; omega
        have hle : (k : Int) ≤ (c4 : Int) := by omega
        have D : Hid (decide (txs (ks.take k) = txs ms) = true) := by
          refine Lib.hid ?_
          rw [decide_eq_true_iff, ← txs_take, hx4, HN.out, ← txs_len ms, List.take_left]
        have HT4 := Lib.hid (ht4.take k)
        have HK4 : Hid (k = (ks.take k).length) := by
          refine Lib.hid ?_
          rw [List.length_take, ← hn4]; omega
        have HB4 := Lib.hid (HB3.out.trans (hb4.mono hz3))
        clear hn4 ht4 hx4 hb4 hl4
        go_wp2_with fail
        refine (sameTexts_c HT4.out (H0.out.below (Nat.le_refl _) HB4.out) HK4.out HN.out (by omega)).mono ?_
        rw [D.out]
        rintro e w5 ⟨rfl, j, rfl⟩
        go_wp2
        go_ret
        exact ⟨rfl, below_drewN HB4.out j⟩
end Go.Proofs.Ytlemhagckmfpoaa
