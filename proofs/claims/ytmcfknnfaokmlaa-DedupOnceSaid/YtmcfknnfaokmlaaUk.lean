/- Stage 16: the walks of DedupOnce and DedupOwn (written by wip/gen16la.py). -/
import Derived.Test.YtmcfknnfaokmlaaUj
namespace Go.Proofs.Ytmcfknnfaokmlaa
set_option maxRecDepth 100000
set_option linter.unusedSimpArgs false
section
open Go.RowKit Go.Lib Go.Shelf
theorem D16.take_else {T : List La} {k i j : Nat} (h : j ≠ k) : D16.lastN (D16.take16 T k i) j = D16.lastN T j := by
  unfold D16.take16
  split
  · rw [D16.last_set, if_neg h]
  · rfl
theorem D16.take_yes {T : List La} {k i : Nat} (h : D16.ask16 T k i = 0) : D16.lastN (D16.take16 T k i) k = i := by
  unfold D16.take16
  rw [if_pos h, D16.last_set, if_pos rfl]
theorem D16.take_no {T : List La} {k i : Nat} (h : ¬ D16.ask16 T k i = 0) : D16.take16 T k i = T := by
  unfold D16.take16
  rw [if_neg h]
set_option maxRecDepth 100000 in
set_option maxHeartbeats 4000000 in
theorem dedupOnce_c {A : Option Addr} {n c k : Nat} {ms : List Dd16} {w : World} (h : DdL16 w A ms) (hn : n = ms.length) (ho : ∀ d ∈ ms, d.ok) (hk : k < 18446744073709551616) :
    Calls Try.prog 4 #[.slice A n c, .int .u64 (k : Int)] w fun e w' => e = .returned (.bool true) ∧ Below w.heap.size w w' := by
  have AW := Lib.hid (awake16_c w)
  have H := Lib.hid h
  have HN := Lib.hid hn
  have HO := Lib.hid ho
  have HK := Lib.hid hk
  clear h hn ho hk
  go_enter Try.func4, Try.ntmps4
  go_wp2_with fail
  refine AW.out.mono ?_
  rintro e w1 ⟨rfl, c1⟩
  have C1 := Lib.hid c1
  clear c1
  by_cases hl : 60 < n
  · have hz : (60 : Int) < (n : Int) := by omega
    have hz2 : decide ((60 : Int) < (n : Int)) = true := by simp; omega
    clear hl
    go_wp2
    go_ret
    exact ⟨rfl, C1.out⟩
  have hz : ¬ (60 : Int) < (n : Int) := by omega
  have hz2 : decide ((60 : Int) < (n : Int)) = false := by simp; omega
  have HL : Hid (n ≤ 60) := Lib.hid (by omega)
  have NC : Hid (Calls Try.prog 8 #[.slice none 0 0] w1 (NewOk16 [] 0 w1)) := Lib.hid (new16_c (A := none) (n := 0) (c := 0) (l := []) (w := w1) AL.nil rfl (by simp) (by intro x hx; cases hx))
  clear hl
  go_wp2_with fail
  refine NC.out.mono ?_
  rintro e w2 ⟨p, mb, rfl, hp, hm, ht, hb⟩
  have T2 := Lib.hid ht
  have B2 := Lib.hid (C1.out.trans (hb.mono C1.out.size))
  have PM : Hid (w.heap.size ≤ mb) := Lib.hid (Nat.le_trans C1.out.size hm)
  clear hp hm ht hb hz hz2
  go_wp2_with fail
  go_loopw [6, 18] (fun s6 s18 wr => ∃ (i nx : Nat) (T : List La), s6 = .int .u64 nx ∧ s18 = .int .i64 i ∧ i ≤ n ∧ nx ≤ i + 1 ∧ 1 ≤ nx ∧ Hid (k ≠ 0 → D16.lastN T k + 1 = nx) ∧ Hid (TB T p mb i wr) ∧ Hid (Below w.heap.size w wr)) (fun _ s18 _ => n - (intOf s18).toNat)
  case atStart => exact ⟨0, 1, [], rfl, rfl, Nat.zero_le _, Nat.le_refl _, Nat.le_refl _, Lib.hid (fun _ => rfl), T2, B2⟩
  case round =>
    obtain ⟨i, nx, T, rfl, rfl, hi, hnx, hn1, HX, HT, BR⟩ := hrel
    have hn60 := HL.out
    by_cases hlt : i < n
    · have hltz : (i : Int) < (n : Int) := by omega
      obtain ⟨ad, d, hA, hd, q0, q1, q2⟩ := (H.out.stay BR.out).at_ (k := i) (by have := HN.out; omega)
      subst hA
      have DO := Lib.hid (HO.out d (List.mem_of_getElem? hd))
      obtain ⟨w3, hw3⟩ : ∃ u, wr.alloc (.cells #[.int .u64 (d.who : Int), .int .u64 (d.id : Int), .bool d.ask] 31) = u := ⟨_, rfl⟩
      obtain ⟨lb, b3, z3⟩ := new_three16 hw3
      have LB := Lib.hid lb
      have B3 : Hid (Below w.heap.size w w3) := Lib.hid (BR.out.trans (b3.mono BR.out.size))
      have TC := Lib.hid (take16_c (k := d.who) (i := d.id) (HT.out.below b3) (by have := HL.out; unfold maxLen; omega) DO.out.1 DO.out.2)
      have NE : Hid (wr.heap.size ≠ mb) := Lib.hid (by have := HT.out.lt; omega)
      obtain ⟨er, her⟩ : ∃ v, D16.ask16 T d.who d.id = v := ⟨_, rfl⟩
      have ER := Lib.hid her
      rw [her] at TC
      obtain ⟨y0, y1, y2⟩ := three_cells16 lb
      clear hd lb b3 z3 her
      go_wp2_with fail
      refine TC.out.mono ?_
      rintro e w4 ⟨rfl, ht4, hg4⟩
      have T4 := Lib.hid ht4
      have B4 : Hid (Below w.heap.size w w4) := Lib.hid (B3.out.grown hg4 B3.out.size (fun k e => by injection e with e; rw [← e]; exact PM.out))
      have LB4 := (hg4.block _ (lt_of_block LB.out) (fun e => by injection e with e; exact NE.out e)).trans LB.out
      clear y0 y1 y2 ht4 hg4
      obtain ⟨y0, y1, y2⟩ := three_cells16 LB4
      clear LB4
      by_cases hw : d.who = k
      case neg =>
        have f1 : ((d.who : Int) == (k : Int)) = false := by simp; omega
        have f2 : ((d.who : Int) != (k : Int)) = true := by rw [bne, f1]; rfl
        have f3 : (d.who == k) = false := by simp [hw]
        have X2 : Hid (k ≠ 0 → D16.lastN (D16.take16 T d.who d.id) k + 1 = nx) := Lib.hid fun q => by rw [D16.take_else (fun e => hw e.symm)]; exact HX.out q
        clear hw
        go_wp2
        go_roundw
        case rel => exact ⟨i + 1, nx, _, rfl, by go_num, by omega, by omega, hn1, X2, T4, B4⟩
        case measure => simp [intOf]; omega
      have f1 : ((d.who : Int) == (k : Int)) = true := by simp [hw]
      have f2 : ((d.who : Int) != (k : Int)) = false := by rw [bne, f1]; rfl
      have f3 : (d.who == k) = true := by simp [hw]
      by_cases k0 : k = 0
      · have g1 : ((k : Int) == 0) = true := by simp [k0]
        have X2 : Hid (k ≠ 0 → D16.lastN (D16.take16 T d.who d.id) k + 1 = nx) := Lib.hid fun q => absurd k0 q
        clear hw k0
        go_wp2
        go_roundw
        case rel => exact ⟨i + 1, nx, _, rfl, by go_num, by omega, by omega, hn1, X2, T4, B4⟩
        case measure => simp [intOf]; omega
      have g1 : ((k : Int) == 0) = false := by simp [k0]
      have KL := HX.out k0
      by_cases hq : d.id = nx
      · have a0 : er = 0 := by rw [← ER.out]; exact D16.ask_zero.2 ⟨by omega, by rw [hw]; omega⟩
        have X2 : Hid (k ≠ 0 → D16.lastN (D16.take16 T d.who d.id) k + 1 = nx + 1) := Lib.hid fun _ => by rw [← hw, D16.take_yes (by rw [ER.out]; exact a0), hq]
        have h1 : ((d.id : Int) == (nx : Int)) = true := by simp [hq]
        have h2 : (d.id == nx) = true := by simp [hq]
        have hwr : IntKind.u64.wrap ((nx : Int) + 1) = ((nx + 1 : Nat) : Int) := by
          have := HL.out
          simp only [IntKind.wrap, IntKind.bits, IntKind.signed]
          simp
          omega
        subst a0
        clear hw k0 KL hq
        go_wp2
        go_roundw
        case rel => exact ⟨i + 1, nx + 1, _, rfl, by go_num, by omega, by omega, by omega, X2, T4, B4⟩
        case measure => simp [intOf]; omega
      · have a0 : ¬ er = 0 := fun e => by
          have := (D16.ask_zero.1 (ER.out.trans e)).2
          rw [hw] at this
          omega
        have a1 : (er == 0) = false := by simp [a0]
        have X2 : Hid (k ≠ 0 → D16.lastN (D16.take16 T d.who d.id) k + 1 = nx) := Lib.hid fun _ => by rw [D16.take_no (by rw [ER.out]; exact a0)]; exact KL
        have h2 : (d.id == nx) = false := by simp [hq]
        have h1 : ((d.id : Int) == (nx : Int)) = false := by simp; omega
        clear hw k0 KL hq a0
        go_wp2
        go_roundw
        case rel => exact ⟨i + 1, nx, _, rfl, by go_num, by omega, by omega, hn1, X2, T4, B4⟩
        case measure => simp [intOf]; omega
    · obtain rfl : i = n := by omega
      have hltz : ¬ ((i : Int) < (i : Int)) := by omega
      by_cases k0 : k = 0
      · subst k0
        have z : ((0 : Nat) : Int) = 0 := rfl
        rw [z]
        go_wp2
        go_ret
        exact ⟨ret_bool (by simp), BR.out⟩
      have g1 : ((k : Int) == 0) = false := by simp [k0]
      have LC := Lib.hid (last16_c HT.out HK.out)
      obtain ⟨la, hla⟩ : ∃ v, v = D16.lastN T k := ⟨_, rfl⟩
      have KL := HX.out k0
      rw [← hla] at LC KL
      have hwr : IntKind.u64.wrap ((nx : Int) - 1) = (la : Int) := by
        have := HL.out
        simp only [IntKind.wrap, IntKind.bits, IntKind.signed]
        simp
        omega
      clear k0 KL hla
      go_wp2_with (go_at_call 16; refine LC.out.mono ?_; rintro e w' ⟨rfl, rfl⟩)
      go_ret
      exact ⟨ret_bool (by simp), BR.out⟩
set_option maxRecDepth 100000 in
set_option maxHeartbeats 4000000 in
theorem dedupOwn_c {A : Option Addr} {n c : Nat} {l : List La} {d : Dd16} {w : World} (h : AL w A l) (hn : n = l.length) (ho : ∀ x ∈ l, x.ok) (hd : d.ok) :
    Calls Try.prog 5 #[.slice A n c, .agg #[.int .u64 (d.who : Int), .int .u64 (d.id : Int), .bool d.ask]] w fun e w' => e = .returned (.bool true) ∧ Below w.heap.size w w' := by
  obtain ⟨w0, hw0⟩ : ∃ u, w.alloc (.cells #[.int .u64 (d.who : Int), .int .u64 (d.id : Int), .bool d.ask] 31) = u := ⟨_, rfl⟩
  obtain ⟨lb, b0, z0⟩ := new_three16 hw0
  have LB := Lib.hid lb
  have B0 := Lib.hid b0
  have AW := Lib.hid (awake16_c w0)
  have H := Lib.hid (h.stay b0)
  have HN := Lib.hid hn
  have HO := Lib.hid ho
  have HD := Lib.hid hd
  clear h hn ho hd lb b0 z0
  go_enter Try.func5, Try.ntmps5
  go_wp2_with fail
  refine AW.out.mono ?_
  rintro e w1 ⟨rfl, c1⟩
  have C1 := Lib.hid c1
  clear c1
  by_cases hl : 30 < n
  · have hz : (30 : Int) < (n : Int) := by omega
    have hz2 : decide ((30 : Int) < (n : Int)) = true := by simp; omega
    clear hl
    go_wp2
    go_ret
    exact ⟨rfl, B0.out.trans (C1.out.mono B0.out.size)⟩
  have hz : ¬ (30 : Int) < (n : Int) := by omega
  have hz2 : decide ((30 : Int) < (n : Int)) = false := by simp; omega
  have HL : Hid (n ≤ 30) := Lib.hid (by omega)
  have NC := Lib.hid (new16_c (c := c) (H.out.stay C1.out) HN.out (by omega) HO.out)
  obtain ⟨T, hT⟩ : ∃ t, t = D16.news16 l := ⟨_, rfl⟩
  have TL : Hid (T.length ≤ 30) := Lib.hid (by have := D16.news_len l; have := HN.out; rw [hT]; omega)
  rw [← hT] at NC
  clear hl hT
  go_wp2_with fail
  refine NC.out.mono ?_
  rintro e w2 ⟨p, mb, rfl, hp, hm, ht, hb⟩
  have T2 := Lib.hid ht
  have C2 := Lib.hid (C1.out.trans (hb.mono C1.out.size))
  have CC := Lib.hid (copy16_c ht (by have := HL.out; omega))
  have ML : Hid (mb < w2.heap.size) := Lib.hid ht.lt.2
  have MG : Hid (w1.heap.size ≤ mb) := Lib.hid hm
  clear hp hm ht hb hz hz2
  go_wp2_with fail
  refine CC.out.mono ?_
  rintro e w3 ⟨p2, mb2, rfl, hp2, hm2, ht2, hb3⟩
  have T3 := Lib.hid (T2.out.below hb3)
  have D3 := Lib.hid ht2
  have C3 := Lib.hid (C2.out.trans (hb3.mono C2.out.size))
  have AC := Lib.hid (lawall16_c ht2 (by have := TL.out; omega))
  have NE : Hid (p2 ≠ mb ∧ mb2 ≠ mb) := Lib.hid (by have := ML.out; omega)
  have MH : Hid (mb < w3.heap.size) := Lib.hid (by have := ML.out; have := hb3.size; omega)
  clear hp2 hm2 ht2 hb3
  go_wp2_with fail
  refine AC.out.mono ?_
  rintro e w4 ⟨A1, k1, rfl, hr1, hb4⟩
  have T4 := Lib.hid (T3.out.below hb4)
  have D4 := Lib.hid (D3.out.below hb4)
  have C4 := Lib.hid (C3.out.trans (hb4.mono C3.out.size))
  have R4 : Hid (Lies w4 0 45 A1 (acells T)) := Lib.hid (lies_own (B := 0) hr1)
  obtain ⟨l0, l1, l2⟩ := three_cells16 (blk_keep LB.out C4.out)
  have TC := Lib.hid (take16_c (k := d.who) (i := d.id) T4.out (by have := HL.out; unfold maxLen; omega) HD.out.1 HD.out.2)
  clear hr1 hb4
  go_wp2_with fail
  refine TC.out.mono ?_
  rintro e w5 ⟨rfl, ht5, hg5⟩
  have D5 := Lib.hid (D4.out.kept hg5 (fun e => by injection e with e; exact NE.out.1 e) (fun e => by injection e with e; exact NE.out.2 e))
  have C5 : Hid (Below w0.heap.size w0 w5) := Lib.hid (C4.out.grown hg5 C4.out.size (fun k e => by injection e with e; rw [← e]; exact Nat.le_trans C1.out.size MG.out))
  have R5 : Hid (Lies w5 0 45 A1 (acells T)) := Lib.hid (lies_grown16 R4.out hg5 (fun k e cs fr q => by
    injection e with e
    obtain ⟨es, cl, qm⟩ := T4.out.m.is_map
    rw [← e, qm] at q
    cases q))
  have AC2 := Lib.hid (lawall16_c D5.out (by have := TL.out; omega))
  clear l0 l1 l2 ht5 hg5
  go_wp2_with fail
  refine AC2.out.mono ?_
  rintro e w6 ⟨A2, k2, rfl, hr2, hb6⟩
  have C6 := Lib.hid (C5.out.trans (hb6.mono C5.out.size))
  have SL := Lib.hid (refSameLasts_c (c := k2) (c2 := k1) (show AL w6 A2 T from (lies_own (B := 0) hr2).old) (show AL w6 A1 T from (R5.out.below (Nat.zero_le _) hb6).old) rfl rfl (by have := TL.out; omega))
  rw [decide_eq_true rfl] at SL
  obtain ⟨tl, htl⟩ : ∃ v, v = T.length := ⟨_, rfl⟩
  rw [← htl] at SL ⊢
  clear hr2 hb6 htl
  go_wp2_with fail
  refine SL.out.mono ?_
  rintro e w7 ⟨rfl, j7, rfl⟩
  have C7 : Hid (Below w0.heap.size w0 (w6.drewN j7)) := Lib.hid (below_drewN C6.out j7)
  have K1 := Lib.hid (take16_nil 1 1 (w6.drewN j7))
  have K2 := Lib.hid (ask16_nil 1 1 (w6.drewN j7))
  have K3 := Lib.hid (last16_nil 1 (w6.drewN j7))
  have K4 := Lib.hid (lawall16_nil (w6.drewN j7))
  have e1 : (((1 : Nat) : Int)) = 1 := rfl
  rw [e1] at K1 K2 K3
  go_wp2_with (first
    | (go_at_call 12; refine K1.out.mono ?_; rintro e w' ⟨rfl, rfl⟩)
    | (go_at_call 10; refine K2.out.mono ?_; rintro e w' ⟨rfl, rfl⟩)
    | (go_at_call 16; refine K3.out.mono ?_; rintro e w' ⟨rfl, rfl⟩))
  refine K4.out.mono ?_
  rintro e w8 ⟨A8, k8, rfl, hr8, hb8⟩
  have C8 := Lib.hid (C7.out.trans (hb8.mono C7.out.size))
  have K5 := Lib.hid (copy16_nil w8)
  have e0 : ([] : List La).length = 0 := rfl
  rw [e0]
  clear hr8 hb8
  go_wp2_with (go_at_call 18; refine K5.out.mono ?_; rintro e w' ⟨rfl, rfl⟩)
  go_ret
  exact ⟨ret_bool (by simp), B0.out.trans (C8.out.mono B0.out.size)⟩
end
end Go.Proofs.Ytmcfknnfaokmlaa
