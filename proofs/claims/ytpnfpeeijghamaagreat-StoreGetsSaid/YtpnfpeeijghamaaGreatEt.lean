/- Stage 8: the law StoreGets, walked. -/
import Derived.Test.YtpnfpeeijghamaaGreatEs
namespace Go.Proofs.YtpnfpeeijghamaaGreat
open Go.RowKit Go.Shelf Go.Maps
set_option maxRecDepth 100000

attribute [local go_sem] Oper.semAt_some

set_option maxHeartbeats 16000000 in
set_option maxRecDepth 100000 in
theorem storeGets_c {A0 A2 : Option Addr} {c0 c2 : Nat} {l : List MDe} {key val : List UInt8} {most : Int} {w : World} (h0 : DE w w.heap.size A0 l) (hk0 : ∀ m ∈ l, m.ok) (hs0 : l.length ≤ maxLen) (hkey : key.length ≤ maxLen) (h2 : Lies w w.heap.size 0 A2 (bcells val)) (hc2 : val.length ≤ c2) (hv2 : val.length ≤ maxLen) (hm0 : -9223372036854775808 ≤ most) (hm1 : most < 9223372036854775808) :
    Calls Tryz.prog 5 #[.slice A0 l.length c0, .string (str key), .slice A2 val.length c2, .int .i64 most] w fun e w' => e = .returned (.bool true) ∧ Below w.heap.size w w' := by
  have H0 := Lib.hid h0
  have HK0 := Lib.hid hk0
  have H2 := Lib.hid h2
  have HC2 := Lib.hid hc2
  obtain ⟨n0, en0⟩ : ∃ n, n = l.length := ⟨_, rfl⟩
  obtain ⟨nk, enk⟩ : ∃ n, n = key.length := ⟨_, rfl⟩
  obtain ⟨nv, env⟩ : ∃ n, n = val.length := ⟨_, rfl⟩
  rw [← en0] at hs0 ⊢
  rw [← env] at hv2 ⊢
  rw [← enk] at hkey
  have N0 := Lib.hid en0
  have NK := Lib.hid enk
  have NV := Lib.hid env
  have hsz : (str key).size = nk := enk.symm
  unfold maxLen at hs0 hv2 hkey
  clear h0 hk0 h2 hc2 en0 enk env
  -- the two boxes
  obtain ⟨wA, hwA⟩ : ∃ wA, (w.alloc (.cells #[.int .i64 most] 3)).alloc (.cells #[.bool false] 4) = wA := ⟨_, rfl⟩
  have bA : Below w.heap.size w wA := by rw [← hwA]; exact ((Below.refl _ w).alloc (Nat.le_refl _) _).alloc (by simp) _
  have sA : wA.heap.size = w.heap.size + 2 := by rw [← hwA]; simp
  have k7 : wA.heap[w.heap.size]? = some (.cells #[.int .i64 most] 3 (0, 0)) := by rw [← hwA]; exact blk_alloc (heap_alloc_new w _) _
  have k8 : wA.heap[w.heap.size + 1]? = some (.cells #[.bool false] 4 (0, 0)) := by
    rw [← hwA]
    have := heap_alloc_new (w.alloc (.cells #[.int .i64 most] 3)) (.cells #[.bool false] 4)
    rwa [World.size_alloc] at this
  have BA := Lib.hid bA
  have SA := Lib.hid sA
  have K7 := Lib.hid k7
  have K8 := Lib.hid k8
  -- a return with true, ahead of the loop over the keys
  have RT : Hid (∀ (wr : World) (tm : Array Value), Below wA.heap.size wA wr → tm.getD 8 undef = .pointer (some ⟨w.heap.size + 1, 0, none⟩) → LeavesInM Fence.wide 9 Tryz.prog Tryz.f5 tm (fun e w' => e = .returned (.bool true) ∧ Below w.heap.size w w') [] .returning (wr.setCell ⟨w.heap.size + 1, 0, none⟩ (.bool true))) := Lib.hid fun wr tm hb ht => by
    have k := (hb.block (w.heap.size + 1) (by omega)).trans k8
    have k' : (wr.setCell ⟨w.heap.size + 1, 0, none⟩ (.bool true)).heap[w.heap.size + 1]? = some (.cells #[.bool true] 4 (0, 0)) := (blk_set k 0 _).trans rfl
    refine leaves_cell (Ds := []) (v := .bool true) List.nodup_nil (fun D hD => by cases hD) (results_bool rfl _ _ (w.heap.size + 1) true ht (one_cell k')) ⟨rfl, ?_⟩
    exact (bA.trans (hb.mono (by omega))).setCell (p := ⟨w.heap.size + 1, 0, none⟩) (Nat.le_succ _) _
  clear bA sA k7 k8
  refine calls_of_marks Tryz.func5 rfl ?_
  simp only [Tryz.ntmps5, List.size_toArray, List.length_cons, List.length_nil, Nat.reduceAdd, Nat.reduceSub, Array.replicate_succ, Array.replicate_zero, List.push_toArray, List.append_toArray, List.nil_append, List.cons_append]
  go_wp2_with fail
  refine (awake8 wA).mono ?_
  rintro e w1 ⟨rfl, hb1⟩
  have B1 := Lib.hid hb1
  have k7 := (hb1.block w.heap.size (by have := SA.out; omega)).trans K7.out
  have k8 := (hb1.block (w.heap.size + 1) (by have := SA.out; omega)).trans K8.out
  have c7 := one_cell k7
  have c8 := one_cell k8
  have f8 := blk_free k8 0
  have z1 := hb1.size
  have K81 := Lib.hid k8
  have K71 := Lib.hid k7
  clear hb1 k7 k8
  by_cases q1 : 10 < n0
  · have q1' : (10 : Int) < (n0 : Int) := by omega
    go_wp2
    exact RT.out w1 _ B1.out rfl
  have q1' : ¬ (10 : Int) < (n0 : Int) := by omega
  by_cases q2 : 30 < nk
  · have q2' : (30 : Int) < (nk : Int) := by omega
    go_wp2
    exact RT.out w1 _ B1.out rfl
  have q2' : ¬ (30 : Int) < (nk : Int) := by omega
  by_cases q3 : 200 < nv
  · have q3' : (200 : Int) < (nv : Int) := by omega
    go_wp2
    exact RT.out w1 _ B1.out rfl
  have q3' : ¬ (200 : Int) < (nv : Int) := by omega
  by_cases q4 : most < 0
  · go_wp2
    exact RT.out w1 _ B1.out rfl
  have q4' : ¬ most < 0 := q4
  obtain ⟨D1, D2, g1, g2, g3, g4, g5, g6, g7, g8, g9, g10⟩ := fmt_fine (n := 1000) (by decide)
  have l1000 : (Dk.new 1000).s.length = 1000 := by show (List.replicate (Dk.count 1000) _).length = 1000; rw [List.length_replicate]; rfl
  rw [l1000] at g10
  have LV0 := Lib.hid (Live8.start g7 g8 g9)
  have G1 := Lib.hid g1
  have G2 := Lib.hid g2
  have G3 := Lib.hid g3
  have G4 := Lib.hid g4
  have G5 := Lib.hid g5
  have G6 := Lib.hid g6
  have G7 := Lib.hid g7
  have G9 := Lib.hid g9
  have G10 := Lib.hid g10
  clear g1 g2 g3 g4 g5 g6 g7 g8 g9 g10 l1000
  go_wp2_with fail
  refine (cdNew_c _ _ (by decide)).mono ?_
  intro e w2 hp
  obtain ⟨q, G2', rfl, hs2, _, hb2⟩ := CNewOk.step (Nat.le_refl w1.heap.size) hp
  have S2 := Lib.hid hs2
  have B2 := Lib.hid hb2
  have z2 := hb2.size
  clear hp hs2 hb2
  go_wp2_with fail
  refine (stFormat_c S2.out z2 G1.out G2.out G3.out G4.out G5.out G6.out).mono ?_
  rintro e w3 ⟨rfl, ⟨G3', hs3⟩, hb3⟩
  have S3 := Lib.hid hs3
  have B3 := Lib.hid (B2.out.trans hb3)
  have z3 := B3.out.size
  clear hs3 hb3
  go_wp2_with fail
  refine (stOpen_c S3.out z3 G7.out G9.out (by simp) of_r0 (by decide)).mono ?_
  rintro e w4 ⟨E4, V4, sp, pw, mb, rfl, hs4, hb4⟩
  have B4 := Lib.hid (B3.out.trans (hb4.mono z3))
  have z4 := B4.out.size
  -- the box of s
  have kb : (w4.alloc (.cells #[.pointer (some ⟨sp, 0, none⟩)] 42)).heap[w4.heap.size]? = some (.cells #[.pointer (some ⟨sp, 0, none⟩)] 42 (0, 0)) := heap_alloc_new w4 _
  have bb : Below w4.heap.size w4 (w4.alloc (.cells #[.pointer (some ⟨sp, 0, none⟩)] 42)) := (Below.refl _ w4).alloc (Nat.le_refl _) _
  have NE : Hid (¬ E4 w4.heap.size ∧ ¬ G3' w4.heap.size ∧ w4.heap.size ≠ sp) := Lib.hid ⟨fun e => by have := hs4.ws.x.eo _ e; omega, fun e => by have := hs4.ws.x.go _ e; omega, fun e => by have := lt_of_block hs4.st; omega⟩
  have S5 := Lib.hid (hs4.keep bb)
  have KB := Lib.hid kb
  have B5 := Lib.hid (B4.out.trans (bb.mono z4))
  have NN := Lib.hid (show n0 ≤ 10 by omega)
  clear hs4 hb4 kb bb hs0 hv2 hkey c7 c8 f8
  go_wp2_with fail
  obtain ⟨w5, hw5⟩ : ∃ w5, w4.alloc (.cells #[.pointer (some ⟨sp, 0, none⟩)] 42) = w5 := ⟨_, rfl⟩
  rw [hw5] at S5 KB B5 ⊢
  clear hw5
  have KW := Lib.hid (show ∀ (wr : World), Below w1.heap.size w1 wr → wr.heap[w.heap.size]? = some (.cells #[.int .i64 most] 3 (0, 0)) ∧ wr.heap[w.heap.size + 1]? = some (.cells #[.bool false] 4 (0, 0)) from fun wr hb => ⟨(hb.block _ (by have := SA.out; omega)).trans K71.out, (hb.block _ (by have := SA.out; omega)).trans K81.out⟩)
  have BW := Lib.hid (show ∀ (wr : World), Below w1.heap.size w1 wr → Below w.heap.size w wr ∧ Below wA.heap.size wA wr from fun wr hb => ⟨BA.out.trans ((B1.out.trans (hb.mono z1)).mono (by have := SA.out; omega)), B1.out.trans (hb.mono z1)⟩)
  go_loopw [55] (fun i wr => ∃ (k j : Nat) (E G V : Nat → Prop) (mb : Nat) (s : VS) (d : Dk.D) (L : List St.KV), k ≤ n0 ∧ i = .int .i64 (k : Int) ∧ SS wr w1.heap.size E G V sp pw q mb s d L false ∧ Live8 j s d L ∧ j ≤ k ∧ d.s.length = 1000 ∧ (¬ E w4.heap.size ∧ ¬ G w4.heap.size ∧ w4.heap.size ≠ sp) ∧ wr.heap[w4.heap.size]? = some (.cells #[.pointer (some ⟨sp, 0, none⟩)] 42 (0, 0)) ∧ Below w1.heap.size w1 wr) (fun i _ => n0 - (intOf i).toNat)
  case atStart => exact ⟨0, 0, _, _, _, _, _, _, _, Nat.zero_le _, rfl, S5.out, LV0.out, Nat.le_refl _, G10.out, NE.out, KB.out, B5.out⟩
  case round =>
    obtain ⟨k, j, E, G, V, mbk, s, d, L, hk, rfl, hss, hlv, hjk, hdn, hne, hbox, hb⟩ := hrel
    have SS' := Lib.hid hss
    have LV := Lib.hid hlv
    have DN := Lib.hid hdn
    have NE' := Lib.hid hne
    have BOX := Lib.hid hbox
    have HB := Lib.hid hb
    have zr := hb.size
    have nn : n0 ≤ 10 := NN.out
    have jk := hjk
    clear hss hlv hdn hne hbox hb hjk
    by_cases hlt : k < n0
    · obtain ⟨ad, m, rfl, hm, hfine, d0, d1, d2, d3⟩ := (H0.out.below (Nat.le_refl _) (BW.out wr HB.out).1).at_ (k := k) (by rw [← N0.out]; exact hlt)
      have HM := Lib.hid hm
      have HF := Lib.hid hfine
      have OKm := Lib.hid (HK0.out m (List.mem_of_getElem? hm))
      have pd : (wr.alloc (.cells #[.int .i64 m.kind, .slice m.LA m.L.length m.Lc, .int .i64 m.n, .slice m.KA m.keep.length m.Kc] 46)).heap[wr.heap.size]? = some (.cells #[.int .i64 m.kind, .slice m.LA m.L.length m.Lc, .int .i64 m.n, .slice m.KA m.keep.length m.Kc] 46 (0, 0)) := heap_alloc_new wr _
      have PD := Lib.hid pd
      have BD := Lib.hid ((Below.refl wr.heap.size wr).alloc (Nat.le_refl _) (.cells #[.int .i64 m.kind, .slice m.LA m.L.length m.Lc, .int .i64 m.n, .slice m.KA m.keep.length m.Kc] 46))
      have wz := (BW.out wr HB.out).1.size
      have UD := Lib.hid (hfine.1.below wz BD.out)
      clear hm hfine pd
      go_wp2_with fail
      refine (few8_c UD.out (by simp; omega) rfl OKm.out.2.2.1 OKm.out.2.2.2.1).mono ?_
      rintro e w6 ⟨⟨b, rfl, hfew⟩, hb6⟩
      have B6 := Lib.hid (BD.out.trans (hb6.mono (by simp)))
      have pd6 := (hb6.block wr.heap.size (lt_of_block PD.out)).trans PD.out
      have e61 : w6.cell? ⟨wr.heap.size, 1, none⟩ = some (.slice m.LA m.L.length m.Lc) := by simp [World.cell?, pd6]
      have hbw : Below w1.heap.size w1 w6 := HB.out.trans (B6.out.mono zr)
      have HBW := Lib.hid hbw
      have c8 := one_cell (KW.out w6 hbw).2
      have f8 := blk_free (KW.out w6 hbw).2 0
      have cS := one_cell ((B6.out.block w4.heap.size (lt_of_block BOX.out)).trans BOX.out)
      have U6 := Lib.hid (UD.out.below (by simp; omega) hb6)
      have FW := Lib.hid hfew
      have zlt : w4.heap.size < wr.heap.size := lt_of_block BOX.out
      have z6 := B6.out.size
      clear hb6 pd6 hbw hfew
      cases b with
      | false =>
        go_wp2
        exact RT.out w6 _ (BW.out w6 HBW.out).2 rfl
      | true =>
        have CM := Lib.hid (commit8_c (c := m.Lc) (SS'.out.keep B6.out) (by omega) LV.out (by omega) DN.out U6.out rfl (FW.out.1 rfl))
        go_wp2_with fail
        refine CM.out.mono ?_
        rintro e w7 ⟨rfl, E7, G7', V7, mb7, s7, d7, j7, stp, lv7, hj7, hn7⟩
        have ST7 := Lib.hid stp
        have LV7 := Lib.hid lv7
        clear stp lv7
        go_wp2
        go_roundw
        case rel =>
          refine ⟨k + 1, j7, E7, G7', V7, mb7, s7, d7, _, by omega, by go_num, ST7.out.ss, LV7.out, by omega, hn7, ⟨fun e => NE'.out.1 (ST7.out.ne _ (by omega) e), fun e => NE'.out.2.1 (ST7.out.ng _ (by omega) e), NE'.out.2.2⟩, ?_, HBW.out.trans ST7.out.below⟩
          exact (ST7.out.but.block w4.heap.size (by omega) (fun z => z.elim NE'.out.1 (fun z => z.elim NE'.out.2.1 NE'.out.2.2))).trans ((B6.out.block w4.heap.size (lt_of_block BOX.out)).trans BOX.out)
        case measure => simp [intOf]; omega
    · obtain rfl : k = n0 := by omega
      have cS := one_cell BOX.out
      have bwr := (BW.out wr HB.out).1
      obtain ⟨pM, hpM⟩ : ∃ p : MPu, p = ⟨⟨key, val, false⟩, A2, c2⟩ := ⟨_, rfl⟩
      obtain ⟨wc, hwc⟩ : ∃ wc, wr.alloc (.cells #[.string (str key), .slice A2 nv c2, .bool false] 33) = wc := ⟨_, rfl⟩
      have al : Below wr.heap.size wr wc := by rw [← hwc]; exact (Below.refl _ wr).alloc (Nat.le_refl _) _
      have sc : wc.heap.size = wr.heap.size + 1 := by rw [← hwc]; simp
      have UA : UL wc w.heap.size 33 0 (some ⟨wr.heap.size, 0, none⟩) [pM] := by
        have z := lies_newput wr pM (g := wr.heap.size) rfl
        rw [hpM] at z
        dsimp only at z
        rw [← NV.out, hwc] at z
        rw [hpM]
        refine ⟨by rw [show pcells [(⟨⟨key, val, false⟩, A2, c2⟩ : MPu)] = MPu.cells ⟨⟨key, val, false⟩, A2, c2⟩ from by simp [pcells]]; exact z.more (Nat.zero_le _), fun m hm => ?_⟩
        rw [List.mem_singleton] at hm
        subst hm
        exact ⟨H2.out.below (Nat.le_refl _) (bwr.trans (al.mono bwr.size)), HC2.out⟩
      have F8 : Few8 (pus [pM]) := by
        rw [hpM]
        refine ⟨by simp [pus], fun p hp => ?_⟩
        rw [show pus [(⟨⟨key, val, false⟩, A2, c2⟩ : MPu)] = [⟨key, val, false⟩] from rfl, List.mem_singleton] at hp
        subst hp
        exact ⟨by have := NK.out; show key.length ≤ 30; omega, by have := NV.out; show val.length ≤ 200; omega⟩
      have CM := Lib.hid (commit8_c (c := 1) (nl := 1) (SS'.out.keep al) (by omega) LV.out (by omega) DN.out UA rfl F8)
      have e1 : St.hap L (pus [pM]) = St.ins key val L := by rw [hpM]; rfl
      rw [e1] at CM
      have SR := LV.out.srt
      have AL := Lib.hid al
      have SC := Lib.hid sc
      clear F8 UA al e1 hpM
      go_wp2_with fail
      refine CM.out.mono ?_
      rintro e w8 ⟨rfl, E8, G8, V8, mb8, s8, d8, j8, stp, lv8, hj8, hn8⟩
      have NE8 : Hid (¬ E8 w4.heap.size ∧ ¬ G8 w4.heap.size ∧ w4.heap.size ≠ sp) := Lib.hid (step_box stp (by have := SC.out; have := lt_of_block BOX.out; omega) NE'.out).2
      have BX8 := Lib.hid (((step_box stp (by have := SC.out; have := lt_of_block BOX.out; omega) NE'.out).1.trans (AL.out.block _ (lt_of_block BOX.out))).trans BOX.out)
      have HB8 := Lib.hid ((HB.out.trans (AL.out.mono zr)).trans stp.below)
      have SS8 := Lib.hid stp.ss
      have LV8 := Lib.hid lv8
      have Z8 := stp.but.size
      have cS8 := one_cell BX8.out
      obtain ⟨D8, hk8⟩ := SS8.out.km
      have M8 := Lib.hid (show (key, val) ∈ St.ins key val L from (St.mem_ins SR).2 (.inl rfl))
      have GT := Lib.hid (get_c (k := key) SS8.out.st hk8 (by have := NK.out; unfold maxLen; omega) (some val) (fun u e => by injection e with e; subst e; exact ⟨M8.out, by have := NV.out; omega⟩) (fun e => by cases e))
      clear hk8 stp lv8 cS
      go_wp2_with fail
      refine GT.out.mono ?_
      rintro e w9 ⟨A9, n9, c9, rfl, rfl, hL9, hb9⟩
      have L9 : Hid (Lies w9 0 5 A9 (bcells val)) := Lib.hid hL9
      have z9 := hb9.size
      have SS9 := Lib.hid (SS8.out.keep hb9)
      have HB9 := Lib.hid (HB8.out.trans (hb9.mono HB8.out.size))
      have BX9 := Lib.hid ((hb9.block _ (lt_of_block BX8.out)).trans BX8.out)
      clear hL9 hb9 cS8
      dsimp only [Option.getD_some, Option.isSome_some]
      have alb : Below w9.heap.size w9 (w9.alloc (.cells #[.int .i64 0] 3)) := (Below.refl _ w9).alloc (Nat.le_refl _) _
      have szb : (w9.alloc (.cells #[.int .i64 0] 3)).heap.size = w9.heap.size + 1 := by simp
      have kn : (w9.alloc (.cells #[.int .i64 0] 3)).heap[w9.heap.size]? = some (.cells #[.int .i64 0] 3 (0, 0)) := heap_alloc_new w9 _
      have SSb := Lib.hid (SS9.out.keep alb)
      have HBb := Lib.hid (HB9.out.trans (alb.mono HB9.out.size))
      have BXb := Lib.hid ((alb.block _ (lt_of_block BX9.out)).trans BX9.out)
      have ALB := Lib.hid alb
      have SZB := Lib.hid szb
      have KN := Lib.hid kn
      have cSb := one_cell BXb.out
      clear alb szb kn
      go_wp2_with fail
      obtain ⟨wb, hwb⟩ : ∃ wb, w9.alloc (.cells #[.int .i64 0] 3) = wb := ⟨_, rfl⟩
      rw [hwb] at SSb HBb BXb ALB SZB KN cSb ⊢
      obtain ⟨z0, hz0⟩ : ∃ z, z = w9.heap.size := ⟨_, rfl⟩
      rw [← hz0] at SZB KN ALB ⊢
      have HZ0 := Lib.hid hz0
      have AL9 : Hid (∀ W, Below z0 wb W → Below w9.heap.size w9 W) := Lib.hid fun W hb => by rw [← hz0]; exact ALB.out.trans hb
      clear hz0
      refine (keys_c SSb.out.st _).mono ?_
      rintro e wk ⟨rfl, hwk⟩
      have bk : Below wb.heap.size wb wk := by rw [hwk]; exact ((Below.refl _ wb).alloc (Nat.le_refl _) _).alloc (by simp) _
      have sk : wk.heap.size = wb.heap.size + 2 := by rw [hwk]; simp
      have k1 : wk.heap[wb.heap.size]? = some (.cells #[.map (some mb8)] 87 (0, 0)) := by rw [hwk]; exact blk_alloc (heap_alloc_new wb _) _
      have k2 : wk.heap[wb.heap.size + 1]? = some (.cells #[.string { data := #[] }] 9 (0, 0)) := by
        rw [hwk]
        have := heap_alloc_new (wb.alloc (.cells #[.map (some mb8)] 87)) (.cells #[.string { data := #[] }] 9)
        rwa [World.size_alloc] at this
      have kn := (bk.block z0 (by have := SZB.out; omega)).trans KN.out
      have zb : z0 + 1 = wb.heap.size := SZB.out.symm
      have SSk := Lib.hid (SSb.out.keep bk)
      have HBk := Lib.hid (HBb.out.trans (bk.mono HBb.out.size))
      have BXk := Lib.hid ((bk.block _ (lt_of_block BXb.out)).trans BXb.out)
      obtain ⟨Dk, hkk⟩ := SSk.out.km
      have LVb : Hid (∀ x ∈ St.ins key val L, x.1.length ≤ 30 ∧ x.2.length ≤ 200) := Lib.hid LV8.out.sml
      have NUM := Lib.hid LV8.out.num
      have HSQ := Lib.hid (told1_m (m := 8) (B := z0) (ts := [3]) k1 k2 hkk (by have := (SS9.out.km).elim fun _ z => z.own.lt; have := HZ0.out; omega) (by omega) (by decide) (by decide) (by decide) (by have := NUM.out; omega) (fun x hx => by have := (LVb.out x hx).2; omega))
      have HI0 : Hid (wk.heap[z0]? = some (.cells #[.int .i64 (([] : List TV).length : Int)] 3 (0, 0)) ∧ Below z0 wb wk) := Lib.hid ⟨kn, bk.mono (by omega)⟩
      have SK := Lib.hid sk
      have z1b : w1.heap.size ≤ z0 := by have := HB9.out.size; have := HZ0.out; omega
      clear hwk bk k1 k2 kn hkk sk cSb zb
      go_wp2_with fail
      refine (wpIn_wide (n := 9)).1 ?_
      refine' range_m (α := TV) (F := Fence.wide) (n := 9) rfl (by decide) (gf := 78) (lb := #[.pointer (some ⟨wb.heap.size, 0, none⟩), .pointer (some ⟨wb.heap.size + 1, 0, none⟩)]) rfl trivial (enters_of Tryz.func78 (by kernel_rfl) rfl)
        HSQ.out (fun _ => rfl) (by have := SK.out; have := SZB.out; omega) (fun pre W => W.heap[z0]? = some (.cells #[.int .i64 (pre.length : Int)] 3 (0, 0)) ∧ Below z0 wb W) (fun c _ W => c = .exit 2 ∧ Below z0 wb W) (fun pre A A' h hT => ⟨hT.blk h.1 (by simp), h.2.trans (hT.below.mono (by have := SK.out; have := SZB.out; omega))⟩) (fun c pre A A' h hT => ⟨h.1, h.2.trans (hT.below.mono (by have := SK.out; have := SZB.out; omega))⟩) (fun x A A' h hT => ⟨h.1.tch hT (by simp), h.2⟩) (fun xs A A' h hT => ⟨h.1, fun x hx => (h.2 x hx).tch hT (by simp)⟩) HI0.out _ ?assign ?body ?done ?stop
      case assign =>
        intro l x W K hK
        unfold TV.enc
        gi_wp2
        exact hK
      case body =>
        rintro pre x W ⟨hn, hb⟩ hlen ⟨hx, hmem⟩ hz hn1 hn2
        have hbw := HBb.out.trans (hb.mono z1b)
        have cn := one_cell hn
        have c7 := one_cell (KW.out W hbw).1
        have ltb : w4.heap.size < z0 := by have := lt_of_block BX9.out; have := HZ0.out; omega
        have cS := one_cell ((hb.block w4.heap.size ltb).trans BXb.out)
        by_cases heq : (pre.length : Int) = most
        · have e1 : ((pre.length : Int) == most) = true := by simp [heq]
          have HB0 := Lib.hid hb
          clear heq hn hb hbw hz hx hmem
          gi_wp2
          exact ⟨⟨rfl, rfl⟩, rfl, HB0.out⟩
        · have e1 : ((pre.length : Int) == most) = false := by simp [heq]
          have ssw := SS9.out.keep (AL9.out W hb)
          obtain ⟨Dx, hkx⟩ := ssw.km
          have lx := LVb.out _ hmem
          have GX := Lib.hid (get_c (k := x.k) ssw.st hkx (by have := (show x.k.length ≤ 30 from lx.1); unfold maxLen; omega) (some x.v) (fun u e => by injection e with e; subst e; exact ⟨hmem, by have := (show x.v.length ≤ 200 from lx.2); omega⟩) (fun e => by cases e))
          have hwr : IntKind.i64.wrap ((pre.length : Int) + 1) = ((pre.length + 1 : Nat) : Int) := by have := NUM.out; rw [IntKind.wrap_i64]; omega
          have HN := Lib.hid hn
          have HB0 := Lib.hid hb
          have HZW := Lib.hid hz
          have zW := hb.size
          clear heq hn hb hbw hx hmem hkx ssw lx
          gi_wp2_with (refine ⟨trivial, ?_⟩; gi_at_call 22; go_loud (refine (CallsIn.inRound _ (callsIn_wide.2 GX.out)).mono ?_); rintro e w6 ⟨A6, n6, c6, rfl, rfl, hL6, hb6⟩; have hn6 := (hb6.block z0 (lt_of_block HN.out)).trans HN.out; have cn6 := one_cell hn6; have fn6 := blk_free hn6 0; have B6 := Lib.hid hb6; have N6 := Lib.hid hn6; clear hb6 hn6 hL6; dsimp only [Option.getD_some, Option.isSome_some])
          have sW6 := B6.out.size
          have szb := SZB.out
          have szk := SK.out
          have T6 := ((Tch.of_below (B := z0) B6.out (by omega) [3]).setCell (p := ⟨z0, 0, none⟩) N6.out (by simp) (Nat.le_refl _) (.int .i64 ((pre.length + 1 : Nat) : Int)))
          have el : (pre ++ [x]).length = pre.length + 1 := by simp
          have off : ∀ k, k < W.heap.size → k ≠ z0 → (w6.setCell ⟨z0, 0, none⟩ (.int .i64 ((pre.length + 1 : Nat) : Int))).heap[k]? = W.heap[k]? := fun k h1 h2 => (Below.heap_setCell _ _ _ _ h2).trans (B6.out.block k h1)
          refine ⟨⟨off _ HZW.out (by omega), off _ (by have := HZW.out; omega) (by omega)⟩, T6, ?_, HB0.out.trans T6.below⟩
          rw [el]
          exact one_setCell N6.out
      case done =>
        rintro ys W _ ⟨_, hb⟩ hD
        have hbw := HBb.out.trans (hb.mono z1b)
        have ltb : w4.heap.size < z0 := by have := lt_of_block BX9.out; have := HZ0.out; omega
        have bxw := (hb.block w4.heap.size ltb).trans BXb.out
        have cS := one_cell bxw
        have AW := AL9.out W hb
        have SSW := Lib.hid (SS9.out.keep AW)
        have BXW := Lib.hid bxw
        have HBW := Lib.hid hbw
        have cv1 := conv_at (c := c9) (L9.out.below (Nat.zero_le _) AW) rfl
        have cv2 := conv_at (c := c2) (H2.out.below (Nat.le_refl _) (BW.out W hbw).1) NV.out
        have z9W := AW.size
        have s2 : (str val == str val) = true := str_beq _
        have s1 : (str val != str val) = false := by show (!(str val == str val)) = false; rw [s2]; rfl
        obtain ⟨pG, hpG⟩ : ∃ p : MPu, p = ⟨⟨key, [], true⟩, none, 0⟩ := ⟨_, rfl⟩
        have alg : Below W.heap.size W (W.alloc (.cells #[.string (str key), .slice none 0 0, .bool true] 33)) := (Below.refl _ W).alloc (Nat.le_refl _) _
        have UG : UL (W.alloc (.cells #[.string (str key), .slice none 0 0, .bool true] 33)) 0 33 0 (some ⟨W.heap.size, 0, none⟩) [pG] := by
          have z := lies_newput W pG (g := W.heap.size) rfl
          rw [hpG] at z ⊢
          refine ⟨by rw [show pcells [(⟨⟨key, [], true⟩, none, 0⟩ : MPu)] = MPu.cells ⟨⟨key, [], true⟩, none, 0⟩ from by simp [pcells]]; exact z, fun m hm => ?_⟩
          rw [List.mem_singleton] at hm
          subst hm
          exact ⟨Lies.nil, Nat.le_refl _⟩
        have F8 : Few8 (pus [pG]) := by
          rw [hpG]
          refine ⟨by simp [pus], fun p hp => ?_⟩
          rw [show pus [(⟨⟨key, [], true⟩, none, 0⟩ : MPu)] = [⟨key, [], true⟩] from rfl, List.mem_singleton] at hp
          subst hp
          exact ⟨by have := NK.out; show key.length ≤ 30; omega, by simp⟩
        have CG := Lib.hid (commit8_c (c := 1) (nl := 1) (SSW.out.keep alg) (by have := hbw.size; simp; omega) LV8.out (by omega) hn8 UG rfl F8)
        have e1 : St.hap (St.ins key val L) (pus [pG]) = St.del key (St.ins key val L) := by rw [hpG]; rfl
        rw [e1] at CG
        have ALG := Lib.hid alg
        have HD := Lib.hid hD
        clear F8 UG alg e1 hpG hb hbw bxw AW hD
        go_wp2_with fail
        refine CG.out.mono ?_
        rintro e w11 ⟨rfl, EG, GG, VG, mbG, sG, dG, jG, stp, lvG, hjG, hnG⟩
        have zW := ALG.out.size
        have NEG : Hid (¬ EG w4.heap.size ∧ ¬ GG w4.heap.size ∧ w4.heap.size ≠ sp) := Lib.hid (step_box stp (by have := lt_of_block BXW.out; omega) NE8.out).2
        have BXG := Lib.hid (((step_box stp (by have := lt_of_block BXW.out; omega) NE8.out).1.trans (ALG.out.block _ (lt_of_block BXW.out))).trans BXW.out)
        have HDG := Lib.hid (((step_box stp (bx := wk.heap.size) (by have := lt_of_block HD.out; omega) ⟨fun e => by have := SS8.out.ws.x.eo _ e; have := SK.out; have := SZB.out; have := HZ0.out; omega, fun e => by have := SS8.out.ws.x.go _ e; have := SK.out; have := SZB.out; have := HZ0.out; omega, fun e => by have := lt_of_block SS8.out.st; have := SK.out; have := SZB.out; have := HZ0.out; omega⟩).1.trans (ALG.out.block _ (lt_of_block HD.out))).trans HD.out)
        have HBG := Lib.hid ((HBW.out.trans (ALG.out.mono HBW.out.size)).trans stp.below)
        have SSG := Lib.hid stp.ss
        have cG := one_cell BXG.out
        obtain ⟨DG, hkG⟩ := SSG.out.km
        have GT2 := Lib.hid (get_c (k := key) SSG.out.st hkG (by have := NK.out; unfold maxLen; omega) none (fun u e => by cases e) (fun _ u hu => (St.mem_del.1 hu).1 rfl))
        clear hkG stp lvG cS cv1 cv2
        go_wp2_with fail
        refine GT2.out.mono ?_
        rintro e w12 ⟨A12, n12, c12, rfl, rfl, hL12, hb12⟩
        dsimp only [Option.getD_none, Option.isSome_none]
        have HB12 := Lib.hid (HBG.out.trans (hb12.mono HBG.out.size))
        have HD12 := Lib.hid ((hb12.block _ (lt_of_block HDG.out)).trans HDG.out)
        have al12 : Below w12.heap.size w12 (w12.alloc (.cells #[.string (str key), .slice none 0 0, .bool false] 33)) := (Below.refl _ w12).alloc (Nat.le_refl _) _
        have HB13 := Lib.hid (HB12.out.trans (al12.mono HB12.out.size))
        have HD13 := Lib.hid ((al12.block _ (lt_of_block HD12.out)).trans HD12.out)
        have K13 := (KW.out _ HB13.out).2
        have c13 := one_cell K13
        have f13 := blk_free K13 0
        clear hb12 hL12 cG al12
        go_wp2_with (first
          | (go_at_call 22; refine (get_nil _ _).mono ?_; rintro e w' ⟨rfl, rfl⟩)
          | (go_at_call 16; refine (commit_nil _ _ _ (by decide) _).mono ?_; rintro e w' ⟨rfl, rfl⟩)
          | (go_at_call 19; refine (compact_nil _).mono ?_; rintro e w' ⟨rfl, rfl⟩)
          | (go_at_call 23; refine (records_nil _).mono ?_; rintro e w' ⟨rfl, rfl⟩))
        exact true_end rfl K13 HD13.out (by omega) (by have := (BW.out _ HB9.out).1.size; have := SK.out; have := SZB.out; have := HZ0.out; omega) rfl (BW.out _ HB13.out).1
      case stop =>
        rintro c pre W ⟨rfl, hb⟩ hD
        refine wpIn_wide.2 ?_
        have hbw := HBb.out.trans (hb.mono z1b)
        have ltb : w4.heap.size < z0 := by have := lt_of_block BX9.out; have := HZ0.out; omega
        have bxw := (hb.block w4.heap.size ltb).trans BXb.out
        have cS := one_cell bxw
        have AW := AL9.out W hb
        have SSW := Lib.hid (SS9.out.keep AW)
        have BXW := Lib.hid bxw
        have HBW := Lib.hid hbw
        have cv1 := conv_at (c := c9) (L9.out.below (Nat.zero_le _) AW) rfl
        have cv2 := conv_at (c := c2) (H2.out.below (Nat.le_refl _) (BW.out W hbw).1) NV.out
        have z9W := AW.size
        have s2 : (str val == str val) = true := str_beq _
        have s1 : (str val != str val) = false := by show (!(str val == str val)) = false; rw [s2]; rfl
        obtain ⟨pG, hpG⟩ : ∃ p : MPu, p = ⟨⟨key, [], true⟩, none, 0⟩ := ⟨_, rfl⟩
        have alg : Below W.heap.size W (W.alloc (.cells #[.string (str key), .slice none 0 0, .bool true] 33)) := (Below.refl _ W).alloc (Nat.le_refl _) _
        have UG : UL (W.alloc (.cells #[.string (str key), .slice none 0 0, .bool true] 33)) 0 33 0 (some ⟨W.heap.size, 0, none⟩) [pG] := by
          have z := lies_newput W pG (g := W.heap.size) rfl
          rw [hpG] at z ⊢
          refine ⟨by rw [show pcells [(⟨⟨key, [], true⟩, none, 0⟩ : MPu)] = MPu.cells ⟨⟨key, [], true⟩, none, 0⟩ from by simp [pcells]]; exact z, fun m hm => ?_⟩
          rw [List.mem_singleton] at hm
          subst hm
          exact ⟨Lies.nil, Nat.le_refl _⟩
        have F8 : Few8 (pus [pG]) := by
          rw [hpG]
          refine ⟨by simp [pus], fun p hp => ?_⟩
          rw [show pus [(⟨⟨key, [], true⟩, none, 0⟩ : MPu)] = [⟨key, [], true⟩] from rfl, List.mem_singleton] at hp
          subst hp
          exact ⟨by have := NK.out; show key.length ≤ 30; omega, by simp⟩
        have CG := Lib.hid (commit8_c (c := 1) (nl := 1) (SSW.out.keep alg) (by have := hbw.size; simp; omega) LV8.out (by omega) hn8 UG rfl F8)
        have e1 : St.hap (St.ins key val L) (pus [pG]) = St.del key (St.ins key val L) := by rw [hpG]; rfl
        rw [e1] at CG
        have ALG := Lib.hid alg
        have HD := Lib.hid hD
        clear F8 UG alg e1 hpG hb hbw bxw AW hD
        go_wp2_with fail
        refine CG.out.mono ?_
        rintro e w11 ⟨rfl, EG, GG, VG, mbG, sG, dG, jG, stp, lvG, hjG, hnG⟩
        have zW := ALG.out.size
        have NEG : Hid (¬ EG w4.heap.size ∧ ¬ GG w4.heap.size ∧ w4.heap.size ≠ sp) := Lib.hid (step_box stp (by have := lt_of_block BXW.out; omega) NE8.out).2
        have BXG := Lib.hid (((step_box stp (by have := lt_of_block BXW.out; omega) NE8.out).1.trans (ALG.out.block _ (lt_of_block BXW.out))).trans BXW.out)
        have HDG := Lib.hid (((step_box stp (bx := wk.heap.size) (by have := lt_of_block HD.out; omega) ⟨fun e => by have := SS8.out.ws.x.eo _ e; have := SK.out; have := SZB.out; have := HZ0.out; omega, fun e => by have := SS8.out.ws.x.go _ e; have := SK.out; have := SZB.out; have := HZ0.out; omega, fun e => by have := lt_of_block SS8.out.st; have := SK.out; have := SZB.out; have := HZ0.out; omega⟩).1.trans (ALG.out.block _ (lt_of_block HD.out))).trans HD.out)
        have HBG := Lib.hid ((HBW.out.trans (ALG.out.mono HBW.out.size)).trans stp.below)
        have SSG := Lib.hid stp.ss
        have cG := one_cell BXG.out
        obtain ⟨DG, hkG⟩ := SSG.out.km
        have GT2 := Lib.hid (get_c (k := key) SSG.out.st hkG (by have := NK.out; unfold maxLen; omega) none (fun u e => by cases e) (fun _ u hu => (St.mem_del.1 hu).1 rfl))
        clear hkG stp lvG cS cv1 cv2
        go_wp2_with fail
        refine GT2.out.mono ?_
        rintro e w12 ⟨A12, n12, c12, rfl, rfl, hL12, hb12⟩
        dsimp only [Option.getD_none, Option.isSome_none]
        have HB12 := Lib.hid (HBG.out.trans (hb12.mono HBG.out.size))
        have HD12 := Lib.hid ((hb12.block _ (lt_of_block HDG.out)).trans HDG.out)
        have al12 : Below w12.heap.size w12 (w12.alloc (.cells #[.string (str key), .slice none 0 0, .bool false] 33)) := (Below.refl _ w12).alloc (Nat.le_refl _) _
        have HB13 := Lib.hid (HB12.out.trans (al12.mono HB12.out.size))
        have HD13 := Lib.hid ((al12.block _ (lt_of_block HD12.out)).trans HD12.out)
        have K13 := (KW.out _ HB13.out).2
        have c13 := one_cell K13
        have f13 := blk_free K13 0
        clear hb12 hL12 cG al12
        go_wp2_with (first
          | (go_at_call 22; refine (get_nil _ _).mono ?_; rintro e w' ⟨rfl, rfl⟩)
          | (go_at_call 16; refine (commit_nil _ _ _ (by decide) _).mono ?_; rintro e w' ⟨rfl, rfl⟩)
          | (go_at_call 19; refine (compact_nil _).mono ?_; rintro e w' ⟨rfl, rfl⟩)
          | (go_at_call 23; refine (records_nil _).mono ?_; rintro e w' ⟨rfl, rfl⟩))
        exact true_end rfl K13 HD13.out (by omega) (by have := (BW.out _ HB9.out).1.size; have := SK.out; have := SZB.out; have := HZ0.out; omega) rfl (BW.out _ HB13.out).1
end Go.Proofs.YtpnfpeeijghamaaGreat
