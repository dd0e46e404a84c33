/- Stage 8: the law StoreKeeps, walked. -/
import Derived.Test.YtpnfpeeijghamaaGreatEz
namespace Go.Proofs.YtpnfpeeijghamaaGreat
open Go.RowKit Go.Shelf Go.Maps
set_option maxRecDepth 100000

attribute [local go_sem] Oper.semAt_some

theorem ul_drewN {w : World} {B : Nat} {tp tb : TypeId} {A : Option Addr} {ms : List MPu} (h : UL w B tp tb A ms) (j : Nat) : UL (w.drewN j) B tp tb A ms := ⟨h.1.drewN j, fun m hm => ⟨(h.2 m hm).1.drewN j, (h.2 m hm).2⟩⟩

set_option maxHeartbeats 16000000 in
set_option maxRecDepth 100000 in
theorem storeKeeps_c {A0 A1 KA : Option Addr} {c0 c1 ck : Nat} {l : List MDe} {ms : List MPu} (sw : Bool) (arm : Int) {ks : List Bool} {w : World} (h0 : DE w w.heap.size A0 l) (hk0 : ∀ m ∈ l, m.ok) (hs0 : l.length ≤ maxLen) (h1 : UL w w.heap.size 0 0 A1 ms) (hk1 : ∀ m ∈ ms, m.p.k.length ≤ maxLen ∧ m.p.v.length ≤ maxLen) (hs1 : ms.length ≤ maxLen) (hK : Lies w w.heap.size 0 KA (ks.map Value.bool)) (hck : ks.length ≤ ck) (hsk : ks.length ≤ maxLen) (ha : arm < 9223372036854775808) :
    Calls Tryz.prog 4 #[.slice A0 l.length c0, .slice A1 ms.length c1, .bool sw, .int .i64 arm, .slice KA ks.length ck] w fun e w' => e = .returned (.bool true) ∧ Below w.heap.size w w' := by
  have H0 := Lib.hid h0
  have HK0 := Lib.hid hk0
  have H1 := Lib.hid h1
  have HK1 := Lib.hid hk1
  have HS1 := Lib.hid hs1
  have HK := Lib.hid hK
  have HA := Lib.hid ha
  obtain ⟨n0, en0⟩ : ∃ n, n = l.length := ⟨_, rfl⟩
  obtain ⟨n1, en1⟩ : ∃ n, n = ms.length := ⟨_, rfl⟩
  obtain ⟨n3, en3⟩ : ∃ n, n = ks.length := ⟨_, rfl⟩
  rw [← en0] at hs0 ⊢
  rw [← en1] at hs1 ⊢
  rw [← en3] at hck hsk ⊢
  have HCK := Lib.hid hck
  have N0 := Lib.hid en0
  have N1 := Lib.hid en1
  have N3 := Lib.hid en3
  unfold maxLen at hs0 hs1 hsk
  have QW : Hid (∀ m ∈ l, ∀ x ∈ m.L, x.nw.fine w w.heap.size 0) := Lib.hid fun m hm x hx => (h0.2 m hm).1.2 x hx
  have QM : Hid (∀ x ∈ ms, x.nw.fine w w.heap.size 0) := Lib.hid fun x hx => h1.2 x hx
  clear h0 hk0 h1 hk1 hK hck en0 en1 en3 ha
  have RT : Hid (∀ (wr : World) (tm : Array Value), Below w.heap.size w wr → tm.getD 10 undef = .bool true → LeavesInM Fence.wide 9 Tryz.prog Tryz.f4 tm (fun e w' => e = .returned (.bool true) ∧ Below w.heap.size w w') [] .returning wr) := Lib.hid fun wr tm hb ht =>
    leaves_marks (v := .bool true) (Ds := []) List.nodup_nil (fun D hD => by cases hD) (fun u => by rw [← ht]; exact results_tmp (t := 10) rfl _ _ u) ⟨rfl, hb⟩
  have RT2 : Hid (∀ (D : Nat) (wr : World) (tm : Array Value), Below w.heap.size w wr → w.heap.size ≤ D → wr.heap[D]? = some (.deferred (some [])) → tm.getD 10 undef = .bool true → LeavesInM Fence.wide 9 Tryz.prog Tryz.f4 tm (fun e w' => e = .returned (.bool true) ∧ Below w.heap.size w w') [mark D] .returning wr) := Lib.hid fun D wr tm hb hD hd ht =>
    leaves_marks (v := .bool true) (Ds := [D]) (by simp) (fun D' h' => by rw [List.mem_singleton] at h'; subst h'; exact hd) (fun u => by rw [← ht]; exact results_tmp (t := 10) rfl _ _ u) ⟨rfl, hb.trans (shut_below hd hD)⟩
  refine calls_of_marks Tryz.func4 rfl ?_
  simp only [Tryz.ntmps4, List.size_toArray, List.length_cons, List.length_nil, Nat.reduceAdd, Nat.reduceSub, Array.replicate_succ, Array.replicate_zero, List.push_toArray, List.append_toArray, List.nil_append, List.cons_append]
  go_wp2_with fail
  refine (awake8 w).mono ?_
  rintro e w1 ⟨rfl, hb1⟩
  have B1 := Lib.hid hb1
  have z1 := hb1.size
  clear hb1
  by_cases q1 : 10 < n0
  · have q1' : (10 : Int) < (n0 : Int) := by omega
    go_wp2
    exact RT.out w1 _ B1.out rfl
  have q1' : ¬ (10 : Int) < (n0 : Int) := by omega
  have U1 := Lib.hid (H1.out.below (Nat.le_refl _) B1.out)
  go_wp2_with fail
  refine (few8_c U1.out z1 N1.out (by rw [N1.out]; exact HS1.out) HK1.out).mono ?_
  rintro e w2 ⟨⟨b, rfl, hfew⟩, hb2⟩
  have B2 := Lib.hid (B1.out.trans (hb2.mono z1))
  have FM := Lib.hid hfew
  have z2 := hb2.size
  clear hb2 hfew
  cases b with
  | false =>
    go_wp2
    exact RT.out w2 _ B2.out rfl
  | true =>
  have FM8 := Lib.hid (FM.out.1 rfl)
  by_cases q3 : 60 < n3
  · have q3' : (60 : Int) < (n3 : Int) := by omega
    go_wp2
    exact RT.out w2 _ B2.out rfl
  have q3' : ¬ (60 : Int) < (n3 : Int) := by omega
  have n38 := Lib.hid (show n3 ≤ 60 by omega)
  have n18 := Lib.hid (show n1 ≤ 8 by have := FM8.out.1; rw [pus_len, ← N1.out] at this; exact this)
  obtain ⟨D1, D2, g1, g2, g3, g4, g5, g6, g7, g8, g9, g10⟩ := fmt_fine (n := 1000) (by decide)
  have l1000 : (Dk.new 1000).s.length = 1000 := by show (List.replicate (Dk.count 1000) _).length = 1000; rw [List.length_replicate]; rfl
  rw [l1000] at g10
  have LV0 := Lib.hid (Live8.start g7 g8 g9)
  have G1 := Lib.hid g1
  have G2 := Lib.hid g2
  have G3 := Lib.hid g3
  have G4 := Lib.hid g4
  have G5 := Lib.hid g5
  have G6 := Lib.hid g6
  have G7 := Lib.hid g7
  have G9 := Lib.hid g9
  have G10 := Lib.hid g10
  clear g1 g2 g3 g4 g5 g6 g7 g8 g9 g10 l1000
  go_wp2_with fail
  refine (cdNew_c _ _ (by decide)).mono ?_
  intro e w3 hp
  obtain ⟨q, G2', rfl, hs2, _, hb2⟩ := CNewOk.step (Nat.le_refl w2.heap.size) hp
  have S2 := Lib.hid hs2
  have B3 := Lib.hid hb2
  have z3 := hb2.size
  clear hp hs2 hb2
  go_wp2_with fail
  refine (stFormat_c S2.out z3 G1.out G2.out G3.out G4.out G5.out G6.out).mono ?_
  rintro e w4 ⟨rfl, ⟨G3', hs3⟩, hb3⟩
  have S3 := Lib.hid hs3
  have B4 := Lib.hid (B3.out.trans hb3)
  have z4 := B4.out.size
  clear hs3 hb3
  go_wp2_with fail
  refine (stOpen_c S3.out z4 G7.out G9.out (by simp) of_r0 (by decide)).mono ?_
  rintro e w5 ⟨E5, V5, sp, pw, mb, rfl, hs5, hb5⟩
  have S5 := Lib.hid hs5
  have B5 := Lib.hid (B4.out.trans (hb5.mono z4))
  have z5 := B5.out.size
  have NN := Lib.hid (show n0 ≤ 10 by omega)
  clear hs5 hb5 hs0 hs1 hsk
  have BW := Lib.hid (show ∀ (wr : World), Below w2.heap.size w2 wr → Below w.heap.size w wr from fun wr hb => B2.out.trans (hb.mono (by omega)))
  go_wp2_with fail
  go_loopw [52, 14, 10] (fun i v r wr => ∃ (k j : Nat) (E G V : Nat → Prop) (mb : Nat) (s : VS) (d : Dk.D) (L : List St.KV) (AW : Option Addr) (nW cW : Nat) (msW : List MPu), k ≤ n0 ∧ i = .int .i64 (k : Int) ∧ v = .slice AW nW cW ∧ r = .bool false ∧ nW = msW.length ∧ SS wr w2.heap.size E G V sp pw q mb s d L false ∧ Live8 j s d L ∧ j ≤ k ∧ d.s.length = 1000 ∧ WL wr w E G sp AW msW L ∧ Below w2.heap.size w2 wr) (fun i _ _ _ => n0 - (intOf i).toNat)
  case atStart => exact ⟨0, 0, _, _, _, _, _, _, _, none, 0, 0, [], Nat.zero_le _, rfl, rfl, rfl, rfl, S5.out, LV0.out, Nat.le_refl _, G10.out, WL.nil, B5.out⟩
  case round =>
    obtain ⟨k, j, E, G, V, mbk, s, d, L, AW, nW, cW, msW, hk, rfl, rfl, rfl, hnW, hss, hlv, hjk, hdn, hwl, hb⟩ := hrel
    have SS' := Lib.hid hss
    have LV := Lib.hid hlv
    have DN := Lib.hid hdn
    have WA := Lib.hid hwl
    have NW := Lib.hid hnW
    have HB := Lib.hid hb
    have zr := hb.size
    have nn : n0 ≤ 10 := NN.out
    have jk := hjk
    have LW := Lib.hid (show msW.length ≤ 80 by have z := congrArg List.length hwl.1; rw [pus_len, St.puts_len] at z; have := hlv.num; omega)
    clear hss hlv hdn hwl hb hjk hnW
    by_cases hlt : k < n0
    · obtain ⟨ad, m, rfl, hm, hfine, d0, d1, d2, d3⟩ := (H0.out.below (Nat.le_refl _) (BW.out wr HB.out)).at_ (k := k) (by rw [← N0.out]; exact hlt)
      have MM := Lib.hid (List.mem_of_getElem? hm)
      have OKm := Lib.hid (HK0.out m (List.mem_of_getElem? hm))
      have QMm := Lib.hid (QW.out m (List.mem_of_getElem? hm))
      have pd : (wr.alloc (.cells #[.int .i64 m.kind, .slice m.LA m.L.length m.Lc, .int .i64 m.n, .slice m.KA m.keep.length m.Kc] 46)).heap[wr.heap.size]? = some (.cells #[.int .i64 m.kind, .slice m.LA m.L.length m.Lc, .int .i64 m.n, .slice m.KA m.keep.length m.Kc] 46 (0, 0)) := heap_alloc_new wr _
      have PD := Lib.hid pd
      have BD := Lib.hid ((Below.refl wr.heap.size wr).alloc (Nat.le_refl _) (.cells #[.int .i64 m.kind, .slice m.LA m.L.length m.Lc, .int .i64 m.n, .slice m.KA m.keep.length m.Kc] 46))
      have wz := (BW.out wr HB.out).size
      have UD := Lib.hid (hfine.1.below wz BD.out)
      clear hm hfine pd
      go_wp2_with fail
      refine (few8_c UD.out (by simp; omega) rfl OKm.out.2.2.1 OKm.out.2.2.2.1).mono ?_
      rintro e w6 ⟨⟨b, rfl, hfew⟩, hb6⟩
      have B6 := Lib.hid (BD.out.trans (hb6.mono (by simp)))
      have pd6 := (hb6.block wr.heap.size (lt_of_block PD.out)).trans PD.out
      have e61 : w6.cell? ⟨wr.heap.size, 1, none⟩ = some (.slice m.LA m.L.length m.Lc) := by simp [World.cell?, pd6]
      have hbw : Below w2.heap.size w2 w6 := HB.out.trans (B6.out.mono zr)
      have HBW := Lib.hid hbw
      have U6 := Lib.hid (UD.out.below (by simp; omega) hb6)
      have FW := Lib.hid hfew
      have PD6 := Lib.hid pd6
      have z6 := B6.out.size
      clear hb6 pd6 hbw hfew
      cases b with
      | false =>
        go_wp2
        exact RT.out w6 _ (BW.out w6 HBW.out) rfl
      | true =>
        have FW8 := Lib.hid (FW.out.1 rfl)
        have CM := Lib.hid (commit8_c (c := m.Lc) (SS'.out.keep B6.out) (by omega) LV.out (by omega) DN.out U6.out rfl FW8.out)
        go_wp2_with fail
        refine CM.out.mono ?_
        rintro e w7 ⟨rfl, E7, G7', V7, mb7, s7, d7, j7, stp, lv7, hj7, hn7⟩
        have lt6 : wr.heap.size < w6.heap.size := lt_of_block PD6.out
        have pd7 := (stp.but.block wr.heap.size lt6 (fun z => z.elim (fun z => by have := SS'.out.ws.x.eo _ z; omega) (fun z => z.elim (fun z => by have := SS'.out.ws.x.go _ z; omega) (fun z => by have := lt_of_block SS'.out.st; omega)))).trans PD6.out
        have e71 : w7.cell? ⟨wr.heap.size, 1, none⟩ = some (.slice m.LA m.L.length m.Lc) := by simp [World.cell?, pd7]
        have WA7 := Lib.hid ((WA.out.below B6.out).step stp)
        have HB7 := Lib.hid (HBW.out.trans stp.below)
        have SS7 := Lib.hid stp.ss
        have LV7 := Lib.hid lv7
        have U7 := Lib.hid ((H0.out.below (Nat.le_refl _) (BW.out w7 HB7.out)).2 m MM.out).1
        have HAP := Lib.hid (happenR_c (c := cW) (c2 := m.Lc) (Q := fun m => m.fine w w.heap.size 0) (WA7.out.ul (BW.out w7 HB7.out)) WA7.out.2.1 WA7.out.1 LV.out.srt U7.out QMm.out NW.out rfl (by have := LW.out; omega) (by have := FW8.out.1; rw [pus_len] at this; omega))
        clear stp lv7 pd7
        go_wp2_with fail
        refine HAP.out.mono ?_
        intro e w8 hp
        obtain ⟨A8, ms8, c8, rfl, wl8, hb8⟩ := WA7.out.hap SS7.out hp
        have WA8 := Lib.hid wl8
        have B8 := Lib.hid hb8
        clear hp wl8 hb8
        go_wp2
        go_roundw
        case rel =>
          exact ⟨k + 1, j7, E7, G7', V7, mb7, s7, d7, _, A8, ms8.length, c8, ms8, by omega, by go_num, rfl, rfl, rfl, SS7.out.keep B8.out, LV7.out, by omega, hn7, WA8.out, HB7.out.trans (B8.out.mono HB7.out.size)⟩
        case measure => simp [intOf]; omega
    · obtain rfl : k = n0 := by omega
      go_wp2_with fail
      refine (cdArm_c SS'.out.ws.x.cd arm).mono ?_
      intro e wa hp
      obtain ⟨rfl, GA, hsA⟩ := CdOk0.step SS'.out.ws.cs HB.out.size hp
      have stA := SS'.out.disk hsA rfl
      have SA := Lib.hid stA.ss
      have WAA := Lib.hid (WA.out.step stA)
      have HBA := Lib.hid (HB.out.trans stA.below)
      have zA := HBA.out.size
      have SML := Lib.hid LV.out.sml
      have NUM := Lib.hid LV.out.num
      clear hp hsA stA
      cases sw with
      | true =>
        have CP := Lib.hid (compact8k_c SA.out zA LV.out (by omega) DN.out (by have := HA.out; omega))
        go_wp2_with fail
        refine CP.out.mono ?_
        rintro e wc ⟨er, EC, GC, VC, mbC, sC, dC, LC, ov, rfl, her, stp, aft⟩
        have WC := Lib.hid (WAA.out.step stp)
        have SSC := Lib.hid stp.ss
        have HBC := Lib.hid (HBA.out.trans stp.below)
        have HER := Lib.hid her
        have AF := Lib.hid aft
        obtain ⟨Ln, hLn⟩ : ∃ Ln, Ln = L := ⟨_, rfl⟩
        have WX : Hid (WL wc w EC GC sp AW msW Ln) := Lib.hid (by rw [hLn]; exact WC.out)
        have AF : Hid (After8 dC er L Ln) := Lib.hid (by rw [hLn]; exact aft)
        have NX : Hid (nW = msW.length) := NW
        have LX : Hid (St.Sml 30 200 Ln ∧ Ln.length ≤ 100) := Lib.hid (by rw [hLn]; exact ⟨SML.out, by have := NUM.out; omega⟩)
        clear stp aft her hLn CP
        have LXL := Lib.hid (show msW.length ≤ 100 by have z := congrArg List.length WX.out.1; rw [pus_len, St.puts_len] at z; have := LX.out.2; omega)
        obtain ⟨g2, h2, l2, L2, k1, k2, k3, k4, k5, k6⟩ := AF.out.2.2 ks
        have K1 := Lib.hid k1
        have K2 := Lib.hid k2
        have K3 := Lib.hid k3
        have K4 := Lib.hid k4
        have K5 := Lib.hid k5
        have K6 := Lib.hid k6
        have L2X : Hid (St.Sml 30 200 L2 ∧ L2.length ≤ 100) := Lib.hid (by
          rcases k6 with ⟨z, _⟩ | z
          · rw [z]; exact ⟨SML.out, by have := NUM.out; omega⟩
          · rw [z]; exact LX.out)
        have zC := HBC.out.size
        clear k1 k2 k3 k4 k5 k6
        go_wp2_with fail
        refine (cdCrash_c (ks := ks) SSC.out.ws.x.cd AF.out.1 (by have := AF.out.2.1; omega) (HK.out.below (Nat.le_refl _) (BW.out _ HBC.out)) (HK.out.far (fun k hk => ⟨by have := (SSC.out.ws.cs.old k hk).1; have := B2.out.size; omega, (SSC.out.ws.cs.old k hk).2⟩) (BW.out _ HBC.out).size) N3.out (by have := n38.out; omega) HCK.out).mono ?_
        intro e wd hp
        obtain ⟨rfl, GD, hsD⟩ := CdOk0.step SSC.out.ws.cs zC hp
        have SD := Lib.hid hsD.cs
        have HBD := Lib.hid (HBC.out.trans hsD.below)
        have WD := Lib.hid (WC.out.disk hsD (BW.out _ (HBC.out.trans hsD.below)))
        have XD := Lib.hid (WX.out.disk hsD (BW.out _ (HBC.out.trans hsD.below)))
        have WP := Lib.hid WC.out.1
        have XP := Lib.hid WX.out.1
        have zD := HBD.out.size
        clear hp hsD
        go_wp2_with fail
        refine (stOpen_c SD.out zD K2.out K1.out K3.out K5.out (by have := K4.out; omega)).mono ?_
        rintro e w8 ⟨E8, V8, sp8, pw8, mb8, rfl, hs8, hb8⟩
        have SS8 := Lib.hid hs8
        have BD8 := Lib.hid hb8
        have z8 := hb8.size
        clear hs8 hb8
        have alb : Below w8.heap.size w8 (w8.alloc (.cells #[.slice none 0 0] 22)) := (Below.refl _ w8).alloc (Nat.le_refl _) _
        have SSb := Lib.hid (SS8.out.keep alb)
        have ALB := Lib.hid alb
        have SZB : Hid ((w8.alloc (.cells #[.slice none 0 0] 22)).heap.size = w8.heap.size + 1) := Lib.hid (by simp)
        have KB := Lib.hid (heap_alloc_new w8 (.cells #[.slice none 0 0] 22))
        clear alb
        go_wp2_with fail
        obtain ⟨wb, hwb⟩ : ∃ wb, w8.alloc (.cells #[.slice none 0 0] 22) = wb := ⟨_, rfl⟩
        rw [hwb] at SSb ALB SZB KB ⊢
        refine (keys_c SSb.out.st _).mono ?_
        rintro e wk ⟨rfl, hwk⟩
        have bk : Below wb.heap.size wb wk := by rw [hwk]; exact ((Below.refl _ wb).alloc (Nat.le_refl _) _).alloc (by simp) _
        have sk : wk.heap.size = wb.heap.size + 2 := by rw [hwk]; simp
        have k1 : wk.heap[wb.heap.size]? = some (.cells #[.map (some mb8)] 87 (0, 0)) := by rw [hwk]; exact blk_alloc (heap_alloc_new wb _) _
        have k2 : wk.heap[wb.heap.size + 1]? = some (.cells #[.string { data := #[] }] 9 (0, 0)) := by
          rw [hwk]
          have := heap_alloc_new (wb.alloc (.cells #[.map (some mb8)] 87)) (.cells #[.string { data := #[] }] 9)
          rwa [World.size_alloc] at this
        have kn := (bk.block w8.heap.size (by have := SZB.out; omega)).trans KB.out
        have SSk := Lib.hid (SSb.out.keep bk)
        have b8k := ALB.out.trans (bk.mono (by have := SZB.out; omega))
        obtain ⟨Dk8, hkk⟩ := SSk.out.km
        have HSQ := Lib.hid (told1_m (m := 8) (B := w8.heap.size) (ts := [22, 33]) k1 k2 hkk (by have := (SS8.out.km).elim fun _ z => z.own.lt; omega) (by have := SZB.out; omega) (by decide) (by decide) (by decide) (by have := L2X.out.2; omega) (fun x hx => by have := (L2X.out.1 x hx).2; omega))
        have HI0 : Hid (Coll w8 [] wk) := Lib.hid ⟨⟨none, 0, kn, World.ownsRow_nil _ _ _ _⟩, b8k⟩
        have SK : Hid (wk.heap.size = w8.heap.size + 3) := Lib.hid (by have := SZB.out; omega)
        have zbS : Hid (wb.heap.size = w8.heap.size + 1) := SZB
        clear hwk bk k1 k2 kn hkk sk b8k hwb
        go_wp2_with fail
        refine (wpIn_wide (n := 9)).1 ?_
        refine' range_m (α := TV) (F := Fence.wide) (n := 9) rfl (by decide) (gf := 78) (lb := #[.pointer (some ⟨wb.heap.size, 0, none⟩), .pointer (some ⟨wb.heap.size + 1, 0, none⟩)]) rfl trivial (enters_of Tryz.func78 (by kernel_rfl) rfl)
          HSQ.out (fun _ => rfl) (by have := SK.out; omega) (Coll w8) (fun _ _ _ => False) (fun pre A A' h hT => h.tch (by have := SK.out; omega) hT) (fun _ _ _ _ h _ => h) (fun x A A' h hT => ⟨h.1.tch hT (by simp), h.2⟩) (fun xs A A' h hT => ⟨h.1, fun x hx => (h.2 x hx).tch hT (by simp)⟩) HI0.out _ ?assign ?body ?done ?stop
        case assign =>
          intro l x W K hK
          unfold TV.enc
          gi_wp2
          exact hK
        case stop =>
          rintro c pre W h _
          exact h.elim
        case body =>
          rintro pre x W ⟨⟨A, c, hbx, hrow⟩, hB⟩ hpn hx hz hn1 hn2
          have cb := one_cell hbx
          have fb := blk_free hbx 0
          have hzW := hB.size
          obtain ⟨i0, hi, iz0, iz1, iz2⟩ := info_parts Tryz.infoPut
          have NP := Lib.hid (new_put W x.put)
          have HR := Lib.hid hrow
          have HBX := Lib.hid hbx
          have HB0 := Lib.hid hB
          have NC1 := Lib.hid hn1
          have NC2 := Lib.hid hn2
          have HZ := Lib.hid hz
          have PN : Hid (pre.length ≤ 100) := Lib.hid (by have := L2X.out.2; omega)
          clear hrow hbx hB hn1 hn2 hx hz hpn
          gi_wp2_with (gi_at_builtin; refine wpListIn_append_own _ rfl _ _ 22 rfl w8.heap.size 33 i0 _ 3 48 Tryz.underlying22 hi iz0 iz1 iz2 rfl (by decide) _ pre.length (pcells (pre.map TV.put)) rfl (HR.out.alloc _) ⟨W.heap.size, 0, none⟩ 1 1 x.put.cells rfl rfl NP.out (pcell_one _) (by unfold maxLen; have := PN.out; omega) (by have := PN.out; omega) (by simp; omega) ?_; intro v' w1 hown' hgrow _; obtain ⟨A1, k1, rfl⟩ := own_slice hown'; have hp1 := grown_blk (HR.out.alloc _) hgrow (blk_alloc HBX.out _) (by decide); have c2 := one_cell hp1; have f2 := blk_free hp1 0; have T1 := Lib.hid (grown_tch (B := w8.heap.size) (ts := [22, 33]) (HR.out.alloc _) hgrow (Nat.le_refl _) (by simp; omega) (by decide)); have G1 := Lib.hid hgrow; have HO := Lib.hid hown'; have HP1 := Lib.hid hp1; clear hgrow hown' hp1)
          have T2 := ((Tch.refl w8.heap.size [22, 33] W).alloc hzW (.cells #[.string (str x.k), .slice x.A x.v.length x.c, .bool false] 33)).trans T1.out
          have T3 := T2.setCell (p := ⟨w8.heap.size, 0, none⟩) HP1.out (by decide) (Nat.le_refl _) (.slice A1 (pre.length + 1) k1)
          have el : (pre ++ [x]).length = pre.length + 1 := by simp
          have hsz := SK.out
          have hz := HZ.out
          refine ⟨⟨?_, ?_⟩, T3, ⟨⟨A1, k1, ?_, ?_⟩, HB0.out.trans T3.below⟩⟩
          · refine (Below.heap_setCell w1 _ _ _ (by show _ ≠ w8.heap.size; omega)).trans ((keep_nc NC2.out (by omega) HR.out G1.out).trans rfl)
          · refine (Below.heap_setCell w1 _ _ _ (by show _ ≠ w8.heap.size; omega)).trans ((keep_nc NC1.out (by omega) HR.out G1.out).trans rfl)
          · rw [el]
            exact one_setCell HP1.out
          · rw [el, List.map_append, List.map_cons, List.map_nil, pcells_snoc]
            exact own_far HO.out HP1.out (by decide) _
        case done =>
          rintro ys W ⟨hkv, hpre⟩ ⟨⟨A, c, hbx, hrow⟩, hB⟩ hD
          have cb := one_cell hbx
          have hzW := hB.size
          have hul : UL W 0 33 5 A (ys.map TV.put) := ⟨lies_own hrow, fun m hm => by
            obtain ⟨x, hx, rfl⟩ := List.mem_map.1 hm
            exact hpre x hx⟩
          have hpu : pus (ys.map TV.put) = St.puts L2 := by
            rw [← hkv]
            simp [pus, St.puts, TV.put, TV.kv]
          have hyl : ys.length ≤ 100 := by
            have z : ys.length = L2.length := by rw [← hkv, List.length_map]
            have := L2X.out.2
            omega
          have bdW := BD8.out.trans (hB.mono z8)
          have SP1 := Lib.hid (samePuts_c (n := ys.length) (c := c) (c2 := cW) hul (XD.out.below (Nat.le_refl _) bdW) (by simp) NX.out (by omega))
          rw [hpu, XP.out] at SP1
          have SP2 := Lib.hid (fun j => samePuts_c (w := W.drewN j) (n := ys.length) (c := c) (c2 := cW) (ul_drewN hul j) (ul_drewN (WD.out.below (Nat.le_refl _) bdW) j) (by simp) NW.out (by omega))
          rw [hpu, WP.out] at SP2
          have HD := Lib.hid hD
          have BE := Lib.hid (BW.out _ (HBD.out.trans (bdW.mono zD)))
          have DW := Lib.hid (show w.heap.size ≤ wk.heap.size by have := (BW.out _ HBD.out).size; have := SK.out; omega)
          clear hkv hpre hbx hrow hB hul hpu hyl bdW hD
          by_cases q5 : St.puts L2 = St.puts Ln
          · rw [decide_eq_true q5] at SP1
            clear q5 SP2
            go_wp2_with fail
            refine SP1.out.mono ?_
            rintro e w9 ⟨rfl, j1, rfl⟩
            go_wp2
            exact RT2.out wk.heap.size _ _ (below_drewN BE.out j1) DW.out HD.out rfl
          · have q6 : L2 = L ∧ er = 50 := by
              rcases K6.out with ⟨z, z2⟩ | z
              · exact ⟨z, HER.out.resolve_left z2⟩
              · rw [z] at q5; exact absurd rfl q5
            obtain ⟨q7, q8⟩ := q6
            rw [decide_eq_false q5] at SP1
            rw [decide_eq_true (show St.puts L2 = St.puts L by rw [q7])] at SP2
            subst q8
            clear q5 q7
            go_wp2_with fail
            refine SP1.out.mono ?_
            rintro e w9 ⟨rfl, j1, rfl⟩
            go_wp2_with fail
            refine (SP2.out j1).mono ?_
            rintro e w9 ⟨rfl, j2, rfl⟩
            go_wp2
            exact RT2.out wk.heap.size _ _ (below_drewN BE.out (j1 + j2)) DW.out HD.out rfl
      | false =>
        have UM := Lib.hid (H1.out.below (Nat.le_refl _) (BW.out wa HBA.out))
        have CP := Lib.hid (commit8k_c (c := c1) SA.out zA LV.out (by omega) DN.out UM.out N1.out FM8.out (by have := HA.out; omega))
        go_wp2_with fail
        refine CP.out.mono ?_
        rintro e wc0 ⟨er, EC, GC, VC, mbC, sC, dC, LC, ov, rfl, her, stp, aft⟩
        have WC0 := Lib.hid (WAA.out.step stp)
        have SSC0 := Lib.hid stp.ss
        have HBC0 := Lib.hid (HBA.out.trans stp.below)
        have HER := Lib.hid her
        obtain ⟨Ln, hLn⟩ : ∃ Ln, Ln = St.hap L (pus ms) := ⟨_, rfl⟩
        have AF : Hid (After8 dC er L Ln) := Lib.hid (by rw [hLn]; exact aft)
        have LX : Hid (St.Sml 30 200 Ln ∧ Ln.length ≤ 100) := Lib.hid (by rw [hLn]; exact ⟨St.sml_hap FM8.out.2 SML.out, by have := NUM.out; have := St.hap_len (l := pus ms) (L := L); have := FM8.out.1; omega⟩)
        have HAP := Lib.hid (happenR_c (c := cW) (c2 := c1) (Q := fun m => m.fine w w.heap.size 0) (WC0.out.ul (BW.out wc0 HBC0.out)) WC0.out.2.1 WC0.out.1 LV.out.srt (H1.out.below (Nat.le_refl _) (BW.out wc0 HBC0.out)) QM.out NW.out N1.out (by have := LW.out; omega) (by have := FM8.out.1; rw [pus_len] at this; omega))
        rw [← hLn] at HAP
        clear stp aft her hLn CP
        go_wp2_with fail
        refine HAP.out.mono ?_
        intro e wc hp
        obtain ⟨AX, msX, cX, rfl, wlX, hbX⟩ := WC0.out.hap SSC0.out hp
        have WX := Lib.hid wlX
        have WC := Lib.hid (WC0.out.below hbX)
        have SSC := Lib.hid (SSC0.out.keep hbX)
        have HBC := Lib.hid (HBC0.out.trans (hbX.mono HBC0.out.size))
        obtain ⟨nX, hnX⟩ : ∃ nX, nX = msX.length := ⟨_, rfl⟩
        rw [← hnX]
        have NX := Lib.hid hnX
        clear hp wlX hbX HAP hnX
        have LXL := Lib.hid (show msX.length ≤ 100 by have z := congrArg List.length WX.out.1; rw [pus_len, St.puts_len] at z; have := LX.out.2; omega)
        obtain ⟨g2, h2, l2, L2, k1, k2, k3, k4, k5, k6⟩ := AF.out.2.2 ks
        have K1 := Lib.hid k1
        have K2 := Lib.hid k2
        have K3 := Lib.hid k3
        have K4 := Lib.hid k4
        have K5 := Lib.hid k5
        have K6 := Lib.hid k6
        have L2X : Hid (St.Sml 30 200 L2 ∧ L2.length ≤ 100) := Lib.hid (by
          rcases k6 with ⟨z, _⟩ | z
          · rw [z]; exact ⟨SML.out, by have := NUM.out; omega⟩
          · rw [z]; exact LX.out)
        have zC := HBC.out.size
        clear k1 k2 k3 k4 k5 k6
        go_wp2_with fail
        refine (cdCrash_c (ks := ks) SSC.out.ws.x.cd AF.out.1 (by have := AF.out.2.1; omega) (HK.out.below (Nat.le_refl _) (BW.out _ HBC.out)) (HK.out.far (fun k hk => ⟨by have := (SSC.out.ws.cs.old k hk).1; have := B2.out.size; omega, (SSC.out.ws.cs.old k hk).2⟩) (BW.out _ HBC.out).size) N3.out (by have := n38.out; omega) HCK.out).mono ?_
        intro e wd hp
        obtain ⟨rfl, GD, hsD⟩ := CdOk0.step SSC.out.ws.cs zC hp
        have SD := Lib.hid hsD.cs
        have HBD := Lib.hid (HBC.out.trans hsD.below)
        have WD := Lib.hid (WC.out.disk hsD (BW.out _ (HBC.out.trans hsD.below)))
        have XD := Lib.hid (WX.out.disk hsD (BW.out _ (HBC.out.trans hsD.below)))
        have WP := Lib.hid WC.out.1
        have XP := Lib.hid WX.out.1
        have zD := HBD.out.size
        clear hp hsD
        go_wp2_with fail
        refine (stOpen_c SD.out zD K2.out K1.out K3.out K5.out (by have := K4.out; omega)).mono ?_
        rintro e w8 ⟨E8, V8, sp8, pw8, mb8, rfl, hs8, hb8⟩
        have SS8 := Lib.hid hs8
        have BD8 := Lib.hid hb8
        have z8 := hb8.size
        clear hs8 hb8
        have alb : Below w8.heap.size w8 (w8.alloc (.cells #[.slice none 0 0] 22)) := (Below.refl _ w8).alloc (Nat.le_refl _) _
        have SSb := Lib.hid (SS8.out.keep alb)
        have ALB := Lib.hid alb
        have SZB : Hid ((w8.alloc (.cells #[.slice none 0 0] 22)).heap.size = w8.heap.size + 1) := Lib.hid (by simp)
        have KB := Lib.hid (heap_alloc_new w8 (.cells #[.slice none 0 0] 22))
        clear alb
        go_wp2_with fail
        obtain ⟨wb, hwb⟩ : ∃ wb, w8.alloc (.cells #[.slice none 0 0] 22) = wb := ⟨_, rfl⟩
        rw [hwb] at SSb ALB SZB KB ⊢
        refine (keys_c SSb.out.st _).mono ?_
        rintro e wk ⟨rfl, hwk⟩
        have bk : Below wb.heap.size wb wk := by rw [hwk]; exact ((Below.refl _ wb).alloc (Nat.le_refl _) _).alloc (by simp) _
        have sk : wk.heap.size = wb.heap.size + 2 := by rw [hwk]; simp
        have k1 : wk.heap[wb.heap.size]? = some (.cells #[.map (some mb8)] 87 (0, 0)) := by rw [hwk]; exact blk_alloc (heap_alloc_new wb _) _
        have k2 : wk.heap[wb.heap.size + 1]? = some (.cells #[.string { data := #[] }] 9 (0, 0)) := by
          rw [hwk]
          have := heap_alloc_new (wb.alloc (.cells #[.map (some mb8)] 87)) (.cells #[.string { data := #[] }] 9)
          rwa [World.size_alloc] at this
        have kn := (bk.block w8.heap.size (by have := SZB.out; omega)).trans KB.out
        have SSk := Lib.hid (SSb.out.keep bk)
        have b8k := ALB.out.trans (bk.mono (by have := SZB.out; omega))
        obtain ⟨Dk8, hkk⟩ := SSk.out.km
        have HSQ := Lib.hid (told1_m (m := 8) (B := w8.heap.size) (ts := [22, 33]) k1 k2 hkk (by have := (SS8.out.km).elim fun _ z => z.own.lt; omega) (by have := SZB.out; omega) (by decide) (by decide) (by decide) (by have := L2X.out.2; omega) (fun x hx => by have := (L2X.out.1 x hx).2; omega))
        have HI0 : Hid (Coll w8 [] wk) := Lib.hid ⟨⟨none, 0, kn, World.ownsRow_nil _ _ _ _⟩, b8k⟩
        have SK : Hid (wk.heap.size = w8.heap.size + 3) := Lib.hid (by have := SZB.out; omega)
        have zbS : Hid (wb.heap.size = w8.heap.size + 1) := SZB
        clear hwk bk k1 k2 kn hkk sk b8k hwb
        go_wp2_with fail
        refine (wpIn_wide (n := 9)).1 ?_
        refine' range_m (α := TV) (F := Fence.wide) (n := 9) rfl (by decide) (gf := 78) (lb := #[.pointer (some ⟨wb.heap.size, 0, none⟩), .pointer (some ⟨wb.heap.size + 1, 0, none⟩)]) rfl trivial (enters_of Tryz.func78 (by kernel_rfl) rfl)
          HSQ.out (fun _ => rfl) (by have := SK.out; omega) (Coll w8) (fun _ _ _ => False) (fun pre A A' h hT => h.tch (by have := SK.out; omega) hT) (fun _ _ _ _ h _ => h) (fun x A A' h hT => ⟨h.1.tch hT (by simp), h.2⟩) (fun xs A A' h hT => ⟨h.1, fun x hx => (h.2 x hx).tch hT (by simp)⟩) HI0.out _ ?assign ?body ?done ?stop
        case assign =>
          intro l x W K hK
          unfold TV.enc
          gi_wp2
          exact hK
        case stop =>
          rintro c pre W h _
          exact h.elim
        case body =>
          rintro pre x W ⟨⟨A, c, hbx, hrow⟩, hB⟩ hpn hx hz hn1 hn2
          have cb := one_cell hbx
          have fb := blk_free hbx 0
          have hzW := hB.size
          obtain ⟨i0, hi, iz0, iz1, iz2⟩ := info_parts Tryz.infoPut
          have NP := Lib.hid (new_put W x.put)
          have HR := Lib.hid hrow
          have HBX := Lib.hid hbx
          have HB0 := Lib.hid hB
          have NC1 := Lib.hid hn1
          have NC2 := Lib.hid hn2
          have HZ := Lib.hid hz
          have PN : Hid (pre.length ≤ 100) := Lib.hid (by have := L2X.out.2; omega)
          clear hrow hbx hB hn1 hn2 hx hz hpn
          gi_wp2_with (gi_at_builtin; refine wpListIn_append_own _ rfl _ _ 22 rfl w8.heap.size 33 i0 _ 3 48 Tryz.underlying22 hi iz0 iz1 iz2 rfl (by decide) _ pre.length (pcells (pre.map TV.put)) rfl (HR.out.alloc _) ⟨W.heap.size, 0, none⟩ 1 1 x.put.cells rfl rfl NP.out (pcell_one _) (by unfold maxLen; have := PN.out; omega) (by have := PN.out; omega) (by simp; omega) ?_; intro v' w1 hown' hgrow _; obtain ⟨A1, k1, rfl⟩ := own_slice hown'; have hp1 := grown_blk (HR.out.alloc _) hgrow (blk_alloc HBX.out _) (by decide); have c2 := one_cell hp1; have f2 := blk_free hp1 0; have T1 := Lib.hid (grown_tch (B := w8.heap.size) (ts := [22, 33]) (HR.out.alloc _) hgrow (Nat.le_refl _) (by simp; omega) (by decide)); have G1 := Lib.hid hgrow; have HO := Lib.hid hown'; have HP1 := Lib.hid hp1; clear hgrow hown' hp1)
          have T2 := ((Tch.refl w8.heap.size [22, 33] W).alloc hzW (.cells #[.string (str x.k), .slice x.A x.v.length x.c, .bool false] 33)).trans T1.out
          have T3 := T2.setCell (p := ⟨w8.heap.size, 0, none⟩) HP1.out (by decide) (Nat.le_refl _) (.slice A1 (pre.length + 1) k1)
          have el : (pre ++ [x]).length = pre.length + 1 := by simp
          have hsz := SK.out
          have hz := HZ.out
          refine ⟨⟨?_, ?_⟩, T3, ⟨⟨A1, k1, ?_, ?_⟩, HB0.out.trans T3.below⟩⟩
          · refine (Below.heap_setCell w1 _ _ _ (by show _ ≠ w8.heap.size; omega)).trans ((keep_nc NC2.out (by omega) HR.out G1.out).trans rfl)
          · refine (Below.heap_setCell w1 _ _ _ (by show _ ≠ w8.heap.size; omega)).trans ((keep_nc NC1.out (by omega) HR.out G1.out).trans rfl)
          · rw [el]
            exact one_setCell HP1.out
          · rw [el, List.map_append, List.map_cons, List.map_nil, pcells_snoc]
            exact own_far HO.out HP1.out (by decide) _
        case done =>
          rintro ys W ⟨hkv, hpre⟩ ⟨⟨A, c, hbx, hrow⟩, hB⟩ hD
          have cb := one_cell hbx
          have hzW := hB.size
          have hul : UL W 0 33 5 A (ys.map TV.put) := ⟨lies_own hrow, fun m hm => by
            obtain ⟨x, hx, rfl⟩ := List.mem_map.1 hm
            exact hpre x hx⟩
          have hpu : pus (ys.map TV.put) = St.puts L2 := by
            rw [← hkv]
            simp [pus, St.puts, TV.put, TV.kv]
          have hyl : ys.length ≤ 100 := by
            have z : ys.length = L2.length := by rw [← hkv, List.length_map]
            have := L2X.out.2
            omega
          have bdW := BD8.out.trans (hB.mono z8)
          have SP1 := Lib.hid (samePuts_c (n := ys.length) (c := c) (c2 := cX) hul (XD.out.below (Nat.le_refl _) bdW) (by simp) NX.out (by omega))
          rw [hpu, XP.out] at SP1
          have SP2 := Lib.hid (fun j => samePuts_c (w := W.drewN j) (n := ys.length) (c := c) (c2 := cW) (ul_drewN hul j) (ul_drewN (WD.out.below (Nat.le_refl _) bdW) j) (by simp) NW.out (by omega))
          rw [hpu, WP.out] at SP2
          have HD := Lib.hid hD
          have BE := Lib.hid (BW.out _ (HBD.out.trans (bdW.mono zD)))
          have DW := Lib.hid (show w.heap.size ≤ wk.heap.size by have := (BW.out _ HBD.out).size; have := SK.out; omega)
          clear hkv hpre hbx hrow hB hul hpu hyl bdW hD
          by_cases q5 : St.puts L2 = St.puts Ln
          · rw [decide_eq_true q5] at SP1
            clear q5 SP2
            go_wp2_with fail
            refine SP1.out.mono ?_
            rintro e w9 ⟨rfl, j1, rfl⟩
            go_wp2
            exact RT2.out wk.heap.size _ _ (below_drewN BE.out j1) DW.out HD.out rfl
          · have q6 : L2 = L ∧ er = 50 := by
              rcases K6.out with ⟨z, z2⟩ | z
              · exact ⟨z, HER.out.resolve_left z2⟩
              · rw [z] at q5; exact absurd rfl q5
            obtain ⟨q7, q8⟩ := q6
            rw [decide_eq_false q5] at SP1
            rw [decide_eq_true (show St.puts L2 = St.puts L by rw [q7])] at SP2
            subst q8
            clear q5 q7
            go_wp2_with fail
            refine SP1.out.mono ?_
            rintro e w9 ⟨rfl, j1, rfl⟩
            go_wp2_with fail
            refine (SP2.out j1).mono ?_
            rintro e w9 ⟨rfl, j2, rfl⟩
            go_wp2
            exact RT2.out wk.heap.size _ _ (below_drewN BE.out (j1 + j2)) DW.out HD.out rfl
end Go.Proofs.YtpnfpeeijghamaaGreat
