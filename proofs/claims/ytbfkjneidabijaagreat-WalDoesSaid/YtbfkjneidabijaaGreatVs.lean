/- Stage 7: the law WalOpens, the walk. -/
import Derived.Test.YtbfkjneidabijaaGreatVq
namespace Go.Proofs.YtbfkjneidabijaaGreat
open Go.RowKit
set_option maxRecDepth 100000

theorem new_count {n : Int} : (Dk.new n).s.length = min n.toNat 4096 := by
  show (List.replicate (Dk.count n) _).length = _
  rw [List.length_replicate]
  rfl
theorem format_few {n : Int} (hn : n < 3) : Wl.format (Dk.new n) = (51, Dk.new n) := by
  have e : (Dk.new n).s.length ≤ 2 := by rw [new_count]; omega
  unfold Wl.format Wl.ring
  rw [if_pos (by omega)]
theorem Wl.recs_told {s : VS} : s.wal.recs.map (·.b) = s.l := Wl.recsAt_map _ _
theorem Wl.len_needs : ∀ {l : List (List UInt8)}, (∀ b ∈ l, b.length ≤ 60000) → l.length ≤ Wl.needs l := by
  intro l
  induction l with
  | nil => intro _; exact Nat.le_refl _
  | cons b l ih =>
    intro h
    have h1 := ih (fun x hx => h x (by simp [hx]))
    have h2 : 1 ≤ Wl.need b := by
      have := h b (by simp)
      unfold Wl.need
      rw [if_neg (by omega)]
      omega
    have h3 : Wl.needs (b :: l) = Wl.need b + Wl.needs l := by simp [Wl.needs]
    rw [h3, List.length_cons]
    omega
theorem CWS.count {w : World} {B : Nat} {E G : Nat → Prop} {pw q : Nat} {s : VS} {d : Dk.D} (h : CWS w B E G pw q s d) (hd : d.ok) : s.l.length ≤ 4096 := by
  obtain ⟨AN, cN, y⟩ := h.x.cw
  have h1 := Wl.len_needs y.small
  have h2 := y.fits
  have h3 := hd.few
  unfold Wl.ring at h2
  omega
theorem Tw.begin {w w' : World} {B : Nat} {G F : Nat → Prop} {q p : Nat} {D E : Dk.D} (hc : CS w B G q D) (hd : DS w' B F p E) (hF : ∀ k, k < w.heap.size → ¬ F k) (hb : Below w.heap.size w w') : Tw B w' G F q p D E :=
  ⟨hc.keep hb, hd, fun k hk hg => hF k (hc.old k hg).2 hk⟩
theorem fault_len (d : Dk.D) (i : Int) (on : Bool) : (Dk.fault d i on).s.length = d.s.length := by unfold Dk.fault; split <;> rfl
theorem fault_cache (d : Dk.D) (i : Int) (on : Bool) : (Dk.fault d i on).cache = d.cache := by unfold Dk.fault; split <;> rfl
theorem fault_left (d : Dk.D) (i : Int) (on : Bool) : (Dk.fault d i on).left = d.left := by unfold Dk.fault; split <;> rfl
/-- What is known of a wal's records, for the document's contracts. -/
theorem Wl.Good.fit {d : Dk.D} {s : VS} (t : Wl.Good d s.g s.h s.l) (ho : s.over = false) : Wl.headOf s.wal.recs s.wal.tail ≤ s.wal.tail ∧ s.wal.tail - Wl.headOf s.wal.recs s.wal.tail ≤ Wl.ring d := by
  have y := t.tidy
  rw [show s.wal = ⟨s.g, s.h + Wl.needs s.l, Wl.recsAt s.h s.l, false⟩ from VS.wal_of ho]
  refine ⟨y.le, ?_⟩
  rw [y.head, y.tail]
  have := t.fits
  omega

set_option maxHeartbeats 16000000 in
set_option maxRecDepth 100000 in
theorem walOpens_c {A1 A2 : Option Addr} {c1 c2 : Nat} {l : List MTx} {b : List UInt8} {on : Bool} {w : World} (n pos : Int) (h1 : TL w w.heap.size 0 0 A1 l) (hl1 : ∀ x ∈ l, x.b.length ≤ maxLen) (hs1 : l.length ≤ maxLen) (h2 : Lies w w.heap.size 0 A2 (bcells b)) (hc2 : b.length ≤ c2) (hn : n ≤ 9223372036854775807) :
    Calls Tryz.prog 4 #[.int .i64 n, .slice A1 l.length c1, .slice A2 b.length c2, .int .i64 pos, .bool on] w fun e w' => e = .returned (.bool true) ∧ Below w.heap.size w w' := by
  have H1 := Lib.hid h1
  have H2 := Lib.hid h2
  have X1 := Lib.hid hl1
  have HN := Lib.hid hn
  have eml : maxLen ≤ 9223372036854775807 := by decide
  obtain ⟨n1, en1⟩ : ∃ n, n = l.length := ⟨_, rfl⟩
  obtain ⟨n2, en2⟩ : ∃ n, n = b.length := ⟨_, rfl⟩
  rw [← en1] at hs1
  rw [← en2] at hc2
  rw [← en1, ← en2]
  have N1 := Lib.hid en1
  have N2 := Lib.hid en2
  have HC2 := Lib.hid hc2
  obtain ⟨b1, eb1⟩ : ∃ b, b = decide (l.length ≤ 6 ∧ ∀ x ∈ l, x.b.length ≤ 400) := ⟨_, rfl⟩
  have QB1 := Lib.hid eb1
  have F1 := Lib.hid (fun (u : World) (h : TL u w.heap.size 0 0 A1 l) => by have q := few7_c (c := c1) h en1 (by omega) (fun x hx => by have := hl1 x hx; omega); rw [← eb1] at q; exact q)
  clear h1 h2 hl1 hn en1 en2 eb1 eml hc2
  go_enter Tryz.func4, Tryz.ntmps4
  go_wp2_with fail
  refine (awake7 w).mono ?_
  rintro e w1 ⟨rfl, hb1⟩
  have B1 := Lib.hid hb1
  clear hb1
  have z1 := B1.out.size
  by_cases q4 : 40 < n
  · go_wp2
    go_ret
    exact ⟨rfl, B1.out⟩
  go_wp2_with fail
  refine (F1.out _ (H1.out.below (Nat.le_refl _) B1.out)).mono ?_
  rintro e w2 ⟨rfl, rfl⟩
  cases b1 with
  | false =>
    go_wp2
    go_ret
    exact ⟨rfl, B1.out⟩
  | true =>
  have QL := Lib.hid (show l.length ≤ 6 ∧ ∀ x ∈ l, x.b.length ≤ 400 from of_decide_eq_true QB1.out.symm)
  by_cases q3 : 64 < n2
  · go_wp2
    go_ret
    exact ⟨rfl, B1.out⟩
  have n16 : n1 ≤ 6 := by rw [N1.out]; exact QL.out.1
  have K1 := Lib.hid (few_needs QL.out).1
  have LL := Lib.hid (show ∀ x ∈ l, x.b.length ≤ 1000000 from fun x hx => by have := QL.out.2 x hx; omega)
  go_wp2_with fail
  refine (cdNew_c n _ HN.out).mono ?_
  intro e w2 hp
  obtain ⟨q, G2, rfl, hs2, _, hb2⟩ := CNewOk.step z1 hp
  have S2 := Lib.hid hs2
  have B2 := Lib.hid (B1.out.trans (hb2.mono z1))
  have z2 := B2.out.size
  clear hp hs2 hb2
  go_wp2_with fail
  refine (refNewDisk_c n _ HN.out).mono ?_
  intro e w3 hp
  obtain ⟨p, F3, rfl, ds3, hF3, hb3⟩ := NewOk.step z2 hp
  have T3 := Lib.hid (Tw.begin S2.out ds3 hF3 hb3)
  have B3 := Lib.hid (B2.out.trans (hb3.mono z2))
  have z3 := B3.out.size
  clear hp ds3 hF3 hb3 S2
  go_wp2_with fail
  refine (vFormat_c T3.out.c.cd T3.out.c.old_lt (Dk.new_ok n) (show (-1 : Int) ≤ _ by decide) (show (0 : Nat) ≤ _ by decide)).mono ?_
  by_cases n3 : n < 3
  · rw [format_few n3]
    intro e w4 hp
    obtain ⟨rfl, G4, hs4⟩ := CdOk.step T3.out.c z3 hp
    have T4 := Lib.hid (T3.out.code hs4)
    have B4 := Lib.hid (B3.out.trans hs4.below)
    have z4 := B4.out.size
    clear hp hs4
    go_wp2_with fail
    refine (refFormatWal_c T4.out.d.rd (fun k hk => (T4.out.d.old k hk).2) (Dk.new_ok n) (show (-1 : Int) ≤ _ by decide) (show (0 : Nat) ≤ _ by decide)).mono ?_
    rw [format_few n3]
    intro e w5 hp
    obtain ⟨rfl, F5, hs5⟩ := DiskOk.step T4.out.d z4 hp
    have B5 := Lib.hid (B4.out.trans hs5.below)
    clear hp hs5
    go_wp2
    go_ret
    exact ⟨rfl, B5.out⟩
  obtain ⟨f1, f2, f3, f4, f5⟩ := format_good (n := n) (by omega)
  obtain ⟨D1, hD1⟩ : ∃ D, D = (Wl.format (Dk.new n)).2 := ⟨_, rfl⟩
  have FE : Wl.format (Dk.new n) = (0, D1) := by rw [hD1, ← f1]
  rw [← hD1] at f2 f3 f4 f5
  rw [FE]
  have OP1 := Lib.hid (f4.opens f2.clear)
  have FF := Lib.hid FE
  have I1 := Lib.hid f2
  have L1 := Lib.hid f3
  have G1 := Lib.hid f4
  obtain ⟨e2, s2, D2, hv, hE⟩ := vchg_good (s := ⟨0, 0, [], false⟩) (d := D1) (m := txs l) false rfl f2 (by omega) f4 (show (0 : Nat) + 1 < 18446744073709551616 by decide) (by show 0 + 0 + Wl.needs (txs l) < _; have := K1.out; omega)
  have pd0 : PD D1 D1.s.length 0 := ⟨f2.ok, by omega, by rw [f2.cache]; exact Nat.zero_le _, rfl⟩
  have pd1 := pd0.put (VS.wal ⟨0, 0, [], false⟩) (txs l) false (few_needs QL.out).2
  have ps := put_same (s := ⟨0, 0, [], false⟩) (d := D1) (m := txs l) (sw := false) f4.len
  rw [hv] at ps
  have AV := Lib.hid (show vchg ⟨0, 0, [], false⟩ D1 0 (txs l) = (e2, s2, D2) from hv)
  have PV := Lib.hid (show Wl.put (VS.wal ⟨0, 0, [], false⟩) D1 (txs l) false = (e2, s2.wal, D2) from ps)
  rw [PV.out] at pd1
  have P2 := Lib.hid pd1
  have C2 := Lib.hid (show D2.cache.length ≤ 43 by have z := hE.2.2.2.2.1; have := K1.out; omega)
  have M2 := Lib.hid (show 3 ≤ D2.s.length by rw [hE.2.1]; exact f4.len)
  obtain ⟨e3, D3, hw3⟩ : ∃ e D, Dk.write D2 pos b = (e, D) := ⟨_, _, rfl⟩
  have P3 := Lib.hid (P2.out.write hw3)
  have C3 := Lib.hid (show D3.cache.length ≤ 44 by have z := Dk.write_few C2.out pos b; rw [hw3] at z; exact z)
  have M3 := Lib.hid (show 3 ≤ D3.s.length by have z := write_size D2 pos b; rw [hw3] at z; have := M2.out; dsimp only at z; omega)
  have W3 := Lib.hid hw3
  have SZ3 := Lib.hid (show D3.s.length = D2.s.length by have z := write_size D2 pos b; rw [hw3] at z; exact z)
  obtain ⟨D4, hD4⟩ : ∃ D, D = Dk.fault D3 pos on := ⟨_, rfl⟩
  have OK4 := Lib.hid (show D4.ok by rw [hD4]; exact Dk.fault_ok P3.out.ok pos on)
  have C4 := Lib.hid (show D4.cache.length ≤ 44 by rw [hD4, fault_cache]; exact C3.out)
  have M4 := Lib.hid (show 3 ≤ D4.s.length by rw [hD4, fault_len]; exact M3.out)
  have SZ4 := Lib.hid (show D4.s.length = D3.s.length by rw [hD4, fault_len])
  have V4 := Lib.hid hD4
  clear f1 f2 f3 f4 f5 hD1 FE pd0 pd1 ps hv hE hw3 hD4
  intro e w4 hp
  obtain ⟨rfl, G4, hs4⟩ := CdOk.step T3.out.c z3 hp
  have T4 := Lib.hid (T3.out.code hs4)
  have B4 := Lib.hid (B3.out.trans hs4.below)
  have z4 := B4.out.size
  clear hp hs4
  go_wp2_with fail
  refine (refFormatWal_c T4.out.d.rd (fun k hk => (T4.out.d.old k hk).2) (Dk.new_ok n) (show (-1 : Int) ≤ _ by decide) (show (0 : Nat) ≤ _ by decide)).mono ?_
  rw [FF.out]
  intro e w5 hp
  obtain ⟨rfl, F5, hs5⟩ := DiskOk.step T4.out.d z4 hp
  have T5 := Lib.hid (T4.out.ref hs5)
  have B5 := Lib.hid (B4.out.trans hs5.below)
  have z5 := B5.out.size
  clear hp hs5
  go_wp2_with fail
  refine (vOpen_c T5.out.c.cd T5.out.c.old_lt I1.out.ok (by rw [I1.out.cache]; decide) G1.out.len).mono ?_
  rw [OP1.out]
  intro e w6 hp
  obtain ⟨pw, s, AR, cR, ms, rfl, hsw, _, _, hc6, _, _, hb6⟩ := hp.good T5.out.c z5 rfl
  have hs0 := VS.of_wal (g := 0) (h := 0) (l := []) hsw
  subst hs0
  have Q6 := Lib.hid (T5.out.opened hb6 hc6 (fun k hk => hk.1))
  have B6 := Lib.hid (B5.out.trans (hb6.mono z5))
  have z6 := B6.out.size
  clear hp hc6 hb6 hsw
  go_wp2_with fail
  refine (refOpen_c Q6.out.d.rd (fun k hk => (Q6.out.d.old k hk).2) I1.out.ok (by rw [I1.out.cache]; decide)).mono ?_
  rw [OP1.out]
  intro e w7 hp
  obtain ⟨pd, H7, rfl, hq7, hb7⟩ := Q6.out.open z6 hp rfl
  have Q7 := Lib.hid (show QW w7 w.heap.size _ G4 H7 F5 pw q pd p ⟨0, 0, [], false⟩ D1 (VS.wal ⟨0, 0, [], false⟩) D1 from hq7)
  have B7 := Lib.hid (B6.out.trans (hb7.mono z6))
  have z7 := B7.out.size
  clear hp hq7 hb7
  go_wp2_with fail
  refine (vAdd_c Q7.out.c.x I1.out.ok (i64_of L1.out) (by rw [I1.out.cache]; decide) (show U64 ((0 : Nat) + 1) from U64.of (by decide)) (Q7.out.txs H1.out LL.out B7.out).1 N1.out (by omega) (U64.of (by show 0 + 0 + Wl.needs (txs l) < _; have := K1.out; omega))).mono ?_
  rw [AV.out]
  intro e w8 hp
  obtain ⟨rfl, E8, G8, hq8, hb8⟩ := Q7.out.vok z7 hp
  have Q8 := Lib.hid hq8
  have B8 := Lib.hid (B7.out.trans hb8)
  have z8 := B8.out.size
  clear hp hq8 hb8
  go_wp2_with fail
  refine (refAdd7_c Q8.out.t I1.out.ok (i64_of L1.out) (by rw [I1.out.cache]; decide) (show U64 ((0 : Nat) + 1) from U64.of (by decide)) (U64.of (by show 0 + 0 + Wl.needs (txs l) < _; have := K1.out; omega)) (G1.out.fit (s := ⟨0, 0, [], false⟩) rfl).1 (G1.out.fit (s := ⟨0, 0, [], false⟩) rfl).2 (by decide) (Q8.out.txs H1.out LL.out B8.out).2 N1.out (by omega)).mono ?_
  rw [PV.out]
  intro e w9 hp
  obtain ⟨rfl, H9, F9, hq9, hb9⟩ := Q8.out.wok z8 hp
  have Q9 := Lib.hid hq9
  have B9 := Lib.hid (B8.out.trans hb9)
  have z9 := B9.out.size
  have e22 : (e2 != e2) = false := by simp
  clear hp hq9 hb9
  dsimp only at Q9 ⊢
  go_wp2_with fail
  refine (cdWrite_c Q9.out.c.cs.cd P2.out.ok P2.out.left (by have := C2.out; omega) (H2.out.below (Nat.le_refl _) B9.out) (H2.out.far Q9.out.c.cs.old B9.out.size) N2.out (by omega) HC2.out pos).mono ?_
  rw [W3.out]
  intro e w10 hp
  obtain ⟨rfl, G10, hq10, hb10⟩ := Q9.out.cok z9 SZ3.out hp
  have Q10 := Lib.hid hq10
  have B10 := Lib.hid (B9.out.trans hb10)
  have z10 := B10.out.size
  clear hp hq10 hb10
  go_wp2_with fail
  refine (refWrite_c Q10.out.t.rd P2.out.ok P2.out.left (by have := C2.out; omega) (H2.out.below (Nat.le_refl _) B10.out) (H2.out.far Q10.out.ds.old B10.out.size) N2.out pos).mono ?_
  rw [W3.out]
  intro e w11 hp
  obtain ⟨rfl, F11, hq11, hb11⟩ := Q10.out.dok z10 hp
  have Q11 := Lib.hid hq11
  have B11 := Lib.hid (B10.out.trans hb11)
  have z11 := B11.out.size
  clear hp hq11 hb11
  go_wp2_with fail
  refine (cdFault_c Q11.out.c.cs.cd P3.out.ok pos on).mono ?_
  rw [← V4.out]
  intro e w12 hp
  obtain ⟨rfl, G12, hq12, hb12⟩ := Q11.out.cok0 z11 SZ4.out hp
  have Q12 := Lib.hid hq12
  have B12 := Lib.hid (B11.out.trans hb12)
  have z12 := B12.out.size
  clear hp hq12 hb12
  go_wp2_with fail
  refine (refFault_c Q12.out.t.rd P3.out.ok pos on).mono ?_
  rw [← V4.out]
  intro e w13 hp
  obtain ⟨rfl, F13, hq13, hb13⟩ := Q12.out.dok0 z12 hp
  have T13 := Lib.hid hq13.tw
  have B13 := Lib.hid (B12.out.trans hb13)
  have z13 := B13.out.size
  clear hp hq13 hb13
  obtain ⟨x, hx⟩ : ∃ x, x = Wl.openIt D4 := ⟨_, rfl⟩
  have HX := Lib.hid hx
  clear hx
  by_cases x0 : x.1 = 0
  · go_wp2_with fail
    refine (vOpen_c T13.out.c.cd T13.out.c.old_lt OK4.out (by have := C4.out; omega) M4.out).mono ?_
    rw [← HX.out]
    intro e w14 hp
    obtain ⟨pw4, s4, AR4, cR4, ms4, rfl, hsw, _, hms, hc14, hr14, hf14, hb14⟩ := hp.good T13.out.c z13 x0
    have Q14 := Lib.hid (T13.out.opened hb14 hc14 (fun k hk => hk.1))
    have B14 := Lib.hid (B13.out.trans (hb14.mono z13))
    have z14 := B14.out.size
    have TR := Lib.hid (show TL w14 0 57 5 AR4 ms4 from ⟨lies_own hr14, fun m hm => (hf14 m hm).1⟩)
    have ER := Lib.hid hms
    have SW := Lib.hid hsw
    clear hp hc14 hb14 hr14 hf14 hms hsw
    obtain ⟨n4, en4⟩ : ∃ n, n = ms4.length := ⟨_, rfl⟩
    rw [← en4]
    have N4 := Lib.hid en4
    have CT := Lib.hid (Q14.out.c.count OK4.out)
    have n44 : n4 ≤ 4096 := by rw [en4, ← txs_len, ER.out]; exact CT.out
    clear en4
    go_wp2_with fail
    refine (refOpen_c Q14.out.d.rd (fun k hk => (Q14.out.d.old k hk).2) OK4.out (by have := C4.out; omega)).mono ?_
    rw [← HX.out]
    intro e w15 hp
    obtain ⟨pd4, H15, rfl, hq15, hb15⟩ := Q14.out.open z14 hp x0
    rw [← SW.out] at hq15
    have Q15 := Lib.hid hq15
    have B15 := Lib.hid (B14.out.trans (hb15.mono z14))
    have z15 := B15.out.size
    have TR5 := Lib.hid (TR.out.below (Nat.zero_le _) hb15)
    clear hp hq15 hb15
    go_wp2_with fail
    refine (refRecords_c Q15.out.t (by show (Wl.recsAt s4.h s4.l).length ≤ 1000000; rw [recsAt_len]; have := CT.out; omega)).mono ?_
    rw [Wl.recs_told]
    rintro e w16 ⟨A16, n5, c16, ms5, rfl, hn5, ht5, ho5, hb16, hf5⟩
    have B16 := Lib.hid (B15.out.trans (hb16.mono z15))
    have TS := Lib.hid (show TL w16 0 57 5 A16 ms5 from ⟨lies_own ho5, fun m hm => (hf5 m hm).1.below (Nat.zero_le _) hb16⟩)
    have TR6 := Lib.hid (TR5.out.below (Nat.zero_le _) hb16)
    have N5 := Lib.hid hn5
    have EQ := Lib.hid (show decide (txs ms4 = txs ms5) = true by rw [ER.out, ht5]; simp)
    clear hn5 ht5 ho5 hb16 hf5
    go_wp2_with fail
    refine (sameTexts_c (A := AR4) (c := cR4) TR6.out TS.out N4.out N5.out (by omega)).mono ?_
    rw [EQ.out]
    rintro e w17 ⟨rfl, j, rfl⟩
    go_wp2
    go_ret
    exact ⟨rfl, below_drewN B16.out j⟩
  · go_wp2_with fail
    refine (vOpen_c T13.out.c.cd T13.out.c.old_lt OK4.out (by have := C4.out; omega) M4.out).mono ?_
    rw [← HX.out]
    rintro e w14 ⟨hb14, h3 | ⟨_, rfl⟩⟩
    · exact absurd h3.1 x0
    have T14 := Lib.hid (T13.out.keep hb14)
    have B14 := Lib.hid (B13.out.trans (hb14.mono z13))
    have z14 := B14.out.size
    clear hb14
    go_wp2_with fail
    refine (refOpen_c T14.out.d.rd (fun k hk => (T14.out.d.old k hk).2) OK4.out (by have := C4.out; omega)).mono ?_
    rw [← HX.out]
    rintro e w15 ⟨hb15, h3 | ⟨_, rfl⟩⟩
    · exact absurd h3.1 x0
    have B15 := Lib.hid (B14.out.trans (hb15.mono z14))
    have xn : (x.1 != 0) = true := by simpa using x0
    have xe : (x.1 == x.1) = true := by simp
    clear hb15
    go_wp2
    go_ret
    exact ⟨rfl, B15.out⟩
end Go.Proofs.YtbfkjneidabijaaGreat
