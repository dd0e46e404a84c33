/- Stage 7: the law WalDoes, the walk. -/
import Derived.Test.YtbfkjneidabijaaGreatVt
import Derived.Deep.RegionHeld3
namespace Go.Proofs.YtbfkjneidabijaaGreat
open Go.RowKit
set_option maxRecDepth 100000

theorem cell_far {w w' : World} {b j : Nat} (h : w'.heap[b]? = w.heap[b]?) : w'.cell? ⟨b, j, none⟩ = w.cell? ⟨b, j, none⟩ := by simp [World.cell?, h]
theorem VOk.far {E G : Nat → Prop} {pw q : Nat} {y : Int × VS × Dk.D} {w w' : World} {e : Ending} (hp : VOk E G pw q y w e w') {k : Nat} (hk : k < w.heap.size) (hn : ¬ (E k ∨ G k)) : w'.heap[k]? = w.heap[k]? := by
  obtain ⟨_, E', G', _, _, _, b⟩ := hp
  exact b.block k hk hn
theorem WOk.far {E G : Nat → Prop} {pw q : Nat} {y : Int × Wl.W × Dk.D} {w w' : World} {e : Ending} (hp : WOk E G pw q y w e w') {k : Nat} (hk : k < w.heap.size) (hn : ¬ (E k ∨ G k)) : w'.heap[k]? = w.heap[k]? := by
  obtain ⟨_, E', G', _, _, _, b⟩ := hp
  exact b.block k hk hn
section
variable {w : World} {B : Nat} {E G H F : Nat → Prop} {pw q pd p : Nat} {s s2 : VS} {d d2 : Dk.D} {x : Wl.W}
theorem QW.list (h : QW w B E G H F pw q pd p s d s2.wal d2) : ∃ AL cL, ∀ u, Below w.heap.size w u → u.cell? ⟨pd, 3, none⟩ = some (.slice AL s2.l.length cL) := by
  obtain ⟨AL, cL, xs, r, e⟩ := h.t.rw
  have c3 := r.fields.2.2.2.1
  have n : xs.length = s2.l.length := by
    rw [← xrecs_len, e]
    exact recsAt_len _ _
  rw [n] at c3
  exact ⟨AL, cL, fun u hb => (hb.cell (p := ⟨pd, 3, none⟩) (lt_of_block r.cell)).trans c3⟩
theorem QW.len7 (h : QW w B E G H F pw q pd p s d x d2) {N : Nat} (hN : N = s.l.length) : Calls Tryz.prog 25 #[.pointer (some ⟨pw, 0, none⟩)] w fun e w' => e = .returned (.int .i64 (N : Int)) ∧ Below w.heap.size w w' := by
  obtain ⟨AN, cN, y⟩ := h.c.x.cw
  refine (vLen_c y).mono ?_
  rintro e w' ⟨rfl, rfl⟩
  exact ⟨by rw [hN], Below.refl _ _⟩
theorem QW.free7 (h : QW w B E G H F pw q pd p s d x d2) {N : Nat} (hN : N = Wl.ring d - Wl.needs s.l) : Calls Tryz.prog 26 #[.pointer (some ⟨pw, 0, none⟩)] w fun e w' => e = .returned (.int .i64 (N : Int)) ∧ Below w.heap.size w w' := by
  obtain ⟨AN, cN, y⟩ := h.c.x.cw
  refine (vFree_c y).mono ?_
  rintro e w' ⟨rfl, rfl⟩
  exact ⟨by rw [hN], (Below.refl _ _).drew⟩
theorem QW.refFree7 (h : QW w B E G H F pw q pd p s d s.wal d) (hd : d.ok) {N : Nat} (hN : N = Wl.ring d - Wl.needs s.l) : Calls Tryz.prog 27 #[.pointer (some ⟨pd, 0, none⟩)] w fun e w' => e = .returned (.int .i64 (N : Int)) ∧ Below w.heap.size w w' := by
  refine (refFree_c h.t hd.few h.c.fit.1 h.c.fit.2).mono ?_
  rintro e w' ⟨rfl, n, rfl⟩
  exact ⟨by rw [hN, VS.free], below_drewN (Below.refl _ _) n⟩
end

set_option maxHeartbeats 40000000 in
set_option maxRecDepth 100000 in
theorem walDoes_c {A1 : Option Addr} {c1 : Nat} {l : List MDw} {w : World} (n : Int) (h1 : DW w w.heap.size A1 l) (hk1 : ∀ m ∈ l, m.ok) (hn : n ≤ 9223372036854775807) (hs1 : l.length ≤ 9223372036854775807) :
    Calls Tryz.prog 3 #[.int .i64 n, .slice A1 l.length c1] w fun e w' => e = .returned (.bool true) ∧ Below w.heap.size w w' := by
  have H1 := Lib.hid h1
  have HK1 := Lib.hid hk1
  have HN := Lib.hid hn
  have eml : maxLen ≤ 9223372036854775807 := by decide
  clear h1 hk1 hn
  go_enter Tryz.func3, Tryz.ntmps3
  go_wp2_with fail
  refine (awake7 w).mono ?_
  rintro e w1 ⟨rfl, hb1⟩
  have B1 := Lib.hid hb1
  clear hb1
  have z1 := B1.out.size
  by_cases q4 : 40 < n
  · go_wp2
    go_ret
    exact ⟨rfl, B1.out⟩
  by_cases q25 : 25 < l.length
  · go_wp2
    go_ret
    exact ⟨rfl, B1.out⟩
  have l25 : l.length ≤ 25 := by omega
  go_wp2_with fail
  refine (cdNew_c n _ HN.out).mono ?_
  intro e w2 hp
  obtain ⟨q, G2, rfl, hs2, _, hb2⟩ := CNewOk.step z1 hp
  have S2 := Lib.hid hs2
  have B2 := Lib.hid (B1.out.trans (hb2.mono z1))
  have z2 := B2.out.size
  clear hp hs2 hb2
  go_wp2_with fail
  refine (refNewDisk_c n _ HN.out).mono ?_
  intro e w3 hp
  obtain ⟨p, F3, rfl, ds3, hF3, hb3⟩ := NewOk.step z2 hp
  have T3 := Lib.hid (Tw.begin S2.out ds3 hF3 hb3)
  have B3 := Lib.hid (B2.out.trans (hb3.mono z2))
  have z3 := B3.out.size
  clear hp ds3 hF3 hb3 S2
  go_wp2_with fail
  refine (vFormat_c T3.out.c.cd T3.out.c.old_lt (Dk.new_ok n) (show (-1 : Int) ≤ _ by decide) (show (0 : Nat) ≤ _ by decide)).mono ?_
  by_cases n3 : n < 3
  · rw [format_few n3]
    intro e w4 hp
    obtain ⟨rfl, G4, hs4⟩ := CdOk.step T3.out.c z3 hp
    have T4 := Lib.hid (T3.out.code hs4)
    have B4 := Lib.hid (B3.out.trans hs4.below)
    have z4 := B4.out.size
    clear hp hs4
    go_wp2_with fail
    refine (refFormatWal_c T4.out.d.rd (fun k hk => (T4.out.d.old k hk).2) (Dk.new_ok n) (show (-1 : Int) ≤ _ by decide) (show (0 : Nat) ≤ _ by decide)).mono ?_
    rw [format_few n3]
    intro e w5 hp
    obtain ⟨rfl, F5, hs5⟩ := DiskOk.step T4.out.d z4 hp
    have B5 := Lib.hid (B4.out.trans hs5.below)
    clear hp hs5
    go_wp2
    go_ret
    exact ⟨rfl, B5.out⟩
  obtain ⟨f1, f2, f3, f4, f5⟩ := format_good (n := n) (by omega)
  obtain ⟨D1, hD1⟩ : ∃ D, D = (Wl.format (Dk.new n)).2 := ⟨_, rfl⟩
  have FE : Wl.format (Dk.new n) = (0, D1) := by rw [hD1, ← f1]
  rw [← hD1] at f2 f3 f4 f5
  rw [FE]
  have OP1 := Lib.hid (f4.opens f2.clear)
  have FF := Lib.hid FE
  have I1 := Lib.hid f2
  have G1 := Lib.hid f4
  have WN0 := Lib.hid (Wn.fresh (k := 0) f2 f3 f4 (Nat.le_refl _) (by decide))
  clear f1 f2 f3 f4 f5 hD1 FE
  intro e w4 hp
  obtain ⟨rfl, G4, hs4⟩ := CdOk.step T3.out.c z3 hp
  have T4 := Lib.hid (T3.out.code hs4)
  have B4 := Lib.hid (B3.out.trans hs4.below)
  have z4 := B4.out.size
  clear hp hs4
  go_wp2_with fail
  refine (refFormatWal_c T4.out.d.rd (fun k hk => (T4.out.d.old k hk).2) (Dk.new_ok n) (show (-1 : Int) ≤ _ by decide) (show (0 : Nat) ≤ _ by decide)).mono ?_
  rw [FF.out]
  intro e w5 hp
  obtain ⟨rfl, F5, hs5⟩ := DiskOk.step T4.out.d z4 hp
  have T5 := Lib.hid (T4.out.ref hs5)
  have B5 := Lib.hid (B4.out.trans hs5.below)
  have z5 := B5.out.size
  clear hp hs5
  go_wp2_with fail
  refine (vOpen_c T5.out.c.cd T5.out.c.old_lt I1.out.ok (by rw [I1.out.cache]; decide) G1.out.len).mono ?_
  rw [OP1.out]
  intro e w6 hp
  obtain ⟨pw, s, AR, cR, ms, rfl, hsw, _, _, hc6, _, _, hb6⟩ := hp.good T5.out.c z5 rfl
  have hs0 := VS.of_wal (g := 0) (h := 0) (l := []) hsw
  subst hs0
  have Q6 := Lib.hid (T5.out.opened hb6 hc6 (fun k hk => hk.1))
  have B6 := Lib.hid (B5.out.trans (hb6.mono z5))
  have z6 := B6.out.size
  clear hp hc6 hb6 hsw
  go_wp2_with fail
  refine (refOpen_c Q6.out.d.rd (fun k hk => (Q6.out.d.old k hk).2) I1.out.ok (by rw [I1.out.cache]; decide)).mono ?_
  rw [OP1.out]
  intro e w7 hp
  obtain ⟨pd, H7, rfl, hq7, hb7⟩ := Q6.out.open z6 hp rfl
  have Q7 := Lib.hid (show QW w7 w.heap.size _ G4 H7 F5 pw q pd p ⟨0, 0, [], false⟩ D1 (VS.wal ⟨0, 0, [], false⟩) D1 from hq7)
  have B7 := Lib.hid (B6.out.trans (hb7.mono z6))
  clear hp hq7 hb7
  clear z1 z2 z3 z4 z5 z6
  go_wp2_with fail
  go_loopw [7, 8, 9, 12, 64] (fun u7 u8 a b i wr => ∃ (j pw pd : Nat) (E G H F : Nat → Prop) (s : VS) (d : Dk.D) (er : Int), j ≤ l.length ∧ i = .int .i64 j ∧ u7 = .int .i64 er ∧ u8 = .int .i64 er ∧ a = .pointer (some ⟨pw, 0, none⟩) ∧ b = .pointer (some ⟨pd, 0, none⟩) ∧ QW wr w.heap.size E G H F pw q pd p s d s.wal d ∧ Wn j s d ∧ Below w.heap.size w wr) (fun _ _ _ _ i _ => l.length - (intOf i).toNat)
  case atStart => exact ⟨0, pw, pd, _, _, _, _, ⟨0, 0, [], false⟩, D1, 0, Nat.zero_le _, rfl, rfl, rfl, rfl, rfl, Q7.out, WN0.out, B7.out⟩
  case round =>
    obtain ⟨j, pw, pd, E, G, H, F, s, d, er0, hj, rfl, rfl, rfl, rfl, rfl, hq, hw, hb⟩ := hrel
    have HQ := Lib.hid hq
    have WN := Lib.hid hw
    have HB := Lib.hid hb
    have hz := hb.size
    have ee0 : (er0 != er0) = false := by simp
    clear hq hw hb
    by_cases hlt : j < l.length
    · obtain ⟨ad, m, rfl, hm, _, d0, d1, d2, d3⟩ := (H1.out.below (Nat.le_refl _) HB.out).at_ hlt
      have FI := Lib.hid (H1.out.2 m (List.mem_of_getElem? hm))
      have XO := Lib.hid (HK1.out m (List.mem_of_getElem? hm))
      clear hm
      have WA := Lib.hid ((Below.refl wr.heap.size wr).alloc (Nat.le_refl _) (.cells #[.int .i64 m.kind, .slice m.LA m.L.length m.Lc, .int .i64 m.n, .slice m.KA m.keep.length m.Kc] 40))
      have VB := Lib.hid (HB.out.trans (WA.out.mono hz))
      have Q0 := Lib.hid (HQ.out.keep WA.out)
      have GE : Hid (¬ (E wr.heap.size ∨ G wr.heap.size)) := Lib.hid fun z => Nat.lt_irrefl _ (z.elim (HQ.out.c.x.eo _) (HQ.out.c.x.go _))
      have GH : Hid (¬ (H wr.heap.size ∨ F wr.heap.size)) := Lib.hid fun z => Nat.lt_irrefl _ (HQ.out.lo _ z)
      have G0 : Hid ((wr.alloc (.cells #[.int .i64 m.kind, .slice m.LA m.L.length m.Lc, .int .i64 m.n, .slice m.KA m.keep.length m.Kc] 40)).cell? ⟨wr.heap.size, 0, none⟩ = some (.int .i64 m.kind)) := Lib.hid (cell_of_row _ _ _ _ _ _ (heap_alloc_new wr _))
      have G1 : Hid ((wr.alloc (.cells #[.int .i64 m.kind, .slice m.LA m.L.length m.Lc, .int .i64 m.n, .slice m.KA m.keep.length m.Kc] 40)).cell? ⟨wr.heap.size, 1, none⟩ = some (.slice m.LA m.L.length m.Lc)) := Lib.hid (cell_of_row _ _ _ _ _ _ (heap_alloc_new wr _))
      have G2 : Hid ((wr.alloc (.cells #[.int .i64 m.kind, .slice m.LA m.L.length m.Lc, .int .i64 m.n, .slice m.KA m.keep.length m.Kc] 40)).cell? ⟨wr.heap.size, 2, none⟩ = some (.int .i64 m.n)) := Lib.hid (cell_of_row _ _ _ _ _ _ (heap_alloc_new wr _))
      have G3 : Hid ((wr.alloc (.cells #[.int .i64 m.kind, .slice m.LA m.L.length m.Lc, .int .i64 m.n, .slice m.KA m.keep.length m.Kc] 40)).cell? ⟨wr.heap.size, 3, none⟩ = some (.slice m.KA m.keep.length m.Kc)) := Lib.hid (cell_of_row _ _ _ _ _ _ (heap_alloc_new wr _))
      have glt : wr.heap.size < (wr.alloc (.cells #[.int .i64 m.kind, .slice m.LA m.L.length m.Lc, .int .i64 m.n, .slice m.KA m.keep.length m.Kc] 40)).heap.size := by simp
      obtain ⟨b1, eb1⟩ : ∃ b, b = decide (m.L.length ≤ 6 ∧ ∀ x ∈ m.L, x.b.length ≤ 400) := ⟨_, rfl⟩
      have QB1 := Lib.hid eb1
      have F1 := Lib.hid (fun (u : World) (h : TL u w.heap.size 0 0 m.LA m.L) => by have q := few7_c (c := m.Lc) h rfl (by have := XO.out.2.2.1; omega) (fun x hx => by have := XO.out.2.2.2.1 x hx; omega); rw [← eb1] at q; exact q)
      clear eb1
      obtain ⟨V, eV⟩ : ∃ V, V = wr.alloc (.cells #[.int .i64 m.kind, .slice m.LA m.L.length m.Lc, .int .i64 m.n, .slice m.KA m.keep.length m.Kc] 40) := ⟨_, rfl⟩
      rw [← eV] at WA VB Q0 G0 G1 G2 G3 glt
      have KM : m.keep.length ≤ 9223372036854775807 := by have := XO.out.2.2.2.2; omega
      have LM : m.L.length ≤ 9223372036854775807 := by have := XO.out.2.2.1; omega
      have g0 := G0.out
      have g1 := G1.out
      have g3 := G3.out
      go_wp2_with fail
      rw [← eV]
      clear eV d0 d1 d2 d3
      refine (F1.out _ (FI.out.1.below (Nat.le_refl _) VB.out)).mono ?_
      rintro e w8 ⟨rfl, rfl⟩
      cases b1 with
      | false =>
        go_wp2
        go_ret
        exact ⟨rfl, VB.out⟩
      | true =>
      have QL := Lib.hid (show m.L.length ≤ 6 ∧ ∀ x ∈ m.L, x.b.length ≤ 400 from of_decide_eq_true QB1.out.symm)
      by_cases k40 : 40 < m.keep.length
      · go_wp2
        go_ret
        exact ⟨rfl, VB.out⟩
      have K1 := Lib.hid (few_needs QL.out)
      have L6 : m.L.length ≤ 6 := QL.out.1
      have LL := Lib.hid (show ∀ x ∈ m.L, x.b.length ≤ 1000000 from fun x hx => by have := QL.out.2 x hx; omega)
      have VZ := VB.out.size
      have UG := Lib.hid (show U64 (s.g + 1) from U64.of (by have := WN.out.gen; omega))
      have UT := Lib.hid (show U64 (s.h + Wl.needs s.l + Wl.needs (txs m.L)) from U64.of (by have := WN.out.tail; have := K1.out.1; omega))
      have CF := Lib.hid (show d.cache.length ≤ 1000000 by have := WN.out.few; omega)
      have RC := Lib.hid (show s.wal.recs.length ≤ 1000000 by have := Q0.out.c.count WN.out.ok; show (Wl.recsAt s.h s.l).length ≤ 1000000; rw [recsAt_len]; omega)
      clear QB1 F1
      have kinds : m.kind = 0 ∨ m.kind = 1 ∨ m.kind = 2 ∨ m.kind = 3 ∨ (m.kind ≠ 0 ∧ m.kind ≠ 1 ∧ m.kind ≠ 2 ∧ m.kind ≠ 3) := by omega
      rcases kinds with k | k | k | k | k
      · have e0 : (m.kind == 0) = true := by simp [k]
        clear k
        have WV := WN.out.chg false (by omega) K1.out.1 K1.out.2 (e := (vchg s d 0 (txs m.L)).1) (s' := (vchg s d 0 (txs m.L)).2.1) (d' := (vchg s d 0 (txs m.L)).2.2) rfl
        have PS := put_same (s := s) (d := d) (m := txs m.L) (sw := false) WN.out.len
        have PS : Wl.put s.wal d (txs m.L) false = ((vchg s d 0 (txs m.L)).1, (vchg s d 0 (txs m.L)).2.1.wal, (vchg s d 0 (txs m.L)).2.2) := PS
        have Q0d := Lib.hid (Q0.out.keep (Below.refl V.heap.size V).drew)
        have VBd := Lib.hid VB.out.drew
        have CA := vAdd_c (c := m.Lc) Q0d.out.c.x WN.out.ok WN.out.hi CF.out UG.out (Q0d.out.txs FI.out.1 LL.out VBd.out).1 rfl (by omega) UT.out
        generalize vchg s d 0 (txs m.L) = r at *
        obtain ⟨er, s2, D2⟩ := r
        dsimp only at WV PS CA
        have NV := Lib.hid WV
        have PV := Lib.hid PS
        have CV := Lib.hid CA
        have kp0 : V.drew.cell? ⟨wr.heap.size, 1, none⟩ = some (.slice m.LA m.L.length m.Lc) := G1.out
        have ee : (er != er) = false := by simp
        clear WV PS CA
        go_wp2_with fail
        go_region_held3 (fun u => u.cell? ⟨wr.heap.size, 1, none⟩ = some (.slice m.LA m.L.length m.Lc)) (assumption) (first | (go_at_call 13; (refine CV.out.mono ?_); intro e w5 hp; have kq5 := hp.far (k := wr.heap.size) glt GE.out; obtain ⟨rfl, E5, G5, hq5, hb5⟩ := Q0d.out.vok VBd.out.size hp; have Q5 := Lib.hid hq5; have B5 := Lib.hid (VBd.out.trans hb5); have z5 := B5.out.size; have zl5 : wr.heap.size < w5.heap.size := Nat.lt_of_lt_of_le glt hb5.size; have kp5 : w5.cell? ⟨wr.heap.size, 1, none⟩ = some (.slice m.LA m.L.length m.Lc) := (cell_far kq5).trans kp0; clear hp hq5 hb5 kq5) | (go_at_call 14; (refine (refAdd7_c (x := s.wal) Q5.out.t WN.out.ok WN.out.hi CF.out UG.out UT.out Q0.out.c.fit.1 Q0.out.c.fit.2 RC.out (Q5.out.txs FI.out.1 LL.out B5.out).2 rfl (by omega)).mono ?_); rw [PV.out]; intro e w6 hp; have kp6 : w6.cell? ⟨wr.heap.size, 1, none⟩ = some (Value.slice m.LA m.L.length m.Lc) := (cell_far (hp.far (k := wr.heap.size) zl5 GH.out)).trans kp5; obtain ⟨rfl, H6, F6, hq6, hb6⟩ := Q5.out.wok z5 hp; have Q6 := Lib.hid hq6; have B6 := Lib.hid (B5.out.trans hb6); clear hp hq6 hb6))

        obtain ⟨N, eN⟩ : ∃ N, N = s2.l.length := ⟨_, rfl⟩
        obtain ⟨Z, eZ⟩ : ∃ Z, Z = Wl.ring D2 - Wl.needs s2.l := ⟨_, rfl⟩
        obtain ⟨AL, cL, h3⟩ := Q6.out.list
        rw [← eN] at h3
        have NN := Lib.hid eN
        have ZZ := Lib.hid eZ
        have H3 := Lib.hid h3
        have bW0 : Below w6.heap.size w6 w6.drew := (Below.refl _ _).drew
        have S0 := h3 _ bW0
        have en : ((N : Int) != (N : Int)) = false := by simp
        have ez : ((Z : Int) != (Z : Int)) = false := by simp
        clear h3 eN eZ
        go_wp2_with fail
        go_region_held3 (fun u => u.cell? ⟨pd, 3, none⟩ = some (.slice AL N cL)) (exact H3.out _ (by assumption)) (first | (go_at_call 25; (refine ((Q6.out.keep bW0).len7 NN.out).mono ?_); rintro e u1 ⟨rfl, hb⟩; have bW1 := bW0.trans (hb.mono bW0.size); clear hb) | (go_at_call 26; (refine ((Q6.out.keep bW1).free7 ZZ.out).mono ?_); rintro e u2 ⟨rfl, hb⟩; have bW2 := bW1.trans (hb.mono bW1.size); clear hb) | (go_at_call 27; (refine ((Q6.out.keep bW2).refFree7 NV.out.ok ZZ.out).mono ?_); rintro e u3 ⟨rfl, hb⟩; have bW3 := bW2.trans (hb.mono bW2.size); clear hb))
        go_wp2
        go_roundw
        case rel => exact ⟨j + 1, pw, pd, E5, G5, H6, F6, s2, D2, er, by omega, by go_num, rfl, rfl, rfl, rfl, Q6.out.keep bW3, NV.out, B6.out.trans (bW3.mono B6.out.size)⟩
        case measure => simp [intOf]; omega
      · have e0 : (m.kind == 0) = false := by simp; omega
        have e1 : (m.kind == 1) = true := by simp [k]
        clear k
        have WV := WN.out.chg true (by omega) K1.out.1 K1.out.2 (e := (vchg s d s.l.length (txs m.L)).1) (s' := (vchg s d s.l.length (txs m.L)).2.1) (d' := (vchg s d s.l.length (txs m.L)).2.2) rfl
        have PS := put_same (s := s) (d := d) (m := txs m.L) (sw := true) WN.out.len
        have PS : Wl.put s.wal d (txs m.L) true = ((vchg s d s.l.length (txs m.L)).1, (vchg s d s.l.length (txs m.L)).2.1.wal, (vchg s d s.l.length (txs m.L)).2.2) := PS
        have Q0d := Lib.hid (Q0.out.keep (Below.refl V.heap.size V).drew)
        have VBd := Lib.hid VB.out.drew
        have CA := vSwap_c (c := m.Lc) Q0d.out.c.x WN.out.ok WN.out.hi CF.out UG.out (Q0d.out.txs FI.out.1 LL.out VBd.out).1 rfl (by omega) UT.out
        generalize vchg s d s.l.length (txs m.L) = r at *
        obtain ⟨er, s2, D2⟩ := r
        dsimp only at WV PS CA
        have NV := Lib.hid WV
        have PV := Lib.hid PS
        have CV := Lib.hid CA
        have kp0 : V.drew.cell? ⟨wr.heap.size, 1, none⟩ = some (.slice m.LA m.L.length m.Lc) := G1.out
        have ee : (er != er) = false := by simp
        clear WV PS CA
        go_wp2_with fail
        go_region_held3 (fun u => u.cell? ⟨wr.heap.size, 1, none⟩ = some (.slice m.LA m.L.length m.Lc)) (assumption) (first | (go_at_call 15; (refine CV.out.mono ?_); intro e w5 hp; have kq5 := hp.far (k := wr.heap.size) glt GE.out; obtain ⟨rfl, E5, G5, hq5, hb5⟩ := Q0d.out.vok VBd.out.size hp; have Q5 := Lib.hid hq5; have B5 := Lib.hid (VBd.out.trans hb5); have z5 := B5.out.size; have zl5 : wr.heap.size < w5.heap.size := Nat.lt_of_lt_of_le glt hb5.size; have kp5 : w5.cell? ⟨wr.heap.size, 1, none⟩ = some (.slice m.LA m.L.length m.Lc) := (cell_far kq5).trans kp0; clear hp hq5 hb5 kq5) | (go_at_call 16; (refine (refSwap7_c (x := s.wal) Q5.out.t WN.out.ok WN.out.hi CF.out UG.out UT.out Q0.out.c.fit.1 Q0.out.c.fit.2 RC.out (Q5.out.txs FI.out.1 LL.out B5.out).2 rfl (by omega)).mono ?_); rw [PV.out]; intro e w6 hp; have kp6 : w6.cell? ⟨wr.heap.size, 1, none⟩ = some (Value.slice m.LA m.L.length m.Lc) := (cell_far (hp.far (k := wr.heap.size) zl5 GH.out)).trans kp5; obtain ⟨rfl, H6, F6, hq6, hb6⟩ := Q5.out.wok z5 hp; have Q6 := Lib.hid hq6; have B6 := Lib.hid (B5.out.trans hb6); clear hp hq6 hb6))

        obtain ⟨N, eN⟩ : ∃ N, N = s2.l.length := ⟨_, rfl⟩
        obtain ⟨Z, eZ⟩ : ∃ Z, Z = Wl.ring D2 - Wl.needs s2.l := ⟨_, rfl⟩
        obtain ⟨AL, cL, h3⟩ := Q6.out.list
        rw [← eN] at h3
        have NN := Lib.hid eN
        have ZZ := Lib.hid eZ
        have H3 := Lib.hid h3
        have bW0 : Below w6.heap.size w6 w6.drew := (Below.refl _ _).drew
        have S0 := h3 _ bW0
        have en : ((N : Int) != (N : Int)) = false := by simp
        have ez : ((Z : Int) != (Z : Int)) = false := by simp
        clear h3 eN eZ
        go_wp2_with fail
        go_region_held3 (fun u => u.cell? ⟨pd, 3, none⟩ = some (.slice AL N cL)) (exact H3.out _ (by assumption)) (first | (go_at_call 25; (refine ((Q6.out.keep bW0).len7 NN.out).mono ?_); rintro e u1 ⟨rfl, hb⟩; have bW1 := bW0.trans (hb.mono bW0.size); clear hb) | (go_at_call 26; (refine ((Q6.out.keep bW1).free7 ZZ.out).mono ?_); rintro e u2 ⟨rfl, hb⟩; have bW2 := bW1.trans (hb.mono bW1.size); clear hb) | (go_at_call 27; (refine ((Q6.out.keep bW2).refFree7 NV.out.ok ZZ.out).mono ?_); rintro e u3 ⟨rfl, hb⟩; have bW3 := bW2.trans (hb.mono bW2.size); clear hb))
        go_wp2
        go_roundw
        case rel => exact ⟨j + 1, pw, pd, E5, G5, H6, F6, s2, D2, er, by omega, by go_num, rfl, rfl, rfl, rfl, Q6.out.keep bW3, NV.out, B6.out.trans (bW3.mono B6.out.size)⟩
        case measure => simp [intOf]; omega
      · have e0 : (m.kind == 0) = false := by simp; omega
        have e1 : (m.kind == 1) = false := by simp; omega
        have e2 : (m.kind == 2) = true := by simp [k]
        clear k
        have WV := WN.out.cut (by omega) (n := m.n) (e := (vcut s d m.n).1) (s' := (vcut s d m.n).2.1) (d' := (vcut s d m.n).2.2) rfl
        have PS := drop_same (s := s) (d := d) (n := m.n) WN.out.len
        have Q0d := Lib.hid (Q0.out.keep (Below.refl V.heap.size V).drew)
        have VBd := Lib.hid VB.out.drew
        have CA := vCut_c Q0d.out.c.x WN.out.ok WN.out.hi CF.out UG.out m.n
        generalize vcut s d m.n = r at *
        obtain ⟨er, s2, D2⟩ := r
        dsimp only at WV PS CA
        have NV := Lib.hid WV
        have PV := Lib.hid PS
        have CV := Lib.hid CA
        have kp0 : V.drew.cell? ⟨wr.heap.size, 2, none⟩ = some (.int .i64 m.n) := G2.out
        have ee : (er != er) = false := by simp
        clear WV PS CA
        go_wp2_with fail
        go_region_held3 (fun u => u.cell? ⟨wr.heap.size, 2, none⟩ = some (.int .i64 m.n)) (assumption) (first | (go_at_call 17; (refine CV.out.mono ?_); intro e w5 hp; have kq5 := hp.far (k := wr.heap.size) glt GE.out; obtain ⟨rfl, E5, G5, hq5, hb5⟩ := Q0d.out.vok VBd.out.size hp; have Q5 := Lib.hid hq5; have B5 := Lib.hid (VBd.out.trans hb5); have z5 := B5.out.size; have zl5 : wr.heap.size < w5.heap.size := Nat.lt_of_lt_of_le glt hb5.size; have kp5 : w5.cell? ⟨wr.heap.size, 2, none⟩ = some (.int .i64 m.n) := (cell_far kq5).trans kp0; clear hp hq5 hb5 kq5) | (go_at_call 18; (refine (refCut_c (x := s.wal) Q5.out.t WN.out.ok WN.out.hi (by have := CF.out; omega) UG.out RC.out m.n).mono ?_); rw [PV.out]; intro e w6 hp; have kp6 : w6.cell? ⟨wr.heap.size, 2, none⟩ = some (Value.int .i64 m.n) := (cell_far (hp.far (k := wr.heap.size) zl5 GH.out)).trans kp5; obtain ⟨rfl, H6, F6, hq6, hb6⟩ := Q5.out.wok z5 hp; have Q6 := Lib.hid hq6; have B6 := Lib.hid (B5.out.trans hb6); clear hp hq6 hb6))

        obtain ⟨N, eN⟩ : ∃ N, N = s2.l.length := ⟨_, rfl⟩
        obtain ⟨Z, eZ⟩ : ∃ Z, Z = Wl.ring D2 - Wl.needs s2.l := ⟨_, rfl⟩
        obtain ⟨AL, cL, h3⟩ := Q6.out.list
        rw [← eN] at h3
        have NN := Lib.hid eN
        have ZZ := Lib.hid eZ
        have H3 := Lib.hid h3
        have bW0 : Below w6.heap.size w6 w6.drew := (Below.refl _ _).drew
        have S0 := h3 _ bW0
        have en : ((N : Int) != (N : Int)) = false := by simp
        have ez : ((Z : Int) != (Z : Int)) = false := by simp
        clear h3 eN eZ
        go_wp2_with fail
        go_region_held3 (fun u => u.cell? ⟨pd, 3, none⟩ = some (.slice AL N cL)) (exact H3.out _ (by assumption)) (first | (go_at_call 25; (refine ((Q6.out.keep bW0).len7 NN.out).mono ?_); rintro e u1 ⟨rfl, hb⟩; have bW1 := bW0.trans (hb.mono bW0.size); clear hb) | (go_at_call 26; (refine ((Q6.out.keep bW1).free7 ZZ.out).mono ?_); rintro e u2 ⟨rfl, hb⟩; have bW2 := bW1.trans (hb.mono bW1.size); clear hb) | (go_at_call 27; (refine ((Q6.out.keep bW2).refFree7 NV.out.ok ZZ.out).mono ?_); rintro e u3 ⟨rfl, hb⟩; have bW3 := bW2.trans (hb.mono bW2.size); clear hb))
        go_wp2
        go_roundw
        case rel => exact ⟨j + 1, pw, pd, E5, G5, H6, F6, s2, D2, er, by omega, by go_num, rfl, rfl, rfl, rfl, Q6.out.keep bW3, NV.out, B6.out.trans (bW3.mono B6.out.size)⟩
        case measure => simp [intOf]; omega
      · have e0 : (m.kind == 0) = false := by simp; omega
        have e1 : (m.kind == 1) = false := by simp; omega
        have e2 : (m.kind == 2) = false := by simp; omega
        have e3 : (m.kind == 3) = true := by simp [k]
        clear k
        have g2 := G2.out
        have NV := Lib.hid ((WN.out.arm (n := m.n) (by have := XO.out.2.1; omega)).up (Nat.le_succ j))
        go_wp2_with fail
        refine (cdArm_c Q0.out.c.cs.cd m.n).mono ?_
        intro e w5 hp
        have kq5 := hp.2.2.block wr.heap.size glt (fun z => GE.out (.inr z))
        obtain ⟨rfl, G5, hq5, hb5⟩ := Q0.out.cok0 (d' := Dk.arm d m.n) VZ rfl hp
        have Q5 := Lib.hid hq5
        have B5 := Lib.hid (VB.out.trans hb5)
        have z5 := B5.out.size
        have k2 := (cell_far (j := 2) kq5).trans G2.out
        clear hp hq5 hb5 kq5
        go_wp2_with fail
        refine (refArm_c Q5.out.t.rd m.n).mono ?_
        intro e w6 hp
        obtain ⟨rfl, F6, hq6, hb6⟩ := Q5.out.dok0 z5 hp
        have Q6 := Lib.hid hq6
        have B6 := Lib.hid (B5.out.trans hb6)
        clear hp hq6 hb6
        obtain ⟨N, eN⟩ : ∃ N, N = s.l.length := ⟨_, rfl⟩
        obtain ⟨Z, eZ⟩ : ∃ Z, Z = Wl.ring (Dk.arm d m.n) - Wl.needs s.l := ⟨_, rfl⟩
        obtain ⟨AL, cL, h3⟩ := Q6.out.list
        rw [← eN] at h3
        have NN := Lib.hid eN
        have ZZ := Lib.hid eZ
        have H3 := Lib.hid h3
        have bW0 : Below w6.heap.size w6 w6.drew := (Below.refl _ _).drew
        have S0 := h3 _ bW0
        have en : ((N : Int) != (N : Int)) = false := by simp
        have ez : ((Z : Int) != (Z : Int)) = false := by simp
        clear h3 eN eZ
        go_wp2_with fail
        go_region_held3 (fun u => u.cell? ⟨pd, 3, none⟩ = some (.slice AL N cL)) (exact H3.out _ (by assumption)) (first | (go_at_call 25; (refine ((Q6.out.keep bW0).len7 NN.out).mono ?_); rintro e u1 ⟨rfl, hb⟩; have bW1 := bW0.trans (hb.mono bW0.size); clear hb) | (go_at_call 26; (refine ((Q6.out.keep bW1).free7 ZZ.out).mono ?_); rintro e u2 ⟨rfl, hb⟩; have bW2 := bW1.trans (hb.mono bW1.size); clear hb) | (go_at_call 27; (refine ((Q6.out.keep bW2).refFree7 NV.out.ok ZZ.out).mono ?_); rintro e u3 ⟨rfl, hb⟩; have bW3 := bW2.trans (hb.mono bW2.size); clear hb))
        go_wp2
        go_roundw
        case rel => exact ⟨j + 1, pw, pd, E, G5, H, F6, s, (Dk.arm d m.n), er0, by omega, by go_num, rfl, rfl, rfl, rfl, Q6.out.keep bW3, NV.out, B6.out.trans (bW3.mono B6.out.size)⟩
        case measure => simp [intOf]; omega
      · have e0 : (m.kind == 0) = false := by simp; omega
        have e1 : (m.kind == 1) = false := by simp; omega
        have e2 : (m.kind == 2) = false := by simp; omega
        have e3 : (m.kind == 3) = false := by simp; omega
        clear k
        obtain ⟨g2, h2, l2, wc, oc⟩ := WN.out.crash m.keep
        have NV := Lib.hid (wc.up (Nat.le_succ j))
        have OC := Lib.hid oc
        clear wc oc
        go_wp2_with fail
        refine (cdCrash_c (ks := m.keep) Q0.out.c.cs.cd WN.out.ok (by have := CF.out; omega) (FI.out.2.1.below (Nat.le_refl _) VB.out) (FI.out.2.1.far Q0.out.c.cs.old VZ) rfl (by omega) FI.out.2.2).mono ?_
        intro e w5 hp
        have kq5 := hp.2.2.block wr.heap.size glt (fun z => GE.out (.inr z))
        obtain ⟨rfl, G5, hq5, hb5⟩ := Q0.out.cok0 VZ (show (Dk.keepSome d.s d.cache m.keep).length = d.s.length from Dk.keepSome_len _ _ _) hp
        have Q5 := Lib.hid hq5
        have B5 := Lib.hid (VB.out.trans hb5)
        have z5 := B5.out.size
        have k3 := (cell_far (j := 3) kq5).trans G3.out
        clear hp hq5 hb5 kq5
        go_wp2_with fail
        refine (refCrash_c (ks := m.keep) Q5.out.t.rd WN.out.ok (by have := CF.out; omega) (FI.out.2.1.below (Nat.le_refl _) B5.out) (FI.out.2.1.far Q5.out.ds.old z5) rfl (by omega)).mono ?_
        intro e w6 hp
        obtain ⟨rfl, F6, hq6, hb6⟩ := Q5.out.dok0 z5 hp
        have T6 := Lib.hid hq6.tw
        have B6 := Lib.hid (B5.out.trans hb6)
        have z6 := B6.out.size
        clear hp hq6 hb6
        go_wp2_with fail
        refine (vOpen_c T6.out.c.cd T6.out.c.old_lt NV.out.ok (by have := NV.out.few; omega) NV.out.len).mono ?_
        rw [OC.out]
        intro e w14 hp
        obtain ⟨pw4, s4, AR4, cR4, ms4, rfl, hsw, _, hms, hc14, hr14, hf14, hb14⟩ := hp.good T6.out.c z6 rfl
        have es4 := VS.of_wal (g := g2) (h := h2) (l := l2) hsw
        subst es4
        have Q14 := Lib.hid (T6.out.opened hb14 hc14 (fun k hk => hk.1))
        have B14 := Lib.hid (B6.out.trans (hb14.mono z6))
        have z14 := B14.out.size
        have TR := Lib.hid (show TL w14 0 57 5 AR4 ms4 from ⟨lies_own hr14, fun m hm => (hf14 m hm).1⟩)
        have ER := Lib.hid (show txs ms4 = l2 from hms)
        clear hp hc14 hb14 hr14 hf14 hms hsw
        obtain ⟨n4, en4⟩ : ∃ n, n = ms4.length := ⟨_, rfl⟩
        rw [← en4]
        have N4 := Lib.hid en4
        have CT := Lib.hid (show l2.length ≤ 4096 from Q14.out.c.count NV.out.ok)
        have n44 : n4 ≤ 4096 := by rw [en4, ← txs_len, ER.out]; exact CT.out
        clear en4
        go_wp2_with fail
        refine (refOpen_c Q14.out.d.rd (fun k hk => (Q14.out.d.old k hk).2) NV.out.ok (by have := NV.out.few; omega)).mono ?_
        rw [OC.out]
        intro e w15 hp
        obtain ⟨pd4, H15, rfl, hq15, hb15⟩ := Q14.out.open z14 hp rfl
        have Q15 := Lib.hid (show QW w15 w.heap.size _ G5 H15 F6 pw4 q pd4 p ⟨g2, h2, l2, false⟩ (Dk.crash d m.keep) (VS.wal ⟨g2, h2, l2, false⟩) (Dk.crash d m.keep) from hq15)
        have B15 := Lib.hid (B14.out.trans (hb15.mono z14))
        have z15 := B15.out.size
        have TR5 := Lib.hid (TR.out.below (Nat.zero_le _) hb15)
        clear hp hq15 hb15
        go_wp2_with fail
        refine (refRecords_c Q15.out.t (by show (Wl.recsAt h2 l2).length ≤ 1000000; rw [recsAt_len]; have := CT.out; omega)).mono ?_
        rw [Wl.recs_told]
        rintro e w16 ⟨A16, n5, c16, ms5, rfl, hn5, ht5, ho5, hb16, hf5⟩
        have B16 := Lib.hid (B15.out.trans (hb16.mono z15))
        have Q16 := Lib.hid (Q15.out.keep hb16)
        have TS := Lib.hid (show TL w16 0 57 5 A16 ms5 from ⟨lies_own ho5, fun m hm => (hf5 m hm).1.below (Nat.zero_le _) hb16⟩)
        have TR6 := Lib.hid (TR5.out.below (Nat.zero_le _) hb16)
        have N5 := Lib.hid hn5
        have EQ := Lib.hid (show decide (txs ms4 = txs ms5) = true by rw [ER.out, ht5]; simp)
        clear hn5 ht5 ho5 hb16 hf5
        go_wp2_with fail
        refine (sameTexts_c (A := AR4) (c := cR4) TR6.out TS.out N4.out N5.out (by omega)).mono ?_
        rw [EQ.out]
        rintro e w17 ⟨rfl, jj, rfl⟩
        obtain ⟨W17, eW⟩ : ∃ W, W = w16.drewN jj := ⟨_, rfl⟩
        have bj : Below w16.heap.size w16 W17 := by rw [eW]; exact below_drewN (Below.refl _ _) jj
        have Q17 := Lib.hid (Q16.out.keep bj)
        have B17 := Lib.hid (B16.out.trans (bj.mono B16.out.size))
        rw [← eW]
        clear eW bj
        obtain ⟨N, eN⟩ : ∃ N, N = (⟨g2, h2, l2, false⟩ : VS).l.length := ⟨_, rfl⟩
        obtain ⟨Z, eZ⟩ : ∃ Z, Z = Wl.ring (Dk.crash d m.keep) - Wl.needs (⟨g2, h2, l2, false⟩ : VS).l := ⟨_, rfl⟩
        obtain ⟨AL, cL, h3⟩ := Q17.out.list
        rw [← eN] at h3
        have NN := Lib.hid eN
        have ZZ := Lib.hid eZ
        have H3 := Lib.hid h3
        have bW0 : Below W17.heap.size W17 W17.drew := (Below.refl _ _).drew
        have S0 := h3 _ bW0
        have en : ((N : Int) != (N : Int)) = false := by simp
        have ez : ((Z : Int) != (Z : Int)) = false := by simp
        clear h3 eN eZ
        go_wp2_with fail
        go_region_held3 (fun u => u.cell? ⟨pd4, 3, none⟩ = some (.slice AL N cL)) (exact H3.out _ (by assumption)) (first | (go_at_call 25; (refine ((Q17.out.keep bW0).len7 NN.out).mono ?_); rintro e u1 ⟨rfl, hb⟩; have bW1 := bW0.trans (hb.mono bW0.size); clear hb) | (go_at_call 26; (refine ((Q17.out.keep bW1).free7 ZZ.out).mono ?_); rintro e u2 ⟨rfl, hb⟩; have bW2 := bW1.trans (hb.mono bW1.size); clear hb) | (go_at_call 27; (refine ((Q17.out.keep bW2).refFree7 NV.out.ok ZZ.out).mono ?_); rintro e u3 ⟨rfl, hb⟩; have bW3 := bW2.trans (hb.mono bW2.size); clear hb))
        go_wp2
        go_roundw
        case rel => exact ⟨j + 1, pw4, pd4, _, G5, H15, F6, (⟨g2, h2, l2, false⟩ : VS), (Dk.crash d m.keep), 0, by omega, by go_num, rfl, rfl, rfl, rfl, Q17.out.keep bW3, NV.out, B17.out.trans (bW3.mono B17.out.size)⟩
        case measure => simp [intOf]; omega
    · obtain rfl : j = l.length := by omega
      go_wp2
      go_ret
      exact ⟨rfl, HB.out⟩
end Go.Proofs.YtbfkjneidabijaaGreat
