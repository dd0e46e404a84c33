/- Stage 5: the law DiskDoes, the walk. -/
import Derived.Test.YtogobeinckgjmaaDa
import Derived.Test.YtogobeinckgjmaaDt
import Derived.Test.YtogobeinckgjmaaDl
import Derived.Test.YtogobeinckgjmaaDg
import Derived.Test.YtogobeinckgjmaaDf
import Derived.Test.YtogobeinckgjmaaDr
import Derived.Deep.RegionHeld3
namespace Go.Proofs.Ytogobeinckgjmaa
open Go.RowKit

set_option maxHeartbeats 16000000 in
set_option maxRecDepth 100000 in
theorem diskDoes_c {A1 : Option Addr} {c1 : Nat} {l1 : List MDd} {w : World} (n : Int) (h1 : DL w w.heap.size A1 l1) (hk1 : ∀ m ∈ l1, m.x.ok) (hn1 : n ≤ 9223372036854775807) (hs1 : l1.length ≤ 9223372036854775807) :
    Calls Try.prog 3 #[.int .i64 n, .slice A1 l1.length c1] w fun e w' => e = .returned (.bool true) ∧ Below w.heap.size w w' := by
  have H1 := Lib.hid h1
  have HK1 := Lib.hid hk1
  have HN := Lib.hid hn1
  clear h1 hk1 hn1
  go_enter Try.func3, Try.ntmps3
  go_wp2_with fail
  refine (awake5 w).mono ?_
  rintro e w1 ⟨rfl, hb1⟩
  have B1 := Lib.hid hb1
  clear hb1
  have z1 := B1.out.size
  go_wp2_with fail
  refine (few5_c (H1.out.below (Nat.le_refl _) B1.out) z1 rfl hs1).mono ?_
  cases hf1 : Dk.few (dds l1)
  · rintro e w2 ⟨rfl, hb2⟩
    have B2 := Lib.hid (B1.out.trans (hb2.mono z1))
    clear hb2 hf1
    go_wp2
    go_ret
    exact ⟨rfl, B2.out⟩
  rintro e w2 ⟨rfl, hb2⟩
  have B2 := Lib.hid (B1.out.trans (hb2.mono z1))
  have F1 := Lib.hid (Dk.few_len hf1)
  have z2 := B2.out.size
  clear hb2 hf1
  by_cases hn : 50 < n
  · go_wp2
    go_ret
    exact ⟨rfl, B2.out⟩
  go_wp2_with fail
  refine (cdNew_c n _ HN.out).mono ?_
  intro e w3 hp
  obtain ⟨q, G3, rfl, hs3, hx3, hb3⟩ := CNewOk.step z2 hp
  have S3 := Lib.hid hs3
  have B3 := Lib.hid (B2.out.trans (hb3.mono z2))
  have z3 := B3.out.size
  clear hp hs3 hb3 hx3
  go_wp2_with fail
  refine (refNewDisk_c n _ HN.out).mono ?_
  intro e w4 hp
  obtain ⟨p, F4, rfl, hs4, hn4, hb4⟩ := NewOk.step z3 hp
  have T4 : Hid (Tw w.heap.size w4 G3 F4 q p (Dk.new n) (Dk.new n)) := Lib.hid ⟨S3.out.keep hb4, hs4, fun k hk hg => hn4 k (S3.out.old k hg).2 hk⟩
  have B4 := Lib.hid (B3.out.trans (hb4.mono z3))
  clear hp hs4 hb4 hn4
  have l40 : l1.length ≤ 40 := by have := F1.out.1; rw [dds_len] at this; exact this
  go_wp2_with fail
  go_loopw [5, 6, 35] (fun a b i wr => ∃ (j q p : Nat) (G F : Nat → Prop) (D : Dk.D), j ≤ l1.length ∧ i = .int .i64 j ∧ a = .pointer (some ⟨q, 0, none⟩) ∧ b = .pointer (some ⟨p, 0, none⟩) ∧ Tw w.heap.size wr G F q p D D ∧ Dk.Fine j D ∧ Below w.heap.size w wr) (fun _ _ i _ => l1.length - (intOf i).toNat)
  case atStart => exact ⟨0, q, p, G3, F4, _, Nat.zero_le _, rfl, rfl, rfl, T4.out, Dk.Fine.new n, B4.out⟩
  case round =>
    clear z1 z2 z3
    obtain ⟨j, q, p, G, F, D, hj, rfl, rfl, rfl, ht, hf, hb⟩ := hrel
    have HT := Lib.hid ht
    have HF := Lib.hid hf
    have HB := Lib.hid hb
    have hz := hb.size
    clear ht hf hb
    by_cases hlt : j < l1.length
    · obtain ⟨ad, m, rfl, hm, _, d0, d1, d2, d3, d4⟩ := (H1.out.below (Nat.le_refl _) HB.out).at_ hlt
      have FI := Lib.hid (H1.out.2 m (List.mem_of_getElem? hm))
      have XO := Lib.hid (HK1.out m (List.mem_of_getElem? hm))
      have FL := F1.out.2 m.x (List.mem_map.2 ⟨m, List.mem_of_getElem? hm, rfl⟩)
      have BL : m.x.b.length ≤ 100 := FL.1
      have KL : m.x.keep.length ≤ 50 := FL.2
      clear hm FL
      have WA := Lib.hid ((Below.refl wr.heap.size wr).alloc (Nat.le_refl _) (.cells #[.int .i64 m.x.kind, .int .i64 m.x.at_, .slice m.A m.x.b.length m.c, .int .i64 m.x.n, .slice m.KA m.x.keep.length m.Kc] 32))
      have VB := Lib.hid (HB.out.trans (WA.out.mono hz))
      have T0 := Lib.hid (HT.out.keep WA.out)
      have GG : Hid (¬ G wr.heap.size) := Lib.hid fun g => Nat.lt_irrefl _ (HT.out.c.old _ g).2
      have GF : Hid (¬ F wr.heap.size) := Lib.hid fun g => Nat.lt_irrefl _ (HT.out.d.old _ g).2
      have G0 : Hid ((wr.alloc (.cells #[.int .i64 m.x.kind, .int .i64 m.x.at_, .slice m.A m.x.b.length m.c, .int .i64 m.x.n, .slice m.KA m.x.keep.length m.Kc] 32)).cell? ⟨wr.heap.size, 0, none⟩ = some (.int .i64 m.x.kind)) := Lib.hid (cell_of_row _ _ _ _ _ _ (heap_alloc_new wr _))
      have G1 : Hid ((wr.alloc (.cells #[.int .i64 m.x.kind, .int .i64 m.x.at_, .slice m.A m.x.b.length m.c, .int .i64 m.x.n, .slice m.KA m.x.keep.length m.Kc] 32)).cell? ⟨wr.heap.size, 1, none⟩ = some (.int .i64 m.x.at_)) := Lib.hid (cell_of_row _ _ _ _ _ _ (heap_alloc_new wr _))
      have G2 : Hid ((wr.alloc (.cells #[.int .i64 m.x.kind, .int .i64 m.x.at_, .slice m.A m.x.b.length m.c, .int .i64 m.x.n, .slice m.KA m.x.keep.length m.Kc] 32)).cell? ⟨wr.heap.size, 2, none⟩ = some (.slice m.A m.x.b.length m.c)) := Lib.hid (cell_of_row _ _ _ _ _ _ (heap_alloc_new wr _))
      have G3 : Hid ((wr.alloc (.cells #[.int .i64 m.x.kind, .int .i64 m.x.at_, .slice m.A m.x.b.length m.c, .int .i64 m.x.n, .slice m.KA m.x.keep.length m.Kc] 32)).cell? ⟨wr.heap.size, 3, none⟩ = some (.int .i64 m.x.n)) := Lib.hid (cell_of_row _ _ _ _ _ _ (heap_alloc_new wr _))
      have G4 : Hid ((wr.alloc (.cells #[.int .i64 m.x.kind, .int .i64 m.x.at_, .slice m.A m.x.b.length m.c, .int .i64 m.x.n, .slice m.KA m.x.keep.length m.Kc] 32)).cell? ⟨wr.heap.size, 4, none⟩ = some (.slice m.KA m.x.keep.length m.Kc)) := Lib.hid (cell_of_row _ _ _ _ _ _ (heap_alloc_new wr _))
      have glt : wr.heap.size < (wr.alloc (.cells #[.int .i64 m.x.kind, .int .i64 m.x.at_, .slice m.A m.x.b.length m.c, .int .i64 m.x.n, .slice m.KA m.x.keep.length m.Kc] 32)).heap.size := by simp
      have vz := WA.out.size
      obtain ⟨V, eV⟩ : ∃ V, V = wr.alloc (.cells #[.int .i64 m.x.kind, .int .i64 m.x.at_, .slice m.A m.x.b.length m.c, .int .i64 m.x.n, .slice m.KA m.x.keep.length m.Kc] 32) := ⟨_, rfl⟩
      rw [← eV] at WA VB T0 G0 G1 G2 G3 G4 glt vz
      have kinds : m.x.kind = 0 ∨ m.x.kind = 1 ∨ m.x.kind = 2 ∨ m.x.kind = 3 ∨ m.x.kind = 4 ∨ m.x.kind = 5 ∨ m.x.kind = 6 ∨ m.x.kind = 7 ∨ (m.x.kind ≠ 0 ∧ m.x.kind ≠ 1 ∧ m.x.kind ≠ 2 ∧ m.x.kind ≠ 3 ∧ m.x.kind ≠ 4 ∧ m.x.kind ≠ 5 ∧ m.x.kind ≠ 6 ∧ m.x.kind ≠ 7) := by omega
      rcases kinds with k | k | k | k | k | k | k | k | k
      · have e0 : (m.x.kind == 0) = true := by simp [k]
        clear k
        go_wp2_with fail
        rw [← eV]
        clear eV d0 d1 d2 d3 d4
        have T0d := Lib.hid (T0.out.keep (Below.refl V.heap.size V).drew)
        have VBd := Lib.hid VB.out.drew
        have kp0 : V.drew.cell? ⟨wr.heap.size, 1, none⟩ = some (.int .i64 m.x.at_) ∧ V.drew.cell? ⟨wr.heap.size, 2, none⟩ = some (.slice m.A m.x.b.length m.c) := ⟨G1.out, G2.out⟩
        go_region_held3 (fun u => u.cell? ⟨wr.heap.size, 1, none⟩ = some (.int .i64 m.x.at_) ∧ u.cell? ⟨wr.heap.size, 2, none⟩ = some (.slice m.A m.x.b.length m.c)) (assumption) (first | (go_at_call 11; (refine (cdWrite_c T0d.out.c.cd HF.out.ok HF.out.left (by have := HF.out.few; omega) (FI.out.1.1.below (Nat.le_refl _) VBd.out) (FI.out.1.1.far T0d.out.c.old VBd.out.size) rfl (by omega) FI.out.1.2 m.x.at_).mono ?_); intro e w5 hp; obtain ⟨rfl, G5, hs5⟩ := CdOk.step T0d.out.c VBd.out.size hp; have T5 := Lib.hid (T0d.out.code hs5); have B5 := Lib.hid (VBd.out.trans hs5.below); have kp5 : w5.cell? ⟨wr.heap.size, 1, none⟩ = some (.int .i64 m.x.at_) ∧ w5.cell? ⟨wr.heap.size, 2, none⟩ = some (.slice m.A m.x.b.length m.c) := ⟨hs5.cell glt GG.out G1.out, hs5.cell glt GG.out G2.out⟩; have z05 : V.heap.size ≤ w5.heap.size := hs5.but.size; clear hp hs5) | (go_at_call 12; (refine (refWrite_c T5.out.d.rd HF.out.ok HF.out.left (by have := HF.out.few; omega) (FI.out.1.1.below (Nat.le_refl _) B5.out) (FI.out.1.1.far T5.out.d.old B5.out.size) rfl m.x.at_).mono ?_); intro e w6 hp; obtain ⟨rfl, F6, hs6⟩ := DiskOk.step T5.out.d B5.out.size hp; have T6 := Lib.hid (T5.out.ref hs6); have B6 := Lib.hid (B5.out.trans hs6.below); have N6 := Lib.hid (HF.out.write m.x.at_ m.x.b); have kp6 : w6.cell? ⟨wr.heap.size, 1, none⟩ = some (.int .i64 m.x.at_) ∧ w6.cell? ⟨wr.heap.size, 2, none⟩ = some (.slice m.A m.x.b.length m.c) := ⟨hs6.cell (Nat.lt_of_lt_of_le glt z05) GF.out kp5.1, hs6.cell (Nat.lt_of_lt_of_le glt z05) GF.out kp5.2⟩; clear hp hs6))
        generalize Dk.write D m.x.at_ m.x.b = r at *
        obtain ⟨er, D2⟩ := r
        dsimp only at T6 N6 ⊢
        have ee : (er != er) = false := by simp
        obtain ⟨AS, AC, cS, cC, h3⟩ := T6.out.d.three
        have H3 := Lib.hid h3
        have bW0 : Below w6.heap.size w6 w6.drew := (Below.refl _ _).drew
        have S0 := h3 _ bW0
        clear h3
        have ed : ((D2).dead != (D2).dead) = false := by simp
        have ec : (((D2).cache.length : Int) != ((D2).cache.length : Int)) = false := by simp
        have es : (((D2).s.length : Int) != ((D2).s.length : Int)) = false := by simp
        go_wp2_with fail
        go_region_held3 (fun u => u.cell? ⟨p, 0, none⟩ = some (.slice AS (D2).s.length cS) ∧ u.cell? ⟨p, 1, none⟩ = some (.slice AC (D2).cache.length cC) ∧ u.cell? ⟨p, 4, none⟩ = some (.bool (D2).dead)) (exact H3.out _ (by assumption)) (first | (go_at_call 27; (refine (cdDead_c (T6.out.c.keep bW0).cd).mono ?_); rintro e u1 ⟨rfl, hb⟩; have bW1 := bW0.trans (hb.mono bW0.size); clear hb) | (go_at_call 28; (refine (cdCached_c (T6.out.c.keep bW1).cd).mono ?_); rintro e u2 ⟨rfl, hb⟩; have bW2 := bW1.trans (hb.mono bW1.size); clear hb) | (go_at_call 29; (refine (cdSize_c (T6.out.c.keep bW2).cd).mono ?_); rintro e u3 ⟨rfl, hb⟩; have bW3 := bW2.trans (hb.mono bW2.size); clear hb))
        go_wp2
        go_roundw
        case rel => exact ⟨j + 1, q, p, G5, F6, D2, by omega, by go_num, rfl, rfl, T6.out.keep bW3, N6.out, B6.out.trans (bW3.mono B6.out.size)⟩
        case measure => simp [intOf]; omega
      · have e0 : (m.x.kind == 0) = false := by simp; omega
        have e1 : (m.x.kind == 1) = true := by simp [k]
        clear k
        go_wp2_with fail
        rw [← eV]
        clear eV d0 d1 d2 d3 d4
        obtain ⟨bb, er, hr⟩ : ∃ bb er, Dk.read D m.x.at_ = (bb, er) := ⟨_, _, rfl⟩
        have HR := Lib.hid hr
        clear hr
        refine (cdRead_c T0.out.c.cd HF.out.ok (by have := HF.out.few; omega) m.x.at_).mono ?_
        rw [HR.out]
        rintro e w5 ⟨A5, n5, c5, rfl, hl5, _, ho5, hb5⟩
        subst hl5
        have T5 := Lib.hid (T0.out.keep hb5)
        have B5 := Lib.hid (VB.out.trans (hb5.mono VB.out.size))
        have W5 := Lib.hid ho5
        have z5 := B5.out.size
        have x1 := (hb5.cell (p := ⟨wr.heap.size, 1, none⟩) glt).trans G1.out
        clear hb5 ho5
        go_wp2_with fail
        refine (refRead_c T5.out.d.rd HF.out.ok (by have := HF.out.few; omega) m.x.at_).mono ?_
        rw [HR.out]
        rintro e w6 ⟨A6, n6, c6, rfl, hl6, _, ho6, hb6⟩
        subst hl6
        have T6 := Lib.hid (T5.out.keep hb6)
        have B6 := Lib.hid (B5.out.trans (hb6.mono z5))
        have g1 := conv_at (c := c5) (lies_own (B := 0) (own_below W5.out hb6)) rfl
        have g2 := conv_at (c := c6) (lies_own (B := 0) ho6) rfl
        have sb : (bb == bb) = true := by simp
        have sn : (bb != bb) = false := by simp
        have ee : (er != er) = false := by simp
        clear hb6 ho6
        obtain ⟨AS, AC, cS, cC, h3⟩ := T6.out.d.three
        have H3 := Lib.hid h3
        have bW0 : Below w6.heap.size w6 w6.drew := (Below.refl _ _).drew
        have S0 := h3 _ bW0
        clear h3
        have ed : ((D).dead != (D).dead) = false := by simp
        have ec : (((D).cache.length : Int) != ((D).cache.length : Int)) = false := by simp
        have es : (((D).s.length : Int) != ((D).s.length : Int)) = false := by simp
        go_wp2_with fail
        go_region_held3 (fun u => u.cell? ⟨p, 0, none⟩ = some (.slice AS (D).s.length cS) ∧ u.cell? ⟨p, 1, none⟩ = some (.slice AC (D).cache.length cC) ∧ u.cell? ⟨p, 4, none⟩ = some (.bool (D).dead)) (exact H3.out _ (by assumption)) (first | (go_at_call 27; (refine (cdDead_c (T6.out.c.keep bW0).cd).mono ?_); rintro e u1 ⟨rfl, hb⟩; have bW1 := bW0.trans (hb.mono bW0.size); clear hb) | (go_at_call 28; (refine (cdCached_c (T6.out.c.keep bW1).cd).mono ?_); rintro e u2 ⟨rfl, hb⟩; have bW2 := bW1.trans (hb.mono bW1.size); clear hb) | (go_at_call 29; (refine (cdSize_c (T6.out.c.keep bW2).cd).mono ?_); rintro e u3 ⟨rfl, hb⟩; have bW3 := bW2.trans (hb.mono bW2.size); clear hb))
        go_wp2
        go_roundw
        case rel => exact ⟨j + 1, q, p, G, F, D, by omega, by go_num, rfl, rfl, T6.out.keep bW3, HF.out.next, B6.out.trans (bW3.mono B6.out.size)⟩
        case measure => simp [intOf]; omega
      · have e0 : (m.x.kind == 0) = false := by simp; omega
        have e1 : (m.x.kind == 1) = false := by simp; omega
        have e2 : (m.x.kind == 2) = true := by simp [k]
        clear k
        go_wp2_with fail
        rw [← eV]
        clear eV d0 d1 d2 d3 d4
        refine (cdFlush_c T0.out.c.cd HF.out.ok HF.out.left (by have := HF.out.few; omega)).mono ?_
        intro e w5 hp
        obtain ⟨rfl, G5, hs5⟩ := CdOk.step T0.out.c VB.out.size hp
        have T5 := Lib.hid (T0.out.code hs5)
        have B5 := Lib.hid (VB.out.trans hs5.below)
        have z5 := B5.out.size
        clear hp hs5
        go_wp2_with fail
        refine (refFlush_c T5.out.d.rd HF.out.ok HF.out.left (by have := HF.out.few; omega)).mono ?_
        intro e w6 hp
        obtain ⟨rfl, F6, hs6⟩ := DiskOk.step T5.out.d z5 hp
        have T6 := Lib.hid (T5.out.ref hs6)
        have B6 := Lib.hid (B5.out.trans hs6.below)
        have N6 := Lib.hid (HF.out.flush)
        clear hp hs6
        generalize Dk.flush D = r at *
        obtain ⟨er, D2⟩ := r
        dsimp only at T6 N6 ⊢
        have ee : (er != er) = false := by simp
        obtain ⟨AS, AC, cS, cC, h3⟩ := T6.out.d.three
        have H3 := Lib.hid h3
        have bW0 : Below w6.heap.size w6 w6.drew := (Below.refl _ _).drew
        have S0 := h3 _ bW0
        clear h3
        have ed : ((D2).dead != (D2).dead) = false := by simp
        have ec : (((D2).cache.length : Int) != ((D2).cache.length : Int)) = false := by simp
        have es : (((D2).s.length : Int) != ((D2).s.length : Int)) = false := by simp
        go_wp2_with fail
        go_region_held3 (fun u => u.cell? ⟨p, 0, none⟩ = some (.slice AS (D2).s.length cS) ∧ u.cell? ⟨p, 1, none⟩ = some (.slice AC (D2).cache.length cC) ∧ u.cell? ⟨p, 4, none⟩ = some (.bool (D2).dead)) (exact H3.out _ (by assumption)) (first | (go_at_call 27; (refine (cdDead_c (T6.out.c.keep bW0).cd).mono ?_); rintro e u1 ⟨rfl, hb⟩; have bW1 := bW0.trans (hb.mono bW0.size); clear hb) | (go_at_call 28; (refine (cdCached_c (T6.out.c.keep bW1).cd).mono ?_); rintro e u2 ⟨rfl, hb⟩; have bW2 := bW1.trans (hb.mono bW1.size); clear hb) | (go_at_call 29; (refine (cdSize_c (T6.out.c.keep bW2).cd).mono ?_); rintro e u3 ⟨rfl, hb⟩; have bW3 := bW2.trans (hb.mono bW2.size); clear hb))
        go_wp2
        go_roundw
        case rel => exact ⟨j + 1, q, p, G5, F6, D2, by omega, by go_num, rfl, rfl, T6.out.keep bW3, N6.out, B6.out.trans (bW3.mono B6.out.size)⟩
        case measure => simp [intOf]; omega
      · have e0 : (m.x.kind == 0) = false := by simp; omega
        have e1 : (m.x.kind == 1) = false := by simp; omega
        have e2 : (m.x.kind == 2) = false := by simp; omega
        have e3 : (m.x.kind == 3) = true := by simp [k]
        clear k
        go_wp2_with fail
        rw [← eV]
        clear eV d0 d1 d2 d3 d4
        refine (cdArm_c T0.out.c.cd m.x.n).mono ?_
        intro e w5 hp
        obtain ⟨rfl, G5, hs5⟩ := CdOk0.step T0.out.c VB.out.size hp
        have T5 := Lib.hid (T0.out.code hs5)
        have B5 := Lib.hid (VB.out.trans hs5.below)
        have z5 := B5.out.size
        have x3 := hs5.cell glt GG.out G3.out
        clear hp hs5
        go_wp2_with fail
        refine (refArm_c T5.out.d.rd m.x.n).mono ?_
        intro e w6 hp
        obtain ⟨rfl, F6, hs6⟩ := DiskOk0.step T5.out.d z5 hp
        have T6 := Lib.hid (T5.out.ref hs6)
        have B6 := Lib.hid (B5.out.trans hs6.below)
        have N6 := Lib.hid (HF.out.arm (n := m.x.n) (by have := XO.out.2.2.2; omega))
        clear hp hs6
        generalize Dk.arm D m.x.n = D2 at *
        obtain ⟨AS, AC, cS, cC, h3⟩ := T6.out.d.three
        have H3 := Lib.hid h3
        have bW0 : Below w6.heap.size w6 w6.drew := (Below.refl _ _).drew
        have S0 := h3 _ bW0
        clear h3
        have ed : ((D2).dead != (D2).dead) = false := by simp
        have ec : (((D2).cache.length : Int) != ((D2).cache.length : Int)) = false := by simp
        have es : (((D2).s.length : Int) != ((D2).s.length : Int)) = false := by simp
        go_wp2_with fail
        go_region_held3 (fun u => u.cell? ⟨p, 0, none⟩ = some (.slice AS (D2).s.length cS) ∧ u.cell? ⟨p, 1, none⟩ = some (.slice AC (D2).cache.length cC) ∧ u.cell? ⟨p, 4, none⟩ = some (.bool (D2).dead)) (exact H3.out _ (by assumption)) (first | (go_at_call 27; (refine (cdDead_c (T6.out.c.keep bW0).cd).mono ?_); rintro e u1 ⟨rfl, hb⟩; have bW1 := bW0.trans (hb.mono bW0.size); clear hb) | (go_at_call 28; (refine (cdCached_c (T6.out.c.keep bW1).cd).mono ?_); rintro e u2 ⟨rfl, hb⟩; have bW2 := bW1.trans (hb.mono bW1.size); clear hb) | (go_at_call 29; (refine (cdSize_c (T6.out.c.keep bW2).cd).mono ?_); rintro e u3 ⟨rfl, hb⟩; have bW3 := bW2.trans (hb.mono bW2.size); clear hb))
        go_wp2
        go_roundw
        case rel => exact ⟨j + 1, q, p, G5, F6, D2, by omega, by go_num, rfl, rfl, T6.out.keep bW3, N6.out, B6.out.trans (bW3.mono B6.out.size)⟩
        case measure => simp [intOf]; omega
      · have e0 : (m.x.kind == 0) = false := by simp; omega
        have e1 : (m.x.kind == 1) = false := by simp; omega
        have e2 : (m.x.kind == 2) = false := by simp; omega
        have e3 : (m.x.kind == 3) = false := by simp; omega
        have e4 : (m.x.kind == 4) = true := by simp [k]
        clear k
        go_wp2_with fail
        rw [← eV]
        clear eV d0 d1 d2 d3 d4
        refine (cdCrash_c (ks := m.x.keep) T0.out.c.cd HF.out.ok (by have := HF.out.few; omega) (FI.out.2.1.below (Nat.le_refl _) VB.out) (FI.out.2.1.far T0.out.c.old VB.out.size) rfl (by omega) FI.out.2.2).mono ?_
        intro e w5 hp
        obtain ⟨rfl, G5, hs5⟩ := CdOk0.step T0.out.c VB.out.size hp
        have T5 := Lib.hid (T0.out.code hs5)
        have B5 := Lib.hid (VB.out.trans hs5.below)
        have z5 := B5.out.size
        have x4 := hs5.cell glt GG.out G4.out
        clear hp hs5
        go_wp2_with fail
        refine (refCrash_c (ks := m.x.keep) T5.out.d.rd HF.out.ok (by have := HF.out.few; omega) (FI.out.2.1.below (Nat.le_refl _) B5.out) (FI.out.2.1.far T5.out.d.old B5.out.size) rfl (by omega)).mono ?_
        intro e w6 hp
        obtain ⟨rfl, F6, hs6⟩ := DiskOk0.step T5.out.d z5 hp
        have T6 := Lib.hid (T5.out.ref hs6)
        have B6 := Lib.hid (B5.out.trans hs6.below)
        have N6 := Lib.hid (HF.out.crash m.x.keep)
        clear hp hs6
        generalize Dk.crash D m.x.keep = D2 at *
        obtain ⟨AS, AC, cS, cC, h3⟩ := T6.out.d.three
        have H3 := Lib.hid h3
        have bW0 : Below w6.heap.size w6 w6.drew := (Below.refl _ _).drew
        have S0 := h3 _ bW0
        clear h3
        have ed : ((D2).dead != (D2).dead) = false := by simp
        have ec : (((D2).cache.length : Int) != ((D2).cache.length : Int)) = false := by simp
        have es : (((D2).s.length : Int) != ((D2).s.length : Int)) = false := by simp
        go_wp2_with fail
        go_region_held3 (fun u => u.cell? ⟨p, 0, none⟩ = some (.slice AS (D2).s.length cS) ∧ u.cell? ⟨p, 1, none⟩ = some (.slice AC (D2).cache.length cC) ∧ u.cell? ⟨p, 4, none⟩ = some (.bool (D2).dead)) (exact H3.out _ (by assumption)) (first | (go_at_call 27; (refine (cdDead_c (T6.out.c.keep bW0).cd).mono ?_); rintro e u1 ⟨rfl, hb⟩; have bW1 := bW0.trans (hb.mono bW0.size); clear hb) | (go_at_call 28; (refine (cdCached_c (T6.out.c.keep bW1).cd).mono ?_); rintro e u2 ⟨rfl, hb⟩; have bW2 := bW1.trans (hb.mono bW1.size); clear hb) | (go_at_call 29; (refine (cdSize_c (T6.out.c.keep bW2).cd).mono ?_); rintro e u3 ⟨rfl, hb⟩; have bW3 := bW2.trans (hb.mono bW2.size); clear hb))
        go_wp2
        go_roundw
        case rel => exact ⟨j + 1, q, p, G5, F6, D2, by omega, by go_num, rfl, rfl, T6.out.keep bW3, N6.out, B6.out.trans (bW3.mono B6.out.size)⟩
        case measure => simp [intOf]; omega
      · have e0 : (m.x.kind == 0) = false := by simp; omega
        have e1 : (m.x.kind == 1) = false := by simp; omega
        have e2 : (m.x.kind == 2) = false := by simp; omega
        have e3 : (m.x.kind == 3) = false := by simp; omega
        have e4 : (m.x.kind == 4) = false := by simp; omega
        have e5 : (m.x.kind == 5) = true := by simp [k]
        clear k
        go_wp2_with fail
        rw [← eV]
        clear eV d0 d1 d2 d3 d4
        refine (cdFault_c T0.out.c.cd HF.out.ok m.x.at_ (m.x.n != 0)).mono ?_
        intro e w5 hp
        obtain ⟨rfl, G5, hs5⟩ := CdOk0.step T0.out.c VB.out.size hp
        have T5 := Lib.hid (T0.out.code hs5)
        have B5 := Lib.hid (VB.out.trans hs5.below)
        have z5 := B5.out.size
        have x1 := hs5.cell glt GG.out G1.out
        have x3 := hs5.cell glt GG.out G3.out
        clear hp hs5
        go_wp2_with fail
        refine (refFault_c T5.out.d.rd HF.out.ok m.x.at_ (m.x.n != 0)).mono ?_
        intro e w6 hp
        obtain ⟨rfl, F6, hs6⟩ := DiskOk0.step T5.out.d z5 hp
        have T6 := Lib.hid (T5.out.ref hs6)
        have B6 := Lib.hid (B5.out.trans hs6.below)
        have N6 := Lib.hid (HF.out.fault m.x.at_ (m.x.n != 0))
        clear hp hs6
        generalize Dk.fault D m.x.at_ (m.x.n != 0) = D2 at *
        obtain ⟨AS, AC, cS, cC, h3⟩ := T6.out.d.three
        have H3 := Lib.hid h3
        have bW0 : Below w6.heap.size w6 w6.drew := (Below.refl _ _).drew
        have S0 := h3 _ bW0
        clear h3
        have ed : ((D2).dead != (D2).dead) = false := by simp
        have ec : (((D2).cache.length : Int) != ((D2).cache.length : Int)) = false := by simp
        have es : (((D2).s.length : Int) != ((D2).s.length : Int)) = false := by simp
        go_wp2_with fail
        go_region_held3 (fun u => u.cell? ⟨p, 0, none⟩ = some (.slice AS (D2).s.length cS) ∧ u.cell? ⟨p, 1, none⟩ = some (.slice AC (D2).cache.length cC) ∧ u.cell? ⟨p, 4, none⟩ = some (.bool (D2).dead)) (exact H3.out _ (by assumption)) (first | (go_at_call 27; (refine (cdDead_c (T6.out.c.keep bW0).cd).mono ?_); rintro e u1 ⟨rfl, hb⟩; have bW1 := bW0.trans (hb.mono bW0.size); clear hb) | (go_at_call 28; (refine (cdCached_c (T6.out.c.keep bW1).cd).mono ?_); rintro e u2 ⟨rfl, hb⟩; have bW2 := bW1.trans (hb.mono bW1.size); clear hb) | (go_at_call 29; (refine (cdSize_c (T6.out.c.keep bW2).cd).mono ?_); rintro e u3 ⟨rfl, hb⟩; have bW3 := bW2.trans (hb.mono bW2.size); clear hb))
        go_wp2
        go_roundw
        case rel => exact ⟨j + 1, q, p, G5, F6, D2, by omega, by go_num, rfl, rfl, T6.out.keep bW3, N6.out, B6.out.trans (bW3.mono B6.out.size)⟩
        case measure => simp [intOf]; omega
      · have e0 : (m.x.kind == 0) = false := by simp; omega
        have e1 : (m.x.kind == 1) = false := by simp; omega
        have e2 : (m.x.kind == 2) = false := by simp; omega
        have e3 : (m.x.kind == 3) = false := by simp; omega
        have e4 : (m.x.kind == 4) = false := by simp; omega
        have e5 : (m.x.kind == 5) = false := by simp; omega
        have e6 : (m.x.kind == 6) = true := by simp [k]
        clear k
        go_wp2_with fail
        rw [← eV]
        clear eV d0 d1 d2 d3 d4
        refine (cdWipe_c T0.out.c.cd HF.out.ok).mono ?_
        intro e w5 hp
        obtain ⟨rfl, G5, hs5⟩ := CdOk0.step T0.out.c VB.out.size hp
        have T5 := Lib.hid (T0.out.code hs5)
        have B5 := Lib.hid (VB.out.trans hs5.below)
        have z5 := B5.out.size
        clear hp hs5
        go_wp2_with fail
        refine (refWipe_c T5.out.d.rd HF.out.ok).mono ?_
        intro e w6 hp
        obtain ⟨rfl, F6, hs6⟩ := DiskOk0.step T5.out.d z5 hp
        have T6 := Lib.hid (T5.out.ref hs6)
        have B6 := Lib.hid (B5.out.trans hs6.below)
        have N6 := Lib.hid (HF.out.wipe)
        clear hp hs6
        generalize Dk.wipe D = D2 at *
        obtain ⟨AS, AC, cS, cC, h3⟩ := T6.out.d.three
        have H3 := Lib.hid h3
        have bW0 : Below w6.heap.size w6 w6.drew := (Below.refl _ _).drew
        have S0 := h3 _ bW0
        clear h3
        have ed : ((D2).dead != (D2).dead) = false := by simp
        have ec : (((D2).cache.length : Int) != ((D2).cache.length : Int)) = false := by simp
        have es : (((D2).s.length : Int) != ((D2).s.length : Int)) = false := by simp
        go_wp2_with fail
        go_region_held3 (fun u => u.cell? ⟨p, 0, none⟩ = some (.slice AS (D2).s.length cS) ∧ u.cell? ⟨p, 1, none⟩ = some (.slice AC (D2).cache.length cC) ∧ u.cell? ⟨p, 4, none⟩ = some (.bool (D2).dead)) (exact H3.out _ (by assumption)) (first | (go_at_call 27; (refine (cdDead_c (T6.out.c.keep bW0).cd).mono ?_); rintro e u1 ⟨rfl, hb⟩; have bW1 := bW0.trans (hb.mono bW0.size); clear hb) | (go_at_call 28; (refine (cdCached_c (T6.out.c.keep bW1).cd).mono ?_); rintro e u2 ⟨rfl, hb⟩; have bW2 := bW1.trans (hb.mono bW1.size); clear hb) | (go_at_call 29; (refine (cdSize_c (T6.out.c.keep bW2).cd).mono ?_); rintro e u3 ⟨rfl, hb⟩; have bW3 := bW2.trans (hb.mono bW2.size); clear hb))
        go_wp2
        go_roundw
        case rel => exact ⟨j + 1, q, p, G5, F6, D2, by omega, by go_num, rfl, rfl, T6.out.keep bW3, N6.out, B6.out.trans (bW3.mono B6.out.size)⟩
        case measure => simp [intOf]; omega
      · have e0 : (m.x.kind == 0) = false := by simp; omega
        have e1 : (m.x.kind == 1) = false := by simp; omega
        have e2 : (m.x.kind == 2) = false := by simp; omega
        have e3 : (m.x.kind == 3) = false := by simp; omega
        have e4 : (m.x.kind == 4) = false := by simp; omega
        have e5 : (m.x.kind == 5) = false := by simp; omega
        have e6 : (m.x.kind == 6) = false := by simp; omega
        have e7 : (m.x.kind == 7) = true := by simp [k]
        clear k
        go_wp2_with fail
        rw [← eV]
        clear eV d0 d1 d2 d3 d4
        refine (cdClone_c T0.out.c.cd HF.out.ok).mono ?_
        intro e w5 hp
        obtain ⟨q5, G5, rfl, hs5, hn5, hb5⟩ := CNewOk.step VB.out.size hp
        have T5 := Lib.hid (T0.out.codeNew hs5 hn5 hb5)
        have B5 := Lib.hid (VB.out.trans (hb5.mono VB.out.size))
        have z5 := B5.out.size
        clear hp hs5 hn5 hb5
        go_wp2_with fail
        refine (refClone_c T5.out.d.rd HF.out.ok).mono ?_
        intro e w6 hp
        obtain ⟨p6, F6, rfl, hs6, hn6, hb6⟩ := NewOk.step z5 hp
        have T6 := Lib.hid (T5.out.refNew hs6 hn6 hb6)
        have B6 := Lib.hid (B5.out.trans (hb6.mono z5))
        have N6 := Lib.hid HF.out.clone
        clear hp hs6 hn6 hb6
        generalize Dk.clone D = D2 at *
        obtain ⟨AS, AC, cS, cC, h3⟩ := T6.out.d.three
        have H3 := Lib.hid h3
        have bW0 : Below w6.heap.size w6 w6.drew := (Below.refl _ _).drew
        have S0 := h3 _ bW0
        clear h3
        have ed : ((D2).dead != (D2).dead) = false := by simp
        have ec : (((D2).cache.length : Int) != ((D2).cache.length : Int)) = false := by simp
        have es : (((D2).s.length : Int) != ((D2).s.length : Int)) = false := by simp
        go_wp2_with fail
        go_region_held3 (fun u => u.cell? ⟨p6, 0, none⟩ = some (.slice AS (D2).s.length cS) ∧ u.cell? ⟨p6, 1, none⟩ = some (.slice AC (D2).cache.length cC) ∧ u.cell? ⟨p6, 4, none⟩ = some (.bool (D2).dead)) (exact H3.out _ (by assumption)) (first | (go_at_call 27; (refine (cdDead_c (T6.out.c.keep bW0).cd).mono ?_); rintro e u1 ⟨rfl, hb⟩; have bW1 := bW0.trans (hb.mono bW0.size); clear hb) | (go_at_call 28; (refine (cdCached_c (T6.out.c.keep bW1).cd).mono ?_); rintro e u2 ⟨rfl, hb⟩; have bW2 := bW1.trans (hb.mono bW1.size); clear hb) | (go_at_call 29; (refine (cdSize_c (T6.out.c.keep bW2).cd).mono ?_); rintro e u3 ⟨rfl, hb⟩; have bW3 := bW2.trans (hb.mono bW2.size); clear hb))
        go_wp2
        go_roundw
        case rel => exact ⟨j + 1, q5, p6, G5, F6, D2, by omega, by go_num, rfl, rfl, T6.out.keep bW3, N6.out, B6.out.trans (bW3.mono B6.out.size)⟩
        case measure => simp [intOf]; omega
      · have e0 : (m.x.kind == 0) = false := by simp; omega
        have e1 : (m.x.kind == 1) = false := by simp; omega
        have e2 : (m.x.kind == 2) = false := by simp; omega
        have e3 : (m.x.kind == 3) = false := by simp; omega
        have e4 : (m.x.kind == 4) = false := by simp; omega
        have e5 : (m.x.kind == 5) = false := by simp; omega
        have e6 : (m.x.kind == 6) = false := by simp; omega
        have e7 : (m.x.kind == 7) = false := by simp; omega
        clear k
        go_wp2_with fail
        rw [← eV]
        clear eV d0 d1 d2 d3 d4
        obtain ⟨AS, AC, cS, cC, h3⟩ := T0.out.d.three
        have H3 := Lib.hid h3
        have bW0 : Below V.heap.size V V.drew := (Below.refl _ _).drew
        have S0 := h3 _ bW0
        clear h3
        have ed : ((D).dead != (D).dead) = false := by simp
        have ec : (((D).cache.length : Int) != ((D).cache.length : Int)) = false := by simp
        have es : (((D).s.length : Int) != ((D).s.length : Int)) = false := by simp
        go_wp2_with fail
        go_region_held3 (fun u => u.cell? ⟨p, 0, none⟩ = some (.slice AS (D).s.length cS) ∧ u.cell? ⟨p, 1, none⟩ = some (.slice AC (D).cache.length cC) ∧ u.cell? ⟨p, 4, none⟩ = some (.bool (D).dead)) (exact H3.out _ (by assumption)) (first | (go_at_call 27; (refine (cdDead_c (T0.out.c.keep bW0).cd).mono ?_); rintro e u1 ⟨rfl, hb⟩; have bW1 := bW0.trans (hb.mono bW0.size); clear hb) | (go_at_call 28; (refine (cdCached_c (T0.out.c.keep bW1).cd).mono ?_); rintro e u2 ⟨rfl, hb⟩; have bW2 := bW1.trans (hb.mono bW1.size); clear hb) | (go_at_call 29; (refine (cdSize_c (T0.out.c.keep bW2).cd).mono ?_); rintro e u3 ⟨rfl, hb⟩; have bW3 := bW2.trans (hb.mono bW2.size); clear hb))
        go_wp2
        go_roundw
        case rel => exact ⟨j + 1, q, p, G, F, D, by omega, by go_num, rfl, rfl, T0.out.keep bW3, HF.out.next, VB.out.trans (bW3.mono VB.out.size)⟩
        case measure => simp [intOf]; omega
    · obtain rfl : j = l1.length := by omega
      obtain ⟨AS, AC, cS, cC, h3⟩ := HT.out.d.three
      have c0 := (h3 _ (Below.refl _ _)).1
      have n4096 := HF.out.ok.few
      have cfew := HF.out.few
      clear h3
      go_wp2_with fail
      go_loopw [170] (fun i u => ∃ k : Nat, k ≤ D.s.length ∧ i = .int .i64 k ∧ Below wr.heap.size wr u) (fun i _ => D.s.length - (intOf i).toNat)
      case atStart => exact ⟨0, Nat.zero_le _, rfl, Below.refl _ _⟩
      case round =>
        obtain ⟨k, hk, rfl, hb⟩ := hrel
        have BR := Lib.hid hb
        have TR := Lib.hid (HT.out.keep hb)
        have zr := hb.size
        clear hb
        by_cases hlt2 : k < D.s.length
        · obtain ⟨bb, er, hr⟩ : ∃ bb er, Dk.read D (k : Int) = (bb, er) := ⟨_, _, rfl⟩
          have HR := Lib.hid hr
          clear hr
          go_wp2_with fail
          refine (cdRead_c TR.out.c.cd HF.out.ok (by omega) k).mono ?_
          rw [HR.out]
          rintro e w5 ⟨A5, n5, c5, rfl, hl5, _, ho5, hb5⟩
          subst hl5
          have T5 := Lib.hid (TR.out.keep hb5)
          have B5 := Lib.hid (BR.out.trans (hb5.mono zr))
          have W5 := Lib.hid ho5
          have z5 := B5.out.size
          clear hb5 ho5
          go_wp2_with fail
          refine (refRead_c T5.out.d.rd HF.out.ok (by omega) k).mono ?_
          rw [HR.out]
          rintro e w6 ⟨A6, n6, c6, rfl, hl6, _, ho6, hb6⟩
          subst hl6
          have B6 := Lib.hid (B5.out.trans (hb6.mono z5))
          have g1 := conv_at (c := c5) (lies_own (B := 0) (own_below W5.out hb6)) rfl
          have g2 := conv_at (c := c6) (lies_own (B := 0) ho6) rfl
          have sb : (bb == bb) = true := by simp
          have sn : (bb != bb) = false := by simp
          have ee : (er != er) = false := by simp
          clear hb6 ho6
          go_wp2
          go_roundw
          case rel => exact ⟨k + 1, by omega, by go_num, B6.out⟩
          case measure => simp [intOf]; omega
        · obtain rfl : k = D.s.length := by omega
          go_wp2
          go_ret
          exact ⟨rfl, HB.out.trans (BR.out.mono hz)⟩
end Go.Proofs.Ytogobeinckgjmaa
