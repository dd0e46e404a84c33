/- Stage 8: the document's Unrecord. Stage 8: the document's Record. -/
import Derived.Test.YtpnfpeeijghamaaGreatEo
import Derived.Test.YtpnfpeeijghamaaGreatRr
import Derived.Test.YtpnfpeeijghamaaGreatEb
import Derived.Test.YtpnfpeeijghamaaGreatCw
import Derived.Deep.RegionHeld3
namespace Go.Proofs.YtpnfpeeijghamaaGreat
set_option maxRecDepth 100000

section
open Go.RowKit

theorem lOf_none {b : List UInt8} {k : Nat} (h : (St.lOf b k).2 = none) : ∀ j, (St.lOf b (k + j)).2 = none
  | 0 => h
  | j + 1 => by
    rw [← Nat.add_assoc, lOf_succ]
    dsimp only
    rw [lOf_none h j]
    rfl

set_option maxHeartbeats 4000000 in
set_option maxRecDepth 100000 in
theorem unrecord_c {A : Option Addr} {n c : Nat} {b : List UInt8} {w : World} {B : Nat} {tb : TypeId} (hL : Lies w B tb A (bcells b)) (_hB : B ≤ w.heap.size) (hn : n = b.length) (hc : b.length ≤ c) (hs : b.length ≤ 1099511627776) :
    Calls Tryz.prog 9 #[.slice A n c] w (RcOk b w) := by
  have HL := Lib.hid (hL.old (t' := 0))
  clear hL _hB
  subst hn
  obtain ⟨i0, hi, iz0, iz1, iz2⟩ := info_parts Tryz.infoPut
  have LB := Lib.hid (fun k => (lOf_shr b k).bound (n := 1099511627776) (fun l e => by injection e with e; subst e; exact hs))
  have LG : Hid (∀ l, (Cd.rdG (some b)).2 = some l → l.length ≤ 1099511627776) := Lib.hid ((St.shr_G (some b)).bound (fun l e => by injection e with e; subst e; exact hs))
  have hs' := hs
  clear hs'
  obtain ⟨N, hN⟩ : ∃ N, N = St.nOf b := ⟨_, rfl⟩
  have NL : Hid (N ≤ 4096) := Lib.hid (by rw [hN]; exact nOf_le b)
  have HN := Lib.hid hN
  clear hN
  have hr0 : RS 67 w.heap.size 0 (w.alloc (.cells #[.slice A b.length c, .bool false] 67)) w.heap.size (some b) := ⟨Nat.le_refl _, A, c, hc, heap_alloc_new w _, HL.out.alloc (Nat.le_refl _) _⟩
  have HR0 := Lib.hid hr0
  have HB0 := Lib.hid ((Below.refl w.heap.size w).alloc (Nat.le_refl _) (.cells #[.slice A b.length c, .bool false] 67))
  clear hr0 hc
  go_enter Tryz.func9, Tryz.ntmps9
  go_wp2_with fail
  refine (rG_rr HR0.out (by decide) (fun l e => by injection e with e; subst e; exact hs)).mono ?_
  rintro e w1 ⟨rfl, hr1, t1⟩
  have HR1 := Lib.hid hr1
  have HB1 := Lib.hid (HB0.out.trans t1.below)
  clear hr1 t1 hs
  go_wp2_with fail
  refine (rN_rr (mz := 4096) HR1.out (by decide) LG.out (by omega)).mono ?_
  rintro e w2 ⟨rfl, hr2, t2⟩
  have e4 : (4096 : Int).toNat = 4096 := rfl
  rw [e4] at hr2
  have HR2 : Hid (RS 67 w.heap.size 0 w2 w.heap.size (St.lOf b 0).2) := hr2
  have HB2 := Lib.hid (HB1.out.trans t2.below)
  have ex : ((Cd.rdN (4096 : Int).toNat (Cd.rdG (some b)).2).1 : Int) = (N : Int) := by rw [e4, HN.out]; rfl
  rw [ex]
  clear hr2 t2 ex e4
  go_wp2_with fail
  go_loopw [8, 9, 2, 3, 4] (fun l i r2 r3 r4 wr => ∃ (k : Nat) (A1 : Option Addr) (n1 c1 : Nat) (ms : List MPu), k ≤ N ∧ r2 = .bool false ∧ r3 = .slice none 0 0 ∧ r4 = .int .i64 0 ∧ i = .int .u64 (k : Int) ∧ l = .slice A1 n1 c1 ∧ wr.ownsRow w.heap.size 33 3 (.slice A1 n1 c1) ms.length (pcells ms) ∧
      (∀ m ∈ ms, wr.ownsRow w.heap.size 5 1 (.slice m.A m.p.v.length m.c) m.p.v.length (bcells m.p.v)) ∧ pus ms = (St.lOf b k).1 ∧ (pus ms).any St.bad = false ∧ RS 67 w.heap.size 0 wr w.heap.size (St.lOf b k).2 ∧ Below w.heap.size w wr)
    (fun _ i _ _ _ _ => N - (intOf i).toNat)
  case atStart => exact ⟨0, none, 0, 0, [], Nat.zero_le _, rfl, rfl, rfl, rfl, rfl, World.ownsRow_nil _ _ _ _, by simp, rfl, rfl, HR2.out, HB2.out⟩
  case round =>
    obtain ⟨k, A1, n1, c1, ms, hk, rfl, rfl, rfl, rfl, rfl, ho, hall, hp, hnb, hr, hb⟩ := hrel
    obtain ⟨rfl, _⟩ := own_room ho
    have hml : ms.length = k := by
      have := congrArg List.length hp
      rw [lOf_len, pus_len] at this
      exact this
    have ML := Lib.hid hml
    have HO := Lib.hid ho
    have HA := Lib.hid hall
    have HP := Lib.hid hp
    have HNB := Lib.hid hnb
    have HR := Lib.hid hr
    have HB := Lib.hid hb
    have hbs := hb.size
    clear ho hall hp hnb hr hb hml
    by_cases hlt : k < N
    · obtain ⟨s0, hs0⟩ : ∃ s0, (St.lOf b k).2 = s0 := ⟨_, rfl⟩
      have LS := Lib.hid (LB.out k)
      rw [hs0] at HR LS
      obtain ⟨kb, s1, e1⟩ : ∃ kb s1, Cd.rdB 60000 s0 = (kb, s1) := ⟨_, _, rfl⟩
      obtain ⟨g, s2, e2⟩ : ∃ g s2, Cd.rdG s1 = (g, s2) := ⟨_, _, rfl⟩
      obtain ⟨vb, s3, e3⟩ : ∃ vb s3, Cd.rdB 60000 s2 = (vb, s3) := ⟨_, _, rfl⟩
      have L1 := Lib.hid ((St.shr_B 60000 s0).bound LS.out)
      have L2 := Lib.hid (((St.shr_B 60000 s0).trans (St.shr_G _)).bound LS.out)
      have hx : St.rdP1 (St.lOf b k).2 = (⟨kb, vb, g⟩, s3) := by rw [hs0]; unfold St.rdP1; rw [e1]; dsimp only; rw [e2]; dsimp only; rw [e3]
      rw [e1] at L1 L2
      dsimp only at L1 L2
      rw [e2] at L2
      dsimp only at L2
      have HX := Lib.hid hx
      have E1 := Lib.hid e1
      have E2 := Lib.hid e2
      have E3 := Lib.hid e3
      have hlti : (k : Int) < (N : Int) := by omega
      have HS0 := Lib.hid hs0
      clear hx e1 e2 e3 hs0
      by_cases hsn : s0 = none
      · have BAD := Lib.hid (stOf_bad (b := b) (.inr (by
          have z := lOf_none (HS0.out.trans hsn) (N - k)
          rw [show k + (N - k) = N by omega] at z
          rw [← HN.out, z]
          simp)))
        have er : Hid (endOf s0 = 20) := Lib.hid (by rw [hsn]; rfl)
        have bb := bad_of HR.out
        rw [hsn, Option.isNone_none] at bb
        clear hsn
        go_wp2_with fail
        refine (end_rr HR.out).mono ?_
        rw [er.out]
        rintro e w9 ⟨rfl, rfl⟩
        go_wp2
        refine bodyPost_ret (results_tmp3 rfl _ _ _) rfl ?_
        exact RcOk.bad BAD.out HB.out
      have bb := bad_of HR.out
      rw [show s0.isNone = false by cases s0 with | none => exact absurd rfl hsn | some l => rfl] at bb
      clear hsn
      go_wp2_with fail
      have q1 := rB_rr (mz := 60000) HR.out (by decide) LS.out (by omega) (by omega)
      rw [show (60000 : Int).toNat = 60000 from rfl, E1.out] at q1
      refine q1.mono ?_
      clear q1
      rintro e w4 ⟨A4, n4, c4, rfl, ho4, hr4, t4⟩
      obtain ⟨rfl, hc4⟩ := own_room ho4
      have hcv := conv_at (c := c4) (lies_own (B := 0) ho4) rfl
      have HR4 := Lib.hid hr4
      have T4 := Lib.hid t4
      have z4 := t4.size
      clear ho4 hr4 t4
      have hp0 : (w4.alloc (.cells #[.string (str kb), .slice none 0 0, .bool false] 33)).heap[w4.heap.size]? = some (.cells #[.string (str kb), .slice none 0 0, .bool false] 33 (0, 0)) := heap_alloc_new w4 _
      have P4 := Lib.hid hp0
      have R4 := Lib.hid (HR4.out.alloc (.cells #[.string (str kb), .slice none 0 0, .bool false] 33))
      clear hp0
      go_wp2_with fail
      have q2 := rG_rr R4.out (by decide) L1.out
      rw [E2.out] at q2
      refine q2.mono ?_
      clear q2
      rintro e w5 ⟨rfl, hr5, t5⟩
      have pb5 := t5.blk P4.out (by decide)
      obtain ⟨c50, c51, c52⟩ := three_cells pb5
      have f52 := blk_free pb5 2
      have P5 := Lib.hid pb5
      have HR5 := Lib.hid hr5
      have T5 := Lib.hid t5
      have z5 := t5.size
      clear hr5 t5 pb5 hcv
      have pb6 : (w5.setCell ⟨w4.heap.size, 2, none⟩ (.bool g)).heap[w4.heap.size]? = some (.cells #[.string (str kb), .slice none 0 0, .bool g] 33 (0, 0)) := (blk_set P5.out 2 _).trans rfl
      have P6 := Lib.hid pb6
      have T6 := Lib.hid ((Tch.refl w.heap.size [33] w5).setCell (p := ⟨w4.heap.size, 2, none⟩) P5.out (by decide) (by show _ ≤ w4.heap.size; omega) (.bool g))
      have R6 := Lib.hid (HR5.out.tch T6.out (by decide) (by decide))
      clear pb6
      go_wp2_with fail
      have q3 := rB_rr (mz := 60000) R6.out (by decide) L2.out (by omega) (by omega)
      rw [show (60000 : Int).toNat = 60000 from rfl, E3.out] at q3
      refine q3.mono ?_
      clear q3
      rintro e w7 ⟨A7, n7, c7, rfl, ho7, hr7, t7⟩
      obtain ⟨rfl, hc7⟩ := own_room ho7
      have pb7 := t7.blk P6.out (by decide)
      obtain ⟨c70, c71, c72⟩ := three_cells pb7
      have f71 := blk_free pb7 1
      have P7 := Lib.hid pb7
      have z7 := t7.size
      have O7 := Lib.hid ho7
      have R7 := Lib.hid hr7
      have T7 := Lib.hid t7
      clear ho7 hr7 t7 pb7 c50 c51 c52 f52
      have pb8 : (w7.setCell ⟨w4.heap.size, 1, none⟩ (.slice A7 vb.length c7)).heap[w4.heap.size]? = some (.cells #[.string (str kb), .slice A7 vb.length c7, .bool g] 33 (0, 0)) := (blk_set P7.out 1 _).trans rfl
      have P8 := Lib.hid pb8
      obtain ⟨c80, c81, c82⟩ := three_cells pb8
      have T8 := Lib.hid ((Tch.refl w.heap.size [33] w7).setCell (p := ⟨w4.heap.size, 1, none⟩) P7.out (by decide) (by show _ ≤ w4.heap.size; omega) (.slice A7 vb.length c7))
      have z48 : w4.heap.size < w7.heap.size := lt_of_block P7.out
      clear pb8
      have own8 : (w7.setCell ⟨w4.heap.size, 1, none⟩ (.slice A7 vb.length c7)).ownsRow w.heap.size 33 3 (.slice A1 ms.length c1) ms.length (pcells ms) := by
        have o4 := own_tch HO.out T4.out (by decide)
        have o5 := own_tch (o4.alloc (.cells #[.string (str kb), .slice none 0 0, .bool false] 33)) T5.out (by decide)
        have nb : ∀ q, (Value.slice A1 ms.length c1).ownBlock = some q → q ≠ w4.heap.size := fun q hq e => by
          obtain ⟨_, cs, fr, r⟩ := own_row o4 q hq
          have := lt_of_block r
          omega
        have o6 : (w5.setCell ⟨w4.heap.size, 2, none⟩ (.bool g)).ownsRow w.heap.size 33 3 (.slice A1 ms.length c1) ms.length (pcells ms) := own_keep o5 (fun q hq => Below.heap_setCell _ _ _ _ (nb q hq))
        have o7 := own_tch o6 T7.out (by decide)
        exact own_keep o7 (fun q hq => Below.heap_setCell _ _ _ _ (nb q hq))
      cases hg : g with
      | true =>
        rw [hg] at P8 c82 HX
        by_cases hv : 0 < vb.length
        · have BAD := Lib.hid (stOf_bad (.inl (lOf_bad (by rw [← HN.out]; exact hlt) (by rw [HX.out]; simp [St.bad]; exact hv))))
          have hvi : (0 : Int) < (vb.length : Int) := by omega
          clear own8
          go_wp2
          refine bodyPost_ret (results_tmp3 rfl _ _ _) rfl ?_
          have TA : Tch w.heap.size [67, 33] wr (w7.setCell ⟨w4.heap.size, 1, none⟩ (.slice A7 vb.length c7)) := (((((T4.out.alloc (by omega) (.cells #[.string (str kb), .slice none 0 0, .bool false] 33)).more (by simp)).trans (T5.out.more (by simp))).trans (T6.out.more (by simp))).trans (T7.out.more (by simp))).trans (T8.out.more (by simp))
          exact RcOk.bad BAD.out (HB.out.trans TA.below)
        · have hv0 := Lib.hid (show vb = [] from List.length_eq_zero_iff.1 (by omega))
          have hvi : ¬ (0 : Int) < (vb.length : Int) := by omega
          have OW := Lib.hid (own8.alloc (.cells #[.string (str kb), .slice A7 vb.length c7, .bool true] 33))
          have M8 := Lib.hid (lies_newput (w7.setCell ⟨w4.heap.size, 1, none⟩ (.slice A7 vb.length c7)) ⟨⟨kb, vb, true⟩, A7, c7⟩ (g := w7.heap.size) (by simp [World.setCell]))
          clear own8
          go_wp2_with (at_builtin; refine wpList_app _ rfl _ _ 22 rfl w.heap.size 33 i0 _ 3 48 Tryz.underlying22 hi iz0 iz1 iz2 rfl (by decide) _ ms.length (pcells ms) rfl OW.out 0 _ 1 1 (MPu.cells ⟨⟨kb, vb, true⟩, A7, c7⟩) 33 rfl rfl M8.out (pcell_one _) (by unfold maxLen; have := ML.out; have := NL.out; omega) (by have := ML.out; have := NL.out; omega) (by simp [World.setCell]; omega) ?_)
          intro v' w9 hown' hgrow _
          obtain ⟨A2, k2, rfl⟩ := own_slice hown'
          have T9 := Lib.hid (grown_tch (B := w.heap.size) (ts := [33]) OW.out hgrow (Nat.le_refl _) (by simp [World.setCell]; omega) (by decide))
          have O9 := Lib.hid hown'
          clear hown' hgrow
          have hwr : IntKind.u64.wrap ((k : Int) + 1) = ((k + 1 : Nat) : Int) := by rw [Fl.wrap_u64]; have := NL.out; omega
          go_wp2
          have z5' : w4.heap.size + 1 ≤ w5.heap.size := by have := z5; simpa using this
          go_roundw
          case rel =>
            have TT : Tch w.heap.size [67, 33] w7 w9 := ((T8.out.alloc (by simp [World.setCell]; omega) (.cells #[.string (str kb), .slice A7 vb.length c7, .bool true] 33)).trans T9.out).more (by simp)
            have TA : Tch w.heap.size [67, 33] wr w9 := (((((T4.out.alloc (by omega) (.cells #[.string (str kb), .slice none 0 0, .bool false] 33)).more (by simp)).trans (T5.out.more (by simp))).trans (T6.out.more (by simp))).trans (T7.out.more (by simp))).trans TT
            refine ⟨k + 1, A2, _, k2, ms ++ [⟨⟨kb, vb, true⟩, A7, c7⟩], by omega, rfl, rfl, rfl, by go_num, rfl, ?_, ?_, ?_, ?_, ?_, HB.out.trans TA.below⟩
            · rw [pcells_snoc, List.length_append]; exact O9.out
            · intro m hm
              rw [List.mem_append, List.mem_singleton] at hm
              rcases hm with hm | rfl
              · exact own_tch (HA.out m hm) TA (by decide)
              · exact own_tch (own_less O7.out (by simp [World.setCell]; omega)) TT (by decide)
            · rw [lOf_succ, HX.out, pus_snoc, HP.out]
            · rw [pus_snoc, List.any_append, HNB.out]
              simp [St.bad, hv0.out]
            · rw [lOf_succ, HX.out]
              exact (R7.out.tch T8.out (by decide) (by decide)).alloc _ |>.tch T9.out (by decide) (by decide)
          case measure => simp [intOf]; omega
      | false =>
        rw [hg] at P8 c82 HX
        · have hg' := Lib.hid hg
          have OW := Lib.hid (own8.alloc (.cells #[.string (str kb), .slice A7 vb.length c7, .bool false] 33))
          have M8 := Lib.hid (lies_newput (w7.setCell ⟨w4.heap.size, 1, none⟩ (.slice A7 vb.length c7)) ⟨⟨kb, vb, false⟩, A7, c7⟩ (g := w7.heap.size) (by simp [World.setCell]))
          clear own8
          go_wp2_with (at_builtin; refine wpList_app _ rfl _ _ 22 rfl w.heap.size 33 i0 _ 3 48 Tryz.underlying22 hi iz0 iz1 iz2 rfl (by decide) _ ms.length (pcells ms) rfl OW.out 0 _ 1 1 (MPu.cells ⟨⟨kb, vb, false⟩, A7, c7⟩) 33 rfl rfl M8.out (pcell_one _) (by unfold maxLen; have := ML.out; have := NL.out; omega) (by have := ML.out; have := NL.out; omega) (by simp [World.setCell]; omega) ?_)
          intro v' w9 hown' hgrow _
          obtain ⟨A2, k2, rfl⟩ := own_slice hown'
          have T9 := Lib.hid (grown_tch (B := w.heap.size) (ts := [33]) OW.out hgrow (Nat.le_refl _) (by simp [World.setCell]; omega) (by decide))
          have O9 := Lib.hid hown'
          clear hown' hgrow
          have hwr : IntKind.u64.wrap ((k : Int) + 1) = ((k + 1 : Nat) : Int) := by rw [Fl.wrap_u64]; have := NL.out; omega
          go_wp2
          have z5' : w4.heap.size + 1 ≤ w5.heap.size := by have := z5; simpa using this
          go_roundw
          case rel =>
            have TT : Tch w.heap.size [67, 33] w7 w9 := ((T8.out.alloc (by simp [World.setCell]; omega) (.cells #[.string (str kb), .slice A7 vb.length c7, .bool false] 33)).trans T9.out).more (by simp)
            have TA : Tch w.heap.size [67, 33] wr w9 := (((((T4.out.alloc (by omega) (.cells #[.string (str kb), .slice none 0 0, .bool false] 33)).more (by simp)).trans (T5.out.more (by simp))).trans (T6.out.more (by simp))).trans (T7.out.more (by simp))).trans TT
            refine ⟨k + 1, A2, _, k2, ms ++ [⟨⟨kb, vb, false⟩, A7, c7⟩], by omega, rfl, rfl, rfl, by go_num, rfl, ?_, ?_, ?_, ?_, ?_, HB.out.trans TA.below⟩
            · rw [pcells_snoc, List.length_append]; exact O9.out
            · intro m hm
              rw [List.mem_append, List.mem_singleton] at hm
              rcases hm with hm | rfl
              · exact own_tch (HA.out m hm) TA (by decide)
              · exact own_tch (own_less O7.out (by simp [World.setCell]; omega)) TT (by decide)
            · rw [lOf_succ, HX.out, pus_snoc, HP.out]
            · rw [pus_snoc, List.any_append, HNB.out]
              simp [St.bad]
            · rw [lOf_succ, HX.out]
              exact (R7.out.tch T8.out (by decide) (by decide)).alloc _ |>.tch T9.out (by decide) (by decide)
          case measure => simp [intOf]; omega
    · obtain rfl : k = N := by omega
      obtain ⟨s0, hs0⟩ : ∃ s0, (St.lOf b k).2 = s0 := ⟨_, rfl⟩
      rw [hs0] at HR
      have HS0 := Lib.hid hs0
      have hlti : ¬ (k : Int) < (k : Int) := by omega
      clear hs0
      by_cases he : s0 = some []
      · have GOOD := Lib.hid (stOf_good (b := b) (by rw [← HN.out, ← HP.out]; exact HNB.out) (by rw [← HN.out, HS0.out]; exact he))
        have er : Hid (endOf s0 = 0) := Lib.hid (by rw [he]; rfl)
        clear he
        go_wp2_with fail
        refine (end_rr HR.out).mono ?_
        rw [er.out]
        rintro e w9 ⟨rfl, rfl⟩
        go_wp2
        refine bodyPost_ret (results_tmp3 rfl _ _ _) rfl ?_
        refine ⟨ms, A1, c1, ?_, ⟨lies_own HO.out, fun m hm => ⟨lies_own (HA.out m hm), (own_room (HA.out m hm)).2⟩⟩, ?_, HB.out⟩
        · rw [GOOD.out]
          rfl
        · rw [GOOD.out]
          show _ = (St.lOf b (St.nOf b)).1
          rw [← HN.out]
          exact HP.out
      · have BAD := Lib.hid (stOf_bad (b := b) (.inr (by rw [← HN.out, HS0.out]; exact he)))
        have er : Hid (endOf s0 = 20) := Lib.hid (by
          match s0, he with
          | none, _ => rfl
          | some [], he => exact absurd rfl he
          | some (x :: t), _ => rfl)
        clear he
        go_wp2_with fail
        refine (end_rr HR.out).mono ?_
        rw [er.out]
        rintro e w9 ⟨rfl, rfl⟩
        go_wp2
        refine bodyPost_ret (results_tmp3 rfl _ _ _) rfl ?_
        exact RcOk.bad BAD.out HB.out
end

section
open Go.RowKit

set_option maxHeartbeats 1000000 in
set_option maxRecDepth 100000 in
theorem rNs_c {B g : Nat} {l : List UInt8} {A : Option Addr} {c m : Nat} {w : World} (x : Nat) (h : w.ownsRow B 5 1 (.slice A m c) l.length (bcells l)) (hB : B ≤ w.heap.size) (hg : g < w.heap.size) (hne : ∀ k, (Value.slice A m c).ownBlock = some k → k ≠ g)
    (hx : x < 128) (hs : l.length + 9 ≤ 1000000000000) :
    Calls Tryz.prog 37 #[.slice A m c, .int .u64 (x : Int)] w fun e w' => AppOk B (l ++ Cd.num x) w e w' ∧ w'.heap[g]? = w.heap[g]? := by
  have HO := Lib.hid h
  have HNE := Lib.hid hne
  obtain ⟨rfl, _⟩ := own_room h
  have hlo : (x : Int) < 128 := by omega
  have E := Lib.hid (num_lo (n := (x : Int)) (by omega) hlo)
  rw [Int.toNat_natCast] at E
  clear h hne
  obtain ⟨i0, hi, hz0, hz1, hz2⟩ := info_parts Tryz.infoU8
  go_enter Tryz.func37, Tryz.ntmps37
  go_wp2_with (at_builtin; refine wpList_app _ rfl _ _ 23 rfl B 5 i0 (.int .u8 0) 1 1 Tryz.underlying23 hi hz0 hz1 hz2 rfl (by decide) _ l.length (bcells l) rfl (HO.out.alloc _) 0 _ 1 1 (bcells [Cd.byt x 0]) 5 rfl rfl (lies1 E.out.1 rfl) (bcells_one _) (by unfold maxLen; omega) (by omega) (by simp; omega) ?_)
  intro v' w1 hown' hgrow _
  obtain ⟨A2, k2, rfl⟩ := own_slice hown'
  have T1 := app_step (HO.out.alloc _) hgrow (by simp; omega)
  have HT1 := Lib.hid (((Tch.refl B _ w).alloc (by omega) _).trans T1)
  have HO2 := Lib.hid hown'
  have HG := Lib.hid ((hgrow.block g (by simp; omega) (fun q => HNE.out g q.symm rfl)).trans (Below.heap_alloc w _ g hg))
  clear hown' hgrow T1
  go_wp2
  go_ret
  exact ⟨⟨A2, _, k2, rfl, by rw [E.out.2, bcells_app, List.length_append]; exact HO2.out, HT1.out⟩, HG.out⟩

set_option maxHeartbeats 1000000 in
/-- Few bytes, in a block of their own. -/
theorem rBs_c {B g : Nat} {l b : List UInt8} {A : Option Addr} {c m n cb : Nat} {w : World} (h : w.ownsRow B 5 1 (.slice A m c) l.length (bcells l)) (hB : B ≤ w.heap.size) (hg : g < w.heap.size) (hne : ∀ k, (Value.slice A m c).ownBlock = some k → k ≠ g)
    (hL : Lies w 0 5 (some ⟨g, 0, none⟩) (bcells b)) (hn : n = b.length) (hb : b.length < 128) (hs : l.length + b.length + 9 ≤ 1000000000000) :
    Calls Tryz.prog 39 #[.slice A m c, .slice (some ⟨g, 0, none⟩) n cb] w (AppOk B (l ++ St.wb b) w) := by
  have HO := Lib.hid h
  have HL := Lib.hid hL
  have HNE := Lib.hid hne
  clear h hL hne
  subst hn
  have nl := num_len b.length
  obtain ⟨i0, hi, hz0, hz1, hz2⟩ := info_parts Tryz.infoU8
  have hwr : IntKind.u64.wrap (b.length : Int) = (b.length : Int) := by rw [Fl.wrap_u64]; omega
  go_enter Tryz.func39, Tryz.ntmps39
  go_wp2_with fail
  refine (rNs_c b.length HO.out hB hg HNE.out hb (by omega)).mono ?_
  rintro e w' ⟨⟨A3, m3, k3, rfl, ho3, t3⟩, hg3⟩
  have hz3 := t3.size
  have HO3 := Lib.hid ho3
  have HT3 := Lib.hid t3
  have HL3 : Hid (Lies w' 0 5 (some ⟨g, 0, none⟩) (bcells b)) := fun q => by
    obtain ⟨ad, e1, h1, h2⟩ := HL.out q
    injection e1 with e1
    subst e1
    refine ⟨_, rfl, .inr ?_, fun j u hu => (World.cell?_of_block (by rw [addr_block]; exact hg3)).trans (h2 j u hu)⟩
    rcases h1 with h1 | ⟨cs, fr, h1⟩
    · omega
    · exact ⟨cs, fr, hg3.trans h1⟩
  clear ho3 t3 hg3
  go_wp2_with (at_builtin; refine wpList_app _ rfl _ _ 23 rfl B 5 i0 (.int .u8 0) 1 1 Tryz.underlying23 hi hz0 hz1 hz2 rfl (by decide) _ (l ++ Cd.num b.length).length (bcells (l ++ Cd.num b.length)) rfl HO3.out 0 _ b.length _ (bcells b) 5 rfl (by rw [bcells_len]; omega) HL3.out (bcells_one _) (by rw [List.length_append]; unfold maxLen; omega) (by rw [List.length_append]; omega) (by omega) ?_)
  intro v' w1 hown' hgrow _
  obtain ⟨A2, k2, rfl⟩ := own_slice hown'
  have T1 := app_step HO3.out hgrow (by omega)
  have HT1 := Lib.hid (HT3.out.trans T1)
  have ho2 : w1.ownsRow B 5 1 (.slice A2 (l.length + (Cd.num b.length).length + b.length) k2) (l ++ St.wb b).length (bcells (l ++ St.wb b)) := by
    unfold St.wb
    rw [← List.append_assoc, bcells_app (l ++ Cd.num b.length) b]; simp only [List.length_append]; simpa using hown'
  have HO2 := Lib.hid ho2
  clear hown' hgrow T1 ho2
  go_wp2
  go_ret
  exact ⟨A2, _, k2, rfl, HO2.out, HT1.out⟩

set_option maxHeartbeats 4000000 in
set_option maxRecDepth 100000 in
theorem recordR_c {A : Option Addr} {c n : Nat} {ms : List MPu} {all : Bool} {w : World} {B : Nat} {tp tb : TypeId} (h : UL w B tp tb A ms) (hn : n = ms.length) (hm : ms.length ≤ 60000) (hl : ∀ m ∈ ms, m.p.k.length < 128 ∧ m.p.v.length ≤ 60000) :
    Calls Tryz.prog 11 #[.bool all, .slice A n c] w (CloneOk (St.bts all (pus ms)) w) := by
  have HP := Lib.hid (h.old (tp' := 0) (tb' := 0))
  have HL := Lib.hid hl
  have HE := Lib.hid (encL_take hl)
  clear h hl
  subst hn
  have hwrap : IntKind.u64.wrap (ms.length : Int) = (ms.length : Int) := by rw [Fl.wrap_u64]; omega
  have fl1 : ∀ g, (St.fl g).length = 1 := fun g => rfl
  go_enter Tryz.func11, Tryz.ntmps11
  go_wp2_with fail
  refine (rG_c (l := []) (World.ownsRow_nil _ _ _ _) (Nat.le_refl w.heap.size) (by simp)).mono ?_
  rintro e w1 ⟨A1, n1, c1, rfl, ho1, t1⟩
  have O1 : Hid (w1.ownsRow w.heap.size 5 1 (.slice A1 n1 c1) (St.fl all).length (bcells (St.fl all))) := Lib.hid ho1
  have B1 := Lib.hid t1.below
  have z1 := t1.size
  clear ho1 t1
  go_wp2_with fail
  refine (rN_c (n := (ms.length : Int)) O1.out (by omega) (by omega) (by omega) (by rw [fl1]; omega)).mono ?_
  rintro e w2 ⟨A2, n2, c2, rfl, ho2, t2⟩
  rw [Int.toNat_natCast] at ho2
  have O2 := Lib.hid ho2
  have B2 := Lib.hid (B1.out.trans t2.below)
  have z2 := t2.size
  have nl := num_len ms.length
  clear ho2 t2
  go_wp2_with fail
  go_loopw [16, 5] (fun i v wr => ∃ (k : Nat) (A3 : Option Addr) (n3 c3 : Nat), k ≤ ms.length ∧ i = .int .i64 k ∧ v = .slice A3 n3 c3 ∧ wr.ownsRow w.heap.size 5 1 (.slice A3 n3 c3) (St.fl all ++ Cd.num ms.length ++ St.encL (pus (ms.take k))).length (bcells (St.fl all ++ Cd.num ms.length ++ St.encL (pus (ms.take k)))) ∧ Below w.heap.size w wr) (fun i _ _ => ms.length - (intOf i).toNat)
  case atStart => exact ⟨0, A2, n2, c2, by omega, rfl, rfl, by simpa [pus, St.encL] using O2.out, B2.out⟩
  case round =>
    obtain ⟨k, A3, n3, c3, hk, rfl, rfl, hown, hb⟩ := hrel
    have hzr := hb.size
    by_cases hlt : k < ms.length
    · obtain ⟨ad, m, rfl, hm', hfine, d0, d1, d2⟩ := (HP.out.below (Nat.le_refl _) hb).at_ hlt
      obtain ⟨gb, hgb⟩ : ∃ gb, m.p.g = gb := ⟨_, rfl⟩
      rw [hgb] at d2
      have HGB := Lib.hid hgb
      clear hgb
      have HM := Lib.hid hm'
      have HB := Lib.hid hb
      have lk := (HL.out m (List.mem_of_getElem? hm')).1
      have lv := (HL.out m (List.mem_of_getElem? hm')).2
      have ek := HE.out k
      have HO := Lib.hid hown
      obtain ⟨wp, hwp⟩ : ∃ wp, wr.alloc (.cells #[.string (str m.p.k), .slice m.A m.p.v.length m.c, .bool gb] 33) = wp := ⟨_, rfl⟩
      have hp0 : wp.heap[wr.heap.size]? = some (.cells #[.string (str m.p.k), .slice m.A m.p.v.length m.c, .bool gb] 33 (0, 0)) := by rw [← hwp]; exact heap_alloc_new wr _
      have bp : Below wr.heap.size wr wp := by rw [← hwp]; exact (Below.refl _ wr).alloc (Nat.le_refl _) _
      have sp : wp.heap.size = wr.heap.size + 1 := by rw [← hwp]; simp
      have lsz : (St.fl all ++ Cd.num ms.length ++ St.encL (pus (ms.take k))).length ≤ 100000000000 := by
        simp only [List.length_append, fl1]
        omega
      obtain ⟨L0, hL0⟩ : ∃ L0, L0 = St.fl all ++ Cd.num ms.length ++ St.encL (pus (ms.take k)) := ⟨_, rfl⟩
      rw [← hL0] at lsz HO
      have HL0 := Lib.hid hL0
      obtain ⟨ck, hcv, hck⟩ := conv_str m.p.k wp.drew
      have OP : Hid ((wp.drew.drew.alloc (.cells (bytesRow (str m.p.k) ck) 5 ((bytesRow (str m.p.k) ck).size, (bytesRow (str m.p.k) ck).size + 1))).ownsRow w.heap.size 5 1 (.slice A3 n3 c3) L0.length (bcells L0)) := Lib.hid (by rw [← hwp]; exact (HO.out.alloc _).alloc _)
      have NE : Hid (∀ b, (Value.slice A3 n3 c3).ownBlock = some b → b ≠ wp.heap.size) := Lib.hid fun b hb => by
        obtain ⟨_, cs, fr, r⟩ := own_row HO.out b hb
        have := lt_of_block r
        omega
      have LS : Hid (Lies (wp.drew.drew.alloc (.cells (bytesRow (str m.p.k) ck) 5 ((bytesRow (str m.p.k) ck).size, (bytesRow (str m.p.k) ck).size + 1))) 0 5 (some ⟨wp.heap.size, 0, none⟩) (bcells m.p.k)) := Lib.hid (lies_str m.p.k ck wp.drew.drew)
      have pb2 : (wp.drew.drew.alloc (.cells (bytesRow (str m.p.k) ck) 5 ((bytesRow (str m.p.k) ck).size, (bytesRow (str m.p.k) ck).size + 1))).heap[wr.heap.size]? = some (.cells #[.string (str m.p.k), .slice m.A m.p.v.length m.c, .bool gb] 33 (0, 0)) := blk_alloc (w := wp.drew.drew) hp0 _
      have B3 := Lib.hid (((hb.trans (bp.mono hzr)).drew.drew).alloc (by show _ ≤ wp.heap.size; omega) (.cells (bytesRow (str m.p.k) ck) 5 ((bytesRow (str m.p.k) ck).size, (bytesRow (str m.p.k) ck).size + 1)))
      have P2 := Lib.hid pb2
      have zz : w.heap.size ≤ wp.heap.size := by omega
      have S2 : (wp.drew.drew.alloc (.cells (bytesRow (str m.p.k) ck) 5 ((bytesRow (str m.p.k) ck).size, (bytesRow (str m.p.k) ck).size + 1))).cell? ⟨wr.heap.size, 0, none⟩ = some (.string (str m.p.k)) ∧ (wp.drew.drew.alloc (.cells (bytesRow (str m.p.k) ck) 5 ((bytesRow (str m.p.k) ck).size, (bytesRow (str m.p.k) ck).size + 1))).cell? ⟨wr.heap.size, 2, none⟩ = some (.bool gb) := ⟨(three_cells pb2).1, (three_cells pb2).2.2⟩
      have S1 : wp.cell? ⟨wr.heap.size, 0, none⟩ = some (.string (str m.p.k)) ∧ wp.cell? ⟨wr.heap.size, 2, none⟩ = some (.bool gb) := ⟨(three_cells hp0).1, (three_cells hp0).2.2⟩
      obtain ⟨s10, s12⟩ := S1
      obtain ⟨s20, s22⟩ := S2
      clear hm' hfine hb hown hp0 bp sp hL0 pb2
      go_wp2_with fail
      go_region_held (fun u => u.cell? ⟨wr.heap.size, 0, none⟩ = some (.string (str m.p.k)) ∧ u.cell? ⟨wr.heap.size, 2, none⟩ = some (.bool gb)) (first | exact ⟨s10, s12⟩ | exact ⟨s20, s22⟩ | exact S3 | exact S4)
        (first
          | (go_at_call 39; refine (rBs_c OP.out (by simp; exact Nat.le_succ_of_le zz) (by simp) NE.out LS.out rfl lk (by omega)).mono ?_; rintro e w3 ⟨A4, n4, c4, rfl, ho4, t4⟩; have pb3 := t4.blk P2.out (by decide); have S3 : w3.cell? ⟨wr.heap.size, 0, none⟩ = some (.string (str m.p.k)) ∧ w3.cell? ⟨wr.heap.size, 2, none⟩ = some (.bool gb) := ⟨(three_cells pb3).1, (three_cells pb3).2.2⟩)
          | (go_at_call 38; refine (rG_c ho4 (by have := t4.size; simp at this; omega) (by unfold St.wb; rw [List.length_append, List.length_append]; have := num_len m.p.k.length; omega)).mono ?_; rintro e w4 ⟨A5, n5, c5, rfl, ho5, t5⟩; have pb4 := t5.blk pb3 (by decide); have S4 : w4.cell? ⟨wr.heap.size, 0, none⟩ = some (.string (str m.p.k)) ∧ w4.cell? ⟨wr.heap.size, 2, none⟩ = some (.bool gb) := ⟨(three_cells pb4).1, (three_cells pb4).2.2⟩))
      have POST : Hid (∀ (val : List UInt8), val = m.p.w → L0 ++ St.wb m.p.k ++ [if gb = true then 1 else 0] ++ (Cd.num val.length ++ val) = St.fl all ++ Cd.num ms.length ++ St.encL (pus (ms.take (k + 1)))) := Lib.hid fun val e => by
        rw [take_next HM.out, pus_snoc, St.encL_snoc, HL0.out, e]
        rw [← HGB.out]
        simp [St.encP, St.wb, St.fl, List.append_assoc]
      have wl : (L0 ++ St.wb m.p.k ++ [if gb = true then 1 else 0]).length ≤ 100000001000 := by
        have : (St.wb m.p.k).length ≤ 200 := by unfold St.wb; rw [List.length_append]; have := num_len m.p.k.length; omega
        simp only [List.length_append, List.length_singleton]
        omega
      obtain ⟨q0, q1, q2⟩ := three_cells pb4
      have O5 := Lib.hid ho5
      have B5 := Lib.hid ((B3.out.trans t4.below).trans t5.below)
      have z5 := B5.out.size
      have WLN := Lib.hid wl
      clear ho4 t4 pb3 S3 ho5 t5 pb4 S4 wl
      cases gb with
      | true =>
        have HG : Hid (m.p.g = true) := HGB
        have RB := Lib.hid (rB_c (b := []) (Ab := none) (n := 0) (cb := 0) (tb := 0) O5.out z5 Lies.nil (by decide) rfl (by have q := WLN.out; simp only [List.length_append, List.length_cons, List.length_nil] at q ⊢; omega))
        clear q0 q1
        go_wp2_with (go_at_call 39; refine RB.out.mono ?_; rintro e w6 ⟨A6, n6, c6, rfl, ho6, t6⟩)
        rw [POST.out [] (by unfold St.Pu.w; rw [HG.out]; rfl)] at ho6
        have O6 := Lib.hid ho6
        have B6 := Lib.hid (B5.out.trans t6.below)
        clear ho6 t6
        go_wp2
        go_roundw
        case rel => exact ⟨k + 1, A6, n6, c6, by omega, by go_num, rfl, O6.out, B6.out⟩
        case measure => simp [intOf]; omega
      | false =>
        have HG : Hid (m.p.g = false) := HGB
        go_wp2_with fail
        refine (rB_c (cb := m.c) O5.out z5 ((HP.out.2 m (List.mem_of_getElem? HM.out)).1.below (Nat.le_refl _) B5.out) (by decide) rfl (by have := WLN.out; omega)).mono ?_
        rintro e w6 ⟨A6, n6, c6, rfl, ho6, t6⟩
        rw [POST.out m.p.v (by unfold St.Pu.w; rw [HG.out]; rfl)] at ho6
        have O6 := Lib.hid ho6
        have B6 := Lib.hid (B5.out.trans t6.below)
        clear ho6 t6
        go_wp2
        go_roundw
        case rel => exact ⟨k + 1, A6, n6, c6, by omega, by go_num, rfl, O6.out, B6.out⟩
        case measure => simp [intOf]; omega
    · obtain rfl : k = ms.length := by omega
      rw [List.take_length] at hown
      have HO := Lib.hid hown
      have HB := Lib.hid hb
      clear hown hb
      go_wp2
      go_ret
      refine ⟨A3, n3, c3, rfl, ?_, HB.out⟩
      have e2 : St.bts all (pus ms) = St.fl all ++ Cd.num ms.length ++ St.encL (pus ms) := by unfold St.bts; rw [pus_len]
      rw [e2]
      exact HO.out
end
end Go.Proofs.YtpnfpeeijghamaaGreat
