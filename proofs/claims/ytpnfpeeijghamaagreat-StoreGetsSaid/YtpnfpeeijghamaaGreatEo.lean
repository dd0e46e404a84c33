/- Stage 8: contract of store.Of. Stage 8: store.Format and store.Open. -/
import Derived.Test.YtpnfpeeijghamaaGreatEk
import Derived.Test.YtpnfpeeijghamaaGreatRe
import Derived.Test.YtpnfpeeijghamaaGreatVn
namespace Go.Proofs.YtpnfpeeijghamaaGreat
set_option maxRecDepth 100000

section
open Go.RowKit

theorem lOf_zero (b : List UInt8) : (St.lOf b 0).1 = [] := rfl
theorem lOf_succ (b : List UInt8) (k : Nat) : St.lOf b (k + 1) = ((St.lOf b k).1 ++ [(St.rdP1 (St.lOf b k).2).1], (St.rdP1 (St.lOf b k).2).2) := St.rdL_snoc k _
theorem lOf_len (b : List UInt8) (k : Nat) : (St.lOf b k).1.length = k := St.rdL_len k _
theorem lOf_shr (b : List UInt8) (k : Nat) : St.Shr (some b) (St.lOf b k).2 := ((St.shr_G _).trans (St.shr_N _ _)).trans (St.shr_L k _)
theorem nOf_le (b : List UInt8) : St.nOf b ≤ 4096 := (Cd.rdN_lt 4096 _).2
theorem stOf_bad {b : List UInt8} (h : (St.lOf b (St.nOf b)).1.any St.bad = true ∨ (St.lOf b (St.nOf b)).2 ≠ some []) : St.of b = (80, false, []) := by
  unfold St.of
  rw [if_neg]
  rintro ⟨h1, h2⟩
  rcases h with h | h
  · rw [h1] at h; cases h
  · exact h h2
theorem stOf_good {b : List UInt8} (h1 : (St.lOf b (St.nOf b)).1.any St.bad = false) (h2 : (St.lOf b (St.nOf b)).2 = some []) : St.of b = (0, (Cd.rdG (some b)).1, (St.lOf b (St.nOf b)).1) := by
  unfold St.of
  exact if_pos ⟨h1, h2⟩
theorem lOf_bad {b : List UInt8} {k : Nat} (hk : k < St.nOf b) (h : St.bad (St.rdP1 (St.lOf b k).2).1 = true) : (St.lOf b (St.nOf b)).1.any St.bad = true := St.rdL_bad hk h

theorem lies_newput (w : World) (m : MPu) {g : Nat} (hg : g = w.heap.size) : Lies (w.alloc (.cells #[.string (str m.p.k), .slice m.A m.p.v.length m.c, .bool m.p.g] 33)) 0 33 (some ⟨g, 0, none⟩) m.cells := by
  subst hg
  exact Lies.of_blk (heap_alloc_new w _)
/-- It returned what bytes are a record of. -/
def RcOk (b : List UInt8) (w : World) (e : Ending) (w' : World) : Prop :=
  ∃ (ms : List MPu) (A : Option Addr) (c : Nat), e = .returned (.tuple #[.bool (St.of b).2.1, .slice A ms.length c, .int .i64 (St.of b).1]) ∧ UL w' 0 33 5 A ms ∧ pus ms = (St.of b).2.2 ∧ Below w.heap.size w w'
theorem RcOk.bad {b : List UInt8} {w w' : World} (h : St.of b = (80, false, [])) (hb : Below w.heap.size w w') : RcOk b w (.returned (.tuple #[.bool false, .slice none 0 0, .int .i64 80])) w' :=
  ⟨[], none, 0, by rw [h]; rfl, UL.nil, by rw [h]; rfl, hb⟩

set_option maxHeartbeats 4000000 in
set_option maxRecDepth 100000 in
theorem stOf_c {A : Option Addr} {n c : Nat} {b : List UInt8} {w : World} {B : Nat} {tb : TypeId} (hL : Lies w B tb A (bcells b)) (_hB : B ≤ w.heap.size) (hn : n = b.length) (hs : b.length ≤ 1099511627776) :
    Calls Tryz.prog 8 #[.slice A n c] w (RcOk b w) := by
  have HL := Lib.hid (hL.old (t' := 0))
  clear hL _hB
  subst hn
  obtain ⟨i0, hi, iz0, iz1, iz2⟩ := info_parts Tryz.infoPut
  have LB := Lib.hid (fun k => (lOf_shr b k).bound (n := 1099511627776) (fun l e => by injection e with e; subst e; exact hs))
  have LG : Hid (∀ l, (Cd.rdG (some b)).2 = some l → l.length ≤ 1099511627776) := Lib.hid ((St.shr_G (some b)).bound (fun l e => by injection e with e; subst e; exact hs))
  have hs' := hs
  clear hs'
  obtain ⟨N, hN⟩ : ∃ N, N = St.nOf b := ⟨_, rfl⟩
  have NL : Hid (N ≤ 4096) := Lib.hid (by rw [hN]; exact nOf_le b)
  have HN := Lib.hid hN
  clear hN
  go_enter Tryz.func8, Tryz.ntmps8
  go_wp2_with fail
  refine (read_c HL.out (Nat.le_refl _) rfl hs).mono ?_
  rintro e w0 ⟨p, rfl, hr, hb0⟩
  have HR0 := Lib.hid hr
  have HB0 := Lib.hid hb0
  clear hr hb0
  go_wp2_with fail
  refine (rG_rd HR0.out (by decide) (fun l e => by injection e with e; subst e; exact hs)).mono ?_
  rintro e w1 ⟨rfl, hr1, t1⟩
  have HR1 := Lib.hid hr1
  have HB1 := Lib.hid (HB0.out.trans t1.below)
  clear hr1 t1 hs
  go_wp2_with fail
  refine (rN_rd (mz := 4096) HR1.out (by decide) LG.out (by omega)).mono ?_
  rintro e w2 ⟨rfl, hr2, t2⟩
  have e4 : (4096 : Int).toNat = 4096 := rfl
  rw [e4] at hr2
  have HR2 : Hid (RS 103 w.heap.size 5 w2 p (St.lOf b 0).2) := hr2
  have HB2 := Lib.hid (HB1.out.trans t2.below)
  have ex : ((Cd.rdN (4096 : Int).toNat (Cd.rdG (some b)).2).1 : Int) = (N : Int) := by rw [e4, HN.out]; rfl
  rw [ex]
  clear hr2 t2 ex e4
  go_wp2_with fail
  go_loopw [2, 3, 13] (fun al l i wr => ∃ (k : Nat) (A1 : Option Addr) (n1 c1 : Nat) (ms : List MPu), k ≤ N ∧ al = .bool (Cd.rdG (some b)).1 ∧ i = .int .u64 (k : Int) ∧ l = .slice A1 n1 c1 ∧ wr.ownsRow w.heap.size 33 3 (.slice A1 n1 c1) ms.length (pcells ms) ∧
      (∀ m ∈ ms, wr.ownsRow w.heap.size 5 1 (.slice m.A m.p.v.length m.c) m.p.v.length (bcells m.p.v)) ∧ pus ms = (St.lOf b k).1 ∧ (pus ms).any St.bad = false ∧ RS 103 w.heap.size 5 wr p (St.lOf b k).2 ∧ Below w.heap.size w wr)
    (fun _ _ i _ => N - (intOf i).toNat)
  case atStart => exact ⟨0, none, 0, 0, [], Nat.zero_le _, rfl, rfl, rfl, World.ownsRow_nil _ _ _ _, by simp, rfl, rfl, HR2.out, HB2.out⟩
  case round =>
    obtain ⟨k, A1, n1, c1, ms, hk, rfl, rfl, rfl, ho, hall, hp, hnb, hr, hb⟩ := hrel
    obtain ⟨rfl, _⟩ := own_room ho
    have hml : ms.length = k := by
      have := congrArg List.length hp
      rw [lOf_len, pus_len] at this
      exact this
    have ML := Lib.hid hml
    have HO := Lib.hid ho
    have HA := Lib.hid hall
    have HP := Lib.hid hp
    have HNB := Lib.hid hnb
    have HR := Lib.hid hr
    have HB := Lib.hid hb
    have hbs := hb.size
    clear ho hall hp hnb hr hb hml
    by_cases hlt : k < N
    · obtain ⟨s0, hs0⟩ : ∃ s0, (St.lOf b k).2 = s0 := ⟨_, rfl⟩
      have LS := Lib.hid (LB.out k)
      rw [hs0] at HR LS
      obtain ⟨kb, s1, e1⟩ : ∃ kb s1, Cd.rdB 60000 s0 = (kb, s1) := ⟨_, _, rfl⟩
      obtain ⟨g, s2, e2⟩ : ∃ g s2, Cd.rdG s1 = (g, s2) := ⟨_, _, rfl⟩
      obtain ⟨vb, s3, e3⟩ : ∃ vb s3, Cd.rdB 60000 s2 = (vb, s3) := ⟨_, _, rfl⟩
      have L1 := Lib.hid ((St.shr_B 60000 s0).bound LS.out)
      have L2 := Lib.hid (((St.shr_B 60000 s0).trans (St.shr_G _)).bound LS.out)
      have hx : St.rdP1 (St.lOf b k).2 = (⟨kb, vb, g⟩, s3) := by rw [hs0]; unfold St.rdP1; rw [e1]; dsimp only; rw [e2]; dsimp only; rw [e3]
      rw [e1] at L1 L2
      dsimp only at L1 L2
      rw [e2] at L2
      dsimp only at L2
      have HX := Lib.hid hx
      have E1 := Lib.hid e1
      have E2 := Lib.hid e2
      have E3 := Lib.hid e3
      have hlti : (k : Int) < (N : Int) := by omega
      clear hx e1 e2 e3 hs0
      go_wp2_with fail
      have q1 := rB_rd (mz := 60000) HR.out (by decide) LS.out (by omega) (by omega)
      rw [show (60000 : Int).toNat = 60000 from rfl, E1.out] at q1
      refine q1.mono ?_
      clear q1
      rintro e w4 ⟨A4, n4, c4, rfl, ho4, hr4, t4⟩
      obtain ⟨rfl, hc4⟩ := own_room ho4
      have hcv := conv_at (c := c4) (lies_own (B := 0) ho4) rfl
      have HR4 := Lib.hid hr4
      have T4 := Lib.hid t4
      have z4 := t4.size
      clear ho4 hr4 t4
      have hp0 : (w4.alloc (.cells #[.string (str kb), .slice none 0 0, .bool false] 33)).heap[w4.heap.size]? = some (.cells #[.string (str kb), .slice none 0 0, .bool false] 33 (0, 0)) := heap_alloc_new w4 _
      have P4 := Lib.hid hp0
      have R4 := Lib.hid (HR4.out.alloc (.cells #[.string (str kb), .slice none 0 0, .bool false] 33))
      clear hp0
      go_wp2_with fail
      have q2 := rG_rd R4.out (by decide) L1.out
      rw [E2.out] at q2
      refine q2.mono ?_
      clear q2
      rintro e w5 ⟨rfl, hr5, t5⟩
      have pb5 := t5.blk P4.out (by decide)
      obtain ⟨c50, c51, c52⟩ := three_cells pb5
      have f52 := blk_free pb5 2
      have P5 := Lib.hid pb5
      have HR5 := Lib.hid hr5
      have T5 := Lib.hid t5
      have z5 := t5.size
      clear hr5 t5 pb5 hcv
      have pb6 : (w5.setCell ⟨w4.heap.size, 2, none⟩ (.bool g)).heap[w4.heap.size]? = some (.cells #[.string (str kb), .slice none 0 0, .bool g] 33 (0, 0)) := (blk_set P5.out 2 _).trans rfl
      have P6 := Lib.hid pb6
      have T6 := Lib.hid ((Tch.refl w.heap.size [33] w5).setCell (p := ⟨w4.heap.size, 2, none⟩) P5.out (by decide) (by show _ ≤ w4.heap.size; omega) (.bool g))
      have R6 := Lib.hid (HR5.out.tch T6.out (by decide) (by decide))
      clear pb6
      go_wp2_with fail
      have q3 := rB_rd (mz := 60000) R6.out (by decide) L2.out (by omega) (by omega)
      rw [show (60000 : Int).toNat = 60000 from rfl, E3.out] at q3
      refine q3.mono ?_
      clear q3
      rintro e w7 ⟨A7, n7, c7, rfl, ho7, hr7, t7⟩
      obtain ⟨rfl, hc7⟩ := own_room ho7
      have pb7 := t7.blk P6.out (by decide)
      obtain ⟨c70, c71, c72⟩ := three_cells pb7
      have f71 := blk_free pb7 1
      have P7 := Lib.hid pb7
      have z7 := t7.size
      have O7 := Lib.hid ho7
      have R7 := Lib.hid hr7
      have T7 := Lib.hid t7
      clear ho7 hr7 t7 pb7 c50 c51 c52 f52
      have pb8 : (w7.setCell ⟨w4.heap.size, 1, none⟩ (.slice A7 vb.length c7)).heap[w4.heap.size]? = some (.cells #[.string (str kb), .slice A7 vb.length c7, .bool g] 33 (0, 0)) := (blk_set P7.out 1 _).trans rfl
      have P8 := Lib.hid pb8
      obtain ⟨c80, c81, c82⟩ := three_cells pb8
      have T8 := Lib.hid ((Tch.refl w.heap.size [33] w7).setCell (p := ⟨w4.heap.size, 1, none⟩) P7.out (by decide) (by show _ ≤ w4.heap.size; omega) (.slice A7 vb.length c7))
      have z48 : w4.heap.size < w7.heap.size := lt_of_block P7.out
      clear pb8
      have own8 : (w7.setCell ⟨w4.heap.size, 1, none⟩ (.slice A7 vb.length c7)).ownsRow w.heap.size 33 3 (.slice A1 ms.length c1) ms.length (pcells ms) := by
        have o4 := own_tch HO.out T4.out (by decide)
        have o5 := own_tch (o4.alloc (.cells #[.string (str kb), .slice none 0 0, .bool false] 33)) T5.out (by decide)
        have nb : ∀ q, (Value.slice A1 ms.length c1).ownBlock = some q → q ≠ w4.heap.size := fun q hq e => by
          obtain ⟨_, cs, fr, r⟩ := own_row o4 q hq
          have := lt_of_block r
          omega
        have o6 : (w5.setCell ⟨w4.heap.size, 2, none⟩ (.bool g)).ownsRow w.heap.size 33 3 (.slice A1 ms.length c1) ms.length (pcells ms) := own_keep o5 (fun q hq => Below.heap_setCell _ _ _ _ (nb q hq))
        have o7 := own_tch o6 T7.out (by decide)
        exact own_keep o7 (fun q hq => Below.heap_setCell _ _ _ _ (nb q hq))
      cases hg : g with
      | true =>
        rw [hg] at P8 c82 HX
        by_cases hv : 0 < vb.length
        · have BAD := Lib.hid (stOf_bad (.inl (lOf_bad (by rw [← HN.out]; exact hlt) (by rw [HX.out]; simp [St.bad]; exact hv))))
          have hvi : (0 : Int) < (vb.length : Int) := by omega
          clear own8
          go_wp2
          refine bodyPost_ret (results_tmp3 rfl _ _ _) rfl ?_
          have TA : Tch w.heap.size [103, 33] wr (w7.setCell ⟨w4.heap.size, 1, none⟩ (.slice A7 vb.length c7)) := (((((T4.out.alloc (by omega) (.cells #[.string (str kb), .slice none 0 0, .bool false] 33)).more (by simp)).trans (T5.out.more (by simp))).trans (T6.out.more (by simp))).trans (T7.out.more (by simp))).trans (T8.out.more (by simp))
          exact RcOk.bad BAD.out (HB.out.trans TA.below)
        · have hv0 := Lib.hid (show vb = [] from List.length_eq_zero_iff.1 (by omega))
          have hvi : ¬ (0 : Int) < (vb.length : Int) := by omega
          have OW := Lib.hid (own8.alloc (.cells #[.string (str kb), .slice A7 vb.length c7, .bool true] 33))
          have M8 := Lib.hid (lies_newput (w7.setCell ⟨w4.heap.size, 1, none⟩ (.slice A7 vb.length c7)) ⟨⟨kb, vb, true⟩, A7, c7⟩ (g := w7.heap.size) (by simp [World.setCell]))
          clear own8
          go_wp2_with (at_builtin; refine wpList_app _ rfl _ _ 22 rfl w.heap.size 33 i0 _ 3 48 Tryz.underlying22 hi iz0 iz1 iz2 rfl (by decide) _ ms.length (pcells ms) rfl OW.out 0 _ 1 1 (MPu.cells ⟨⟨kb, vb, true⟩, A7, c7⟩) 33 rfl rfl M8.out (pcell_one _) (by unfold maxLen; have := ML.out; have := NL.out; omega) (by have := ML.out; have := NL.out; omega) (by simp [World.setCell]; omega) ?_)
          intro v' w9 hown' hgrow _
          obtain ⟨A2, k2, rfl⟩ := own_slice hown'
          have T9 := Lib.hid (grown_tch (B := w.heap.size) (ts := [33]) OW.out hgrow (Nat.le_refl _) (by simp [World.setCell]; omega) (by decide))
          have O9 := Lib.hid hown'
          clear hown' hgrow
          have hwr : IntKind.u64.wrap ((k : Int) + 1) = ((k + 1 : Nat) : Int) := by rw [Fl.wrap_u64]; have := NL.out; omega
          go_wp2
          have z5' : w4.heap.size + 1 ≤ w5.heap.size := by have := z5; simpa using this
          go_roundw
          case rel =>
            have TT : Tch w.heap.size [103, 33] w7 w9 := ((T8.out.alloc (by simp [World.setCell]; omega) (.cells #[.string (str kb), .slice A7 vb.length c7, .bool true] 33)).trans T9.out).more (by simp)
            have TA : Tch w.heap.size [103, 33] wr w9 := (((((T4.out.alloc (by omega) (.cells #[.string (str kb), .slice none 0 0, .bool false] 33)).more (by simp)).trans (T5.out.more (by simp))).trans (T6.out.more (by simp))).trans (T7.out.more (by simp))).trans TT
            refine ⟨k + 1, A2, _, k2, ms ++ [⟨⟨kb, vb, true⟩, A7, c7⟩], by omega, rfl, by go_num, rfl, ?_, ?_, ?_, ?_, ?_, HB.out.trans TA.below⟩
            · rw [pcells_snoc, List.length_append]; exact O9.out
            · intro m hm
              rw [List.mem_append, List.mem_singleton] at hm
              rcases hm with hm | rfl
              · exact own_tch (HA.out m hm) TA (by decide)
              · exact own_tch (own_less O7.out (by simp [World.setCell]; omega)) TT (by decide)
            · rw [lOf_succ, HX.out, pus_snoc, HP.out]
            · rw [pus_snoc, List.any_append, HNB.out]
              simp [St.bad, hv0.out]
            · rw [lOf_succ, HX.out]
              exact (R7.out.tch T8.out (by decide) (by decide)).alloc _ |>.tch T9.out (by decide) (by decide)
          case measure => simp [intOf]; omega
      | false =>
        rw [hg] at P8 c82 HX
        · have hg' := Lib.hid hg
          have OW := Lib.hid (own8.alloc (.cells #[.string (str kb), .slice A7 vb.length c7, .bool false] 33))
          have M8 := Lib.hid (lies_newput (w7.setCell ⟨w4.heap.size, 1, none⟩ (.slice A7 vb.length c7)) ⟨⟨kb, vb, false⟩, A7, c7⟩ (g := w7.heap.size) (by simp [World.setCell]))
          clear own8
          go_wp2_with (at_builtin; refine wpList_app _ rfl _ _ 22 rfl w.heap.size 33 i0 _ 3 48 Tryz.underlying22 hi iz0 iz1 iz2 rfl (by decide) _ ms.length (pcells ms) rfl OW.out 0 _ 1 1 (MPu.cells ⟨⟨kb, vb, false⟩, A7, c7⟩) 33 rfl rfl M8.out (pcell_one _) (by unfold maxLen; have := ML.out; have := NL.out; omega) (by have := ML.out; have := NL.out; omega) (by simp [World.setCell]; omega) ?_)
          intro v' w9 hown' hgrow _
          obtain ⟨A2, k2, rfl⟩ := own_slice hown'
          have T9 := Lib.hid (grown_tch (B := w.heap.size) (ts := [33]) OW.out hgrow (Nat.le_refl _) (by simp [World.setCell]; omega) (by decide))
          have O9 := Lib.hid hown'
          clear hown' hgrow
          have hwr : IntKind.u64.wrap ((k : Int) + 1) = ((k + 1 : Nat) : Int) := by rw [Fl.wrap_u64]; have := NL.out; omega
          go_wp2
          have z5' : w4.heap.size + 1 ≤ w5.heap.size := by have := z5; simpa using this
          go_roundw
          case rel =>
            have TT : Tch w.heap.size [103, 33] w7 w9 := ((T8.out.alloc (by simp [World.setCell]; omega) (.cells #[.string (str kb), .slice A7 vb.length c7, .bool false] 33)).trans T9.out).more (by simp)
            have TA : Tch w.heap.size [103, 33] wr w9 := (((((T4.out.alloc (by omega) (.cells #[.string (str kb), .slice none 0 0, .bool false] 33)).more (by simp)).trans (T5.out.more (by simp))).trans (T6.out.more (by simp))).trans (T7.out.more (by simp))).trans TT
            refine ⟨k + 1, A2, _, k2, ms ++ [⟨⟨kb, vb, false⟩, A7, c7⟩], by omega, rfl, by go_num, rfl, ?_, ?_, ?_, ?_, ?_, HB.out.trans TA.below⟩
            · rw [pcells_snoc, List.length_append]; exact O9.out
            · intro m hm
              rw [List.mem_append, List.mem_singleton] at hm
              rcases hm with hm | rfl
              · exact own_tch (HA.out m hm) TA (by decide)
              · exact own_tch (own_less O7.out (by simp [World.setCell]; omega)) TT (by decide)
            · rw [lOf_succ, HX.out, pus_snoc, HP.out]
            · rw [pus_snoc, List.any_append, HNB.out]
              simp [St.bad]
            · rw [lOf_succ, HX.out]
              exact (R7.out.tch T8.out (by decide) (by decide)).alloc _ |>.tch T9.out (by decide) (by decide)
          case measure => simp [intOf]; omega
    · obtain rfl : k = N := by omega
      obtain ⟨s0, hs0⟩ : ∃ s0, (St.lOf b k).2 = s0 := ⟨_, rfl⟩
      rw [hs0] at HR
      have HS0 := Lib.hid hs0
      have hlti : ¬ (k : Int) < (k : Int) := by omega
      clear hs0
      by_cases he : s0 = some []
      · have GOOD := Lib.hid (stOf_good (b := b) (by rw [← HN.out, ← HP.out]; exact HNB.out) (by rw [← HN.out, HS0.out]; exact he))
        have er : Hid (endOf s0 = 0) := Lib.hid (by rw [he]; rfl)
        clear he
        go_wp2_with fail
        refine (end_rd HR.out).mono ?_
        rw [er.out]
        rintro e w9 ⟨rfl, rfl⟩
        go_wp2
        refine bodyPost_ret (results_tmp3 rfl _ _ _) rfl ?_
        refine ⟨ms, A1, c1, ?_, ⟨lies_own HO.out, fun m hm => ⟨lies_own (HA.out m hm), (own_room (HA.out m hm)).2⟩⟩, ?_, HB.out⟩
        · rw [GOOD.out]
          rfl
        · rw [GOOD.out]
          show _ = (St.lOf b (St.nOf b)).1
          rw [← HN.out]
          exact HP.out
      · have BAD := Lib.hid (stOf_bad (b := b) (.inr (by rw [← HN.out, HS0.out]; exact he)))
        have er : Hid (endOf s0 = 20) := Lib.hid (by
          match s0, he with
          | none, _ => rfl
          | some [], he => exact absurd rfl he
          | some (x :: t), _ => rfl)
        clear he
        go_wp2_with fail
        refine (end_rd HR.out).mono ?_
        rw [er.out]
        rintro e w9 ⟨rfl, rfl⟩
        go_wp2
        refine bodyPost_ret (results_tmp3 rfl _ _ _) rfl ?_
        exact RcOk.bad BAD.out HB.out
end

section
open Go.RowKit Go.Maps

namespace St
/-- The first record: all is nothing. -/
def r0 : List UInt8 := bts true []
theorem r0_eq : r0 = [1, 0] := rfl
theorem opn_app (s t : List (List UInt8)) : ∀ {L M : List KV}, opn L (s ++ t) = some M → ∃ N, opn L s = some N ∧ opn N t = some M := by
  induction s with
  | nil => exact fun {L M} h => ⟨L, rfl, h⟩
  | cons c s ih =>
    intro L M h
    rw [List.cons_append, opn] at h
    split at h
    · rename_i hc
      obtain ⟨N, h1, h2⟩ := ih h
      exact ⟨N, by rw [opn, if_pos hc]; exact h1, h2⟩
    · cases h
theorem opn_step {R : List (List UInt8)} {L : List KV} {k : Nat} {b : List UInt8} (h : opn [] R = some L) (hb : R[k]? = some b) : ∃ M, opn [] (R.take k) = some M ∧ (of b).1 = 0 ∧ opn [] (R.take (k + 1)) = some (hap (if (of b).2.1 = true then [] else M) (of b).2.2) := by
  have hk : k < R.length := by
    rcases Nat.lt_or_ge k R.length with q | q
    · exact q
    · rw [List.getElem?_eq_none q] at hb; cases hb
  have e : R = R.take k ++ (b :: R.drop (k + 1)) := by
    conv => lhs; rw [← List.take_append_drop k R]
    rw [List.drop_eq_getElem_cons hk]
    rw [List.getElem?_eq_getElem hk] at hb
    injection hb with hb
    rw [hb]
  rw [e] at h
  obtain ⟨M, h1, h2⟩ := opn_app _ _ h
  rw [opn] at h2
  split at h2
  · rename_i hc
    refine ⟨M, h1, hc, ?_⟩
    rw [take_next hb]
    exact opn_snoc _ _ h1 hc
  · cases h2
theorem rdB_len (m : Nat) (s : Option (List UInt8)) : (Cd.rdB m s).1.length ≤ m := by
  match h : s with
  | none => simp [rdB_none]
  | some l =>
    cases hs : (Cd.rdB m (some l)).2 with
    | none =>
      unfold Cd.rdB at hs ⊢
      split at hs
      · simp
      · split at hs
        · cases hs
        · rename_i q2
          rw [if_neg q2]; simp
    | some t => exact (Cd.enc_readB hs).2
theorem rdL_sml (n : Nat) : ∀ (s : Option (List UInt8)), ∀ p ∈ (rdL n s).1, p.k.length ≤ 60000 ∧ p.v.length ≤ 60000 := by
  induction n with
  | zero => intro s p hp; simp [rdL] at hp
  | succ n ih =>
    intro s p hp
    rw [rdL] at hp
    rcases List.mem_cons.1 hp with q | q
    · rw [q]
      exact ⟨rdB_len _ _, rdB_len _ _⟩
    · exact ih _ p q
theorem of_sml {b : List UInt8} : (∀ p ∈ (of b).2.2, p.k.length ≤ 60000 ∧ p.v.length ≤ 60000) ∧ (of b).2.2.length ≤ 4096 := by
  unfold of
  split
  · exact ⟨rdL_sml _ _, by show (rdL _ _).1.length ≤ _; rw [rdL_len]; exact (Cd.rdN_lt 4096 _).2⟩
  · exact ⟨fun p hp => by simp at hp, by simp⟩
end St

theorem fmt_fine {n : Int} (hn : 3 ≤ n) : ∃ D1 D2, Wl.format (Dk.new n) = (0, D1) ∧ Wl.openIt D1 = (0, Wl.wal 0 0 []) ∧ 3 ≤ D1.s.length ∧ Wl.Idle D1 ∧ D1.left = -1 ∧ vchg ⟨0, 0, [], false⟩ D1 0 [St.r0] = (0, ⟨1, 0, [St.r0], false⟩, D2) ∧ Wl.Idle D2 ∧ D2.left = -1 ∧ Wl.Good D2 1 0 [St.r0] ∧ D2.s.length = (Dk.new n).s.length := by
  obtain ⟨f1, f2, f3, f4, f5⟩ := format_good hn
  obtain ⟨D1, hD1⟩ : ∃ D, D = (Wl.format (Dk.new n)).2 := ⟨_, rfl⟩
  rw [← hD1] at f2 f3 f4 f5
  have len := f4.len
  obtain ⟨D2, a1, a2, a3, a4, a5⟩ := vchg_fine (s := ⟨0, 0, [], false⟩) (d := D1) (m := [St.r0]) false rfl f2 f3 f4 (Wl.roomE_ok (by simp [St.r0_eq]) (by show ¬ (Wl.ring D1 - 0 < 1); unfold Wl.ring; omega)) (by decide) (by decide)
  exact ⟨D1, D2, Prod.ext f1 hD1.symm, f4.opens f2.clear, len, f2, f3, a1, a2, a3, a4, a5.trans f5⟩

set_option maxHeartbeats 2000000 in
set_option maxRecDepth 100000 in
theorem stFormat_c {w : World} {B : Nat} {G : Nat → Prop} {q : Nat} {n : Int} {D1 D2 : Dk.D} (hS : CS w B G q (Dk.new n)) (hB : B ≤ w.heap.size) (g1 : Wl.format (Dk.new n) = (0, D1)) (g2 : Wl.openIt D1 = (0, Wl.wal 0 0 [])) (g3 : 3 ≤ D1.s.length) (g4 : Wl.Idle D1) (g5 : D1.left = -1) (g6 : vchg ⟨0, 0, [], false⟩ D1 0 [St.r0] = (0, ⟨1, 0, [St.r0], false⟩, D2)) :
    Calls Tryz.prog 14 #[.pointer (some ⟨q, 0, none⟩)] w fun e w' => e = .returned (.int .i64 0) ∧ (∃ G2, CS w' B G2 q D2) ∧ Below B w w' := by
  have H0 := Lib.hid hS
  have G1 := Lib.hid g1
  have G2 := Lib.hid g2
  have G3 := Lib.hid g3
  have G4 := Lib.hid g4
  have G5 := Lib.hid g5
  have G6 := Lib.hid g6
  clear hS g1 g2 g3 g4 g5 g6
  go_enter Tryz.func14, Tryz.ntmps14
  go_wp2_with fail
  refine (vFormat_c H0.out.cd H0.out.old_lt (Dk.new_ok n) (by show (-1 : Int) ≤ _; decide) (by show 0 ≤ _; decide)).mono ?_
  rw [G1.out]
  intro e w1 hp
  obtain ⟨rfl, G1', hs1⟩ := CdOk.step H0.out hB hp
  have S1 := Lib.hid hs1.cs
  have B1 := Lib.hid hs1.below
  have z1 : B ≤ w1.heap.size := by have := hs1.below.size; omega
  clear hp hs1
  go_wp2_with fail
  refine (vOpen_c S1.out.cd S1.out.old_lt G4.out.ok (by rw [G4.out.cache]; decide) G3.out).mono ?_
  rw [G2.out]
  intro e w3 hp
  obtain ⟨pw, s, AR, cR, ms, rfl, hsw, _, _, hc3, _, _, hb3⟩ := hp.good S1.out z1 rfl
  have hs0 := VS.of_wal (g := 0) (h := 0) (l := []) hsw
  subst hs0
  have C3 := Lib.hid hc3
  have B3 := Lib.hid (B1.out.trans (hb3.mono z1))
  have z3 : B ≤ w3.heap.size := by have := B3.out.size; omega
  clear hp hc3 hb3 hsw
  go_wp2_with fail
  refine (record_c (all := true) (ms := []) (A := none) (n := 0) (c := 0) (B := 0) (tp := 0) (tb := 0) UL.nil rfl (by decide) (by simp)).mono ?_
  rintro e w4 ⟨A4, n4, c4, rfl, ho4, hb4⟩
  have er : St.bts true (pus []) = St.r0 := rfl
  rw [er] at ho4
  obtain ⟨en, hc4⟩ := own_room ho4
  have en2 : n4 = 2 := by rw [en, St.r0_eq]; rfl
  subst en2
  have O4 := Lib.hid ho4
  have C4 := Lib.hid (C3.out.keep hb4)
  have B34 := Lib.hid hb4
  have B4 := Lib.hid (B3.out.trans (hb4.mono z3))
  have z4 := hb4.size
  clear ho4 hb4 en er
  go_wp2_with fail
  have B46 : Below w4.heap.size w4 (w4.alloc (.cells #[.slice A4 2 c4] 23)) := (Below.refl _ w4).alloc (Nat.le_refl _) _
  have TX : Txs (w4.alloc (.cells #[.slice A4 2 c4] 23)) G1' (some ⟨w4.heap.size, 0, none⟩) [⟨St.r0, A4, c4⟩] :=
    txs_one (wz := w4) (base := w3.heap.size) (b := St.r0) (lies_own O4.out) rfl hc4 (fun ad e => ⟨InF.of_own (F := fun k => w3.heap.size ≤ k) O4.out (fun k hk => hk) ad e, own_lt O4.out ad e⟩) C3.out.x.go z4 (by decide) rfl
  have sz6 : (w4.alloc (.cells #[.slice A4 2 c4] 23)).heap.size = w4.heap.size + 1 := by simp
  have C6 := Lib.hid (C4.out.keep B46)
  have B6 := Lib.hid (B4.out.trans (B46.mono (by omega)))
  have ADD := vAdd_c (s := ⟨0, 0, [], false⟩) (c := 1) (n := 1) C6.out.x G4.out.ok (i64_of G5.out) (by rw [G4.out.cache]; decide) (U64.of (by decide)) TX rfl (by decide) (show U64 (0 + Wl.needs [] + Wl.needs [St.r0]) from U64.of (by decide))
  rw [show vchg ⟨0, 0, [], false⟩ D1 0 (txs [(⟨St.r0, A4, c4⟩ : MTx)]) = (0, ⟨1, 0, [St.r0], false⟩, D2) from G6.out] at ADD
  refine ADD.mono ?_
  clear ADD TX B46
  intro e w7 hp
  obtain ⟨rfl, E7, G7, hs7⟩ := VOk.step C6.out (by omega) hp
  have S7 := Lib.hid hs7.cs.cs
  have B7 := Lib.hid (B6.out.trans hs7.below)
  clear hp hs7
  go_wp2
  go_ret
  exact ⟨rfl, ⟨G7, S7.out⟩, B7.out⟩

theorem heap_alloc_new_map (w : World) : (w.alloc (.map #[] 0)).heap[w.heap.size]? = some (.map #[] 0) := World.alloc_heap_new w _

set_option maxHeartbeats 4000000 in
set_option maxRecDepth 100000 in
theorem stOpen_c {w : World} {B : Nat} {G : Nat → Prop} {q : Nat} {d : Dk.D} {g h : Nat} {R : List (List UInt8)} {L : List St.KV} (hS : CS w B G q d) (hB : B ≤ w.heap.size) (i : Wl.Idle d) (t : Wl.Good d g h R) (hne : R ≠ []) (ho : St.opn [] R = some L) (hR : R.length ≤ 10000) :
    Calls Tryz.prog 15 #[.pointer (some ⟨q, 0, none⟩)] w fun e w' => ∃ E V sp pw mb, e = .returned (.tuple #[.pointer (some ⟨sp, 0, none⟩), .int .i64 0]) ∧ SS w' B E G V sp pw q mb ⟨g, h, R, false⟩ d L false ∧ Below w.heap.size w w' := by
  have H0 := Lib.hid hS
  have OP := Lib.hid (t.opens i.clear)
  have IO := Lib.hid i.ok
  have IC := Lib.hid i.cache
  have TL3 := Lib.hid t.len
  have SM := Lib.hid t.small
  have HO := Lib.hid ho
  have HN : Hid (0 < R.length) := Lib.hid (List.length_pos_iff.2 hne)
  have HR := Lib.hid hR
  clear hS i t hne ho hR
  go_enter Tryz.func15, Tryz.ntmps15
  go_wp2_with fail
  refine (vOpen_c H0.out.cd H0.out.old_lt IO.out (by rw [IC.out]; decide) TL3.out).mono ?_
  rw [OP.out]
  intro e w1 hp
  obtain ⟨pw, s, AR, cR, ms, rfl, hsw, _, hms, hc1, hr1, hf1, hb1⟩ := hp.good H0.out hB rfl
  have hs0 := VS.of_wal (g := g) (h := h) (l := R) hsw
  subst hs0
  have hml : ms.length = R.length := by rw [← txs_len ms, hms]
  have C1 := Lib.hid hc1
  have MS := Lib.hid hms
  have R1 := Lib.hid hr1
  have F1 := Lib.hid hf1
  have B1 := Lib.hid hb1
  have z1 := hb1.size
  have ML := Lib.hid hml
  have hne : ((ms.length : Int) == 0) = false := by have := HN.out; rw [beq_eq_false_iff_ne]; omega
  obtain ⟨nm, hnm⟩ : ∃ nm, nm = ms.length := ⟨_, rfl⟩
  have HNM := Lib.hid hnm
  rw [← hnm] at R1 hne ⊢
  clear hp hc1 hr1 hf1 hb1 hsw hms hml hnm
  have hmm := @run_makeMap Tryz.prog
  go_wp2_with fail
  obtain ⟨w2, hw2⟩ : ∃ w2, w1.alloc (.map #[] 0) = w2 := ⟨_, rfl⟩
  rw [hw2]
  have b12 : Below w1.heap.size w1 w2 := by rw [← hw2]; exact (Below.refl _ w1).alloc (Nat.le_refl _) _
  have sz2 : w2.heap.size = w1.heap.size + 1 := by rw [← hw2]; simp
  have mb2 : w2.heap[w1.heap.size]? = some (.map #[] 0) := by rw [← hw2]; exact heap_alloc_new_map w1
  have km2 : KM w2 (fun k => w2.heap.size ≤ k) w1.heap.size 0 (.map []) [] := KM.empty (by rw [← hw2]; exact World.ownsMap_made w1 _ _ _)
  have X2 := Lib.hid ((lies_own (B := 0) R1.out).below (Nat.zero_le _) b12)
  have F2 := Lib.hid (fun m hm => ((F1.out m hm).1.1.below (Nat.zero_le _) b12))
  have MB2 := Lib.hid mb2
  have KM2 := Lib.hid km2
  have B12 := Lib.hid b12
  have SZ2 := Lib.hid sz2
  clear b12 mb2 km2 sz2 hw2 hmm hne
  have nmb : nm ≤ 10000 := by have := HR.out; have := ML.out; have := HNM.out; omega
  go_loopw [28] (fun i wr => ∃ (k : Nat) (D' : DataW Value) (L' : List St.KV), k ≤ nm ∧ i = .int .i64 (k : Int) ∧ St.opn [] (R.take k) = some L' ∧ L'.length ≤ 4096 * k ∧ KM wr (fun k => w2.heap.size ≤ k) w1.heap.size L'.length D' L' ∧ But (fun k => k = w1.heap.size) w2.heap.size w2 wr) (fun i _ => nm - (intOf i).toNat)
  case atStart => exact ⟨0, _, [], Nat.zero_le _, rfl, rfl, by simp, KM2.out, But.refl _ _ _⟩
  case round =>
    obtain ⟨k, D', L', hk, rfl, hopn, hll, hKr, hbt⟩ := hrel
    have hzr := hbt.size
    have OPN := Lib.hid hopn
    have LL := Lib.hid hll
    have KR := Lib.hid hKr
    have BT := Lib.hid hbt
    have szR := Lib.hid hzr
    clear hopn hll hKr hbt
    by_cases hlt : k < nm
    · obtain ⟨m, hmk⟩ : ∃ m, ms[k]? = some m := ⟨_, List.getElem?_eq_getElem (by rw [← HNM.out]; exact hlt)⟩
      have hbk : R[k]? = some m.b := by rw [← MS.out]; simp [txs, hmk]
      obtain ⟨M, hM1, hM2, hM3⟩ := St.opn_step HO.out hbk
      obtain rfl : L' = M := by rw [OPN.out] at hM1; injection hM1
      have keep := fun b h1 (h2 : b ≠ w1.heap.size) => BT.out.block b h1 h2
      have lx := X2.out.keepM MB2.out keep
      obtain ⟨ad, rfl, hc⟩ := lx.at_ (k := k) (by rw [tcells_len, ← HNM.out]; exact hlt)
      have hc2 : wr.cell? (ad.add k) = some (.slice m.A m.b.length m.c) := by
        rw [hc]
        have : (tcells ms)[k]? = some m.cell := by simp [tcells, hmk]
        rw [List.getElem?_eq_getElem (by rw [tcells_len, ← HNM.out]; exact hlt)] at this
        exact this
      have OF := Lib.hid (stOf_c (c := m.c) ((F2.out m (List.mem_of_getElem? hmk)).keepM MB2.out keep) (Nat.zero_le _) rfl (by have := SM.out m.b (List.mem_of_getElem? hbk); omega))
      obtain ⟨ee, al, pl, hof⟩ : ∃ ee al pl, St.of m.b = (ee, al, pl) := ⟨_, _, _, rfl⟩
      have ofs := St.of_sml (b := m.b)
      rw [hof] at hM2 hM3 ofs
      dsimp only at hM2 hM3 ofs
      subst hM2
      have M3 := Lib.hid hM3
      have OS := Lib.hid ofs
      have HOF := Lib.hid hof
      clear hM1 hM3 ofs hof lx hc keep hbk hmk
      go_wp2_with fail
      refine OF.out.mono ?_
      rintro e w5 ⟨us, A5, c5, rfl, hul, hpu, hb5⟩
      rw [HOF.out] at hpu ⊢
      dsimp only at hpu ⊢
      have U5 := Lib.hid hul
      have PU := Lib.hid hpu
      have B5 := Lib.hid hb5
      have K5 := Lib.hid (KR.out.below hb5)
      have z5 := hb5.size
      have US := Lib.hid (show us.length ≤ 4096 ∧ ∀ m ∈ us, m.p.k.length ≤ 60000 ∧ m.p.v.length ≤ 60000 from ⟨by have := OS.out.2; rw [← hpu, pus_len] at this; exact this, fun m hm => OS.out.1 m.p (by rw [← hpu]; exact List.mem_map.2 ⟨m, hm, rfl⟩)⟩)
      obtain ⟨es5, ck5, hmb5, _⟩ := K5.out.own
      have MB5 := Lib.hid hmb5
      clear hul hpu hb5 hmb5
      have BT5 := Lib.hid (BT.out.trans (But.of_below (B5.out.mono hzr) (fun k => k = w1.heap.size)))
      cases al with
      | false =>
        go_wp2_with fail
        refine (happen_c (c := c5) U5.out rfl (by have := US.out.1; omega) US.out.2 K5.out (fun k hk => by show w2.heap.size ≤ k; omega) (fun k hk => by have hk' : w2.heap.size ≤ k := hk; have := SZ2.out; omega) (by have := LL.out; have := HR.out; have := ML.out; have := HNM.out; omega)).mono ?_
        rintro e w7 ⟨rfl, ⟨n7, D7, hn7, hk7⟩, hbt7⟩
        have K7 := Lib.hid hk7.fit
        have BT7 := Lib.hid (BT5.out.trans (hbt7.mono (show w2.heap.size ≤ w5.heap.size by omega) (fun _ q => q)))
        clear hk7 hbt7
        go_wp2
        go_roundw
        case rel =>
          refine ⟨k + 1, D7, St.hap L' (pus us), by omega, by go_num, ?_, ?_, K7.out, BT7.out⟩
          · rw [PU.out]; exact M3.out
          · have := St.hap_len (l := pus us) (L := L')
            rw [pus_len] at this
            have := US.out.1
            have := LL.out
            omega
        case measure => simp [intOf]; omega
      | true =>
        obtain ⟨w6, hrun6, hown6, hgr6⟩ := map_clear (t := 87) K5.out.own Tryz.underlying87 0
        have K6 := Lib.hid (KM.empty (V := fun k => w2.heap.size ≤ k) hown6)
        have z6 := hgr6.size
        have U6 := Lib.hid (U5.out.keepM MB5.out (w' := w6) (fun b h1 h2 => hgr6.block b h1 (fun e => h2 (by injection e))))
        have BT6 := Lib.hid (BT5.out.grown hgr6 (by omega) (fun k e => by injection e with e; exact .inl e.symm))
        clear hown6 hgr6
        go_wp2_with (at_builtin; refine wpList_clear_run rfl _ _ rfl _ rfl hrun6 ?_)
        refine (happen_c (c := c5) U6.out rfl (by have := US.out.1; omega) US.out.2 K6.out (fun k hk => by show w2.heap.size ≤ k; omega) (fun k hk => by have hk' : w2.heap.size ≤ k := hk; have := SZ2.out; omega) (by decide)).mono ?_
        rintro e w7 ⟨rfl, ⟨n7, D7, hn7, hk7⟩, hbt7⟩
        have K7 := Lib.hid hk7.fit
        have BT7 := Lib.hid (BT6.out.trans (hbt7.mono (show w2.heap.size ≤ w6.heap.size by omega) (fun _ q => q)))
        clear hk7 hbt7
        go_wp2
        go_roundw
        case rel =>
          refine ⟨k + 1, D7, St.hap [] (pus us), by omega, by go_num, ?_, ?_, K7.out, BT7.out⟩
          · rw [PU.out]; exact M3.out
          · have := St.hap_len (l := pus us) (L := [])
            rw [pus_len] at this
            have h0 : ([] : List St.KV).length = 0 := rfl
            rw [h0] at this
            have := US.out.1
            omega
        case measure => simp [intOf]; omega
    · obtain rfl : k = nm := by omega
      have el : R.take k = R := List.take_of_length_le (by have := ML.out; have := HNM.out; omega)
      have e2 : L' = L := by have := OPN.out; rw [el, HO.out] at this; injection this with this; exact this.symm
      subst e2
      have B1R := Lib.hid (B12.out.trans ((BT.out.mono (show w1.heap.size ≤ w2.heap.size by have := SZ2.out; omega) (fun _ q => q)).below (fun k q e => by have e' : k = w1.heap.size := e; omega)))
      have b19 : Below w1.heap.size w1 (wr.alloc (.cells #[.pointer (some ⟨pw, 0, none⟩), .map (some w1.heap.size), .bool false] 90)) := B1R.out.alloc B1R.out.size _
      have bR9 : Below wr.heap.size wr (wr.alloc (.cells #[.pointer (some ⟨pw, 0, none⟩), .map (some w1.heap.size), .bool false] 90)) := (Below.refl _ wr).alloc (Nat.le_refl _) _
      have sz9 : (wr.alloc (.cells #[.pointer (some ⟨pw, 0, none⟩), .map (some w1.heap.size), .bool false] 90)).heap.size = wr.heap.size + 1 := by simp
      have fin : SS (wr.alloc (.cells #[.pointer (some ⟨pw, 0, none⟩), .map (some w1.heap.size), .bool false] 90)) B (fun k => w.heap.size ≤ k ∧ k < w1.heap.size) G (fun k => w2.heap.size ≤ k ∧ k < wr.heap.size) wr.heap.size pw q w1.heap.size ⟨g, h, R, false⟩ d L' false := by
        have s2 := SZ2.out
        have go := C1.out.x.go
        refine ⟨C1.out.keep b19, heap_alloc_new wr _, ⟨D', KR.out.narrow.below bR9⟩, fun k hk => ?_, ⟨by omega, fun e => by omega, fun e => by have := go _ e; omega⟩, ⟨by omega, fun e => by omega, fun e => by have := go _ e; omega⟩⟩
        have hk1 : w2.heap.size ≤ k := hk.1
        exact ⟨by rw [sz9]; have := hk.2; omega, by omega, fun e => by have := e.2; omega, fun e => by have := go _ e; omega, by have := hk.2; omega⟩
      have FIN := Lib.hid fin
      have BF := Lib.hid (B1.out.trans (b19.mono z1))
      clear fin b19 bR9 sz9
      go_wp2
      go_ret2
      exact ⟨_, _, _, pw, _, rfl, FIN.out, BF.out⟩
end
end Go.Proofs.YtpnfpeeijghamaaGreat
