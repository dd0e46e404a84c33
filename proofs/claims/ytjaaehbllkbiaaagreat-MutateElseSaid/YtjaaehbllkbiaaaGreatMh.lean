/- Stage 11: the walk of MutateElse (written by wip/gen11.py). -/
import Derived.Test.YtjaaehbllkbiaaaGreatMf
import Derived.Test.YtjaaehbllkbiaaaGreatTaa
namespace Go.Proofs.YtjaaehbllkbiaaaGreat
open Go.RowKit Go.Lib
set_option maxRecDepth 100000

set_option linter.unusedSimpArgs false in
set_option maxHeartbeats 4000000 in
set_option maxRecDepth 100000 in
theorem mutateElse_c {s : MSt} {m : T9.Mu} {w : World} (hs : SM s w) (ks : s.st.ok) (fs : s.far) (km : m.ok) :
  Calls Tryz.prog 5 #[s.val, m.val] w fun e w' => e = .returned (.bool true) ∧ Below w.heap.size w w' := by
 obtain ⟨w0, hw0⟩ : ∃ u, w.alloc (.cells #[.slice s.A s.ls.length s.c, .slice s.A2 s.ms.length s.c2] 25) = u := ⟨_, rfl⟩
 obtain ⟨pb0, b0, z0⟩ := new_two hw0
 obtain ⟨w1, hw1⟩ : ∃ u, w0.alloc (.cells #[.int .i64 m.kind, .int .u64 (m.id : Int), .int .u64 (m.list : Int), .string (str m.text), .float .f64 m.f, .bool m.flag] 29) = u := ⟨_, rfl⟩
 obtain ⟨pb1, b1, z1⟩ := new_six11 hw1
 have B1 : Hid (Below w.heap.size w w1) := Lib.hid (b0.trans (b1.mono (by omega)))
 have S1 : Hid (SBox s w.heap.size w1) := Lib.hid ⟨blk_keep pb0 b1, hs.stay B1.out⟩
 have M1 : Hid (MBox m w0.heap.size w1) := Lib.hid pb1
 have KS := Lib.hid ks
 have FS := Lib.hid fs
 have KM := Lib.hid km
 have AW := Lib.hid (awake11_c w1)
 unfold MSt.val T9.Mu.val
 clear hs ks fs km pb0 b0 z0 pb1 b1 z1
 go_enter Tryz.func5, Tryz.ntmps5
 go_wp2_with fail
 refine AW.out.mono ?_
 rintro e w2 ⟨rfl, h2⟩
 have S2 := Lib.hid (S1.out.stay h2)
 have M2 := Lib.hid (M1.out.stay h2)
 have B2 := Lib.hid (B1.out.trans (h2.mono B1.out.size))
 clear h2
 obtain ⟨x0, x1⟩ := S2.out.cells
 have LS := Lib.hid (light9_c (c := s.c) (c2 := s.c2) S2.out.s.l S2.out.s.k rfl rfl FS.out)
 go_wp2_with fail
 refine LS.out.mono ?_
 rintro e w3 ⟨bb, rfl, hb, h3⟩
 have S3 := Lib.hid (S2.out.stay h3)
 have M3 := Lib.hid (M2.out.stay h3)
 have B3 := Lib.hid (B2.out.trans (h3.mono B2.out.size))
 clear h3 x0 x1
 cases bb with
 | false =>
  clear hb
  go_wp2_with fail
  go_ret
  exact ⟨rfl, B3.out⟩
 | true =>
  have LTS := Lib.hid (hb rfl)
  clear hb
  obtain ⟨m0, m1, m2, m3, m4, m5⟩ := six_cells11 M3.out
  obtain ⟨lb, hlb⟩ : ∃ b, decide (m.text.length ≤ 200) = b := ⟨_, rfl⟩
  have LM := Lib.hid (light11_c (m := m) (w := w3))
  unfold T9.Mu.val at LM
  rw [hlb] at LM
  have HLB := Lib.hid hlb
  clear hlb
  go_wp2_with fail
  refine LM.out.mono ?_
  rintro e w4 ⟨rfl, h4⟩
  have S4 := Lib.hid (S3.out.stay h4)
  have M4 := Lib.hid (M3.out.stay h4)
  have B4 := Lib.hid (B3.out.trans (h4.mono B3.out.size))
  clear h4 m0 m1 m2 m3 m4 m5
  cases lb with
  | false =>
   go_wp2_with fail
   go_ret
   exact ⟨rfl, B4.out⟩
  | true =>
   have TL := Lib.hid (of_decide_eq_true HLB.out)
   obtain ⟨x0, x1⟩ := S4.out.cells
   obtain ⟨m0, m1, m2, m3, m4, m5⟩ := six_cells11 M4.out
   have AC := Lib.hid (mutApply_c S4.out.s LTS.out KS.out TL.out KM.out)
   unfold MSt.val T9.Mu.val at AC
   go_wp2_with fail
   refine AC.out.mono ?_
   rintro e w5 ⟨q, er, rfl, hq, h5, hst, her⟩
   unfold MSt.val
   obtain ⟨w6, hw6⟩ : ∃ u, w5.alloc (.cells #[.slice q.A q.ls.length q.c, .slice q.A2 q.ms.length q.c2] 25) = u := ⟨_, rfl⟩
   obtain ⟨qb, b6, z6⟩ := new_two hw6
   have h6 := h5.trans (b6.mono h5.size)
   have S6 := Lib.hid (S4.out.stay h6)
   have M6 := Lib.hid (M4.out.stay h6)
   have Q6 : Hid (SBox q w5.heap.size w6) := Lib.hid ⟨qb, hq.stay b6⟩
   have B6 := Lib.hid (B4.out.trans (h6.mono B4.out.size))
   obtain ⟨q0, q1⟩ := Q6.out.cells
   have HST := Lib.hid hst
   have HER := Lib.hid her
   clear hq h5 hst her qb b6 z6 h6 x0 x1 m0 m1 m2 m3 m4 m5
   by_cases e0 : er = 0
   ·subst e0
    have ez : ((0 : Int) != 0) = false := by decide
    obtain ⟨a1, a2, a3, a4⟩ := applyM_ok HER.out.symm
    have R1 := Lib.hid a1
    have R2 := Lib.hid a2
    have R3 := Lib.hid a3
    have QS : Hid (q.st = (T9.doM s.st m).2) := Lib.hid (by rw [HST.out, a4])
    have QR : Hid (T9.rightE q.st = 0) := Lib.hid (by rw [QS.out]; exact T9.doM_right a1 a2 a3)
    have QK : Hid (∀ t ∈ s.st.tasks, T9.namedT m t = false → T9.findK (tks q.ms) t.id = (t, true)) := Lib.hid fun t ht hn => by
     have z : t ∈ q.st.tasks := by rw [QS.out]; exact T9.doM_tasks a1 ht hn
     exact T9.findK_one (T9.right_uni QR.out) z
    have QL : Hid (∀ l ∈ s.st.lists, (T9.ofL m.kind && l.id == m.id) = false → T9.findL q.ls l.id = (l, true)) := Lib.hid fun l hl hn => by
     have z : l ∈ q.st.lists := by rw [QS.out]; exact T9.doM_lists hl hn
     exact T9.findL_one (T9.listsE_iff.1 (T9.rightE_parts QR.out).2.2.1).2 z
    have QN : Hid (q.ms.length ≤ s.ms.length + 1 ∧ q.ls.length ≤ s.ls.length + 1) := Lib.hid (by
     have z := T9.doM_len s.st m
     rw [← QS.out] at z
     have e1 : q.st.tasks.length = q.ms.length := tks_len _
     have e2 : s.st.tasks.length = s.ms.length := tks_len _
     rw [e1, e2] at z
     exact z)
    have NS : Hid (s.ls.length ≤ 25 ∧ s.ms.length ≤ 70) := Lib.hid ⟨LTS.out.nl, by have := LTS.out.nt; rw [tks_len] at this; exact this⟩
    have SHT : Hid (∀ p ∈ s.ms, p.t.short ∧ p.t.ok) := Lib.hid fun p hp => ⟨LTS.out.short.2.1 p.t (List.mem_map.2 ⟨p, hp, rfl⟩), KS.out.2 p.t (List.mem_map.2 ⟨p, hp, rfl⟩)⟩
    clear a1 a2 a3 a4 q0 q1
    obtain ⟨ls, A, c, ms, A2, c2⟩ := s
    dsimp only at *
    have K6 : Hid (KL w6 A2 ms) := Lib.hid S6.out.s.k
    have L6 : Hid (LL w6 A ls) := Lib.hid S6.out.s.l
    obtain ⟨n2, hn2⟩ : ∃ n, n = ms.length := ⟨_, rfl⟩
    obtain ⟨n1, hn1⟩ : ∃ n, n = ls.length := ⟨_, rfl⟩
    obtain ⟨k2, hk2⟩ : ∃ n, n = q.ms.length := ⟨_, rfl⟩
    obtain ⟨k1, hk1⟩ : ∃ n, n = q.ls.length := ⟨_, rfl⟩
    have N2 := Lib.hid hn2
    have N1 := Lib.hid hn1
    have KK2 := Lib.hid hk2
    have KK1 := Lib.hid hk1
    have sb6 : w6.heap[w.heap.size]? = some (.cells #[.slice A n1 c, .slice A2 n2 c2] 25 (0, 0)) := by rw [hn1, hn2]; exact S6.out.b
    have qb6 : w6.heap[w5.heap.size]? = some (.cells #[.slice q.A k1 q.c, .slice q.A2 k2 q.c2] 25 (0, 0)) := by rw [hk1, hk2]; exact Q6.out.b
    have SB6 := Lib.hid sb6
    have QB6 := Lib.hid qb6
    have n2b : n2 ≤ 70 := by rw [hn2]; exact NS.out.2
    have n1b : n1 ≤ 25 := by rw [hn1]; exact NS.out.1
    have k2n : k2 ≤ n2 + 1 := by rw [hn2, hk2]; exact QN.out.1
    have k1n : k1 ≤ n1 + 1 := by rw [hn1, hk1]; exact QN.out.2
    rw [← hn1, ← hn2, ← hk1, ← hk2]
    rw [← hk1, ← hk2] at hw6
    obtain ⟨m0, m1, m2, m3, m4, m5⟩ := six_cells11 M6.out
    obtain ⟨x0, x1⟩ := two_cells sb6
    obtain ⟨q0, q1⟩ := two_cells qb6
    clear sb6 qb6 hn1 hn2 hk1 hk2
    by_cases hk : m.kind = 1
    ·skip
     have e1 : (m.kind == 1) = true := by rw [beq_iff_eq]; omega
     have e2 : (m.kind == 2) = false := by rw [beq_eq_false_iff_ne]; omega
     have e12 : (m.kind == 12) = false := by rw [beq_eq_false_iff_ne]; omega
     have e13 : (m.kind == 13) = false := by rw [beq_eq_false_iff_ne]; omega
     have HK := Lib.hid hk
     clear hk
     go_wp2_with fail
     go_loopw [60] (fun s60 wr => ∃ i : Nat, s60 = .int .i64 i ∧ i ≤ n2 ∧ Aside (Below w6.heap.size w6 wr)) (fun s60 _ => n2 - (intOf s60).toNat)
     case atStart => exact ⟨0, rfl, Nat.zero_le _, Below.refl _ _⟩
     case round =>
      obtain ⟨i, rfl, hi, hB⟩ := hrel
      have BR := Lib.hid hB.out
      clear hB m0 m1 m2 m3 m4 m5 x0 x1 q0 q1
      by_cases hlt : i < n2
      ·have hltz : (i : Int) < (n2 : Int) := by omega
       obtain ⟨ad, ⟨tk, A5, c5⟩, hA, hx, hf, r0, r1, r2, r3, r4, r5, r6⟩ := (K6.out.stay BR.out).at_ (k := i) (by have := N2.out; omega)
       subst hA
       have X := Lib.hid hx
       have FI := Lib.hid hf
       dsimp only at r0 r1 r2 r3 r4 r5 r6
       obtain ⟨wt, hwt⟩ : ∃ u, wr.alloc (.cells #[.int .u64 (tk.id : Int), .int .u64 (tk.list : Int), .string (str tk.title), .bool tk.done, .float .f64 tk.rank, .float .f64 tk.est, .slice A5 tk.tags.length c5] 45) = u := ⟨_, rfl⟩
       obtain ⟨tb, bt, zt⟩ := new_seven hwt
       have TB := Lib.hid tb
       have BTr := Lib.hid bt
       have BT := Lib.hid (BR.out.trans (bt.mono BR.out.size))
       obtain ⟨t0, t1, t2, t3, t4, t5, t6⟩ := seven_cells tb
       obtain ⟨q0, q1⟩ := two_cells (blk_keep QB6.out BT.out)
       have RT := Lib.hid (refTask_c (A := q.A) (n1 := k1) (c := q.c) (c2 := q.c2) (Q6.out.stay BT.out).s.k KK2.out (by omega) tk.id)
       unfold FKOk at RT
       clear hx hf tb bt zt
       have NM : Hid (T9.namedT m tk = false) := Lib.hid (by unfold T9.namedT T9.ofL; rw [HK.out]; simp)
       have FK : Hid (T9.findK (tks q.ms) tk.id = (tk, true)) := Lib.hid (QK.out tk (List.mem_map.2 ⟨_, List.mem_of_getElem? X.out, rfl⟩) NM.out)
       rw [FK.out] at RT
       go_wp2_with fail
       refine RT.out.mono ?_
       rintro e wu ⟨⟨tu, A7, c7⟩, rfl, htu, hfu, hu⟩
       dsimp only at htu
       subst htu
       unfold encK
       dsimp only
       obtain ⟨wv, hwv⟩ : ∃ u, wu.alloc (.cells #[.int .u64 (tu.id : Int), .int .u64 (tu.list : Int), .string (str tu.title), .bool tu.done, .float .f64 tu.rank, .float .f64 tu.est, .slice A7 tu.tags.length c7] 45) = u := ⟨_, rfl⟩
       obtain ⟨vb, bv, zv⟩ := new_seven hwv
       have Bv := Lib.hid ((BT.out.trans (hu.mono BT.out.size)).trans (bv.mono (by have := BT.out.size; have := hu.size; omega)))
       obtain ⟨u0, u1, u2, u3, u4, u5, u6⟩ := seven_cells vb
       obtain ⟨t0, t1, t2, t3, t4, t5, t6⟩ := seven_cells ((bv.block wr.heap.size (by have := lt_of_block TB.out; have := hu.size; omega)).trans ((hu.block wr.heap.size (lt_of_block TB.out)).trans TB.out))
       obtain ⟨m0, m1, m2, m3, m4, m5⟩ := six_cells11 (M6.out.stay Bv.out)
       have CT := Lib.hid (refSameTask_c (a := ⟨tu, A5, c5⟩) (b := ⟨tu, A7, c7⟩) (w := wv) ((FI.out.stay BTr.out).stay (hu.trans (bv.mono hu.size))) (hfu.stay bv) (SHT.out _ (List.mem_of_getElem? X.out)).1 (SHT.out _ (List.mem_of_getElem? X.out)).1 (SHT.out _ (List.mem_of_getElem? X.out)).2 (SHT.out _ (List.mem_of_getElem? X.out)).2)
       rw [T9.same1_refl] at CT
       unfold encK at CT
       dsimp only at CT
       clear hfu hu vb bv zv
       go_wp2_with fail
       refine CT.out.mono ?_
       rintro e wz ⟨rfl, hz⟩
       have Bz := Lib.hid (Bv.out.trans (hz.mono Bv.out.size))
       clear hz
       go_wp2_with fail
       go_roundw
       case rel => exact ⟨i + 1, by go_num, by omega, Bz.out⟩
       case measure => simp [intOf]; omega
      ·obtain rfl : i = n2 := by omega
       have hltz : ¬ ((i : Int) < (i : Int)) := by omega
       obtain ⟨m0, m1, m2, m3, m4, m5⟩ := six_cells11 (M6.out.stay BR.out)
       obtain ⟨x0, x1⟩ := two_cells (blk_keep SB6.out BR.out)
       obtain ⟨q0, q1⟩ := two_cells (blk_keep QB6.out BR.out)
       have z2 : (k2 : Int) ≤ (i : Int) + 1 := by omega
       go_wp2_with fail
       go_loopw [122] (fun s122 wr => ∃ j : Nat, s122 = .int .i64 j ∧ j ≤ n1 ∧ Aside (Below w6.heap.size w6 wr)) (fun s122 _ => n1 - (intOf s122).toNat)
       case atStart => exact ⟨0, rfl, Nat.zero_le _, BR.out⟩
       case round =>
        clear BR hi
        obtain ⟨j, rfl, hj, hB⟩ := hrel
        have BR := Lib.hid hB.out
        clear hB m0 m1 m2 m3 m4 m5 x0 x1 q0 q1
        by_cases hlt : j < n1
        ·have hltz : (j : Int) < (n1 : Int) := by omega
         obtain ⟨ad, l, hA, hx, r0, r1⟩ := (L6.out.stay BR.out).at_ (k := j) (by have := N1.out; omega)
         subst hA
         have X := Lib.hid hx
         obtain ⟨wt, hwt⟩ : ∃ u, wr.alloc (.cells #[.int .u64 (l.id : Int), .string (str l.name)] 50) = u := ⟨_, rfl⟩
         obtain ⟨tb, bt, zt⟩ := new_two hwt
         have TB := Lib.hid tb
         have BT := Lib.hid (BR.out.trans (bt.mono BR.out.size))
         obtain ⟨t0, t1⟩ := two_cells tb
         obtain ⟨q0, q1⟩ := two_cells (blk_keep QB6.out BT.out)
         have RL := Lib.hid (refList_c (A2 := q.A2) (n2 := k2) (c := q.c) (c2 := q.c2) (Q6.out.stay BT.out).s.l KK1.out (by omega) l.id)
         unfold FLOk at RL
         clear hx tb bt zt
         by_cases h1 : l.id = m.id
         ·have f1 : ((l.id : Int) == (m.id : Int)) = true := by rw [h1]; exact beq_self_eq_true _
          clear h1
          obtain ⟨ib, hib⟩ : ∃ b, (T9.findL q.ls l.id).2 = b := ⟨_, rfl⟩
          obtain ⟨lu, hlu⟩ : ∃ b, (T9.findL q.ls l.id).1 = b := ⟨_, rfl⟩
          rw [hib, hlu] at RL
          unfold encL at RL
          clear hib hlu
          go_wp2_with fail
          refine RL.out.mono ?_
          rintro e wu ⟨rfl, hu⟩
          obtain ⟨wv, hwv⟩ : ∃ u, wu.alloc (.cells #[.int .u64 (lu.id : Int), .string (str lu.name)] 50) = u := ⟨_, rfl⟩
          obtain ⟨vb, bv, zv⟩ := new_two hwv
          have Bv := Lib.hid ((BT.out.trans (hu.mono BT.out.size)).trans (bv.mono (by have := BT.out.size; have := hu.size; omega)))
          obtain ⟨t0, t1⟩ := two_cells ((bv.block wr.heap.size (by have := lt_of_block TB.out; have := hu.size; omega)).trans ((hu.block wr.heap.size (lt_of_block TB.out)).trans TB.out))
          obtain ⟨m0, m1, m2, m3, m4, m5⟩ := six_cells11 (M6.out.stay Bv.out)
          clear hu vb bv zv
          go_wp2_with fail
          go_roundw
          case rel => exact ⟨j + 1, by go_num, by omega, Bv.out⟩
          case measure => simp [intOf]; omega
         ·have f1 : ((l.id : Int) == (m.id : Int)) = false := by rw [beq_eq_false_iff_ne]; omega
          have LN : Hid ((T9.ofL m.kind && l.id == m.id) = false) := Lib.hid (by simp [h1])
          clear h1
          have FL : Hid (T9.findL q.ls l.id = (l, true)) := Lib.hid (QL.out l (List.mem_of_getElem? X.out) LN.out)
          rw [FL.out] at RL
          unfold encL at RL
          dsimp only at RL
          go_wp2_with fail
          refine RL.out.mono ?_
          rintro e wu ⟨rfl, hu⟩
          obtain ⟨wv, hwv⟩ : ∃ u, wu.alloc (.cells #[.int .u64 (l.id : Int), .string (str l.name)] 50) = u := ⟨_, rfl⟩
          obtain ⟨vb, bv, zv⟩ := new_two hwv
          have Bv := Lib.hid ((BT.out.trans (hu.mono BT.out.size)).trans (bv.mono (by have := BT.out.size; have := hu.size; omega)))
          obtain ⟨u0, u1⟩ := two_cells vb
          obtain ⟨t0, t1⟩ := two_cells ((bv.block wr.heap.size (by have := lt_of_block TB.out; have := hu.size; omega)).trans ((hu.block wr.heap.size (lt_of_block TB.out)).trans TB.out))
          obtain ⟨m0, m1, m2, m3, m4, m5⟩ := six_cells11 (M6.out.stay Bv.out)
          clear hu vb bv zv
          go_wp2_with fail
          go_roundw
          case rel => exact ⟨j + 1, by go_num, by omega, Bv.out⟩
          case measure => simp [intOf]; omega
        ·obtain rfl : j = n1 := by omega
         have hltz : ¬ ((j : Int) < (j : Int)) := by omega
         obtain ⟨m0, m1, m2, m3, m4, m5⟩ := six_cells11 (M6.out.stay BR.out)
         obtain ⟨x0, x1⟩ := two_cells (blk_keep SB6.out BR.out)
         obtain ⟨q0, q1⟩ := two_cells (blk_keep QB6.out BR.out)
         have z1 : (k1 : Int) ≤ (j : Int) + 1 := by omega
         go_wp2_with fail
         go_ret
         exact ⟨rfl, B6.out.trans (BR.out.mono B6.out.size)⟩
    by_cases hk2 : m.kind = 2
    ·skip
     have e1 : (m.kind == 1) = false := by rw [beq_eq_false_iff_ne]; omega
     have e2 : (m.kind == 2) = true := by rw [beq_iff_eq]; omega
     have e12 : (m.kind == 12) = false := by rw [beq_eq_false_iff_ne]; omega
     have e13 : (m.kind == 13) = false := by rw [beq_eq_false_iff_ne]; omega
     have HK := Lib.hid hk2
     clear hk hk2
     go_wp2_with fail
     go_loopw [60] (fun s60 wr => ∃ i : Nat, s60 = .int .i64 i ∧ i ≤ n2 ∧ Aside (Below w6.heap.size w6 wr)) (fun s60 _ => n2 - (intOf s60).toNat)
     case atStart => exact ⟨0, rfl, Nat.zero_le _, Below.refl _ _⟩
     case round =>
      obtain ⟨i, rfl, hi, hB⟩ := hrel
      have BR := Lib.hid hB.out
      clear hB m0 m1 m2 m3 m4 m5 x0 x1 q0 q1
      by_cases hlt : i < n2
      ·have hltz : (i : Int) < (n2 : Int) := by omega
       obtain ⟨ad, ⟨tk, A5, c5⟩, hA, hx, hf, r0, r1, r2, r3, r4, r5, r6⟩ := (K6.out.stay BR.out).at_ (k := i) (by have := N2.out; omega)
       subst hA
       have X := Lib.hid hx
       have FI := Lib.hid hf
       dsimp only at r0 r1 r2 r3 r4 r5 r6
       obtain ⟨wt, hwt⟩ : ∃ u, wr.alloc (.cells #[.int .u64 (tk.id : Int), .int .u64 (tk.list : Int), .string (str tk.title), .bool tk.done, .float .f64 tk.rank, .float .f64 tk.est, .slice A5 tk.tags.length c5] 45) = u := ⟨_, rfl⟩
       obtain ⟨tb, bt, zt⟩ := new_seven hwt
       have TB := Lib.hid tb
       have BTr := Lib.hid bt
       have BT := Lib.hid (BR.out.trans (bt.mono BR.out.size))
       obtain ⟨t0, t1, t2, t3, t4, t5, t6⟩ := seven_cells tb
       obtain ⟨q0, q1⟩ := two_cells (blk_keep QB6.out BT.out)
       have RT := Lib.hid (refTask_c (A := q.A) (n1 := k1) (c := q.c) (c2 := q.c2) (Q6.out.stay BT.out).s.k KK2.out (by omega) tk.id)
       unfold FKOk at RT
       clear hx hf tb bt zt
       by_cases h1 : tk.list = m.list
       ·skip
        have f1 : ((tk.list : Int) == (m.list : Int)) = true := by rw [h1]; exact beq_self_eq_true _
        clear h1
        obtain ⟨ib, hib⟩ : ∃ b, (T9.findK (tks q.ms) tk.id).2 = b := ⟨_, rfl⟩
        rw [hib] at RT
        clear hib
        go_wp2_with fail
        refine RT.out.mono ?_
        rintro e wu ⟨⟨tu, A7, c7⟩, rfl, htu, hfu, hu⟩
        unfold encK
        dsimp only
        obtain ⟨wv, hwv⟩ : ∃ u, wu.alloc (.cells #[.int .u64 (tu.id : Int), .int .u64 (tu.list : Int), .string (str tu.title), .bool tu.done, .float .f64 tu.rank, .float .f64 tu.est, .slice A7 tu.tags.length c7] 45) = u := ⟨_, rfl⟩
        obtain ⟨vb, bv, zv⟩ := new_seven hwv
        have Bv := Lib.hid ((BT.out.trans (hu.mono BT.out.size)).trans (bv.mono (by have := BT.out.size; have := hu.size; omega)))
        obtain ⟨t0, t1, t2, t3, t4, t5, t6⟩ := seven_cells ((bv.block wr.heap.size (by have := lt_of_block TB.out; have := hu.size; omega)).trans ((hu.block wr.heap.size (lt_of_block TB.out)).trans TB.out))
        obtain ⟨m0, m1, m2, m3, m4, m5⟩ := six_cells11 (M6.out.stay Bv.out)
        clear htu hfu hu vb bv zv
        go_wp2_with fail
        go_roundw
        case rel => exact ⟨i + 1, by go_num, by omega, Bv.out⟩
        case measure => simp [intOf]; omega
       ·by_cases h2 : tk.list = m.id
        ·skip
         have f1 : ((tk.list : Int) == (m.list : Int)) = false := by rw [beq_eq_false_iff_ne]; omega
         have f2 : ((tk.list : Int) == (m.id : Int)) = true := by rw [h2]; exact beq_self_eq_true _
         clear h1 h2
         obtain ⟨ib, hib⟩ : ∃ b, (T9.findK (tks q.ms) tk.id).2 = b := ⟨_, rfl⟩
         rw [hib] at RT
         clear hib
         go_wp2_with fail
         refine RT.out.mono ?_
         rintro e wu ⟨⟨tu, A7, c7⟩, rfl, htu, hfu, hu⟩
         unfold encK
         dsimp only
         obtain ⟨wv, hwv⟩ : ∃ u, wu.alloc (.cells #[.int .u64 (tu.id : Int), .int .u64 (tu.list : Int), .string (str tu.title), .bool tu.done, .float .f64 tu.rank, .float .f64 tu.est, .slice A7 tu.tags.length c7] 45) = u := ⟨_, rfl⟩
         obtain ⟨vb, bv, zv⟩ := new_seven hwv
         have Bv := Lib.hid ((BT.out.trans (hu.mono BT.out.size)).trans (bv.mono (by have := BT.out.size; have := hu.size; omega)))
         obtain ⟨t0, t1, t2, t3, t4, t5, t6⟩ := seven_cells ((bv.block wr.heap.size (by have := lt_of_block TB.out; have := hu.size; omega)).trans ((hu.block wr.heap.size (lt_of_block TB.out)).trans TB.out))
         obtain ⟨m0, m1, m2, m3, m4, m5⟩ := six_cells11 (M6.out.stay Bv.out)
         clear htu hfu hu vb bv zv
         go_wp2_with fail
         go_roundw
         case rel => exact ⟨i + 1, by go_num, by omega, Bv.out⟩
         case measure => simp [intOf]; omega
        ·skip
         have f1 : ((tk.list : Int) == (m.list : Int)) = false := by rw [beq_eq_false_iff_ne]; omega
         have f2 : ((tk.list : Int) == (m.id : Int)) = false := by rw [beq_eq_false_iff_ne]; omega
         have NM : Hid (T9.namedT m tk = false) := Lib.hid (by unfold T9.namedT T9.ofL; rw [HK.out]; simp [h1, h2])
         clear h1 h2
         have FK : Hid (T9.findK (tks q.ms) tk.id = (tk, true)) := Lib.hid (QK.out tk (List.mem_map.2 ⟨_, List.mem_of_getElem? X.out, rfl⟩) NM.out)
         rw [FK.out] at RT
         go_wp2_with fail
         refine RT.out.mono ?_
         rintro e wu ⟨⟨tu, A7, c7⟩, rfl, htu, hfu, hu⟩
         dsimp only at htu
         subst htu
         unfold encK
         dsimp only
         obtain ⟨wv, hwv⟩ : ∃ u, wu.alloc (.cells #[.int .u64 (tu.id : Int), .int .u64 (tu.list : Int), .string (str tu.title), .bool tu.done, .float .f64 tu.rank, .float .f64 tu.est, .slice A7 tu.tags.length c7] 45) = u := ⟨_, rfl⟩
         obtain ⟨vb, bv, zv⟩ := new_seven hwv
         have Bv := Lib.hid ((BT.out.trans (hu.mono BT.out.size)).trans (bv.mono (by have := BT.out.size; have := hu.size; omega)))
         obtain ⟨u0, u1, u2, u3, u4, u5, u6⟩ := seven_cells vb
         obtain ⟨t0, t1, t2, t3, t4, t5, t6⟩ := seven_cells ((bv.block wr.heap.size (by have := lt_of_block TB.out; have := hu.size; omega)).trans ((hu.block wr.heap.size (lt_of_block TB.out)).trans TB.out))
         obtain ⟨m0, m1, m2, m3, m4, m5⟩ := six_cells11 (M6.out.stay Bv.out)
         have CT := Lib.hid (refSameTask_c (a := ⟨tu, A5, c5⟩) (b := ⟨tu, A7, c7⟩) (w := wv) ((FI.out.stay BTr.out).stay (hu.trans (bv.mono hu.size))) (hfu.stay bv) (SHT.out _ (List.mem_of_getElem? X.out)).1 (SHT.out _ (List.mem_of_getElem? X.out)).1 (SHT.out _ (List.mem_of_getElem? X.out)).2 (SHT.out _ (List.mem_of_getElem? X.out)).2)
         rw [T9.same1_refl] at CT
         unfold encK at CT
         dsimp only at CT
         clear hfu hu vb bv zv
         go_wp2_with fail
         refine CT.out.mono ?_
         rintro e wz ⟨rfl, hz⟩
         have Bz := Lib.hid (Bv.out.trans (hz.mono Bv.out.size))
         clear hz
         go_wp2_with fail
         go_roundw
         case rel => exact ⟨i + 1, by go_num, by omega, Bz.out⟩
         case measure => simp [intOf]; omega
      ·obtain rfl : i = n2 := by omega
       have hltz : ¬ ((i : Int) < (i : Int)) := by omega
       obtain ⟨m0, m1, m2, m3, m4, m5⟩ := six_cells11 (M6.out.stay BR.out)
       obtain ⟨x0, x1⟩ := two_cells (blk_keep SB6.out BR.out)
       obtain ⟨q0, q1⟩ := two_cells (blk_keep QB6.out BR.out)
       have z2 : (k2 : Int) ≤ (i : Int) + 1 := by omega
       go_wp2_with fail
       go_loopw [122] (fun s122 wr => ∃ j : Nat, s122 = .int .i64 j ∧ j ≤ n1 ∧ Aside (Below w6.heap.size w6 wr)) (fun s122 _ => n1 - (intOf s122).toNat)
       case atStart => exact ⟨0, rfl, Nat.zero_le _, BR.out⟩
       case round =>
        clear BR hi
        obtain ⟨j, rfl, hj, hB⟩ := hrel
        have BR := Lib.hid hB.out
        clear hB m0 m1 m2 m3 m4 m5 x0 x1 q0 q1
        by_cases hlt : j < n1
        ·have hltz : (j : Int) < (n1 : Int) := by omega
         obtain ⟨ad, l, hA, hx, r0, r1⟩ := (L6.out.stay BR.out).at_ (k := j) (by have := N1.out; omega)
         subst hA
         have X := Lib.hid hx
         obtain ⟨wt, hwt⟩ : ∃ u, wr.alloc (.cells #[.int .u64 (l.id : Int), .string (str l.name)] 50) = u := ⟨_, rfl⟩
         obtain ⟨tb, bt, zt⟩ := new_two hwt
         have TB := Lib.hid tb
         have BT := Lib.hid (BR.out.trans (bt.mono BR.out.size))
         obtain ⟨t0, t1⟩ := two_cells tb
         obtain ⟨q0, q1⟩ := two_cells (blk_keep QB6.out BT.out)
         have RL := Lib.hid (refList_c (A2 := q.A2) (n2 := k2) (c := q.c) (c2 := q.c2) (Q6.out.stay BT.out).s.l KK1.out (by omega) l.id)
         unfold FLOk at RL
         clear hx tb bt zt
         by_cases h1 : l.id = m.id
         ·have f1 : ((l.id : Int) == (m.id : Int)) = true := by rw [h1]; exact beq_self_eq_true _
          clear h1
          obtain ⟨ib, hib⟩ : ∃ b, (T9.findL q.ls l.id).2 = b := ⟨_, rfl⟩
          obtain ⟨lu, hlu⟩ : ∃ b, (T9.findL q.ls l.id).1 = b := ⟨_, rfl⟩
          rw [hib, hlu] at RL
          unfold encL at RL
          clear hib hlu
          go_wp2_with fail
          refine RL.out.mono ?_
          rintro e wu ⟨rfl, hu⟩
          obtain ⟨wv, hwv⟩ : ∃ u, wu.alloc (.cells #[.int .u64 (lu.id : Int), .string (str lu.name)] 50) = u := ⟨_, rfl⟩
          obtain ⟨vb, bv, zv⟩ := new_two hwv
          have Bv := Lib.hid ((BT.out.trans (hu.mono BT.out.size)).trans (bv.mono (by have := BT.out.size; have := hu.size; omega)))
          obtain ⟨t0, t1⟩ := two_cells ((bv.block wr.heap.size (by have := lt_of_block TB.out; have := hu.size; omega)).trans ((hu.block wr.heap.size (lt_of_block TB.out)).trans TB.out))
          obtain ⟨m0, m1, m2, m3, m4, m5⟩ := six_cells11 (M6.out.stay Bv.out)
          clear hu vb bv zv
          go_wp2_with fail
          go_roundw
          case rel => exact ⟨j + 1, by go_num, by omega, Bv.out⟩
          case measure => simp [intOf]; omega
         ·have f1 : ((l.id : Int) == (m.id : Int)) = false := by rw [beq_eq_false_iff_ne]; omega
          have LN : Hid ((T9.ofL m.kind && l.id == m.id) = false) := Lib.hid (by simp [h1])
          clear h1
          have FL : Hid (T9.findL q.ls l.id = (l, true)) := Lib.hid (QL.out l (List.mem_of_getElem? X.out) LN.out)
          rw [FL.out] at RL
          unfold encL at RL
          dsimp only at RL
          go_wp2_with fail
          refine RL.out.mono ?_
          rintro e wu ⟨rfl, hu⟩
          obtain ⟨wv, hwv⟩ : ∃ u, wu.alloc (.cells #[.int .u64 (l.id : Int), .string (str l.name)] 50) = u := ⟨_, rfl⟩
          obtain ⟨vb, bv, zv⟩ := new_two hwv
          have Bv := Lib.hid ((BT.out.trans (hu.mono BT.out.size)).trans (bv.mono (by have := BT.out.size; have := hu.size; omega)))
          obtain ⟨u0, u1⟩ := two_cells vb
          obtain ⟨t0, t1⟩ := two_cells ((bv.block wr.heap.size (by have := lt_of_block TB.out; have := hu.size; omega)).trans ((hu.block wr.heap.size (lt_of_block TB.out)).trans TB.out))
          obtain ⟨m0, m1, m2, m3, m4, m5⟩ := six_cells11 (M6.out.stay Bv.out)
          clear hu vb bv zv
          go_wp2_with fail
          go_roundw
          case rel => exact ⟨j + 1, by go_num, by omega, Bv.out⟩
          case measure => simp [intOf]; omega
        ·obtain rfl : j = n1 := by omega
         have hltz : ¬ ((j : Int) < (j : Int)) := by omega
         obtain ⟨m0, m1, m2, m3, m4, m5⟩ := six_cells11 (M6.out.stay BR.out)
         obtain ⟨x0, x1⟩ := two_cells (blk_keep SB6.out BR.out)
         obtain ⟨q0, q1⟩ := two_cells (blk_keep QB6.out BR.out)
         have z1 : (k1 : Int) ≤ (j : Int) + 1 := by omega
         go_wp2_with fail
         go_ret
         exact ⟨rfl, B6.out.trans (BR.out.mono B6.out.size)⟩
    by_cases hk12 : m.kind = 12
    ·skip
     have e1 : (m.kind == 1) = false := by rw [beq_eq_false_iff_ne]; omega
     have e2 : (m.kind == 2) = false := by rw [beq_eq_false_iff_ne]; omega
     have e12 : (m.kind == 12) = true := by rw [beq_iff_eq]; omega
     have e13 : (m.kind == 13) = false := by rw [beq_eq_false_iff_ne]; omega
     have HK := Lib.hid hk12
     clear hk hk2 hk12
     go_wp2_with fail
     go_loopw [60] (fun s60 wr => ∃ i : Nat, s60 = .int .i64 i ∧ i ≤ n2 ∧ Aside (Below w6.heap.size w6 wr)) (fun s60 _ => n2 - (intOf s60).toNat)
     case atStart => exact ⟨0, rfl, Nat.zero_le _, Below.refl _ _⟩
     case round =>
      obtain ⟨i, rfl, hi, hB⟩ := hrel
      have BR := Lib.hid hB.out
      clear hB m0 m1 m2 m3 m4 m5 x0 x1 q0 q1
      by_cases hlt : i < n2
      ·have hltz : (i : Int) < (n2 : Int) := by omega
       obtain ⟨ad, ⟨tk, A5, c5⟩, hA, hx, hf, r0, r1, r2, r3, r4, r5, r6⟩ := (K6.out.stay BR.out).at_ (k := i) (by have := N2.out; omega)
       subst hA
       have X := Lib.hid hx
       have FI := Lib.hid hf
       dsimp only at r0 r1 r2 r3 r4 r5 r6
       obtain ⟨wt, hwt⟩ : ∃ u, wr.alloc (.cells #[.int .u64 (tk.id : Int), .int .u64 (tk.list : Int), .string (str tk.title), .bool tk.done, .float .f64 tk.rank, .float .f64 tk.est, .slice A5 tk.tags.length c5] 45) = u := ⟨_, rfl⟩
       obtain ⟨tb, bt, zt⟩ := new_seven hwt
       have TB := Lib.hid tb
       have BTr := Lib.hid bt
       have BT := Lib.hid (BR.out.trans (bt.mono BR.out.size))
       obtain ⟨t0, t1, t2, t3, t4, t5, t6⟩ := seven_cells tb
       obtain ⟨q0, q1⟩ := two_cells (blk_keep QB6.out BT.out)
       have RT := Lib.hid (refTask_c (A := q.A) (n1 := k1) (c := q.c) (c2 := q.c2) (Q6.out.stay BT.out).s.k KK2.out (by omega) tk.id)
       unfold FKOk at RT
       clear hx hf tb bt zt
       by_cases h1 : tk.list = m.list
       ·skip
        have f1 : ((tk.list : Int) == (m.list : Int)) = true := by rw [h1]; exact beq_self_eq_true _
        clear h1
        obtain ⟨ib, hib⟩ : ∃ b, (T9.findK (tks q.ms) tk.id).2 = b := ⟨_, rfl⟩
        rw [hib] at RT
        clear hib
        go_wp2_with fail
        refine RT.out.mono ?_
        rintro e wu ⟨⟨tu, A7, c7⟩, rfl, htu, hfu, hu⟩
        unfold encK
        dsimp only
        obtain ⟨wv, hwv⟩ : ∃ u, wu.alloc (.cells #[.int .u64 (tu.id : Int), .int .u64 (tu.list : Int), .string (str tu.title), .bool tu.done, .float .f64 tu.rank, .float .f64 tu.est, .slice A7 tu.tags.length c7] 45) = u := ⟨_, rfl⟩
        obtain ⟨vb, bv, zv⟩ := new_seven hwv
        have Bv := Lib.hid ((BT.out.trans (hu.mono BT.out.size)).trans (bv.mono (by have := BT.out.size; have := hu.size; omega)))
        obtain ⟨t0, t1, t2, t3, t4, t5, t6⟩ := seven_cells ((bv.block wr.heap.size (by have := lt_of_block TB.out; have := hu.size; omega)).trans ((hu.block wr.heap.size (lt_of_block TB.out)).trans TB.out))
        obtain ⟨m0, m1, m2, m3, m4, m5⟩ := six_cells11 (M6.out.stay Bv.out)
        clear htu hfu hu vb bv zv
        go_wp2_with fail
        go_roundw
        case rel => exact ⟨i + 1, by go_num, by omega, Bv.out⟩
        case measure => simp [intOf]; omega
       ·skip
        have f1 : ((tk.list : Int) == (m.list : Int)) = false := by rw [beq_eq_false_iff_ne]; omega
        have NM : Hid (T9.namedT m tk = false) := Lib.hid (by unfold T9.namedT T9.ofL; rw [HK.out]; simp [h1])
        clear h1
        have FK : Hid (T9.findK (tks q.ms) tk.id = (tk, true)) := Lib.hid (QK.out tk (List.mem_map.2 ⟨_, List.mem_of_getElem? X.out, rfl⟩) NM.out)
        rw [FK.out] at RT
        go_wp2_with fail
        refine RT.out.mono ?_
        rintro e wu ⟨⟨tu, A7, c7⟩, rfl, htu, hfu, hu⟩
        dsimp only at htu
        subst htu
        unfold encK
        dsimp only
        obtain ⟨wv, hwv⟩ : ∃ u, wu.alloc (.cells #[.int .u64 (tu.id : Int), .int .u64 (tu.list : Int), .string (str tu.title), .bool tu.done, .float .f64 tu.rank, .float .f64 tu.est, .slice A7 tu.tags.length c7] 45) = u := ⟨_, rfl⟩
        obtain ⟨vb, bv, zv⟩ := new_seven hwv
        have Bv := Lib.hid ((BT.out.trans (hu.mono BT.out.size)).trans (bv.mono (by have := BT.out.size; have := hu.size; omega)))
        obtain ⟨u0, u1, u2, u3, u4, u5, u6⟩ := seven_cells vb
        obtain ⟨t0, t1, t2, t3, t4, t5, t6⟩ := seven_cells ((bv.block wr.heap.size (by have := lt_of_block TB.out; have := hu.size; omega)).trans ((hu.block wr.heap.size (lt_of_block TB.out)).trans TB.out))
        obtain ⟨m0, m1, m2, m3, m4, m5⟩ := six_cells11 (M6.out.stay Bv.out)
        have CT := Lib.hid (refSameTask_c (a := ⟨tu, A5, c5⟩) (b := ⟨tu, A7, c7⟩) (w := wv) ((FI.out.stay BTr.out).stay (hu.trans (bv.mono hu.size))) (hfu.stay bv) (SHT.out _ (List.mem_of_getElem? X.out)).1 (SHT.out _ (List.mem_of_getElem? X.out)).1 (SHT.out _ (List.mem_of_getElem? X.out)).2 (SHT.out _ (List.mem_of_getElem? X.out)).2)
        rw [T9.same1_refl] at CT
        unfold encK at CT
        dsimp only at CT
        clear hfu hu vb bv zv
        go_wp2_with fail
        refine CT.out.mono ?_
        rintro e wz ⟨rfl, hz⟩
        have Bz := Lib.hid (Bv.out.trans (hz.mono Bv.out.size))
        clear hz
        go_wp2_with fail
        go_roundw
        case rel => exact ⟨i + 1, by go_num, by omega, Bz.out⟩
        case measure => simp [intOf]; omega
      ·obtain rfl : i = n2 := by omega
       have hltz : ¬ ((i : Int) < (i : Int)) := by omega
       obtain ⟨m0, m1, m2, m3, m4, m5⟩ := six_cells11 (M6.out.stay BR.out)
       obtain ⟨x0, x1⟩ := two_cells (blk_keep SB6.out BR.out)
       obtain ⟨q0, q1⟩ := two_cells (blk_keep QB6.out BR.out)
       have z2 : (k2 : Int) ≤ (i : Int) + 1 := by omega
       go_wp2_with fail
       go_loopw [122] (fun s122 wr => ∃ j : Nat, s122 = .int .i64 j ∧ j ≤ n1 ∧ Aside (Below w6.heap.size w6 wr)) (fun s122 _ => n1 - (intOf s122).toNat)
       case atStart => exact ⟨0, rfl, Nat.zero_le _, BR.out⟩
       case round =>
        clear BR hi
        obtain ⟨j, rfl, hj, hB⟩ := hrel
        have BR := Lib.hid hB.out
        clear hB m0 m1 m2 m3 m4 m5 x0 x1 q0 q1
        by_cases hlt : j < n1
        ·have hltz : (j : Int) < (n1 : Int) := by omega
         obtain ⟨ad, l, hA, hx, r0, r1⟩ := (L6.out.stay BR.out).at_ (k := j) (by have := N1.out; omega)
         subst hA
         have X := Lib.hid hx
         obtain ⟨wt, hwt⟩ : ∃ u, wr.alloc (.cells #[.int .u64 (l.id : Int), .string (str l.name)] 50) = u := ⟨_, rfl⟩
         obtain ⟨tb, bt, zt⟩ := new_two hwt
         have TB := Lib.hid tb
         have BT := Lib.hid (BR.out.trans (bt.mono BR.out.size))
         obtain ⟨t0, t1⟩ := two_cells tb
         obtain ⟨q0, q1⟩ := two_cells (blk_keep QB6.out BT.out)
         have RL := Lib.hid (refList_c (A2 := q.A2) (n2 := k2) (c := q.c) (c2 := q.c2) (Q6.out.stay BT.out).s.l KK1.out (by omega) l.id)
         unfold FLOk at RL
         clear hx tb bt zt
         have LN : Hid ((T9.ofL m.kind && l.id == m.id) = false) := Lib.hid (by rw [HK.out]; rfl)
         have FL : Hid (T9.findL q.ls l.id = (l, true)) := Lib.hid (QL.out l (List.mem_of_getElem? X.out) LN.out)
         rw [FL.out] at RL
         unfold encL at RL
         dsimp only at RL
         go_wp2_with fail
         refine RL.out.mono ?_
         rintro e wu ⟨rfl, hu⟩
         obtain ⟨wv, hwv⟩ : ∃ u, wu.alloc (.cells #[.int .u64 (l.id : Int), .string (str l.name)] 50) = u := ⟨_, rfl⟩
         obtain ⟨vb, bv, zv⟩ := new_two hwv
         have Bv := Lib.hid ((BT.out.trans (hu.mono BT.out.size)).trans (bv.mono (by have := BT.out.size; have := hu.size; omega)))
         obtain ⟨u0, u1⟩ := two_cells vb
         obtain ⟨t0, t1⟩ := two_cells ((bv.block wr.heap.size (by have := lt_of_block TB.out; have := hu.size; omega)).trans ((hu.block wr.heap.size (lt_of_block TB.out)).trans TB.out))
         obtain ⟨m0, m1, m2, m3, m4, m5⟩ := six_cells11 (M6.out.stay Bv.out)
         clear hu vb bv zv
         go_wp2_with fail
         go_roundw
         case rel => exact ⟨j + 1, by go_num, by omega, Bv.out⟩
         case measure => simp [intOf]; omega
        ·obtain rfl : j = n1 := by omega
         have hltz : ¬ ((j : Int) < (j : Int)) := by omega
         obtain ⟨m0, m1, m2, m3, m4, m5⟩ := six_cells11 (M6.out.stay BR.out)
         obtain ⟨x0, x1⟩ := two_cells (blk_keep SB6.out BR.out)
         obtain ⟨q0, q1⟩ := two_cells (blk_keep QB6.out BR.out)
         have z1 : (k1 : Int) ≤ (j : Int) + 1 := by omega
         go_wp2_with fail
         go_ret
         exact ⟨rfl, B6.out.trans (BR.out.mono B6.out.size)⟩
    by_cases hk13 : m.kind = 13
    ·skip
     have e1 : (m.kind == 1) = false := by rw [beq_eq_false_iff_ne]; omega
     have e2 : (m.kind == 2) = false := by rw [beq_eq_false_iff_ne]; omega
     have e12 : (m.kind == 12) = false := by rw [beq_eq_false_iff_ne]; omega
     have e13 : (m.kind == 13) = true := by rw [beq_iff_eq]; omega
     have HK := Lib.hid hk13
     clear hk hk2 hk12 hk13
     go_wp2_with fail
     go_loopw [60] (fun s60 wr => ∃ i : Nat, s60 = .int .i64 i ∧ i ≤ n2 ∧ Aside (Below w6.heap.size w6 wr)) (fun s60 _ => n2 - (intOf s60).toNat)
     case atStart => exact ⟨0, rfl, Nat.zero_le _, Below.refl _ _⟩
     case round =>
      obtain ⟨i, rfl, hi, hB⟩ := hrel
      have BR := Lib.hid hB.out
      clear hB m0 m1 m2 m3 m4 m5 x0 x1 q0 q1
      by_cases hlt : i < n2
      ·have hltz : (i : Int) < (n2 : Int) := by omega
       obtain ⟨ad, ⟨tk, A5, c5⟩, hA, hx, hf, r0, r1, r2, r3, r4, r5, r6⟩ := (K6.out.stay BR.out).at_ (k := i) (by have := N2.out; omega)
       subst hA
       have X := Lib.hid hx
       have FI := Lib.hid hf
       dsimp only at r0 r1 r2 r3 r4 r5 r6
       obtain ⟨wt, hwt⟩ : ∃ u, wr.alloc (.cells #[.int .u64 (tk.id : Int), .int .u64 (tk.list : Int), .string (str tk.title), .bool tk.done, .float .f64 tk.rank, .float .f64 tk.est, .slice A5 tk.tags.length c5] 45) = u := ⟨_, rfl⟩
       obtain ⟨tb, bt, zt⟩ := new_seven hwt
       have TB := Lib.hid tb
       have BTr := Lib.hid bt
       have BT := Lib.hid (BR.out.trans (bt.mono BR.out.size))
       obtain ⟨t0, t1, t2, t3, t4, t5, t6⟩ := seven_cells tb
       obtain ⟨q0, q1⟩ := two_cells (blk_keep QB6.out BT.out)
       have RT := Lib.hid (refTask_c (A := q.A) (n1 := k1) (c := q.c) (c2 := q.c2) (Q6.out.stay BT.out).s.k KK2.out (by omega) tk.id)
       unfold FKOk at RT
       clear hx hf tb bt zt
       by_cases h1 : tk.list = m.list
       ·skip
        have f1 : ((tk.list : Int) == (m.list : Int)) = true := by rw [h1]; exact beq_self_eq_true _
        clear h1
        obtain ⟨ib, hib⟩ : ∃ b, (T9.findK (tks q.ms) tk.id).2 = b := ⟨_, rfl⟩
        rw [hib] at RT
        clear hib
        go_wp2_with fail
        refine RT.out.mono ?_
        rintro e wu ⟨⟨tu, A7, c7⟩, rfl, htu, hfu, hu⟩
        unfold encK
        dsimp only
        obtain ⟨wv, hwv⟩ : ∃ u, wu.alloc (.cells #[.int .u64 (tu.id : Int), .int .u64 (tu.list : Int), .string (str tu.title), .bool tu.done, .float .f64 tu.rank, .float .f64 tu.est, .slice A7 tu.tags.length c7] 45) = u := ⟨_, rfl⟩
        obtain ⟨vb, bv, zv⟩ := new_seven hwv
        have Bv := Lib.hid ((BT.out.trans (hu.mono BT.out.size)).trans (bv.mono (by have := BT.out.size; have := hu.size; omega)))
        obtain ⟨t0, t1, t2, t3, t4, t5, t6⟩ := seven_cells ((bv.block wr.heap.size (by have := lt_of_block TB.out; have := hu.size; omega)).trans ((hu.block wr.heap.size (lt_of_block TB.out)).trans TB.out))
        obtain ⟨m0, m1, m2, m3, m4, m5⟩ := six_cells11 (M6.out.stay Bv.out)
        clear htu hfu hu vb bv zv
        go_wp2_with fail
        go_roundw
        case rel => exact ⟨i + 1, by go_num, by omega, Bv.out⟩
        case measure => simp [intOf]; omega
       ·skip
        have f1 : ((tk.list : Int) == (m.list : Int)) = false := by rw [beq_eq_false_iff_ne]; omega
        have NM : Hid (T9.namedT m tk = false) := Lib.hid (by unfold T9.namedT T9.ofL; rw [HK.out]; simp [h1])
        clear h1
        have FK : Hid (T9.findK (tks q.ms) tk.id = (tk, true)) := Lib.hid (QK.out tk (List.mem_map.2 ⟨_, List.mem_of_getElem? X.out, rfl⟩) NM.out)
        rw [FK.out] at RT
        go_wp2_with fail
        refine RT.out.mono ?_
        rintro e wu ⟨⟨tu, A7, c7⟩, rfl, htu, hfu, hu⟩
        dsimp only at htu
        subst htu
        unfold encK
        dsimp only
        obtain ⟨wv, hwv⟩ : ∃ u, wu.alloc (.cells #[.int .u64 (tu.id : Int), .int .u64 (tu.list : Int), .string (str tu.title), .bool tu.done, .float .f64 tu.rank, .float .f64 tu.est, .slice A7 tu.tags.length c7] 45) = u := ⟨_, rfl⟩
        obtain ⟨vb, bv, zv⟩ := new_seven hwv
        have Bv := Lib.hid ((BT.out.trans (hu.mono BT.out.size)).trans (bv.mono (by have := BT.out.size; have := hu.size; omega)))
        obtain ⟨u0, u1, u2, u3, u4, u5, u6⟩ := seven_cells vb
        obtain ⟨t0, t1, t2, t3, t4, t5, t6⟩ := seven_cells ((bv.block wr.heap.size (by have := lt_of_block TB.out; have := hu.size; omega)).trans ((hu.block wr.heap.size (lt_of_block TB.out)).trans TB.out))
        obtain ⟨m0, m1, m2, m3, m4, m5⟩ := six_cells11 (M6.out.stay Bv.out)
        have CT := Lib.hid (refSameTask_c (a := ⟨tu, A5, c5⟩) (b := ⟨tu, A7, c7⟩) (w := wv) ((FI.out.stay BTr.out).stay (hu.trans (bv.mono hu.size))) (hfu.stay bv) (SHT.out _ (List.mem_of_getElem? X.out)).1 (SHT.out _ (List.mem_of_getElem? X.out)).1 (SHT.out _ (List.mem_of_getElem? X.out)).2 (SHT.out _ (List.mem_of_getElem? X.out)).2)
        rw [T9.same1_refl] at CT
        unfold encK at CT
        dsimp only at CT
        clear hfu hu vb bv zv
        go_wp2_with fail
        refine CT.out.mono ?_
        rintro e wz ⟨rfl, hz⟩
        have Bz := Lib.hid (Bv.out.trans (hz.mono Bv.out.size))
        clear hz
        go_wp2_with fail
        go_roundw
        case rel => exact ⟨i + 1, by go_num, by omega, Bz.out⟩
        case measure => simp [intOf]; omega
      ·obtain rfl : i = n2 := by omega
       have hltz : ¬ ((i : Int) < (i : Int)) := by omega
       obtain ⟨m0, m1, m2, m3, m4, m5⟩ := six_cells11 (M6.out.stay BR.out)
       obtain ⟨x0, x1⟩ := two_cells (blk_keep SB6.out BR.out)
       obtain ⟨q0, q1⟩ := two_cells (blk_keep QB6.out BR.out)
       have z2 : (k2 : Int) ≤ (i : Int) + 1 := by omega
       go_wp2_with fail
       go_loopw [122] (fun s122 wr => ∃ j : Nat, s122 = .int .i64 j ∧ j ≤ n1 ∧ Aside (Below w6.heap.size w6 wr)) (fun s122 _ => n1 - (intOf s122).toNat)
       case atStart => exact ⟨0, rfl, Nat.zero_le _, BR.out⟩
       case round =>
        clear BR hi
        obtain ⟨j, rfl, hj, hB⟩ := hrel
        have BR := Lib.hid hB.out
        clear hB m0 m1 m2 m3 m4 m5 x0 x1 q0 q1
        by_cases hlt : j < n1
        ·have hltz : (j : Int) < (n1 : Int) := by omega
         obtain ⟨ad, l, hA, hx, r0, r1⟩ := (L6.out.stay BR.out).at_ (k := j) (by have := N1.out; omega)
         subst hA
         have X := Lib.hid hx
         obtain ⟨wt, hwt⟩ : ∃ u, wr.alloc (.cells #[.int .u64 (l.id : Int), .string (str l.name)] 50) = u := ⟨_, rfl⟩
         obtain ⟨tb, bt, zt⟩ := new_two hwt
         have TB := Lib.hid tb
         have BT := Lib.hid (BR.out.trans (bt.mono BR.out.size))
         obtain ⟨t0, t1⟩ := two_cells tb
         obtain ⟨q0, q1⟩ := two_cells (blk_keep QB6.out BT.out)
         have RL := Lib.hid (refList_c (A2 := q.A2) (n2 := k2) (c := q.c) (c2 := q.c2) (Q6.out.stay BT.out).s.l KK1.out (by omega) l.id)
         unfold FLOk at RL
         clear hx tb bt zt
         have LN : Hid ((T9.ofL m.kind && l.id == m.id) = false) := Lib.hid (by rw [HK.out]; rfl)
         have FL : Hid (T9.findL q.ls l.id = (l, true)) := Lib.hid (QL.out l (List.mem_of_getElem? X.out) LN.out)
         rw [FL.out] at RL
         unfold encL at RL
         dsimp only at RL
         go_wp2_with fail
         refine RL.out.mono ?_
         rintro e wu ⟨rfl, hu⟩
         obtain ⟨wv, hwv⟩ : ∃ u, wu.alloc (.cells #[.int .u64 (l.id : Int), .string (str l.name)] 50) = u := ⟨_, rfl⟩
         obtain ⟨vb, bv, zv⟩ := new_two hwv
         have Bv := Lib.hid ((BT.out.trans (hu.mono BT.out.size)).trans (bv.mono (by have := BT.out.size; have := hu.size; omega)))
         obtain ⟨u0, u1⟩ := two_cells vb
         obtain ⟨t0, t1⟩ := two_cells ((bv.block wr.heap.size (by have := lt_of_block TB.out; have := hu.size; omega)).trans ((hu.block wr.heap.size (lt_of_block TB.out)).trans TB.out))
         obtain ⟨m0, m1, m2, m3, m4, m5⟩ := six_cells11 (M6.out.stay Bv.out)
         clear hu vb bv zv
         go_wp2_with fail
         go_roundw
         case rel => exact ⟨j + 1, by go_num, by omega, Bv.out⟩
         case measure => simp [intOf]; omega
        ·obtain rfl : j = n1 := by omega
         have hltz : ¬ ((j : Int) < (j : Int)) := by omega
         obtain ⟨m0, m1, m2, m3, m4, m5⟩ := six_cells11 (M6.out.stay BR.out)
         obtain ⟨x0, x1⟩ := two_cells (blk_keep SB6.out BR.out)
         obtain ⟨q0, q1⟩ := two_cells (blk_keep QB6.out BR.out)
         have z1 : (k1 : Int) ≤ (j : Int) + 1 := by omega
         go_wp2_with fail
         go_ret
         exact ⟨rfl, B6.out.trans (BR.out.mono B6.out.size)⟩
    have e1 : (m.kind == 1) = false := by rw [beq_eq_false_iff_ne]; omega
    have e2 : (m.kind == 2) = false := by rw [beq_eq_false_iff_ne]; omega
    have e12 : (m.kind == 12) = false := by rw [beq_eq_false_iff_ne]; omega
    have e13 : (m.kind == 13) = false := by rw [beq_eq_false_iff_ne]; omega
    have HK : Hid (m.kind ≠ 1 ∧ m.kind ≠ 2 ∧ m.kind ≠ 12 ∧ m.kind ≠ 13) := Lib.hid ⟨hk, hk2, hk12, hk13⟩
    clear hk hk2 hk12 hk13
    go_wp2_with fail
    go_loopw [60] (fun s60 wr => ∃ i : Nat, s60 = .int .i64 i ∧ i ≤ n2 ∧ Aside (Below w6.heap.size w6 wr)) (fun s60 _ => n2 - (intOf s60).toNat)
    case atStart => exact ⟨0, rfl, Nat.zero_le _, Below.refl _ _⟩
    case round =>
     obtain ⟨i, rfl, hi, hB⟩ := hrel
     have BR := Lib.hid hB.out
     clear hB m0 m1 m2 m3 m4 m5 x0 x1 q0 q1
     by_cases hlt : i < n2
     ·have hltz : (i : Int) < (n2 : Int) := by omega
      obtain ⟨ad, ⟨tk, A5, c5⟩, hA, hx, hf, r0, r1, r2, r3, r4, r5, r6⟩ := (K6.out.stay BR.out).at_ (k := i) (by have := N2.out; omega)
      subst hA
      have X := Lib.hid hx
      have FI := Lib.hid hf
      dsimp only at r0 r1 r2 r3 r4 r5 r6
      obtain ⟨wt, hwt⟩ : ∃ u, wr.alloc (.cells #[.int .u64 (tk.id : Int), .int .u64 (tk.list : Int), .string (str tk.title), .bool tk.done, .float .f64 tk.rank, .float .f64 tk.est, .slice A5 tk.tags.length c5] 45) = u := ⟨_, rfl⟩
      obtain ⟨tb, bt, zt⟩ := new_seven hwt
      have TB := Lib.hid tb
      have BTr := Lib.hid bt
      have BT := Lib.hid (BR.out.trans (bt.mono BR.out.size))
      obtain ⟨t0, t1, t2, t3, t4, t5, t6⟩ := seven_cells tb
      obtain ⟨q0, q1⟩ := two_cells (blk_keep QB6.out BT.out)
      have RT := Lib.hid (refTask_c (A := q.A) (n1 := k1) (c := q.c) (c2 := q.c2) (Q6.out.stay BT.out).s.k KK2.out (by omega) tk.id)
      unfold FKOk at RT
      clear hx hf tb bt zt
      by_cases h1 : tk.id = m.id
      ·skip
       have f1 : ((tk.id : Int) == (m.id : Int)) = true := by rw [h1]; exact beq_self_eq_true _
       clear h1
       obtain ⟨ib, hib⟩ : ∃ b, (T9.findK (tks q.ms) tk.id).2 = b := ⟨_, rfl⟩
       rw [hib] at RT
       clear hib
       go_wp2_with fail
       refine RT.out.mono ?_
       rintro e wu ⟨⟨tu, A7, c7⟩, rfl, htu, hfu, hu⟩
       unfold encK
       dsimp only
       obtain ⟨wv, hwv⟩ : ∃ u, wu.alloc (.cells #[.int .u64 (tu.id : Int), .int .u64 (tu.list : Int), .string (str tu.title), .bool tu.done, .float .f64 tu.rank, .float .f64 tu.est, .slice A7 tu.tags.length c7] 45) = u := ⟨_, rfl⟩
       obtain ⟨vb, bv, zv⟩ := new_seven hwv
       have Bv := Lib.hid ((BT.out.trans (hu.mono BT.out.size)).trans (bv.mono (by have := BT.out.size; have := hu.size; omega)))
       obtain ⟨t0, t1, t2, t3, t4, t5, t6⟩ := seven_cells ((bv.block wr.heap.size (by have := lt_of_block TB.out; have := hu.size; omega)).trans ((hu.block wr.heap.size (lt_of_block TB.out)).trans TB.out))
       obtain ⟨m0, m1, m2, m3, m4, m5⟩ := six_cells11 (M6.out.stay Bv.out)
       clear htu hfu hu vb bv zv
       go_wp2_with fail
       go_roundw
       case rel => exact ⟨i + 1, by go_num, by omega, Bv.out⟩
       case measure => simp [intOf]; omega
      ·skip
       have f1 : ((tk.id : Int) == (m.id : Int)) = false := by rw [beq_eq_false_iff_ne]; omega
       have NM : Hid (T9.namedT m tk = false) := Lib.hid (by unfold T9.namedT T9.ofL; have z := HK.out; simp [h1]; omega)
       clear h1
       have FK : Hid (T9.findK (tks q.ms) tk.id = (tk, true)) := Lib.hid (QK.out tk (List.mem_map.2 ⟨_, List.mem_of_getElem? X.out, rfl⟩) NM.out)
       rw [FK.out] at RT
       go_wp2_with fail
       refine RT.out.mono ?_
       rintro e wu ⟨⟨tu, A7, c7⟩, rfl, htu, hfu, hu⟩
       dsimp only at htu
       subst htu
       unfold encK
       dsimp only
       obtain ⟨wv, hwv⟩ : ∃ u, wu.alloc (.cells #[.int .u64 (tu.id : Int), .int .u64 (tu.list : Int), .string (str tu.title), .bool tu.done, .float .f64 tu.rank, .float .f64 tu.est, .slice A7 tu.tags.length c7] 45) = u := ⟨_, rfl⟩
       obtain ⟨vb, bv, zv⟩ := new_seven hwv
       have Bv := Lib.hid ((BT.out.trans (hu.mono BT.out.size)).trans (bv.mono (by have := BT.out.size; have := hu.size; omega)))
       obtain ⟨u0, u1, u2, u3, u4, u5, u6⟩ := seven_cells vb
       obtain ⟨t0, t1, t2, t3, t4, t5, t6⟩ := seven_cells ((bv.block wr.heap.size (by have := lt_of_block TB.out; have := hu.size; omega)).trans ((hu.block wr.heap.size (lt_of_block TB.out)).trans TB.out))
       obtain ⟨m0, m1, m2, m3, m4, m5⟩ := six_cells11 (M6.out.stay Bv.out)
       have CT := Lib.hid (refSameTask_c (a := ⟨tu, A5, c5⟩) (b := ⟨tu, A7, c7⟩) (w := wv) ((FI.out.stay BTr.out).stay (hu.trans (bv.mono hu.size))) (hfu.stay bv) (SHT.out _ (List.mem_of_getElem? X.out)).1 (SHT.out _ (List.mem_of_getElem? X.out)).1 (SHT.out _ (List.mem_of_getElem? X.out)).2 (SHT.out _ (List.mem_of_getElem? X.out)).2)
       rw [T9.same1_refl] at CT
       unfold encK at CT
       dsimp only at CT
       clear hfu hu vb bv zv
       go_wp2_with fail
       refine CT.out.mono ?_
       rintro e wz ⟨rfl, hz⟩
       have Bz := Lib.hid (Bv.out.trans (hz.mono Bv.out.size))
       clear hz
       go_wp2_with fail
       go_roundw
       case rel => exact ⟨i + 1, by go_num, by omega, Bz.out⟩
       case measure => simp [intOf]; omega
     ·obtain rfl : i = n2 := by omega
      have hltz : ¬ ((i : Int) < (i : Int)) := by omega
      obtain ⟨m0, m1, m2, m3, m4, m5⟩ := six_cells11 (M6.out.stay BR.out)
      obtain ⟨x0, x1⟩ := two_cells (blk_keep SB6.out BR.out)
      obtain ⟨q0, q1⟩ := two_cells (blk_keep QB6.out BR.out)
      have z2 : (k2 : Int) ≤ (i : Int) + 1 := by omega
      go_wp2_with fail
      go_loopw [122] (fun s122 wr => ∃ j : Nat, s122 = .int .i64 j ∧ j ≤ n1 ∧ Aside (Below w6.heap.size w6 wr)) (fun s122 _ => n1 - (intOf s122).toNat)
      case atStart => exact ⟨0, rfl, Nat.zero_le _, BR.out⟩
      case round =>
       clear BR hi
       obtain ⟨j, rfl, hj, hB⟩ := hrel
       have BR := Lib.hid hB.out
       clear hB m0 m1 m2 m3 m4 m5 x0 x1 q0 q1
       by_cases hlt : j < n1
       ·have hltz : (j : Int) < (n1 : Int) := by omega
        obtain ⟨ad, l, hA, hx, r0, r1⟩ := (L6.out.stay BR.out).at_ (k := j) (by have := N1.out; omega)
        subst hA
        have X := Lib.hid hx
        obtain ⟨wt, hwt⟩ : ∃ u, wr.alloc (.cells #[.int .u64 (l.id : Int), .string (str l.name)] 50) = u := ⟨_, rfl⟩
        obtain ⟨tb, bt, zt⟩ := new_two hwt
        have TB := Lib.hid tb
        have BT := Lib.hid (BR.out.trans (bt.mono BR.out.size))
        obtain ⟨t0, t1⟩ := two_cells tb
        obtain ⟨q0, q1⟩ := two_cells (blk_keep QB6.out BT.out)
        have RL := Lib.hid (refList_c (A2 := q.A2) (n2 := k2) (c := q.c) (c2 := q.c2) (Q6.out.stay BT.out).s.l KK1.out (by omega) l.id)
        unfold FLOk at RL
        clear hx tb bt zt
        have LN : Hid ((T9.ofL m.kind && l.id == m.id) = false) := Lib.hid (by have z := HK.out; rw [show T9.ofL m.kind = false from decide_eq_false (by omega)]; rfl)
        have FL : Hid (T9.findL q.ls l.id = (l, true)) := Lib.hid (QL.out l (List.mem_of_getElem? X.out) LN.out)
        rw [FL.out] at RL
        unfold encL at RL
        dsimp only at RL
        go_wp2_with fail
        refine RL.out.mono ?_
        rintro e wu ⟨rfl, hu⟩
        obtain ⟨wv, hwv⟩ : ∃ u, wu.alloc (.cells #[.int .u64 (l.id : Int), .string (str l.name)] 50) = u := ⟨_, rfl⟩
        obtain ⟨vb, bv, zv⟩ := new_two hwv
        have Bv := Lib.hid ((BT.out.trans (hu.mono BT.out.size)).trans (bv.mono (by have := BT.out.size; have := hu.size; omega)))
        obtain ⟨u0, u1⟩ := two_cells vb
        obtain ⟨t0, t1⟩ := two_cells ((bv.block wr.heap.size (by have := lt_of_block TB.out; have := hu.size; omega)).trans ((hu.block wr.heap.size (lt_of_block TB.out)).trans TB.out))
        obtain ⟨m0, m1, m2, m3, m4, m5⟩ := six_cells11 (M6.out.stay Bv.out)
        clear hu vb bv zv
        go_wp2_with fail
        go_roundw
        case rel => exact ⟨j + 1, by go_num, by omega, Bv.out⟩
        case measure => simp [intOf]; omega
       ·obtain rfl : j = n1 := by omega
        have hltz : ¬ ((j : Int) < (j : Int)) := by omega
        obtain ⟨m0, m1, m2, m3, m4, m5⟩ := six_cells11 (M6.out.stay BR.out)
        obtain ⟨x0, x1⟩ := two_cells (blk_keep SB6.out BR.out)
        obtain ⟨q0, q1⟩ := two_cells (blk_keep QB6.out BR.out)
        have z1 : (k1 : Int) ≤ (j : Int) + 1 := by omega
        go_wp2_with fail
        go_ret
        exact ⟨rfl, B6.out.trans (BR.out.mono B6.out.size)⟩
   ·have ez : (er != 0) = true := by simp [e0]
    have ez2 : (er == 0) = false := by simp [e0]
    go_wp2_with fail
    go_ret
    exact ⟨rfl, B6.out⟩
end Go.Proofs.YtjaaehbllkbiaaaGreat
