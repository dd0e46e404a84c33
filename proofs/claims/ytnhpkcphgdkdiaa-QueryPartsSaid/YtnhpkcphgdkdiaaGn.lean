/- Stage 13: the walk of QueryParts (written by wip/gen13pa.py). -/
import Derived.Test.YtnhpkcphgdkdiaaGp
namespace Go.Proofs.Ytnhpkcphgdkdiaa
set_option maxRecDepth 100000
set_option linter.unusedSimpArgs false
section
open Go.RowKit Go.Lib Go.Shelf Go.Sort
set_option maxRecDepth 100000 in
set_option maxHeartbeats 8000000 in
theorem queryParts_c {s : MSt} {q : T9.Qr} {w : World} (hs : SM s w) (os : s.st.ok) (fs : s.far) :
    Calls Try.prog 4 #[s.val, .agg (qcells q)] w fun e w' => e = .returned (.bool true) ∧ Below w.heap.size w w' := by
  obtain ⟨ls, A, c, ms, A2, c2⟩ := s
  obtain ⟨n1, hn1⟩ : ∃ n, ls.length = n := ⟨_, rfl⟩
  obtain ⟨n2, hn2⟩ : ∃ n, ms.length = n := ⟨_, rfl⟩
  obtain ⟨w0, hw0⟩ : ∃ u, w.alloc (.cells #[.slice A n1 c, .slice A2 n2 c2] 25) = u := ⟨_, rfl⟩
  obtain ⟨sb, b0, z0⟩ := new_two hw0
  obtain ⟨w2, hw1⟩ : ∃ u, w0.alloc (.cells (qcells q) 28) = u := ⟨_, rfl⟩
  obtain ⟨qb, b1, z1⟩ := new_six13 hw1
  rw [z0] at qb z1
  have B2 : Hid (Below w.heap.size w w2) := Lib.hid (b0.trans (b1.mono (by omega)))
  have SB := Lib.hid (blk_keep sb b1)
  have QB : Hid (w2.heap[w.heap.size + 1]? = some (.cells (qcells q) 28 (0, 0))) := Lib.hid qb
  have HS := Lib.hid (hs.stay B2.out)
  have OS := Lib.hid os
  have FS := Lib.hid fs
  have N1 := Lib.hid hn1
  have N2 := Lib.hid hn2
  have AW := Lib.hid (awake13_c w2)
  unfold MSt.val
  dsimp only
  rw [hn1, hn2]
  clear hs os fs sb b0 qb b1 hn1 hn2
  have CLS : Hid (∀ u : World, Below w2.heap.size w2 u → Calls Try.prog 6 #[.agg #[.slice A n1 c, .slice A2 n2 c2]] u (LightOk9 ⟨ls, tks ms⟩ u)) := Lib.hid (fun u hu => light9_c (HS.out.stay hu).l (HS.out.stay hu).k N1.out.symm N2.out.symm FS.out)
  have CLQ := Lib.hid (fun u : World => lightQ_c q u)
  obtain ⟨ql, qd, qt, qs, qw, qm⟩ := q
  unfold qcells at hw1 CLQ QB ⊢
  dsimp only at hw1 CLQ QB ⊢
  go_enter Try.func4, Try.ntmps4
  go_wp2_with fail
  refine AW.out.mono ?_
  rintro e w3 ⟨rfl, h3⟩
  have H3 := Lib.hid h3
  obtain ⟨s0, s1⟩ := two_cells (blk_keep SB.out h3)
  clear h3
  go_wp2_with fail
  refine (CLS.out w3 H3.out).mono ?_
  rintro e w4 ⟨b1, rfl, hb1, h4⟩
  have H4 : Hid (Below w2.heap.size w2 w4) := Lib.hid (H3.out.trans (h4.mono H3.out.size))
  clear h4
  cases b1 with
  | false =>
    clear hb1
    go_wp2_with fail
    go_ret
    exact ⟨rfl, B2.out.trans (H4.out.mono B2.out.size)⟩
  | true =>
  have LS := Lib.hid (hb1 rfl)
  clear hb1
  obtain ⟨p0, p1, p2, p3, p4, p5⟩ := six_cells13 (blk_keep QB.out H4.out)
  go_wp2_with fail
  refine (CLQ.out w4).mono ?_
  rintro e w5 ⟨rfl, h5⟩
  have H5 : Hid (Below w2.heap.size w2 w5) := Lib.hid (H4.out.trans (h5.mono H4.out.size))
  clear h5
  by_cases hq : qt.length ≤ 100
  rotate_left
  · rw [decide_eq_false hq]
    clear hq
    go_wp2_with fail
    go_ret
    exact ⟨rfl, B2.out.trans (H5.out.mono B2.out.size)⟩
  rw [decide_eq_true hq]
  clear hq
  have QB5 := Lib.hid (blk_keep QB.out H5.out)
  clear s0 s1 p0 p1 p2 p3 p4 p5
  go_upto_region 5 with fail
  go_cut [5, 6, 7] (fun s5 s6 s7 wr => ∃ g5 g6 g7 : Nat, s5 = .pointer (some ⟨g5, 0, none⟩) ∧ s6 = .pointer (some ⟨g6, 0, none⟩) ∧ s7 = .pointer (some ⟨g7, 0, none⟩) ∧ Hid (wr.heap[g5]? = some (.cells #[.int .u64 (ql : Int), .int .i64 qd, .string (str qt), .int .i64 qs, .bool qw, .int .i64 qm] 28 (0, 0)) ∧ wr.heap[g6]? = some (.cells #[.int .u64 (ql : Int), .int .i64 qd, .string (str qt), .int .i64 qs, .bool qw, .int .i64 qm] 28 (0, 0)) ∧ wr.heap[g7]? = some (.cells #[.int .u64 (ql : Int), .int .i64 qd, .string (str qt), .int .i64 qs, .bool qw, .int .i64 qm] 28 (0, 0)) ∧ g5 ≠ g6 ∧ g5 ≠ g7 ∧ g6 ≠ g7 ∧ w5.heap.size ≤ g5 ∧ w5.heap.size ≤ g6 ∧ w5.heap.size ≤ g7 ∧ Below w5.heap.size w5 wr))
  case first =>
    refine wp_region_held_drew (S := fun u => Below w5.heap.size w5 u) (by kernel_rfl) ((Below.refl w5.heap.size w5).drew) (fun S0 => ?_)
    generalize w5.drew = wd at S0 ⊢
    refine wpAnyH_take (i := 0) (v := ?_) rfl (by kernel_rfl) (by kernel_rfl) (by kernel_rfl) (fun _ _ _ h => h) (Or.inl ⟨by rfl, ?_⟩) S0 ?_
    rotate_left
    · intro u hu
      obtain ⟨p0, p1, p2, p3, p4, p5⟩ := six_cells13 (blk_keep QB5.out hu)
      go_simp
      try rfl
    try simp only [Act.put, List.setIfInBounds_toArray, List.set_cons_zero, List.set_cons_succ, List.getElem_toArray, List.getElem_cons_zero, List.getElem_cons_succ]
    refine wpAnyH_take (i := 1) (v := ?_) rfl (by kernel_rfl) (by kernel_rfl) (by kernel_rfl) (fun _ _ _ h => h) (Or.inl ⟨by rfl, ?_⟩) S0 ?_
    rotate_left
    · intro u hu
      obtain ⟨p0, p1, p2, p3, p4, p5⟩ := six_cells13 (blk_keep QB5.out hu)
      go_simp
      try rfl
    try simp only [Act.put, List.setIfInBounds_toArray, List.set_cons_zero, List.set_cons_succ, List.getElem_toArray, List.getElem_cons_zero, List.getElem_cons_succ]
    refine wpAnyH_take (i := 2) (v := ?_) rfl (by kernel_rfl) (by kernel_rfl) (by kernel_rfl) (fun _ _ _ h => h) (Or.inl ⟨by rfl, ?_⟩) S0 ?_
    rotate_left
    · intro u hu
      obtain ⟨p0, p1, p2, p3, p4, p5⟩ := six_cells13 (blk_keep QB5.out hu)
      go_simp
      try rfl
    try simp only [Act.put, List.setIfInBounds_toArray, List.set_cons_zero, List.set_cons_succ, List.getElem_toArray, List.getElem_cons_zero, List.getElem_cons_succ]
    refine wpAnyH_ready (rs := [3, 4, 5]) (by kernel_rfl) (by simp) (AllReadyH.cons rfl (fun K hK => ?_) (AllReadyH.cons rfl (fun K hK => ?_) (AllReadyH.cons rfl (fun K hK => ?_) (AllReadyH.nil))))
    · skip
      go_simp
      obtain ⟨v5, hvg⟩ : ∃ x, wd.alloc (.cells #[.int .u64 0, .int .i64 0, .string ⟨#[]⟩, .int .i64 0, .bool false, .int .i64 0] 28) = x := ⟨_, rfl⟩
      obtain ⟨gb, bg, zg⟩ := new_six13 hvg
      try rw [hvg]
      have S1 := S0.trans (bg.mono S0.size)
      obtain ⟨a5, ha5⟩ : ∃ a, wd.heap.size = a := ⟨_, rfl⟩
      rw [ha5] at gb
      have G5 := Lib.hid gb
      have HA5 : Hid (w5.heap.size ≤ a5) := Lib.hid (by rw [← ha5]; exact S0.size)
      have HE5 := Lib.hid ha5
      clear gb bg zg
      refine hK.out _ _ S1 (fun _ => ?_)
      clear hK K S0
      have S0 := S1
      clear S1
      try simp only [Act.put, List.setIfInBounds_toArray, List.set_cons_zero, List.set_cons_succ, List.getElem_toArray, List.getElem_cons_zero, List.getElem_cons_succ]
      refine wpAnyH_ready (rs := [4, 5]) (by kernel_rfl) (by simp) (AllReadyH.cons rfl (fun K hK => ?_) (AllReadyH.cons rfl (fun K hK => ?_) (AllReadyH.nil)))
      · skip
        go_simp
        obtain ⟨v6, hvg⟩ : ∃ x, v5.alloc (.cells #[.int .u64 0, .int .i64 0, .string ⟨#[]⟩, .int .i64 0, .bool false, .int .i64 0] 28) = x := ⟨_, rfl⟩
        obtain ⟨gb, bg, zg⟩ := new_six13 hvg
        try rw [hvg]
        have S1 := S0.trans (bg.mono S0.size)
        obtain ⟨a6, ha6⟩ : ∃ a, v5.heap.size = a := ⟨_, rfl⟩
        rw [ha6] at gb
        have G6 := Lib.hid gb
        have HA6 : Hid (w5.heap.size ≤ a6) := Lib.hid (by rw [← ha6]; exact S0.size)
        have HE6 := Lib.hid ha6
        have NE5_6 : Hid (a5 ≠ a6) := Lib.hid (by have := lt_of_block G5.out; rw [ha6] at this; omega)
        have G5 := Lib.hid (blk_keep G5.out bg)
        clear gb bg zg
        refine hK.out _ _ S1 (fun _ => ?_)
        clear hK K S0
        have S0 := S1
        clear S1
        try simp only [Act.put, List.setIfInBounds_toArray, List.set_cons_zero, List.set_cons_succ, List.getElem_toArray, List.getElem_cons_zero, List.getElem_cons_succ]
        refine anyH_one9 (i := 5) (by kernel_rfl) rfl (fun K hK => ?_)
        go_simp
        obtain ⟨v7, hvg⟩ : ∃ x, v6.alloc (.cells #[.int .u64 0, .int .i64 0, .string ⟨#[]⟩, .int .i64 0, .bool false, .int .i64 0] 28) = x := ⟨_, rfl⟩
        obtain ⟨gb, bg, zg⟩ := new_six13 hvg
        try rw [hvg]
        have S1 := S0.trans (bg.mono S0.size)
        obtain ⟨a7, ha7⟩ : ∃ a, v6.heap.size = a := ⟨_, rfl⟩
        rw [ha7] at gb
        have G7 := Lib.hid gb
        have HA7 : Hid (w5.heap.size ≤ a7) := Lib.hid (by rw [← ha7]; exact S0.size)
        have HE7 := Lib.hid ha7
        have NE5_7 : Hid (a5 ≠ a7) := Lib.hid (by have := lt_of_block G5.out; rw [ha7] at this; omega)
        have NE6_7 : Hid (a6 ≠ a7) := Lib.hid (by have := lt_of_block G6.out; rw [ha7] at this; omega)
        have G5 := Lib.hid (blk_keep G5.out bg)
        have G6 := Lib.hid (blk_keep G6.out bg)
        clear gb bg zg
        refine hK _ _ S1 ?_
        clear hK K S0
        have S0 := S1
        clear S1
        try simp only [Act.put, List.setIfInBounds_toArray, List.set_cons_zero, List.set_cons_succ, List.getElem_toArray, List.getElem_cons_zero, List.getElem_cons_succ]
        refine anyH_one9 (i := 6) (by kernel_rfl) rfl (fun K hK => ?_)
        have gq := G5.out
        obtain ⟨t0, t1, t2, t3, t4, t5⟩ := six_cells13 gq
        have f0 := blk_free gq 0
        have f1 := blk_free gq 1
        have f2 := blk_free gq 2
        have f3 := blk_free gq 3
        have f4 := blk_free gq 4
        have f5 := blk_free gq 5
        go_simp
        obtain ⟨vs0, hvz⟩ : ∃ x, put6 v7 a5 (.int .u64 (ql : Int)) (.int .i64 qd) (.string (str qt)) (.int .i64 qs) (.bool qw) (.int .i64 qm) = x := ⟨_, rfl⟩
        have S1 : Below w5.heap.size w5 vs0 := by
          rw [← hvz]
          exact S0.trans (Tch.put6Ty (B := w5.heap.size) (ts := [28]) (Tch.refl _ _ v7) ⟨_, _, gq⟩ (by simp) (HA5.out) _ _ _ _ _ _).below
        have N5 : Hid (vs0.heap[a5]? = some (.cells #[.int .u64 (ql : Int), .int .i64 qd, .string (str qt), .int .i64 qs, .bool qw, .int .i64 qm] 28 (0, 0))) := Lib.hid (by
          rw [← hvz]
          exact blk_set (blk_set (blk_set (blk_set (blk_set (blk_set gq 0 _) 1 _) 2 _) 3 _) 4 _) 5 _)
        have G6 : Hid (vs0.heap[a6]? = some (.cells #[.int .u64 0, .int .i64 0, .string ⟨#[]⟩, .int .i64 0, .bool false, .int .i64 0] 28 (0, 0))) := Lib.hid (by
          rw [← hvz]
          exact blk_far (blk_far (blk_far (blk_far (blk_far (blk_far G6.out NE5_6.out.symm _) NE5_6.out.symm _) NE5_6.out.symm _) NE5_6.out.symm _) NE5_6.out.symm _) NE5_6.out.symm _)
        have G7 : Hid (vs0.heap[a7]? = some (.cells #[.int .u64 0, .int .i64 0, .string ⟨#[]⟩, .int .i64 0, .bool false, .int .i64 0] 28 (0, 0))) := Lib.hid (by
          rw [← hvz]
          exact blk_far (blk_far (blk_far (blk_far (blk_far (blk_far G7.out NE5_7.out.symm _) NE5_7.out.symm _) NE5_7.out.symm _) NE5_7.out.symm _) NE5_7.out.symm _) NE5_7.out.symm _)
        unfold put6 at hvz
        try rw [hvz]
        clear gq t0 t1 t2 t3 t4 t5 f0 f1 f2 f3 f4 f5 hvz
        refine hK _ _ S1 ?_
        clear hK K S0
        have S0 := S1
        clear S1
        try simp only [Act.put, List.setIfInBounds_toArray, List.set_cons_zero, List.set_cons_succ, List.getElem_toArray, List.getElem_cons_zero, List.getElem_cons_succ]
        refine anyH_one9 (i := 7) (by kernel_rfl) rfl (fun K hK => ?_)
        have gq := G6.out
        obtain ⟨t0, t1, t2, t3, t4, t5⟩ := six_cells13 gq
        have f0 := blk_free gq 0
        have f1 := blk_free gq 1
        have f2 := blk_free gq 2
        have f3 := blk_free gq 3
        have f4 := blk_free gq 4
        have f5 := blk_free gq 5
        go_simp
        obtain ⟨vs1, hvz⟩ : ∃ x, put6 vs0 a6 (.int .u64 (ql : Int)) (.int .i64 qd) (.string (str qt)) (.int .i64 qs) (.bool qw) (.int .i64 qm) = x := ⟨_, rfl⟩
        have S1 : Below w5.heap.size w5 vs1 := by
          rw [← hvz]
          exact S0.trans (Tch.put6Ty (B := w5.heap.size) (ts := [28]) (Tch.refl _ _ vs0) ⟨_, _, gq⟩ (by simp) (HA6.out) _ _ _ _ _ _).below
        have N6 : Hid (vs1.heap[a6]? = some (.cells #[.int .u64 (ql : Int), .int .i64 qd, .string (str qt), .int .i64 qs, .bool qw, .int .i64 qm] 28 (0, 0))) := Lib.hid (by
          rw [← hvz]
          exact blk_set (blk_set (blk_set (blk_set (blk_set (blk_set gq 0 _) 1 _) 2 _) 3 _) 4 _) 5 _)
        have N5 : Hid (vs1.heap[a5]? = some (.cells #[.int .u64 (ql : Int), .int .i64 qd, .string (str qt), .int .i64 qs, .bool qw, .int .i64 qm] 28 (0, 0))) := Lib.hid (by
          rw [← hvz]
          exact blk_far (blk_far (blk_far (blk_far (blk_far (blk_far N5.out NE5_6.out _) NE5_6.out _) NE5_6.out _) NE5_6.out _) NE5_6.out _) NE5_6.out _)
        have G7 : Hid (vs1.heap[a7]? = some (.cells #[.int .u64 0, .int .i64 0, .string ⟨#[]⟩, .int .i64 0, .bool false, .int .i64 0] 28 (0, 0))) := Lib.hid (by
          rw [← hvz]
          exact blk_far (blk_far (blk_far (blk_far (blk_far (blk_far G7.out NE6_7.out.symm _) NE6_7.out.symm _) NE6_7.out.symm _) NE6_7.out.symm _) NE6_7.out.symm _) NE6_7.out.symm _)
        unfold put6 at hvz
        try rw [hvz]
        clear gq t0 t1 t2 t3 t4 t5 f0 f1 f2 f3 f4 f5 hvz
        refine hK _ _ S1 ?_
        clear hK K S0
        have S0 := S1
        clear S1
        try simp only [Act.put, List.setIfInBounds_toArray, List.set_cons_zero, List.set_cons_succ, List.getElem_toArray, List.getElem_cons_zero, List.getElem_cons_succ]
        refine anyH_one9 (i := 8) (by kernel_rfl) rfl (fun K hK => ?_)
        have gq := G7.out
        obtain ⟨t0, t1, t2, t3, t4, t5⟩ := six_cells13 gq
        have f0 := blk_free gq 0
        have f1 := blk_free gq 1
        have f2 := blk_free gq 2
        have f3 := blk_free gq 3
        have f4 := blk_free gq 4
        have f5 := blk_free gq 5
        go_simp
        obtain ⟨vs2, hvz⟩ : ∃ x, put6 vs1 a7 (.int .u64 (ql : Int)) (.int .i64 qd) (.string (str qt)) (.int .i64 qs) (.bool qw) (.int .i64 qm) = x := ⟨_, rfl⟩
        have S1 : Below w5.heap.size w5 vs2 := by
          rw [← hvz]
          exact S0.trans (Tch.put6Ty (B := w5.heap.size) (ts := [28]) (Tch.refl _ _ vs1) ⟨_, _, gq⟩ (by simp) (HA7.out) _ _ _ _ _ _).below
        have N7 : Hid (vs2.heap[a7]? = some (.cells #[.int .u64 (ql : Int), .int .i64 qd, .string (str qt), .int .i64 qs, .bool qw, .int .i64 qm] 28 (0, 0))) := Lib.hid (by
          rw [← hvz]
          exact blk_set (blk_set (blk_set (blk_set (blk_set (blk_set gq 0 _) 1 _) 2 _) 3 _) 4 _) 5 _)
        have N5 : Hid (vs2.heap[a5]? = some (.cells #[.int .u64 (ql : Int), .int .i64 qd, .string (str qt), .int .i64 qs, .bool qw, .int .i64 qm] 28 (0, 0))) := Lib.hid (by
          rw [← hvz]
          exact blk_far (blk_far (blk_far (blk_far (blk_far (blk_far N5.out NE5_7.out _) NE5_7.out _) NE5_7.out _) NE5_7.out _) NE5_7.out _) NE5_7.out _)
        have N6 : Hid (vs2.heap[a6]? = some (.cells #[.int .u64 (ql : Int), .int .i64 qd, .string (str qt), .int .i64 qs, .bool qw, .int .i64 qm] 28 (0, 0))) := Lib.hid (by
          rw [← hvz]
          exact blk_far (blk_far (blk_far (blk_far (blk_far (blk_far N6.out NE6_7.out _) NE6_7.out _) NE6_7.out _) NE6_7.out _) NE6_7.out _) NE6_7.out _)
        unfold put6 at hvz
        try rw [hvz]
        clear gq t0 t1 t2 t3 t4 t5 f0 f1 f2 f3 f4 f5 hvz
        refine hK _ _ S1 ?_
        clear hK K S0
        have S0 := S1
        clear S1
        try simp only [Act.put, List.setIfInBounds_toArray, List.set_cons_zero, List.set_cons_succ, List.getElem_toArray, List.getElem_cons_zero, List.getElem_cons_succ]
        refine wpAnyH_done (by kernel_rfl) ?_ _
        go_wp2
        go_meet
        case rel => exact ⟨a5, a6, a7, rfl, rfl, rfl, Lib.hid ⟨N5.out, N6.out, N7.out, NE5_6.out, NE5_7.out, NE6_7.out, HA5.out, HA6.out, HA7.out, S0⟩⟩
      · skip
        go_simp
        obtain ⟨v7, hvg⟩ : ∃ x, v5.alloc (.cells #[.int .u64 0, .int .i64 0, .string ⟨#[]⟩, .int .i64 0, .bool false, .int .i64 0] 28) = x := ⟨_, rfl⟩
        obtain ⟨gb, bg, zg⟩ := new_six13 hvg
        try rw [hvg]
        have S1 := S0.trans (bg.mono S0.size)
        obtain ⟨a7, ha7⟩ : ∃ a, v5.heap.size = a := ⟨_, rfl⟩
        rw [ha7] at gb
        have G7 := Lib.hid gb
        have HA7 : Hid (w5.heap.size ≤ a7) := Lib.hid (by rw [← ha7]; exact S0.size)
        have HE7 := Lib.hid ha7
        have NE5_7 : Hid (a5 ≠ a7) := Lib.hid (by have := lt_of_block G5.out; rw [ha7] at this; omega)
        have G5 := Lib.hid (blk_keep G5.out bg)
        clear gb bg zg
        refine hK.out _ _ S1 (fun _ => ?_)
        clear hK K S0
        have S0 := S1
        clear S1
        try simp only [Act.put, List.setIfInBounds_toArray, List.set_cons_zero, List.set_cons_succ, List.getElem_toArray, List.getElem_cons_zero, List.getElem_cons_succ]
        refine anyH_one9 (i := 4) (by kernel_rfl) rfl (fun K hK => ?_)
        go_simp
        obtain ⟨v6, hvg⟩ : ∃ x, v7.alloc (.cells #[.int .u64 0, .int .i64 0, .string ⟨#[]⟩, .int .i64 0, .bool false, .int .i64 0] 28) = x := ⟨_, rfl⟩
        obtain ⟨gb, bg, zg⟩ := new_six13 hvg
        try rw [hvg]
        have S1 := S0.trans (bg.mono S0.size)
        obtain ⟨a6, ha6⟩ : ∃ a, v7.heap.size = a := ⟨_, rfl⟩
        rw [ha6] at gb
        have G6 := Lib.hid gb
        have HA6 : Hid (w5.heap.size ≤ a6) := Lib.hid (by rw [← ha6]; exact S0.size)
        have HE6 := Lib.hid ha6
        have NE5_6 : Hid (a5 ≠ a6) := Lib.hid (by have := lt_of_block G5.out; rw [ha6] at this; omega)
        have NE6_7 : Hid (a6 ≠ a7) := Lib.hid (by have := lt_of_block G7.out; rw [ha6] at this; omega)
        have G5 := Lib.hid (blk_keep G5.out bg)
        have G7 := Lib.hid (blk_keep G7.out bg)
        clear gb bg zg
        refine hK _ _ S1 ?_
        clear hK K S0
        have S0 := S1
        clear S1
        try simp only [Act.put, List.setIfInBounds_toArray, List.set_cons_zero, List.set_cons_succ, List.getElem_toArray, List.getElem_cons_zero, List.getElem_cons_succ]
        refine anyH_one9 (i := 6) (by kernel_rfl) rfl (fun K hK => ?_)
        have gq := G5.out
        obtain ⟨t0, t1, t2, t3, t4, t5⟩ := six_cells13 gq
        have f0 := blk_free gq 0
        have f1 := blk_free gq 1
        have f2 := blk_free gq 2
        have f3 := blk_free gq 3
        have f4 := blk_free gq 4
        have f5 := blk_free gq 5
        go_simp
        obtain ⟨vs0, hvz⟩ : ∃ x, put6 v6 a5 (.int .u64 (ql : Int)) (.int .i64 qd) (.string (str qt)) (.int .i64 qs) (.bool qw) (.int .i64 qm) = x := ⟨_, rfl⟩
        have S1 : Below w5.heap.size w5 vs0 := by
          rw [← hvz]
          exact S0.trans (Tch.put6Ty (B := w5.heap.size) (ts := [28]) (Tch.refl _ _ v6) ⟨_, _, gq⟩ (by simp) (HA5.out) _ _ _ _ _ _).below
        have N5 : Hid (vs0.heap[a5]? = some (.cells #[.int .u64 (ql : Int), .int .i64 qd, .string (str qt), .int .i64 qs, .bool qw, .int .i64 qm] 28 (0, 0))) := Lib.hid (by
          rw [← hvz]
          exact blk_set (blk_set (blk_set (blk_set (blk_set (blk_set gq 0 _) 1 _) 2 _) 3 _) 4 _) 5 _)
        have G6 : Hid (vs0.heap[a6]? = some (.cells #[.int .u64 0, .int .i64 0, .string ⟨#[]⟩, .int .i64 0, .bool false, .int .i64 0] 28 (0, 0))) := Lib.hid (by
          rw [← hvz]
          exact blk_far (blk_far (blk_far (blk_far (blk_far (blk_far G6.out NE5_6.out.symm _) NE5_6.out.symm _) NE5_6.out.symm _) NE5_6.out.symm _) NE5_6.out.symm _) NE5_6.out.symm _)
        have G7 : Hid (vs0.heap[a7]? = some (.cells #[.int .u64 0, .int .i64 0, .string ⟨#[]⟩, .int .i64 0, .bool false, .int .i64 0] 28 (0, 0))) := Lib.hid (by
          rw [← hvz]
          exact blk_far (blk_far (blk_far (blk_far (blk_far (blk_far G7.out NE5_7.out.symm _) NE5_7.out.symm _) NE5_7.out.symm _) NE5_7.out.symm _) NE5_7.out.symm _) NE5_7.out.symm _)
        unfold put6 at hvz
        try rw [hvz]
        clear gq t0 t1 t2 t3 t4 t5 f0 f1 f2 f3 f4 f5 hvz
        refine hK _ _ S1 ?_
        clear hK K S0
        have S0 := S1
        clear S1
        try simp only [Act.put, List.setIfInBounds_toArray, List.set_cons_zero, List.set_cons_succ, List.getElem_toArray, List.getElem_cons_zero, List.getElem_cons_succ]
        refine anyH_one9 (i := 7) (by kernel_rfl) rfl (fun K hK => ?_)
        have gq := G6.out
        obtain ⟨t0, t1, t2, t3, t4, t5⟩ := six_cells13 gq
        have f0 := blk_free gq 0
        have f1 := blk_free gq 1
        have f2 := blk_free gq 2
        have f3 := blk_free gq 3
        have f4 := blk_free gq 4
        have f5 := blk_free gq 5
        go_simp
        obtain ⟨vs1, hvz⟩ : ∃ x, put6 vs0 a6 (.int .u64 (ql : Int)) (.int .i64 qd) (.string (str qt)) (.int .i64 qs) (.bool qw) (.int .i64 qm) = x := ⟨_, rfl⟩
        have S1 : Below w5.heap.size w5 vs1 := by
          rw [← hvz]
          exact S0.trans (Tch.put6Ty (B := w5.heap.size) (ts := [28]) (Tch.refl _ _ vs0) ⟨_, _, gq⟩ (by simp) (HA6.out) _ _ _ _ _ _).below
        have N6 : Hid (vs1.heap[a6]? = some (.cells #[.int .u64 (ql : Int), .int .i64 qd, .string (str qt), .int .i64 qs, .bool qw, .int .i64 qm] 28 (0, 0))) := Lib.hid (by
          rw [← hvz]
          exact blk_set (blk_set (blk_set (blk_set (blk_set (blk_set gq 0 _) 1 _) 2 _) 3 _) 4 _) 5 _)
        have N5 : Hid (vs1.heap[a5]? = some (.cells #[.int .u64 (ql : Int), .int .i64 qd, .string (str qt), .int .i64 qs, .bool qw, .int .i64 qm] 28 (0, 0))) := Lib.hid (by
          rw [← hvz]
          exact blk_far (blk_far (blk_far (blk_far (blk_far (blk_far N5.out NE5_6.out _) NE5_6.out _) NE5_6.out _) NE5_6.out _) NE5_6.out _) NE5_6.out _)
        have G7 : Hid (vs1.heap[a7]? = some (.cells #[.int .u64 0, .int .i64 0, .string ⟨#[]⟩, .int .i64 0, .bool false, .int .i64 0] 28 (0, 0))) := Lib.hid (by
          rw [← hvz]
          exact blk_far (blk_far (blk_far (blk_far (blk_far (blk_far G7.out NE6_7.out.symm _) NE6_7.out.symm _) NE6_7.out.symm _) NE6_7.out.symm _) NE6_7.out.symm _) NE6_7.out.symm _)
        unfold put6 at hvz
        try rw [hvz]
        clear gq t0 t1 t2 t3 t4 t5 f0 f1 f2 f3 f4 f5 hvz
        refine hK _ _ S1 ?_
        clear hK K S0
        have S0 := S1
        clear S1
        try simp only [Act.put, List.setIfInBounds_toArray, List.set_cons_zero, List.set_cons_succ, List.getElem_toArray, List.getElem_cons_zero, List.getElem_cons_succ]
        refine anyH_one9 (i := 8) (by kernel_rfl) rfl (fun K hK => ?_)
        have gq := G7.out
        obtain ⟨t0, t1, t2, t3, t4, t5⟩ := six_cells13 gq
        have f0 := blk_free gq 0
        have f1 := blk_free gq 1
        have f2 := blk_free gq 2
        have f3 := blk_free gq 3
        have f4 := blk_free gq 4
        have f5 := blk_free gq 5
        go_simp
        obtain ⟨vs2, hvz⟩ : ∃ x, put6 vs1 a7 (.int .u64 (ql : Int)) (.int .i64 qd) (.string (str qt)) (.int .i64 qs) (.bool qw) (.int .i64 qm) = x := ⟨_, rfl⟩
        have S1 : Below w5.heap.size w5 vs2 := by
          rw [← hvz]
          exact S0.trans (Tch.put6Ty (B := w5.heap.size) (ts := [28]) (Tch.refl _ _ vs1) ⟨_, _, gq⟩ (by simp) (HA7.out) _ _ _ _ _ _).below
        have N7 : Hid (vs2.heap[a7]? = some (.cells #[.int .u64 (ql : Int), .int .i64 qd, .string (str qt), .int .i64 qs, .bool qw, .int .i64 qm] 28 (0, 0))) := Lib.hid (by
          rw [← hvz]
          exact blk_set (blk_set (blk_set (blk_set (blk_set (blk_set gq 0 _) 1 _) 2 _) 3 _) 4 _) 5 _)
        have N5 : Hid (vs2.heap[a5]? = some (.cells #[.int .u64 (ql : Int), .int .i64 qd, .string (str qt), .int .i64 qs, .bool qw, .int .i64 qm] 28 (0, 0))) := Lib.hid (by
          rw [← hvz]
          exact blk_far (blk_far (blk_far (blk_far (blk_far (blk_far N5.out NE5_7.out _) NE5_7.out _) NE5_7.out _) NE5_7.out _) NE5_7.out _) NE5_7.out _)
        have N6 : Hid (vs2.heap[a6]? = some (.cells #[.int .u64 (ql : Int), .int .i64 qd, .string (str qt), .int .i64 qs, .bool qw, .int .i64 qm] 28 (0, 0))) := Lib.hid (by
          rw [← hvz]
          exact blk_far (blk_far (blk_far (blk_far (blk_far (blk_far N6.out NE6_7.out _) NE6_7.out _) NE6_7.out _) NE6_7.out _) NE6_7.out _) NE6_7.out _)
        unfold put6 at hvz
        try rw [hvz]
        clear gq t0 t1 t2 t3 t4 t5 f0 f1 f2 f3 f4 f5 hvz
        refine hK _ _ S1 ?_
        clear hK K S0
        have S0 := S1
        clear S1
        try simp only [Act.put, List.setIfInBounds_toArray, List.set_cons_zero, List.set_cons_succ, List.getElem_toArray, List.getElem_cons_zero, List.getElem_cons_succ]
        refine wpAnyH_done (by kernel_rfl) ?_ _
        go_wp2
        go_meet
        case rel => exact ⟨a5, a6, a7, rfl, rfl, rfl, Lib.hid ⟨N5.out, N6.out, N7.out, NE5_6.out, NE5_7.out, NE6_7.out, HA5.out, HA6.out, HA7.out, S0⟩⟩
    · skip
      go_simp
      obtain ⟨v6, hvg⟩ : ∃ x, wd.alloc (.cells #[.int .u64 0, .int .i64 0, .string ⟨#[]⟩, .int .i64 0, .bool false, .int .i64 0] 28) = x := ⟨_, rfl⟩
      obtain ⟨gb, bg, zg⟩ := new_six13 hvg
      try rw [hvg]
      have S1 := S0.trans (bg.mono S0.size)
      obtain ⟨a6, ha6⟩ : ∃ a, wd.heap.size = a := ⟨_, rfl⟩
      rw [ha6] at gb
      have G6 := Lib.hid gb
      have HA6 : Hid (w5.heap.size ≤ a6) := Lib.hid (by rw [← ha6]; exact S0.size)
      have HE6 := Lib.hid ha6
      clear gb bg zg
      refine hK.out _ _ S1 (fun _ => ?_)
      clear hK K S0
      have S0 := S1
      clear S1
      try simp only [Act.put, List.setIfInBounds_toArray, List.set_cons_zero, List.set_cons_succ, List.getElem_toArray, List.getElem_cons_zero, List.getElem_cons_succ]
      refine wpAnyH_ready (rs := [3, 5]) (by kernel_rfl) (by simp) (AllReadyH.cons rfl (fun K hK => ?_) (AllReadyH.cons rfl (fun K hK => ?_) (AllReadyH.nil)))
      · skip
        go_simp
        obtain ⟨v5, hvg⟩ : ∃ x, v6.alloc (.cells #[.int .u64 0, .int .i64 0, .string ⟨#[]⟩, .int .i64 0, .bool false, .int .i64 0] 28) = x := ⟨_, rfl⟩
        obtain ⟨gb, bg, zg⟩ := new_six13 hvg
        try rw [hvg]
        have S1 := S0.trans (bg.mono S0.size)
        obtain ⟨a5, ha5⟩ : ∃ a, v6.heap.size = a := ⟨_, rfl⟩
        rw [ha5] at gb
        have G5 := Lib.hid gb
        have HA5 : Hid (w5.heap.size ≤ a5) := Lib.hid (by rw [← ha5]; exact S0.size)
        have HE5 := Lib.hid ha5
        have NE5_6 : Hid (a5 ≠ a6) := Lib.hid (by have := lt_of_block G6.out; rw [ha5] at this; omega)
        have G6 := Lib.hid (blk_keep G6.out bg)
        clear gb bg zg
        refine hK.out _ _ S1 (fun _ => ?_)
        clear hK K S0
        have S0 := S1
        clear S1
        try simp only [Act.put, List.setIfInBounds_toArray, List.set_cons_zero, List.set_cons_succ, List.getElem_toArray, List.getElem_cons_zero, List.getElem_cons_succ]
        refine anyH_one9 (i := 5) (by kernel_rfl) rfl (fun K hK => ?_)
        go_simp
        obtain ⟨v7, hvg⟩ : ∃ x, v5.alloc (.cells #[.int .u64 0, .int .i64 0, .string ⟨#[]⟩, .int .i64 0, .bool false, .int .i64 0] 28) = x := ⟨_, rfl⟩
        obtain ⟨gb, bg, zg⟩ := new_six13 hvg
        try rw [hvg]
        have S1 := S0.trans (bg.mono S0.size)
        obtain ⟨a7, ha7⟩ : ∃ a, v5.heap.size = a := ⟨_, rfl⟩
        rw [ha7] at gb
        have G7 := Lib.hid gb
        have HA7 : Hid (w5.heap.size ≤ a7) := Lib.hid (by rw [← ha7]; exact S0.size)
        have HE7 := Lib.hid ha7
        have NE6_7 : Hid (a6 ≠ a7) := Lib.hid (by have := lt_of_block G6.out; rw [ha7] at this; omega)
        have NE5_7 : Hid (a5 ≠ a7) := Lib.hid (by have := lt_of_block G5.out; rw [ha7] at this; omega)
        have G6 := Lib.hid (blk_keep G6.out bg)
        have G5 := Lib.hid (blk_keep G5.out bg)
        clear gb bg zg
        refine hK _ _ S1 ?_
        clear hK K S0
        have S0 := S1
        clear S1
        try simp only [Act.put, List.setIfInBounds_toArray, List.set_cons_zero, List.set_cons_succ, List.getElem_toArray, List.getElem_cons_zero, List.getElem_cons_succ]
        refine anyH_one9 (i := 6) (by kernel_rfl) rfl (fun K hK => ?_)
        have gq := G5.out
        obtain ⟨t0, t1, t2, t3, t4, t5⟩ := six_cells13 gq
        have f0 := blk_free gq 0
        have f1 := blk_free gq 1
        have f2 := blk_free gq 2
        have f3 := blk_free gq 3
        have f4 := blk_free gq 4
        have f5 := blk_free gq 5
        go_simp
        obtain ⟨vs0, hvz⟩ : ∃ x, put6 v7 a5 (.int .u64 (ql : Int)) (.int .i64 qd) (.string (str qt)) (.int .i64 qs) (.bool qw) (.int .i64 qm) = x := ⟨_, rfl⟩
        have S1 : Below w5.heap.size w5 vs0 := by
          rw [← hvz]
          exact S0.trans (Tch.put6Ty (B := w5.heap.size) (ts := [28]) (Tch.refl _ _ v7) ⟨_, _, gq⟩ (by simp) (HA5.out) _ _ _ _ _ _).below
        have N5 : Hid (vs0.heap[a5]? = some (.cells #[.int .u64 (ql : Int), .int .i64 qd, .string (str qt), .int .i64 qs, .bool qw, .int .i64 qm] 28 (0, 0))) := Lib.hid (by
          rw [← hvz]
          exact blk_set (blk_set (blk_set (blk_set (blk_set (blk_set gq 0 _) 1 _) 2 _) 3 _) 4 _) 5 _)
        have G6 : Hid (vs0.heap[a6]? = some (.cells #[.int .u64 0, .int .i64 0, .string ⟨#[]⟩, .int .i64 0, .bool false, .int .i64 0] 28 (0, 0))) := Lib.hid (by
          rw [← hvz]
          exact blk_far (blk_far (blk_far (blk_far (blk_far (blk_far G6.out NE5_6.out.symm _) NE5_6.out.symm _) NE5_6.out.symm _) NE5_6.out.symm _) NE5_6.out.symm _) NE5_6.out.symm _)
        have G7 : Hid (vs0.heap[a7]? = some (.cells #[.int .u64 0, .int .i64 0, .string ⟨#[]⟩, .int .i64 0, .bool false, .int .i64 0] 28 (0, 0))) := Lib.hid (by
          rw [← hvz]
          exact blk_far (blk_far (blk_far (blk_far (blk_far (blk_far G7.out NE5_7.out.symm _) NE5_7.out.symm _) NE5_7.out.symm _) NE5_7.out.symm _) NE5_7.out.symm _) NE5_7.out.symm _)
        unfold put6 at hvz
        try rw [hvz]
        clear gq t0 t1 t2 t3 t4 t5 f0 f1 f2 f3 f4 f5 hvz
        refine hK _ _ S1 ?_
        clear hK K S0
        have S0 := S1
        clear S1
        try simp only [Act.put, List.setIfInBounds_toArray, List.set_cons_zero, List.set_cons_succ, List.getElem_toArray, List.getElem_cons_zero, List.getElem_cons_succ]
        refine anyH_one9 (i := 7) (by kernel_rfl) rfl (fun K hK => ?_)
        have gq := G6.out
        obtain ⟨t0, t1, t2, t3, t4, t5⟩ := six_cells13 gq
        have f0 := blk_free gq 0
        have f1 := blk_free gq 1
        have f2 := blk_free gq 2
        have f3 := blk_free gq 3
        have f4 := blk_free gq 4
        have f5 := blk_free gq 5
        go_simp
        obtain ⟨vs1, hvz⟩ : ∃ x, put6 vs0 a6 (.int .u64 (ql : Int)) (.int .i64 qd) (.string (str qt)) (.int .i64 qs) (.bool qw) (.int .i64 qm) = x := ⟨_, rfl⟩
        have S1 : Below w5.heap.size w5 vs1 := by
          rw [← hvz]
          exact S0.trans (Tch.put6Ty (B := w5.heap.size) (ts := [28]) (Tch.refl _ _ vs0) ⟨_, _, gq⟩ (by simp) (HA6.out) _ _ _ _ _ _).below
        have N6 : Hid (vs1.heap[a6]? = some (.cells #[.int .u64 (ql : Int), .int .i64 qd, .string (str qt), .int .i64 qs, .bool qw, .int .i64 qm] 28 (0, 0))) := Lib.hid (by
          rw [← hvz]
          exact blk_set (blk_set (blk_set (blk_set (blk_set (blk_set gq 0 _) 1 _) 2 _) 3 _) 4 _) 5 _)
        have N5 : Hid (vs1.heap[a5]? = some (.cells #[.int .u64 (ql : Int), .int .i64 qd, .string (str qt), .int .i64 qs, .bool qw, .int .i64 qm] 28 (0, 0))) := Lib.hid (by
          rw [← hvz]
          exact blk_far (blk_far (blk_far (blk_far (blk_far (blk_far N5.out NE5_6.out _) NE5_6.out _) NE5_6.out _) NE5_6.out _) NE5_6.out _) NE5_6.out _)
        have G7 : Hid (vs1.heap[a7]? = some (.cells #[.int .u64 0, .int .i64 0, .string ⟨#[]⟩, .int .i64 0, .bool false, .int .i64 0] 28 (0, 0))) := Lib.hid (by
          rw [← hvz]
          exact blk_far (blk_far (blk_far (blk_far (blk_far (blk_far G7.out NE6_7.out.symm _) NE6_7.out.symm _) NE6_7.out.symm _) NE6_7.out.symm _) NE6_7.out.symm _) NE6_7.out.symm _)
        unfold put6 at hvz
        try rw [hvz]
        clear gq t0 t1 t2 t3 t4 t5 f0 f1 f2 f3 f4 f5 hvz
        refine hK _ _ S1 ?_
        clear hK K S0
        have S0 := S1
        clear S1
        try simp only [Act.put, List.setIfInBounds_toArray, List.set_cons_zero, List.set_cons_succ, List.getElem_toArray, List.getElem_cons_zero, List.getElem_cons_succ]
        refine anyH_one9 (i := 8) (by kernel_rfl) rfl (fun K hK => ?_)
        have gq := G7.out
        obtain ⟨t0, t1, t2, t3, t4, t5⟩ := six_cells13 gq
        have f0 := blk_free gq 0
        have f1 := blk_free gq 1
        have f2 := blk_free gq 2
        have f3 := blk_free gq 3
        have f4 := blk_free gq 4
        have f5 := blk_free gq 5
        go_simp
        obtain ⟨vs2, hvz⟩ : ∃ x, put6 vs1 a7 (.int .u64 (ql : Int)) (.int .i64 qd) (.string (str qt)) (.int .i64 qs) (.bool qw) (.int .i64 qm) = x := ⟨_, rfl⟩
        have S1 : Below w5.heap.size w5 vs2 := by
          rw [← hvz]
          exact S0.trans (Tch.put6Ty (B := w5.heap.size) (ts := [28]) (Tch.refl _ _ vs1) ⟨_, _, gq⟩ (by simp) (HA7.out) _ _ _ _ _ _).below
        have N7 : Hid (vs2.heap[a7]? = some (.cells #[.int .u64 (ql : Int), .int .i64 qd, .string (str qt), .int .i64 qs, .bool qw, .int .i64 qm] 28 (0, 0))) := Lib.hid (by
          rw [← hvz]
          exact blk_set (blk_set (blk_set (blk_set (blk_set (blk_set gq 0 _) 1 _) 2 _) 3 _) 4 _) 5 _)
        have N5 : Hid (vs2.heap[a5]? = some (.cells #[.int .u64 (ql : Int), .int .i64 qd, .string (str qt), .int .i64 qs, .bool qw, .int .i64 qm] 28 (0, 0))) := Lib.hid (by
          rw [← hvz]
          exact blk_far (blk_far (blk_far (blk_far (blk_far (blk_far N5.out NE5_7.out _) NE5_7.out _) NE5_7.out _) NE5_7.out _) NE5_7.out _) NE5_7.out _)
        have N6 : Hid (vs2.heap[a6]? = some (.cells #[.int .u64 (ql : Int), .int .i64 qd, .string (str qt), .int .i64 qs, .bool qw, .int .i64 qm] 28 (0, 0))) := Lib.hid (by
          rw [← hvz]
          exact blk_far (blk_far (blk_far (blk_far (blk_far (blk_far N6.out NE6_7.out _) NE6_7.out _) NE6_7.out _) NE6_7.out _) NE6_7.out _) NE6_7.out _)
        unfold put6 at hvz
        try rw [hvz]
        clear gq t0 t1 t2 t3 t4 t5 f0 f1 f2 f3 f4 f5 hvz
        refine hK _ _ S1 ?_
        clear hK K S0
        have S0 := S1
        clear S1
        try simp only [Act.put, List.setIfInBounds_toArray, List.set_cons_zero, List.set_cons_succ, List.getElem_toArray, List.getElem_cons_zero, List.getElem_cons_succ]
        refine wpAnyH_done (by kernel_rfl) ?_ _
        go_wp2
        go_meet
        case rel => exact ⟨a5, a6, a7, rfl, rfl, rfl, Lib.hid ⟨N5.out, N6.out, N7.out, NE5_6.out, NE5_7.out, NE6_7.out, HA5.out, HA6.out, HA7.out, S0⟩⟩
      · skip
        go_simp
        obtain ⟨v7, hvg⟩ : ∃ x, v6.alloc (.cells #[.int .u64 0, .int .i64 0, .string ⟨#[]⟩, .int .i64 0, .bool false, .int .i64 0] 28) = x := ⟨_, rfl⟩
        obtain ⟨gb, bg, zg⟩ := new_six13 hvg
        try rw [hvg]
        have S1 := S0.trans (bg.mono S0.size)
        obtain ⟨a7, ha7⟩ : ∃ a, v6.heap.size = a := ⟨_, rfl⟩
        rw [ha7] at gb
        have G7 := Lib.hid gb
        have HA7 : Hid (w5.heap.size ≤ a7) := Lib.hid (by rw [← ha7]; exact S0.size)
        have HE7 := Lib.hid ha7
        have NE6_7 : Hid (a6 ≠ a7) := Lib.hid (by have := lt_of_block G6.out; rw [ha7] at this; omega)
        have G6 := Lib.hid (blk_keep G6.out bg)
        clear gb bg zg
        refine hK.out _ _ S1 (fun _ => ?_)
        clear hK K S0
        have S0 := S1
        clear S1
        try simp only [Act.put, List.setIfInBounds_toArray, List.set_cons_zero, List.set_cons_succ, List.getElem_toArray, List.getElem_cons_zero, List.getElem_cons_succ]
        refine anyH_one9 (i := 3) (by kernel_rfl) rfl (fun K hK => ?_)
        go_simp
        obtain ⟨v5, hvg⟩ : ∃ x, v7.alloc (.cells #[.int .u64 0, .int .i64 0, .string ⟨#[]⟩, .int .i64 0, .bool false, .int .i64 0] 28) = x := ⟨_, rfl⟩
        obtain ⟨gb, bg, zg⟩ := new_six13 hvg
        try rw [hvg]
        have S1 := S0.trans (bg.mono S0.size)
        obtain ⟨a5, ha5⟩ : ∃ a, v7.heap.size = a := ⟨_, rfl⟩
        rw [ha5] at gb
        have G5 := Lib.hid gb
        have HA5 : Hid (w5.heap.size ≤ a5) := Lib.hid (by rw [← ha5]; exact S0.size)
        have HE5 := Lib.hid ha5
        have NE5_6 : Hid (a5 ≠ a6) := Lib.hid (by have := lt_of_block G6.out; rw [ha5] at this; omega)
        have NE5_7 : Hid (a5 ≠ a7) := Lib.hid (by have := lt_of_block G7.out; rw [ha5] at this; omega)
        have G6 := Lib.hid (blk_keep G6.out bg)
        have G7 := Lib.hid (blk_keep G7.out bg)
        clear gb bg zg
        refine hK _ _ S1 ?_
        clear hK K S0
        have S0 := S1
        clear S1
        try simp only [Act.put, List.setIfInBounds_toArray, List.set_cons_zero, List.set_cons_succ, List.getElem_toArray, List.getElem_cons_zero, List.getElem_cons_succ]
        refine anyH_one9 (i := 6) (by kernel_rfl) rfl (fun K hK => ?_)
        have gq := G5.out
        obtain ⟨t0, t1, t2, t3, t4, t5⟩ := six_cells13 gq
        have f0 := blk_free gq 0
        have f1 := blk_free gq 1
        have f2 := blk_free gq 2
        have f3 := blk_free gq 3
        have f4 := blk_free gq 4
        have f5 := blk_free gq 5
        go_simp
        obtain ⟨vs0, hvz⟩ : ∃ x, put6 v5 a5 (.int .u64 (ql : Int)) (.int .i64 qd) (.string (str qt)) (.int .i64 qs) (.bool qw) (.int .i64 qm) = x := ⟨_, rfl⟩
        have S1 : Below w5.heap.size w5 vs0 := by
          rw [← hvz]
          exact S0.trans (Tch.put6Ty (B := w5.heap.size) (ts := [28]) (Tch.refl _ _ v5) ⟨_, _, gq⟩ (by simp) (HA5.out) _ _ _ _ _ _).below
        have N5 : Hid (vs0.heap[a5]? = some (.cells #[.int .u64 (ql : Int), .int .i64 qd, .string (str qt), .int .i64 qs, .bool qw, .int .i64 qm] 28 (0, 0))) := Lib.hid (by
          rw [← hvz]
          exact blk_set (blk_set (blk_set (blk_set (blk_set (blk_set gq 0 _) 1 _) 2 _) 3 _) 4 _) 5 _)
        have G6 : Hid (vs0.heap[a6]? = some (.cells #[.int .u64 0, .int .i64 0, .string ⟨#[]⟩, .int .i64 0, .bool false, .int .i64 0] 28 (0, 0))) := Lib.hid (by
          rw [← hvz]
          exact blk_far (blk_far (blk_far (blk_far (blk_far (blk_far G6.out NE5_6.out.symm _) NE5_6.out.symm _) NE5_6.out.symm _) NE5_6.out.symm _) NE5_6.out.symm _) NE5_6.out.symm _)
        have G7 : Hid (vs0.heap[a7]? = some (.cells #[.int .u64 0, .int .i64 0, .string ⟨#[]⟩, .int .i64 0, .bool false, .int .i64 0] 28 (0, 0))) := Lib.hid (by
          rw [← hvz]
          exact blk_far (blk_far (blk_far (blk_far (blk_far (blk_far G7.out NE5_7.out.symm _) NE5_7.out.symm _) NE5_7.out.symm _) NE5_7.out.symm _) NE5_7.out.symm _) NE5_7.out.symm _)
        unfold put6 at hvz
        try rw [hvz]
        clear gq t0 t1 t2 t3 t4 t5 f0 f1 f2 f3 f4 f5 hvz
        refine hK _ _ S1 ?_
        clear hK K S0
        have S0 := S1
        clear S1
        try simp only [Act.put, List.setIfInBounds_toArray, List.set_cons_zero, List.set_cons_succ, List.getElem_toArray, List.getElem_cons_zero, List.getElem_cons_succ]
        refine anyH_one9 (i := 7) (by kernel_rfl) rfl (fun K hK => ?_)
        have gq := G6.out
        obtain ⟨t0, t1, t2, t3, t4, t5⟩ := six_cells13 gq
        have f0 := blk_free gq 0
        have f1 := blk_free gq 1
        have f2 := blk_free gq 2
        have f3 := blk_free gq 3
        have f4 := blk_free gq 4
        have f5 := blk_free gq 5
        go_simp
        obtain ⟨vs1, hvz⟩ : ∃ x, put6 vs0 a6 (.int .u64 (ql : Int)) (.int .i64 qd) (.string (str qt)) (.int .i64 qs) (.bool qw) (.int .i64 qm) = x := ⟨_, rfl⟩
        have S1 : Below w5.heap.size w5 vs1 := by
          rw [← hvz]
          exact S0.trans (Tch.put6Ty (B := w5.heap.size) (ts := [28]) (Tch.refl _ _ vs0) ⟨_, _, gq⟩ (by simp) (HA6.out) _ _ _ _ _ _).below
        have N6 : Hid (vs1.heap[a6]? = some (.cells #[.int .u64 (ql : Int), .int .i64 qd, .string (str qt), .int .i64 qs, .bool qw, .int .i64 qm] 28 (0, 0))) := Lib.hid (by
          rw [← hvz]
          exact blk_set (blk_set (blk_set (blk_set (blk_set (blk_set gq 0 _) 1 _) 2 _) 3 _) 4 _) 5 _)
        have N5 : Hid (vs1.heap[a5]? = some (.cells #[.int .u64 (ql : Int), .int .i64 qd, .string (str qt), .int .i64 qs, .bool qw, .int .i64 qm] 28 (0, 0))) := Lib.hid (by
          rw [← hvz]
          exact blk_far (blk_far (blk_far (blk_far (blk_far (blk_far N5.out NE5_6.out _) NE5_6.out _) NE5_6.out _) NE5_6.out _) NE5_6.out _) NE5_6.out _)
        have G7 : Hid (vs1.heap[a7]? = some (.cells #[.int .u64 0, .int .i64 0, .string ⟨#[]⟩, .int .i64 0, .bool false, .int .i64 0] 28 (0, 0))) := Lib.hid (by
          rw [← hvz]
          exact blk_far (blk_far (blk_far (blk_far (blk_far (blk_far G7.out NE6_7.out.symm _) NE6_7.out.symm _) NE6_7.out.symm _) NE6_7.out.symm _) NE6_7.out.symm _) NE6_7.out.symm _)
        unfold put6 at hvz
        try rw [hvz]
        clear gq t0 t1 t2 t3 t4 t5 f0 f1 f2 f3 f4 f5 hvz
        refine hK _ _ S1 ?_
        clear hK K S0
        have S0 := S1
        clear S1
        try simp only [Act.put, List.setIfInBounds_toArray, List.set_cons_zero, List.set_cons_succ, List.getElem_toArray, List.getElem_cons_zero, List.getElem_cons_succ]
        refine anyH_one9 (i := 8) (by kernel_rfl) rfl (fun K hK => ?_)
        have gq := G7.out
        obtain ⟨t0, t1, t2, t3, t4, t5⟩ := six_cells13 gq
        have f0 := blk_free gq 0
        have f1 := blk_free gq 1
        have f2 := blk_free gq 2
        have f3 := blk_free gq 3
        have f4 := blk_free gq 4
        have f5 := blk_free gq 5
        go_simp
        obtain ⟨vs2, hvz⟩ : ∃ x, put6 vs1 a7 (.int .u64 (ql : Int)) (.int .i64 qd) (.string (str qt)) (.int .i64 qs) (.bool qw) (.int .i64 qm) = x := ⟨_, rfl⟩
        have S1 : Below w5.heap.size w5 vs2 := by
          rw [← hvz]
          exact S0.trans (Tch.put6Ty (B := w5.heap.size) (ts := [28]) (Tch.refl _ _ vs1) ⟨_, _, gq⟩ (by simp) (HA7.out) _ _ _ _ _ _).below
        have N7 : Hid (vs2.heap[a7]? = some (.cells #[.int .u64 (ql : Int), .int .i64 qd, .string (str qt), .int .i64 qs, .bool qw, .int .i64 qm] 28 (0, 0))) := Lib.hid (by
          rw [← hvz]
          exact blk_set (blk_set (blk_set (blk_set (blk_set (blk_set gq 0 _) 1 _) 2 _) 3 _) 4 _) 5 _)
        have N5 : Hid (vs2.heap[a5]? = some (.cells #[.int .u64 (ql : Int), .int .i64 qd, .string (str qt), .int .i64 qs, .bool qw, .int .i64 qm] 28 (0, 0))) := Lib.hid (by
          rw [← hvz]
          exact blk_far (blk_far (blk_far (blk_far (blk_far (blk_far N5.out NE5_7.out _) NE5_7.out _) NE5_7.out _) NE5_7.out _) NE5_7.out _) NE5_7.out _)
        have N6 : Hid (vs2.heap[a6]? = some (.cells #[.int .u64 (ql : Int), .int .i64 qd, .string (str qt), .int .i64 qs, .bool qw, .int .i64 qm] 28 (0, 0))) := Lib.hid (by
          rw [← hvz]
          exact blk_far (blk_far (blk_far (blk_far (blk_far (blk_far N6.out NE6_7.out _) NE6_7.out _) NE6_7.out _) NE6_7.out _) NE6_7.out _) NE6_7.out _)
        unfold put6 at hvz
        try rw [hvz]
        clear gq t0 t1 t2 t3 t4 t5 f0 f1 f2 f3 f4 f5 hvz
        refine hK _ _ S1 ?_
        clear hK K S0
        have S0 := S1
        clear S1
        try simp only [Act.put, List.setIfInBounds_toArray, List.set_cons_zero, List.set_cons_succ, List.getElem_toArray, List.getElem_cons_zero, List.getElem_cons_succ]
        refine wpAnyH_done (by kernel_rfl) ?_ _
        go_wp2
        go_meet
        case rel => exact ⟨a5, a6, a7, rfl, rfl, rfl, Lib.hid ⟨N5.out, N6.out, N7.out, NE5_6.out, NE5_7.out, NE6_7.out, HA5.out, HA6.out, HA7.out, S0⟩⟩
    · skip
      go_simp
      obtain ⟨v7, hvg⟩ : ∃ x, wd.alloc (.cells #[.int .u64 0, .int .i64 0, .string ⟨#[]⟩, .int .i64 0, .bool false, .int .i64 0] 28) = x := ⟨_, rfl⟩
      obtain ⟨gb, bg, zg⟩ := new_six13 hvg
      try rw [hvg]
      have S1 := S0.trans (bg.mono S0.size)
      obtain ⟨a7, ha7⟩ : ∃ a, wd.heap.size = a := ⟨_, rfl⟩
      rw [ha7] at gb
      have G7 := Lib.hid gb
      have HA7 : Hid (w5.heap.size ≤ a7) := Lib.hid (by rw [← ha7]; exact S0.size)
      have HE7 := Lib.hid ha7
      clear gb bg zg
      refine hK.out _ _ S1 (fun _ => ?_)
      clear hK K S0
      have S0 := S1
      clear S1
      try simp only [Act.put, List.setIfInBounds_toArray, List.set_cons_zero, List.set_cons_succ, List.getElem_toArray, List.getElem_cons_zero, List.getElem_cons_succ]
      refine wpAnyH_ready (rs := [3, 4]) (by kernel_rfl) (by simp) (AllReadyH.cons rfl (fun K hK => ?_) (AllReadyH.cons rfl (fun K hK => ?_) (AllReadyH.nil)))
      · skip
        go_simp
        obtain ⟨v5, hvg⟩ : ∃ x, v7.alloc (.cells #[.int .u64 0, .int .i64 0, .string ⟨#[]⟩, .int .i64 0, .bool false, .int .i64 0] 28) = x := ⟨_, rfl⟩
        obtain ⟨gb, bg, zg⟩ := new_six13 hvg
        try rw [hvg]
        have S1 := S0.trans (bg.mono S0.size)
        obtain ⟨a5, ha5⟩ : ∃ a, v7.heap.size = a := ⟨_, rfl⟩
        rw [ha5] at gb
        have G5 := Lib.hid gb
        have HA5 : Hid (w5.heap.size ≤ a5) := Lib.hid (by rw [← ha5]; exact S0.size)
        have HE5 := Lib.hid ha5
        have NE5_7 : Hid (a5 ≠ a7) := Lib.hid (by have := lt_of_block G7.out; rw [ha5] at this; omega)
        have G7 := Lib.hid (blk_keep G7.out bg)
        clear gb bg zg
        refine hK.out _ _ S1 (fun _ => ?_)
        clear hK K S0
        have S0 := S1
        clear S1
        try simp only [Act.put, List.setIfInBounds_toArray, List.set_cons_zero, List.set_cons_succ, List.getElem_toArray, List.getElem_cons_zero, List.getElem_cons_succ]
        refine anyH_one9 (i := 4) (by kernel_rfl) rfl (fun K hK => ?_)
        go_simp
        obtain ⟨v6, hvg⟩ : ∃ x, v5.alloc (.cells #[.int .u64 0, .int .i64 0, .string ⟨#[]⟩, .int .i64 0, .bool false, .int .i64 0] 28) = x := ⟨_, rfl⟩
        obtain ⟨gb, bg, zg⟩ := new_six13 hvg
        try rw [hvg]
        have S1 := S0.trans (bg.mono S0.size)
        obtain ⟨a6, ha6⟩ : ∃ a, v5.heap.size = a := ⟨_, rfl⟩
        rw [ha6] at gb
        have G6 := Lib.hid gb
        have HA6 : Hid (w5.heap.size ≤ a6) := Lib.hid (by rw [← ha6]; exact S0.size)
        have HE6 := Lib.hid ha6
        have NE6_7 : Hid (a6 ≠ a7) := Lib.hid (by have := lt_of_block G7.out; rw [ha6] at this; omega)
        have NE5_6 : Hid (a5 ≠ a6) := Lib.hid (by have := lt_of_block G5.out; rw [ha6] at this; omega)
        have G7 := Lib.hid (blk_keep G7.out bg)
        have G5 := Lib.hid (blk_keep G5.out bg)
        clear gb bg zg
        refine hK _ _ S1 ?_
        clear hK K S0
        have S0 := S1
        clear S1
        try simp only [Act.put, List.setIfInBounds_toArray, List.set_cons_zero, List.set_cons_succ, List.getElem_toArray, List.getElem_cons_zero, List.getElem_cons_succ]
        refine anyH_one9 (i := 6) (by kernel_rfl) rfl (fun K hK => ?_)
        have gq := G5.out
        obtain ⟨t0, t1, t2, t3, t4, t5⟩ := six_cells13 gq
        have f0 := blk_free gq 0
        have f1 := blk_free gq 1
        have f2 := blk_free gq 2
        have f3 := blk_free gq 3
        have f4 := blk_free gq 4
        have f5 := blk_free gq 5
        go_simp
        obtain ⟨vs0, hvz⟩ : ∃ x, put6 v6 a5 (.int .u64 (ql : Int)) (.int .i64 qd) (.string (str qt)) (.int .i64 qs) (.bool qw) (.int .i64 qm) = x := ⟨_, rfl⟩
        have S1 : Below w5.heap.size w5 vs0 := by
          rw [← hvz]
          exact S0.trans (Tch.put6Ty (B := w5.heap.size) (ts := [28]) (Tch.refl _ _ v6) ⟨_, _, gq⟩ (by simp) (HA5.out) _ _ _ _ _ _).below
        have N5 : Hid (vs0.heap[a5]? = some (.cells #[.int .u64 (ql : Int), .int .i64 qd, .string (str qt), .int .i64 qs, .bool qw, .int .i64 qm] 28 (0, 0))) := Lib.hid (by
          rw [← hvz]
          exact blk_set (blk_set (blk_set (blk_set (blk_set (blk_set gq 0 _) 1 _) 2 _) 3 _) 4 _) 5 _)
        have G6 : Hid (vs0.heap[a6]? = some (.cells #[.int .u64 0, .int .i64 0, .string ⟨#[]⟩, .int .i64 0, .bool false, .int .i64 0] 28 (0, 0))) := Lib.hid (by
          rw [← hvz]
          exact blk_far (blk_far (blk_far (blk_far (blk_far (blk_far G6.out NE5_6.out.symm _) NE5_6.out.symm _) NE5_6.out.symm _) NE5_6.out.symm _) NE5_6.out.symm _) NE5_6.out.symm _)
        have G7 : Hid (vs0.heap[a7]? = some (.cells #[.int .u64 0, .int .i64 0, .string ⟨#[]⟩, .int .i64 0, .bool false, .int .i64 0] 28 (0, 0))) := Lib.hid (by
          rw [← hvz]
          exact blk_far (blk_far (blk_far (blk_far (blk_far (blk_far G7.out NE5_7.out.symm _) NE5_7.out.symm _) NE5_7.out.symm _) NE5_7.out.symm _) NE5_7.out.symm _) NE5_7.out.symm _)
        unfold put6 at hvz
        try rw [hvz]
        clear gq t0 t1 t2 t3 t4 t5 f0 f1 f2 f3 f4 f5 hvz
        refine hK _ _ S1 ?_
        clear hK K S0
        have S0 := S1
        clear S1
        try simp only [Act.put, List.setIfInBounds_toArray, List.set_cons_zero, List.set_cons_succ, List.getElem_toArray, List.getElem_cons_zero, List.getElem_cons_succ]
        refine anyH_one9 (i := 7) (by kernel_rfl) rfl (fun K hK => ?_)
        have gq := G6.out
        obtain ⟨t0, t1, t2, t3, t4, t5⟩ := six_cells13 gq
        have f0 := blk_free gq 0
        have f1 := blk_free gq 1
        have f2 := blk_free gq 2
        have f3 := blk_free gq 3
        have f4 := blk_free gq 4
        have f5 := blk_free gq 5
        go_simp
        obtain ⟨vs1, hvz⟩ : ∃ x, put6 vs0 a6 (.int .u64 (ql : Int)) (.int .i64 qd) (.string (str qt)) (.int .i64 qs) (.bool qw) (.int .i64 qm) = x := ⟨_, rfl⟩
        have S1 : Below w5.heap.size w5 vs1 := by
          rw [← hvz]
          exact S0.trans (Tch.put6Ty (B := w5.heap.size) (ts := [28]) (Tch.refl _ _ vs0) ⟨_, _, gq⟩ (by simp) (HA6.out) _ _ _ _ _ _).below
        have N6 : Hid (vs1.heap[a6]? = some (.cells #[.int .u64 (ql : Int), .int .i64 qd, .string (str qt), .int .i64 qs, .bool qw, .int .i64 qm] 28 (0, 0))) := Lib.hid (by
          rw [← hvz]
          exact blk_set (blk_set (blk_set (blk_set (blk_set (blk_set gq 0 _) 1 _) 2 _) 3 _) 4 _) 5 _)
        have N5 : Hid (vs1.heap[a5]? = some (.cells #[.int .u64 (ql : Int), .int .i64 qd, .string (str qt), .int .i64 qs, .bool qw, .int .i64 qm] 28 (0, 0))) := Lib.hid (by
          rw [← hvz]
          exact blk_far (blk_far (blk_far (blk_far (blk_far (blk_far N5.out NE5_6.out _) NE5_6.out _) NE5_6.out _) NE5_6.out _) NE5_6.out _) NE5_6.out _)
        have G7 : Hid (vs1.heap[a7]? = some (.cells #[.int .u64 0, .int .i64 0, .string ⟨#[]⟩, .int .i64 0, .bool false, .int .i64 0] 28 (0, 0))) := Lib.hid (by
          rw [← hvz]
          exact blk_far (blk_far (blk_far (blk_far (blk_far (blk_far G7.out NE6_7.out.symm _) NE6_7.out.symm _) NE6_7.out.symm _) NE6_7.out.symm _) NE6_7.out.symm _) NE6_7.out.symm _)
        unfold put6 at hvz
        try rw [hvz]
        clear gq t0 t1 t2 t3 t4 t5 f0 f1 f2 f3 f4 f5 hvz
        refine hK _ _ S1 ?_
        clear hK K S0
        have S0 := S1
        clear S1
        try simp only [Act.put, List.setIfInBounds_toArray, List.set_cons_zero, List.set_cons_succ, List.getElem_toArray, List.getElem_cons_zero, List.getElem_cons_succ]
        refine anyH_one9 (i := 8) (by kernel_rfl) rfl (fun K hK => ?_)
        have gq := G7.out
        obtain ⟨t0, t1, t2, t3, t4, t5⟩ := six_cells13 gq
        have f0 := blk_free gq 0
        have f1 := blk_free gq 1
        have f2 := blk_free gq 2
        have f3 := blk_free gq 3
        have f4 := blk_free gq 4
        have f5 := blk_free gq 5
        go_simp
        obtain ⟨vs2, hvz⟩ : ∃ x, put6 vs1 a7 (.int .u64 (ql : Int)) (.int .i64 qd) (.string (str qt)) (.int .i64 qs) (.bool qw) (.int .i64 qm) = x := ⟨_, rfl⟩
        have S1 : Below w5.heap.size w5 vs2 := by
          rw [← hvz]
          exact S0.trans (Tch.put6Ty (B := w5.heap.size) (ts := [28]) (Tch.refl _ _ vs1) ⟨_, _, gq⟩ (by simp) (HA7.out) _ _ _ _ _ _).below
        have N7 : Hid (vs2.heap[a7]? = some (.cells #[.int .u64 (ql : Int), .int .i64 qd, .string (str qt), .int .i64 qs, .bool qw, .int .i64 qm] 28 (0, 0))) := Lib.hid (by
          rw [← hvz]
          exact blk_set (blk_set (blk_set (blk_set (blk_set (blk_set gq 0 _) 1 _) 2 _) 3 _) 4 _) 5 _)
        have N5 : Hid (vs2.heap[a5]? = some (.cells #[.int .u64 (ql : Int), .int .i64 qd, .string (str qt), .int .i64 qs, .bool qw, .int .i64 qm] 28 (0, 0))) := Lib.hid (by
          rw [← hvz]
          exact blk_far (blk_far (blk_far (blk_far (blk_far (blk_far N5.out NE5_7.out _) NE5_7.out _) NE5_7.out _) NE5_7.out _) NE5_7.out _) NE5_7.out _)
        have N6 : Hid (vs2.heap[a6]? = some (.cells #[.int .u64 (ql : Int), .int .i64 qd, .string (str qt), .int .i64 qs, .bool qw, .int .i64 qm] 28 (0, 0))) := Lib.hid (by
          rw [← hvz]
          exact blk_far (blk_far (blk_far (blk_far (blk_far (blk_far N6.out NE6_7.out _) NE6_7.out _) NE6_7.out _) NE6_7.out _) NE6_7.out _) NE6_7.out _)
        unfold put6 at hvz
        try rw [hvz]
        clear gq t0 t1 t2 t3 t4 t5 f0 f1 f2 f3 f4 f5 hvz
        refine hK _ _ S1 ?_
        clear hK K S0
        have S0 := S1
        clear S1
        try simp only [Act.put, List.setIfInBounds_toArray, List.set_cons_zero, List.set_cons_succ, List.getElem_toArray, List.getElem_cons_zero, List.getElem_cons_succ]
        refine wpAnyH_done (by kernel_rfl) ?_ _
        go_wp2
        go_meet
        case rel => exact ⟨a5, a6, a7, rfl, rfl, rfl, Lib.hid ⟨N5.out, N6.out, N7.out, NE5_6.out, NE5_7.out, NE6_7.out, HA5.out, HA6.out, HA7.out, S0⟩⟩
      · skip
        go_simp
        obtain ⟨v6, hvg⟩ : ∃ x, v7.alloc (.cells #[.int .u64 0, .int .i64 0, .string ⟨#[]⟩, .int .i64 0, .bool false, .int .i64 0] 28) = x := ⟨_, rfl⟩
        obtain ⟨gb, bg, zg⟩ := new_six13 hvg
        try rw [hvg]
        have S1 := S0.trans (bg.mono S0.size)
        obtain ⟨a6, ha6⟩ : ∃ a, v7.heap.size = a := ⟨_, rfl⟩
        rw [ha6] at gb
        have G6 := Lib.hid gb
        have HA6 : Hid (w5.heap.size ≤ a6) := Lib.hid (by rw [← ha6]; exact S0.size)
        have HE6 := Lib.hid ha6
        have NE6_7 : Hid (a6 ≠ a7) := Lib.hid (by have := lt_of_block G7.out; rw [ha6] at this; omega)
        have G7 := Lib.hid (blk_keep G7.out bg)
        clear gb bg zg
        refine hK.out _ _ S1 (fun _ => ?_)
        clear hK K S0
        have S0 := S1
        clear S1
        try simp only [Act.put, List.setIfInBounds_toArray, List.set_cons_zero, List.set_cons_succ, List.getElem_toArray, List.getElem_cons_zero, List.getElem_cons_succ]
        refine anyH_one9 (i := 3) (by kernel_rfl) rfl (fun K hK => ?_)
        go_simp
        obtain ⟨v5, hvg⟩ : ∃ x, v6.alloc (.cells #[.int .u64 0, .int .i64 0, .string ⟨#[]⟩, .int .i64 0, .bool false, .int .i64 0] 28) = x := ⟨_, rfl⟩
        obtain ⟨gb, bg, zg⟩ := new_six13 hvg
        try rw [hvg]
        have S1 := S0.trans (bg.mono S0.size)
        obtain ⟨a5, ha5⟩ : ∃ a, v6.heap.size = a := ⟨_, rfl⟩
        rw [ha5] at gb
        have G5 := Lib.hid gb
        have HA5 : Hid (w5.heap.size ≤ a5) := Lib.hid (by rw [← ha5]; exact S0.size)
        have HE5 := Lib.hid ha5
        have NE5_7 : Hid (a5 ≠ a7) := Lib.hid (by have := lt_of_block G7.out; rw [ha5] at this; omega)
        have NE5_6 : Hid (a5 ≠ a6) := Lib.hid (by have := lt_of_block G6.out; rw [ha5] at this; omega)
        have G7 := Lib.hid (blk_keep G7.out bg)
        have G6 := Lib.hid (blk_keep G6.out bg)
        clear gb bg zg
        refine hK _ _ S1 ?_
        clear hK K S0
        have S0 := S1
        clear S1
        try simp only [Act.put, List.setIfInBounds_toArray, List.set_cons_zero, List.set_cons_succ, List.getElem_toArray, List.getElem_cons_zero, List.getElem_cons_succ]
        refine anyH_one9 (i := 6) (by kernel_rfl) rfl (fun K hK => ?_)
        have gq := G5.out
        obtain ⟨t0, t1, t2, t3, t4, t5⟩ := six_cells13 gq
        have f0 := blk_free gq 0
        have f1 := blk_free gq 1
        have f2 := blk_free gq 2
        have f3 := blk_free gq 3
        have f4 := blk_free gq 4
        have f5 := blk_free gq 5
        go_simp
        obtain ⟨vs0, hvz⟩ : ∃ x, put6 v5 a5 (.int .u64 (ql : Int)) (.int .i64 qd) (.string (str qt)) (.int .i64 qs) (.bool qw) (.int .i64 qm) = x := ⟨_, rfl⟩
        have S1 : Below w5.heap.size w5 vs0 := by
          rw [← hvz]
          exact S0.trans (Tch.put6Ty (B := w5.heap.size) (ts := [28]) (Tch.refl _ _ v5) ⟨_, _, gq⟩ (by simp) (HA5.out) _ _ _ _ _ _).below
        have N5 : Hid (vs0.heap[a5]? = some (.cells #[.int .u64 (ql : Int), .int .i64 qd, .string (str qt), .int .i64 qs, .bool qw, .int .i64 qm] 28 (0, 0))) := Lib.hid (by
          rw [← hvz]
          exact blk_set (blk_set (blk_set (blk_set (blk_set (blk_set gq 0 _) 1 _) 2 _) 3 _) 4 _) 5 _)
        have G6 : Hid (vs0.heap[a6]? = some (.cells #[.int .u64 0, .int .i64 0, .string ⟨#[]⟩, .int .i64 0, .bool false, .int .i64 0] 28 (0, 0))) := Lib.hid (by
          rw [← hvz]
          exact blk_far (blk_far (blk_far (blk_far (blk_far (blk_far G6.out NE5_6.out.symm _) NE5_6.out.symm _) NE5_6.out.symm _) NE5_6.out.symm _) NE5_6.out.symm _) NE5_6.out.symm _)
        have G7 : Hid (vs0.heap[a7]? = some (.cells #[.int .u64 0, .int .i64 0, .string ⟨#[]⟩, .int .i64 0, .bool false, .int .i64 0] 28 (0, 0))) := Lib.hid (by
          rw [← hvz]
          exact blk_far (blk_far (blk_far (blk_far (blk_far (blk_far G7.out NE5_7.out.symm _) NE5_7.out.symm _) NE5_7.out.symm _) NE5_7.out.symm _) NE5_7.out.symm _) NE5_7.out.symm _)
        unfold put6 at hvz
        try rw [hvz]
        clear gq t0 t1 t2 t3 t4 t5 f0 f1 f2 f3 f4 f5 hvz
        refine hK _ _ S1 ?_
        clear hK K S0
        have S0 := S1
        clear S1
        try simp only [Act.put, List.setIfInBounds_toArray, List.set_cons_zero, List.set_cons_succ, List.getElem_toArray, List.getElem_cons_zero, List.getElem_cons_succ]
        refine anyH_one9 (i := 7) (by kernel_rfl) rfl (fun K hK => ?_)
        have gq := G6.out
        obtain ⟨t0, t1, t2, t3, t4, t5⟩ := six_cells13 gq
        have f0 := blk_free gq 0
        have f1 := blk_free gq 1
        have f2 := blk_free gq 2
        have f3 := blk_free gq 3
        have f4 := blk_free gq 4
        have f5 := blk_free gq 5
        go_simp
        obtain ⟨vs1, hvz⟩ : ∃ x, put6 vs0 a6 (.int .u64 (ql : Int)) (.int .i64 qd) (.string (str qt)) (.int .i64 qs) (.bool qw) (.int .i64 qm) = x := ⟨_, rfl⟩
        have S1 : Below w5.heap.size w5 vs1 := by
          rw [← hvz]
          exact S0.trans (Tch.put6Ty (B := w5.heap.size) (ts := [28]) (Tch.refl _ _ vs0) ⟨_, _, gq⟩ (by simp) (HA6.out) _ _ _ _ _ _).below
        have N6 : Hid (vs1.heap[a6]? = some (.cells #[.int .u64 (ql : Int), .int .i64 qd, .string (str qt), .int .i64 qs, .bool qw, .int .i64 qm] 28 (0, 0))) := Lib.hid (by
          rw [← hvz]
          exact blk_set (blk_set (blk_set (blk_set (blk_set (blk_set gq 0 _) 1 _) 2 _) 3 _) 4 _) 5 _)
        have N5 : Hid (vs1.heap[a5]? = some (.cells #[.int .u64 (ql : Int), .int .i64 qd, .string (str qt), .int .i64 qs, .bool qw, .int .i64 qm] 28 (0, 0))) := Lib.hid (by
          rw [← hvz]
          exact blk_far (blk_far (blk_far (blk_far (blk_far (blk_far N5.out NE5_6.out _) NE5_6.out _) NE5_6.out _) NE5_6.out _) NE5_6.out _) NE5_6.out _)
        have G7 : Hid (vs1.heap[a7]? = some (.cells #[.int .u64 0, .int .i64 0, .string ⟨#[]⟩, .int .i64 0, .bool false, .int .i64 0] 28 (0, 0))) := Lib.hid (by
          rw [← hvz]
          exact blk_far (blk_far (blk_far (blk_far (blk_far (blk_far G7.out NE6_7.out.symm _) NE6_7.out.symm _) NE6_7.out.symm _) NE6_7.out.symm _) NE6_7.out.symm _) NE6_7.out.symm _)
        unfold put6 at hvz
        try rw [hvz]
        clear gq t0 t1 t2 t3 t4 t5 f0 f1 f2 f3 f4 f5 hvz
        refine hK _ _ S1 ?_
        clear hK K S0
        have S0 := S1
        clear S1
        try simp only [Act.put, List.setIfInBounds_toArray, List.set_cons_zero, List.set_cons_succ, List.getElem_toArray, List.getElem_cons_zero, List.getElem_cons_succ]
        refine anyH_one9 (i := 8) (by kernel_rfl) rfl (fun K hK => ?_)
        have gq := G7.out
        obtain ⟨t0, t1, t2, t3, t4, t5⟩ := six_cells13 gq
        have f0 := blk_free gq 0
        have f1 := blk_free gq 1
        have f2 := blk_free gq 2
        have f3 := blk_free gq 3
        have f4 := blk_free gq 4
        have f5 := blk_free gq 5
        go_simp
        obtain ⟨vs2, hvz⟩ : ∃ x, put6 vs1 a7 (.int .u64 (ql : Int)) (.int .i64 qd) (.string (str qt)) (.int .i64 qs) (.bool qw) (.int .i64 qm) = x := ⟨_, rfl⟩
        have S1 : Below w5.heap.size w5 vs2 := by
          rw [← hvz]
          exact S0.trans (Tch.put6Ty (B := w5.heap.size) (ts := [28]) (Tch.refl _ _ vs1) ⟨_, _, gq⟩ (by simp) (HA7.out) _ _ _ _ _ _).below
        have N7 : Hid (vs2.heap[a7]? = some (.cells #[.int .u64 (ql : Int), .int .i64 qd, .string (str qt), .int .i64 qs, .bool qw, .int .i64 qm] 28 (0, 0))) := Lib.hid (by
          rw [← hvz]
          exact blk_set (blk_set (blk_set (blk_set (blk_set (blk_set gq 0 _) 1 _) 2 _) 3 _) 4 _) 5 _)
        have N5 : Hid (vs2.heap[a5]? = some (.cells #[.int .u64 (ql : Int), .int .i64 qd, .string (str qt), .int .i64 qs, .bool qw, .int .i64 qm] 28 (0, 0))) := Lib.hid (by
          rw [← hvz]
          exact blk_far (blk_far (blk_far (blk_far (blk_far (blk_far N5.out NE5_7.out _) NE5_7.out _) NE5_7.out _) NE5_7.out _) NE5_7.out _) NE5_7.out _)
        have N6 : Hid (vs2.heap[a6]? = some (.cells #[.int .u64 (ql : Int), .int .i64 qd, .string (str qt), .int .i64 qs, .bool qw, .int .i64 qm] 28 (0, 0))) := Lib.hid (by
          rw [← hvz]
          exact blk_far (blk_far (blk_far (blk_far (blk_far (blk_far N6.out NE6_7.out _) NE6_7.out _) NE6_7.out _) NE6_7.out _) NE6_7.out _) NE6_7.out _)
        unfold put6 at hvz
        try rw [hvz]
        clear gq t0 t1 t2 t3 t4 t5 f0 f1 f2 f3 f4 f5 hvz
        refine hK _ _ S1 ?_
        clear hK K S0
        have S0 := S1
        clear S1
        try simp only [Act.put, List.setIfInBounds_toArray, List.set_cons_zero, List.set_cons_succ, List.getElem_toArray, List.getElem_cons_zero, List.getElem_cons_succ]
        refine wpAnyH_done (by kernel_rfl) ?_ _
        go_wp2
        go_meet
        case rel => exact ⟨a5, a6, a7, rfl, rfl, rfl, Lib.hid ⟨N5.out, N6.out, N7.out, NE5_6.out, NE5_7.out, NE6_7.out, HA5.out, HA6.out, HA7.out, S0⟩⟩
  case rest =>
    obtain ⟨g5, g6, g7, rfl, rfl, rfl, HC⟩ := hcut
    obtain ⟨G5, G6, G7, n56, n57, n67, l5, l6, l7, bw⟩ := HC.out
    have H6 : Hid (Below w2.heap.size w2 wc) := Lib.hid (H5.out.trans (bw.mono H5.out.size))
    have hL5 : w.heap.size ≤ g5 := Nat.le_trans (Nat.le_trans B2.out.size H5.out.size) l5
    have hL6 : w.heap.size ≤ g6 := Nat.le_trans (Nat.le_trans B2.out.size H5.out.size) l6
    have hL7 : w.heap.size ≤ g7 := Nat.le_trans (Nat.le_trans B2.out.size H5.out.size) l7
    have k5 : w2.heap.size ≤ g5 := Nat.le_trans H5.out.size l5
    have k6 : w2.heap.size ≤ g6 := Nat.le_trans H5.out.size l6
    have k7 : w2.heap.size ≤ g7 := Nat.le_trans H5.out.size l7
    obtain ⟨wd, hwd⟩ : ∃ u, ((wc.setCell ⟨g5, 1, none⟩ (.int .i64 0)).setCell ⟨g6, 1, none⟩ (.int .i64 1)).setCell ⟨g7, 1, none⟩ (.int .i64 2) = u := ⟨_, rfl⟩
    have EA7 : Hid (wd.heap[g5]? = some (.cells #[.int .u64 (ql : Int), .int .i64 0, .string (str qt), .int .i64 qs, .bool qw, .int .i64 qm] 28 (0, 0))) := Lib.hid (by
      rw [← hwd]
      exact blk_far (blk_far (blk_set G5 1 _) n56 _) n57 _)
    have EB7 : Hid (wd.heap[g6]? = some (.cells #[.int .u64 (ql : Int), .int .i64 1, .string (str qt), .int .i64 qs, .bool qw, .int .i64 qm] 28 (0, 0))) := Lib.hid (by
      rw [← hwd]
      exact blk_far (blk_set (blk_far G6 n56.symm _) 1 _) n67 _)
    have EC7 : Hid (wd.heap[g7]? = some (.cells #[.int .u64 (ql : Int), .int .i64 2, .string (str qt), .int .i64 qs, .bool qw, .int .i64 qm] 28 (0, 0))) := Lib.hid (by
      rw [← hwd]
      exact blk_set (blk_far (blk_far G7 n57.symm _) n67.symm _) 1 _)
    have H7 : Hid (Below w2.heap.size w2 wd) := Lib.hid (by
      rw [← hwd]
      exact ((H6.out.setCell k5 _).setCell k6 _).setCell k7 _)
    have x5 := (six_cells13 G5).2.1
    have y5 := blk_free G5 1
    have x6 := (six_cells13 (blk_far (p := ⟨g5, 1, none⟩) G6 n56.symm (.int .i64 0))).2.1
    have y6 := blk_free (blk_far (p := ⟨g5, 1, none⟩) G6 n56.symm (.int .i64 0)) 1
    have x7 := (six_cells13 (blk_far (p := ⟨g6, 1, none⟩) (blk_far (p := ⟨g5, 1, none⟩) G7 n57.symm (.int .i64 0)) n67.symm (.int .i64 1))).2.1
    have y7 := blk_free (blk_far (p := ⟨g6, 1, none⟩) (blk_far (p := ⟨g5, 1, none⟩) G7 n57.symm (.int .i64 0)) n67.symm (.int .i64 1)) 1
    clear G5 G6 G7 n56 n57 n67 l5 l6 l7 bw hL5 hL6 hL7 k5 k6 k7
    go_upto_region 7 with fail
    try rw [hwd]
    clear hwd x5 y5 x6 y6 x7 y7
    have n1b : n1 ≤ 1000 := by rw [← N1.out]; exact Nat.le_trans LS.out.nl (by decide)
    have n2b : n2 ≤ 70 := by rw [← N2.out, ← tks_len]; exact LS.out.nt
    have tgb : ∀ m ∈ ms, m.t.tags.length ≤ 1000 := fun m hm => by have := LS.out.few m.t (List.mem_map.2 ⟨m, hm, rfl⟩); omega
    have flb : ∀ m ∈ ms, m.t.rank < 18446744073709551616 ∧ m.t.est < 18446744073709551616 := fun m hm => (OS.out.2 m.t (List.mem_map.2 ⟨m, hm, rfl⟩)).2.2
    have CSU : Hid (∀ (u : World) (qq : T9.Qr), Below w2.heap.size w2 u → Calls Try.prog 12 #[.agg #[.slice A n1 c, .slice A2 n2 c2], .agg (qcells qq)] u (SumsOk2 ls (tks ms) qq u)) := Lib.hid (fun u qq hu => (sums13_c (c := c) (c2 := c2) (q := qq) (HS.out.stay hu).l (HS.out.stay hu).k N1.out.symm N2.out.symm n1b (by omega) tgb flb).mono fun e w' h => sums_two h)
    have CRU : Hid (∀ (u : World) (qq : T9.Qr), Below w2.heap.size w2 u → Calls Try.prog 10 #[.agg #[.slice A n1 c, .slice A2 n2 c2], .agg (qcells qq)] u (RunOk2 ls (tks ms) qq u)) := Lib.hid (fun u qq hu => (run13_c (c := c) (c2 := c2) (q := qq) (HS.out.stay hu).l (HS.out.stay hu).k N1.out.symm N2.out.symm n1b (by omega) tgb flb).mono fun e w' h => run_two h)
    clear n1b tgb flb
    obtain ⟨er, her⟩ : ∃ r, T9.wrongE ls ⟨ql, 0, qt, qs, qw, qm⟩ = r := ⟨_, rfl⟩
    have her1 : T9.wrongE ls ⟨ql, 1, qt, qs, qw, qm⟩ = er := by rw [← her]; rfl
    have her2 : T9.wrongE ls ⟨ql, 2, qt, qs, qw, qm⟩ = er := by rw [← her]; rfl
    have PT := Lib.hid (parts13 ql qt qs qw qm (tks ms))
    obtain ⟨s0, s1⟩ := two_cells (blk_keep SB.out H7.out)
    obtain ⟨p0, p1, p2, p3, p4, p5⟩ := six_cells13 EA7.out
    have C7 := CSU.out wd ⟨ql, 0, qt, qs, qw, qm⟩ H7.out
    unfold qcells at C7
    dsimp only at C7
    have C7h := Lib.hid C7
    clear C7
    go_wp2_with fail
    refine C7h.out.mono ?_
    rintro e wx7 ⟨na, da, ka, sfa, lfa, mfa, era, rfl, e1a, e2a, hx⟩
    have EHa := Lib.hid (And.intro e1a e2a)
    clear e1a e2a
    obtain ⟨wt7, hwt7⟩ : ∃ u, wx7.alloc (.cells #[.int .i64 (na : Int), .int .i64 (da : Int), .int .i64 (ka : Int), .float .f64 sfa, .float .f64 lfa, .float .f64 mfa] 43) = u := ⟨_, rfl⟩
    obtain ⟨tb7, bt, zt⟩ := new_six13 hwt7
    have BX7 : Hid (Below wd.heap.size wd wt7) := Lib.hid (hx.trans (bt.mono hx.size))
    have TBa := Lib.hid tb7
    have H8 : Hid (Below w2.heap.size w2 wt7) := Lib.hid (H7.out.trans (BX7.out.mono H7.out.size))
    obtain ⟨gta, hgta⟩ : ∃ g, wx7.heap.size = g := ⟨_, rfl⟩
    rw [hgta] at TBa
    clear tb7 bt zt hx s0 s1 p0 p1 p2 p3 p4 p5
    have EB8 := Lib.hid (blk_keep EB7.out BX7.out)
    have EC8 := Lib.hid (blk_keep EC7.out BX7.out)
    obtain ⟨s0, s1⟩ := two_cells (blk_keep SB.out H8.out)
    obtain ⟨p0, p1, p2, p3, p4, p5⟩ := six_cells13 EB8.out
    have C8 := CSU.out wt7 ⟨ql, 1, qt, qs, qw, qm⟩ H8.out
    unfold qcells at C8
    dsimp only at C8
    have C8h := Lib.hid C8
    clear C8
    go_wp2_with fail
    refine C8h.out.mono ?_
    rintro e wx8 ⟨nb, db, kb, sfb, lfb, mfb, erb, rfl, e1b, e2b, hx⟩
    have EHb := Lib.hid (And.intro e1b e2b)
    clear e1b e2b
    obtain ⟨wt8, hwt8⟩ : ∃ u, wx8.alloc (.cells #[.int .i64 (nb : Int), .int .i64 (db : Int), .int .i64 (kb : Int), .float .f64 sfb, .float .f64 lfb, .float .f64 mfb] 43) = u := ⟨_, rfl⟩
    obtain ⟨tb8, bt, zt⟩ := new_six13 hwt8
    have BX8 : Hid (Below wt7.heap.size wt7 wt8) := Lib.hid (hx.trans (bt.mono hx.size))
    have TBb := Lib.hid tb8
    have H9 : Hid (Below w2.heap.size w2 wt8) := Lib.hid (H8.out.trans (BX8.out.mono H8.out.size))
    obtain ⟨gtb, hgtb⟩ : ∃ g, wx8.heap.size = g := ⟨_, rfl⟩
    rw [hgtb] at TBb
    clear tb8 bt zt hx s0 s1 p0 p1 p2 p3 p4 p5
    have EC9 := Lib.hid (blk_keep EC8.out BX8.out)
    have TBa := Lib.hid (blk_keep TBa.out BX8.out)
    obtain ⟨s0, s1⟩ := two_cells (blk_keep SB.out H9.out)
    obtain ⟨p0, p1, p2, p3, p4, p5⟩ := six_cells13 EC9.out
    have C9 := CSU.out wt8 ⟨ql, 2, qt, qs, qw, qm⟩ H9.out
    unfold qcells at C9
    dsimp only at C9
    have C9h := Lib.hid C9
    clear C9
    go_wp2_with fail
    refine C9h.out.mono ?_
    rintro e wx9 ⟨nc, dc, kc, sfc, lfc, mfc, erc, rfl, e1c, e2c, hx⟩
    have EHc := Lib.hid (And.intro e1c e2c)
    clear e1c e2c
    obtain ⟨wt9, hwt9⟩ : ∃ u, wx9.alloc (.cells #[.int .i64 (nc : Int), .int .i64 (dc : Int), .int .i64 (kc : Int), .float .f64 sfc, .float .f64 lfc, .float .f64 mfc] 43) = u := ⟨_, rfl⟩
    obtain ⟨tb9, bt, zt⟩ := new_six13 hwt9
    have BX9 : Hid (Below wt8.heap.size wt8 wt9) := Lib.hid (hx.trans (bt.mono hx.size))
    have TBc := Lib.hid tb9
    have H10 : Hid (Below w2.heap.size w2 wt9) := Lib.hid (H9.out.trans (BX9.out.mono H9.out.size))
    obtain ⟨gtc, hgtc⟩ : ∃ g, wx9.heap.size = g := ⟨_, rfl⟩
    rw [hgtc] at TBc
    clear tb9 bt zt hx s0 s1 p0 p1 p2 p3 p4 p5
    have TBa := Lib.hid (blk_keep TBa.out BX9.out)
    have TBb := Lib.hid (blk_keep TBb.out BX9.out)
    obtain ⟨e1a, e2a⟩ := EHa.out
    obtain ⟨e1b, e2b⟩ := EHb.out
    obtain ⟨e1c, e2c⟩ := EHc.out
    clear EHa EHb EHc
    rw [her] at e1a
    rw [her1] at e1b
    rw [her2] at e1c
    subst e1a e1b e1c
    obtain ⟨pn, pb, pc, p70⟩ : na = nb + nc ∧ nb = db ∧ dc = 0 ∧ na ≤ 70 := by
      obtain ⟨u1, u2, u3⟩ := PT.out
      have u4 := List.length_filter_le (T9.holds ⟨ql, 0, qt, qs, qw, qm⟩) (tks ms)
      rw [tks_len, N2.out] at u4
      obtain ⟨v1, _⟩ := e2a
      obtain ⟨v2, v3⟩ := e2b
      obtain ⟨v4, v5⟩ := e2c
      split at v1
      · rename_i z
        rw [if_pos z] at v2 v3 v4 v5
        omega
      · rename_i z
        rw [if_neg z] at v2 v3 v4 v5
        omega
    subst pb
    have q2 : ((dc : Int) != 0) = false := by simp; omega
    have q0 : IntKind.i64.wrap ((nb : Int) + (nc : Int)) = (nb : Int) + (nc : Int) := by rw [IntKind.wrap_i64]; omega
    have q1 : ((na : Int) != (nb : Int) + (nc : Int)) = false := by simp; omega
    obtain ⟨a0, a1, a2, a3, a4, a5⟩ := six_cells13 TBa.out
    obtain ⟨b0, b1, b2, b3, b4, b5⟩ := six_cells13 TBb.out
    obtain ⟨cc0, cc1, cc2, cc3, cc4, cc5⟩ := six_cells13 TBc.out
    have QBq := Lib.hid (blk_keep QB.out H10.out)
    clear pn pc p70 e2a e2b e2c her1 her2
    go_upto_region 12 with fail
    go_cut [14, 15] (fun s14 s15 wr => ∃ g14 g15 : Nat, s14 = .pointer (some ⟨g14, 0, none⟩) ∧ s15 = .pointer (some ⟨g15, 0, none⟩) ∧ Hid (wr.heap[g14]? = some (.cells #[.int .u64 (ql : Int), .int .i64 qd, .string (str qt), .int .i64 qs, .bool qw, .int .i64 qm] 28 (0, 0)) ∧ wr.heap[g15]? = some (.cells #[.int .u64 (ql : Int), .int .i64 qd, .string (str qt), .int .i64 qs, .bool qw, .int .i64 qm] 28 (0, 0)) ∧ g14 ≠ g15 ∧ wt9.heap.size ≤ g14 ∧ wt9.heap.size ≤ g15 ∧ Below wt9.heap.size wt9 wr))
    case first =>
      refine wp_region_held_drew (S := fun u => Below wt9.heap.size wt9 u) (by kernel_rfl) ((Below.refl wt9.heap.size wt9).drew) (fun S0 => ?_)
      generalize wt9.drew = wd at S0 ⊢
      refine wpAnyH_take (i := 0) (v := ?_) rfl (by kernel_rfl) (by kernel_rfl) (by kernel_rfl) (fun _ _ _ h => h) (Or.inl ⟨by rfl, ?_⟩) S0 ?_
      rotate_left
      · intro u hu
        obtain ⟨p0, p1, p2, p3, p4, p5⟩ := six_cells13 (blk_keep QBq.out hu)
        go_simp
        try rfl
      try simp only [Act.put, List.setIfInBounds_toArray, List.set_cons_zero, List.set_cons_succ, List.getElem_toArray, List.getElem_cons_zero, List.getElem_cons_succ]
      refine wpAnyH_take (i := 1) (v := ?_) rfl (by kernel_rfl) (by kernel_rfl) (by kernel_rfl) (fun _ _ _ h => h) (Or.inl ⟨by rfl, ?_⟩) S0 ?_
      rotate_left
      · intro u hu
        obtain ⟨p0, p1, p2, p3, p4, p5⟩ := six_cells13 (blk_keep QBq.out hu)
        go_simp
        try rfl
      try simp only [Act.put, List.setIfInBounds_toArray, List.set_cons_zero, List.set_cons_succ, List.getElem_toArray, List.getElem_cons_zero, List.getElem_cons_succ]
      refine wpAnyH_ready (rs := [2, 3]) (by kernel_rfl) (by simp) (AllReadyH.cons rfl (fun K hK => ?_) (AllReadyH.cons rfl (fun K hK => ?_) (AllReadyH.nil)))
      · skip
        go_simp
        obtain ⟨v14, hvg⟩ : ∃ x, wd.alloc (.cells #[.int .u64 0, .int .i64 0, .string ⟨#[]⟩, .int .i64 0, .bool false, .int .i64 0] 28) = x := ⟨_, rfl⟩
        obtain ⟨gb, bg, zg⟩ := new_six13 hvg
        try rw [hvg]
        have S1 := S0.trans (bg.mono S0.size)
        obtain ⟨a14, ha14⟩ : ∃ a, wd.heap.size = a := ⟨_, rfl⟩
        rw [ha14] at gb
        have G14 := Lib.hid gb
        have HA14 : Hid (wt9.heap.size ≤ a14) := Lib.hid (by rw [← ha14]; exact S0.size)
        have HE14 := Lib.hid ha14
        clear gb bg zg
        refine hK.out _ _ S1 (fun _ => ?_)
        clear hK K S0
        have S0 := S1
        clear S1
        try simp only [Act.put, List.setIfInBounds_toArray, List.set_cons_zero, List.set_cons_succ, List.getElem_toArray, List.getElem_cons_zero, List.getElem_cons_succ]
        refine anyH_one9 (i := 3) (by kernel_rfl) rfl (fun K hK => ?_)
        go_simp
        obtain ⟨v15, hvg⟩ : ∃ x, v14.alloc (.cells #[.int .u64 0, .int .i64 0, .string ⟨#[]⟩, .int .i64 0, .bool false, .int .i64 0] 28) = x := ⟨_, rfl⟩
        obtain ⟨gb, bg, zg⟩ := new_six13 hvg
        try rw [hvg]
        have S1 := S0.trans (bg.mono S0.size)
        obtain ⟨a15, ha15⟩ : ∃ a, v14.heap.size = a := ⟨_, rfl⟩
        rw [ha15] at gb
        have G15 := Lib.hid gb
        have HA15 : Hid (wt9.heap.size ≤ a15) := Lib.hid (by rw [← ha15]; exact S0.size)
        have HE15 := Lib.hid ha15
        have NE14_15 : Hid (a14 ≠ a15) := Lib.hid (by have := lt_of_block G14.out; rw [ha15] at this; omega)
        have G14 := Lib.hid (blk_keep G14.out bg)
        clear gb bg zg
        refine hK _ _ S1 ?_
        clear hK K S0
        have S0 := S1
        clear S1
        try simp only [Act.put, List.setIfInBounds_toArray, List.set_cons_zero, List.set_cons_succ, List.getElem_toArray, List.getElem_cons_zero, List.getElem_cons_succ]
        refine anyH_one9 (i := 4) (by kernel_rfl) rfl (fun K hK => ?_)
        have gq := G14.out
        obtain ⟨t0, t1, t2, t3, t4, t5⟩ := six_cells13 gq
        have f0 := blk_free gq 0
        have f1 := blk_free gq 1
        have f2 := blk_free gq 2
        have f3 := blk_free gq 3
        have f4 := blk_free gq 4
        have f5 := blk_free gq 5
        go_simp
        obtain ⟨vs0, hvz⟩ : ∃ x, put6 v15 a14 (.int .u64 (ql : Int)) (.int .i64 qd) (.string (str qt)) (.int .i64 qs) (.bool qw) (.int .i64 qm) = x := ⟨_, rfl⟩
        have S1 : Below wt9.heap.size wt9 vs0 := by
          rw [← hvz]
          exact S0.trans (Tch.put6Ty (B := wt9.heap.size) (ts := [28]) (Tch.refl _ _ v15) ⟨_, _, gq⟩ (by simp) (HA14.out) _ _ _ _ _ _).below
        have N14 : Hid (vs0.heap[a14]? = some (.cells #[.int .u64 (ql : Int), .int .i64 qd, .string (str qt), .int .i64 qs, .bool qw, .int .i64 qm] 28 (0, 0))) := Lib.hid (by
          rw [← hvz]
          exact blk_set (blk_set (blk_set (blk_set (blk_set (blk_set gq 0 _) 1 _) 2 _) 3 _) 4 _) 5 _)
        have G15 : Hid (vs0.heap[a15]? = some (.cells #[.int .u64 0, .int .i64 0, .string ⟨#[]⟩, .int .i64 0, .bool false, .int .i64 0] 28 (0, 0))) := Lib.hid (by
          rw [← hvz]
          exact blk_far (blk_far (blk_far (blk_far (blk_far (blk_far G15.out NE14_15.out.symm _) NE14_15.out.symm _) NE14_15.out.symm _) NE14_15.out.symm _) NE14_15.out.symm _) NE14_15.out.symm _)
        unfold put6 at hvz
        try rw [hvz]
        clear gq t0 t1 t2 t3 t4 t5 f0 f1 f2 f3 f4 f5 hvz
        refine hK _ _ S1 ?_
        clear hK K S0
        have S0 := S1
        clear S1
        try simp only [Act.put, List.setIfInBounds_toArray, List.set_cons_zero, List.set_cons_succ, List.getElem_toArray, List.getElem_cons_zero, List.getElem_cons_succ]
        refine anyH_one9 (i := 5) (by kernel_rfl) rfl (fun K hK => ?_)
        have gq := G15.out
        obtain ⟨t0, t1, t2, t3, t4, t5⟩ := six_cells13 gq
        have f0 := blk_free gq 0
        have f1 := blk_free gq 1
        have f2 := blk_free gq 2
        have f3 := blk_free gq 3
        have f4 := blk_free gq 4
        have f5 := blk_free gq 5
        go_simp
        obtain ⟨vs1, hvz⟩ : ∃ x, put6 vs0 a15 (.int .u64 (ql : Int)) (.int .i64 qd) (.string (str qt)) (.int .i64 qs) (.bool qw) (.int .i64 qm) = x := ⟨_, rfl⟩
        have S1 : Below wt9.heap.size wt9 vs1 := by
          rw [← hvz]
          exact S0.trans (Tch.put6Ty (B := wt9.heap.size) (ts := [28]) (Tch.refl _ _ vs0) ⟨_, _, gq⟩ (by simp) (HA15.out) _ _ _ _ _ _).below
        have N15 : Hid (vs1.heap[a15]? = some (.cells #[.int .u64 (ql : Int), .int .i64 qd, .string (str qt), .int .i64 qs, .bool qw, .int .i64 qm] 28 (0, 0))) := Lib.hid (by
          rw [← hvz]
          exact blk_set (blk_set (blk_set (blk_set (blk_set (blk_set gq 0 _) 1 _) 2 _) 3 _) 4 _) 5 _)
        have N14 : Hid (vs1.heap[a14]? = some (.cells #[.int .u64 (ql : Int), .int .i64 qd, .string (str qt), .int .i64 qs, .bool qw, .int .i64 qm] 28 (0, 0))) := Lib.hid (by
          rw [← hvz]
          exact blk_far (blk_far (blk_far (blk_far (blk_far (blk_far N14.out NE14_15.out _) NE14_15.out _) NE14_15.out _) NE14_15.out _) NE14_15.out _) NE14_15.out _)
        unfold put6 at hvz
        try rw [hvz]
        clear gq t0 t1 t2 t3 t4 t5 f0 f1 f2 f3 f4 f5 hvz
        refine hK _ _ S1 ?_
        clear hK K S0
        have S0 := S1
        clear S1
        try simp only [Act.put, List.setIfInBounds_toArray, List.set_cons_zero, List.set_cons_succ, List.getElem_toArray, List.getElem_cons_zero, List.getElem_cons_succ]
        refine wpAnyH_done (by kernel_rfl) ?_ _
        go_wp2
        go_meet
        case rel => exact ⟨a14, a15, rfl, rfl, Lib.hid ⟨N14.out, N15.out, NE14_15.out, HA14.out, HA15.out, S0⟩⟩
      · skip
        go_simp
        obtain ⟨v15, hvg⟩ : ∃ x, wd.alloc (.cells #[.int .u64 0, .int .i64 0, .string ⟨#[]⟩, .int .i64 0, .bool false, .int .i64 0] 28) = x := ⟨_, rfl⟩
        obtain ⟨gb, bg, zg⟩ := new_six13 hvg
        try rw [hvg]
        have S1 := S0.trans (bg.mono S0.size)
        obtain ⟨a15, ha15⟩ : ∃ a, wd.heap.size = a := ⟨_, rfl⟩
        rw [ha15] at gb
        have G15 := Lib.hid gb
        have HA15 : Hid (wt9.heap.size ≤ a15) := Lib.hid (by rw [← ha15]; exact S0.size)
        have HE15 := Lib.hid ha15
        clear gb bg zg
        refine hK.out _ _ S1 (fun _ => ?_)
        clear hK K S0
        have S0 := S1
        clear S1
        try simp only [Act.put, List.setIfInBounds_toArray, List.set_cons_zero, List.set_cons_succ, List.getElem_toArray, List.getElem_cons_zero, List.getElem_cons_succ]
        refine anyH_one9 (i := 2) (by kernel_rfl) rfl (fun K hK => ?_)
        go_simp
        obtain ⟨v14, hvg⟩ : ∃ x, v15.alloc (.cells #[.int .u64 0, .int .i64 0, .string ⟨#[]⟩, .int .i64 0, .bool false, .int .i64 0] 28) = x := ⟨_, rfl⟩
        obtain ⟨gb, bg, zg⟩ := new_six13 hvg
        try rw [hvg]
        have S1 := S0.trans (bg.mono S0.size)
        obtain ⟨a14, ha14⟩ : ∃ a, v15.heap.size = a := ⟨_, rfl⟩
        rw [ha14] at gb
        have G14 := Lib.hid gb
        have HA14 : Hid (wt9.heap.size ≤ a14) := Lib.hid (by rw [← ha14]; exact S0.size)
        have HE14 := Lib.hid ha14
        have NE14_15 : Hid (a14 ≠ a15) := Lib.hid (by have := lt_of_block G15.out; rw [ha14] at this; omega)
        have G15 := Lib.hid (blk_keep G15.out bg)
        clear gb bg zg
        refine hK _ _ S1 ?_
        clear hK K S0
        have S0 := S1
        clear S1
        try simp only [Act.put, List.setIfInBounds_toArray, List.set_cons_zero, List.set_cons_succ, List.getElem_toArray, List.getElem_cons_zero, List.getElem_cons_succ]
        refine anyH_one9 (i := 4) (by kernel_rfl) rfl (fun K hK => ?_)
        have gq := G14.out
        obtain ⟨t0, t1, t2, t3, t4, t5⟩ := six_cells13 gq
        have f0 := blk_free gq 0
        have f1 := blk_free gq 1
        have f2 := blk_free gq 2
        have f3 := blk_free gq 3
        have f4 := blk_free gq 4
        have f5 := blk_free gq 5
        go_simp
        obtain ⟨vs0, hvz⟩ : ∃ x, put6 v14 a14 (.int .u64 (ql : Int)) (.int .i64 qd) (.string (str qt)) (.int .i64 qs) (.bool qw) (.int .i64 qm) = x := ⟨_, rfl⟩
        have S1 : Below wt9.heap.size wt9 vs0 := by
          rw [← hvz]
          exact S0.trans (Tch.put6Ty (B := wt9.heap.size) (ts := [28]) (Tch.refl _ _ v14) ⟨_, _, gq⟩ (by simp) (HA14.out) _ _ _ _ _ _).below
        have N14 : Hid (vs0.heap[a14]? = some (.cells #[.int .u64 (ql : Int), .int .i64 qd, .string (str qt), .int .i64 qs, .bool qw, .int .i64 qm] 28 (0, 0))) := Lib.hid (by
          rw [← hvz]
          exact blk_set (blk_set (blk_set (blk_set (blk_set (blk_set gq 0 _) 1 _) 2 _) 3 _) 4 _) 5 _)
        have G15 : Hid (vs0.heap[a15]? = some (.cells #[.int .u64 0, .int .i64 0, .string ⟨#[]⟩, .int .i64 0, .bool false, .int .i64 0] 28 (0, 0))) := Lib.hid (by
          rw [← hvz]
          exact blk_far (blk_far (blk_far (blk_far (blk_far (blk_far G15.out NE14_15.out.symm _) NE14_15.out.symm _) NE14_15.out.symm _) NE14_15.out.symm _) NE14_15.out.symm _) NE14_15.out.symm _)
        unfold put6 at hvz
        try rw [hvz]
        clear gq t0 t1 t2 t3 t4 t5 f0 f1 f2 f3 f4 f5 hvz
        refine hK _ _ S1 ?_
        clear hK K S0
        have S0 := S1
        clear S1
        try simp only [Act.put, List.setIfInBounds_toArray, List.set_cons_zero, List.set_cons_succ, List.getElem_toArray, List.getElem_cons_zero, List.getElem_cons_succ]
        refine anyH_one9 (i := 5) (by kernel_rfl) rfl (fun K hK => ?_)
        have gq := G15.out
        obtain ⟨t0, t1, t2, t3, t4, t5⟩ := six_cells13 gq
        have f0 := blk_free gq 0
        have f1 := blk_free gq 1
        have f2 := blk_free gq 2
        have f3 := blk_free gq 3
        have f4 := blk_free gq 4
        have f5 := blk_free gq 5
        go_simp
        obtain ⟨vs1, hvz⟩ : ∃ x, put6 vs0 a15 (.int .u64 (ql : Int)) (.int .i64 qd) (.string (str qt)) (.int .i64 qs) (.bool qw) (.int .i64 qm) = x := ⟨_, rfl⟩
        have S1 : Below wt9.heap.size wt9 vs1 := by
          rw [← hvz]
          exact S0.trans (Tch.put6Ty (B := wt9.heap.size) (ts := [28]) (Tch.refl _ _ vs0) ⟨_, _, gq⟩ (by simp) (HA15.out) _ _ _ _ _ _).below
        have N15 : Hid (vs1.heap[a15]? = some (.cells #[.int .u64 (ql : Int), .int .i64 qd, .string (str qt), .int .i64 qs, .bool qw, .int .i64 qm] 28 (0, 0))) := Lib.hid (by
          rw [← hvz]
          exact blk_set (blk_set (blk_set (blk_set (blk_set (blk_set gq 0 _) 1 _) 2 _) 3 _) 4 _) 5 _)
        have N14 : Hid (vs1.heap[a14]? = some (.cells #[.int .u64 (ql : Int), .int .i64 qd, .string (str qt), .int .i64 qs, .bool qw, .int .i64 qm] 28 (0, 0))) := Lib.hid (by
          rw [← hvz]
          exact blk_far (blk_far (blk_far (blk_far (blk_far (blk_far N14.out NE14_15.out _) NE14_15.out _) NE14_15.out _) NE14_15.out _) NE14_15.out _) NE14_15.out _)
        unfold put6 at hvz
        try rw [hvz]
        clear gq t0 t1 t2 t3 t4 t5 f0 f1 f2 f3 f4 f5 hvz
        refine hK _ _ S1 ?_
        clear hK K S0
        have S0 := S1
        clear S1
        try simp only [Act.put, List.setIfInBounds_toArray, List.set_cons_zero, List.set_cons_succ, List.getElem_toArray, List.getElem_cons_zero, List.getElem_cons_succ]
        refine wpAnyH_done (by kernel_rfl) ?_ _
        go_wp2
        go_meet
        case rel => exact ⟨a14, a15, rfl, rfl, Lib.hid ⟨N14.out, N15.out, NE14_15.out, HA14.out, HA15.out, S0⟩⟩
    case rest =>
      obtain ⟨g14, g15, rfl, rfl, HC2⟩ := hcut
      obtain ⟨G14, G15, nE, l14, l15, bw⟩ := HC2.out
      have k14 : w2.heap.size ≤ g14 := Nat.le_trans H10.out.size l14
      have k15 : w2.heap.size ≤ g15 := Nat.le_trans H10.out.size l15
      have H11 : Hid (Below w2.heap.size w2 wc) := Lib.hid (H10.out.trans (bw.mono H10.out.size))
      obtain ⟨wd, hwd⟩ : ∃ u, (((wc.setCell ⟨g14, 4, none⟩ (.bool false)).setCell ⟨g14, 5, none⟩ (.int .i64 0)).setCell ⟨g15, 4, none⟩ (.bool true)).setCell ⟨g15, 5, none⟩ (.int .i64 0) = u := ⟨_, rfl⟩
      have EU : Hid (wd.heap[g14]? = some (.cells #[.int .u64 (ql : Int), .int .i64 qd, .string (str qt), .int .i64 qs, .bool false, .int .i64 0] 28 (0, 0))) := Lib.hid (by
        rw [← hwd]
        exact blk_far (blk_far (blk_set (blk_set G14 4 _) 5 _) nE _) nE _)
      have ED : Hid (wd.heap[g15]? = some (.cells #[.int .u64 (ql : Int), .int .i64 qd, .string (str qt), .int .i64 qs, .bool true, .int .i64 0] 28 (0, 0))) := Lib.hid (by
        rw [← hwd]
        exact blk_set (blk_set (blk_far (blk_far G15 nE.symm _) nE.symm _) 4 _) 5 _)
      have H12 : Hid (Below w2.heap.size w2 wd) := Lib.hid (by
        rw [← hwd]
        exact (((H11.out.setCell k14 _).setCell k14 _).setCell k15 _).setCell k15 _)
      have m1 := (six_cells13 G14).2.2.2.2.1
      have m1f := blk_free G14 4
      have G14b := blk_set G14 4 (.bool false)
      have m2 := (six_cells13 (show (wc.setCell ⟨g14, 4, none⟩ (.bool false)).heap[g14]? = some (.cells #[.int .u64 (ql : Int), .int .i64 qd, .string (str qt), .int .i64 qs, .bool false, .int .i64 qm] 28 (0, 0)) from G14b)).2.2.2.2.2
      have m2f := blk_free G14b 5
      have G15b := blk_far (p := ⟨g14, 5, none⟩) (blk_far (p := ⟨g14, 4, none⟩) G15 nE.symm (.bool false)) nE.symm (.int .i64 0)
      have m3 := (six_cells13 G15b).2.2.2.2.1
      have m3f := blk_free G15b 4
      have G15c := blk_set G15b 4 (.bool true)
      have m4 := (six_cells13 (show ((((wc.setCell ⟨g14, 4, none⟩ (.bool false)).setCell ⟨g14, 5, none⟩ (.int .i64 0)).setCell ⟨g15, 4, none⟩ (.bool true)).heap[g15]? = some (.cells #[.int .u64 (ql : Int), .int .i64 qd, .string (str qt), .int .i64 qs, .bool true, .int .i64 qm] 28 (0, 0))) from G15c)).2.2.2.2.2
      have m4f := blk_free G15c 5
      clear G14 G15 nE l14 l15 bw k14 k15 G14b G15b G15c
      go_upto_region 14 with fail
      try rw [hwd]
      clear hwd m1 m1f m2 m2f m3 m3f m4 m4f
      obtain ⟨s0, s1⟩ := two_cells (blk_keep SB.out H12.out)
      obtain ⟨p0, p1, p2, p3, p4, p5⟩ := six_cells13 EU.out
      have CU := CRU.out wd ⟨ql, qd, qt, qs, false, 0⟩ H12.out
      have CD := CRU.out
      unfold qcells at CU
      dsimp only at CU
      have CUh := Lib.hid CU
      clear CU CD
      go_wp2_with fail
      refine CUh.out.mono ?_
      rintro e w14 ⟨A6, c6, rs, eu, rfl, eu1, hk1, hu1, hu2, hx1⟩
      obtain ⟨n6, hn6⟩ : ∃ n, rs.length = n := ⟨_, rfl⟩
      rw [hn6]
      have N6 := Lib.hid hn6
      have H13 : Hid (Below w2.heap.size w2 w14) := Lib.hid (H12.out.trans (hx1.mono H12.out.size))
      have K1 := Lib.hid hk1
      have U1 := Lib.hid (And.intro hu1 hu2)
      have EU1 := Lib.hid eu1
      have ED13 := Lib.hid (blk_keep ED.out hx1)
      clear hk1 hu1 hu2 hx1 hn6 eu1 s0 s1 p0 p1 p2 p3 p4 p5
      obtain ⟨s0, s1⟩ := two_cells (blk_keep SB.out H13.out)
      obtain ⟨p0, p1, p2, p3, p4, p5⟩ := six_cells13 ED13.out
      have CU := CRU.out w14 ⟨ql, qd, qt, qs, true, 0⟩ H13.out
      unfold qcells at CU
      dsimp only at CU
      have CUh := Lib.hid CU
      clear CU
      go_wp2_with fail
      refine CUh.out.mono ?_
      rintro e w15 ⟨A7, c7, ts, ev, rfl, ev1, hk2, hv1, hv2, hx2⟩
      have e67 : ev = eu := by rw [← ev1, ← EU1.out]; rfl
      subst e67
      have K1b := Lib.hid (K1.out.stay hx2)
      have K2 := Lib.hid hk2
      have TURN : Hid (tks ts = (tks rs).reverse ∧ ∀ x ∈ tks rs, x ∈ tks ms) := Lib.hid (by
        by_cases z : ev = 0
        · obtain ⟨l1, o1, t1⟩ := U1.out.1 z
          obtain ⟨l2, o2, t2⟩ := hv1 z
          refine ⟨by rw [t1, t2]; exact turned13 o1 o2, fun x hx => by rw [t1] at hx; exact mem13 o1 hx⟩
        · rw [U1.out.2 z, hv2 z]
          exact ⟨rfl, fun x hx => by cases hx⟩)
      have LN : ts.length = n6 := by
        have := congrArg List.length TURN.out.1
        rw [tks_len, List.length_reverse, tks_len] at this
        rw [this]
        exact N6.out
      rw [LN]
      have NT := Lib.hid LN
      have H14 : Hid (Below w2.heap.size w2 w15) := Lib.hid (H13.out.trans (hx2.mono H13.out.size))
      have N70 : n6 ≤ 1000000 := by
        by_cases z : ev = 0
        · obtain ⟨l1, o1, t1⟩ := U1.out.1 z
          have a1 := cut_len13 ⟨ql, qd, qt, qs, false, 0⟩ l1
          have a3 := (Sr.stb_perm (wo13 qs) o1.2).length_eq
          have a4 := List.length_filter_le (T9.holds ⟨ql, qd, qt, qs, false, 0⟩) (tks ms)
          have a5 := congrArg List.length t1
          rw [tks_len] at a4 a5
          have a6 := N2.out
          have a7 := N6.out
          omega
        · have a7 := N6.out
          rw [U1.out.2 z] at a7
          rw [← a7]
          decide
      have CST : Hid (∀ (u : World) (a b : MTk), a.fine u → b.fine u → a.t ∈ tks ms → b.t = a.t → Calls Try.prog 11 #[.agg (encK a).toArray, .agg (encK b).toArray] u fun e w' => e = .returned (.bool true) ∧ Below u.heap.size u w') := Lib.hid (fun u a b ha hb ia eb => by
        have q := refSameTask_c ha hb (LS.out.short.2.1 a.t ia) (LS.out.short.2.1 b.t (by rw [eb]; exact ia)) (OS.out.2 a.t ia) (OS.out.2 b.t (by rw [eb]; exact ia))
        rw [eb, T9.same1_refl] at q
        exact q)
      clear hk2 hv1 hv2 hx2 LN ev1 s0 s1 p0 p1 p2 p3 p4 p5
      go_wp2_with fail
      go_loopw [115] (fun s115 wr => ∃ k : Nat, s115 = .int .i64 k ∧ k ≤ n6 ∧ Hid (Below w15.heap.size w15 wr)) (fun s115 _ => n6 - (intOf s115).toNat)
      case atStart => exact ⟨0, rfl, Nat.zero_le _, Lib.hid (Below.refl _ _)⟩
      case round =>
        obtain ⟨k, rfl, hk, BR⟩ := hrel
        by_cases hlt : k < n6
        · have hltz : (k : Int) < (n6 : Int) := by omega
          obtain ⟨j, hj⟩ : ∃ j : Nat, k + j + 1 = n6 := ⟨n6 - 1 - k, by omega⟩
          obtain ⟨ad, ⟨⟨xI, xL, xT, xD, xR, xE, xG⟩, xA, xC⟩, hA, hx, hxf, r0, r1, r2, r3, r4, r5, r6⟩ := (K1b.out.stay BR.out).at_ (k := k) (by have := N6.out; omega)
          obtain ⟨ad2, ⟨⟨yI, yL, yT, yD, yR, yE, yG⟩, yA, yC⟩, hA2, hy, hyf, z0', z1', z2', z3', z4', z5', z6'⟩ := (K2.out.stay BR.out).at_ (k := j) (by have := NT.out; omega)
          subst hA hA2
          dsimp only at r0 r1 r2 r3 r4 r5 r6 z0' z1' z2' z3' z4' z5' z6'
          have EQ : (⟨yI, yL, yT, yD, yR, yE, yG⟩ : T9.Tk) = ⟨xI, xL, xT, xD, xR, xE, xG⟩ := by
            have q := rev_at13 (l := tks rs) (m := tks ts) TURN.out.1 (k := k) (j := j) (by rw [tks_len, N6.out]; exact hj)
            rw [tks_at hx, tks_at hy] at q
            injection q with q
            exact q.symm
          have CS := CST.out wr.drew ⟨⟨xI, xL, xT, xD, xR, xE, xG⟩, xA, xC⟩ ⟨⟨yI, yL, yT, yD, yR, yE, yG⟩, yA, yC⟩ (hxf.stay (Below.refl _ wr).drew) (hyf.stay (Below.refl _ wr).drew) (TURN.out.2 _ (List.mem_of_getElem? (tks_at hx))) EQ
          unfold encK at CS
          dsimp only at CS
          have CSh := Lib.hid CS
          have i0 : 0 ≤ (k : Int) := by omega
          have i1 : IntKind.i64.wrap ((n6 : Int) - 1) = (n6 : Int) - 1 := by rw [IntKind.wrap_i64]; omega
          have i2 : IntKind.i64.wrap ((n6 : Int) - 1 - (k : Int)) = (j : Int) := by rw [IntKind.wrap_i64]; omega
          have i3 : 0 ≤ (j : Int) := by omega
          have i4 : (j : Int) < (n6 : Int) := by omega
          have HJ := Lib.hid hj
          clear hx hxf hy hyf EQ CS hj
          go_wp2_with fail
          go_still_tail 12, (by kernel_rfl)
          change wpList _ _ _ _ _ wr.drew
          go_wp2_with fail
          refine CSh.out.mono ?_
          rintro e wz ⟨rfl, hz⟩
          have BZ : Hid (Below w15.heap.size w15 wz) := Lib.hid (BR.out.trans (((Below.refl _ wr).drew.trans hz).mono BR.out.size))
          clear hz
          go_wp2
          go_roundw
          case rel => exact ⟨k + 1, by go_num, by omega, BZ⟩
          case measure => simp [intOf]; omega
        · obtain rfl : k = n6 := by omega
          have hltz : ¬ ((k : Int) < (k : Int)) := by omega
          go_wp2
          go_ret
          exact ⟨rfl, B2.out.trans ((H14.out.trans (BR.out.mono H14.out.size)).mono B2.out.size)⟩
end
end Go.Proofs.Ytnhpkcphgdkdiaa
