/- Stage 13: the walk of QueryHolds. -/
import Derived.Test.YtnhpkcphgdkdiaaGk
namespace Go.Proofs.Ytnhpkcphgdkdiaa
set_option maxRecDepth 100000
set_option linter.unusedSimpArgs false
section
open Go.RowKit Go.Lib Go.Shelf Go.Sort
namespace T9
def cnt13 (x : Tk) (l : List Tk) : Nat := l.countP (same1 x)
theorem cnt_le (x : Tk) (l : List Tk) : cnt13 x l ≤ l.length := List.countP_le_length
theorem cnt_snoc (x : Tk) (l : List Tk) (y : Tk) : cnt13 x (l ++ [y]) = cnt13 x l + (if same1 x y = true then 1 else 0) := by
  unfold cnt13
  rw [List.countP_append]
  simp [List.countP_cons]
theorem cut_sub (q : Qr) (l : List Tk) : ∃ m, m.Perm l ∧ (cut13 q l).Sublist m := by
  unfold cut13
  by_cases h : q.down = true
  · refine ⟨l.reverse, List.reverse_perm l, ?_⟩
    simp only [h, if_true]
    split
    · exact List.take_sublist _ _
    · exact List.Sublist.refl _
  · refine ⟨l, List.Perm.refl l, ?_⟩
    simp only [h]
    split
    · exact List.take_sublist _ _
    · exact List.Sublist.refl _
theorem told_mem {s : Int} {q : Qr} {ts l : List Tk} (h : Ord13 s (ts.filter (holds q)) l) {x : Tk} (hx : x ∈ cut13 q l) : x ∈ ts ∧ holds q x = true := by
  obtain ⟨m, hp, hs⟩ := cut_sub q l
  have := Sr.Stb.mem (wo13 s) h.2 (hp.subset (hs.subset hx))
  exact List.mem_filter.1 this
theorem told_cnt {s : Int} {q : Qr} {ts l : List Tk} (h : Ord13 s (ts.filter (holds q)) l) (x : Tk) : cnt13 x (cut13 q l) ≤ cnt13 x ts := by
  obtain ⟨m, hp, hs⟩ := cut_sub q l
  unfold cnt13
  refine Nat.le_trans hs.countP_le ?_
  rw [hp.countP_eq]
  rw [(Sr.stb_perm (wo13 s) h.2).countP_eq]
  exact List.filter_sublist.countP_le
theorem told_len {q : Qr} {l : List Tk} (h : 0 < q.limit) : ((cut13 q l).length : Int) ≤ q.limit := by
  unfold cut13
  rw [if_pos h, List.length_take]
  omega
theorem lim_ok {ls : List Li} {q : Qr} (h : wrongE ls q = 0) : 0 ≤ q.limit := by
  unfold wrongE at h
  split at h
  · cases h
  · rename_i b
    unfold badQ at b
    simp only [Bool.or_eq_true, decide_eq_true_eq, not_or] at b
    omega
end T9
set_option maxRecDepth 100000 in
set_option maxHeartbeats 8000000 in
theorem queryHolds_c {s : MSt} {q : T9.Qr} {m : MTk} {w : World} (hs : SM s w) (os : s.st.ok) (fs : s.far) (hm : m.fine w) (om : m.t.ok) (fm : m.t.tags.length ≤ maxLen) :
    Calls Try.prog 3 #[s.val, .agg (qcells q), .agg (encK m).toArray] w fun e w' => e = .returned (.bool true) ∧ Below w.heap.size w w' := by
  obtain ⟨ls, A, c, ms, A2, c2⟩ := s
  obtain ⟨n1, hn1⟩ : ∃ n, ls.length = n := ⟨_, rfl⟩
  obtain ⟨n2, hn2⟩ : ∃ n, ms.length = n := ⟨_, rfl⟩
  obtain ⟨w0, hw0⟩ : ∃ u, w.alloc (.cells #[.slice A n1 c, .slice A2 n2 c2] 25) = u := ⟨_, rfl⟩
  obtain ⟨sb, b0, z0⟩ := new_two hw0
  obtain ⟨w1, hw1⟩ : ∃ u, w0.alloc (.cells (qcells q) 28) = u := ⟨_, rfl⟩
  obtain ⟨qb, b1, z1⟩ := new_six13 hw1
  rw [z0] at qb z1
  obtain ⟨w2, hw2⟩ : ∃ u, w1.alloc (.cells (encK m).toArray 32) = u := ⟨_, rfl⟩
  obtain ⟨tb, b2, z2⟩ := new_seven hw2
  rw [z1] at tb z2
  have B2 : Hid (Below w.heap.size w w2) := Lib.hid ((b0.trans (b1.mono (by omega))).trans (b2.mono (by omega)))
  have SB := Lib.hid (blk_keep (blk_keep sb b1) b2)
  have QB : Hid (w2.heap[w.heap.size + 1]? = some (.cells (qcells q) 28 (0, 0))) := Lib.hid (blk_keep qb b2)
  have TB : Hid (w2.heap[w.heap.size + 1 + 1]? = some (.cells (encK m).toArray 32 (0, 0))) := Lib.hid tb
  have HS := Lib.hid (hs.stay B2.out)
  have OS := Lib.hid os
  have FS := Lib.hid fs
  have HM := Lib.hid (hm.stay B2.out)
  have OM := Lib.hid om
  have FM := Lib.hid fm
  have N1 := Lib.hid hn1
  have N2 := Lib.hid hn2
  have AW := Lib.hid (awake13_c w2)
  unfold MSt.val
  dsimp only
  rw [hn1, hn2]
  clear hs os fs hm om fm sb b0 qb b1 tb b2 hn1 hn2
  have CLS : Hid (∀ u : World, Below w2.heap.size w2 u → Calls Try.prog 6 #[.agg #[.slice A n1 c, .slice A2 n2 c2]] u (LightOk9 ⟨ls, tks ms⟩ u)) := Lib.hid (fun u hu => light9_c (HS.out.stay hu).l (HS.out.stay hu).k N1.out.symm N2.out.symm FS.out)
  have CLQ := Lib.hid (fun u : World => lightQ_c q u)
  obtain ⟨⟨ti, tl, tt, td, tr, te, tg⟩, tA, tc⟩ := m
  obtain ⟨ql, qd, qt, qs, qw, qm⟩ := q
  unfold qcells at hw1 CLQ ⊢
  unfold encK at hw2 ⊢
  dsimp only at hw1 hw2 CLQ ⊢
  go_enter Try.func3, Try.ntmps3
  go_wp2_with fail
  refine AW.out.mono ?_
  rintro e w3 ⟨rfl, h3⟩
  have H3 := Lib.hid h3
  obtain ⟨s0, s1⟩ := two_cells (blk_keep SB.out h3)
  clear h3
  go_wp2_with fail
  refine (CLS.out w3 H3.out).mono ?_
  rintro e w4 ⟨b1, rfl, hb1, h4⟩
  have H4 : Hid (Below w2.heap.size w2 w4) := Lib.hid (H3.out.trans (h4.mono H3.out.size))
  clear h4
  cases b1 with
  | false =>
    clear hb1
    go_wp2_with fail
    go_ret
    exact ⟨rfl, B2.out.trans (H4.out.mono B2.out.size)⟩
  | true =>
  have LS := Lib.hid (hb1 rfl)
  clear hb1
  obtain ⟨p0, p1, p2, p3, p4, p5⟩ := six_cells13 (blk_keep QB.out H4.out)
  go_wp2_with fail
  refine (CLQ.out w4).mono ?_
  rintro e w5 ⟨rfl, h5⟩
  have H5 : Hid (Below w2.heap.size w2 w5) := Lib.hid (H4.out.trans (h5.mono H4.out.size))
  clear h5
  by_cases hq : qt.length ≤ 100
  rotate_left
  · rw [decide_eq_false hq]
    clear hq
    go_wp2_with fail
    go_ret
    exact ⟨rfl, B2.out.trans (H5.out.mono B2.out.size)⟩
  rw [decide_eq_true hq]
  clear hq
  obtain ⟨t0, t1, t2, t3, t4, t5, t6⟩ := seven_cells (blk_keep TB.out H5.out)
  obtain ⟨w6, hw6⟩ : ∃ u, w5.alloc (.cells #[.int .u64 (ti : Int), .int .u64 (tl : Int), .string (str tt), .bool td, .float .f64 tr, .float .f64 te, .slice tA tg.length tc] 32) = u := ⟨_, rfl⟩
  obtain ⟨kb, b6, z6⟩ := new_seven hw6
  have H6 : Hid (Below w2.heap.size w2 w6) := Lib.hid (H5.out.trans (b6.mono H5.out.size))
  have CL3 := Lib.hid (light9_c (A := none) (c := 0) (c2 := 1) (LL.nil : LL w6 none []) (⟨(Lies.of_blk (B := 0) kb : Lies w6 0 32 (some ⟨w5.heap.size, 0, none⟩) (tkcells [⟨⟨ti, tl, tt, td, tr, te, tg⟩, tA, tc⟩])).old, fun m hm => by rw [List.mem_singleton] at hm; subst hm; exact HM.out.stay H6.out⟩ : KL w6 (some ⟨w5.heap.size, 0, none⟩) [⟨⟨ti, tl, tt, td, tr, te, tg⟩, tA, tc⟩]) (n1 := 0) (n2 := 1) rfl rfl (fun m hm => by rw [List.mem_singleton] at hm; subst hm; exact FM.out))
  clear kb b6 z6
  go_wp2_with fail
  refine CL3.out.mono ?_
  rintro e w7 ⟨b3, rfl, hb3, h7⟩
  have H7 : Hid (Below w2.heap.size w2 w7) := Lib.hid (H6.out.trans (h7.mono H6.out.size))
  clear h7
  cases b3 with
  | false =>
    clear hb3
    go_wp2_with fail
    go_ret
    exact ⟨rfl, B2.out.trans (H7.out.mono B2.out.size)⟩
  | true =>
  have LM := Lib.hid (hb3 rfl)
  have TGN : tg.length ≤ 1000000 := by have := (hb3 rfl).few ⟨ti, tl, tt, td, tr, te, tg⟩ (by simp [tks]); simp only at this; omega
  clear hb3
  have CHO := Lib.hid (fun (u : World) (hu : Below w7.heap.size w7 u) => holds13_c (m := ⟨⟨ti, tl, tt, td, tr, te, tg⟩, tA, tc⟩) (q := ⟨ql, qd, qt, qs, qw, qm⟩) ((HM.out.stay H7.out).stay hu) TGN)
  have CRH := Lib.hid (fun (u : World) (hu : Below w7.heap.size w7 u) => refHolds13_c (m := ⟨⟨ti, tl, tt, td, tr, te, tg⟩, tA, tc⟩) (q := ⟨ql, qd, qt, qs, qw, qm⟩) ((HM.out.stay H7.out).stay hu) TGN)
  unfold qcells encK at CHO CRH
  dsimp only at CHO CRH
  obtain ⟨hb, hhb⟩ : ∃ b, T9.holds ⟨ql, qd, qt, qs, qw, qm⟩ ⟨ti, tl, tt, td, tr, te, tg⟩ = b := ⟨_, rfl⟩
  rw [hhb] at CHO CRH
  have hne : (hb != hb) = false := by cases hb <;> rfl
  have SB7 := Lib.hid (blk_keep SB.out H7.out)
  have QB7 := Lib.hid (blk_keep QB.out H7.out)
  have TB7 := Lib.hid (blk_keep TB.out H7.out)
  clear hhb TGN t0 t1 t2 t3 t4 t5 t6 p0 p1 p2 p3 p4 p5 s0 s1
  go_upto_region 5 with fail
  refine wp_region_held_drew (S := fun u => Below w7.heap.size w7 u) (by kernel_rfl) ((Below.refl w7.heap.size w7).drew) (fun S0 => ?_)
  refine wpAnyH_take (i := 0) (v := ?_) rfl (by kernel_rfl) (by kernel_rfl) (by kernel_rfl) (fun _ _ _ h => h) (Or.inl ⟨by rfl, ?_⟩) S0 ?_
  rotate_left
  · intro u hu
    obtain ⟨t0, t1, t2, t3, t4, t5, t6⟩ := seven_cells (blk_keep TB7.out hu)
    go_simp
    try rfl
  try simp only [Act.put, List.setIfInBounds_toArray, List.set_cons_zero, List.set_cons_succ, List.getElem_toArray, List.getElem_cons_zero, List.getElem_cons_succ]
  refine wpAnyH_take (i := 1) (v := ?_) rfl (by kernel_rfl) (by kernel_rfl) (by kernel_rfl) (fun _ _ _ h => h) (Or.inl ⟨by rfl, ?_⟩) S0 ?_
  rotate_left
  · intro u hu
    obtain ⟨p0, p1, p2, p3, p4, p5⟩ := six_cells13 (blk_keep QB7.out hu)
    go_simp
    try rfl
  try simp only [Act.put, List.setIfInBounds_toArray, List.set_cons_zero, List.set_cons_succ, List.getElem_toArray, List.getElem_cons_zero, List.getElem_cons_succ]
  refine wpAnyH_take (i := 3) (v := ?_) rfl (by kernel_rfl) (by kernel_rfl) (by kernel_rfl) (fun _ _ _ h => h) (Or.inl ⟨by rfl, ?_⟩) S0 ?_
  rotate_left
  · intro u hu
    obtain ⟨t0, t1, t2, t3, t4, t5, t6⟩ := seven_cells (blk_keep TB7.out hu)
    go_simp
    try rfl
  try simp only [Act.put, List.setIfInBounds_toArray, List.set_cons_zero, List.set_cons_succ, List.getElem_toArray, List.getElem_cons_zero, List.getElem_cons_succ]
  refine wpAnyH_take (i := 4) (v := ?_) rfl (by kernel_rfl) (by kernel_rfl) (by kernel_rfl) (fun _ _ _ h => h) (Or.inl ⟨by rfl, ?_⟩) S0 ?_
  rotate_left
  · intro u hu
    obtain ⟨p0, p1, p2, p3, p4, p5⟩ := six_cells13 (blk_keep QB7.out hu)
    go_simp
    try rfl
  try simp only [Act.put, List.setIfInBounds_toArray, List.set_cons_zero, List.set_cons_succ, List.getElem_toArray, List.getElem_cons_zero, List.getElem_cons_succ]
  refine anyH_one9 (i := 2) (by kernel_rfl) rfl (fun K hK => ?_)
  go_simp
  refine (CHO.out _ S0).mono ?_
  rintro e va ⟨rfl, hv⟩
  have S1 := S0.trans (hv.mono S0.size)
  clear hv
  refine hK _ _ S1 ?_
  clear hK K S0
  have S0 := S1
  clear S1
  try simp only [Act.put, List.setIfInBounds_toArray, List.set_cons_zero, List.set_cons_succ, List.getElem_toArray, List.getElem_cons_zero, List.getElem_cons_succ]
  refine anyH_one9 (i := 5) (by kernel_rfl) rfl (fun K hK => ?_)
  go_simp
  refine (CRH.out _ S0).mono ?_
  rintro e vb ⟨rfl, hv⟩
  have S1 := S0.trans (hv.mono S0.size)
  clear hv
  refine hK _ _ S1 ?_
  clear hK K S0
  have S0 := S1
  clear S1
  try simp only [Act.put, List.setIfInBounds_toArray, List.set_cons_zero, List.set_cons_succ, List.getElem_toArray, List.getElem_cons_zero, List.getElem_cons_succ]
  refine wpAnyH_take (i := 6) (v := ?_) rfl (by kernel_rfl) (by kernel_rfl) (by kernel_rfl) (fun _ _ _ h => h) (Or.inl ⟨by rfl, ?_⟩) S0 ?_
  rotate_left
  · intro u hu
    skip
    go_simp
    try rfl
  try simp only [Act.put, List.setIfInBounds_toArray, List.set_cons_zero, List.set_cons_succ, List.getElem_toArray, List.getElem_cons_zero, List.getElem_cons_succ]
  refine wpAnyH_done (by kernel_rfl) ?_ _
  have H8 : Hid (Below w2.heap.size w2 vb) := Lib.hid (H7.out.trans (S0.mono H7.out.size))
  clear S0
  obtain ⟨s0, s1⟩ := two_cells (blk_keep SB.out H8.out)
  obtain ⟨p0, p1, p2, p3, p4, p5⟩ := six_cells13 (blk_keep QB.out H8.out)
  have CR := Lib.hid (run13_c (c := c) (c2 := c2) (q := ⟨ql, qd, qt, qs, qw, qm⟩) (HS.out.stay H8.out).l (HS.out.stay H8.out).k N1.out.symm N2.out.symm (by rw [← N1.out]; exact Nat.le_trans LS.out.nl (by decide)) (by rw [← N2.out, ← tks_len]; exact Nat.le_trans LS.out.nt (by decide)) (fun m hm => by have := LS.out.few m.t (List.mem_map.2 ⟨m, hm, rfl⟩); omega) (fun m hm => (OS.out.2 m.t (List.mem_map.2 ⟨m, hm, rfl⟩)).2.2))
  unfold qcells at CR
  dsimp only at CR
  have CRh := Lib.hid CR
  clear CR
  go_wp2_with fail
  refine CRh.out.mono ?_
  rintro e w8 ⟨hr, h8⟩
  have H9 : Hid (Below w2.heap.size w2 w8) := Lib.hid (H8.out.trans (h8.mono H8.out.size))
  clear h8
  rcases hr with ⟨hne, rfl⟩ | ⟨he, RA, rc, rs, rfl, hrk, hrc, l, ho, ht⟩
  · obtain ⟨er, her⟩ : ∃ r, T9.wrongE ls ⟨ql, qd, qt, qs, qw, qm⟩ = r := ⟨_, rfl⟩
    rw [her] at hne ⊢
    have hez : (er != 0) = true := by simp [hne]
    clear hne her
    go_wp2_with fail
    go_ret
    exact ⟨rfl, B2.out.trans (H9.out.mono B2.out.size)⟩
  obtain ⟨n3, hn3⟩ : ∃ n, rs.length = n := ⟨_, rfl⟩
  rw [hn3]
  have N3 := Lib.hid hn3
  have HR := Lib.hid hrk
  have MEM : Hid (∀ x ∈ tks rs, x ∈ tks ms ∧ T9.holds ⟨ql, qd, qt, qs, qw, qm⟩ x = true) := Lib.hid (fun x hx => by rw [ht] at hx; exact T9.told_mem ho hx)
  have CNT : Hid (∀ x, T9.cnt13 x (tks rs) ≤ T9.cnt13 x (tks ms)) := Lib.hid (fun x => by rw [ht]; exact T9.told_cnt ho x)
  have LIM : Hid (0 ≤ qm ∧ (0 < qm → (n3 : Int) ≤ qm)) := Lib.hid ⟨T9.lim_ok he, fun h => by rw [← hn3, ← tks_len, ht]; exact T9.told_len (q := ⟨ql, qd, qt, qs, qw, qm⟩) h⟩
  have NS2 : n2 ≤ 70 := by rw [← N2.out, ← tks_len]; exact LS.out.nt
  have NS3 : n3 ≤ 70 := by
    rw [← hn3, ← tks_len, ht]
    obtain ⟨mm, hp, hsub⟩ := T9.cut_sub ⟨ql, qd, qt, qs, qw, qm⟩ l
    have e1 := hsub.length_le
    have e2 := hp.length_eq
    have e3 := (Sr.stb_perm (wo13 qs) ho.2).length_eq
    have e4 := List.length_filter_le (T9.holds ⟨ql, qd, qt, qs, qw, qm⟩) (tks ms)
    have e5 := tks_len ms
    have e6 := N2.out
    omega
  have CST : Hid (∀ (u : World) (a b : MTk), a.fine u → b.fine u → a.t ∈ tks ms → b.t ∈ tks ms → Calls Try.prog 11 #[.agg (encK a).toArray, .agg (encK b).toArray] u fun e w' => e = .returned (.bool (T9.same1 a.t b.t)) ∧ Below u.heap.size u w') := Lib.hid (fun u a b ha hb ia ib => refSameTask_c ha hb (LS.out.short.2.1 a.t ia) (LS.out.short.2.1 b.t ib) (OS.out.2 a.t ia) (OS.out.2 b.t ib))
  have hez : ((0 : Int) != 0) = false := by decide
  clear hrk hrc ho ht he hn3 s0 s1 p0 p1 p2 p3 p4 p5
  go_wp2_with fail
  go_loopw [54] (fun s54 wr => ∃ k : Nat, s54 = .int .i64 k ∧ k ≤ n3 ∧ Hid (Below w8.heap.size w8 wr)) (fun s54 _ => n3 - (intOf s54).toNat)
  case atStart => exact ⟨0, rfl, Nat.zero_le _, Lib.hid (Below.refl _ _)⟩
  case round =>
    obtain ⟨k, rfl, hk, BR⟩ := hrel
    have B2r : Hid (Below w2.heap.size w2 wr) := Lib.hid (H9.out.trans (BR.out.mono H9.out.size))
    by_cases hlt : k < n3
    · have hltz : (k : Int) < (n3 : Int) := by omega
      obtain ⟨ad, ⟨⟨xI, xL, xT, xD, xR, xE, xG⟩, xA, xC⟩, hA, hx, hxf, r0, r1, r2, r3, r4, r5, r6⟩ := (HR.out.stay BR.out).at_ (k := k) (by have := N3.out; omega)
      subst hA
      dsimp only at r0 r1 r2 r3 r4 r5 r6
      obtain ⟨gx, hgx⟩ : ∃ g, wr.heap.size = g := ⟨_, rfl⟩
      obtain ⟨wa, hwa⟩ : ∃ u, wr.alloc (.cells #[.int .u64 (xI : Int), .int .u64 (xL : Int), .string (str xT), .bool xD, .float .f64 xR, .float .f64 xE, .slice xA xG.length xC] 32) = u := ⟨_, rfl⟩
      obtain ⟨xb, ba, za⟩ := new_seven hwa
      have XMem : Hid ((⟨xI, xL, xT, xD, xR, xE, xG⟩ : T9.Tk) ∈ tks ms ∧ T9.holds ⟨ql, qd, qt, qs, qw, qm⟩ ⟨xI, xL, xT, xD, xR, xE, xG⟩ = true) := Lib.hid (MEM.out _ (List.mem_map.2 ⟨_, List.mem_of_getElem? hx, rfl⟩))
      have XF := Lib.hid (hxf.stay ba)
      have BA : Hid (Below w2.heap.size w2 wa) := Lib.hid (B2r.out.trans (ba.mono B2r.out.size))
      have BA8 : Hid (Below w8.heap.size w8 wa) := Lib.hid (BR.out.trans (ba.mono BR.out.size))
      rw [hgx] at xb
      have XB := Lib.hid xb
      obtain ⟨s0, s1⟩ := two_cells (blk_keep SB.out BA.out)
      clear hx hxf xb ba za
      go_wp2_with fail
      go_loopw [11, 61] (fun sc si wr2 => ∃ (i a : Nat), si = .int .i64 i ∧ i ≤ n2 ∧ sc = .int .i64 a ∧ Hid (a = T9.cnt13 ⟨xI, xL, xT, xD, xR, xE, xG⟩ ((tks ms).take i) ∧ a ≤ i) ∧ Hid (Below wa.heap.size wa wr2)) (fun _ si _ => n2 - (intOf si).toNat)
      case atStart => exact ⟨0, 0, rfl, Nat.zero_le _, rfl, Lib.hid ⟨rfl, Nat.le_refl _⟩, Lib.hid (Below.refl _ _)⟩
      case round =>
        obtain ⟨i, a, rfl, hi, rfl, HA, BI⟩ := hrel
        by_cases hli : i < n2
        · have hliz : (i : Int) < (n2 : Int) := by omega
          obtain ⟨ad2, ⟨⟨yI, yL, yT, yD, yR, yE, yG⟩, yA, yC⟩, hA2, hy, hyf, r0, r1, r2, r3, r4, r5, r6⟩ := ((HS.out.stay BA.out).stay BI.out).k.at_ (k := i) (by show i < ms.length; have := N2.out; omega)
          dsimp only at hA2 hy
          subst hA2
          dsimp only at r0 r1 r2 r3 r4 r5 r6
          obtain ⟨wb, hwb⟩ : ∃ u, wr.alloc (.cells #[.int .u64 (yI : Int), .int .u64 (yL : Int), .string (str yT), .bool yD, .float .f64 yR, .float .f64 yE, .slice yA yG.length yC] 32) = u := ⟨_, rfl⟩
          obtain ⟨yb, bb, zb⟩ := new_seven hwb
          have BB : Hid (Below wa.heap.size wa wb) := Lib.hid (BI.out.trans (bb.mono BI.out.size))
          obtain ⟨x0, x1, x2, x3, x4, x5, x6⟩ := seven_cells (blk_keep XB.out BB.out)
          obtain ⟨y0, y1, y2, y3, y4, y5, y6⟩ := seven_cells yb
          have CS := CST.out wb ⟨⟨xI, xL, xT, xD, xR, xE, xG⟩, xA, xC⟩ ⟨⟨yI, yL, yT, yD, yR, yE, yG⟩, yA, yC⟩ (XF.out.stay BB.out) (hyf.stay bb) XMem.out.1 (List.mem_map.2 ⟨_, List.mem_of_getElem? hy, rfl⟩)
          unfold encK at CS
          dsimp only at CS
          have NX : Hid ((tks ms).take (i + 1) = (tks ms).take i ++ [⟨yI, yL, yT, yD, yR, yE, yG⟩]) := Lib.hid (take_nxt (tks_at hy))
          obtain ⟨sm, hsm⟩ : ∃ b, T9.same1 ⟨xI, xL, xT, xD, xR, xE, xG⟩ ⟨yI, yL, yT, yD, yR, yE, yG⟩ = b := ⟨_, rfl⟩
          rw [hsm] at CS
          have SMh := Lib.hid hsm
          have CSh := Lib.hid CS
          have wrp : IntKind.i64.wrap ((a : Int) + 1) = (a : Int) + 1 := by rw [IntKind.wrap_i64]; have := HA.out.2; omega
          clear hy hyf yb bb zb CS hsm
          cases sm with
          | true =>
            go_wp2_with fail
            refine CSh.out.mono ?_
            rintro e wc ⟨rfl, hc⟩
            have BC : Hid (Below wa.heap.size wa wc) := Lib.hid (BB.out.trans (hc.mono BB.out.size))
            clear hc
            go_wp2
            go_roundw
            case rel => exact ⟨i + 1, a + 1, by go_num, by omega, by go_num, Lib.hid ⟨by rw [NX.out, T9.cnt_snoc, SMh.out, HA.out.1]; rfl, by have := HA.out.2; omega⟩, BC⟩
            case measure => simp [intOf]; omega
          | false =>
            go_wp2_with fail
            refine CSh.out.mono ?_
            rintro e wc ⟨rfl, hc⟩
            have BC : Hid (Below wa.heap.size wa wc) := Lib.hid (BB.out.trans (hc.mono BB.out.size))
            clear hc
            go_wp2
            go_roundw
            case rel => exact ⟨i + 1, a, by go_num, by omega, rfl, Lib.hid ⟨by rw [NX.out, T9.cnt_snoc, SMh.out, HA.out.1]; rfl, by have := HA.out.2; omega⟩, BC⟩
            case measure => simp [intOf]; omega
        · obtain rfl : i = n2 := by omega
          have hliz : ¬ ((i : Int) < (i : Int)) := by omega
          have AE : Hid (a = T9.cnt13 ⟨xI, xL, xT, xD, xR, xE, xG⟩ (tks ms)) := Lib.hid (by
            have := HA.out.1
            rwa [List.take_of_length_le (by rw [tks_len, N2.out]; exact Nat.le_refl _)] at this)
          obtain ⟨wd, hwd⟩ : ∃ u, wr = u := ⟨_, rfl⟩
          subst hwd
          have BD := Lib.hid BI.out
          go_wp2_with fail
          go_loopw [12, 73] (fun sc si wr2 => ∃ (j b : Nat), si = .int .i64 j ∧ j ≤ n3 ∧ sc = .int .i64 b ∧ Hid (b = T9.cnt13 ⟨xI, xL, xT, xD, xR, xE, xG⟩ ((tks rs).take j) ∧ b ≤ j) ∧ Hid (Below wa.heap.size wa wr2)) (fun _ si _ => n3 - (intOf si).toNat)
          case atStart => exact ⟨0, 0, rfl, Nat.zero_le _, rfl, Lib.hid ⟨rfl, Nat.le_refl _⟩, BD⟩
          case round =>
            obtain ⟨j, b, rfl, hj, rfl, HB, BI2⟩ := hrel
            by_cases hlj : j < n3
            · have hljz : (j : Int) < (n3 : Int) := by omega
              obtain ⟨ad2, ⟨⟨yI, yL, yT, yD, yR, yE, yG⟩, yA, yC⟩, hA2, hy, hyf, r0, r1, r2, r3, r4, r5, r6⟩ := ((HR.out.stay BA8.out).stay BI2.out).at_ (k := j) (by have := N3.out; omega)
              injection hA2 with hA2
              subst hA2
              dsimp only at r0 r1 r2 r3 r4 r5 r6
              obtain ⟨wb, hwb⟩ : ∃ u, wr.alloc (.cells #[.int .u64 (yI : Int), .int .u64 (yL : Int), .string (str yT), .bool yD, .float .f64 yR, .float .f64 yE, .slice yA yG.length yC] 32) = u := ⟨_, rfl⟩
              obtain ⟨yb, bb, zb⟩ := new_seven hwb
              have BB : Hid (Below wa.heap.size wa wb) := Lib.hid (BI2.out.trans (bb.mono BI2.out.size))
              obtain ⟨x0, x1, x2, x3, x4, x5, x6⟩ := seven_cells (blk_keep XB.out BB.out)
              obtain ⟨y0, y1, y2, y3, y4, y5, y6⟩ := seven_cells yb
              have CS := CST.out wb ⟨⟨xI, xL, xT, xD, xR, xE, xG⟩, xA, xC⟩ ⟨⟨yI, yL, yT, yD, yR, yE, yG⟩, yA, yC⟩ (XF.out.stay BB.out) (hyf.stay bb) XMem.out.1 (MEM.out _ (List.mem_map.2 ⟨_, List.mem_of_getElem? hy, rfl⟩)).1
              unfold encK at CS
              dsimp only at CS
              have NX : Hid ((tks rs).take (j + 1) = (tks rs).take j ++ [⟨yI, yL, yT, yD, yR, yE, yG⟩]) := Lib.hid (take_nxt (tks_at hy))
              obtain ⟨sm, hsm⟩ : ∃ b, T9.same1 ⟨xI, xL, xT, xD, xR, xE, xG⟩ ⟨yI, yL, yT, yD, yR, yE, yG⟩ = b := ⟨_, rfl⟩
              rw [hsm] at CS
              have SMh := Lib.hid hsm
              have CSh := Lib.hid CS
              have wrp : IntKind.i64.wrap ((b : Int) + 1) = (b : Int) + 1 := by rw [IntKind.wrap_i64]; have := HB.out.2; omega
              clear hy hyf yb bb zb CS hsm
              cases sm with
              | true =>
                go_wp2_with fail
                refine CSh.out.mono ?_
                rintro e wc ⟨rfl, hc⟩
                have BC : Hid (Below wa.heap.size wa wc) := Lib.hid (BB.out.trans (hc.mono BB.out.size))
                clear hc
                go_wp2
                go_roundw
                case rel => exact ⟨j + 1, b + 1, by go_num, by omega, by go_num, Lib.hid ⟨by rw [NX.out, T9.cnt_snoc, SMh.out, HB.out.1]; rfl, by have := HB.out.2; omega⟩, BC⟩
                case measure => simp [intOf]; omega
              | false =>
                go_wp2_with fail
                refine CSh.out.mono ?_
                rintro e wc ⟨rfl, hc⟩
                have BC : Hid (Below wa.heap.size wa wc) := Lib.hid (BB.out.trans (hc.mono BB.out.size))
                clear hc
                go_wp2
                go_roundw
                case rel => exact ⟨j + 1, b, by go_num, by omega, rfl, Lib.hid ⟨by rw [NX.out, T9.cnt_snoc, SMh.out, HB.out.1]; rfl, by have := HB.out.2; omega⟩, BC⟩
                case measure => simp [intOf]; omega
            · obtain rfl : j = n3 := by omega
              have hljz : ¬ ((j : Int) < (j : Int)) := by omega
              have BE : Hid (b = T9.cnt13 ⟨xI, xL, xT, xD, xR, xE, xG⟩ (tks rs)) := Lib.hid (by
                have := HB.out.1
                rwa [List.take_of_length_le (by rw [tks_len, N3.out]; exact Nat.le_refl _)] at this)
              have hab : ¬ (a : Int) < (b : Int) := by
                have := CNT.out ⟨xI, xL, xT, xD, xR, xE, xG⟩
                have e1 := AE.out
                have e2 := BE.out
                omega
              have BX : Hid (Below w2.heap.size w2 wr) := Lib.hid (BA.out.trans (BI2.out.mono BA.out.size))
              obtain ⟨x0, x1, x2, x3, x4, x5, x6⟩ := seven_cells (blk_keep XB.out BI2.out)
              obtain ⟨p0, p1, p2, p3, p4, p5⟩ := six_cells13 (blk_keep QB.out BX.out)
              have CH := refHolds13_c (w := wr) (m := ⟨⟨xI, xL, xT, xD, xR, xE, xG⟩, xA, xC⟩) (q := ⟨ql, qd, qt, qs, qw, qm⟩) (XF.out.stay BI2.out) (by have := LS.out.few _ XMem.out.1; simp only at this; show xG.length ≤ _; omega)
              rw [XMem.out.2] at CH
              unfold encK qcells at CH
              dsimp only at CH
              have CHh := Lib.hid CH
              clear CH
              go_wp2_with fail
              refine CHh.out.mono ?_
              rintro e wc ⟨rfl, hc⟩
              have BZ : Hid (Below w8.heap.size w8 wc) := Lib.hid ((BA8.out.trans (BI2.out.mono BA8.out.size)).trans (hc.mono (Nat.le_trans BA8.out.size BI2.out.size)))
              clear hc
              go_wp2
              go_roundw
              case rel => exact ⟨k + 1, by go_num, by omega, BZ⟩
              case measure => simp [intOf]; omega
    · obtain rfl : k = n3 := by omega
      have hltz : ¬ ((k : Int) < (k : Int)) := by omega
      obtain ⟨p0, p1, p2, p3, p4, p5⟩ := six_cells13 (blk_keep QB.out B2r.out)
      by_cases h0 : qm = 0
      · have hz : (qm == 0) = true := by simp [h0]
        clear h0
        go_wp2_with fail
        go_ret
        exact ⟨rfl, B2.out.trans (B2r.out.mono B2.out.size)⟩
      · have hz : (qm == 0) = false := by simp [h0]
        have hle : (k : Int) ≤ qm := LIM.out.2 (by have := LIM.out.1; omega)
        clear h0
        go_wp2_with fail
        go_ret
        exact ⟨ret_bool (by simp [hle]), B2.out.trans (B2r.out.mono B2.out.size)⟩
end
end Go.Proofs.Ytnhpkcphgdkdiaa
