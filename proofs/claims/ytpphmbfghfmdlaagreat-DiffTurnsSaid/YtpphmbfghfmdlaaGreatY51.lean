import Derived.Test.YtpphmbfghfmdlaaGreatY34
import Derived.Test.YtpphmbfghfmdlaaGreatY50
namespace Go.Proofs.YtpphmbfghfmdlaaGreat
set_option maxRecDepth 100000
section
set_option linter.unusedSimpArgs false
section
open Go.RowKit Go.Lib Go.Shelf
theorem wrap12 {x : Int} (h : 0 ≤ x) (h2 : x < 100000) : IntKind.i64.wrap x = x := by
 simp [IntKind.wrap, IntKind.bits, IntKind.signed]
 (try split) <;> omega
theorem news_len {α : Type} {g : α → Nat} {sm : α → α → Bool} {os ns : List α} : (news g sm os ns).length ≤ ns.length := List.length_filter_le _ _
theorem gone_len {α : Type} {g : α → Nat} {os ns : List α} : (gone g os ns).length ≤ os.length := by
 unfold gone
 rw [List.length_map]
 exact List.length_filter_le _ _
set_option maxHeartbeats 8000000 in
theorem diffOf_c {a b : MSt} {w : World} (ha : SM a w) (oa : a.st.ok) (fa : a.far) (hb : SM b w) (ob : b.st.ok) (fb : b.far) :
  Calls Tryz.prog 4 #[a.val, b.val] w fun e w' => e = .returned (.bool true) ∧ Below w.heap.size w w' := by
 obtain ⟨w0, hw0⟩ : ∃ u, w.alloc (.cells #[.slice a.A a.ls.length a.c, .slice a.A2 a.ms.length a.c2] 25) = u := ⟨_, rfl⟩
 obtain ⟨pb0, b0, z0⟩ := new_two hw0
 obtain ⟨w1, hw1⟩ : ∃ u, w0.alloc (.cells #[.slice b.A b.ls.length b.c, .slice b.A2 b.ms.length b.c2] 25) = u := ⟨_, rfl⟩
 obtain ⟨pb1, b1, z1⟩ := new_two hw1
 rw [z0] at pb1
 have B1 : Hid (Below w.heap.size w w1) := hid (b0.trans (b1.mono (by omega)))
 have GA1 := hid (blk_keep pb0 b1)
 have GB1 := hid pb1
 have SA1 := hid (ha.stay B1.out)
 have SB1 := hid (hb.stay B1.out)
 have OA := hid oa
 have OB := hid ob
 have FA := hid fa
 have FB := hid fb
 have AW := hid (awake12_c w1)
 unfold MSt.val
 clear ha oa fa hb ob fb pb0 b0 pb1 b1
 go_enter Tryz.func4, Tryz.ntmps4
 go_wp2_with fail
 refine AW.out.mono ?_
 rintro e w2 ⟨rfl, h2⟩
 have GA2 := hid (blk_keep GA1.out h2)
 have GB2 := hid (blk_keep GB1.out h2)
 have SA2 := hid (SA1.out.stay h2)
 have SB2 := hid (SB1.out.stay h2)
 have B2 := hid (B1.out.trans (h2.mono B1.out.size))
 clear h2 GA1 GB1 SA1 SB1 AW
 obtain ⟨x0, x1⟩ := two_cells GA2.out
 have LS := hid (light9_c (c := a.c) (c2 := a.c2) SA2.out.l SA2.out.k rfl rfl FA.out)
 go_wp2_with fail
 refine LS.out.mono ?_
 rintro e w3 ⟨ba, rfl, hba, h3⟩
 have GA3 := hid (blk_keep GA2.out h3)
 have GB3 := hid (blk_keep GB2.out h3)
 have SA3 := hid (SA2.out.stay h3)
 have SB3 := hid (SB2.out.stay h3)
 have B3 := hid (B2.out.trans (h3.mono B2.out.size))
 clear h3 x0 x1 GA2 GB2 SA2 SB2 LS
 cases ba with
 | false =>
  clear hba
  go_wp2_with fail
  go_ret
  exact ⟨rfl, B3.out⟩
 | true =>
 have LTA := hid (hba rfl)
 clear hba
 obtain ⟨x0, x1⟩ := two_cells GB3.out
 have LS := hid (light9_c (c := b.c) (c2 := b.c2) SB3.out.l SB3.out.k rfl rfl FB.out)
 go_wp2_with fail
 refine LS.out.mono ?_
 rintro e w4 ⟨bb, rfl, hbb, h4⟩
 have GA4 := hid (blk_keep GA3.out h4)
 have GB4 := hid (blk_keep GB3.out h4)
 have SA4 := hid (SA3.out.stay h4)
 have SB4 := hid (SB3.out.stay h4)
 have B4 := hid (B3.out.trans (h4.mono B3.out.size))
 clear h4 x0 x1 GA3 GB3 SA3 SB3 LS
 cases bb with
 | false =>
  clear hbb
  go_wp2_with fail
  go_ret
  exact ⟨rfl, B4.out⟩
 | true =>
  have LTB := hid (hbb rfl)
  clear hbb
  obtain ⟨x0, x1⟩ := two_cells GA4.out
  obtain ⟨y0, y1⟩ := two_cells GB4.out
  have CO := hid (of12_c SA4.out SB4.out LTA.out LTB.out OA.out OB.out)
  unfold MSt.val at CO
  go_wp2_with fail
  refine CO.out.mono ?_
  rintro e w5 ⟨⟨ls, A, c, ms, A2, c2, gl, A3, c3, gk, A4, c4⟩, rfl, hp, p1, p2, p3, p4, h5⟩
  dsimp only at p1 p2 p3 p4
  have CA := c12_light LTA.out
  have CB := c12_light LTB.out
  have m1 : ls.length ≤ 25 := by rw [p1]; exact Nat.le_trans news_len CB.nl
  have m2 : ms.length ≤ 70 := by rw [← tks_len, p2]; exact Nat.le_trans news_len CB.nt
  have m3 : gl.length ≤ 25 := by rw [p3]; exact Nat.le_trans gone_len CA.nl
  have m4 : gk.length ≤ 70 := by rw [p4]; exact Nat.le_trans gone_len CA.nt
  unfold PDt.cells
  dsimp only
  obtain ⟨w6, hw6⟩ : ∃ u, w5.alloc (.cells #[.slice A ls.length c, .slice A2 ms.length c2, .slice A3 gl.length c3, .slice A4 gk.length c4] 44) = u := ⟨_, rfl⟩
  have b6 : Below w5.heap.size w5 w6 := by rw [← hw6]; exact (Below.refl _ _).alloc (Nat.le_refl _) _
  have PP : Hid (w6.heap[w5.heap.size]? = some (.cells #[.slice A ls.length c, .slice A2 ms.length c2, .slice A3 gl.length c3, .slice A4 gk.length c4] 44 (0, 0))) := hid (by rw [← hw6]; exact World.alloc_heap_new w5 _)
  have h6 := h5.trans (b6.mono h5.size)
  have GA := hid (blk_keep GA4.out h6)
  have GB := hid (blk_keep GB4.out h6)
  have SA := hid (SA4.out.stay h6)
  have SB := hid (SB4.out.stay h6)
  have B6 := hid (B4.out.trans (h6.mono B4.out.size))
  have TP6 := hid (hp.stay b6)
  have P1 := hid p1
  have P2 := hid p2
  have P3 := hid p3
  have P4 := hid p4
  have CBm : ∀ m ∈ ms, m.t.short ∧ m.t.ok := fun m hm => by
   have q0 : m.t ∈ tks ms := List.mem_map.2 ⟨m, hm, rfl⟩
   rw [p2] at q0
   have q : m.t ∈ (T9.canon b.st).tasks := news_mem q0
   exact ⟨CB.short.2.1 _ q, (c12_ok OB.out).2 _ q⟩
  have KM := hid CBm
  clear hp p1 p2 p3 p4 h5 h6 b6 x0 x1 y0 y1 GA4 GB4 SA4 SB4 CO CA CB CBm
  have CD := hid (fun (v : World) (hv : Below w6.heap.size w6 v) => diff12_c (SA.out.stay hv) (SB.out.stay hv) LTA.out LTB.out OA.out OB.out)
  unfold MSt.val at CD
  have CZ := hid (fun (v : World) => size12_c (p := ⟨ls, A, c, ms, A2, c2, gl, A3, c3, gk, A4, c4⟩) (w := v) (by dsimp only; omega) (by dsimp only; omega) (by dsimp only; omega) (by dsimp only; omega))
  unfold PDt.size PDt.cells at CZ
  dsimp only at CZ
  have CS := hid (fun (v : World) (q : PDt) (hv : Below w6.heap.size w6 v) (hq : TPd q v) (q1 : q.ls = newL (T9.canon a.st) (T9.canon b.st)) (q2 : tks q.ms = newK (T9.canon a.st) (T9.canon b.st)) (q3 : q.gl = goneL (T9.canon a.st) (T9.canon b.st)) (q4 : q.gk = goneK (T9.canon a.st) (T9.canon b.st)) => samePt_c (p := ⟨ls, A, c, ms, A2, c2, gl, A3, c3, gk, A4, c4⟩) (q := q) (TP6.out.stay hv) hq (P1.out.trans q1.symm) (by
   show T9.sameT (tks ms) (tks q.ms) = true
   rw [P2.out, q2]
   have := T9.same_refl ⟨[], newK (T9.canon a.st) (T9.canon b.st)⟩
   simpa [T9.same] using this) (by
   show ms.length = q.ms.length
   rw [← tks_len ms, ← tks_len q.ms, P2.out, q2]) (P3.out.trans q3.symm) (P4.out.trans q4.symm) (by dsimp only; omega) (by dsimp only; omega) (by dsimp only; omega) (by dsimp only; omega) KM.out (fun m hm => by
   have q : m.t ∈ tks ms := by rw [P2.out, ← q2]; exact List.mem_map.2 ⟨m, hm, rfl⟩
   obtain ⟨m', h1, h2⟩ := List.mem_map.1 q
   rw [← h2]
   exact KM.out m' h1))
  obtain ⟨n1, h1⟩ : ∃ n, ls.length = n := ⟨_, rfl⟩
  obtain ⟨n2, h2⟩ : ∃ n, ms.length = n := ⟨_, rfl⟩
  obtain ⟨n3, h3⟩ : ∃ n, gl.length = n := ⟨_, rfl⟩
  obtain ⟨n4, h4⟩ : ∃ n, gk.length = n := ⟨_, rfl⟩
  unfold PDt.cells at CS
  dsimp only at CS
  rw [h1, h2, h3, h4] at PP CZ CS
  rw [h1] at m1
  rw [h2] at m2
  rw [h3] at m3
  rw [h4] at m4
  try rw [h1, h2, h3, h4]
  rw [h1, h2, h3, h4] at hw6
  try rw [hw6]
  clear h1 h2 h3 h4
  go_upto_region 6 with fail
  try rw [hw6]
  refine wp_region_held_drew (S := fun u => Below w6.heap.size w6 u) (by kernel_rfl) ((Below.refl w6.heap.size w6).drew) (fun S0 => ?_)
  refine tkH 0 ?_ rfl (by kernel_rfl) rfl ?_ S0 ?_
  rotate_left
  ·intro u hu;obtain ⟨y0, y1, y2, y3⟩ := four12 (blk_keep PP.out hu);go_simp;try rfl
  try simp only [Act.put, pS]
  refine tkH 1 ?_ rfl (by kernel_rfl) rfl ?_ S0 ?_
  rotate_left
  ·intro u hu;obtain ⟨y0, y1⟩ := two_cells (blk_keep GA.out hu);go_simp;try rfl
  try simp only [Act.put, pS]
  refine tkH 2 ?_ rfl (by kernel_rfl) rfl ?_ S0 ?_
  rotate_left
  ·intro u hu;obtain ⟨y0, y1⟩ := two_cells (blk_keep GB.out hu);go_simp;try rfl
  try simp only [Act.put, pS]
  refine anyH_one9 (i := 3) (by kernel_rfl) rfl (fun K hK => ?_)
  go_simp
  refine (CD.out _ S0).mono ?_
  rintro e wa ⟨q, rfl, hq, q1, q2, q3, q4, ha⟩
  have S1 := S0.trans (ha.mono S0.size)
  have CS2 := hid (CS.out wa q S1 hq q1 q2 q3 q4)
  clear ha hq q1 q2 q3 q4
  refine hK _ _ S1 ?_
  clear hK K S0
  have S0 := S1
  clear S1
  try simp only [Act.put, pS]
  refine anyH_one9 (i := 4) (by kernel_rfl) rfl (fun K hK => ?_)
  go_simp
  refine CS2.out.mono ?_
  rintro e wb ⟨rfl, hb⟩
  have S1 := S0.trans (hb.mono S0.size)
  clear hb
  refine hK _ _ S1 ?_
  clear hK K S0
  have S0 := S1
  clear S1
  try simp only [Act.put, pS]
  refine tkH 5 ?_ rfl (by kernel_rfl) rfl ?_ S0 ?_
  rotate_left
  ·intro u hu;skip;go_simp;try rfl
  try simp only [Act.put, pS]
  refine tkH 6 ?_ rfl (by kernel_rfl) rfl ?_ S0 ?_
  rotate_left
  ·intro u hu;obtain ⟨y0, y1, y2, y3⟩ := four12 (blk_keep PP.out hu);go_simp;try rfl
  try simp only [Act.put, pS]
  refine tkH 8 ?_ rfl (by kernel_rfl) rfl ?_ S0 ?_
  rotate_left
  ·intro u hu;obtain ⟨y0, y1, y2, y3⟩ := four12 (blk_keep PP.out hu);go_simp;try rfl
  try simp only [Act.put, pS]
  refine tkH 9 ?_ rfl (by kernel_rfl) rfl ?_ S0 ?_
  rotate_left
  ·intro u hu;obtain ⟨y0, y1, y2, y3⟩ := four12 (blk_keep PP.out hu);go_simp;try rfl
  try simp only [Act.put, pS]
  refine tkH 10 ?_ rfl (by kernel_rfl) rfl ?_ S0 ?_
  rotate_left
  ·intro u hu;obtain ⟨y0, y1, y2, y3⟩ := four12 (blk_keep PP.out hu);go_simp;try rfl
  try simp only [Act.put, pS]
  refine tkH 11 ?_ rfl (by kernel_rfl) rfl ?_ S0 ?_
  rotate_left
  ·intro u hu;obtain ⟨y0, y1, y2, y3⟩ := four12 (blk_keep PP.out hu);go_simp;try rfl
  try simp only [Act.put, pS]
  refine tkH 12 ?_ rfl (by kernel_rfl) rfl ?_ S0 ?_
  rotate_left
  ·intro u hu;obtain ⟨y0, y1, y2, y3⟩ := four12 (blk_keep PP.out hu);go_simp;try rfl
  try simp only [Act.put, pS]
  refine tkH 13 ?_ rfl (by kernel_rfl) rfl ?_ S0 ?_
  rotate_left
  ·intro u hu;obtain ⟨y0, y1, y2, y3⟩ := four12 (blk_keep PP.out hu);go_simp;try rfl
  try simp only [Act.put, pS]
  refine tkH 14 ?_ rfl (by kernel_rfl) rfl ?_ S0 ?_
  rotate_left
  ·intro u hu;obtain ⟨y0, y1, y2, y3⟩ := four12 (blk_keep PP.out hu);go_simp;try rfl
  try simp only [Act.put, pS]
  refine tkH 15 ?_ rfl (by kernel_rfl) rfl ?_ S0 ?_
  rotate_left
  ·intro u hu;obtain ⟨y0, y1, y2, y3⟩ := four12 (blk_keep PP.out hu);go_simp;try rfl
  try simp only [Act.put, pS]
  refine tkH 16 ?_ rfl (by kernel_rfl) rfl ?_ S0 ?_
  rotate_left
  ·intro u hu;obtain ⟨y0, y1, y2, y3⟩ := four12 (blk_keep PP.out hu);go_simp;try rfl
  try simp only [Act.put, pS]
  refine tkH 17 ?_ rfl (by kernel_rfl) rfl ?_ S0 ?_
  rotate_left
  ·intro u hu;obtain ⟨y0, y1, y2, y3⟩ := four12 (blk_keep PP.out hu);go_simp;try rfl
  try simp only [Act.put, pS]
  refine tkH 18 ?_ rfl (by kernel_rfl) rfl ?_ S0 ?_
  rotate_left
  ·intro u hu;obtain ⟨y0, y1, y2, y3⟩ := four12 (blk_keep PP.out hu);go_simp;try rfl
  try simp only [Act.put, pS]
  refine tkH 19 ?_ rfl (by kernel_rfl) rfl ?_ S0 ?_
  rotate_left
  ·intro u hu;obtain ⟨y0, y1, y2, y3⟩ := four12 (blk_keep PP.out hu);go_simp;try rfl
  try simp only [Act.put, pS]
  refine tkH 20 ?_ rfl (by kernel_rfl) rfl ?_ S0 ?_
  rotate_left
  ·intro u hu;obtain ⟨y0, y1, y2, y3⟩ := four12 (blk_keep PP.out hu);go_simp;try rfl
  try simp only [Act.put, pS]
  refine tkH 21 ?_ rfl (by kernel_rfl) rfl ?_ S0 ?_
  rotate_left
  ·intro u hu;obtain ⟨y0, y1, y2, y3⟩ := four12 (blk_keep PP.out hu);go_simp;try rfl
  try simp only [Act.put, pS]
  refine tkH 22 ?_ rfl (by kernel_rfl) rfl ?_ S0 ?_
  rotate_left
  ·intro u hu;obtain ⟨y0, y1, y2, y3⟩ := four12 (blk_keep PP.out hu);go_simp;try rfl
  try simp only [Act.put, pS]
  refine anyH_one9 (i := 7) (by kernel_rfl) rfl (fun K hK => ?_)
  go_simp
  refine (CZ.out _).mono ?_
  rintro e wc ⟨rfl, hc⟩
  have S1 := S0.trans (hc.mono S0.size)
  clear hc
  refine hK _ _ S1 ?_
  clear hK K S0
  have S0 := S1
  clear S1
  try simp only [Act.put, pS]
  refine tkH 23 ?_ rfl (by kernel_rfl) rfl ?_ S0 ?_
  rotate_left
  ·intro u hu;skip;go_simp;try rfl
  try simp only [Act.put, pS]
  refine tkH 24 ?_ rfl (by kernel_rfl) rfl ?_ S0 ?_
  rotate_left
  ·intro u hu;skip;go_simp;try rfl
  try simp only [Act.put, pS]
  refine tkH 25 ?_ rfl (by kernel_rfl) rfl ?_ S0 ?_
  rotate_left
  ·intro u hu;skip;go_simp;try rfl
  try simp only [Act.put, pS]
  refine wpAnyH_done (by kernel_rfl) ?_ _
  go_wp2
  go_ret
  refine ⟨ret_bool ?_, B6.out.trans (S0.mono B6.out.size)⟩
  rw [wrap12 (x := (n1 : Int) + n2) (by omega) (by omega), wrap12 (x := (n1 : Int) + n2 + n3) (by omega) (by omega), wrap12 (x := (n1 : Int) + n2 + n3 + n4) (by omega) (by omega)]
  exact beq_self_eq_true _
end
end
end Go.Proofs.YtpphmbfghfmdlaaGreat
