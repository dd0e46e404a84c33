import Derived.Test.YtnhpkcphgdkdiaaGreatZ29
import Derived.Test.YtnhpkcphgdkdiaaGreatZ44
namespace Go.Proofs.YtnhpkcphgdkdiaaGreat
set_option linter.unusedSimpArgs false
set_option maxRecDepth 100000
section
set_option linter.unusedSimpArgs false
section
open Go.RowKit Go.Lib Go.Shelf
theorem res_map {α β : Type} (f : α → β) {g : α → Nat} {g' : β → Nat} (hg : ∀ x, g x = g' (f x)) (ls : List α) (gs : List Nat) (ps : List α) (k : Nat) : resN g' (ls.map f) gs (ps.map f) k = (resN g ls gs ps k).map f := by
 unfold resN minN
 rw [first_map f hg, first_map f hg]
 cases firstN g ps k with
 | none => simp only [Option.map_none, Option.isSome_none, Bool.false_eq_true, if_false]; by_cases e : k ∈ gs <;> simp [e]
 | some x => simp
theorem told_map {ms ps rs : List MTk} {gs : List Nat} (h : Told idK (resN idK ms gs ps) rs) : Told T9.Tk.id (resN T9.Tk.id (tks ms) gs (tks ps)) (tks rs) := by
 refine ⟨List.pairwise_map.2 h.srt, fun k => ?_⟩
 have q1 := first_map MTk.t (g := idK) (g' := T9.Tk.id) (fun _ => rfl) rs k
 have q2 := res_map MTk.t (g := idK) (g' := T9.Tk.id) (fun _ => rfl) ms gs ps k
 exact q1.trans ((congrArg (Option.map MTk.t) (h.fst k)).trans q2.symm)
theorem bl12e (A A2 : Option Addr) (n c n2 c2 : Nat) (w : World) : (Instr.build 25 #[(0, .slice A n c), (1, .slice A2 n2 c2)]).run Tryz.prog w = .ok (.agg #[.slice A n c, .slice A2 n2 c2]) w := run_build w 25 _ _ (by kernel_rfl)
theorem first_self12 {α : Type} {g : α → Nat} {ls : List α} (h : ls.Pairwise (fun x y => g x < g y)) {m : α} (hm : m ∈ ls) : firstN g ls (g m) = some m := by
 obtain ⟨i, hi, e⟩ := List.getElem_of_mem hm
 have hx : ls[i]? = some m := by rw [List.getElem?_eq_getElem hi, e]
 exact find_hit (first_prior h i m hx) hx (by simp)
def ApOk (s : T9.St) (p : PDt) (w : World) (e : Ending) (w' : World) : Prop := ∃ m : MSt, e = .returned (.tuple #[m.val, .int .i64 0]) ∧ TS m w' ∧ Told idL (resN idL s.lists p.gl p.ls) m.ls ∧ Told T9.Tk.id (resN T9.Tk.id s.tasks p.gk (tks p.ms)) (tks m.ms) ∧ Below w.heap.size w w'
set_option maxHeartbeats 8000000 in
theorem apply12_c {a : MSt} {p : PDt} {w : World} (ha : SM a w) (la : a.st.light) (oa : a.st.ok) (hp : TPd p w) (b1 : p.ls.length ≤ 1000) (b2 : p.ms.length ≤ 1000) (b3 : p.gl.length ≤ 1000) (b4 : p.gk.length ≤ 1000) (bt : ∀ m ∈ p.ms, m.t.tags.length ≤ 1000)
  (il : ∀ l ∈ p.ls, l.id < 18446744073709551616) (ik : ∀ m ∈ p.ms, m.t.id < 18446744073709551616) (dl : p.gl.Nodup) (dk : p.gk.Nodup) (tl : ∀ n ∈ p.gl, ∃ y, firstN idL (T9.canon a.st).lists n = some y) (tk : ∀ n ∈ p.gk, ∃ y, firstN T9.Tk.id (T9.canon a.st).tasks n = some y)
  (hR : ∀ ls ts, Told idL (resN idL (T9.canon a.st).lists p.gl p.ls) ls → Told T9.Tk.id (resN T9.Tk.id (T9.canon a.st).tasks p.gk (tks p.ms)) ts → T9.rightE ⟨ls, ts⟩ = 0 ∧ (⟨ls, ts⟩ : T9.St).short) :
  Calls Tryz.prog 9 #[a.val, .agg p.cells] w (ApOk (T9.canon a.st) p w) := by
 obtain ⟨pls, A, c, pms, A2, c2, pgl, A3, c3, pgk, A4, c4⟩ := p
 dsimp only at b1 b2 b3 b4 bt il ik dl dk tl tk hR
 obtain ⟨n1, h1⟩ : ∃ n, pls.length = n := ⟨_, rfl⟩
 obtain ⟨n2, h2⟩ : ∃ n, pms.length = n := ⟨_, rfl⟩
 obtain ⟨n3, h3⟩ : ∃ n, pgl.length = n := ⟨_, rfl⟩
 obtain ⟨n4, h4⟩ : ∃ n, pgk.length = n := ⟨_, rfl⟩
 unfold PDt.cells
 dsimp only
 rw [h1, h2, h3, h4]
 obtain ⟨w1, hw1⟩ : ∃ u, w.alloc (.cells #[.slice a.A a.ls.length a.c, .slice a.A2 a.ms.length a.c2] 25) = u := ⟨_, rfl⟩
 obtain ⟨pa, e1, z1⟩ := new_two hw1
 obtain ⟨w2, hw2⟩ : ∃ u, w1.alloc (.cells #[.slice A n1 c, .slice A2 n2 c2, .slice A3 n3 c3, .slice A4 n4 c4] 45) = u := ⟨_, rfl⟩
 have e2 : Below w1.heap.size w1 w2 := by rw [← hw2]; exact (Below.refl _ _).alloc (Nat.le_refl _) _
 have pb : w2.heap[w1.heap.size]? = some (.cells #[.slice A n1 c, .slice A2 n2 c2, .slice A3 n3 c3, .slice A4 n4 c4] 45 (0, 0)) := by rw [← hw2]; exact World.alloc_heap_new w1 _
 have z2 : w2.heap.size = w1.heap.size + 1 := by rw [← hw2]; simp
 obtain ⟨w3, hw3⟩ : ∃ u, w2.alloc (.cells #[.slice none 0 0, .slice none 0 0] 25) = u := ⟨_, rfl⟩
 obtain ⟨pc, e3, z3⟩ := new_two hw3
 have y2 : w2.heap.size = w.heap.size + 2 := by omega
 have y3 : w3.heap.size = w.heap.size + 3 := by omega
 clear z2 z3
 rw [z1] at pb
 rw [y2] at pc
 have B3 : Hid (Below w.heap.size w w3) := hid ((e1.trans (e2.mono (by omega))).trans (e3.mono (by omega)))
 have ga := (e3.block w.heap.size (by omega)).trans ((e2.block w.heap.size (by omega)).trans pa)
 have PA := hid ga
 have PP := hid ((e3.block (w.heap.size + 1) (by omega)).trans pb)
 have PC := hid pc
 have Y3 := hid y3
 have CA := hid (canonTS_c (ha.stay B3.out) la)
 unfold MSt.val at CA
 have TP3 := hid (hp.stay B3.out)
 have LA := hid (c12_light la)
 have OA := hid (c12_ok oa)
 have BT := hid bt
 have IL := hid il
 have IK := hid ik
 have DL := hid dl
 have DK := hid dk
 have TL := hid tl
 have TK := hid tk
 have HR := hid hR
 have H1 := hid h1
 have H2 := hid h2
 have H3 := hid h3
 have H4 := hid h4
 rw [h1] at b1
 rw [h2] at b2
 rw [h3] at b3
 rw [h4] at b4
 obtain ⟨x0, x1⟩ := two_cells ga
 clear ha la oa hp bt il ik dl dk tl tk hR pa pb pc e1 e2 e3 ga h1 h2 h3 h4
 show Calls Tryz.prog 9 #[.agg #[.slice a.A a.ls.length a.c, .slice a.A2 a.ms.length a.c2], .agg #[.slice A n1 c, .slice A2 n2 c2, .slice A3 n3 c3, .slice A4 n4 c4]] w _
 go_enter Tryz.func9, Tryz.ntmps9
 go_upto_region 2 with (go_at_call 17; refine CA.out.mono ?_; rintro e w4 ⟨sa, rfl, hta, hsa, hba⟩; have TA := hid hta; have QA := hid hsa; have ga4 := blk_keep PA.out hba; have f0 := blk_free ga4 0; have f1 := blk_free ga4 1; have GA4 := hid ga4; have PP4 := hid (blk_keep PP.out hba); have PC4 := hid (blk_keep PC.out hba); have TP4 := hid (TP3.out.stay hba); have B4 : Hid (Below w.heap.size w w4) := hid (B3.out.trans (hba.mono B3.out.size)); obtain ⟨q0, q1⟩ := two_cells ga4; clear hta hsa hba ga4 x0 x1)
 obtain ⟨w5, hw5⟩ : ∃ u, (w4.setCell ⟨w.heap.size, 0, none⟩ (.slice sa.A sa.ls.length sa.c)).setCell ⟨w.heap.size, 1, none⟩ (.slice sa.A2 sa.ms.length sa.c2) = u := ⟨_, rfl⟩
 try rw [hw5]
 obtain ⟨t5, ga5, k5, be5⟩ := st_set GA4.out hw5
 have GA5 := hid ga5
 have PP5 := hid ((k5 (w.heap.size + 1) (by omega)).trans PP4.out)
 have PC5 := hid ((k5 (w.heap.size + 2) (by omega)).trans PC4.out)
 have TA5 := hid (TA.out.tch t5 (by decide) (by decide) (by decide))
 have TP5 := hid (TP4.out.tch t5 (by decide) (by decide) (by decide) (by decide))
 have B5 : Hid (Below w.heap.size w w5) := hid (B4.out.trans (be5 _ (Nat.le_refl _)))
 have EA1 : sa.ls = (T9.canon a.st).lists := congrArg T9.St.lists QA.out
 have EA2 : tks sa.ms = (T9.canon a.st).tasks := congrArg T9.St.tasks QA.out
 have NA1 : sa.ls.length ≤ 25 := by rw [EA1]; exact LA.out.nl
 have NA2 : sa.ms.length ≤ 70 := by rw [← tks_len, EA2]; exact LA.out.nt
 have CT := hid (trnL_c (c1 := sa.c) (c2 := c3) (c3 := c) TA5.out.sm.l TP5.out.g TP5.out.l.old rfl H3.out.symm H1.out.symm (by omega) b3 b1 (fun l hl => OA.out.1 l (by rw [← EA1]; exact hl)) IL.out DL.out (fun n hn => by rw [EA1]; exact TL.out n hn))
 have E1 := hid EA1
 have E2 := hid EA2
 have OK2 : Hid (∀ m ∈ sa.ms, idK m < 18446744073709551616) := hid (fun m hm => (OA.out.2 m.t (by rw [← EA2]; exact List.mem_map.2 ⟨m, hm, rfl⟩)).1)
 have TK2 : Hid (∀ n ∈ pgk, ∃ y, firstN idK sa.ms n = some y) := hid (fun n hn => by
  obtain ⟨y, hy⟩ := TK.out n hn
  rw [← EA2] at hy
  have q := (first_map MTk.t (g := idK) (g' := T9.Tk.id) (fun _ => rfl) sa.ms n).symm.trans hy
  obtain ⟨x, hx, _⟩ := Option.map_eq_some_iff.1 q
  exact ⟨x, hx⟩)
 obtain ⟨x0, x1⟩ := two_cells GA5.out
 obtain ⟨y0, y1, y2, y3⟩ := four12 PP5.out
 clear t5 ga5 k5 be5 f0 f1 q0 q1 hw5 EA1 EA2 GA4 PP4 PC4 TA TP4 B4 PA PP PC TP3
 go_upto_region 3 with (go_at_call 18; refine CT.out.mono ?_; rintro e w6 ⟨R1, rc1, rl, rfl, ht6, hl6, hc6, hb6⟩; have T6 := hid ht6; have L6 := hid hl6; have C6 := hid hc6; have HB6 := hid hb6; clear ht6 hl6 hc6 hb6)
 have GA := hid (blk_keep GA5.out HB6.out)
 have GP := hid (blk_keep PP5.out HB6.out)
 have PC6 := hid (blk_keep PC5.out HB6.out)
 have TA6 := hid (TA5.out.stay HB6.out)
 have TP6 := hid (TP5.out.stay HB6.out)
 have B6 : Hid (Below w.heap.size w w6) := hid (B5.out.trans (HB6.out.mono B5.out.size))
 have ZC : Hid (w.heap.size + 2 < w6.heap.size) := hid (lt_of_block PC6.out)
 have CO := hid (own12_c (c := c2) (⟨TP6.out.k.old, fun m hm => ⟨(TP6.out.t m hm).1.old, (TP6.out.t m hm).2⟩⟩ : KL w6.drew A2 pms) H2.out.symm b2 BT.out)
 clear x0 x1 y0 y1 y2 y3 CT GA5 PP5 PC5 TA5 TP5 B5
 refine wp_region_held_drew (S := fun u => Below w6.heap.size w6 u) (by kernel_rfl) ((Below.refl w6.heap.size w6).drew) (fun S0 => ?_)
 refine tkH 0 ?_ rfl (by kernel_rfl) rfl ?_ S0 ?_
 rotate_left
 ·intro u hu;skip;go_simp;try rfl
 try simp only [Act.put, pS]
 refine tkH 1 ?_ rfl (by kernel_rfl) rfl ?_ S0 ?_
 rotate_left
 ·intro u hu;obtain ⟨y0, y1⟩ := two_cells (blk_keep GA.out hu);go_simp;try rfl
 try simp only [Act.put, pS]
 refine tkH 2 ?_ rfl (by kernel_rfl) rfl ?_ S0 ?_
 rotate_left
 ·intro u hu;skip;go_simp;try rfl
 try simp only [Act.put, pS]
 refine tkH 3 ?_ rfl (by kernel_rfl) rfl ?_ S0 ?_
 rotate_left
 ·intro u hu;obtain ⟨y0, y1, y2, y3⟩ := four12 (blk_keep GP.out hu);go_simp;try rfl
 try simp only [Act.put, pS]
 refine tkH 4 ?_ rfl (by kernel_rfl) rfl ?_ S0 ?_
 rotate_left
 ·intro u hu;skip;go_simp;try rfl
 try simp only [Act.put, pS]
 refine tkH 5 ?_ rfl (by kernel_rfl) rfl ?_ S0 ?_
 rotate_left
 ·intro u hu;obtain ⟨y0, y1, y2, y3⟩ := four12 (blk_keep GP.out hu);go_simp;try rfl
 try simp only [Act.put, pS]
 refine anyH_one9 (i := 6) (by kernel_rfl) rfl (fun K hK => ?_)
 go_simp
 refine CO.out.mono ?_
 rintro e w7 ⟨O1, oc, qs, rfl, hq7, hl7, ht7, hc7, hb7⟩
 have S1 : Below w6.heap.size w6 w7 := S0.trans (hb7.mono S0.size)
 have K7 : KL w7 O1 qs := ⟨hl7.old, fun m hm => ⟨(ht7 m hm).1.old, (ht7 m hm).2⟩⟩
 have NQ : qs.length = n2 := by rw [← tks_len, hq7, tks_len]; exact H2.out
 have CT := hid (trnK_c (c1 := sa.c2) (c2 := c4) (c3 := oc) (TA6.out.sm.stay S1).k (TP6.out.stay S1).h K7 rfl H4.out.symm rfl (by omega) b4 (by rw [NQ]; exact b2) OK2.out (fun m hm => by
  have q : m.t ∈ tks pms := by rw [← hq7]; exact List.mem_map.2 ⟨m, hm, rfl⟩
  obtain ⟨m', r1, r2⟩ := List.mem_map.1 q
  show m.t.id < _
  rw [← r2]
  exact IK.out m' r1) DK.out TK2.out)
 have HQ7 := hid hq7
 have TQ7 := hid ht7
 clear hq7 hl7 ht7 hc7 hb7 K7 NQ
 refine hK _ _ S1 ?_
 clear hK K S0
 have S0 := S1
 clear S1
 try simp only [Act.put, pS]
 refine anyH_one9 (i := 7) (by kernel_rfl) rfl (fun K hK => ?_)
 go_simp
 refine CT.out.mono ?_
 rintro e w8 ⟨R2, rc2, rk, rfl, ht8, hl8, hc8, hb8⟩
 have S1 : Below w6.heap.size w6 w8 := S0.trans (hb8.mono S0.size)
 have T8 := hid ht8
 have L8 := hid hl8
 have C8 := hid hc8
 have TQ8 := hid (fun m hm => (show Lies w8 0 9 m.A (gcells m.t.tags) ∧ m.t.tags.length ≤ m.c from ⟨(TQ7.out m hm).1.tch (Tch.of_below (B := 0) hb8 (Nat.zero_le _) []) (by simp), (TQ7.out m hm).2⟩))
 clear ht8 hl8 hc8 hb8
 refine hK _ _ S1 ?_
 clear hK K S0
 have S0 := S1
 clear S1
 try simp only [Act.put, pS]
 refine tkH 8 ?_ rfl (by kernel_rfl) rfl ?_ S0 ?_
 rotate_left
 ·intro u hu;skip;go_simp;try rfl
 try simp only [Act.put, pS]
 refine tkH 9 ?_ rfl (by kernel_rfl) rfl ?_ S0 ?_
 rotate_left
 ·intro u hu;skip;go_simp;try rfl
 try simp only [Act.put, pS]
 refine tkH 10 ?_ rfl (by kernel_rfl) rfl ?_ S0 ?_
 rotate_left
 ·intro u hu;skip;go_simp;try rfl
 try simp only [Act.put, pS]
 refine tkH 11 ?_ rfl (by kernel_rfl) rfl ?_ S0 ?_
 rotate_left
 ·intro u hu;skip;go_simp;try rfl
 try simp only [Act.put, pS]
 refine tkH 12 ?_ rfl (by kernel_rfl) rfl ?_ S0 ?_
 rotate_left
 ·intro u hu;skip;go_simp;try rfl
 try simp only [Act.put, pS]
 refine wpAnyH_done (by kernel_rfl) ?_ _
 have S8 := hid S0
 have TT := told_map T8.out
 rw [E2.out] at TT
 have T6' := T6.out
 rw [E1.out] at T6'
 rw [HQ7.out] at TT
 obtain ⟨RE, RS⟩ := HR.out rl (tks rk) T6' TT
 have TT8 := hid TT
 have TT6 := hid T6'
 obtain ⟨nl, hnl⟩ : ∃ n, rl.length = n := ⟨_, rfl⟩
 obtain ⟨nk, hnk⟩ : ∃ n, rk.length = n := ⟨_, rfl⟩
 have LL8 : LL w8 R1 rl := (L6.out.tch (Tch.of_below (B := 0) S8.out (Nat.zero_le _) []) (by simp)).old
 have KK8 : KL w8 R2 rk := ⟨L8.out.old, fun m hm => by
  have q := (T8.out.fst (idK m)).symm.trans (first_self12 T8.out.srt hm)
  rcases res_mem q with r | r
  ·exact (TA6.out.sm.k.2 m r).stay S8.out
  ·exact ⟨(TQ8.out m r).1.old, (TQ8.out m r).2⟩⟩
 have BW8 : Hid (Below w.heap.size w w8) := hid (B6.out.trans (S8.out.mono B6.out.size))
 have PC8 := hid (blk_keep PC6.out S8.out)
 try rw [hnl]
 try rw [hnk]
 have C6' : nl ≤ rc1 := by rw [← hnl]; exact C6.out
 have C8' : nk ≤ rc2 := by rw [← hnk]; exact C8.out
 obtain ⟨w9, hw9⟩ : ∃ u, w8.alloc (.cells #[.slice R1 nl rc1, .slice R2 nk rc2] 25) = u := ⟨_, rfl⟩
 obtain ⟨p9, b9, z9⟩ := new_two hw9
 have CR := hid (right_c (c := rc1) (c2 := rc2) (LL8.stay b9) (KK8.stay b9) hnl.symm hnk.symm RS ⟨C6', C8'⟩)
 rw [RE] at CR
 have HL8 := hid LL8
 have HK8 := hid KK8
 have HN1 := hid hnl
 have HN2 := hid hnk
 have P9 := hid p9
 have B9 := hid b9
 obtain ⟨s0, s1⟩ := two_cells p9
 have bl := bl12e
 clear TT T6' RE RS LL8 KK8 hnl hnk p9 b9
 go_upto_region 10 with (go_at_call 6; refine CR.out.mono ?_; rintro e wb ⟨rfl, hbb⟩; have BB := hid hbb; have pcb := blk_keep (blk_keep PC8.out B9.out) hbb; have PCB := hid pcb; obtain ⟨m0, m1⟩ := two_cells (blk_keep P9.out hbb); obtain ⟨v0, v1⟩ := two_cells pcb; have f0 := blk_free pcb 0; have f1 := blk_free pcb 1; clear hbb pcb s0 s1)
 obtain ⟨wz, hwz⟩ : ∃ u, (wb.setCell ⟨w.heap.size + 2, 0, none⟩ (.slice R1 nl rc1)).setCell ⟨w.heap.size + 2, 1, none⟩ (.slice R2 nk rc2) = u := ⟨_, rfl⟩
 obtain ⟨tz, gz, _, ez⟩ := st_set PCB.out hwz
 obtain ⟨u0, u1⟩ := two_cells gz
 have DB : Hid (Below w8.heap.size w8 wb) := hid (B9.out.trans (BB.out.mono B9.out.size))
 have TZ := hid tz
 have EZ := hid (ez w.heap.size (by omega))
 clear tz gz ez
 go_wp2
 try rw [hwz]
 refine bodyPost_ret (v := .tuple #[.agg #[.slice R1 nl rc1, .slice R2 nk rc2], .int .i64 0]) (by simp [results, Tryz.results9, go_sem, u0, u1]) rfl ?_
 have lift : ∀ {t : TypeId} {A : Option Addr} {xs : List Value}, Lies w8 0 t A xs → t ∉ [25] → Lies wz 0 t A xs := fun h ht => (h.tch (Tch.of_below (B := 0) DB.out (Nat.zero_le _) []) (by simp)).tch TZ.out ht
 refine ⟨⟨rl, R1, rc1, rk, R2, rc2⟩, by rw [← HN1.out, ← HN2.out]; rfl, ⟨lift (L6.out.tch (Tch.of_below (B := 0) S8.out (Nat.zero_le _) []) (by simp)) (by decide), lift L8.out (by decide), fun m hm => ?_, C6.out, C8.out⟩, TT6.out, TT8.out, (BW8.out.trans (DB.out.mono BW8.out.size)).trans EZ.out⟩
 have q := (T8.out.fst (idK m)).symm.trans (first_self12 T8.out.srt hm)
 rcases res_mem q with r | r
 ·exact ⟨lift ((TA6.out.t m r).1.tch (Tch.of_below (B := 0) S8.out (Nat.zero_le _) []) (by simp)) (by decide), (TA6.out.t m r).2⟩
 ·exact ⟨lift (TQ8.out m r).1 (by decide), (TQ8.out m r).2⟩
end
end
end Go.Proofs.YtnhpkcphgdkdiaaGreat
