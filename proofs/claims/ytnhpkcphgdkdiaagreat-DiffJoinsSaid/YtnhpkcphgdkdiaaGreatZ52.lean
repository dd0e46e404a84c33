import Derived.Test.YtnhpkcphgdkdiaaGreatZ29
import Derived.Test.YtnhpkcphgdkdiaaGreatZ51
namespace Go.Proofs.YtnhpkcphgdkdiaaGreat
set_option linter.unusedSimpArgs false
set_option maxRecDepth 100000
section
set_option linter.unusedSimpArgs false
section
open Go.RowKit Go.Lib Go.Shelf
theorem gone_id12 {α : Type} {g : α → Nat} {os ns : List α} {n : Nat} (h : n ∈ gone g os ns) : ∃ x ∈ os, g x = n := by
 unfold gone at h
 obtain ⟨x, hx, e⟩ := List.mem_map.1 h
 exact ⟨x, (List.mem_filter.1 hx).1, e⟩
theorem ofJoin_c {a b c : T9.St} {p q : PDt} {v : World} (la : a.light) (lb : b.light) (lc : c.light) (oa : a.ok) (ob : b.ok) (oc : c.ok) (hp : TPd p v) (hq : TPd q v)
  (p1 : p.ls = newL a b) (p2 : tks p.ms = newK a b) (p3 : p.gl = goneL a b) (p4 : p.gk = goneK a b) (q1 : q.ls = newL b c) (q2 : tks q.ms = newK b c) (q3 : q.gl = goneL b c) (q4 : q.gk = goneK b c) :
  Calls Tryz.prog 10 #[.agg p.cells, .agg q.cells] v (JnOk p q v) := by
 have mp : ∀ m ∈ p.ms, m.t ∈ b.tasks := fun m hm => by
  have q : m.t ∈ tks p.ms := List.mem_map.2 ⟨m, hm, rfl⟩
  rw [p2] at q
  exact news_mem q
 have mq : ∀ m ∈ q.ms, m.t ∈ c.tasks := fun m hm => by
  have r : m.t ∈ tks q.ms := List.mem_map.2 ⟨m, hm, rfl⟩
  rw [q2] at r
  exact news_mem r
 have a1 := la.nl
 have a2 := la.nt
 have b1 := lb.nl
 have b2 := lb.nt
 have c1 := lc.nl
 have c2 := lc.nt
 have m1 : p.ls.length ≤ 25 := by rw [p1]; exact Nat.le_trans news_len b1
 have m2 : p.ms.length ≤ 70 := by rw [← tks_len, p2]; exact Nat.le_trans news_len b2
 have m3 : p.gl.length ≤ 25 := by rw [p3]; exact Nat.le_trans gone_len a1
 have m4 : p.gk.length ≤ 70 := by rw [p4]; exact Nat.le_trans gone_len a2
 have n1 : q.ls.length ≤ 25 := by rw [q1]; exact Nat.le_trans news_len c1
 have n2 : q.ms.length ≤ 70 := by rw [← tks_len, q2]; exact Nat.le_trans news_len c2
 have n3 : q.gl.length ≤ 25 := by rw [q3]; exact Nat.le_trans gone_len b1
 have n4 : q.gk.length ≤ 70 := by rw [q4]; exact Nat.le_trans gone_len b2
 exact join12_c hp hq (by omega) (by omega) (by omega) (by omega) (by omega) (by omega) (by omega) (by omega)
  (fun m hm => by have := lb.few m.t (mp m hm); omega) (fun m hm => by have := lc.few m.t (mq m hm); omega)
  (fun l hl => by rw [p1] at hl; exact ob.1 l (news_mem hl)) (fun m hm => (ob.2 m.t (mp m hm)).1)
  (fun x hx => by rw [p3] at hx; obtain ⟨y, hy, rfl⟩ := gone_id12 hx; exact oa.1 y hy) (fun x hx => by rw [p4] at hx; obtain ⟨y, hy, rfl⟩ := gone_id12 hx; exact (oa.2 y hy).1)
  (fun l hl => by rw [q1] at hl; exact oc.1 l (news_mem hl)) (fun m hm => (oc.2 m.t (mq m hm)).1)
  (fun x hx => by rw [q3] at hx; obtain ⟨y, hy, rfl⟩ := gone_id12 hx; exact ob.1 y hy) (fun x hx => by rw [q4] at hx; obtain ⟨y, hy, rfl⟩ := gone_id12 hx; exact (ob.2 y hy).1)
theorem findL_two (ls : List T9.Li) (x : Nat) : (T9.findL ls x).2 = (firstN idL ls x).isSome := by
 unfold T9.findL firstN idL
 cases List.find? (fun l => l.id == x) ls <;> rfl
theorem findK_two (ts : List T9.Tk) (x : Nat) : (T9.findK ts x).2 = (firstN T9.Tk.id ts x).isSome := by
 unfold T9.findK firstN
 cases List.find? (fun l => l.id == x) ts <;> rfl
theorem refTaskE_c {A A2 : Option Addr} {n1 n2 c c2 : Nat} {ms : List MTk} {w : World} (hk : KL w A2 ms) (e2 : n2 = ms.length) (hs : n2 ≤ 1000000) (id : Nat) {b : Bool} (hb : (T9.findK (tks ms) id).2 = b) :
  Calls Tryz.prog 8 #[.agg #[.slice A n1 c, .slice A2 n2 c2], .int .u64 (id : Int)] w fun e w' => ∃ (ai al : Nat) (at' : List UInt8) (ad : Bool) (ar ae : Nat) (aA : Option Addr) (an ac : Nat), e = .returned (.tuple #[.agg #[.int .u64 (ai : Int), .int .u64 (al : Int), .string (str at'), .bool ad, .float .f64 ar, .float .f64 ae, .slice aA an ac], .bool b]) ∧ Below w.heap.size w w' := by
 refine (refTask_c hk e2 hs id).mono ?_
 rintro e w' ⟨⟨⟨ai, al, at', ad, ar, ae, ag⟩, aA, ac⟩, rfl, _, _, h⟩
 subst hb
 exact ⟨ai, al, at', ad, ar, ae, aA, ag.length, ac, rfl, h⟩
set_option maxHeartbeats 8000000 in
theorem diffJoins_c {a b c : MSt} {w : World} (ha : SM a w) (oa : a.st.ok) (fa : a.far) (hb : SM b w) (ob : b.st.ok) (fb : b.far) (hc : SM c w) (oc : c.st.ok) (fc : c.far) :
  Calls Tryz.prog 3 #[a.val, b.val, c.val] w fun e w' => e = .returned (.bool true) ∧ Below w.heap.size w w' := by
 obtain ⟨u0, hu0⟩ : ∃ u, w.alloc (.cells #[.slice a.A a.ls.length a.c, .slice a.A2 a.ms.length a.c2] 25) = u := ⟨_, rfl⟩
 obtain ⟨pb0, be0, z0⟩ := new_two hu0
 obtain ⟨u1, hu1⟩ : ∃ u, u0.alloc (.cells #[.slice b.A b.ls.length b.c, .slice b.A2 b.ms.length b.c2] 25) = u := ⟨_, rfl⟩
 obtain ⟨pb1, be1, z1⟩ := new_two hu1
 obtain ⟨u2, hu2⟩ : ∃ u, u1.alloc (.cells #[.slice c.A c.ls.length c.c, .slice c.A2 c.ms.length c.c2] 25) = u := ⟨_, rfl⟩
 obtain ⟨pb2, be2, z2⟩ := new_two hu2
 rw [z0] at pb1 z1
 rw [z1] at pb2 z2
 have B1 : Hid (Below w.heap.size w u2) := hid ((be0.trans (be1.mono (by omega))).trans (be2.mono (by omega)))
 have GA := hid (blk_keep (blk_keep pb0 be1) be2)
 have GB := hid (blk_keep pb1 be2)
 have GC := hid pb2
 have SA := hid (ha.stay B1.out)
 have SB := hid (hb.stay B1.out)
 have SC := hid (hc.stay B1.out)
 have OA := hid oa
 have OB := hid ob
 have OC := hid oc
 have FA := hid fa
 have FB := hid fb
 have FC := hid fc
 have AW := hid (awake12_c u2)
 unfold MSt.val
 clear ha oa fa hb ob fb hc oc fc pb0 be0 pb1 be1 pb2 be2
 go_enter Tryz.func3, Tryz.ntmps3
 go_wp2_with fail
 refine AW.out.mono ?_
 rintro e v0 ⟨rfl, h2⟩
 have H0 : Hid (Below u2.heap.size u2 v0) := hid h2
 clear h2 AW
 obtain ⟨x0, x1⟩ := two_cells (blk_keep GA.out H0.out)
 have LSA := hid (light9_c (c := a.c) (c2 := a.c2) (SA.out.stay H0.out).l (SA.out.stay H0.out).k rfl rfl FA.out)
 go_wp2_with fail
 refine LSA.out.mono ?_
 rintro e v1 ⟨bb, rfl, hbb, h⟩
 have H1 : Hid (Below u2.heap.size u2 v1) := hid (H0.out.trans (h.mono H0.out.size))
 clear h x0 x1
 cases bb with
 | false =>
  clear hbb
  go_wp2_with fail
  go_ret
  exact ⟨rfl, B1.out.trans (H1.out.mono B1.out.size)⟩
 | true =>
 have LTA := hid (hbb rfl)
 clear hbb
 obtain ⟨x0, x1⟩ := two_cells (blk_keep GB.out H1.out)
 have LSB := hid (light9_c (c := b.c) (c2 := b.c2) (SB.out.stay H1.out).l (SB.out.stay H1.out).k rfl rfl FB.out)
 go_wp2_with fail
 refine LSB.out.mono ?_
 rintro e v2 ⟨bb, rfl, hbb, h⟩
 have H2 : Hid (Below u2.heap.size u2 v2) := hid (H1.out.trans (h.mono H1.out.size))
 clear h x0 x1
 cases bb with
 | false =>
  clear hbb
  go_wp2_with fail
  go_ret
  exact ⟨rfl, B1.out.trans (H2.out.mono B1.out.size)⟩
 | true =>
 have LTB := hid (hbb rfl)
 clear hbb
 obtain ⟨x0, x1⟩ := two_cells (blk_keep GC.out H2.out)
 have LSC := hid (light9_c (c := c.c) (c2 := c.c2) (SC.out.stay H2.out).l (SC.out.stay H2.out).k rfl rfl FC.out)
 go_wp2_with fail
 refine LSC.out.mono ?_
 rintro e v3 ⟨bb, rfl, hbb, h⟩
 have H3 : Hid (Below u2.heap.size u2 v3) := hid (H2.out.trans (h.mono H2.out.size))
 clear h x0 x1
 cases bb with
 | false =>
  clear hbb
  go_wp2_with fail
  go_ret
  exact ⟨rfl, B1.out.trans (H3.out.mono B1.out.size)⟩
 | true =>
 have LTC := hid (hbb rfl)
 clear hbb
 obtain ⟨x0, x1⟩ := two_cells (blk_keep GA.out H3.out)
 obtain ⟨ra, hra⟩ : ∃ r, T9.rightE a.st = r := ⟨_, rfl⟩
 have RA := hid hra
 have CRA : Hid (Calls Tryz.prog 6 #[.agg #[.slice a.A a.ls.length a.c, .slice a.A2 a.ms.length a.c2]] v3 fun e w' => e = .returned (.int .i64 ra) ∧ Below v3.heap.size v3 w') := hid (by rw [← RA.out]; exact right_c (SA.out.stay H3.out).l (SA.out.stay H3.out).k rfl rfl LTA.out.short ⟨SA.out.lc, SA.out.kc⟩)
 clear hra
 go_wp2_with fail
 refine CRA.out.mono ?_
 rintro e v4 ⟨rfl, h⟩
 have H4 : Hid (Below u2.heap.size u2 v4) := hid (H3.out.trans (h.mono H3.out.size))
 clear h x0 x1
 by_cases zq : ra = 0
 rotate_left
 ·have hez : (ra != 0) = true := by simp [zq]
  go_wp2_with fail
  go_ret
  exact ⟨rfl, B1.out.trans (H4.out.mono B1.out.size)⟩
 subst zq
 obtain ⟨x0, x1⟩ := two_cells (blk_keep GB.out H4.out)
 obtain ⟨rb, hrb⟩ : ∃ r, T9.rightE b.st = r := ⟨_, rfl⟩
 have RB := hid hrb
 have CRB : Hid (Calls Tryz.prog 6 #[.agg #[.slice b.A b.ls.length b.c, .slice b.A2 b.ms.length b.c2]] v4 fun e w' => e = .returned (.int .i64 rb) ∧ Below v4.heap.size v4 w') := hid (by rw [← RB.out]; exact right_c (SB.out.stay H4.out).l (SB.out.stay H4.out).k rfl rfl LTB.out.short ⟨SB.out.lc, SB.out.kc⟩)
 clear hrb
 go_wp2_with fail
 refine CRB.out.mono ?_
 rintro e v5 ⟨rfl, h⟩
 have H5 : Hid (Below u2.heap.size u2 v5) := hid (H4.out.trans (h.mono H4.out.size))
 clear h x0 x1
 by_cases zq : rb = 0
 rotate_left
 ·have hez : (rb != 0) = true := by simp [zq]
  go_wp2_with fail
  go_ret
  exact ⟨rfl, B1.out.trans (H5.out.mono B1.out.size)⟩
 subst zq
 obtain ⟨x0, x1⟩ := two_cells (blk_keep GC.out H5.out)
 obtain ⟨rc, hrc⟩ : ∃ r, T9.rightE c.st = r := ⟨_, rfl⟩
 have RC := hid hrc
 have CRC : Hid (Calls Tryz.prog 6 #[.agg #[.slice c.A c.ls.length c.c, .slice c.A2 c.ms.length c.c2]] v5 fun e w' => e = .returned (.int .i64 rc) ∧ Below v5.heap.size v5 w') := hid (by rw [← RC.out]; exact right_c (SC.out.stay H5.out).l (SC.out.stay H5.out).k rfl rfl LTC.out.short ⟨SC.out.lc, SC.out.kc⟩)
 clear hrc
 go_wp2_with fail
 refine CRC.out.mono ?_
 rintro e v6 ⟨rfl, h⟩
 have H6 : Hid (Below u2.heap.size u2 v6) := hid (H5.out.trans (h.mono H5.out.size))
 clear h x0 x1
 by_cases zq : rc = 0
 rotate_left
 ·have hez : (rc != 0) = true := by simp [zq]
  go_wp2_with fail
  go_ret
  exact ⟨rfl, B1.out.trans (H6.out.mono B1.out.size)⟩
 subst zq
 have h00 : ((0 : Int) != 0) = false := by decide
 obtain ⟨x0, x1⟩ := two_cells (blk_keep GB.out H6.out)
 go_wp2_with fail
 go_loopw [54] (fun s54 wr => ∃ i : Nat, s54 = .int .i64 i ∧ i ≤ b.ls.length ∧ Hid (∀ l ∈ b.ls.take i, hasL a.st l.id = true ∨ hasL c.st l.id = true) ∧ Hid (Below v6.heap.size v6 wr)) (fun s54 _ => b.ls.length - (intOf s54).toNat)
 case atStart => exact ⟨0, rfl, Nat.zero_le _, hid (by simp), hid (Below.refl _ _)⟩
 case round =>
  obtain ⟨i, rfl, hi, HI, BR⟩ := hrel
  have HR : Hid (Below u2.heap.size u2 wr) := hid (H6.out.trans (BR.out.mono H6.out.size))
  have NB : b.ls.length ≤ 25 := LTB.out.nl
  have NA : a.ls.length ≤ 25 := LTA.out.nl
  have NC : c.ls.length ≤ 25 := LTC.out.nl
  by_cases hlt : i < b.ls.length
  ·have hltz : (i : Int) < (b.ls.length : Int) := by omega
   obtain ⟨ad, l, hA, hx, r0, r1⟩ := (SB.out.stay HR.out).l.at_ (k := i) hlt
   have hA' := hid hA
   obtain ⟨wa, hwa⟩ : ∃ u, wr.alloc (.cells #[.int .u64 (l.id : Int), .string (str l.name)] 32) = u := ⟨_, rfl⟩
   obtain ⟨lb, ba, za⟩ := new_two hwa
   have HA : Hid (Below u2.heap.size u2 wa) := hid (HR.out.trans (ba.mono HR.out.size))
   have HV : Hid (Below v6.heap.size v6 wa) := hid (BR.out.trans (ba.mono BR.out.size))
   obtain ⟨l0, l1⟩ := two_cells lb
   obtain ⟨y0, y1⟩ := two_cells (blk_keep GA.out HA.out)
   have LB := hid lb
   have X := hid hx
   obtain ⟨fl, hfa⟩ : ∃ z, T9.findL a.ls l.id = z := ⟨_, rfl⟩
   obtain ⟨⟨fi, fn⟩, fb⟩ := fl
   have CA := hid (refList_c (c := a.c) (c2 := a.c2) (A2 := a.A2) (n2 := a.ms.length) (SA.out.stay HA.out).l (n1 := a.ls.length) rfl (by omega) l.id)
   unfold FLOk at CA
   rw [hfa] at CA
   unfold encL at CA
   dsimp only at CA
   have WA : Hid (hasL a.st l.id = fb) := hid (by unfold hasL; rw [← findL_two]; show (T9.findL a.ls l.id).2 = _; rw [hfa])
   clear hx lb ba za hfa
   rw [hA] at *
   go_wp2_with fail
   refine CA.out.mono ?_
   rintro e wb ⟨rfl, hb⟩
   obtain ⟨wc, hwc⟩ : ∃ u, wb.alloc (.cells #[.int .u64 (fi : Int), .string (str fn)] 32) = u := ⟨_, rfl⟩
   obtain ⟨_, bc, _⟩ := new_two hwc
   have BC : Hid (Below wa.heap.size wa wc) := hid (hb.trans (bc.mono hb.size))
   have HC : Hid (Below u2.heap.size u2 wc) := hid (HA.out.trans (BC.out.mono HA.out.size))
   obtain ⟨m0, m1⟩ := two_cells (blk_keep LB.out BC.out)
   obtain ⟨z0', z1'⟩ := two_cells (blk_keep GC.out HC.out)
   obtain ⟨gl, hfc⟩ : ∃ z, T9.findL c.ls l.id = z := ⟨_, rfl⟩
   obtain ⟨⟨gi, gn⟩, gb⟩ := gl
   have CC := hid (refList_c (c := c.c) (c2 := c.c2) (A2 := c.A2) (n2 := c.ms.length) (SC.out.stay HC.out).l (n1 := c.ls.length) rfl (by omega) l.id)
   unfold FLOk at CC
   rw [hfc] at CC
   unfold encL at CC
   dsimp only at CC
   have WC : Hid (hasL c.st l.id = gb) := hid (by unfold hasL; rw [← findL_two]; show (T9.findL c.ls l.id).2 = _; rw [hfc])
   clear hb bc hfc
   go_wp2_with fail
   refine CC.out.mono ?_
   rintro e wd ⟨rfl, hd⟩
   obtain ⟨we, hwe⟩ : ∃ u, wd.alloc (.cells #[.int .u64 (gi : Int), .string (str gn)] 32) = u := ⟨_, rfl⟩
   obtain ⟨_, bE, _⟩ := new_two hwe
   have BE : Hid (Below v6.heap.size v6 we) := hid ((HV.out.trans (BC.out.mono HV.out.size)).trans ((hd.trans (bE.mono hd.size)).mono (Nat.le_trans HV.out.size BC.out.size)))
   clear hd bE
   by_cases hw : fb = false ∧ gb = false
   ·obtain ⟨rfl, rfl⟩ := hw
    go_wp2_with fail
    go_ret
    exact ⟨rfl, B1.out.trans ((H6.out.trans (BE.out.mono H6.out.size)).mono B1.out.size)⟩
   ·have NX : Hid (∀ x ∈ b.ls.take (i + 1), hasL a.st x.id = true ∨ hasL c.st x.id = true) := hid (fun x hx => by
     rw [take_nxt X.out] at hx
     rcases List.mem_append.1 hx with r | r
     ·exact HI.out x r
     ·rw [List.mem_singleton] at r
      subst r
      rw [WA.out, WC.out]
      cases fb <;> cases gb <;> simp_all)
    rcases Bool.eq_false_or_eq_true fb with e1 | e1
    ·subst e1
     go_wp2_with fail
     go_roundw
     case rel => exact ⟨i + 1, by go_num, by omega, NX, BE⟩
     case measure => simp [intOf]; omega
    ·subst e1
     have e2 : gb = true := by cases gb <;> simp_all
     subst e2
     go_wp2_with fail
     go_roundw
     case rel => exact ⟨i + 1, by go_num, by omega, NX, BE⟩
     case measure => simp [intOf]; omega
  ·obtain rfl : i = b.ls.length := by omega
   have hltz : ¬ ((b.ls.length : Int) < (b.ls.length : Int)) := by omega
   have HLS : Hid (∀ l ∈ b.st.lists, hasL a.st l.id = true ∨ hasL c.st l.id = true) := hid (by
    have := HI.out
    rwa [List.take_length] at this)
   obtain ⟨v7, hv7⟩ : ∃ u, u = wr := ⟨_, rfl⟩
   subst wr
   have H7 : Hid (Below u2.heap.size u2 v7) := hid HR.out
   obtain ⟨x0, x1⟩ := two_cells (blk_keep GB.out H7.out)
   go_wp2_with fail
   go_loopw [82] (fun s82 wr => ∃ i : Nat, s82 = .int .i64 i ∧ i ≤ b.ms.length ∧ Hid (∀ m ∈ b.ms.take i, hasK a.st m.t.id = true ∨ hasK c.st m.t.id = true) ∧ Hid (Below v7.heap.size v7 wr)) (fun s82 _ => b.ms.length - (intOf s82).toNat)
   case atStart => exact ⟨0, rfl, Nat.zero_le _, hid (by simp), hid (Below.refl _ _)⟩
   case round =>
    obtain ⟨i, rfl, hi, HI2, BR2⟩ := hrel
    have HR2 : Hid (Below u2.heap.size u2 wr) := hid (H7.out.trans (BR2.out.mono H7.out.size))
    have KB : b.ms.length ≤ 70 := by rw [← tks_len]; exact LTB.out.nt
    have KA : a.ms.length ≤ 70 := by rw [← tks_len]; exact LTA.out.nt
    have KC : c.ms.length ≤ 70 := by rw [← tks_len]; exact LTC.out.nt
    by_cases hlt : i < b.ms.length
    ·have hltz : (i : Int) < (b.ms.length : Int) := by omega
     obtain ⟨ad, m, hA, hx, _, r0, r1, r2, r3, r4, r5, r6⟩ := (SB.out.stay HR2.out).k.at_ (k := i) hlt
     obtain ⟨⟨ti, tl, tt, td, tr, te, tg⟩, mA, mc⟩ := m
     dsimp only at r0 r1 r2 r3 r4 r5 r6
     obtain ⟨wa, hwa⟩ : ∃ u, wr.alloc (.cells #[.int .u64 (ti : Int), .int .u64 (tl : Int), .string (str tt), .bool td, .float .f64 tr, .float .f64 te, .slice mA tg.length mc] 38) = u := ⟨_, rfl⟩
     obtain ⟨lb, ba, za⟩ := new_seven hwa
     have HA : Hid (Below u2.heap.size u2 wa) := hid (HR2.out.trans (ba.mono HR2.out.size))
     have HV : Hid (Below v7.heap.size v7 wa) := hid (BR2.out.trans (ba.mono BR2.out.size))
     obtain ⟨l0, l1, l2, l3, l4, l5, l6⟩ := seven_cells lb
     obtain ⟨y0, y1⟩ := two_cells (blk_keep GA.out HA.out)
     have LB := hid lb
     have X := hid hx
     obtain ⟨fb, hfa⟩ : ∃ z, (T9.findK (tks a.ms) ti).2 = z := ⟨_, rfl⟩
     have CA := hid (refTaskE_c (A := a.A) (n1 := a.ls.length) (c := a.c) (c2 := a.c2) (SA.out.stay HA.out).k (n2 := a.ms.length) rfl (by omega) ti hfa)
     have WA : Hid (hasK a.st ti = fb) := hid (by unfold hasK; rw [← findK_two]; exact hfa)
     clear hx lb ba za hfa
     rw [hA] at *
     go_wp2_with fail
     refine CA.out.mono ?_
     rintro e wb ⟨ai, al, at', ad', ar, ae, aA, an, ac, rfl, hb⟩
     obtain ⟨wc, hwc⟩ : ∃ u, wb.alloc (.cells #[.int .u64 (ai : Int), .int .u64 (al : Int), .string (str at'), .bool ad', .float .f64 ar, .float .f64 ae, .slice aA an ac] 38) = u := ⟨_, rfl⟩
     obtain ⟨_, bc, _⟩ := new_seven hwc
     have BC : Hid (Below wa.heap.size wa wc) := hid (hb.trans (bc.mono hb.size))
     have HC : Hid (Below u2.heap.size u2 wc) := hid (HA.out.trans (BC.out.mono HA.out.size))
     obtain ⟨m0, m1, m2, m3, m4, m5, m6⟩ := seven_cells (blk_keep LB.out BC.out)
     obtain ⟨z0', z1'⟩ := two_cells (blk_keep GC.out HC.out)
     obtain ⟨gb, hfc⟩ : ∃ z, (T9.findK (tks c.ms) ti).2 = z := ⟨_, rfl⟩
     have CC := hid (refTaskE_c (A := c.A) (n1 := c.ls.length) (c := c.c) (c2 := c.c2) (SC.out.stay HC.out).k (n2 := c.ms.length) rfl (by omega) ti hfc)
     have WC : Hid (hasK c.st ti = gb) := hid (by unfold hasK; rw [← findK_two]; exact hfc)
     clear hb bc hfc
     go_wp2_with fail
     refine CC.out.mono ?_
     rintro e wd ⟨gi, gl, gt, gd, gr, ge, gA, gn, gc, rfl, hd⟩
     obtain ⟨we, hwe⟩ : ∃ u, wd.alloc (.cells #[.int .u64 (gi : Int), .int .u64 (gl : Int), .string (str gt), .bool gd, .float .f64 gr, .float .f64 ge, .slice gA gn gc] 38) = u := ⟨_, rfl⟩
     obtain ⟨_, bE, _⟩ := new_seven hwe
     have BE : Hid (Below v7.heap.size v7 we) := hid ((HV.out.trans (BC.out.mono HV.out.size)).trans ((hd.trans (bE.mono hd.size)).mono (Nat.le_trans HV.out.size BC.out.size)))
     clear hd bE
     by_cases hw : fb = false ∧ gb = false
     ·obtain ⟨rfl, rfl⟩ := hw
      go_wp2_with fail
      go_ret
      exact ⟨rfl, B1.out.trans ((H7.out.trans (BE.out.mono H7.out.size)).mono B1.out.size)⟩
     ·have NX : Hid (∀ x ∈ b.ms.take (i + 1), hasK a.st x.t.id = true ∨ hasK c.st x.t.id = true) := hid (fun x hx => by
       rw [take_nxt X.out] at hx
       rcases List.mem_append.1 hx with r | r
       ·exact HI2.out x r
       ·rw [List.mem_singleton] at r
        subst r
        show hasK a.st ti = true ∨ hasK c.st ti = true
        rw [WA.out, WC.out]
        cases fb <;> cases gb <;> simp_all)
      rcases Bool.eq_false_or_eq_true fb with e1 | e1
      ·subst e1
       go_wp2_with fail
       go_roundw
       case rel => exact ⟨i + 1, by go_num, by omega, NX, BE⟩
       case measure => simp [intOf]; omega
      ·subst e1
       have e2 : gb = true := by cases gb <;> simp_all
       subst e2
       go_wp2_with fail
       go_roundw
       case rel => exact ⟨i + 1, by go_num, by omega, NX, BE⟩
       case measure => simp [intOf]; omega
    ·obtain rfl : i = b.ms.length := by omega
     have hltz2 : ¬ ((b.ms.length : Int) < (b.ms.length : Int)) := by omega
     have HKS : Hid (∀ t ∈ b.st.tasks, hasK a.st t.id = true ∨ hasK c.st t.id = true) := hid (by
      have q := HI2.out
      rw [List.take_length] at q
      intro t ht
      obtain ⟨m, hm, rfl⟩ := List.mem_map.1 ht
      exact q m hm)
     obtain ⟨v8, hv8⟩ : ∃ u, u = wr := ⟨_, rfl⟩
     subst wr
     have H8 : Hid (Below u2.heap.size u2 v8) := hid HR2.out
     clear HI HI2 BR BR2 HR HR2 NA NB NC KA KB KC hltz
     have SAR := hid (SA.out.stay H8.out)
     have SBR := hid (SB.out.stay H8.out)
     have SCR := hid (SC.out.stay H8.out)
     have GAR := hid (blk_keep GA.out H8.out)
     have GBR := hid (blk_keep GB.out H8.out)
     have GCR := hid (blk_keep GC.out H8.out)
     have CO1 := hid (fun (v : World) (hv : Below v8.heap.size v8 v) => of12_c (SAR.out.stay hv) (SBR.out.stay hv) LTA.out LTB.out OA.out OB.out)
     have CO2 := hid (fun (v : World) (hv : Below v8.heap.size v8 v) => of12_c (SBR.out.stay hv) (SCR.out.stay hv) LTB.out LTC.out OB.out OC.out)
     unfold MSt.val at CO1 CO2
     clear h00 x0 x1
     go_upto_region 21 with fail
     go_cut [19, 20] (fun s19 s20 wx => ∃ (g : Nat) (m : MSt), s19 = .pointer (some ⟨g, 0, none⟩) ∧ s20 = .int .i64 0 ∧ Hid (wx.heap[g]? = some (.cells #[.slice m.A m.ls.length m.c, .slice m.A2 m.ms.length m.c2] 25 (0, 0)) ∧ TS m wx ∧ m.st = c.st ∧ v8.heap.size ≤ g ∧ Below v8.heap.size v8 wx))
     case first =>
      refine wp_region_held_drew (S := fun u => Below v8.heap.size v8 u) (by kernel_rfl) ((Below.refl v8.heap.size v8).drew) (fun S0 => ?_)
      generalize v8.drew = wd at S0 ⊢
      refine tkH 0 ?_ rfl (by kernel_rfl) rfl ?_ S0 ?_
      rotate_left
      ·intro u hu;obtain ⟨y0, y1⟩ := two_cells (blk_keep GAR.out hu);go_simp;try rfl
      try simp only [Act.put, pS]
      refine tkH 1 ?_ rfl (by kernel_rfl) rfl ?_ S0 ?_
      rotate_left
      ·intro u hu;obtain ⟨y0, y1⟩ := two_cells (blk_keep GAR.out hu);go_simp;try rfl
      try simp only [Act.put, pS]
      refine tkH 2 ?_ rfl (by kernel_rfl) rfl ?_ S0 ?_
      rotate_left
      ·intro u hu;obtain ⟨y0, y1⟩ := two_cells (blk_keep GBR.out hu);go_simp;try rfl
      try simp only [Act.put, pS]
      refine tkH 4 ?_ rfl (by kernel_rfl) rfl ?_ S0 ?_
      rotate_left
      ·intro u hu;obtain ⟨y0, y1⟩ := two_cells (blk_keep GBR.out hu);go_simp;try rfl
      try simp only [Act.put, pS]
      refine tkH 5 ?_ rfl (by kernel_rfl) rfl ?_ S0 ?_
      rotate_left
      ·intro u hu;obtain ⟨y0, y1⟩ := two_cells (blk_keep GCR.out hu);go_simp;try rfl
      try simp only [Act.put, pS]
      refine wpAnyH_ready (rs := [3, 12]) (by kernel_rfl) (by simp) (AllReadyH.cons rfl (fun K hK => ?_) (AllReadyH.cons rfl (fun K hK => ?_) AllReadyH.nil))
      ·skip
       go_simp
       refine (CO1.out _ S0).mono ?_
       rintro e va ⟨p, rfl, hp, p1, p2, p3, p4, hv⟩
       have S1 := S0.trans (hv.mono S0.size)
       have HP := hid (And.intro hp (And.intro p1 (And.intro p2 (And.intro p3 p4))))
       clear hp p1 p2 p3 p4
       clear hv
       refine hK.out _ _ S1 (fun _ => ?_)
       clear hK K S0
       have S0 := S1
       clear S1
       try simp only [Act.put, pS]
       refine wpAnyH_ready (rs := [6, 12]) (by kernel_rfl) (by simp) (AllReadyH.cons rfl (fun K hK => ?_) (AllReadyH.cons rfl (fun K hK => ?_) AllReadyH.nil))
       ·skip
        go_simp
        refine (CO2.out _ S0).mono ?_
        rintro e vb ⟨q, rfl, hq, q1, q2, q3, q4, hv⟩
        have S1 := S0.trans (hv.mono S0.size)
        have HQ := hid (And.intro hq (And.intro q1 (And.intro q2 (And.intro q3 q4))))
        have HP := hid (And.intro (HP.out.1.stay hv) HP.out.2)
        clear hq q1 q2 q3 q4
        clear hv
        refine hK.out _ _ S1 (fun _ => ?_)
        clear hK K S0
        have S0 := S1
        clear S1
        try simp only [Act.put, pS]
        refine wpAnyH_ready (rs := [7, 12]) (by kernel_rfl) (by simp) (AllReadyH.cons rfl (fun K hK => ?_) (AllReadyH.cons rfl (fun K hK => ?_) AllReadyH.nil))
        ·skip
         go_simp
         refine (ofJoin_c (c12_light LTA.out) (c12_light LTB.out) (c12_light LTC.out) (c12_ok OA.out) (c12_ok OB.out) (c12_ok OC.out) HP.out.1 HQ.out.1 HP.out.2.1 HP.out.2.2.1 HP.out.2.2.2.1 HP.out.2.2.2.2 HQ.out.2.1 HQ.out.2.2.1 HQ.out.2.2.2.1 HQ.out.2.2.2.2).mono ?_
         rintro e vc ⟨r, rfl, hr, r1, r2, r3, r4, hv⟩
         have S1 := S0.trans (hv.mono S0.size)
         have HJ := hid (And.intro hr (And.intro r1 (And.intro r2 (And.intro r3 r4))))
         clear hr r1 r2 r3 r4
         clear hv
         refine hK.out _ _ S1 (fun _ => ?_)
         clear hK K S0
         have S0 := S1
         clear S1
         try simp only [Act.put, pS]
         refine wpAnyH_ready (rs := [8, 12]) (by kernel_rfl) (by simp) (AllReadyH.cons rfl (fun K hK => ?_) (AllReadyH.cons rfl (fun K hK => ?_) AllReadyH.nil))
         ·skip
          go_simp
          have CP := joinApply_c (SAR.out.stay S0) LTA.out LTB.out LTC.out OA.out OB.out OC.out RA.out RB.out RC.out HLS.out HKS.out HJ.out.1 HP.out.2.1 HP.out.2.2.1 HP.out.2.2.2.1 HP.out.2.2.2.2 HQ.out.2.1 HQ.out.2.2.1 HQ.out.2.2.2.1 HQ.out.2.2.2.2 HJ.out.2.1 HJ.out.2.2.1 HJ.out.2.2.2.1 HJ.out.2.2.2.2
          unfold MSt.val at CP
          refine CP.mono ?_
          rintro e vd ⟨m, rfl, hm, hst, hv⟩
          have S1 := S0.trans (hv.mono S0.size)
          have HM := hid hm
          have ST := hid hst
          clear CP hm hst
          clear hv
          refine hK.out _ _ S1 (fun _ => ?_)
          clear hK K S0
          have S0 := S1
          clear S1
          try simp only [Act.put, pS]
          refine tkH 9 ?_ rfl (by kernel_rfl) rfl ?_ S0 ?_
          rotate_left
          ·intro u hu;skip;go_simp;try rfl
          try simp only [Act.put, pS]
          refine tkH 10 ?_ rfl (by kernel_rfl) rfl ?_ S0 ?_
          rotate_left
          ·intro u hu;skip;go_simp;try rfl
          try simp only [Act.put, pS]
          refine tkH 11 ?_ rfl (by kernel_rfl) rfl ?_ S0 ?_
          rotate_left
          ·intro u hu;skip;go_simp;try rfl
          try simp only [Act.put, pS]
          refine anyH_one9 (i := 12) (by kernel_rfl) rfl (fun K hK => ?_)
          go_simp
          obtain ⟨vg, hvg⟩ : ∃ u, vd.alloc (.cells #[.slice none 0 0, .slice none 0 0] 25) = u := ⟨_, rfl⟩
          obtain ⟨gb, bg, zg⟩ := new_two hvg
          try rw [hvg]
          have S1 := S0.trans (bg.mono S0.size)
          obtain ⟨gx, hgx⟩ : ∃ g, vd.heap.size = g := ⟨_, rfl⟩
          rw [hgx] at gb
          have GX := hid gb
          have GW : Hid (v8.heap.size ≤ gx) := hid (by rw [← hgx]; exact S0.size)
          have GE := hid hgx
          have HM := hid (HM.out.stay bg)
          try rw [hgx]
          clear gb bg zg hgx hvg
          refine hK _ _ S1 ?_
          clear hK K S0
          have S0 := S1
          clear S1
          try simp only [Act.put, pS]
          refine anyH_one9 (i := 13) (by kernel_rfl) rfl (fun K hK => ?_)
          have gq := GX.out
          obtain ⟨g0, g1⟩ := two_cells gq
          have gf0 := blk_free gq 0
          have gf1 := blk_free gq 1
          go_simp
          obtain ⟨vz, hvz⟩ : ∃ u, (vg.setCell ⟨gx, 0, none⟩ (.slice m.A m.ls.length m.c)).setCell ⟨gx, 1, none⟩ (.slice m.A2 m.ms.length m.c2) = u := ⟨_, rfl⟩
          try rw [hvz]
          obtain ⟨tz, gz, _, ez⟩ := st_set gq hvz
          have S1 : Below v8.heap.size v8 vz := S0.trans (ez _ GW.out)
          have HMZ := hid (HM.out.tch tz (by decide) (by decide) (by decide))
          have GZ := hid gz
          clear gq g0 g1 gf0 gf1 tz gz ez hvz
          refine hK _ _ S1 ?_
          clear hK K S0
          have S0 := S1
          clear S1
          try simp only [Act.put, pS]
          refine tkH 14 ?_ rfl (by kernel_rfl) rfl ?_ S0 ?_
          rotate_left
          ·intro u hu;skip;go_simp;try rfl
          try simp only [Act.put, pS]
          refine wpAnyH_done (by kernel_rfl) ?_ _
          go_wp2
          go_meet
          case rel => exact ⟨_, m, rfl, rfl, hid ⟨GZ.out, HMZ.out, ST.out, GW.out, S0⟩⟩
         ·skip
          go_simp
          obtain ⟨vg, hvg⟩ : ∃ u, vc.alloc (.cells #[.slice none 0 0, .slice none 0 0] 25) = u := ⟨_, rfl⟩
          obtain ⟨gb, bg, zg⟩ := new_two hvg
          try rw [hvg]
          have S1 := S0.trans (bg.mono S0.size)
          obtain ⟨gx, hgx⟩ : ∃ g, vc.heap.size = g := ⟨_, rfl⟩
          rw [hgx] at gb
          have GX := hid gb
          have GW : Hid (v8.heap.size ≤ gx) := hid (by rw [← hgx]; exact S0.size)
          have GE := hid hgx
          have HJ := hid (And.intro (HJ.out.1.stay bg) HJ.out.2)
          try rw [hgx]
          clear gb bg zg hgx hvg
          refine hK.out _ _ S1 (fun _ => ?_)
          clear hK K S0
          have S0 := S1
          clear S1
          try simp only [Act.put, pS]
          refine anyH_one9 (i := 8) (by kernel_rfl) rfl (fun K hK => ?_)
          go_simp
          have CP := joinApply_c (SAR.out.stay S0) LTA.out LTB.out LTC.out OA.out OB.out OC.out RA.out RB.out RC.out HLS.out HKS.out HJ.out.1 HP.out.2.1 HP.out.2.2.1 HP.out.2.2.2.1 HP.out.2.2.2.2 HQ.out.2.1 HQ.out.2.2.1 HQ.out.2.2.2.1 HQ.out.2.2.2.2 HJ.out.2.1 HJ.out.2.2.1 HJ.out.2.2.2.1 HJ.out.2.2.2.2
          unfold MSt.val at CP
          refine CP.mono ?_
          rintro e vd ⟨m, rfl, hm, hst, hv⟩
          have S1 := S0.trans (hv.mono S0.size)
          have HM := hid hm
          have ST := hid hst
          clear CP hm hst
          have GX := hid (blk_keep GX.out hv)
          clear hv
          refine hK _ _ S1 ?_
          clear hK K S0
          have S0 := S1
          clear S1
          try simp only [Act.put, pS]
          refine tkH 9 ?_ rfl (by kernel_rfl) rfl ?_ S0 ?_
          rotate_left
          ·intro u hu;skip;go_simp;try rfl
          try simp only [Act.put, pS]
          refine tkH 10 ?_ rfl (by kernel_rfl) rfl ?_ S0 ?_
          rotate_left
          ·intro u hu;skip;go_simp;try rfl
          try simp only [Act.put, pS]
          refine tkH 11 ?_ rfl (by kernel_rfl) rfl ?_ S0 ?_
          rotate_left
          ·intro u hu;skip;go_simp;try rfl
          try simp only [Act.put, pS]
          refine anyH_one9 (i := 13) (by kernel_rfl) rfl (fun K hK => ?_)
          have gq := GX.out
          obtain ⟨g0, g1⟩ := two_cells gq
          have gf0 := blk_free gq 0
          have gf1 := blk_free gq 1
          go_simp
          obtain ⟨vz, hvz⟩ : ∃ u, (vd.setCell ⟨gx, 0, none⟩ (.slice m.A m.ls.length m.c)).setCell ⟨gx, 1, none⟩ (.slice m.A2 m.ms.length m.c2) = u := ⟨_, rfl⟩
          try rw [hvz]
          obtain ⟨tz, gz, _, ez⟩ := st_set gq hvz
          have S1 : Below v8.heap.size v8 vz := S0.trans (ez _ GW.out)
          have HMZ := hid (HM.out.tch tz (by decide) (by decide) (by decide))
          have GZ := hid gz
          clear gq g0 g1 gf0 gf1 tz gz ez hvz
          refine hK _ _ S1 ?_
          clear hK K S0
          have S0 := S1
          clear S1
          try simp only [Act.put, pS]
          refine tkH 14 ?_ rfl (by kernel_rfl) rfl ?_ S0 ?_
          rotate_left
          ·intro u hu;skip;go_simp;try rfl
          try simp only [Act.put, pS]
          refine wpAnyH_done (by kernel_rfl) ?_ _
          go_wp2
          go_meet
          case rel => exact ⟨_, m, rfl, rfl, hid ⟨GZ.out, HMZ.out, ST.out, GW.out, S0⟩⟩
        ·skip
         go_simp
         obtain ⟨vg, hvg⟩ : ∃ u, vb.alloc (.cells #[.slice none 0 0, .slice none 0 0] 25) = u := ⟨_, rfl⟩
         obtain ⟨gb, bg, zg⟩ := new_two hvg
         try rw [hvg]
         have S1 := S0.trans (bg.mono S0.size)
         obtain ⟨gx, hgx⟩ : ∃ g, vb.heap.size = g := ⟨_, rfl⟩
         rw [hgx] at gb
         have GX := hid gb
         have GW : Hid (v8.heap.size ≤ gx) := hid (by rw [← hgx]; exact S0.size)
         have GE := hid hgx
         have HP := hid (And.intro (HP.out.1.stay bg) HP.out.2)
         have HQ := hid (And.intro (HQ.out.1.stay bg) HQ.out.2)
         try rw [hgx]
         clear gb bg zg hgx hvg
         refine hK.out _ _ S1 (fun _ => ?_)
         clear hK K S0
         have S0 := S1
         clear S1
         try simp only [Act.put, pS]
         refine anyH_one9 (i := 7) (by kernel_rfl) rfl (fun K hK => ?_)
         go_simp
         refine (ofJoin_c (c12_light LTA.out) (c12_light LTB.out) (c12_light LTC.out) (c12_ok OA.out) (c12_ok OB.out) (c12_ok OC.out) HP.out.1 HQ.out.1 HP.out.2.1 HP.out.2.2.1 HP.out.2.2.2.1 HP.out.2.2.2.2 HQ.out.2.1 HQ.out.2.2.1 HQ.out.2.2.2.1 HQ.out.2.2.2.2).mono ?_
         rintro e vc ⟨r, rfl, hr, r1, r2, r3, r4, hv⟩
         have S1 := S0.trans (hv.mono S0.size)
         have HJ := hid (And.intro hr (And.intro r1 (And.intro r2 (And.intro r3 r4))))
         clear hr r1 r2 r3 r4
         have GX := hid (blk_keep GX.out hv)
         clear hv
         refine hK _ _ S1 ?_
         clear hK K S0
         have S0 := S1
         clear S1
         try simp only [Act.put, pS]
         refine anyH_one9 (i := 8) (by kernel_rfl) rfl (fun K hK => ?_)
         go_simp
         have CP := joinApply_c (SAR.out.stay S0) LTA.out LTB.out LTC.out OA.out OB.out OC.out RA.out RB.out RC.out HLS.out HKS.out HJ.out.1 HP.out.2.1 HP.out.2.2.1 HP.out.2.2.2.1 HP.out.2.2.2.2 HQ.out.2.1 HQ.out.2.2.1 HQ.out.2.2.2.1 HQ.out.2.2.2.2 HJ.out.2.1 HJ.out.2.2.1 HJ.out.2.2.2.1 HJ.out.2.2.2.2
         unfold MSt.val at CP
         refine CP.mono ?_
         rintro e vd ⟨m, rfl, hm, hst, hv⟩
         have S1 := S0.trans (hv.mono S0.size)
         have HM := hid hm
         have ST := hid hst
         clear CP hm hst
         have GX := hid (blk_keep GX.out hv)
         clear hv
         refine hK _ _ S1 ?_
         clear hK K S0
         have S0 := S1
         clear S1
         try simp only [Act.put, pS]
         refine tkH 9 ?_ rfl (by kernel_rfl) rfl ?_ S0 ?_
         rotate_left
         ·intro u hu;skip;go_simp;try rfl
         try simp only [Act.put, pS]
         refine tkH 10 ?_ rfl (by kernel_rfl) rfl ?_ S0 ?_
         rotate_left
         ·intro u hu;skip;go_simp;try rfl
         try simp only [Act.put, pS]
         refine tkH 11 ?_ rfl (by kernel_rfl) rfl ?_ S0 ?_
         rotate_left
         ·intro u hu;skip;go_simp;try rfl
         try simp only [Act.put, pS]
         refine anyH_one9 (i := 13) (by kernel_rfl) rfl (fun K hK => ?_)
         have gq := GX.out
         obtain ⟨g0, g1⟩ := two_cells gq
         have gf0 := blk_free gq 0
         have gf1 := blk_free gq 1
         go_simp
         obtain ⟨vz, hvz⟩ : ∃ u, (vd.setCell ⟨gx, 0, none⟩ (.slice m.A m.ls.length m.c)).setCell ⟨gx, 1, none⟩ (.slice m.A2 m.ms.length m.c2) = u := ⟨_, rfl⟩
         try rw [hvz]
         obtain ⟨tz, gz, _, ez⟩ := st_set gq hvz
         have S1 : Below v8.heap.size v8 vz := S0.trans (ez _ GW.out)
         have HMZ := hid (HM.out.tch tz (by decide) (by decide) (by decide))
         have GZ := hid gz
         clear gq g0 g1 gf0 gf1 tz gz ez hvz
         refine hK _ _ S1 ?_
         clear hK K S0
         have S0 := S1
         clear S1
         try simp only [Act.put, pS]
         refine tkH 14 ?_ rfl (by kernel_rfl) rfl ?_ S0 ?_
         rotate_left
         ·intro u hu;skip;go_simp;try rfl
         try simp only [Act.put, pS]
         refine wpAnyH_done (by kernel_rfl) ?_ _
         go_wp2
         go_meet
         case rel => exact ⟨_, m, rfl, rfl, hid ⟨GZ.out, HMZ.out, ST.out, GW.out, S0⟩⟩
       ·skip
        go_simp
        obtain ⟨vg, hvg⟩ : ∃ u, va.alloc (.cells #[.slice none 0 0, .slice none 0 0] 25) = u := ⟨_, rfl⟩
        obtain ⟨gb, bg, zg⟩ := new_two hvg
        try rw [hvg]
        have S1 := S0.trans (bg.mono S0.size)
        obtain ⟨gx, hgx⟩ : ∃ g, va.heap.size = g := ⟨_, rfl⟩
        rw [hgx] at gb
        have GX := hid gb
        have GW : Hid (v8.heap.size ≤ gx) := hid (by rw [← hgx]; exact S0.size)
        have GE := hid hgx
        have HP := hid (And.intro (HP.out.1.stay bg) HP.out.2)
        try rw [hgx]
        clear gb bg zg hgx hvg
        refine hK.out _ _ S1 (fun _ => ?_)
        clear hK K S0
        have S0 := S1
        clear S1
        try simp only [Act.put, pS]
        refine anyH_one9 (i := 6) (by kernel_rfl) rfl (fun K hK => ?_)
        go_simp
        refine (CO2.out _ S0).mono ?_
        rintro e vb ⟨q, rfl, hq, q1, q2, q3, q4, hv⟩
        have S1 := S0.trans (hv.mono S0.size)
        have HQ := hid (And.intro hq (And.intro q1 (And.intro q2 (And.intro q3 q4))))
        have HP := hid (And.intro (HP.out.1.stay hv) HP.out.2)
        clear hq q1 q2 q3 q4
        have GX := hid (blk_keep GX.out hv)
        clear hv
        refine hK _ _ S1 ?_
        clear hK K S0
        have S0 := S1
        clear S1
        try simp only [Act.put, pS]
        refine anyH_one9 (i := 7) (by kernel_rfl) rfl (fun K hK => ?_)
        go_simp
        refine (ofJoin_c (c12_light LTA.out) (c12_light LTB.out) (c12_light LTC.out) (c12_ok OA.out) (c12_ok OB.out) (c12_ok OC.out) HP.out.1 HQ.out.1 HP.out.2.1 HP.out.2.2.1 HP.out.2.2.2.1 HP.out.2.2.2.2 HQ.out.2.1 HQ.out.2.2.1 HQ.out.2.2.2.1 HQ.out.2.2.2.2).mono ?_
        rintro e vc ⟨r, rfl, hr, r1, r2, r3, r4, hv⟩
        have S1 := S0.trans (hv.mono S0.size)
        have HJ := hid (And.intro hr (And.intro r1 (And.intro r2 (And.intro r3 r4))))
        clear hr r1 r2 r3 r4
        have GX := hid (blk_keep GX.out hv)
        clear hv
        refine hK _ _ S1 ?_
        clear hK K S0
        have S0 := S1
        clear S1
        try simp only [Act.put, pS]
        refine anyH_one9 (i := 8) (by kernel_rfl) rfl (fun K hK => ?_)
        go_simp
        have CP := joinApply_c (SAR.out.stay S0) LTA.out LTB.out LTC.out OA.out OB.out OC.out RA.out RB.out RC.out HLS.out HKS.out HJ.out.1 HP.out.2.1 HP.out.2.2.1 HP.out.2.2.2.1 HP.out.2.2.2.2 HQ.out.2.1 HQ.out.2.2.1 HQ.out.2.2.2.1 HQ.out.2.2.2.2 HJ.out.2.1 HJ.out.2.2.1 HJ.out.2.2.2.1 HJ.out.2.2.2.2
        unfold MSt.val at CP
        refine CP.mono ?_
        rintro e vd ⟨m, rfl, hm, hst, hv⟩
        have S1 := S0.trans (hv.mono S0.size)
        have HM := hid hm
        have ST := hid hst
        clear CP hm hst
        have GX := hid (blk_keep GX.out hv)
        clear hv
        refine hK _ _ S1 ?_
        clear hK K S0
        have S0 := S1
        clear S1
        try simp only [Act.put, pS]
        refine tkH 9 ?_ rfl (by kernel_rfl) rfl ?_ S0 ?_
        rotate_left
        ·intro u hu;skip;go_simp;try rfl
        try simp only [Act.put, pS]
        refine tkH 10 ?_ rfl (by kernel_rfl) rfl ?_ S0 ?_
        rotate_left
        ·intro u hu;skip;go_simp;try rfl
        try simp only [Act.put, pS]
        refine tkH 11 ?_ rfl (by kernel_rfl) rfl ?_ S0 ?_
        rotate_left
        ·intro u hu;skip;go_simp;try rfl
        try simp only [Act.put, pS]
        refine anyH_one9 (i := 13) (by kernel_rfl) rfl (fun K hK => ?_)
        have gq := GX.out
        obtain ⟨g0, g1⟩ := two_cells gq
        have gf0 := blk_free gq 0
        have gf1 := blk_free gq 1
        go_simp
        obtain ⟨vz, hvz⟩ : ∃ u, (vd.setCell ⟨gx, 0, none⟩ (.slice m.A m.ls.length m.c)).setCell ⟨gx, 1, none⟩ (.slice m.A2 m.ms.length m.c2) = u := ⟨_, rfl⟩
        try rw [hvz]
        obtain ⟨tz, gz, _, ez⟩ := st_set gq hvz
        have S1 : Below v8.heap.size v8 vz := S0.trans (ez _ GW.out)
        have HMZ := hid (HM.out.tch tz (by decide) (by decide) (by decide))
        have GZ := hid gz
        clear gq g0 g1 gf0 gf1 tz gz ez hvz
        refine hK _ _ S1 ?_
        clear hK K S0
        have S0 := S1
        clear S1
        try simp only [Act.put, pS]
        refine tkH 14 ?_ rfl (by kernel_rfl) rfl ?_ S0 ?_
        rotate_left
        ·intro u hu;skip;go_simp;try rfl
        try simp only [Act.put, pS]
        refine wpAnyH_done (by kernel_rfl) ?_ _
        go_wp2
        go_meet
        case rel => exact ⟨_, m, rfl, rfl, hid ⟨GZ.out, HMZ.out, ST.out, GW.out, S0⟩⟩
      ·skip
       go_simp
       obtain ⟨vg, hvg⟩ : ∃ u, wd.alloc (.cells #[.slice none 0 0, .slice none 0 0] 25) = u := ⟨_, rfl⟩
       obtain ⟨gb, bg, zg⟩ := new_two hvg
       try rw [hvg]
       have S1 := S0.trans (bg.mono S0.size)
       obtain ⟨gx, hgx⟩ : ∃ g, wd.heap.size = g := ⟨_, rfl⟩
       rw [hgx] at gb
       have GX := hid gb
       have GW : Hid (v8.heap.size ≤ gx) := hid (by rw [← hgx]; exact S0.size)
       have GE := hid hgx
       try rw [hgx]
       clear gb bg zg hgx hvg
       refine hK.out _ _ S1 (fun _ => ?_)
       clear hK K S0
       have S0 := S1
       clear S1
       try simp only [Act.put, pS]
       refine anyH_one9 (i := 3) (by kernel_rfl) rfl (fun K hK => ?_)
       go_simp
       refine (CO1.out _ S0).mono ?_
       rintro e va ⟨p, rfl, hp, p1, p2, p3, p4, hv⟩
       have S1 := S0.trans (hv.mono S0.size)
       have HP := hid (And.intro hp (And.intro p1 (And.intro p2 (And.intro p3 p4))))
       clear hp p1 p2 p3 p4
       have GX := hid (blk_keep GX.out hv)
       clear hv
       refine hK _ _ S1 ?_
       clear hK K S0
       have S0 := S1
       clear S1
       try simp only [Act.put, pS]
       refine anyH_one9 (i := 6) (by kernel_rfl) rfl (fun K hK => ?_)
       go_simp
       refine (CO2.out _ S0).mono ?_
       rintro e vb ⟨q, rfl, hq, q1, q2, q3, q4, hv⟩
       have S1 := S0.trans (hv.mono S0.size)
       have HQ := hid (And.intro hq (And.intro q1 (And.intro q2 (And.intro q3 q4))))
       have HP := hid (And.intro (HP.out.1.stay hv) HP.out.2)
       clear hq q1 q2 q3 q4
       have GX := hid (blk_keep GX.out hv)
       clear hv
       refine hK _ _ S1 ?_
       clear hK K S0
       have S0 := S1
       clear S1
       try simp only [Act.put, pS]
       refine anyH_one9 (i := 7) (by kernel_rfl) rfl (fun K hK => ?_)
       go_simp
       refine (ofJoin_c (c12_light LTA.out) (c12_light LTB.out) (c12_light LTC.out) (c12_ok OA.out) (c12_ok OB.out) (c12_ok OC.out) HP.out.1 HQ.out.1 HP.out.2.1 HP.out.2.2.1 HP.out.2.2.2.1 HP.out.2.2.2.2 HQ.out.2.1 HQ.out.2.2.1 HQ.out.2.2.2.1 HQ.out.2.2.2.2).mono ?_
       rintro e vc ⟨r, rfl, hr, r1, r2, r3, r4, hv⟩
       have S1 := S0.trans (hv.mono S0.size)
       have HJ := hid (And.intro hr (And.intro r1 (And.intro r2 (And.intro r3 r4))))
       clear hr r1 r2 r3 r4
       have GX := hid (blk_keep GX.out hv)
       clear hv
       refine hK _ _ S1 ?_
       clear hK K S0
       have S0 := S1
       clear S1
       try simp only [Act.put, pS]
       refine anyH_one9 (i := 8) (by kernel_rfl) rfl (fun K hK => ?_)
       go_simp
       have CP := joinApply_c (SAR.out.stay S0) LTA.out LTB.out LTC.out OA.out OB.out OC.out RA.out RB.out RC.out HLS.out HKS.out HJ.out.1 HP.out.2.1 HP.out.2.2.1 HP.out.2.2.2.1 HP.out.2.2.2.2 HQ.out.2.1 HQ.out.2.2.1 HQ.out.2.2.2.1 HQ.out.2.2.2.2 HJ.out.2.1 HJ.out.2.2.1 HJ.out.2.2.2.1 HJ.out.2.2.2.2
       unfold MSt.val at CP
       refine CP.mono ?_
       rintro e vd ⟨m, rfl, hm, hst, hv⟩
       have S1 := S0.trans (hv.mono S0.size)
       have HM := hid hm
       have ST := hid hst
       clear CP hm hst
       have GX := hid (blk_keep GX.out hv)
       clear hv
       refine hK _ _ S1 ?_
       clear hK K S0
       have S0 := S1
       clear S1
       try simp only [Act.put, pS]
       refine tkH 9 ?_ rfl (by kernel_rfl) rfl ?_ S0 ?_
       rotate_left
       ·intro u hu;skip;go_simp;try rfl
       try simp only [Act.put, pS]
       refine tkH 10 ?_ rfl (by kernel_rfl) rfl ?_ S0 ?_
       rotate_left
       ·intro u hu;skip;go_simp;try rfl
       try simp only [Act.put, pS]
       refine tkH 11 ?_ rfl (by kernel_rfl) rfl ?_ S0 ?_
       rotate_left
       ·intro u hu;skip;go_simp;try rfl
       try simp only [Act.put, pS]
       refine anyH_one9 (i := 13) (by kernel_rfl) rfl (fun K hK => ?_)
       have gq := GX.out
       obtain ⟨g0, g1⟩ := two_cells gq
       have gf0 := blk_free gq 0
       have gf1 := blk_free gq 1
       go_simp
       obtain ⟨vz, hvz⟩ : ∃ u, (vd.setCell ⟨gx, 0, none⟩ (.slice m.A m.ls.length m.c)).setCell ⟨gx, 1, none⟩ (.slice m.A2 m.ms.length m.c2) = u := ⟨_, rfl⟩
       try rw [hvz]
       obtain ⟨tz, gz, _, ez⟩ := st_set gq hvz
       have S1 : Below v8.heap.size v8 vz := S0.trans (ez _ GW.out)
       have HMZ := hid (HM.out.tch tz (by decide) (by decide) (by decide))
       have GZ := hid gz
       clear gq g0 g1 gf0 gf1 tz gz ez hvz
       refine hK _ _ S1 ?_
       clear hK K S0
       have S0 := S1
       clear S1
       try simp only [Act.put, pS]
       refine tkH 14 ?_ rfl (by kernel_rfl) rfl ?_ S0 ?_
       rotate_left
       ·intro u hu;skip;go_simp;try rfl
       try simp only [Act.put, pS]
       refine wpAnyH_done (by kernel_rfl) ?_ _
       go_wp2
       go_meet
       case rel => exact ⟨_, m, rfl, rfl, hid ⟨GZ.out, HMZ.out, ST.out, GW.out, S0⟩⟩
     case rest =>
      obtain ⟨g, m, rfl, rfl, HH⟩ := hcut
      have MS := hid HH.out.2.1.sm
      have BH := hid HH.out.2.2.2.2
      have SC6 := hid (SCR.out.stay BH.out)
      have GC6 := hid (blk_keep GCR.out BH.out)
      have GM := hid HH.out.1
      have CS := hid (refSameSt_c MS.out SC6.out (by rw [HH.out.2.2.1]; exact LTC.out.short) LTC.out.short (by rw [HH.out.2.2.1]; exact OC.out) OC.out)
      rw [HH.out.2.2.1, T9.same_refl] at CS
      unfold MSt.val at CS
      obtain ⟨g0, g1⟩ := two_cells GM.out
      obtain ⟨y0, y1⟩ := two_cells GC6.out
      go_wp2_with fail
      refine CS.out.mono ?_
      rintro e w7 ⟨rfl, h7⟩
      go_wp2_with fail
      go_ret
      exact ⟨rfl, B1.out.trans ((H8.out.trans ((BH.out.trans (h7.mono BH.out.size)).mono H8.out.size)).mono B1.out.size)⟩
end
end
end Go.Proofs.YtnhpkcphgdkdiaaGreat
