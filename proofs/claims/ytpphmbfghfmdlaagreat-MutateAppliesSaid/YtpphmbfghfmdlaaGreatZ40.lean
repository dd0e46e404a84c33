import Derived.Test.YtpphmbfghfmdlaaGreatZ38
import Derived.Test.YtpphmbfghfmdlaaGreatZ32
import Derived.Test.YtpphmbfghfmdlaaGreatZ37
namespace Go.Proofs.YtpphmbfghfmdlaaGreat
set_option linter.unusedSimpArgs false
set_option maxRecDepth 100000
section
open Go.RowKit Go.Lib
set_option maxHeartbeats 8000000 in
theorem x8 {ls : List T9.Li} {A : Option Addr} {n1 c : Nat} {ms : List MTk} {A2 : Option Addr} {n2 c2 : Nat} {id list f : Nat} {text : List UInt8} {flag : Bool} {w : World} (hS : DS ⟨ls, A, c, ms, A2, c2⟩ w) (hB : DB ⟨ls, tks ms⟩) (e1 : n1 = ls.length) (e2 : n2 = ms.length) :
  Calls Tryz.prog 32 #[.agg #[.slice A n1 c, .slice A2 n2 c2], .agg #[.int .i64 4, .int .u64 (id : Int), .int .u64 (list : Int), .string (str text), .float .f64 f, .bool flag]] w (jX ⟨ls, tks ms⟩ ⟨4, id, list, text, f, flag⟩ w) := by
 have E1 := hid e1
 have E2 := hid e2
 have HB := hid hB
 have N1 : Hid (n1 ≤ 1000) := hid (by rw [e1]; exact hB.n1)
 have N2 : Hid (n2 ≤ 1000) := hid (by have := hB.n2; rw [e2, ← aD]; exact this)
 obtain ⟨w1, hw1⟩ : ∃ u, w.alloc (.cells #[.slice A n1 c, .slice A2 n2 c2] 25) = u := ⟨_, rfl⟩
 obtain ⟨a1, b1, z1⟩ := au hw1
 obtain ⟨w2, hw2⟩ : ∃ u, w1.alloc (.cells #[.int .i64 4, .int .u64 (id : Int), .int .u64 (list : Int), .string (str text), .float .f64 f, .bool flag] 29) = u := ⟨_, rfl⟩
 obtain ⟨a2, b2, z2⟩ := aW hw2
 obtain ⟨w3, hw3⟩ : ∃ u, w2.alloc (.cells #[.slice none 0 0, .slice none 0 0] 25) = u := ⟨_, rfl⟩
 obtain ⟨a3, b3, z3⟩ := au hw3
 rw [z1] at a2
 rw [z2, z1] at a3
 have zz : w3.heap.size = w.heap.size + 3 := by omega
 have PB : Hid (w3.heap[w.heap.size]? = some (.cells #[.slice A n1 c, .slice A2 n2 c2] 25 (0, 0))) := hid (ae (ae a1 b2) b3)
 have MB : Hid (w3.heap[w.heap.size + 1]? = some (.cells #[.int .i64 4, .int .u64 (id : Int), .int .u64 (list : Int), .string (str text), .float .f64 f, .bool flag] 29 (0, 0))) := hid (ae a2 b3)
 have RB : Hid (w3.heap[w.heap.size + 2]? = some (.cells #[.slice none 0 0, .slice none 0 0] 25 (0, 0))) := hid a3
 have B3 : Hid (Below w.heap.size w w3) := hid ((b1.trans (b2.mono (by omega))).trans (b3.mono (by omega)))
 have D3 := hid (hS.stay B3.out)
 have C1 := hid (aX (A2 := A2) (n2 := n2) (c := c) (c2 := c2) (show LL w3 A ls from D3.out.l.old) e1 (by have := N1.out; omega) id)
 obtain ⟨p0, p1⟩ := aa PB.out
 obtain ⟨m0, m1, m2, m3, m4, m5⟩ := af MB.out
 have ZZ := hid zz
 have zx1 := z1
 have zx2 : w2.heap.size = w.heap.size + 2 := by omega
 clear hS hB e1 e2 a1 a2 a3 b1 b2 b3 z1 z2 z3 zz
 go_enter Tryz.func32, Tryz.ntmps32
 go_wp2_with fail
 refine C1.out.mono ?_
 rintro e w4 ⟨rfl, hb4⟩
 clear hw1 hw2 hw3 C1 zx1 zx2 p0 p1 m0 m1 m2 m3 m4 m5
 obtain ⟨i1, t1, hf1⟩ : ∃ i t, T9.aQ ls id = (⟨i, t⟩, T9.aZ ls id) := ⟨(T9.aQ ls id).1.id, (T9.aQ ls id).1.name, by rw [← a_]⟩
 rw [hf1]
 obtain ⟨w5, hw5⟩ : ∃ u, w4.alloc (.cells #[.int .u64 (i1 : Int), .string (str t1)] 51) = u := ⟨_, rfl⟩
 obtain ⟨-, b5, -⟩ := au hw5
 have B5 : Hid (Below w3.heap.size w3 w5) := hid (hb4.trans (b5.mono hb4.size))
 have C2 := hid (aX (A2 := A2) (n2 := n2) (c := c) (c2 := c2) (show LL w5 A ls from (D3.out.stay B5.out).l.old) E1.out (by have := N1.out; omega) list)
 obtain ⟨p0, p1⟩ := aa (ae PB.out B5.out)
 obtain ⟨m0, m1, m2, m3, m4, m5⟩ := af (ae MB.out B5.out)
 obtain ⟨p4, p5⟩ := aa (ae PB.out hb4)
 unfold aV
 dsimp only
 clear hf1 b5 hb4
 go_wp2_with fail
 refine C2.out.mono ?_
 rintro e w6 ⟨rfl, hb6⟩
 clear hw5 C2 p0 p1 p4 p5 m0 m1 m2 m3 m4 m5
 obtain ⟨i2, t2, hf2⟩ : ∃ i t, T9.aQ ls list = (⟨i, t⟩, T9.aZ ls list) := ⟨(T9.aQ ls list).1.id, (T9.aQ ls list).1.name, by rw [← a_]⟩
 rw [hf2]
 obtain ⟨w7, hw7⟩ : ∃ u, w6.alloc (.cells #[.int .u64 (i2 : Int), .string (str t2)] 51) = u := ⟨_, rfl⟩
 obtain ⟨-, b7, -⟩ := au hw7
 have B7 : Hid (Below w3.heap.size w3 w7) := hid (B5.out.trans ((hb6.trans (b7.mono hb6.size)).mono B5.out.size))
 have C3 := hid (bP (A := A) (n1 := n1) (c := c) (c2 := c2) (D3.out.stay B7.out).kl E2.out (by have := N2.out; omega) (D3.out.stay B7.out).t id)
 obtain ⟨p0, p1⟩ := aa (ae PB.out B7.out)
 obtain ⟨m0, m1, m2, m3, m4, m5⟩ := af (ae MB.out B7.out)
 unfold aV
 dsimp only
 clear hf2 b7 hb6
 go_wp2_with fail
 refine C3.out.mono ?_
 rintro e w8 ⟨⟨tk, A4, c4⟩, rfl, htk, hft, hb8⟩
 clear hw7 C3 p0 p1 m0 m1 m2 m3 m4 m5
 have HTK : Hid (tk = (T9.bT (tks ms) id).1) := hid htk
 rw [df]
 obtain ⟨w9, hw9⟩ : ∃ u, w8.alloc (.cells #[.int .u64 (tk.id : Int), .int .u64 (tk.list : Int), .string (str tk.title), .bool tk.done, .float .f64 tk.rank, .float .f64 tk.est, .slice A4 tk.tags.length c4] 56) = u := ⟨_, rfl⟩
 obtain ⟨lb9, b9, -⟩ := aU hw9
 have B9 : Hid (Below w3.heap.size w3 w9) := hid (B7.out.trans ((hb8.trans (b9.mono hb8.size)).mono B7.out.size))
 have LB := hid lb9
 have ZG : Hid (w.heap.size + 3 ≤ w8.heap.size ∧ w8.heap.size < w9.heap.size) := hid ⟨by have := ZZ.out; have := B7.out.size; have := hb8.size; omega, lt_of_block lb9⟩
 have FT := hid (hft.stay b9)
 have D9 := hid (D3.out.stay B9.out)
 have P9 := hid (ae PB.out B9.out)
 have M9 := hid (ae MB.out B9.out)
 have R9 := hid (ae RB.out B9.out)
 have BW := hid (B3.out.trans (B9.out.mono B3.out.size))
 obtain ⟨p0, p1⟩ := aa P9.out
 obtain ⟨m0, m1, m2, m3, m4, m5⟩ := af M9.out
 obtain ⟨r0, r1⟩ := aa R9.out
 have fr0 := ag R9.out 0
 have fr1 := ag R9.out 1
 unfold ax
 dsimp only
 clear htk hft hb8 lb9 b9 PB MB RB D3
 cases hhHH : T9.dh (tks ms) id with
 | false =>
  have HH := hid hhHH
  clear hhHH
  have V := hid (T9.iO (k := 4) (s := ⟨ls, tks ms⟩) (list := list) (f := f) (text := text) (flag := flag) (by omega) HH.out)
  have KB : Hid (((w9.setCell ⟨w.heap.size + 2, 0, none⟩ (.slice A n1 c)).setCell ⟨w.heap.size + 2, 1, none⟩ (.slice A2 n2 c2)).heap[w.heap.size + 2]? = some (.cells #[.slice A n1 c, .slice A2 n2 c2] 25 (0, 0))) := hid (ai (ai R9.out 0 _) 1 _)
  obtain ⟨k0, k1⟩ := aa KB.out
  go_wp2
  refine bodyPost_ret (v := .tuple #[.agg #[.slice A n1 c, .slice A2 n2 c2], .int .i64 (T9.doM ⟨ls, tks ms⟩ ⟨4, id, list, text, f, flag⟩).1]) (by rw [V.out]; simp [results, Tryz.results32, go_sem, k0, k1]) rfl ?_
  refine ⟨⟨ls, A, c, ms, A2, c2⟩, _, by rw [E1.out, E2.out]; rfl, rfl, (fun z => by rw [V.out] at z; cases z), ?_⟩
  exact (BW.out.setCell (by show w.heap.size ≤ w.heap.size + 2; omega) _).setCell (by show w.heap.size ≤ w.heap.size + 2; omega) _
 | true =>
  have HH := hid hhHH
  clear hhHH
  have C4 := hid (dJ (c := c2) D9.out.kl D9.out.t E2.out N2.out 0 false id)
  go_wp2_with fail
  refine C4.out.mono ?_
  rintro e w10 ⟨A10, c10, xs, rfl, l10, t10, lc10, za10, hts, hb10, ow10⟩
  clear C4 p0 p1 m0 m1 m2 m3 m4 m5 r0 r1 fr0 fr1 hw9
  have TS := hid hts
  have OW10 := hid ow10
  clear ow10
  obtain ⟨n10, hn10⟩ : ∃ z, xs.length = z := ⟨_, rfl⟩
  have HN10 := hid hn10
  rw [hn10]
  have P10 := ae P9.out hb10
  have R10 := ae R9.out hb10
  have M10 := ae M9.out hb10
  obtain ⟨q0, q1⟩ := aa P10
  have fp1 := ag P10 1
  obtain ⟨wa, hwa⟩ : ∃ u, w10.setCell ⟨w.heap.size, 1, none⟩ (.slice A10 n10 c10) = u := ⟨_, rfl⟩
  have PF : Hid (wa.heap[w.heap.size]? = some (.cells #[.slice A n1 c, .slice A10 n10 c10] 25 (0, 0))) := hid (by rw [← hwa]; exact ai P10 1 _)
  have RF : Hid (wa.heap[w.heap.size + 2]? = some (.cells #[.slice none 0 0, .slice none 0 0] 25 (0, 0))) := hid (by rw [← hwa]; exact ay R10 (p := ⟨w.heap.size, 1, none⟩) (by show w.heap.size + 2 ≠ w.heap.size; omega) _)
  have MF : Hid (wa.heap[w.heap.size + 1]? = some (.cells #[.int .i64 4, .int .u64 (id : Int), .int .u64 (list : Int), .string (str text), .float .f64 f, .bool flag] 29 (0, 0))) := hid (by rw [← hwa]; exact ay M10 (p := ⟨w.heap.size, 1, none⟩) (by show w.heap.size + 1 ≠ w.heap.size; omega) _)
  have yp : Ty w10 w.heap.size 25 := ⟨_, _, P10⟩
  have TA := (Tch.refl 0 [25] w10).aM (p := ⟨w.heap.size, 1, none⟩) yp (by simp) (Nat.zero_le _) (.slice A10 n10 c10)
  rw [hwa] at TA
  have D10 := D9.out.stay hb10
  have DX : DS ⟨ls, A, c, xs, A10, c10⟩ w10 := ⟨D10.l, l10, t10, D10.lc, lc10, D10.za, za10⟩
  have DF := hid (DX.tch TA (by decide) (by decide) (by decide))
  have BF : Hid (Below w.heap.size w wa) := hid (by rw [← hwa]; exact (BW.out.trans (hb10.mono BW.out.size)).setCell (Nat.le_refl _) _)
  have QV : Hid (Ending.returned (.tuple #[.agg #[.slice A n1 c, .slice A10 n10 c10], .int .i64 0]) = Ending.returned (.tuple #[(⟨ls, A, c, xs, A10, c10⟩ : MSt).val, .int .i64 0])) := hid (by rw [← hn10, E1.out]; rfl)
  have HB10 := hid hb10
  have YP := hid yp
  clear hb10 P10 R10 M10 yp TA D10 DX hn10 l10 lc10 za10 t10 hts
  obtain ⟨m0, m1, m2, m3, m4, m5⟩ := af MF.out
  have LBa : Hid (wa.heap[w8.heap.size]? = some (.cells #[.int .u64 (tk.id : Int), .int .u64 (tk.list : Int), .string (str tk.title), .bool tk.done, .float .f64 tk.rank, .float .f64 tk.est, .slice A4 tk.tags.length c4] 56 (0, 0))) := hid (by rw [← hwa]; exact ay (ae LB.out HB10.out) (p := ⟨w.heap.size, 1, none⟩) (by show w8.heap.size ≠ w.heap.size; have := ZG.out; omega) _)
  have FTa : Hid (ak wa 0 9 A4 (az tk.tags)) := hid (by rw [← hwa]; exact aA (bf FT.out.1 HB10.out) YP.out (by decide))
  have OWa : Hid (wa.ownsRow w9.heap.size 56 7 (.slice A10 n10 c10) n10 (ah xs)) := hid (by
   have o := OW10.out
   rw [HN10.out] at o
   refine bV o (fun z hz => ?_)
   have q := (bO o z hz).1
   have := ZG.out
   rw [← hwa]
   exact Below.heap_setCell _ ⟨w.heap.size, 1, none⟩ _ z (by show z ≠ w.heap.size; omega))
  obtain ⟨u0, u1, u2, u3, u4, u5, u6⟩ := aj LBa.out
  have fu := ag LBa.out 2
  obtain ⟨wb, hwb⟩ : ∃ u, wa.setCell ⟨w8.heap.size, 2, none⟩ (.string (str text)) = u := ⟨_, rfl⟩
  have LBb : Hid (wb.heap[w8.heap.size]? = some (.cells #[.int .u64 (tk.id : Int), .int .u64 (tk.list : Int), .string (str text), .bool tk.done, .float .f64 tk.rank, .float .f64 tk.est, .slice A4 tk.tags.length c4] 56 (0, 0))) := hid (by rw [← hwb]; exact ai LBa.out 2 _)
  have PBb : Hid (wb.heap[w.heap.size]? = some (.cells #[.slice A n1 c, .slice A10 n10 c10] 25 (0, 0))) := hid (by rw [← hwb]; exact ay PF.out (p := ⟨w8.heap.size, 2, none⟩) (by show w.heap.size ≠ w8.heap.size; have := ZG.out; omega) _)
  have RBb : Hid (wb.heap[w.heap.size + 2]? = some (.cells #[.slice none 0 0, .slice none 0 0] 25 (0, 0))) := hid (by rw [← hwb]; exact ay RF.out (p := ⟨w8.heap.size, 2, none⟩) (by show w.heap.size + 2 ≠ w8.heap.size; have := ZG.out; omega) _)
  have OWb : Hid (wb.ownsRow w9.heap.size 56 7 (.slice A10 n10 c10) n10 (ah xs)) := hid (bV OWa.out (fun z hz => by
   have q := (bO OWa.out z hz).1
   have := ZG.out
   rw [← hwb]
   exact Below.heap_setCell _ ⟨w8.heap.size, 2, none⟩ _ z (by show z ≠ w8.heap.size; omega)))
  have yt : Ty wa w8.heap.size 56 := ⟨_, _, LBa.out⟩
  have Tb : Hid (∀ m ∈ xs, m.bG wb) := hid fun m hm => by rw [← hwb]; exact ⟨aA (DF.out.t m hm).1 yt (by decide), (DF.out.t m hm).2⟩
  have Lb : Hid (ak wb 0 51 A (aF ls)) := hid (by rw [← hwb]; exact aA DF.out.l yt (by decide))
  have FTb : Hid ((⟨{ tk with title := text }, A4, c4⟩ : MTk).bG wb) := hid (by rw [← hwb]; exact ⟨aA FTa.out yt (by decide), FT.out.2⟩)
  have Bb : Hid (Below w.heap.size w wb) := hid (by rw [← hwb]; exact BF.out.setCell (by show w.heap.size ≤ w8.heap.size; have := ZG.out; omega) _)
  have N10 : Hid (n10 ≤ 1000) := hid (by
   rw [← HN10.out, ← aD, TS.out]
   exact Nat.le_trans (List.length_filter_le _ _) HB.out.n2)
  have C5 := hid (dB (x := (⟨{ tk with title := text }, A4, c4⟩ : MTk)) (aI (B := 0) OWb.out) Tb.out FTb.out HN10.out.symm (aJ OWb.out).2 DF.out.zk N10.out)
  dsimp only at C5
  obtain ⟨p0, p1⟩ := aa PBb.out
  obtain ⟨v0, v1, v2, v3, v4, v5, v6⟩ := aj LBb.out
  clear yt
  go_wp2_with fail
  refine C5.out.mono ?_
  rintro e w11 ⟨A11, c11, rfl, l11, t11, lc11, za11, hb11⟩
  clear C5 q0 q1 fp1 hwa hwb m0 m1 m2 m3 m4 m5 u0 u1 u2 u3 u4 u5 u6 fu p0 p1 v0 v1 v2 v3 v4 v5 v6 PF RF DF BF QV
  obtain ⟨ys, hys⟩ : ∃ z, Sr.ins ltM (⟨{ tk with title := text }, A4, c4⟩ : MTk) xs = z := ⟨_, rfl⟩
  rw [hys] at l11 t11 lc11 ⊢
  obtain ⟨n11, hn11⟩ : ∃ z, ys.length = z := ⟨_, rfl⟩
  rw [hn11]
  have P11 := ae PBb.out hb11
  have R11 := ae RBb.out hb11
  obtain ⟨q0, q1⟩ := aa P11
  have fp1 := ag P11 1
  obtain ⟨wc, hwc⟩ : ∃ u, w11.setCell ⟨w.heap.size, 1, none⟩ (.slice A11 n11 c11) = u := ⟨_, rfl⟩
  have PF : Hid (wc.heap[w.heap.size]? = some (.cells #[.slice A n1 c, .slice A11 n11 c11] 25 (0, 0))) := hid (by rw [← hwc]; exact ai P11 1 _)
  have RF : Hid (wc.heap[w.heap.size + 2]? = some (.cells #[.slice none 0 0, .slice none 0 0] 25 (0, 0))) := hid (by rw [← hwc]; exact ay R11 (p := ⟨w.heap.size, 1, none⟩) (by show w.heap.size + 2 ≠ w.heap.size; omega) _)
  have yp : Ty w11 w.heap.size 25 := ⟨_, _, P11⟩
  have TA := (Tch.refl 0 [25] w11).aM (p := ⟨w.heap.size, 1, none⟩) yp (by simp) (Nat.zero_le _) (.slice A11 n11 c11)
  rw [hwc] at TA
  have DX : DS ⟨ls, A, c, ys, A11, c11⟩ w11 := ⟨bf Lb.out hb11, l11, t11, D9.out.lc, lc11, D9.out.za, za11⟩
  have DF := hid (DX.tch TA (by decide) (by decide) (by decide))
  have BF : Hid (Below w.heap.size w wc) := hid (by rw [← hwc]; exact (Bb.out.trans (hb11.mono Bb.out.size)).setCell (Nat.le_refl _) _)
  have DM : Hid (T9.doM ⟨ls, tks ms⟩ ⟨4, id, list, text, f, flag⟩ = (0, ⟨ls, Sr.ins T9.ltK { tk with title := text } (T9.wo (tks ms) 0 false id)⟩)) := hid (by
   rw [T9.iQ (k := 4) (s := ⟨ls, tks ms⟩) (list := list) (f := f) (text := text) (flag := flag) (by omega) HH.out, ← HTK.out]
   simp [T9.chg])
  have QS : Hid ((⟨ls, A, c, ys, A11, c11⟩ : MSt).st = ⟨ls, Sr.ins T9.ltK { tk with title := text } (T9.wo (tks ms) 0 false id)⟩) := hid (by
   rw [← hys, ← TS.out]
   show (⟨ls, tks (Sr.ins ltM (⟨{ tk with title := text }, A4, c4⟩ : MTk) xs)⟩ : T9.St) = _
   rw [fO])
  have QV : Hid (Ending.returned (.tuple #[.agg #[.slice A n1 c, .slice A11 n11 c11], .int .i64 0]) = Ending.returned (.tuple #[(⟨ls, A, c, ys, A11, c11⟩ : MSt).val, .int .i64 0])) := hid (by rw [← hn11, E1.out]; rfl)
  clear hb11 P11 R11 yp TA DX hn11 l11 lc11 za11 t11 hys
  obtain ⟨p0, p1⟩ := aa PF.out
  obtain ⟨r0, r1⟩ := aa RF.out
  have fr0 := ag RF.out 0
  have fr1 := ag RF.out 1
  have KB : Hid (((wc.setCell ⟨w.heap.size + 2, 0, none⟩ (.slice A n1 c)).setCell ⟨w.heap.size + 2, 1, none⟩ (.slice A11 n11 c11)).heap[w.heap.size + 2]? = some (.cells #[.slice A n1 c, .slice A11 n11 c11] 25 (0, 0))) := hid (ai (ai RF.out 0 _) 1 _)
  have yr : Ty wc (w.heap.size + 2) 25 := ⟨_, _, RF.out⟩
  have TF := hid (((Tch.refl 0 [25] wc).aM (p := ⟨w.heap.size + 2, 0, none⟩) yr (by simp) (Nat.zero_le _) (.slice A n1 c)).aM (p := ⟨w.heap.size + 2, 1, none⟩) (yr.set _ _) (by simp) (Nat.zero_le _) (.slice A11 n11 c11))
  obtain ⟨k0, k1⟩ := aa KB.out
  clear yr
  go_wp2
  refine bodyPost_ret (v := .tuple #[.agg #[.slice A n1 c, .slice A11 n11 c11], .int .i64 0]) (by simp [results, Tryz.results32, go_sem, k0, k1]) rfl ?_
  refine ⟨⟨ls, A, c, ys, A11, c11⟩, 0, QV.out, by rw [DM.out], fun _ => ⟨by rw [DM.out]; exact QS.out, DF.out.tch TF.out (by decide) (by decide) (by decide)⟩, ?_⟩
  exact (BF.out.setCell (by show w.heap.size ≤ w.heap.size + 2; omega) _).setCell (by show w.heap.size ≤ w.heap.size + 2; omega) _
set_option maxHeartbeats 8000000 in
theorem wh {ls : List T9.Li} {A : Option Addr} {n1 c : Nat} {ms : List MTk} {A2 : Option Addr} {n2 c2 : Nat} {id list f : Nat} {text : List UInt8} {flag : Bool} {w : World} (hS : DS ⟨ls, A, c, ms, A2, c2⟩ w) (hB : DB ⟨ls, tks ms⟩) (e1 : n1 = ls.length) (e2 : n2 = ms.length) :
  Calls Tryz.prog 32 #[.agg #[.slice A n1 c, .slice A2 n2 c2], .agg #[.int .i64 5, .int .u64 (id : Int), .int .u64 (list : Int), .string (str text), .float .f64 f, .bool flag]] w (jX ⟨ls, tks ms⟩ ⟨5, id, list, text, f, flag⟩ w) := by
 have E1 := hid e1
 have E2 := hid e2
 have HB := hid hB
 have N1 : Hid (n1 ≤ 1000) := hid (by rw [e1]; exact hB.n1)
 have N2 : Hid (n2 ≤ 1000) := hid (by have := hB.n2; rw [e2, ← aD]; exact this)
 obtain ⟨w1, hw1⟩ : ∃ u, w.alloc (.cells #[.slice A n1 c, .slice A2 n2 c2] 25) = u := ⟨_, rfl⟩
 obtain ⟨a1, b1, z1⟩ := au hw1
 obtain ⟨w2, hw2⟩ : ∃ u, w1.alloc (.cells #[.int .i64 5, .int .u64 (id : Int), .int .u64 (list : Int), .string (str text), .float .f64 f, .bool flag] 29) = u := ⟨_, rfl⟩
 obtain ⟨a2, b2, z2⟩ := aW hw2
 obtain ⟨w3, hw3⟩ : ∃ u, w2.alloc (.cells #[.slice none 0 0, .slice none 0 0] 25) = u := ⟨_, rfl⟩
 obtain ⟨a3, b3, z3⟩ := au hw3
 rw [z1] at a2
 rw [z2, z1] at a3
 have zz : w3.heap.size = w.heap.size + 3 := by omega
 have PB : Hid (w3.heap[w.heap.size]? = some (.cells #[.slice A n1 c, .slice A2 n2 c2] 25 (0, 0))) := hid (ae (ae a1 b2) b3)
 have MB : Hid (w3.heap[w.heap.size + 1]? = some (.cells #[.int .i64 5, .int .u64 (id : Int), .int .u64 (list : Int), .string (str text), .float .f64 f, .bool flag] 29 (0, 0))) := hid (ae a2 b3)
 have RB : Hid (w3.heap[w.heap.size + 2]? = some (.cells #[.slice none 0 0, .slice none 0 0] 25 (0, 0))) := hid a3
 have B3 : Hid (Below w.heap.size w w3) := hid ((b1.trans (b2.mono (by omega))).trans (b3.mono (by omega)))
 have D3 := hid (hS.stay B3.out)
 have C1 := hid (aX (A2 := A2) (n2 := n2) (c := c) (c2 := c2) (show LL w3 A ls from D3.out.l.old) e1 (by have := N1.out; omega) id)
 obtain ⟨p0, p1⟩ := aa PB.out
 obtain ⟨m0, m1, m2, m3, m4, m5⟩ := af MB.out
 have ZZ := hid zz
 have zx1 := z1
 have zx2 : w2.heap.size = w.heap.size + 2 := by omega
 clear hS hB e1 e2 a1 a2 a3 b1 b2 b3 z1 z2 z3 zz
 go_enter Tryz.func32, Tryz.ntmps32
 go_wp2_with fail
 refine C1.out.mono ?_
 rintro e w4 ⟨rfl, hb4⟩
 clear hw1 hw2 hw3 C1 zx1 zx2 p0 p1 m0 m1 m2 m3 m4 m5
 obtain ⟨i1, t1, hf1⟩ : ∃ i t, T9.aQ ls id = (⟨i, t⟩, T9.aZ ls id) := ⟨(T9.aQ ls id).1.id, (T9.aQ ls id).1.name, by rw [← a_]⟩
 rw [hf1]
 obtain ⟨w5, hw5⟩ : ∃ u, w4.alloc (.cells #[.int .u64 (i1 : Int), .string (str t1)] 51) = u := ⟨_, rfl⟩
 obtain ⟨-, b5, -⟩ := au hw5
 have B5 : Hid (Below w3.heap.size w3 w5) := hid (hb4.trans (b5.mono hb4.size))
 have C2 := hid (aX (A2 := A2) (n2 := n2) (c := c) (c2 := c2) (show LL w5 A ls from (D3.out.stay B5.out).l.old) E1.out (by have := N1.out; omega) list)
 obtain ⟨p0, p1⟩ := aa (ae PB.out B5.out)
 obtain ⟨m0, m1, m2, m3, m4, m5⟩ := af (ae MB.out B5.out)
 obtain ⟨p4, p5⟩ := aa (ae PB.out hb4)
 unfold aV
 dsimp only
 clear hf1 b5 hb4
 go_wp2_with fail
 refine C2.out.mono ?_
 rintro e w6 ⟨rfl, hb6⟩
 clear hw5 C2 p0 p1 p4 p5 m0 m1 m2 m3 m4 m5
 obtain ⟨i2, t2, hf2⟩ : ∃ i t, T9.aQ ls list = (⟨i, t⟩, T9.aZ ls list) := ⟨(T9.aQ ls list).1.id, (T9.aQ ls list).1.name, by rw [← a_]⟩
 rw [hf2]
 obtain ⟨w7, hw7⟩ : ∃ u, w6.alloc (.cells #[.int .u64 (i2 : Int), .string (str t2)] 51) = u := ⟨_, rfl⟩
 obtain ⟨-, b7, -⟩ := au hw7
 have B7 : Hid (Below w3.heap.size w3 w7) := hid (B5.out.trans ((hb6.trans (b7.mono hb6.size)).mono B5.out.size))
 have C3 := hid (bP (A := A) (n1 := n1) (c := c) (c2 := c2) (D3.out.stay B7.out).kl E2.out (by have := N2.out; omega) (D3.out.stay B7.out).t id)
 obtain ⟨p0, p1⟩ := aa (ae PB.out B7.out)
 obtain ⟨m0, m1, m2, m3, m4, m5⟩ := af (ae MB.out B7.out)
 unfold aV
 dsimp only
 clear hf2 b7 hb6
 go_wp2_with fail
 refine C3.out.mono ?_
 rintro e w8 ⟨⟨tk, A4, c4⟩, rfl, htk, hft, hb8⟩
 clear hw7 C3 p0 p1 m0 m1 m2 m3 m4 m5
 have HTK : Hid (tk = (T9.bT (tks ms) id).1) := hid htk
 rw [df]
 obtain ⟨w9, hw9⟩ : ∃ u, w8.alloc (.cells #[.int .u64 (tk.id : Int), .int .u64 (tk.list : Int), .string (str tk.title), .bool tk.done, .float .f64 tk.rank, .float .f64 tk.est, .slice A4 tk.tags.length c4] 56) = u := ⟨_, rfl⟩
 obtain ⟨lb9, b9, -⟩ := aU hw9
 have B9 : Hid (Below w3.heap.size w3 w9) := hid (B7.out.trans ((hb8.trans (b9.mono hb8.size)).mono B7.out.size))
 have LB := hid lb9
 have ZG : Hid (w.heap.size + 3 ≤ w8.heap.size ∧ w8.heap.size < w9.heap.size) := hid ⟨by have := ZZ.out; have := B7.out.size; have := hb8.size; omega, lt_of_block lb9⟩
 have FT := hid (hft.stay b9)
 have D9 := hid (D3.out.stay B9.out)
 have P9 := hid (ae PB.out B9.out)
 have M9 := hid (ae MB.out B9.out)
 have R9 := hid (ae RB.out B9.out)
 have BW := hid (B3.out.trans (B9.out.mono B3.out.size))
 obtain ⟨p0, p1⟩ := aa P9.out
 obtain ⟨m0, m1, m2, m3, m4, m5⟩ := af M9.out
 obtain ⟨r0, r1⟩ := aa R9.out
 have fr0 := ag R9.out 0
 have fr1 := ag R9.out 1
 unfold ax
 dsimp only
 clear htk hft hb8 lb9 b9 PB MB RB D3
 cases hhHH : T9.dh (tks ms) id with
 | false =>
  have HH := hid hhHH
  clear hhHH
  have V := hid (T9.iO (k := 5) (s := ⟨ls, tks ms⟩) (list := list) (f := f) (text := text) (flag := flag) (by omega) HH.out)
  have KB : Hid (((w9.setCell ⟨w.heap.size + 2, 0, none⟩ (.slice A n1 c)).setCell ⟨w.heap.size + 2, 1, none⟩ (.slice A2 n2 c2)).heap[w.heap.size + 2]? = some (.cells #[.slice A n1 c, .slice A2 n2 c2] 25 (0, 0))) := hid (ai (ai R9.out 0 _) 1 _)
  obtain ⟨k0, k1⟩ := aa KB.out
  go_wp2
  refine bodyPost_ret (v := .tuple #[.agg #[.slice A n1 c, .slice A2 n2 c2], .int .i64 (T9.doM ⟨ls, tks ms⟩ ⟨5, id, list, text, f, flag⟩).1]) (by rw [V.out]; simp [results, Tryz.results32, go_sem, k0, k1]) rfl ?_
  refine ⟨⟨ls, A, c, ms, A2, c2⟩, _, by rw [E1.out, E2.out]; rfl, rfl, (fun z => by rw [V.out] at z; cases z), ?_⟩
  exact (BW.out.setCell (by show w.heap.size ≤ w.heap.size + 2; omega) _).setCell (by show w.heap.size ≤ w.heap.size + 2; omega) _
 | true =>
  have HH := hid hhHH
  clear hhHH
  have C4 := hid (dJ (c := c2) D9.out.kl D9.out.t E2.out N2.out 0 false id)
  go_wp2_with fail
  refine C4.out.mono ?_
  rintro e w10 ⟨A10, c10, xs, rfl, l10, t10, lc10, za10, hts, hb10, ow10⟩
  clear C4 p0 p1 m0 m1 m2 m3 m4 m5 r0 r1 fr0 fr1 hw9
  have TS := hid hts
  have OW10 := hid ow10
  clear ow10
  obtain ⟨n10, hn10⟩ : ∃ z, xs.length = z := ⟨_, rfl⟩
  have HN10 := hid hn10
  rw [hn10]
  have P10 := ae P9.out hb10
  have R10 := ae R9.out hb10
  have M10 := ae M9.out hb10
  obtain ⟨q0, q1⟩ := aa P10
  have fp1 := ag P10 1
  obtain ⟨wa, hwa⟩ : ∃ u, w10.setCell ⟨w.heap.size, 1, none⟩ (.slice A10 n10 c10) = u := ⟨_, rfl⟩
  have PF : Hid (wa.heap[w.heap.size]? = some (.cells #[.slice A n1 c, .slice A10 n10 c10] 25 (0, 0))) := hid (by rw [← hwa]; exact ai P10 1 _)
  have RF : Hid (wa.heap[w.heap.size + 2]? = some (.cells #[.slice none 0 0, .slice none 0 0] 25 (0, 0))) := hid (by rw [← hwa]; exact ay R10 (p := ⟨w.heap.size, 1, none⟩) (by show w.heap.size + 2 ≠ w.heap.size; omega) _)
  have MF : Hid (wa.heap[w.heap.size + 1]? = some (.cells #[.int .i64 5, .int .u64 (id : Int), .int .u64 (list : Int), .string (str text), .float .f64 f, .bool flag] 29 (0, 0))) := hid (by rw [← hwa]; exact ay M10 (p := ⟨w.heap.size, 1, none⟩) (by show w.heap.size + 1 ≠ w.heap.size; omega) _)
  have yp : Ty w10 w.heap.size 25 := ⟨_, _, P10⟩
  have TA := (Tch.refl 0 [25] w10).aM (p := ⟨w.heap.size, 1, none⟩) yp (by simp) (Nat.zero_le _) (.slice A10 n10 c10)
  rw [hwa] at TA
  have D10 := D9.out.stay hb10
  have DX : DS ⟨ls, A, c, xs, A10, c10⟩ w10 := ⟨D10.l, l10, t10, D10.lc, lc10, D10.za, za10⟩
  have DF := hid (DX.tch TA (by decide) (by decide) (by decide))
  have BF : Hid (Below w.heap.size w wa) := hid (by rw [← hwa]; exact (BW.out.trans (hb10.mono BW.out.size)).setCell (Nat.le_refl _) _)
  have QV : Hid (Ending.returned (.tuple #[.agg #[.slice A n1 c, .slice A10 n10 c10], .int .i64 0]) = Ending.returned (.tuple #[(⟨ls, A, c, xs, A10, c10⟩ : MSt).val, .int .i64 0])) := hid (by rw [← hn10, E1.out]; rfl)
  have HB10 := hid hb10
  have YP := hid yp
  clear hb10 P10 R10 M10 yp TA D10 DX hn10 l10 lc10 za10 t10 hts
  obtain ⟨m0, m1, m2, m3, m4, m5⟩ := af MF.out
  have LBa : Hid (wa.heap[w8.heap.size]? = some (.cells #[.int .u64 (tk.id : Int), .int .u64 (tk.list : Int), .string (str tk.title), .bool tk.done, .float .f64 tk.rank, .float .f64 tk.est, .slice A4 tk.tags.length c4] 56 (0, 0))) := hid (by rw [← hwa]; exact ay (ae LB.out HB10.out) (p := ⟨w.heap.size, 1, none⟩) (by show w8.heap.size ≠ w.heap.size; have := ZG.out; omega) _)
  have FTa : Hid (ak wa 0 9 A4 (az tk.tags)) := hid (by rw [← hwa]; exact aA (bf FT.out.1 HB10.out) YP.out (by decide))
  have OWa : Hid (wa.ownsRow w9.heap.size 56 7 (.slice A10 n10 c10) n10 (ah xs)) := hid (by
   have o := OW10.out
   rw [HN10.out] at o
   refine bV o (fun z hz => ?_)
   have q := (bO o z hz).1
   have := ZG.out
   rw [← hwa]
   exact Below.heap_setCell _ ⟨w.heap.size, 1, none⟩ _ z (by show z ≠ w.heap.size; omega))
  obtain ⟨u0, u1, u2, u3, u4, u5, u6⟩ := aj LBa.out
  have fu := ag LBa.out 3
  obtain ⟨wb, hwb⟩ : ∃ u, wa.setCell ⟨w8.heap.size, 3, none⟩ (.bool flag) = u := ⟨_, rfl⟩
  have LBb : Hid (wb.heap[w8.heap.size]? = some (.cells #[.int .u64 (tk.id : Int), .int .u64 (tk.list : Int), .string (str tk.title), .bool flag, .float .f64 tk.rank, .float .f64 tk.est, .slice A4 tk.tags.length c4] 56 (0, 0))) := hid (by rw [← hwb]; exact ai LBa.out 3 _)
  have PBb : Hid (wb.heap[w.heap.size]? = some (.cells #[.slice A n1 c, .slice A10 n10 c10] 25 (0, 0))) := hid (by rw [← hwb]; exact ay PF.out (p := ⟨w8.heap.size, 3, none⟩) (by show w.heap.size ≠ w8.heap.size; have := ZG.out; omega) _)
  have RBb : Hid (wb.heap[w.heap.size + 2]? = some (.cells #[.slice none 0 0, .slice none 0 0] 25 (0, 0))) := hid (by rw [← hwb]; exact ay RF.out (p := ⟨w8.heap.size, 3, none⟩) (by show w.heap.size + 2 ≠ w8.heap.size; have := ZG.out; omega) _)
  have OWb : Hid (wb.ownsRow w9.heap.size 56 7 (.slice A10 n10 c10) n10 (ah xs)) := hid (bV OWa.out (fun z hz => by
   have q := (bO OWa.out z hz).1
   have := ZG.out
   rw [← hwb]
   exact Below.heap_setCell _ ⟨w8.heap.size, 3, none⟩ _ z (by show z ≠ w8.heap.size; omega)))
  have yt : Ty wa w8.heap.size 56 := ⟨_, _, LBa.out⟩
  have Tb : Hid (∀ m ∈ xs, m.bG wb) := hid fun m hm => by rw [← hwb]; exact ⟨aA (DF.out.t m hm).1 yt (by decide), (DF.out.t m hm).2⟩
  have Lb : Hid (ak wb 0 51 A (aF ls)) := hid (by rw [← hwb]; exact aA DF.out.l yt (by decide))
  have FTb : Hid ((⟨{ tk with done := flag }, A4, c4⟩ : MTk).bG wb) := hid (by rw [← hwb]; exact ⟨aA FTa.out yt (by decide), FT.out.2⟩)
  have Bb : Hid (Below w.heap.size w wb) := hid (by rw [← hwb]; exact BF.out.setCell (by show w.heap.size ≤ w8.heap.size; have := ZG.out; omega) _)
  have N10 : Hid (n10 ≤ 1000) := hid (by
   rw [← HN10.out, ← aD, TS.out]
   exact Nat.le_trans (List.length_filter_le _ _) HB.out.n2)
  have C5 := hid (dB (x := (⟨{ tk with done := flag }, A4, c4⟩ : MTk)) (aI (B := 0) OWb.out) Tb.out FTb.out HN10.out.symm (aJ OWb.out).2 DF.out.zk N10.out)
  dsimp only at C5
  obtain ⟨p0, p1⟩ := aa PBb.out
  obtain ⟨v0, v1, v2, v3, v4, v5, v6⟩ := aj LBb.out
  clear yt
  go_wp2_with fail
  refine C5.out.mono ?_
  rintro e w11 ⟨A11, c11, rfl, l11, t11, lc11, za11, hb11⟩
  clear C5 q0 q1 fp1 hwa hwb m0 m1 m2 m3 m4 m5 u0 u1 u2 u3 u4 u5 u6 fu p0 p1 v0 v1 v2 v3 v4 v5 v6 PF RF DF BF QV
  obtain ⟨ys, hys⟩ : ∃ z, Sr.ins ltM (⟨{ tk with done := flag }, A4, c4⟩ : MTk) xs = z := ⟨_, rfl⟩
  rw [hys] at l11 t11 lc11 ⊢
  obtain ⟨n11, hn11⟩ : ∃ z, ys.length = z := ⟨_, rfl⟩
  rw [hn11]
  have P11 := ae PBb.out hb11
  have R11 := ae RBb.out hb11
  obtain ⟨q0, q1⟩ := aa P11
  have fp1 := ag P11 1
  obtain ⟨wc, hwc⟩ : ∃ u, w11.setCell ⟨w.heap.size, 1, none⟩ (.slice A11 n11 c11) = u := ⟨_, rfl⟩
  have PF : Hid (wc.heap[w.heap.size]? = some (.cells #[.slice A n1 c, .slice A11 n11 c11] 25 (0, 0))) := hid (by rw [← hwc]; exact ai P11 1 _)
  have RF : Hid (wc.heap[w.heap.size + 2]? = some (.cells #[.slice none 0 0, .slice none 0 0] 25 (0, 0))) := hid (by rw [← hwc]; exact ay R11 (p := ⟨w.heap.size, 1, none⟩) (by show w.heap.size + 2 ≠ w.heap.size; omega) _)
  have yp : Ty w11 w.heap.size 25 := ⟨_, _, P11⟩
  have TA := (Tch.refl 0 [25] w11).aM (p := ⟨w.heap.size, 1, none⟩) yp (by simp) (Nat.zero_le _) (.slice A11 n11 c11)
  rw [hwc] at TA
  have DX : DS ⟨ls, A, c, ys, A11, c11⟩ w11 := ⟨bf Lb.out hb11, l11, t11, D9.out.lc, lc11, D9.out.za, za11⟩
  have DF := hid (DX.tch TA (by decide) (by decide) (by decide))
  have BF : Hid (Below w.heap.size w wc) := hid (by rw [← hwc]; exact (Bb.out.trans (hb11.mono Bb.out.size)).setCell (Nat.le_refl _) _)
  have DM : Hid (T9.doM ⟨ls, tks ms⟩ ⟨5, id, list, text, f, flag⟩ = (0, ⟨ls, Sr.ins T9.ltK { tk with done := flag } (T9.wo (tks ms) 0 false id)⟩)) := hid (by
   rw [T9.iQ (k := 5) (s := ⟨ls, tks ms⟩) (list := list) (f := f) (text := text) (flag := flag) (by omega) HH.out, ← HTK.out]
   simp [T9.chg])
  have QS : Hid ((⟨ls, A, c, ys, A11, c11⟩ : MSt).st = ⟨ls, Sr.ins T9.ltK { tk with done := flag } (T9.wo (tks ms) 0 false id)⟩) := hid (by
   rw [← hys, ← TS.out]
   show (⟨ls, tks (Sr.ins ltM (⟨{ tk with done := flag }, A4, c4⟩ : MTk) xs)⟩ : T9.St) = _
   rw [fO])
  have QV : Hid (Ending.returned (.tuple #[.agg #[.slice A n1 c, .slice A11 n11 c11], .int .i64 0]) = Ending.returned (.tuple #[(⟨ls, A, c, ys, A11, c11⟩ : MSt).val, .int .i64 0])) := hid (by rw [← hn11, E1.out]; rfl)
  clear hb11 P11 R11 yp TA DX hn11 l11 lc11 za11 t11 hys
  obtain ⟨p0, p1⟩ := aa PF.out
  obtain ⟨r0, r1⟩ := aa RF.out
  have fr0 := ag RF.out 0
  have fr1 := ag RF.out 1
  have KB : Hid (((wc.setCell ⟨w.heap.size + 2, 0, none⟩ (.slice A n1 c)).setCell ⟨w.heap.size + 2, 1, none⟩ (.slice A11 n11 c11)).heap[w.heap.size + 2]? = some (.cells #[.slice A n1 c, .slice A11 n11 c11] 25 (0, 0))) := hid (ai (ai RF.out 0 _) 1 _)
  have yr : Ty wc (w.heap.size + 2) 25 := ⟨_, _, RF.out⟩
  have TF := hid (((Tch.refl 0 [25] wc).aM (p := ⟨w.heap.size + 2, 0, none⟩) yr (by simp) (Nat.zero_le _) (.slice A n1 c)).aM (p := ⟨w.heap.size + 2, 1, none⟩) (yr.set _ _) (by simp) (Nat.zero_le _) (.slice A11 n11 c11))
  obtain ⟨k0, k1⟩ := aa KB.out
  clear yr
  go_wp2
  refine bodyPost_ret (v := .tuple #[.agg #[.slice A n1 c, .slice A11 n11 c11], .int .i64 0]) (by simp [results, Tryz.results32, go_sem, k0, k1]) rfl ?_
  refine ⟨⟨ls, A, c, ys, A11, c11⟩, 0, QV.out, by rw [DM.out], fun _ => ⟨by rw [DM.out]; exact QS.out, DF.out.tch TF.out (by decide) (by decide) (by decide)⟩, ?_⟩
  exact (BF.out.setCell (by show w.heap.size ≤ w.heap.size + 2; omega) _).setCell (by show w.heap.size ≤ w.heap.size + 2; omega) _
set_option maxHeartbeats 8000000 in
theorem yO {ls : List T9.Li} {A : Option Addr} {n1 c : Nat} {ms : List MTk} {A2 : Option Addr} {n2 c2 : Nat} {id list f : Nat} {text : List UInt8} {flag : Bool} {w : World} (hS : DS ⟨ls, A, c, ms, A2, c2⟩ w) (hB : DB ⟨ls, tks ms⟩) (e1 : n1 = ls.length) (e2 : n2 = ms.length) :
  Calls Tryz.prog 32 #[.agg #[.slice A n1 c, .slice A2 n2 c2], .agg #[.int .i64 7, .int .u64 (id : Int), .int .u64 (list : Int), .string (str text), .float .f64 f, .bool flag]] w (jX ⟨ls, tks ms⟩ ⟨7, id, list, text, f, flag⟩ w) := by
 have E1 := hid e1
 have E2 := hid e2
 have HB := hid hB
 have N1 : Hid (n1 ≤ 1000) := hid (by rw [e1]; exact hB.n1)
 have N2 : Hid (n2 ≤ 1000) := hid (by have := hB.n2; rw [e2, ← aD]; exact this)
 obtain ⟨w1, hw1⟩ : ∃ u, w.alloc (.cells #[.slice A n1 c, .slice A2 n2 c2] 25) = u := ⟨_, rfl⟩
 obtain ⟨a1, b1, z1⟩ := au hw1
 obtain ⟨w2, hw2⟩ : ∃ u, w1.alloc (.cells #[.int .i64 7, .int .u64 (id : Int), .int .u64 (list : Int), .string (str text), .float .f64 f, .bool flag] 29) = u := ⟨_, rfl⟩
 obtain ⟨a2, b2, z2⟩ := aW hw2
 obtain ⟨w3, hw3⟩ : ∃ u, w2.alloc (.cells #[.slice none 0 0, .slice none 0 0] 25) = u := ⟨_, rfl⟩
 obtain ⟨a3, b3, z3⟩ := au hw3
 rw [z1] at a2
 rw [z2, z1] at a3
 have zz : w3.heap.size = w.heap.size + 3 := by omega
 have PB : Hid (w3.heap[w.heap.size]? = some (.cells #[.slice A n1 c, .slice A2 n2 c2] 25 (0, 0))) := hid (ae (ae a1 b2) b3)
 have MB : Hid (w3.heap[w.heap.size + 1]? = some (.cells #[.int .i64 7, .int .u64 (id : Int), .int .u64 (list : Int), .string (str text), .float .f64 f, .bool flag] 29 (0, 0))) := hid (ae a2 b3)
 have RB : Hid (w3.heap[w.heap.size + 2]? = some (.cells #[.slice none 0 0, .slice none 0 0] 25 (0, 0))) := hid a3
 have B3 : Hid (Below w.heap.size w w3) := hid ((b1.trans (b2.mono (by omega))).trans (b3.mono (by omega)))
 have D3 := hid (hS.stay B3.out)
 have C1 := hid (aX (A2 := A2) (n2 := n2) (c := c) (c2 := c2) (show LL w3 A ls from D3.out.l.old) e1 (by have := N1.out; omega) id)
 obtain ⟨p0, p1⟩ := aa PB.out
 obtain ⟨m0, m1, m2, m3, m4, m5⟩ := af MB.out
 have ZZ := hid zz
 have zx1 := z1
 have zx2 : w2.heap.size = w.heap.size + 2 := by omega
 clear hS hB e1 e2 a1 a2 a3 b1 b2 b3 z1 z2 z3 zz
 go_enter Tryz.func32, Tryz.ntmps32
 go_wp2_with fail
 refine C1.out.mono ?_
 rintro e w4 ⟨rfl, hb4⟩
 clear hw1 hw2 hw3 C1 zx1 zx2 p0 p1 m0 m1 m2 m3 m4 m5
 obtain ⟨i1, t1, hf1⟩ : ∃ i t, T9.aQ ls id = (⟨i, t⟩, T9.aZ ls id) := ⟨(T9.aQ ls id).1.id, (T9.aQ ls id).1.name, by rw [← a_]⟩
 rw [hf1]
 obtain ⟨w5, hw5⟩ : ∃ u, w4.alloc (.cells #[.int .u64 (i1 : Int), .string (str t1)] 51) = u := ⟨_, rfl⟩
 obtain ⟨-, b5, -⟩ := au hw5
 have B5 : Hid (Below w3.heap.size w3 w5) := hid (hb4.trans (b5.mono hb4.size))
 have C2 := hid (aX (A2 := A2) (n2 := n2) (c := c) (c2 := c2) (show LL w5 A ls from (D3.out.stay B5.out).l.old) E1.out (by have := N1.out; omega) list)
 obtain ⟨p0, p1⟩ := aa (ae PB.out B5.out)
 obtain ⟨m0, m1, m2, m3, m4, m5⟩ := af (ae MB.out B5.out)
 obtain ⟨p4, p5⟩ := aa (ae PB.out hb4)
 unfold aV
 dsimp only
 clear hf1 b5 hb4
 go_wp2_with fail
 refine C2.out.mono ?_
 rintro e w6 ⟨rfl, hb6⟩
 clear hw5 C2 p0 p1 p4 p5 m0 m1 m2 m3 m4 m5
 obtain ⟨i2, t2, hf2⟩ : ∃ i t, T9.aQ ls list = (⟨i, t⟩, T9.aZ ls list) := ⟨(T9.aQ ls list).1.id, (T9.aQ ls list).1.name, by rw [← a_]⟩
 rw [hf2]
 obtain ⟨w7, hw7⟩ : ∃ u, w6.alloc (.cells #[.int .u64 (i2 : Int), .string (str t2)] 51) = u := ⟨_, rfl⟩
 obtain ⟨-, b7, -⟩ := au hw7
 have B7 : Hid (Below w3.heap.size w3 w7) := hid (B5.out.trans ((hb6.trans (b7.mono hb6.size)).mono B5.out.size))
 have C3 := hid (bP (A := A) (n1 := n1) (c := c) (c2 := c2) (D3.out.stay B7.out).kl E2.out (by have := N2.out; omega) (D3.out.stay B7.out).t id)
 obtain ⟨p0, p1⟩ := aa (ae PB.out B7.out)
 obtain ⟨m0, m1, m2, m3, m4, m5⟩ := af (ae MB.out B7.out)
 unfold aV
 dsimp only
 clear hf2 b7 hb6
 go_wp2_with fail
 refine C3.out.mono ?_
 rintro e w8 ⟨⟨tk, A4, c4⟩, rfl, htk, hft, hb8⟩
 clear hw7 C3 p0 p1 m0 m1 m2 m3 m4 m5
 have HTK : Hid (tk = (T9.bT (tks ms) id).1) := hid htk
 rw [df]
 obtain ⟨w9, hw9⟩ : ∃ u, w8.alloc (.cells #[.int .u64 (tk.id : Int), .int .u64 (tk.list : Int), .string (str tk.title), .bool tk.done, .float .f64 tk.rank, .float .f64 tk.est, .slice A4 tk.tags.length c4] 56) = u := ⟨_, rfl⟩
 obtain ⟨lb9, b9, -⟩ := aU hw9
 have B9 : Hid (Below w3.heap.size w3 w9) := hid (B7.out.trans ((hb8.trans (b9.mono hb8.size)).mono B7.out.size))
 have LB := hid lb9
 have ZG : Hid (w.heap.size + 3 ≤ w8.heap.size ∧ w8.heap.size < w9.heap.size) := hid ⟨by have := ZZ.out; have := B7.out.size; have := hb8.size; omega, lt_of_block lb9⟩
 have FT := hid (hft.stay b9)
 have D9 := hid (D3.out.stay B9.out)
 have P9 := hid (ae PB.out B9.out)
 have M9 := hid (ae MB.out B9.out)
 have R9 := hid (ae RB.out B9.out)
 have BW := hid (B3.out.trans (B9.out.mono B3.out.size))
 obtain ⟨p0, p1⟩ := aa P9.out
 obtain ⟨m0, m1, m2, m3, m4, m5⟩ := af M9.out
 obtain ⟨r0, r1⟩ := aa R9.out
 have fr0 := ag R9.out 0
 have fr1 := ag R9.out 1
 unfold ax
 dsimp only
 clear htk hft hb8 lb9 b9 PB MB RB D3
 cases hhHH : T9.dh (tks ms) id with
 | false =>
  have HH := hid hhHH
  clear hhHH
  have V := hid (T9.iO (k := 7) (s := ⟨ls, tks ms⟩) (list := list) (f := f) (text := text) (flag := flag) (by omega) HH.out)
  have KB : Hid (((w9.setCell ⟨w.heap.size + 2, 0, none⟩ (.slice A n1 c)).setCell ⟨w.heap.size + 2, 1, none⟩ (.slice A2 n2 c2)).heap[w.heap.size + 2]? = some (.cells #[.slice A n1 c, .slice A2 n2 c2] 25 (0, 0))) := hid (ai (ai R9.out 0 _) 1 _)
  obtain ⟨k0, k1⟩ := aa KB.out
  go_wp2
  refine bodyPost_ret (v := .tuple #[.agg #[.slice A n1 c, .slice A2 n2 c2], .int .i64 (T9.doM ⟨ls, tks ms⟩ ⟨7, id, list, text, f, flag⟩).1]) (by rw [V.out]; simp [results, Tryz.results32, go_sem, k0, k1]) rfl ?_
  refine ⟨⟨ls, A, c, ms, A2, c2⟩, _, by rw [E1.out, E2.out]; rfl, rfl, (fun z => by rw [V.out] at z; cases z), ?_⟩
  exact (BW.out.setCell (by show w.heap.size ≤ w.heap.size + 2; omega) _).setCell (by show w.heap.size ≤ w.heap.size + 2; omega) _
 | true =>
  have HH := hid hhHH
  clear hhHH
  have C4 := hid (dJ (c := c2) D9.out.kl D9.out.t E2.out N2.out 0 false id)
  go_wp2_with fail
  refine C4.out.mono ?_
  rintro e w10 ⟨A10, c10, xs, rfl, l10, t10, lc10, za10, hts, hb10, ow10⟩
  clear C4 p0 p1 m0 m1 m2 m3 m4 m5 r0 r1 fr0 fr1 hw9
  have TS := hid hts
  have OW10 := hid ow10
  clear ow10
  obtain ⟨n10, hn10⟩ : ∃ z, xs.length = z := ⟨_, rfl⟩
  have HN10 := hid hn10
  rw [hn10]
  have P10 := ae P9.out hb10
  have R10 := ae R9.out hb10
  have M10 := ae M9.out hb10
  obtain ⟨q0, q1⟩ := aa P10
  have fp1 := ag P10 1
  obtain ⟨wa, hwa⟩ : ∃ u, w10.setCell ⟨w.heap.size, 1, none⟩ (.slice A10 n10 c10) = u := ⟨_, rfl⟩
  have PF : Hid (wa.heap[w.heap.size]? = some (.cells #[.slice A n1 c, .slice A10 n10 c10] 25 (0, 0))) := hid (by rw [← hwa]; exact ai P10 1 _)
  have RF : Hid (wa.heap[w.heap.size + 2]? = some (.cells #[.slice none 0 0, .slice none 0 0] 25 (0, 0))) := hid (by rw [← hwa]; exact ay R10 (p := ⟨w.heap.size, 1, none⟩) (by show w.heap.size + 2 ≠ w.heap.size; omega) _)
  have MF : Hid (wa.heap[w.heap.size + 1]? = some (.cells #[.int .i64 7, .int .u64 (id : Int), .int .u64 (list : Int), .string (str text), .float .f64 f, .bool flag] 29 (0, 0))) := hid (by rw [← hwa]; exact ay M10 (p := ⟨w.heap.size, 1, none⟩) (by show w.heap.size + 1 ≠ w.heap.size; omega) _)
  have yp : Ty w10 w.heap.size 25 := ⟨_, _, P10⟩
  have TA := (Tch.refl 0 [25] w10).aM (p := ⟨w.heap.size, 1, none⟩) yp (by simp) (Nat.zero_le _) (.slice A10 n10 c10)
  rw [hwa] at TA
  have D10 := D9.out.stay hb10
  have DX : DS ⟨ls, A, c, xs, A10, c10⟩ w10 := ⟨D10.l, l10, t10, D10.lc, lc10, D10.za, za10⟩
  have DF := hid (DX.tch TA (by decide) (by decide) (by decide))
  have BF : Hid (Below w.heap.size w wa) := hid (by rw [← hwa]; exact (BW.out.trans (hb10.mono BW.out.size)).setCell (Nat.le_refl _) _)
  have QV : Hid (Ending.returned (.tuple #[.agg #[.slice A n1 c, .slice A10 n10 c10], .int .i64 0]) = Ending.returned (.tuple #[(⟨ls, A, c, xs, A10, c10⟩ : MSt).val, .int .i64 0])) := hid (by rw [← hn10, E1.out]; rfl)
  have HB10 := hid hb10
  have YP := hid yp
  clear hb10 P10 R10 M10 yp TA D10 DX hn10 l10 lc10 za10 t10 hts
  obtain ⟨m0, m1, m2, m3, m4, m5⟩ := af MF.out
  have LBa : Hid (wa.heap[w8.heap.size]? = some (.cells #[.int .u64 (tk.id : Int), .int .u64 (tk.list : Int), .string (str tk.title), .bool tk.done, .float .f64 tk.rank, .float .f64 tk.est, .slice A4 tk.tags.length c4] 56 (0, 0))) := hid (by rw [← hwa]; exact ay (ae LB.out HB10.out) (p := ⟨w.heap.size, 1, none⟩) (by show w8.heap.size ≠ w.heap.size; have := ZG.out; omega) _)
  have FTa : Hid (ak wa 0 9 A4 (az tk.tags)) := hid (by rw [← hwa]; exact aA (bf FT.out.1 HB10.out) YP.out (by decide))
  have OWa : Hid (wa.ownsRow w9.heap.size 56 7 (.slice A10 n10 c10) n10 (ah xs)) := hid (by
   have o := OW10.out
   rw [HN10.out] at o
   refine bV o (fun z hz => ?_)
   have q := (bO o z hz).1
   have := ZG.out
   rw [← hwa]
   exact Below.heap_setCell _ ⟨w.heap.size, 1, none⟩ _ z (by show z ≠ w.heap.size; omega))
  obtain ⟨u0, u1, u2, u3, u4, u5, u6⟩ := aj LBa.out
  have fu := ag LBa.out 4
  obtain ⟨wb, hwb⟩ : ∃ u, wa.setCell ⟨w8.heap.size, 4, none⟩ (.float .f64 f) = u := ⟨_, rfl⟩
  have LBb : Hid (wb.heap[w8.heap.size]? = some (.cells #[.int .u64 (tk.id : Int), .int .u64 (tk.list : Int), .string (str tk.title), .bool tk.done, .float .f64 f, .float .f64 tk.est, .slice A4 tk.tags.length c4] 56 (0, 0))) := hid (by rw [← hwb]; exact ai LBa.out 4 _)
  have PBb : Hid (wb.heap[w.heap.size]? = some (.cells #[.slice A n1 c, .slice A10 n10 c10] 25 (0, 0))) := hid (by rw [← hwb]; exact ay PF.out (p := ⟨w8.heap.size, 4, none⟩) (by show w.heap.size ≠ w8.heap.size; have := ZG.out; omega) _)
  have RBb : Hid (wb.heap[w.heap.size + 2]? = some (.cells #[.slice none 0 0, .slice none 0 0] 25 (0, 0))) := hid (by rw [← hwb]; exact ay RF.out (p := ⟨w8.heap.size, 4, none⟩) (by show w.heap.size + 2 ≠ w8.heap.size; have := ZG.out; omega) _)
  have OWb : Hid (wb.ownsRow w9.heap.size 56 7 (.slice A10 n10 c10) n10 (ah xs)) := hid (bV OWa.out (fun z hz => by
   have q := (bO OWa.out z hz).1
   have := ZG.out
   rw [← hwb]
   exact Below.heap_setCell _ ⟨w8.heap.size, 4, none⟩ _ z (by show z ≠ w8.heap.size; omega)))
  have yt : Ty wa w8.heap.size 56 := ⟨_, _, LBa.out⟩
  have Tb : Hid (∀ m ∈ xs, m.bG wb) := hid fun m hm => by rw [← hwb]; exact ⟨aA (DF.out.t m hm).1 yt (by decide), (DF.out.t m hm).2⟩
  have Lb : Hid (ak wb 0 51 A (aF ls)) := hid (by rw [← hwb]; exact aA DF.out.l yt (by decide))
  have FTb : Hid ((⟨{ tk with rank := f }, A4, c4⟩ : MTk).bG wb) := hid (by rw [← hwb]; exact ⟨aA FTa.out yt (by decide), FT.out.2⟩)
  have Bb : Hid (Below w.heap.size w wb) := hid (by rw [← hwb]; exact BF.out.setCell (by show w.heap.size ≤ w8.heap.size; have := ZG.out; omega) _)
  have N10 : Hid (n10 ≤ 1000) := hid (by
   rw [← HN10.out, ← aD, TS.out]
   exact Nat.le_trans (List.length_filter_le _ _) HB.out.n2)
  have C5 := hid (dB (x := (⟨{ tk with rank := f }, A4, c4⟩ : MTk)) (aI (B := 0) OWb.out) Tb.out FTb.out HN10.out.symm (aJ OWb.out).2 DF.out.zk N10.out)
  dsimp only at C5
  obtain ⟨p0, p1⟩ := aa PBb.out
  obtain ⟨v0, v1, v2, v3, v4, v5, v6⟩ := aj LBb.out
  clear yt
  go_wp2_with fail
  refine C5.out.mono ?_
  rintro e w11 ⟨A11, c11, rfl, l11, t11, lc11, za11, hb11⟩
  clear C5 q0 q1 fp1 hwa hwb m0 m1 m2 m3 m4 m5 u0 u1 u2 u3 u4 u5 u6 fu p0 p1 v0 v1 v2 v3 v4 v5 v6 PF RF DF BF QV
  obtain ⟨ys, hys⟩ : ∃ z, Sr.ins ltM (⟨{ tk with rank := f }, A4, c4⟩ : MTk) xs = z := ⟨_, rfl⟩
  rw [hys] at l11 t11 lc11 ⊢
  obtain ⟨n11, hn11⟩ : ∃ z, ys.length = z := ⟨_, rfl⟩
  rw [hn11]
  have P11 := ae PBb.out hb11
  have R11 := ae RBb.out hb11
  obtain ⟨q0, q1⟩ := aa P11
  have fp1 := ag P11 1
  obtain ⟨wc, hwc⟩ : ∃ u, w11.setCell ⟨w.heap.size, 1, none⟩ (.slice A11 n11 c11) = u := ⟨_, rfl⟩
  have PF : Hid (wc.heap[w.heap.size]? = some (.cells #[.slice A n1 c, .slice A11 n11 c11] 25 (0, 0))) := hid (by rw [← hwc]; exact ai P11 1 _)
  have RF : Hid (wc.heap[w.heap.size + 2]? = some (.cells #[.slice none 0 0, .slice none 0 0] 25 (0, 0))) := hid (by rw [← hwc]; exact ay R11 (p := ⟨w.heap.size, 1, none⟩) (by show w.heap.size + 2 ≠ w.heap.size; omega) _)
  have yp : Ty w11 w.heap.size 25 := ⟨_, _, P11⟩
  have TA := (Tch.refl 0 [25] w11).aM (p := ⟨w.heap.size, 1, none⟩) yp (by simp) (Nat.zero_le _) (.slice A11 n11 c11)
  rw [hwc] at TA
  have DX : DS ⟨ls, A, c, ys, A11, c11⟩ w11 := ⟨bf Lb.out hb11, l11, t11, D9.out.lc, lc11, D9.out.za, za11⟩
  have DF := hid (DX.tch TA (by decide) (by decide) (by decide))
  have BF : Hid (Below w.heap.size w wc) := hid (by rw [← hwc]; exact (Bb.out.trans (hb11.mono Bb.out.size)).setCell (Nat.le_refl _) _)
  have DM : Hid (T9.doM ⟨ls, tks ms⟩ ⟨7, id, list, text, f, flag⟩ = (0, ⟨ls, Sr.ins T9.ltK { tk with rank := f } (T9.wo (tks ms) 0 false id)⟩)) := hid (by
   rw [T9.iQ (k := 7) (s := ⟨ls, tks ms⟩) (list := list) (f := f) (text := text) (flag := flag) (by omega) HH.out, ← HTK.out]
   simp [T9.chg])
  have QS : Hid ((⟨ls, A, c, ys, A11, c11⟩ : MSt).st = ⟨ls, Sr.ins T9.ltK { tk with rank := f } (T9.wo (tks ms) 0 false id)⟩) := hid (by
   rw [← hys, ← TS.out]
   show (⟨ls, tks (Sr.ins ltM (⟨{ tk with rank := f }, A4, c4⟩ : MTk) xs)⟩ : T9.St) = _
   rw [fO])
  have QV : Hid (Ending.returned (.tuple #[.agg #[.slice A n1 c, .slice A11 n11 c11], .int .i64 0]) = Ending.returned (.tuple #[(⟨ls, A, c, ys, A11, c11⟩ : MSt).val, .int .i64 0])) := hid (by rw [← hn11, E1.out]; rfl)
  clear hb11 P11 R11 yp TA DX hn11 l11 lc11 za11 t11 hys
  obtain ⟨p0, p1⟩ := aa PF.out
  obtain ⟨r0, r1⟩ := aa RF.out
  have fr0 := ag RF.out 0
  have fr1 := ag RF.out 1
  have KB : Hid (((wc.setCell ⟨w.heap.size + 2, 0, none⟩ (.slice A n1 c)).setCell ⟨w.heap.size + 2, 1, none⟩ (.slice A11 n11 c11)).heap[w.heap.size + 2]? = some (.cells #[.slice A n1 c, .slice A11 n11 c11] 25 (0, 0))) := hid (ai (ai RF.out 0 _) 1 _)
  have yr : Ty wc (w.heap.size + 2) 25 := ⟨_, _, RF.out⟩
  have TF := hid (((Tch.refl 0 [25] wc).aM (p := ⟨w.heap.size + 2, 0, none⟩) yr (by simp) (Nat.zero_le _) (.slice A n1 c)).aM (p := ⟨w.heap.size + 2, 1, none⟩) (yr.set _ _) (by simp) (Nat.zero_le _) (.slice A11 n11 c11))
  obtain ⟨k0, k1⟩ := aa KB.out
  clear yr
  go_wp2
  refine bodyPost_ret (v := .tuple #[.agg #[.slice A n1 c, .slice A11 n11 c11], .int .i64 0]) (by simp [results, Tryz.results32, go_sem, k0, k1]) rfl ?_
  refine ⟨⟨ls, A, c, ys, A11, c11⟩, 0, QV.out, by rw [DM.out], fun _ => ⟨by rw [DM.out]; exact QS.out, DF.out.tch TF.out (by decide) (by decide) (by decide)⟩, ?_⟩
  exact (BF.out.setCell (by show w.heap.size ≤ w.heap.size + 2; omega) _).setCell (by show w.heap.size ≤ w.heap.size + 2; omega) _
set_option maxHeartbeats 8000000 in
theorem xX {ls : List T9.Li} {A : Option Addr} {n1 c : Nat} {ms : List MTk} {A2 : Option Addr} {n2 c2 : Nat} {id list f : Nat} {text : List UInt8} {flag : Bool} {w : World} (hS : DS ⟨ls, A, c, ms, A2, c2⟩ w) (hB : DB ⟨ls, tks ms⟩) (e1 : n1 = ls.length) (e2 : n2 = ms.length) :
  Calls Tryz.prog 32 #[.agg #[.slice A n1 c, .slice A2 n2 c2], .agg #[.int .i64 8, .int .u64 (id : Int), .int .u64 (list : Int), .string (str text), .float .f64 f, .bool flag]] w (jX ⟨ls, tks ms⟩ ⟨8, id, list, text, f, flag⟩ w) := by
 have E1 := hid e1
 have E2 := hid e2
 have HB := hid hB
 have N1 : Hid (n1 ≤ 1000) := hid (by rw [e1]; exact hB.n1)
 have N2 : Hid (n2 ≤ 1000) := hid (by have := hB.n2; rw [e2, ← aD]; exact this)
 obtain ⟨w1, hw1⟩ : ∃ u, w.alloc (.cells #[.slice A n1 c, .slice A2 n2 c2] 25) = u := ⟨_, rfl⟩
 obtain ⟨a1, b1, z1⟩ := au hw1
 obtain ⟨w2, hw2⟩ : ∃ u, w1.alloc (.cells #[.int .i64 8, .int .u64 (id : Int), .int .u64 (list : Int), .string (str text), .float .f64 f, .bool flag] 29) = u := ⟨_, rfl⟩
 obtain ⟨a2, b2, z2⟩ := aW hw2
 obtain ⟨w3, hw3⟩ : ∃ u, w2.alloc (.cells #[.slice none 0 0, .slice none 0 0] 25) = u := ⟨_, rfl⟩
 obtain ⟨a3, b3, z3⟩ := au hw3
 rw [z1] at a2
 rw [z2, z1] at a3
 have zz : w3.heap.size = w.heap.size + 3 := by omega
 have PB : Hid (w3.heap[w.heap.size]? = some (.cells #[.slice A n1 c, .slice A2 n2 c2] 25 (0, 0))) := hid (ae (ae a1 b2) b3)
 have MB : Hid (w3.heap[w.heap.size + 1]? = some (.cells #[.int .i64 8, .int .u64 (id : Int), .int .u64 (list : Int), .string (str text), .float .f64 f, .bool flag] 29 (0, 0))) := hid (ae a2 b3)
 have RB : Hid (w3.heap[w.heap.size + 2]? = some (.cells #[.slice none 0 0, .slice none 0 0] 25 (0, 0))) := hid a3
 have B3 : Hid (Below w.heap.size w w3) := hid ((b1.trans (b2.mono (by omega))).trans (b3.mono (by omega)))
 have D3 := hid (hS.stay B3.out)
 have C1 := hid (aX (A2 := A2) (n2 := n2) (c := c) (c2 := c2) (show LL w3 A ls from D3.out.l.old) e1 (by have := N1.out; omega) id)
 obtain ⟨p0, p1⟩ := aa PB.out
 obtain ⟨m0, m1, m2, m3, m4, m5⟩ := af MB.out
 have ZZ := hid zz
 have zx1 := z1
 have zx2 : w2.heap.size = w.heap.size + 2 := by omega
 clear hS hB e1 e2 a1 a2 a3 b1 b2 b3 z1 z2 z3 zz
 go_enter Tryz.func32, Tryz.ntmps32
 go_wp2_with fail
 refine C1.out.mono ?_
 rintro e w4 ⟨rfl, hb4⟩
 clear hw1 hw2 hw3 C1 zx1 zx2 p0 p1 m0 m1 m2 m3 m4 m5
 obtain ⟨i1, t1, hf1⟩ : ∃ i t, T9.aQ ls id = (⟨i, t⟩, T9.aZ ls id) := ⟨(T9.aQ ls id).1.id, (T9.aQ ls id).1.name, by rw [← a_]⟩
 rw [hf1]
 obtain ⟨w5, hw5⟩ : ∃ u, w4.alloc (.cells #[.int .u64 (i1 : Int), .string (str t1)] 51) = u := ⟨_, rfl⟩
 obtain ⟨-, b5, -⟩ := au hw5
 have B5 : Hid (Below w3.heap.size w3 w5) := hid (hb4.trans (b5.mono hb4.size))
 have C2 := hid (aX (A2 := A2) (n2 := n2) (c := c) (c2 := c2) (show LL w5 A ls from (D3.out.stay B5.out).l.old) E1.out (by have := N1.out; omega) list)
 obtain ⟨p0, p1⟩ := aa (ae PB.out B5.out)
 obtain ⟨m0, m1, m2, m3, m4, m5⟩ := af (ae MB.out B5.out)
 obtain ⟨p4, p5⟩ := aa (ae PB.out hb4)
 unfold aV
 dsimp only
 clear hf1 b5 hb4
 go_wp2_with fail
 refine C2.out.mono ?_
 rintro e w6 ⟨rfl, hb6⟩
 clear hw5 C2 p0 p1 p4 p5 m0 m1 m2 m3 m4 m5
 obtain ⟨i2, t2, hf2⟩ : ∃ i t, T9.aQ ls list = (⟨i, t⟩, T9.aZ ls list) := ⟨(T9.aQ ls list).1.id, (T9.aQ ls list).1.name, by rw [← a_]⟩
 rw [hf2]
 obtain ⟨w7, hw7⟩ : ∃ u, w6.alloc (.cells #[.int .u64 (i2 : Int), .string (str t2)] 51) = u := ⟨_, rfl⟩
 obtain ⟨-, b7, -⟩ := au hw7
 have B7 : Hid (Below w3.heap.size w3 w7) := hid (B5.out.trans ((hb6.trans (b7.mono hb6.size)).mono B5.out.size))
 have C3 := hid (bP (A := A) (n1 := n1) (c := c) (c2 := c2) (D3.out.stay B7.out).kl E2.out (by have := N2.out; omega) (D3.out.stay B7.out).t id)
 obtain ⟨p0, p1⟩ := aa (ae PB.out B7.out)
 obtain ⟨m0, m1, m2, m3, m4, m5⟩ := af (ae MB.out B7.out)
 unfold aV
 dsimp only
 clear hf2 b7 hb6
 go_wp2_with fail
 refine C3.out.mono ?_
 rintro e w8 ⟨⟨tk, A4, c4⟩, rfl, htk, hft, hb8⟩
 clear hw7 C3 p0 p1 m0 m1 m2 m3 m4 m5
 have HTK : Hid (tk = (T9.bT (tks ms) id).1) := hid htk
 rw [df]
 obtain ⟨w9, hw9⟩ : ∃ u, w8.alloc (.cells #[.int .u64 (tk.id : Int), .int .u64 (tk.list : Int), .string (str tk.title), .bool tk.done, .float .f64 tk.rank, .float .f64 tk.est, .slice A4 tk.tags.length c4] 56) = u := ⟨_, rfl⟩
 obtain ⟨lb9, b9, -⟩ := aU hw9
 have B9 : Hid (Below w3.heap.size w3 w9) := hid (B7.out.trans ((hb8.trans (b9.mono hb8.size)).mono B7.out.size))
 have LB := hid lb9
 have ZG : Hid (w.heap.size + 3 ≤ w8.heap.size ∧ w8.heap.size < w9.heap.size) := hid ⟨by have := ZZ.out; have := B7.out.size; have := hb8.size; omega, lt_of_block lb9⟩
 have FT := hid (hft.stay b9)
 have D9 := hid (D3.out.stay B9.out)
 have P9 := hid (ae PB.out B9.out)
 have M9 := hid (ae MB.out B9.out)
 have R9 := hid (ae RB.out B9.out)
 have BW := hid (B3.out.trans (B9.out.mono B3.out.size))
 obtain ⟨p0, p1⟩ := aa P9.out
 obtain ⟨m0, m1, m2, m3, m4, m5⟩ := af M9.out
 obtain ⟨r0, r1⟩ := aa R9.out
 have fr0 := ag R9.out 0
 have fr1 := ag R9.out 1
 unfold ax
 dsimp only
 clear htk hft hb8 lb9 b9 PB MB RB D3
 cases hhHH : T9.dh (tks ms) id with
 | false =>
  have HH := hid hhHH
  clear hhHH
  have V := hid (T9.iO (k := 8) (s := ⟨ls, tks ms⟩) (list := list) (f := f) (text := text) (flag := flag) (by omega) HH.out)
  have KB : Hid (((w9.setCell ⟨w.heap.size + 2, 0, none⟩ (.slice A n1 c)).setCell ⟨w.heap.size + 2, 1, none⟩ (.slice A2 n2 c2)).heap[w.heap.size + 2]? = some (.cells #[.slice A n1 c, .slice A2 n2 c2] 25 (0, 0))) := hid (ai (ai R9.out 0 _) 1 _)
  obtain ⟨k0, k1⟩ := aa KB.out
  go_wp2
  refine bodyPost_ret (v := .tuple #[.agg #[.slice A n1 c, .slice A2 n2 c2], .int .i64 (T9.doM ⟨ls, tks ms⟩ ⟨8, id, list, text, f, flag⟩).1]) (by rw [V.out]; simp [results, Tryz.results32, go_sem, k0, k1]) rfl ?_
  refine ⟨⟨ls, A, c, ms, A2, c2⟩, _, by rw [E1.out, E2.out]; rfl, rfl, (fun z => by rw [V.out] at z; cases z), ?_⟩
  exact (BW.out.setCell (by show w.heap.size ≤ w.heap.size + 2; omega) _).setCell (by show w.heap.size ≤ w.heap.size + 2; omega) _
 | true =>
  have HH := hid hhHH
  clear hhHH
  have C4 := hid (dJ (c := c2) D9.out.kl D9.out.t E2.out N2.out 0 false id)
  go_wp2_with fail
  refine C4.out.mono ?_
  rintro e w10 ⟨A10, c10, xs, rfl, l10, t10, lc10, za10, hts, hb10, ow10⟩
  clear C4 p0 p1 m0 m1 m2 m3 m4 m5 r0 r1 fr0 fr1 hw9
  have TS := hid hts
  have OW10 := hid ow10
  clear ow10
  obtain ⟨n10, hn10⟩ : ∃ z, xs.length = z := ⟨_, rfl⟩
  have HN10 := hid hn10
  rw [hn10]
  have P10 := ae P9.out hb10
  have R10 := ae R9.out hb10
  have M10 := ae M9.out hb10
  obtain ⟨q0, q1⟩ := aa P10
  have fp1 := ag P10 1
  obtain ⟨wa, hwa⟩ : ∃ u, w10.setCell ⟨w.heap.size, 1, none⟩ (.slice A10 n10 c10) = u := ⟨_, rfl⟩
  have PF : Hid (wa.heap[w.heap.size]? = some (.cells #[.slice A n1 c, .slice A10 n10 c10] 25 (0, 0))) := hid (by rw [← hwa]; exact ai P10 1 _)
  have RF : Hid (wa.heap[w.heap.size + 2]? = some (.cells #[.slice none 0 0, .slice none 0 0] 25 (0, 0))) := hid (by rw [← hwa]; exact ay R10 (p := ⟨w.heap.size, 1, none⟩) (by show w.heap.size + 2 ≠ w.heap.size; omega) _)
  have MF : Hid (wa.heap[w.heap.size + 1]? = some (.cells #[.int .i64 8, .int .u64 (id : Int), .int .u64 (list : Int), .string (str text), .float .f64 f, .bool flag] 29 (0, 0))) := hid (by rw [← hwa]; exact ay M10 (p := ⟨w.heap.size, 1, none⟩) (by show w.heap.size + 1 ≠ w.heap.size; omega) _)
  have yp : Ty w10 w.heap.size 25 := ⟨_, _, P10⟩
  have TA := (Tch.refl 0 [25] w10).aM (p := ⟨w.heap.size, 1, none⟩) yp (by simp) (Nat.zero_le _) (.slice A10 n10 c10)
  rw [hwa] at TA
  have D10 := D9.out.stay hb10
  have DX : DS ⟨ls, A, c, xs, A10, c10⟩ w10 := ⟨D10.l, l10, t10, D10.lc, lc10, D10.za, za10⟩
  have DF := hid (DX.tch TA (by decide) (by decide) (by decide))
  have BF : Hid (Below w.heap.size w wa) := hid (by rw [← hwa]; exact (BW.out.trans (hb10.mono BW.out.size)).setCell (Nat.le_refl _) _)
  have QV : Hid (Ending.returned (.tuple #[.agg #[.slice A n1 c, .slice A10 n10 c10], .int .i64 0]) = Ending.returned (.tuple #[(⟨ls, A, c, xs, A10, c10⟩ : MSt).val, .int .i64 0])) := hid (by rw [← hn10, E1.out]; rfl)
  have HB10 := hid hb10
  have YP := hid yp
  clear hb10 P10 R10 M10 yp TA D10 DX hn10 l10 lc10 za10 t10 hts
  obtain ⟨m0, m1, m2, m3, m4, m5⟩ := af MF.out
  have LBa : Hid (wa.heap[w8.heap.size]? = some (.cells #[.int .u64 (tk.id : Int), .int .u64 (tk.list : Int), .string (str tk.title), .bool tk.done, .float .f64 tk.rank, .float .f64 tk.est, .slice A4 tk.tags.length c4] 56 (0, 0))) := hid (by rw [← hwa]; exact ay (ae LB.out HB10.out) (p := ⟨w.heap.size, 1, none⟩) (by show w8.heap.size ≠ w.heap.size; have := ZG.out; omega) _)
  have FTa : Hid (ak wa 0 9 A4 (az tk.tags)) := hid (by rw [← hwa]; exact aA (bf FT.out.1 HB10.out) YP.out (by decide))
  have OWa : Hid (wa.ownsRow w9.heap.size 56 7 (.slice A10 n10 c10) n10 (ah xs)) := hid (by
   have o := OW10.out
   rw [HN10.out] at o
   refine bV o (fun z hz => ?_)
   have q := (bO o z hz).1
   have := ZG.out
   rw [← hwa]
   exact Below.heap_setCell _ ⟨w.heap.size, 1, none⟩ _ z (by show z ≠ w.heap.size; omega))
  obtain ⟨u0, u1, u2, u3, u4, u5, u6⟩ := aj LBa.out
  have fu := ag LBa.out 5
  obtain ⟨wb, hwb⟩ : ∃ u, wa.setCell ⟨w8.heap.size, 5, none⟩ (.float .f64 f) = u := ⟨_, rfl⟩
  have LBb : Hid (wb.heap[w8.heap.size]? = some (.cells #[.int .u64 (tk.id : Int), .int .u64 (tk.list : Int), .string (str tk.title), .bool tk.done, .float .f64 tk.rank, .float .f64 f, .slice A4 tk.tags.length c4] 56 (0, 0))) := hid (by rw [← hwb]; exact ai LBa.out 5 _)
  have PBb : Hid (wb.heap[w.heap.size]? = some (.cells #[.slice A n1 c, .slice A10 n10 c10] 25 (0, 0))) := hid (by rw [← hwb]; exact ay PF.out (p := ⟨w8.heap.size, 5, none⟩) (by show w.heap.size ≠ w8.heap.size; have := ZG.out; omega) _)
  have RBb : Hid (wb.heap[w.heap.size + 2]? = some (.cells #[.slice none 0 0, .slice none 0 0] 25 (0, 0))) := hid (by rw [← hwb]; exact ay RF.out (p := ⟨w8.heap.size, 5, none⟩) (by show w.heap.size + 2 ≠ w8.heap.size; have := ZG.out; omega) _)
  have OWb : Hid (wb.ownsRow w9.heap.size 56 7 (.slice A10 n10 c10) n10 (ah xs)) := hid (bV OWa.out (fun z hz => by
   have q := (bO OWa.out z hz).1
   have := ZG.out
   rw [← hwb]
   exact Below.heap_setCell _ ⟨w8.heap.size, 5, none⟩ _ z (by show z ≠ w8.heap.size; omega)))
  have yt : Ty wa w8.heap.size 56 := ⟨_, _, LBa.out⟩
  have Tb : Hid (∀ m ∈ xs, m.bG wb) := hid fun m hm => by rw [← hwb]; exact ⟨aA (DF.out.t m hm).1 yt (by decide), (DF.out.t m hm).2⟩
  have Lb : Hid (ak wb 0 51 A (aF ls)) := hid (by rw [← hwb]; exact aA DF.out.l yt (by decide))
  have FTb : Hid ((⟨{ tk with est := f }, A4, c4⟩ : MTk).bG wb) := hid (by rw [← hwb]; exact ⟨aA FTa.out yt (by decide), FT.out.2⟩)
  have Bb : Hid (Below w.heap.size w wb) := hid (by rw [← hwb]; exact BF.out.setCell (by show w.heap.size ≤ w8.heap.size; have := ZG.out; omega) _)
  have N10 : Hid (n10 ≤ 1000) := hid (by
   rw [← HN10.out, ← aD, TS.out]
   exact Nat.le_trans (List.length_filter_le _ _) HB.out.n2)
  have C5 := hid (dB (x := (⟨{ tk with est := f }, A4, c4⟩ : MTk)) (aI (B := 0) OWb.out) Tb.out FTb.out HN10.out.symm (aJ OWb.out).2 DF.out.zk N10.out)
  dsimp only at C5
  obtain ⟨p0, p1⟩ := aa PBb.out
  obtain ⟨v0, v1, v2, v3, v4, v5, v6⟩ := aj LBb.out
  clear yt
  go_wp2_with fail
  refine C5.out.mono ?_
  rintro e w11 ⟨A11, c11, rfl, l11, t11, lc11, za11, hb11⟩
  clear C5 q0 q1 fp1 hwa hwb m0 m1 m2 m3 m4 m5 u0 u1 u2 u3 u4 u5 u6 fu p0 p1 v0 v1 v2 v3 v4 v5 v6 PF RF DF BF QV
  obtain ⟨ys, hys⟩ : ∃ z, Sr.ins ltM (⟨{ tk with est := f }, A4, c4⟩ : MTk) xs = z := ⟨_, rfl⟩
  rw [hys] at l11 t11 lc11 ⊢
  obtain ⟨n11, hn11⟩ : ∃ z, ys.length = z := ⟨_, rfl⟩
  rw [hn11]
  have P11 := ae PBb.out hb11
  have R11 := ae RBb.out hb11
  obtain ⟨q0, q1⟩ := aa P11
  have fp1 := ag P11 1
  obtain ⟨wc, hwc⟩ : ∃ u, w11.setCell ⟨w.heap.size, 1, none⟩ (.slice A11 n11 c11) = u := ⟨_, rfl⟩
  have PF : Hid (wc.heap[w.heap.size]? = some (.cells #[.slice A n1 c, .slice A11 n11 c11] 25 (0, 0))) := hid (by rw [← hwc]; exact ai P11 1 _)
  have RF : Hid (wc.heap[w.heap.size + 2]? = some (.cells #[.slice none 0 0, .slice none 0 0] 25 (0, 0))) := hid (by rw [← hwc]; exact ay R11 (p := ⟨w.heap.size, 1, none⟩) (by show w.heap.size + 2 ≠ w.heap.size; omega) _)
  have yp : Ty w11 w.heap.size 25 := ⟨_, _, P11⟩
  have TA := (Tch.refl 0 [25] w11).aM (p := ⟨w.heap.size, 1, none⟩) yp (by simp) (Nat.zero_le _) (.slice A11 n11 c11)
  rw [hwc] at TA
  have DX : DS ⟨ls, A, c, ys, A11, c11⟩ w11 := ⟨bf Lb.out hb11, l11, t11, D9.out.lc, lc11, D9.out.za, za11⟩
  have DF := hid (DX.tch TA (by decide) (by decide) (by decide))
  have BF : Hid (Below w.heap.size w wc) := hid (by rw [← hwc]; exact (Bb.out.trans (hb11.mono Bb.out.size)).setCell (Nat.le_refl _) _)
  have DM : Hid (T9.doM ⟨ls, tks ms⟩ ⟨8, id, list, text, f, flag⟩ = (0, ⟨ls, Sr.ins T9.ltK { tk with est := f } (T9.wo (tks ms) 0 false id)⟩)) := hid (by
   rw [T9.iQ (k := 8) (s := ⟨ls, tks ms⟩) (list := list) (f := f) (text := text) (flag := flag) (by omega) HH.out, ← HTK.out]
   simp [T9.chg])
  have QS : Hid ((⟨ls, A, c, ys, A11, c11⟩ : MSt).st = ⟨ls, Sr.ins T9.ltK { tk with est := f } (T9.wo (tks ms) 0 false id)⟩) := hid (by
   rw [← hys, ← TS.out]
   show (⟨ls, tks (Sr.ins ltM (⟨{ tk with est := f }, A4, c4⟩ : MTk) xs)⟩ : T9.St) = _
   rw [fO])
  have QV : Hid (Ending.returned (.tuple #[.agg #[.slice A n1 c, .slice A11 n11 c11], .int .i64 0]) = Ending.returned (.tuple #[(⟨ls, A, c, ys, A11, c11⟩ : MSt).val, .int .i64 0])) := hid (by rw [← hn11, E1.out]; rfl)
  clear hb11 P11 R11 yp TA DX hn11 l11 lc11 za11 t11 hys
  obtain ⟨p0, p1⟩ := aa PF.out
  obtain ⟨r0, r1⟩ := aa RF.out
  have fr0 := ag RF.out 0
  have fr1 := ag RF.out 1
  have KB : Hid (((wc.setCell ⟨w.heap.size + 2, 0, none⟩ (.slice A n1 c)).setCell ⟨w.heap.size + 2, 1, none⟩ (.slice A11 n11 c11)).heap[w.heap.size + 2]? = some (.cells #[.slice A n1 c, .slice A11 n11 c11] 25 (0, 0))) := hid (ai (ai RF.out 0 _) 1 _)
  have yr : Ty wc (w.heap.size + 2) 25 := ⟨_, _, RF.out⟩
  have TF := hid (((Tch.refl 0 [25] wc).aM (p := ⟨w.heap.size + 2, 0, none⟩) yr (by simp) (Nat.zero_le _) (.slice A n1 c)).aM (p := ⟨w.heap.size + 2, 1, none⟩) (yr.set _ _) (by simp) (Nat.zero_le _) (.slice A11 n11 c11))
  obtain ⟨k0, k1⟩ := aa KB.out
  clear yr
  go_wp2
  refine bodyPost_ret (v := .tuple #[.agg #[.slice A n1 c, .slice A11 n11 c11], .int .i64 0]) (by simp [results, Tryz.results32, go_sem, k0, k1]) rfl ?_
  refine ⟨⟨ls, A, c, ys, A11, c11⟩, 0, QV.out, by rw [DM.out], fun _ => ⟨by rw [DM.out]; exact QS.out, DF.out.tch TF.out (by decide) (by decide) (by decide)⟩, ?_⟩
  exact (BF.out.setCell (by show w.heap.size ≤ w.heap.size + 2; omega) _).setCell (by show w.heap.size ≤ w.heap.size + 2; omega) _
end
end Go.Proofs.YtpphmbfghfmdlaaGreat
