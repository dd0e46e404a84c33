import Derived.Test.YtpphmbfghfmdlaaGreatY46
namespace Go.Proofs.YtpphmbfghfmdlaaGreat
set_option maxRecDepth 100000
section
set_option linter.unusedSimpArgs false
section
open Go.RowKit Go.Lib Go.Shelf
set_option maxHeartbeats 8000000 in
theorem samePt_c {p q : PDt} {w : World} (hp : TPd p w) (hq : TPd q w) (e1 : p.ls = q.ls) (e2 : T9.sameT (tks p.ms) (tks q.ms) = true) (e2l : p.ms.length = q.ms.length) (e3 : p.gl = q.gl) (e4 : p.gk = q.gk) (s1 : p.ls.length ≤ 1000) (s2 : p.ms.length ≤ 1000) (s3 : p.gl.length ≤ 1000) (s4 : p.gk.length ≤ 1000)
  (k1 : ∀ m ∈ p.ms, m.t.short ∧ m.t.ok) (k2 : ∀ m ∈ q.ms, m.t.short ∧ m.t.ok) :
  Calls Tryz.prog 17 #[.agg p.cells, .agg q.cells] w fun e w' => e = .returned (.bool true) ∧ Below w.heap.size w w' := by
 obtain ⟨ls, A, c, ms, A2, c2, gl, A3, c3, gk, A4, c4⟩ := p
 obtain ⟨ls', B, d, ks, B2, d2, gl', B3, d3, gk', B4, d4⟩ := q
 dsimp only at e1 e2 e2l e3 e4 s1 s2 s3 s4 k1 k2
 subst e1 e3 e4
 obtain ⟨n1, h1⟩ : ∃ n, ls.length = n := ⟨_, rfl⟩
 obtain ⟨n2, h2⟩ : ∃ n, ms.length = n := ⟨_, rfl⟩
 obtain ⟨n3, h3⟩ : ∃ n, gl.length = n := ⟨_, rfl⟩
 obtain ⟨n4, h4⟩ : ∃ n, gk.length = n := ⟨_, rfl⟩
 have h5 : ks.length = n2 := by rw [← e2l]; exact h2
 unfold PDt.cells
 dsimp only
 rw [h5, h1, h2, h3, h4]
 rw [h1] at s1
 rw [h2] at s2
 rw [h3] at s3
 rw [h4] at s4
 obtain ⟨w1, hw1⟩ : ∃ u, w.alloc (.cells #[.slice A n1 c, .slice A2 n2 c2, .slice A3 n3 c3, .slice A4 n4 c4] 44) = u := ⟨_, rfl⟩
 have p1 : w1.heap[w.heap.size]? = some (.cells #[.slice A n1 c, .slice A2 n2 c2, .slice A3 n3 c3, .slice A4 n4 c4] 44 (0, 0)) := by rw [← hw1]; exact World.alloc_heap_new w _
 have b1 : Below w.heap.size w w1 := by rw [← hw1]; exact (Below.refl _ _).alloc (Nat.le_refl _) _
 have z1 : w1.heap.size = w.heap.size + 1 := by rw [← hw1]; simp
 obtain ⟨w2, hw2⟩ : ∃ u, w1.alloc (.cells #[.slice B n1 d, .slice B2 n2 d2, .slice B3 n3 d3, .slice B4 n4 d4] 44) = u := ⟨_, rfl⟩
 have p2 : w2.heap[w1.heap.size]? = some (.cells #[.slice B n1 d, .slice B2 n2 d2, .slice B3 n3 d3, .slice B4 n4 d4] 44 (0, 0)) := by rw [← hw2]; exact World.alloc_heap_new w1 _
 have b2 : Below w1.heap.size w1 w2 := by rw [← hw2]; exact (Below.refl _ _).alloc (Nat.le_refl _) _
 rw [z1] at p2
 have z2 : w2.heap.size = w.heap.size + 2 := by rw [← hw2]; simp; omega
 have B2' : Hid (Below w.heap.size w w2) := hid (b1.trans (b2.mono (by omega)))
 have PA : Hid (w2.heap[w.heap.size]? = some (.cells #[.slice A n1 c, .slice A2 n2 c2, .slice A3 n3 c3, .slice A4 n4 c4] 44 (0, 0))) := hid ((b2.block w.heap.size (by omega)).trans p1)
 have PB := hid p2
 have TP2 := hp.stay B2'.out
 have TQ2 := hq.stay B2'.out
 have Egl := hid h3
 have Egk := hid h4
 have CL := hid (refSameLists_c (c := c) (c2 := d) TP2.l.old TQ2.l.old h1.symm h1.symm (by omega))
 rw [decide_eq_true rfl] at CL
 have CK := hid (fun (v : World) (hv : Below w2.heap.size w2 v) => refSameTasks_c (c := c2) (c2 := d2) (⟨(TP2.stay hv).k.old, fun m hm => ⟨((TP2.stay hv).t m hm).1.old, ((TP2.stay hv).t m hm).2⟩⟩ : KL v A2 ms) (⟨(TQ2.stay hv).k.old, fun m hm => ⟨((TQ2.stay hv).t m hm).1.old, ((TQ2.stay hv).t m hm).2⟩⟩ : KL v B2 ks) h2.symm h5.symm (by omega) k1 k2)
 rw [e2] at CK
 have GP := hid TP2.g
 have GQ := hid TQ2.g
 have KP := hid TP2.h
 have KQ := hid TQ2.h
 obtain ⟨x0, x1, x2, x3⟩ := four12 PA.out
 obtain ⟨y0, y1, y2, y3⟩ := four12 PB.out
 clear hp hq h1 h2 h3 h4 h5 e2 e2l k1 k2 p1 b1 p2 b2 TP2 TQ2
 go_enter Tryz.func17, Tryz.ntmps17
 go_wp2_with (first
  | (go_at_call 43; refine CL.out.mono ?_; rintro e w3 ⟨rfl, j, rfl⟩; have x1' : w2.cell? ⟨w.heap.size, 1, none⟩ = some (.slice A2 n2 c2) := x1; have y1' : w2.cell? ⟨w.heap.size + 1, 1, none⟩ = some (.slice B2 n2 d2) := y1; have BJ : Hid (Below w2.heap.size w2 (w2.drewN j)) := hid (below_drewN (Below.refl _ _) j))
  | (go_at_call 44; refine (CK.out _ BJ.out).mono ?_; rintro e w4 ⟨rfl, h4⟩; have BW4 : Hid (Below w2.heap.size w2 w4) := hid (BJ.out.trans h4); have SA := hid (blk_keep PA.out BW4.out); have SB := hid (blk_keep PB.out BW4.out); have HglA := hid (GP.out.tch (Tch.of_below (B := 0) BW4.out (Nat.zero_le _) []) (by simp)); have HglB := hid (GQ.out.tch (Tch.of_below (B := 0) BW4.out (Nat.zero_le _) []) (by simp)); have HgkA := hid (KP.out.tch (Tch.of_below (B := 0) BW4.out (Nat.zero_le _) []) (by simp)); have HgkB := hid (KQ.out.tch (Tch.of_below (B := 0) BW4.out (Nat.zero_le _) []) (by simp)); clear h4; obtain ⟨u0, u1, u2, u3⟩ := four12 SA.out; obtain ⟨v0, v1, v2, v3⟩ := four12 SB.out))
 clear x0 x1 x2 x3 y0 y1 y2 y3 u0 u1 u2 u3 v0 v1 v2 v3
 go_loopw [42] (fun s wr => ∃ i j : Nat, i ≤ n3 ∧ s = .int .i64 i ∧ wr = w4.drewN j) (fun s _ => n3 - (intOf s).toNat)
 case atStart => exact ⟨0, 0, Nat.zero_le _, rfl, rfl⟩
 case round =>
  obtain ⟨i, j, hi, rfl, rfl⟩ := hrel
  have sa : w4.cell? ⟨w.heap.size, 2, none⟩ = some (.slice A3 n3 c3) := (four12 SA.out).2.2.1
  have sb : w4.cell? ⟨w.heap.size + 1, 2, none⟩ = some (.slice B3 n3 d3) := (four12 SB.out).2.2.1
  by_cases hlt : i < n3
  ·obtain ⟨ad, rfl, ca⟩ := HglA.out.at_ (k := i) (by have := Egl.out; simp; omega)
   obtain ⟨ad2, rfl, cb⟩ := HglB.out.at_ (k := i) (by have := Egl.out; simp; omega)
   simp only [List.getElem_map] at ca cb
   unfold encU at ca cb
   have ca2 : w4.cell? (ad.add i) = some _ := ca
   have cb2 : w4.cell? (ad2.add i) = some _ := cb
   have k0 : 0 ≤ (i : Int) := by omega
   have k1 : (i : Int) < (n3 : Int) := by omega
   clear ca cb
   go_wp2_with fail
   go_region
   go_wp2
   go_roundw
   case rel => exact ⟨i + 1, j + 1, by omega, by go_num, rfl⟩
   case measure => simp [intOf]; omega
  ·obtain rfl : i = n3 := by omega
   have hltz : ¬ ((i : Int) < (i : Int)) := by omega
   have sa4 : w4.cell? ⟨w.heap.size, 3, none⟩ = some (.slice A4 n4 c4) := (four12 SA.out).2.2.2
   go_wp2
   go_loopw [60] (fun s wr => ∃ i j : Nat, i ≤ n4 ∧ s = .int .i64 i ∧ wr = w4.drewN j) (fun s _ => n4 - (intOf s).toNat)
   case atStart => exact ⟨0, _, Nat.zero_le _, rfl, rfl⟩
   case round =>
    obtain ⟨i, j, hi, rfl, rfl⟩ := hrel
    have sa : w4.cell? ⟨w.heap.size, 3, none⟩ = some (.slice A4 n4 c4) := (four12 SA.out).2.2.2
    have sb : w4.cell? ⟨w.heap.size + 1, 3, none⟩ = some (.slice B4 n4 d4) := (four12 SB.out).2.2.2
    by_cases hlt : i < n4
    ·obtain ⟨ad, rfl, ca⟩ := HgkA.out.at_ (k := i) (by have := Egk.out; simp; omega)
     obtain ⟨ad2, rfl, cb⟩ := HgkB.out.at_ (k := i) (by have := Egk.out; simp; omega)
     simp only [List.getElem_map] at ca cb
     unfold encU at ca cb
     have ca2 : w4.cell? (ad.add i) = some _ := ca
     have cb2 : w4.cell? (ad2.add i) = some _ := cb
     have k0 : 0 ≤ (i : Int) := by omega
     have k1 : (i : Int) < (n4 : Int) := by omega
     clear ca cb
     go_wp2_with fail
     go_region
     go_wp2
     go_roundw
     case rel => exact ⟨i + 1, j + 1, by omega, by go_num, rfl⟩
     case measure => simp [intOf]; omega
    ·obtain rfl : i = n4 := by omega
     have hltz : ¬ ((i : Int) < (i : Int)) := by omega
     go_wp2
     go_ret
     exact ⟨rfl, B2'.out.trans ((below_drewN BW4.out j).mono B2'.out.size)⟩
end
end
end Go.Proofs.YtpphmbfghfmdlaaGreat
