import Derived.Test.YtpphmbfghfmdlaaGreatZ20
import Derived.Test.YtpphmbfghfmdlaaGreatZ22
import Derived.Test.YtpphmbfghfmdlaaGreatZ21
import Derived.Test.YtpphmbfghfmdlaaGreatZ15
import Derived.Test.YtpphmbfghfmdlaaGreatZ18
namespace Go.Proofs.YtpphmbfghfmdlaaGreat
set_option maxRecDepth 100000
section
open Go.ChangeShapes Go.WideShapes Go.ChangeAt Go.RowKit Go.Deep Go.Lib
def T9.Mu.val (m : T9.Mu) : Value := .agg #[.int .i64 m.kind, .int .u64 (m.id : Int), .int .u64 (m.list : Int), .string (str m.text), .float .f64 m.f, .bool m.flag]
theorem aW {w : World} {a b c d e f : Value} {t : TypeId} {u : World} (h : w.alloc (.cells #[a, b, c, d, e, f] t) = u) : u.heap[w.heap.size]? = some (.cells #[a, b, c, d, e, f] t (0, 0)) ∧ Below w.heap.size w u ∧ u.heap.size = w.heap.size + 1 := by
 rw [← h]
 exact ⟨heap_alloc_new w _, (Below.refl _ w).alloc (Nat.le_refl _) _, by simp⟩
theorem af {w : World} {p : Nat} {t : TypeId} {a b c d e f : Value} {fr : Nat × Nat} (h : w.heap[p]? = some (.cells #[a, b, c, d, e, f] t fr)) : w.cell? ⟨p, 0, none⟩ = some a ∧ w.cell? ⟨p, 1, none⟩ = some b ∧ w.cell? ⟨p, 2, none⟩ = some c ∧ w.cell? ⟨p, 3, none⟩ = some d ∧ w.cell? ⟨p, 4, none⟩ = some e ∧ w.cell? ⟨p, 5, none⟩ = some f := by
 simp [World.cell?, h]
def gD (m : T9.Mu) (g : Nat) (w : World) : Prop := w.heap[g]? = some (.cells #[.int .i64 m.kind, .int .u64 (m.id : Int), .int .u64 (m.list : Int), .string (str m.text), .float .f64 m.f, .bool m.flag] 29 (0, 0))
theorem gD.stay {m : T9.Mu} {g : Nat} {w w' : World} (h : gD m g w) (hb : Below w.heap.size w w') : gD m g w' := (hb.block g (lt_of_block h)).trans h
def tN (s : T9.St) (m : T9.Mu) (w : World) (e : Ending) (w' : World) : Prop := ∃ (q : MSt) (er : Int), e = .returned (.tuple #[q.val, .int .i64 er]) ∧ SM q w' ∧ Below w.heap.size w w' ∧ q.st = (T9.aY s m).1 ∧ er = (T9.aY s m).2
theorem qB {l : List UInt8} (h : T9.title l = true) : l.length ≤ 60 := by
 unfold T9.title at h
 rw [Bool.and_eq_true, decide_eq_true_eq] at h
 exact h.1.2
theorem yL {l : List UInt8} (h : T9.tag l = true) : l.length ≤ 16 := by
 unfold T9.tag at h
 rw [Bool.and_eq_true, decide_eq_true_eq] at h
 exact h.1.2
theorem pI {s : T9.St} (h : T9.aG s = 0) : s.short := by
 obtain ⟨h1, h2, h3, h4⟩ := T9.aB h
 have l := (T9.eY.1 h3).1
 have t := (T9.bK.1 h4).1
 refine ⟨fun x hx => by have := qB (l x hx).2; omega, fun x hx => ?_, by omega, by omega⟩
 obtain ⟨f1, _, _, _, f5, f6⟩ := T9.bN (t x hx).2.1
 exact ⟨by have := qB f1; omega, fun y hy => by have := yL (T9.jF f6 y hy); omega, by omega⟩
theorem uJ {s : T9.St} {m : T9.Mu} (h : (T9.aY s m).2 = 0) : T9.aG s = 0 ∧ T9.bC m = 0 ∧ (T9.doM s m).1 = 0 ∧ (T9.aY s m).1 = (T9.doM s m).2 := by
 unfold T9.aY at h ⊢
 by_cases a : T9.aG s ≠ 0
 ·rw [if_pos a] at h; exact absurd h a
 rw [if_neg a] at h ⊢
 by_cases b : T9.bC m ≠ 0
 ·rw [if_pos b] at h; exact absurd h b
 rw [if_neg b] at h ⊢
 by_cases c : (T9.doM s m).1 ≠ 0
 ·rw [if_pos c] at h; exact absurd h c
 rw [if_neg c]
 exact ⟨by omega, by omega, by omega, rfl⟩
theorem lS {s : T9.St} {m : T9.Mu} (h : (T9.aY s m).2 ≠ 0) : (T9.aY s m).1 = ⟨[], []⟩ := by
 unfold T9.aY at h ⊢
 split
 ·rfl
 ·split
  ·rfl
  ·split
   ·rfl
   ·rename_i a b c
    rw [if_neg a, if_neg b, if_neg c] at h
    exact absurd rfl h
theorem Tryz.six11 : Tryz.prog.cellsOf 29 = 6 := by kernel_rfl
theorem Tryz.one11i : Tryz.prog.cellsOf 3 = 1 := by kernel_rfl
section
variable {H : Type} {enc : TypeId × Value → H} {w : World} {base : Nat}
theorem sK {v : Value} {d : DataW H} {ps : List MemPlace} (hval : Value.okWide Tryz.prog w .any base 29 v) (h : DataW.Trod enc Tryz.prog w 0 (fun _ => true) true 29 v d ps) :
  ∃ m : T9.Mu, v = m.val ∧ m.ok := by
 obtain ⟨cs, rfl, hsz⟩ := okWide_struct Tryz.underlying29 hval
 rw [Tryz.six11] at hsz
 obtain ⟨c0, c1, c2, c3, c4, c5, rfl⟩ : ∃ c0 c1 c2 c3 c4 c5, cs = #[c0, c1, c2, c3, c4, c5] := by
  obtain ⟨l⟩ := cs
  match l, hsz with
  | [a, b, c, d, e, f], _ => exact ⟨a, b, c, d, e, f, rfl⟩
 obtain ⟨fuel, hf0⟩ := h
 obtain ⟨xs, n, _, _, _, hxl, hf⟩ := DataW.trod_struct Tryz.underlying29 hf0
 match xs, hxl with
 | [y0, y1, y2, y3, y4, y5], _ =>
  have h0 : DataW.trod enc Tryz.prog w 0 (fun _ => true) true n 3 (((Value.agg #[c0, c1, c2, c3, c4, c5]).cells.toList.drop 0).take (Tryz.prog.cellsOf 3)) = some y0 := hf 0 _ rfl
  rw [Tryz.one11i] at h0
  have h1 : DataW.trod enc Tryz.prog w 0 (fun _ => true) true n 26 (((Value.agg #[c0, c1, c2, c3, c4, c5]).cells.toList.drop 1).take (Tryz.prog.cellsOf 26)) = some y1 := hf 1 _ rfl
  rw [Tryz.one9u] at h1
  have h2 : DataW.trod enc Tryz.prog w 0 (fun _ => true) true n 26 (((Value.agg #[c0, c1, c2, c3, c4, c5]).cells.toList.drop 2).take (Tryz.prog.cellsOf 26)) = some y2 := hf 2 _ rfl
  rw [Tryz.one9u] at h2
  have h3 : DataW.trod enc Tryz.prog w 0 (fun _ => true) true n 9 (((Value.agg #[c0, c1, c2, c3, c4, c5]).cells.toList.drop 3).take (Tryz.prog.cellsOf 9)) = some y3 := hf 3 _ rfl
  rw [Tryz.one9s] at h3
  have h4 : DataW.trod enc Tryz.prog w 0 (fun _ => true) true n 27 (((Value.agg #[c0, c1, c2, c3, c4, c5]).cells.toList.drop 4).take (Tryz.prog.cellsOf 27)) = some y4 := hf 4 _ rfl
  rw [Tryz.one9f] at h4
  have h5 : DataW.trod enc Tryz.prog w 0 (fun _ => true) true n 4 (((Value.agg #[c0, c1, c2, c3, c4, c5]).cells.toList.drop 5).take (Tryz.prog.cellsOf 4)) = some y5 := hf 5 _ rfl
  rw [Tryz.one9b] at h5
  obtain ⟨k0, e0, _, _⟩ := DataW.trod_int Tryz.underlying3 (h0 : DataW.trod enc Tryz.prog w 0 (fun _ => true) true n 3 [c0] = some y0)
  have g0 : c0 = _ := List.head_eq_of_cons_eq e0
  subst g0
  obtain ⟨k1, e1, _, w1⟩ := DataW.trod_int Tryz.underlying26 (h1 : DataW.trod enc Tryz.prog w 0 (fun _ => true) true n 26 [c1] = some y1)
  have g1 : c1 = _ := List.head_eq_of_cons_eq e1
  obtain ⟨i1, q1⟩ := Int.eq_ofNat_of_zero_le (wf_u64 w1).1
  have b1 := (wf_u64 w1).2
  subst g1; subst q1
  obtain ⟨k2, e2, _, w2⟩ := DataW.trod_int Tryz.underlying26 (h2 : DataW.trod enc Tryz.prog w 0 (fun _ => true) true n 26 [c2] = some y2)
  have g2 : c2 = _ := List.head_eq_of_cons_eq e2
  obtain ⟨i2, q2⟩ := Int.eq_ofNat_of_zero_le (wf_u64 w2).1
  have b2 := (wf_u64 w2).2
  subst g2; subst q2
  obtain ⟨sb, e3, _, _⟩ := DataW.trod_string Tryz.underlying9 (h3 : DataW.trod enc Tryz.prog w 0 (fun _ => true) true n 9 [c3] = some y3)
  have g3 : c3 = .string (str sb.data.toList) := (List.head_eq_of_cons_eq e3).trans (by rw [jb])
  subst g3
  obtain ⟨i4, e4, _, w4⟩ := iW Tryz.underlying27 (h4 : DataW.trod enc Tryz.prog w 0 (fun _ => true) true n 27 [c4] = some y4)
  have g4 : c4 = _ := List.head_eq_of_cons_eq e4
  have b4 := yN w4
  subst g4
  obtain ⟨i5, e5, _⟩ := DataW.trod_bool Tryz.underlying4 (h5 : DataW.trod enc Tryz.prog w 0 (fun _ => true) true n 4 [c5] = some y5)
  have g5 : c5 = _ := List.head_eq_of_cons_eq e5
  subst g5
  exact ⟨⟨k0, i1, i2, sb.data.toList, i4, i5⟩, rfl, by show i1 < _; omega, by show i2 < _; omega, b4⟩
end
end
section
open Go.Shelf Go.RowKit Go.Lib Go.Sort
def rkw (n : Nat) : Nat := n % 18446744073709551616
theorem xI (n : Nat) : rkw n < 18446744073709551616 := Nat.mod_lt _ (by decide)
theorem rkw_id {n : Nat} (h : n < 18446744073709551616) : rkw n = n := Nat.mod_eq_of_lt h
def rkM (m : MTk) : MTk := ⟨{ m.t with rank := rkw m.t.rank }, m.A, m.c⟩
theorem rkM_id {m : MTk} (h : m.t.rank < 18446744073709551616) : rkM m = m := by
 unfold rkM
 rw [rkw_id h]
def encR (m : MTk) : List Value := ax (rkM m)
theorem wR (m : MTk) : (encR m).length = 7 := rfl
theorem vY (m : MTk) : ∀ v ∈ encR m, v.oneCell' = true := bU _
def cfR (x y : MTk) : Int := if Fl.lt (rkw x.t.rank) (rkw y.t.rank) = true then -1 else if Fl.lt (rkw y.t.rank) (rkw x.t.rank) = true then 1 else eT x.t.id y.t.id
theorem yl (n : Nat) : Fl.pl (rkw n) = Fl.pl n := by
 have h1 : rkw n % Fl.two63 = n % Fl.two63 := by unfold rkw; rw [Fl.gF]; omega
 have h2 : rkw n / Fl.two63 % 2 = n / Fl.two63 % 2 := by unfold rkw; rw [Fl.gF]; omega
 have e : Fl.isN (rkw n) = Fl.isN n := by unfold Fl.isN; rw [h1]
 unfold Fl.pl
 rw [e]
 unfold Fl.sv
 rw [h1, h2]
theorem wX (a b : Nat) : Fl.lt (rkw a) (rkw b) = Fl.lt a b := by
 rw [Bool.eq_iff_iff, Fl.kY, Fl.kY, yl, yl]
theorem rq : ltOf cfR = fun x y => T9.ltR x.t y.t := by
 funext x y
 show decide (cfR x y < 0) = T9.ltR x.t y.t
 unfold cfR T9.ltR
 rw [wX, wX]
 cases h : Fl.lt x.t.rank y.t.rank
 ·cases k : Fl.lt y.t.rank x.t.rank
  ·rw [if_neg (by decide), if_neg (by decide), lY]; simp
  ·rw [if_neg (by decide), if_pos rfl]; rfl
 ·rw [if_pos rfl]; rfl
theorem woRM : Sr.WO (ltOf cfR) := by
 rw [rq]
 exact ⟨fun a => T9.woR.irr _, fun a b c => T9.woR.tr _ _ _, fun a b c => T9.woR.ng _ _ _⟩
set_option maxHeartbeats 1000000 in
theorem cmpR_w (x y : MTk) (W : World) :
  Calls Tryz.prog 161 #[.agg (encR x).toArray, .agg (encR y).toArray] W fun e w' => e = .returned (.int .i64 (cfR x y)) ∧ ∃ q os', w' = grow (W.drewN q) os' := by
 obtain ⟨wB, hwB⟩ : ∃ u, (W.alloc (.cells (encR x).toArray 56)).alloc (.cells (encR y).toArray 56) = u := ⟨_, rfl⟩
 have GB : Hid (∀ q os, grow (wB.drewN q) os = grow (W.drewN q) (#[.cells (encR x).toArray 56, .cells (encR y).toArray 56] ++ os)) := hid fun q os => by rw [← hwB]; exact iJ W _ _ q os
 have kx : wB.heap[W.heap.size]? = some (.cells (encR x).toArray 56 (0, 0)) := by rw [← hwB]; exact bn (heap_alloc_new W _) _
 have ky : wB.heap[W.heap.size + 1]? = some (.cells (encR y).toArray 56 (0, 0)) := by
  rw [← hwB]
  have := heap_alloc_new (W.alloc (.cells (encR x).toArray 56)) (.cells (encR y).toArray 56)
  rwa [World.size_alloc] at this
 have rx := xI x.t.rank
 have ry := xI y.t.rank
 unfold encR ax rkM at kx ky hwB ⊢
 dsimp only at kx ky hwB ⊢
 unfold cfR
 generalize rkw x.t.rank = a at *
 generalize rkw y.t.rank = b at *
 obtain ⟨x0, x1, x2, x3, x4, x5, x6⟩ := aj kx
 obtain ⟨y0, y1, y2, y3, y4, y5, y6⟩ := aj ky
 clear kx ky
 have FIN : Hid (∃ q os', wB = grow (W.drewN q) os') := hid ⟨0, _, (show wB = grow (wB.drewN 0) #[] by rw [drewN_zero, grow_empty]).trans (GB.out 0 #[])⟩
 cases h : Fl.lt a b
 ·cases k : Fl.lt b a
  ·rw [if_neg (by decide), if_neg (by decide)]
   go_enter Tryz.func161, Tryz.ntmps161
   go_wp2_with (first | (go_at_call 162; refine (r_ _ _ _ (by assumption) (by assumption)).mono ?_; rintro e w' ⟨rfl, rfl⟩) | (go_at_call 116; refine (kG _ _ _).mono ?_; rintro e w' ⟨rfl, rfl⟩))
   go_ret
   exact ⟨rfl, FIN.out⟩
  ·rw [if_neg (by decide), if_pos rfl]
   go_enter Tryz.func161, Tryz.ntmps161
   go_wp2_with (go_at_call 162; refine (r_ _ _ _ (by assumption) (by assumption)).mono ?_; rintro e w' ⟨rfl, rfl⟩)
   go_ret
   exact ⟨rfl, FIN.out⟩
 ·rw [if_pos rfl]
  go_enter Tryz.func161, Tryz.ntmps161
  go_wp2_with (go_at_call 162; refine (r_ _ _ _ (by assumption) (by assumption)).mono ?_; rintro e w' ⟨rfl, rfl⟩)
  go_ret
  exact ⟨rfl, FIN.out⟩
theorem sortR_c {blk cap : Nat} {d : Array MTk} {w : World} {g : Nat} {cb : Array Value} (R : RowK encR 7 w blk 0 d) (S : SWK encR 7 w blk 0 d w) (eg : ∀ args w, (callFunc g args).run Tryz.prog w = .ok (.enter g args) w) (hcmp : CmpLays Tryz.prog g cb encR 7 cfR blk 0 d.size w) (hsz : d.size < 4611686018427387904) (n : Nat) (hn : n = d.size) :
  Calls Tryz.prog 136 #[.slice (some ⟨blk, 0, none⟩) n cap, .func (.func g) #[] cb] w fun e w' => e = .returned (.tuple #[]) ∧ jv cfR encR 7 w blk 0 d [] d.toList [] w' := by
 have hc := uh srtK 7 Tryz.isAgg56 Tryz.sizeOf56 encR blk 0 cap d d w w R rfl S cfR g cb eg hcmp woRM n hn hsz
 rw [← hn] at hc
 have HC := hid hc
 clear hc hcmp R S hn hsz
 go_enter Tryz.func136, Tryz.ntmps136
 go_wp2_with (go_at_call 169; refine HC.out.mono ?_; rintro e w1 ⟨rfl, hw1⟩)
 have H := hid hw1
 clear hw1
 go_wp2
 go_end0
 exact ⟨rfl, H.out⟩
def sM (ts : List (List UInt8)) (w : World) (e : Ending) (w' : World) : Prop := ∃ A2 c2, e = .returned (.slice A2 ts.length c2) ∧ ak w' 0 9 A2 (az ts) ∧ ts.length ≤ c2 ∧ Below w.heap.size w w'
set_option maxHeartbeats 1000000 in
theorem si {A : Option Addr} {n c : Nat} {ts : List (List UInt8)} {w : World} (h : GL w A ts) (hn : n = ts.length) (hs : n ≤ 1000000000) : Calls Tryz.prog 111 #[.slice A n c] w (sM ts w) := by
 obtain ⟨i0, hi, hz0, hz1, hz2⟩ := info_parts Tryz.infoStr9
 have q := fun (w : World) a n c n' c' => Lib.run_eql_slice_nil (P := Tryz.prog) w 54 9 a n c n' c' Tryz.underlying54
 have HL := hid h
 have HN := hid hn
 clear h hn
 rcases A with _ | ad
 ·have h0 : n = 0 := by
   rcases Nat.eq_zero_or_pos n with q | q
   ·exact q
   ·obtain ⟨ad, _, e, _⟩ := HL.out.at_ (k := 0) (by have := HN.out; omega)
    cases e
  subst h0
  have e : ts = [] := List.length_eq_zero_iff.1 HN.out.symm
  subst e
  go_enter Tryz.func111, Tryz.ntmps111
  go_wp2
  go_ret
  exact ⟨_, 0, rfl, ak.nil, Nat.le_refl _, Below.refl _ _⟩
 ·have ho : (w.alloc (.cells #[] 9)).ownsRow w.heap.size 9 1 (.slice (some ⟨w.heap.size, 0, none⟩) 0 0) 0 [] := World.ownsRow_made w #[] 0 (Nat.le_refl _) (by unfold maxLen; omega) rfl
  have HO := hid ho
  clear ho
  go_enter Tryz.func111, Tryz.ntmps111
  go_wp2_with (at_builtin; refine bI _ rfl _ _ 54 rfl w.heap.size 9 i0 _ 1 16 Tryz.underlying54 hi hz0 hz1 hz2 rfl (by decide) _ 0 [] rfl HO.out (w.alloc (.cells #[] 9)).heap.size _ n c (az ts) 0 rfl (by rw [bQ, HN.out]; omega) (ak.stay HL.out ((Below.refl _ _).alloc (Nat.le_refl _) _)) (dA _) (by unfold maxLen; omega) (by omega) (by simp) ?_)
  intro v' w1 hown' hgrow _
  obtain ⟨A2, k2, rfl⟩ := aC hown'
  have T1 := uY HO.out hgrow
  have ho2 : w1.ownsRow w.heap.size 9 1 (.slice A2 n k2) n (az ts) := by simpa using hown'
  have HO2 := hid ho2
  have HT := hid T1
  clear hown' ho2 T1 hgrow
  go_wp2
  go_ret
  refine ⟨A2, k2, by rw [← HN.out]; simp, aI HO2.out, by rw [← HN.out]; exact (aJ HO2.out).2, HT.out⟩
end
end Go.Proofs.YtpphmbfghfmdlaaGreat
