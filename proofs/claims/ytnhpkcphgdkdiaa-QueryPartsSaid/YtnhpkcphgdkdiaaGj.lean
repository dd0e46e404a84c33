/- Stage 13: Sums (written by wip/gen13sm.py). -/
import Derived.Test.YtnhpkcphgdkdiaaGi
import Derived.Test.YtnhpkcphgdkdiaaFs
namespace Go.Proofs.Ytnhpkcphgdkdiaa
set_option maxRecDepth 100000
set_option linter.unusedSimpArgs false
section
open Go.RowKit Go.Lib Go.Shelf Go.Sort
theorem Try.infoF13 : (Try.prog.info? 29).map (fun i => (i.zero, i.size, i.bytes)) = some (some (.float .f64 0), 1, 8) := by kernel_rfl
def encF13 (n : Nat) : Value := .float .f64 n
theorem floats_at {w : World} {B g n c : Nat} {ys : List Nat} (ho : w.ownsRow B 29 1 (.slice (some ⟨g, 0, none⟩) n c) n (ys.map encF13)) (hn : ys.length = n) : ∀ j, j < n → w.cell? ⟨g, 0 + j, none⟩ = some (.float .f64 (ys.getD j 0)) := fun j hj => by
  rw [Nat.zero_add]
  have e : ys[j]? = some (ys[j]'(by omega)) := List.getElem?_eq_getElem (by omega)
  refine own_cellAt ho ?_
  rw [List.getElem?_map, List.getD_eq_getElem?_getD, e]
  rfl
theorem getD_lt {ys : List Nat} (h : ∀ y ∈ ys, y < 18446744073709551616) : ∀ j, ys.getD j 0 < 18446744073709551616 := fun j => by
  rw [List.getD_eq_getElem?_getD]
  cases e : ys[j]? with
  | none => decide
  | some y => exact h y (List.mem_of_getElem? e)
theorem sumU13_c {A : Option Addr} {n c B : Nat} {ys : List Nat} {w : World} (ho : w.ownsRow B 29 1 (.slice A n c) n (ys.map encF13)) (hn : ys.length = n) (hs : n ≤ 1000000) :
    Calls Try.prog 27 #[.slice A n c] w fun e w' => e = .returned (.float .f64 (Fl.canonO (Fl.sumO (fun j => ys.getD j 0) n))) ∧ ∃ k, w' = w.drewN k := by
  by_cases h0 : n = 0
  · subst h0
    exact sum_empty A c _ w
  · obtain ⟨b, hA, _⟩ := own_at_any ho (by omega)
    subst hA
    exact sum_c b 0 n c (fun j => ys.getD j 0) w (by omega) (floats_at ho hn)
theorem leastU13_c {A : Option Addr} {n c B : Nat} {ys : List Nat} {w : World} (ho : w.ownsRow B 29 1 (.slice A n c) n (ys.map encF13)) (hn : ys.length = n) (hs : n ≤ 1000000) (hy : ∀ y ∈ ys, y < 18446744073709551616) :
    Calls Try.prog 28 #[.slice A n c] w fun e w' => (∃ r, e = .returned (.float .f64 r)) ∧ w = w' := by
  by_cases h0 : n = 0
  · subst h0
    exact (least_empty A c (fun _ => 0) w).mono fun e w' z => ⟨⟨_, z.1⟩, z.2⟩
  · obtain ⟨b, hA, _⟩ := own_at_any ho (by omega)
    subst hA
    exact (least_c b 0 n c (fun j => ys.getD j 0) w (by omega) (getD_lt hy) (floats_at ho hn)).mono fun e w' z => ⟨⟨_, z.1⟩, z.2⟩
theorem mostU13_c {A : Option Addr} {n c B : Nat} {ys : List Nat} {w : World} (ho : w.ownsRow B 29 1 (.slice A n c) n (ys.map encF13)) (hn : ys.length = n) (hs : n ≤ 1000000) (hy : ∀ y ∈ ys, y < 18446744073709551616) :
    Calls Try.prog 29 #[.slice A n c] w fun e w' => (∃ r, e = .returned (.float .f64 r)) ∧ w = w' := by
  by_cases h0 : n = 0
  · subst h0
    exact (most_empty A c (fun _ => 0) w).mono fun e w' z => ⟨⟨_, z.1⟩, z.2⟩
  · obtain ⟨b, hA, _⟩ := own_at_any ho (by omega)
    subst hA
    exact (most_c b 0 n c (fun j => ys.getD j 0) w (by omega) (getD_lt hy) (floats_at ho hn)).mono fun e w' z => ⟨⟨_, z.1⟩, z.2⟩
theorem blT13 (w : World) : (Instr.build 43 #[]).run Try.prog w = .ok (.agg #[.int .i64 0, .int .i64 0, .int .i64 0, .float .f64 0, .float .f64 0, .float .f64 0]) w := run_build w 43 _ _ (by kernel_rfl)
/-- A cell of six is written. -/
theorem tot_set {v v2 : World} {g i : Nat} {cs : Array Value} {x : Value} {t : TypeId} (hg : v.heap[g]? = some (.cells cs t (0, 0))) (e : v.setCell ⟨g, i, none⟩ x = v2) :
    Tch g [t] v v2 ∧ v2.heap[g]? = some (.cells (cs.setIfInBounds i x) t (0, 0)) ∧ v2.heap.size = v.heap.size := by
  subst e
  have yr : Ty v g t := ⟨_, _, hg⟩
  exact ⟨(Tch.refl g [t] v).setTy (p := ⟨g, i, none⟩) yr (by simp) (Nat.le_refl _) x, blk_set hg i _, by simp⟩
theorem tkrow_at13 {w : World} {A : Option Addr} {ms : List MTk} {B : Nat} {t : TypeId} (h : Lies w B t A (tkcells ms)) {k : Nat} (hk : k < ms.length) : ∃ ad m, A = some ad ∧ ms[k]? = some m ∧ w.cell? (ad.add (k * 7)) = some (.int .u64 (m.t.id : Int)) ∧ w.cell? ⟨(ad.add (k * 7)).block, (ad.add (k * 7)).off + 1, none⟩ = some (.int .u64 (m.t.list : Int)) ∧
    w.cell? ⟨(ad.add (k * 7)).block, (ad.add (k * 7)).off + 2, none⟩ = some (.string (str m.t.title)) ∧ w.cell? ⟨(ad.add (k * 7)).block, (ad.add (k * 7)).off + 3, none⟩ = some (.bool m.t.done) ∧ w.cell? ⟨(ad.add (k * 7)).block, (ad.add (k * 7)).off + 4, none⟩ = some (.float .f64 m.t.rank) ∧
    w.cell? ⟨(ad.add (k * 7)).block, (ad.add (k * 7)).off + 5, none⟩ = some (.float .f64 m.t.est) ∧ w.cell? ⟨(ad.add (k * 7)).block, (ad.add (k * 7)).off + 6, none⟩ = some (.slice m.A m.t.tags.length m.c) := by
  have hx : ms[k]? = some ms[k] := List.getElem?_eq_getElem hk
  obtain ⟨ad, e, _, hc⟩ := h (fun q => by have := tkcells_len ms; rw [q] at this; simp at this; omega)
  have c : ∀ j u, j < 7 → (encK ms[k])[j]? = some u → w.cell? ((ad.add (k * 7)).add j) = some u := fun j u hj hu => by
    rw [addr_add]
    exact hc _ _ ((cel_at (f := encK) (size := 7) (fun l _ => encK_len l) hx hj).trans hu)
  exact ⟨ad, ms[k], e, hx, c 0 _ (by omega) rfl, c 1 _ (by omega) rfl, c 2 _ (by omega) rfl, c 3 _ (by omega) rfl, c 4 _ (by omega) rfl, c 5 _ (by omega) rfl, c 6 _ (by omega) rfl⟩
def done13 (ts : List T9.Tk) : Nat := (ts.filter (·.done)).length
def known13 (ts : List T9.Tk) : Nat := (ts.filter (fun t => !Fl.isN t.est)).length
theorem done_snoc (ts : List T9.Tk) (t : T9.Tk) : done13 (ts ++ [t]) = done13 ts + (if t.done = true then 1 else 0) := by
  unfold done13
  rw [List.filter_append, List.length_append]
  cases h : t.done <;> simp [h]
theorem known_snoc (ts : List T9.Tk) (t : T9.Tk) : known13 (ts ++ [t]) = known13 ts + (if Fl.isN t.est = true then 0 else 1) := by
  unfold known13
  rw [List.filter_append, List.length_append]
  cases h : Fl.isN t.est <;> simp [h]
/-- What Sums tells. -/
def SumsOk (ls : List T9.Li) (ts : List T9.Tk) (q : T9.Qr) (w : World) (e : Ending) (w' : World) : Prop :=
  ((T9.wrongE ls q ≠ 0 ∧ e = .returned (.tuple #[.agg #[.int .i64 0, .int .i64 0, .int .i64 0, .float .f64 0, .float .f64 0, .float .f64 0], .int .i64 (T9.wrongE ls q)])) ∨
    (T9.wrongE ls q = 0 ∧ ∃ (l m : Nat), e = .returned (.tuple #[.agg #[.int .i64 ((ts.filter (T9.holds q)).length : Int), .int .i64 (done13 (ts.filter (T9.holds q)) : Int), .int .i64 (known13 (ts.filter (T9.holds q)) : Int), .float .f64 (Fl.canonO (Fl.sumO (fun j => ((ts.filter (T9.holds q)).map (·.est)).getD j 0) (ts.filter (T9.holds q)).length)), .float .f64 l, .float .f64 m], .int .i64 0]))) ∧ Below w.heap.size w w'

set_option maxRecDepth 100000 in
set_option maxHeartbeats 8000000 in
theorem sums13_c {A A2 : Option Addr} {n1 n2 c c2 : Nat} {ls : List T9.Li} {ms : List MTk} {q : T9.Qr} {w : World} (hl : LL w A ls) (hk : KL w A2 ms) (e1 : n1 = ls.length) (e2 : n2 = ms.length) (s1 : n1 ≤ 1000) (s2 : n2 ≤ 1000) (hg : ∀ m ∈ ms, m.t.tags.length ≤ 1000) (hf : ∀ m ∈ ms, m.t.rank < 18446744073709551616 ∧ m.t.est < 18446744073709551616) :
    Calls Try.prog 12 #[.agg #[.slice A n1 c, .slice A2 n2 c2], .agg (qcells q)] w (SumsOk ls (tks ms) q w) := by
  obtain ⟨ql, qd, qt, qs, qw, qm⟩ := q
  obtain ⟨w0, hw0⟩ : ∃ u, w.alloc (.cells #[.slice A n1 c, .slice A2 n2 c2] 25) = u := ⟨_, rfl⟩
  obtain ⟨lb, b1, z1⟩ := new_two hw0
  obtain ⟨w1, hw1⟩ : ∃ u, w0.alloc (.cells (qcells ⟨ql, qd, qt, qs, qw, qm⟩) 28) = u := ⟨_, rfl⟩
  obtain ⟨pb, b2, z2⟩ := new_six13 hw1
  obtain ⟨w2, hw2⟩ : ∃ u, w1.alloc (.cells #[.int .i64 0, .int .i64 0, .int .i64 0, .float .f64 0, .float .f64 0, .float .f64 0] 43) = u := ⟨_, rfl⟩
  obtain ⟨tb, b3, z3⟩ := new_six13 hw2
  rw [z1] at pb
  have y2 : w1.heap.size = w.heap.size + 2 := by omega
  have y3 : w2.heap.size = w.heap.size + 3 := by omega
  clear z2 z3
  rw [y2] at tb
  have B2 : Hid (Below w.heap.size w w2) := Lib.hid ((b1.trans (b2.mono (by omega))).trans (b3.mono (by omega)))
  have QB : Hid (w2.heap[w.heap.size + 1]? = some (.cells (qcells ⟨ql, qd, qt, qs, qw, qm⟩) 28 (0, 0))) := Lib.hid (blk_keep pb b3)
  have LB := Lib.hid (blk_keep (blk_keep lb b2) b3)
  have TB := Lib.hid tb
  have Y3 := Lib.hid y3
  have CW := Lib.hid (wrong13_c (A2 := A2) (n2 := n2) (c := c) (c2 := c2) (q := ⟨ql, qd, qt, qs, qw, qm⟩) (hl.stay B2.out) e1 (by omega))
  have CH := Lib.hid (fun (u : World) (hu : Below w2.heap.size w2 u) => held13_c (A := A) (n1 := n1) (c := c) (c2 := c2) (q := ⟨ql, qd, qt, qs, qw, qm⟩) ((hk.stay B2.out).stay hu) e2 (by omega) (fun m hm => by have := hg m hm; omega))
  have E2 := Lib.hid e2
  have HF := Lib.hid hf
  have S2 : Hid (n2 ≤ 1000) := Lib.hid s2
  obtain ⟨er, her⟩ : ∃ r, T9.wrongE ls ⟨ql, qd, qt, qs, qw, qm⟩ = r := ⟨_, rfl⟩
  rw [her] at CW
  have ER := Lib.hid her
  have hbl := blT13
  unfold qcells at hw1 CW CH ⊢
  dsimp only at hw1 CW CH ⊢
  obtain ⟨l0, l1⟩ := two_cells LB.out
  obtain ⟨p0, p1, p2, p3, p4, p5⟩ := six_cells13 QB.out
  clear lb b1 pb b2 tb b3 hl hk e1 e2 s1 s2 hg hf her
  by_cases he : er = 0
  rotate_left
  · have hez : (er != 0) = true := by simp [he]
    have HE := Lib.hid he
    clear he
    go_enter Try.func12, Try.ntmps12
    go_wp2_with fail
    refine CW.out.mono ?_
    rintro e w3 ⟨rfl, h3⟩
    have H3 := Lib.hid h3
    have TB3 := Lib.hid (blk_keep TB.out h3)
    obtain ⟨t0, t1, t2, t3, t4, t5⟩ := six_cells13 TB3.out
    have f0 := blk_free TB3.out 0
    have f1 := blk_free TB3.out 1
    have f2 := blk_free TB3.out 2
    have f3 := blk_free TB3.out 3
    have f4 := blk_free TB3.out 4
    have f5 := blk_free TB3.out 5
    clear h3
    obtain ⟨w4, hw4⟩ : ∃ u, put6 w3 (w.heap.size + 2) (.int .i64 0) (.int .i64 0) (.int .i64 0) (.float .f64 0) (.float .f64 0) (.float .f64 0) = u := ⟨_, rfl⟩
    have TB4 : w4.heap[w.heap.size + 2]? = some (.cells #[.int .i64 0, .int .i64 0, .int .i64 0, .float .f64 0, .float .f64 0, .float .f64 0] 43 (0, 0)) := by
      rw [← hw4]
      exact blk_set (blk_set (blk_set (blk_set (blk_set (blk_set TB3.out 0 _) 1 _) 2 _) 3 _) 4 _) 5 _
    have BB : Hid (Below w.heap.size w3 w4) := Lib.hid (by
      rw [← hw4]
      exact (Tch.put6Ty (ts := [43]) (Tch.refl w.heap.size _ w3) ⟨_, _, TB3.out⟩ (by simp) (by omega) _ _ _ _ _ _).below)
    unfold put6 at hw4
    obtain ⟨k0, k1, k2, k3, k4, k5⟩ := six_cells13 TB4
    clear TB4
    go_wp2
    try rw [hw4]
    refine bodyPost_ret (v := .tuple #[.agg #[.int .i64 0, .int .i64 0, .int .i64 0, .float .f64 0, .float .f64 0, .float .f64 0], .int .i64 er]) (by simp [results, Try.results12, go_sem, k0, k1, k2, k3, k4, k5]) rfl ?_
    exact ⟨.inl ⟨by rw [ER.out]; exact HE.out, by rw [ER.out]⟩, (B2.out.trans (H3.out.mono B2.out.size)).trans BB.out⟩
  · subst he
    have hez : ((0 : Int) != 0) = false := by decide
    go_enter Try.func12, Try.ntmps12
    go_wp2_with fail
    refine CW.out.mono ?_
    rintro e w3 ⟨rfl, h3⟩
    obtain ⟨w4, hw4⟩ : ∃ u, w3.alloc (.cells #[.int .i64 0, .int .i64 0, .int .i64 0, .float .f64 0, .float .f64 0, .float .f64 0] 43) = u := ⟨_, rfl⟩
    obtain ⟨gb, b4, z4⟩ := new_six13 hw4
    obtain ⟨g, hg⟩ : ∃ g, w3.heap.size = g := ⟨_, rfl⟩
    rw [hg] at gb z4
    have B4 : Hid (Below w2.heap.size w2 w4) := Lib.hid (h3.trans (b4.mono h3.size))
    have HG2 : Hid (w.heap.size + 3 ≤ g) := Lib.hid (by rw [← hg]; have := h3.size; have := Y3.out; omega)
    have GB4 := Lib.hid gb
    have Z4 := Lib.hid z4
    have CH4 := Lib.hid (CH.out w4 B4.out)
    obtain ⟨l0, l1⟩ := two_cells (blk_keep LB.out B4.out)
    obtain ⟨p0, p1, p2, p3, p4, p5⟩ := six_cells13 (blk_keep QB.out B4.out)
    clear h3 b4 gb z4
    go_wp2_with fail
    refine CH4.out.mono ?_
    rintro e w5 ⟨A4, c4, xs, rfl, ho4, hx4, h4⟩
    obtain ⟨n, hn⟩ : ∃ n, xs.length = n := ⟨_, rfl⟩
    rw [hn] at ho4
    rw [hn]
    have HX := Lib.hid hx4
    have HN := Lib.hid hn
    have B5 : Hid (Below w2.heap.size w2 w5) := Lib.hid (B4.out.trans (h4.mono B4.out.size))
    have GB5 := Lib.hid (blk_keep GB4.out h4)
    have L5 := Lib.hid (lies_own (B := 0) ho4)
    have NS : n ≤ 1000 := by rw [← hn, hx4]; have := List.length_filter_le (fun m : MTk => T9.holds ⟨ql, qd, qt, qs, qw, qm⟩ m.t) ms; have := E2.out; have := S2.out; omega
    have XM : Hid (∀ m ∈ xs, m.t.est < 18446744073709551616) := Lib.hid (fun m hm => (HF.out m (by rw [hx4] at hm; exact (List.mem_filter.1 hm).1)).2)
    have Z5 : Hid (g < w5.heap.size) := Lib.hid (lt_of_block GB5.out)
    have TB5 := Lib.hid (blk_keep TB.out B5.out)
    clear ho4 hx4 h4 hn
    go_wp2_with fail
    go_loopw [8, 22] (fun s8 s22 wr => ∃ (i : Nat) (R : Option Addr) (rc : Nat), s22 = .int .i64 i ∧ i ≤ n ∧ s8 = .slice R i rc ∧ Aside (wr.ownsRow w5.heap.size 29 1 (.slice R i rc) i (((xs.take i).map (·.t.est)).map encF13)) ∧ Hid (Tch g [43, 29] w5 wr) ∧ Hid (wr.heap[g]? = some (.cells #[.int .i64 (i : Int), .int .i64 (done13 (tks (xs.take i)) : Int), .int .i64 (known13 (tks (xs.take i)) : Int), .float .f64 0, .float .f64 0, .float .f64 0] 43 (0, 0))) ∧ Hid (done13 (tks (xs.take i)) ≤ i ∧ known13 (tks (xs.take i)) ≤ i)) (fun _ s22 _ => n - (intOf s22).toNat)
    case atStart => exact ⟨0, none, 0, rfl, Nat.zero_le _, rfl, World.ownsRow_nil _ _ _ _, Lib.hid (Tch.refl _ _ _), GB5, Lib.hid ⟨Nat.le_refl _, Nat.le_refl _⟩⟩
    case round =>
      obtain ⟨i, R, rc, rfl, hin, rfl, hO, TC, GR, DK⟩ := hrel
      have OW := Lib.hid hO.out
      clear hO
      by_cases hlt : i < n
      · have hltz : (i : Int) < (n : Int) := by omega
        obtain ⟨ad, ⟨⟨ti, tl, tt, td, tr, te, tg⟩, A9, c9⟩, hA, hx, r0, r1, r2, r3, r4, r5, r6⟩ := tkrow_at13 (L5.out.tch (TC.out.mono (Nat.zero_le _)) (by decide)) (k := i) (by have := HN.out; omega)
        subst hA
        dsimp only at r0 r1 r2 r3 r4 r5 r6
        obtain ⟨wa, hwa⟩ : ∃ u, wr.alloc (.cells #[.int .u64 (ti : Int), .int .u64 (tl : Int), .string (str tt), .bool td, .float .f64 tr, .float .f64 te, .slice A9 tg.length c9] 32) = u := ⟨_, rfl⟩
        obtain ⟨lb, b2, z2⟩ := new_seven hwa
        have LBa := Lib.hid lb
        have B2a := Lib.hid b2
        have gra := blk_keep GR.out b2
        obtain ⟨dn, hdn⟩ : ∃ d, done13 (tks (xs.take i)) = d := ⟨_, rfl⟩
        obtain ⟨kn, hkn⟩ : ∃ d, known13 (tks (xs.take i)) = d := ⟨_, rfl⟩
        rw [hdn, hkn] at DK gra
        have GRa := Lib.hid gra
        have X := Lib.hid hx
        obtain ⟨l0, l1, l2, l3, l4, l5, l6⟩ := seven_cells lb
        obtain ⟨t0, t1, t2, t3, t4, t5⟩ := six_cells13 gra
        have f0 := blk_free gra 0
        have f1 := blk_free gra 1
        have f2 := blk_free gra 2
        have DKo := DK.out
        have w1' : IntKind.i64.wrap ((i : Int) + 1) = (i : Int) + 1 := by rw [IntKind.wrap_i64]; omega
        have w2' : IntKind.i64.wrap ((dn : Int) + 1) = (dn : Int) + 1 := by rw [IntKind.wrap_i64]; omega
        have w3' : IntKind.i64.wrap ((kn : Int) + 1) = (kn : Int) + 1 := by rw [IntKind.wrap_i64]; omega
        clear lb b2 gra hx
        have NX : Hid (xs.take (i + 1) = xs.take i ++ [⟨⟨ti, tl, tt, td, tr, te, tg⟩, A9, c9⟩]) := Lib.hid (take_nxt X.out)
        have DN0 : done13 (tks (xs.take (i + 1))) = dn + (if td = true then 1 else 0) := by rw [NX.out, tks_snoc, done_snoc, hdn]
        have KN0 : known13 (tks (xs.take (i + 1))) = kn + (if Fl.isN te = true then 0 else 1) := by rw [NX.out, tks_snoc, known_snoc, hkn]
        clear hdn hkn
        obtain ⟨fl, hfl⟩ : ∃ f, ((xs.take i).map (·.t.est)).map encF13 = f := ⟨_, rfl⟩
        rw [hfl] at OW
        have HFL := Lib.hid hfl
        clear hfl
        rcases Bool.eq_false_or_eq_true td with hd | hd <;> rcases Bool.eq_false_or_eq_true (Fl.isN te) with hn | hn
        all_goals
          subst hd
          have DN := Lib.hid DN0
          rw [hn] at KN0
          have KN := Lib.hid KN0
          clear DN0 KN0
        · go_upto_region 10 with fail
          obtain ⟨wb, hwb⟩ : ∃ u, wa.setCell ⟨g, 0, none⟩ (.int .i64 ((i : Int) + 1)) = u := ⟨_, rfl⟩
          try rw [hwb]
          obtain ⟨tb1, gb1, zb1⟩ := tot_set GRa.out hwb
          have GB1 : Hid (wb.heap[g]? = some (.cells #[.int .i64 ((i : Int) + 1), .int .i64 (dn : Int), .int .i64 (kn : Int), .float .f64 0, .float .f64 0, .float .f64 0] 43 (0, 0))) := Lib.hid gb1
          have LB1 := Lib.hid (tb1.blk LBa.out (by decide))
          have TW1 := Lib.hid tb1
          clear l0 l1 l2 l3 l4 l5 l6 t0 t1 t2 t3 t4 t5 f0 f1 f2 tb1 gb1 zb1
          obtain ⟨l0, l1, l2, l3, l4, l5, l6⟩ := seven_cells LB1.out
          obtain ⟨t0, t1, t2, t3, t4, t5⟩ := six_cells13 GB1.out
          have f1 := blk_free GB1.out 1
          go_upto_region 12 with fail
          obtain ⟨wc, hwc⟩ : ∃ u, wb.setCell ⟨g, 1, none⟩ (.int .i64 ((dn : Int) + 1)) = u := ⟨_, rfl⟩
          try rw [hwc]
          obtain ⟨tb1, gb1, zb1⟩ := tot_set GB1.out hwc
          have GB2 : Hid (wc.heap[g]? = some (.cells #[.int .i64 ((i : Int) + 1), .int .i64 ((dn : Int) + 1), .int .i64 (kn : Int), .float .f64 0, .float .f64 0, .float .f64 0] 43 (0, 0))) := Lib.hid gb1
          have LB2 := Lib.hid (tb1.blk LB1.out (by decide))
          have TW2 := Lib.hid (TW1.out.trans tb1)
          clear l0 l1 l2 l3 l4 l5 l6 t0 t1 t2 t3 t4 t5 f1 tb1 gb1 zb1
          obtain ⟨l0, l1, l2, l3, l4, l5, l6⟩ := seven_cells LB2.out
          obtain ⟨t0, t1, t2, t3, t4, t5⟩ := six_cells13 GB2.out
          have f2 := blk_free GB2.out 2
          have OW5 := Lib.hid (own_tch (own_below OW.out B2a.out) TW2.out (by decide))
          have OWE := Lib.hid (OW5.out.alloc (.cells #[.float .f64 te] 29))
          have LE : Hid (Lies (wc.alloc (.cells #[.float .f64 te] 29)) 0 29 (some ⟨wc.heap.size, 0, none⟩) [encF13 te]) := Lib.hid (Lies.of_blk (heap_alloc_new wc _))
          have TCu : Hid (Tch g [43, 29] w5 wc) := Lib.hid ((TC.out.trans (Tch.of_below (B := g) B2a.out (Nat.le_of_lt (Nat.lt_of_lt_of_le Z5.out TC.out.size)) _)).trans (TW2.out.more (by simp)))
          have zz : w5.heap.size ≤ wc.heap.size := TCu.out.size
          have ZZ := Lib.hid zz
          have PXE := Lib.hid (blk_alloc GB2.out (.cells #[.float .f64 te] 29))
          obtain ⟨ti0, thi, tz0, tz1, tz2⟩ := info_parts Try.infoF13
          go_wp2_with (first | (go_at_call 26; refine (class_c _ _).mono ?_; rintro e w' ⟨rfl, rfl⟩) | (at_builtin; refine wpList_app _ rfl _ _ 62 rfl w5.heap.size 29 ti0 _ 1 8 Try.underlying62 thi tz0 tz1 tz2 rfl (by decide) (.slice R i rc) i fl rfl OWE.out 0 _ 1 1 [encF13 te] 29 rfl rfl LE.out (by intro u hu; rw [List.mem_singleton] at hu; subst hu; rfl) (by unfold maxLen; omega) (by omega) (by simp; omega) ?_))
          intro v6 w6 hown6 hgrow6 hor6
          obtain ⟨A6, k6, rfl⟩ := own_slice hown6
          have GB6 : Hid (w6.heap[g]? = some (.cells #[.int .i64 ((i : Int) + 1), .int .i64 ((dn : Int) + 1), .int .i64 (kn : Int), .float .f64 0, .float .f64 0, .float .f64 0] 43 (0, 0))) := Lib.hid ((hgrow6.block g (lt_of_block PXE.out) (fun q => by
            obtain ⟨_, cs2, fr2, r⟩ := own_row OWE.out _ q.symm
            rw [PXE.out] at r
            injection r with r
            injection r with _ r _
            exact absurd r (by decide))).trans PXE.out)
          have T6 : Hid (Tch g [43, 29] w5 w6) := Lib.hid ((TCu.out.alloc (Nat.le_trans (Nat.le_of_lt Z5.out) ZZ.out) (.cells #[.float .f64 te] 29)).trans (grown_tch (B := g) (ts := [43, 29]) OWE.out hgrow6 (Nat.le_of_lt Z5.out) (by have := ZZ.out; have := Z5.out; simp; omega) (by simp)))
          have HO6 := Lib.hid hown6
          clear hown6 hgrow6 hor6 zz
          go_wp2
          go_roundw
          case rel =>
            refine ⟨i + 1, A6, k6, by go_num, by omega, rfl, ?_, T6, Lib.hid ?_, Lib.hid ?_⟩
            · rw [NX.out, List.map_append, List.map_append, HFL.out]
              exact HO6.out
            · rw [DN.out, KN.out]
              exact GB6.out
            · rw [DN.out, KN.out]
              have := DK.out
              refine ⟨?_, ?_⟩ <;> (try split) <;> omega
          case measure => simp [intOf]; omega
        · go_upto_region 10 with fail
          obtain ⟨wb, hwb⟩ : ∃ u, wa.setCell ⟨g, 0, none⟩ (.int .i64 ((i : Int) + 1)) = u := ⟨_, rfl⟩
          try rw [hwb]
          obtain ⟨tb1, gb1, zb1⟩ := tot_set GRa.out hwb
          have GB1 : Hid (wb.heap[g]? = some (.cells #[.int .i64 ((i : Int) + 1), .int .i64 (dn : Int), .int .i64 (kn : Int), .float .f64 0, .float .f64 0, .float .f64 0] 43 (0, 0))) := Lib.hid gb1
          have LB1 := Lib.hid (tb1.blk LBa.out (by decide))
          have TW1 := Lib.hid tb1
          clear l0 l1 l2 l3 l4 l5 l6 t0 t1 t2 t3 t4 t5 f0 f1 f2 tb1 gb1 zb1
          obtain ⟨l0, l1, l2, l3, l4, l5, l6⟩ := seven_cells LB1.out
          obtain ⟨t0, t1, t2, t3, t4, t5⟩ := six_cells13 GB1.out
          have f1 := blk_free GB1.out 1
          go_upto_region 12 with fail
          obtain ⟨wc, hwc⟩ : ∃ u, wb.setCell ⟨g, 1, none⟩ (.int .i64 ((dn : Int) + 1)) = u := ⟨_, rfl⟩
          try rw [hwc]
          obtain ⟨tb1, gb1, zb1⟩ := tot_set GB1.out hwc
          have GB2 : Hid (wc.heap[g]? = some (.cells #[.int .i64 ((i : Int) + 1), .int .i64 ((dn : Int) + 1), .int .i64 (kn : Int), .float .f64 0, .float .f64 0, .float .f64 0] 43 (0, 0))) := Lib.hid gb1
          have LB2 := Lib.hid (tb1.blk LB1.out (by decide))
          have TW2 := Lib.hid (TW1.out.trans tb1)
          clear l0 l1 l2 l3 l4 l5 l6 t0 t1 t2 t3 t4 t5 f1 tb1 gb1 zb1
          obtain ⟨l0, l1, l2, l3, l4, l5, l6⟩ := seven_cells LB2.out
          obtain ⟨t0, t1, t2, t3, t4, t5⟩ := six_cells13 GB2.out
          have f2 := blk_free GB2.out 2
          go_upto_region 14 with (go_at_call 26; refine (class_c _ _).mono ?_; rintro e w' ⟨rfl, rfl⟩)
          obtain ⟨wd, hwd⟩ : ∃ u, wc.setCell ⟨g, 2, none⟩ (.int .i64 ((kn : Int) + 1)) = u := ⟨_, rfl⟩
          try rw [hwd]
          obtain ⟨tb1, gb1, zb1⟩ := tot_set GB2.out hwd
          have GB3 : Hid (wd.heap[g]? = some (.cells #[.int .i64 ((i : Int) + 1), .int .i64 ((dn : Int) + 1), .int .i64 ((kn : Int) + 1), .float .f64 0, .float .f64 0, .float .f64 0] 43 (0, 0))) := Lib.hid gb1
          have LB3 := Lib.hid (tb1.blk LB2.out (by decide))
          have TW3 := Lib.hid (TW2.out.trans tb1)
          clear l0 l1 l2 l3 l4 l5 l6 t0 t1 t2 t3 t4 t5 f2 tb1 gb1 zb1
          obtain ⟨l0, l1, l2, l3, l4, l5, l6⟩ := seven_cells LB3.out
          have OW5 := Lib.hid (own_tch (own_below OW.out B2a.out) TW3.out (by decide))
          have OWE := Lib.hid (OW5.out.alloc (.cells #[.float .f64 te] 29))
          have LE : Hid (Lies (wd.alloc (.cells #[.float .f64 te] 29)) 0 29 (some ⟨wd.heap.size, 0, none⟩) [encF13 te]) := Lib.hid (Lies.of_blk (heap_alloc_new wd _))
          have TCu : Hid (Tch g [43, 29] w5 wd) := Lib.hid ((TC.out.trans (Tch.of_below (B := g) B2a.out (Nat.le_of_lt (Nat.lt_of_lt_of_le Z5.out TC.out.size)) _)).trans (TW3.out.more (by simp)))
          have zz : w5.heap.size ≤ wd.heap.size := TCu.out.size
          have ZZ := Lib.hid zz
          have PXE := Lib.hid (blk_alloc GB3.out (.cells #[.float .f64 te] 29))
          obtain ⟨ti0, thi, tz0, tz1, tz2⟩ := info_parts Try.infoF13
          go_wp2_with ((at_builtin; refine wpList_app _ rfl _ _ 62 rfl w5.heap.size 29 ti0 _ 1 8 Try.underlying62 thi tz0 tz1 tz2 rfl (by decide) (.slice R i rc) i fl rfl OWE.out 0 _ 1 1 [encF13 te] 29 rfl rfl LE.out (by intro u hu; rw [List.mem_singleton] at hu; subst hu; rfl) (by unfold maxLen; omega) (by omega) (by simp; omega) ?_))
          intro v6 w6 hown6 hgrow6 hor6
          obtain ⟨A6, k6, rfl⟩ := own_slice hown6
          have GB6 : Hid (w6.heap[g]? = some (.cells #[.int .i64 ((i : Int) + 1), .int .i64 ((dn : Int) + 1), .int .i64 ((kn : Int) + 1), .float .f64 0, .float .f64 0, .float .f64 0] 43 (0, 0))) := Lib.hid ((hgrow6.block g (lt_of_block PXE.out) (fun q => by
            obtain ⟨_, cs2, fr2, r⟩ := own_row OWE.out _ q.symm
            rw [PXE.out] at r
            injection r with r
            injection r with _ r _
            exact absurd r (by decide))).trans PXE.out)
          have T6 : Hid (Tch g [43, 29] w5 w6) := Lib.hid ((TCu.out.alloc (Nat.le_trans (Nat.le_of_lt Z5.out) ZZ.out) (.cells #[.float .f64 te] 29)).trans (grown_tch (B := g) (ts := [43, 29]) OWE.out hgrow6 (Nat.le_of_lt Z5.out) (by have := ZZ.out; have := Z5.out; simp; omega) (by simp)))
          have HO6 := Lib.hid hown6
          clear hown6 hgrow6 hor6 zz
          go_wp2
          go_roundw
          case rel =>
            refine ⟨i + 1, A6, k6, by go_num, by omega, rfl, ?_, T6, Lib.hid ?_, Lib.hid ?_⟩
            · rw [NX.out, List.map_append, List.map_append, HFL.out]
              exact HO6.out
            · rw [DN.out, KN.out]
              exact GB6.out
            · rw [DN.out, KN.out]
              have := DK.out
              refine ⟨?_, ?_⟩ <;> (try split) <;> omega
          case measure => simp [intOf]; omega
        · go_upto_region 10 with fail
          obtain ⟨wb, hwb⟩ : ∃ u, wa.setCell ⟨g, 0, none⟩ (.int .i64 ((i : Int) + 1)) = u := ⟨_, rfl⟩
          try rw [hwb]
          obtain ⟨tb1, gb1, zb1⟩ := tot_set GRa.out hwb
          have GB1 : Hid (wb.heap[g]? = some (.cells #[.int .i64 ((i : Int) + 1), .int .i64 (dn : Int), .int .i64 (kn : Int), .float .f64 0, .float .f64 0, .float .f64 0] 43 (0, 0))) := Lib.hid gb1
          have LB1 := Lib.hid (tb1.blk LBa.out (by decide))
          have TW1 := Lib.hid tb1
          clear l0 l1 l2 l3 l4 l5 l6 t0 t1 t2 t3 t4 t5 f0 f1 f2 tb1 gb1 zb1
          obtain ⟨l0, l1, l2, l3, l4, l5, l6⟩ := seven_cells LB1.out
          obtain ⟨t0, t1, t2, t3, t4, t5⟩ := six_cells13 GB1.out
          have f1 := blk_free GB1.out 1
          have f2 := blk_free GB1.out 2
          have OW5 := Lib.hid (own_tch (own_below OW.out B2a.out) TW1.out (by decide))
          have OWE := Lib.hid (OW5.out.alloc (.cells #[.float .f64 te] 29))
          have LE : Hid (Lies (wb.alloc (.cells #[.float .f64 te] 29)) 0 29 (some ⟨wb.heap.size, 0, none⟩) [encF13 te]) := Lib.hid (Lies.of_blk (heap_alloc_new wb _))
          have TCu : Hid (Tch g [43, 29] w5 wb) := Lib.hid ((TC.out.trans (Tch.of_below (B := g) B2a.out (Nat.le_of_lt (Nat.lt_of_lt_of_le Z5.out TC.out.size)) _)).trans (TW1.out.more (by simp)))
          have zz : w5.heap.size ≤ wb.heap.size := TCu.out.size
          have ZZ := Lib.hid zz
          have PXE := Lib.hid (blk_alloc GB1.out (.cells #[.float .f64 te] 29))
          obtain ⟨ti0, thi, tz0, tz1, tz2⟩ := info_parts Try.infoF13
          go_wp2_with (first | (go_at_call 26; refine (class_c _ _).mono ?_; rintro e w' ⟨rfl, rfl⟩) | (at_builtin; refine wpList_app _ rfl _ _ 62 rfl w5.heap.size 29 ti0 _ 1 8 Try.underlying62 thi tz0 tz1 tz2 rfl (by decide) (.slice R i rc) i fl rfl OWE.out 0 _ 1 1 [encF13 te] 29 rfl rfl LE.out (by intro u hu; rw [List.mem_singleton] at hu; subst hu; rfl) (by unfold maxLen; omega) (by omega) (by simp; omega) ?_))
          intro v6 w6 hown6 hgrow6 hor6
          obtain ⟨A6, k6, rfl⟩ := own_slice hown6
          have GB6 : Hid (w6.heap[g]? = some (.cells #[.int .i64 ((i : Int) + 1), .int .i64 (dn : Int), .int .i64 (kn : Int), .float .f64 0, .float .f64 0, .float .f64 0] 43 (0, 0))) := Lib.hid ((hgrow6.block g (lt_of_block PXE.out) (fun q => by
            obtain ⟨_, cs2, fr2, r⟩ := own_row OWE.out _ q.symm
            rw [PXE.out] at r
            injection r with r
            injection r with _ r _
            exact absurd r (by decide))).trans PXE.out)
          have T6 : Hid (Tch g [43, 29] w5 w6) := Lib.hid ((TCu.out.alloc (Nat.le_trans (Nat.le_of_lt Z5.out) ZZ.out) (.cells #[.float .f64 te] 29)).trans (grown_tch (B := g) (ts := [43, 29]) OWE.out hgrow6 (Nat.le_of_lt Z5.out) (by have := ZZ.out; have := Z5.out; simp; omega) (by simp)))
          have HO6 := Lib.hid hown6
          clear hown6 hgrow6 hor6 zz
          go_wp2
          go_roundw
          case rel =>
            refine ⟨i + 1, A6, k6, by go_num, by omega, rfl, ?_, T6, Lib.hid ?_, Lib.hid ?_⟩
            · rw [NX.out, List.map_append, List.map_append, HFL.out]
              exact HO6.out
            · rw [DN.out, KN.out]
              exact GB6.out
            · rw [DN.out, KN.out]
              have := DK.out
              refine ⟨?_, ?_⟩ <;> (try split) <;> omega
          case measure => simp [intOf]; omega
        · go_upto_region 10 with fail
          obtain ⟨wb, hwb⟩ : ∃ u, wa.setCell ⟨g, 0, none⟩ (.int .i64 ((i : Int) + 1)) = u := ⟨_, rfl⟩
          try rw [hwb]
          obtain ⟨tb1, gb1, zb1⟩ := tot_set GRa.out hwb
          have GB1 : Hid (wb.heap[g]? = some (.cells #[.int .i64 ((i : Int) + 1), .int .i64 (dn : Int), .int .i64 (kn : Int), .float .f64 0, .float .f64 0, .float .f64 0] 43 (0, 0))) := Lib.hid gb1
          have LB1 := Lib.hid (tb1.blk LBa.out (by decide))
          have TW1 := Lib.hid tb1
          clear l0 l1 l2 l3 l4 l5 l6 t0 t1 t2 t3 t4 t5 f0 f1 f2 tb1 gb1 zb1
          obtain ⟨l0, l1, l2, l3, l4, l5, l6⟩ := seven_cells LB1.out
          obtain ⟨t0, t1, t2, t3, t4, t5⟩ := six_cells13 GB1.out
          have f1 := blk_free GB1.out 1
          have f2 := blk_free GB1.out 2
          go_upto_region 14 with (go_at_call 26; refine (class_c _ _).mono ?_; rintro e w' ⟨rfl, rfl⟩)
          obtain ⟨wd, hwd⟩ : ∃ u, wb.setCell ⟨g, 2, none⟩ (.int .i64 ((kn : Int) + 1)) = u := ⟨_, rfl⟩
          try rw [hwd]
          obtain ⟨tb1, gb1, zb1⟩ := tot_set GB1.out hwd
          have GB3 : Hid (wd.heap[g]? = some (.cells #[.int .i64 ((i : Int) + 1), .int .i64 (dn : Int), .int .i64 ((kn : Int) + 1), .float .f64 0, .float .f64 0, .float .f64 0] 43 (0, 0))) := Lib.hid gb1
          have LB3 := Lib.hid (tb1.blk LB1.out (by decide))
          have TW3 := Lib.hid (TW1.out.trans tb1)
          clear l0 l1 l2 l3 l4 l5 l6 t0 t1 t2 t3 t4 t5 f2 tb1 gb1 zb1
          obtain ⟨l0, l1, l2, l3, l4, l5, l6⟩ := seven_cells LB3.out
          have OW5 := Lib.hid (own_tch (own_below OW.out B2a.out) TW3.out (by decide))
          have OWE := Lib.hid (OW5.out.alloc (.cells #[.float .f64 te] 29))
          have LE : Hid (Lies (wd.alloc (.cells #[.float .f64 te] 29)) 0 29 (some ⟨wd.heap.size, 0, none⟩) [encF13 te]) := Lib.hid (Lies.of_blk (heap_alloc_new wd _))
          have TCu : Hid (Tch g [43, 29] w5 wd) := Lib.hid ((TC.out.trans (Tch.of_below (B := g) B2a.out (Nat.le_of_lt (Nat.lt_of_lt_of_le Z5.out TC.out.size)) _)).trans (TW3.out.more (by simp)))
          have zz : w5.heap.size ≤ wd.heap.size := TCu.out.size
          have ZZ := Lib.hid zz
          have PXE := Lib.hid (blk_alloc GB3.out (.cells #[.float .f64 te] 29))
          obtain ⟨ti0, thi, tz0, tz1, tz2⟩ := info_parts Try.infoF13
          go_wp2_with ((at_builtin; refine wpList_app _ rfl _ _ 62 rfl w5.heap.size 29 ti0 _ 1 8 Try.underlying62 thi tz0 tz1 tz2 rfl (by decide) (.slice R i rc) i fl rfl OWE.out 0 _ 1 1 [encF13 te] 29 rfl rfl LE.out (by intro u hu; rw [List.mem_singleton] at hu; subst hu; rfl) (by unfold maxLen; omega) (by omega) (by simp; omega) ?_))
          intro v6 w6 hown6 hgrow6 hor6
          obtain ⟨A6, k6, rfl⟩ := own_slice hown6
          have GB6 : Hid (w6.heap[g]? = some (.cells #[.int .i64 ((i : Int) + 1), .int .i64 (dn : Int), .int .i64 ((kn : Int) + 1), .float .f64 0, .float .f64 0, .float .f64 0] 43 (0, 0))) := Lib.hid ((hgrow6.block g (lt_of_block PXE.out) (fun q => by
            obtain ⟨_, cs2, fr2, r⟩ := own_row OWE.out _ q.symm
            rw [PXE.out] at r
            injection r with r
            injection r with _ r _
            exact absurd r (by decide))).trans PXE.out)
          have T6 : Hid (Tch g [43, 29] w5 w6) := Lib.hid ((TCu.out.alloc (Nat.le_trans (Nat.le_of_lt Z5.out) ZZ.out) (.cells #[.float .f64 te] 29)).trans (grown_tch (B := g) (ts := [43, 29]) OWE.out hgrow6 (Nat.le_of_lt Z5.out) (by have := ZZ.out; have := Z5.out; simp; omega) (by simp)))
          have HO6 := Lib.hid hown6
          clear hown6 hgrow6 hor6 zz
          go_wp2
          go_roundw
          case rel =>
            refine ⟨i + 1, A6, k6, by go_num, by omega, rfl, ?_, T6, Lib.hid ?_, Lib.hid ?_⟩
            · rw [NX.out, List.map_append, List.map_append, HFL.out]
              exact HO6.out
            · rw [DN.out, KN.out]
              exact GB6.out
            · rw [DN.out, KN.out]
              have := DK.out
              refine ⟨?_, ?_⟩ <;> (try split) <;> omega
          case measure => simp [intOf]; omega
      · obtain rfl : i = n := by omega
        have hltz : ¬ ((i : Int) < (i : Int)) := by omega
        have ET : Hid (xs.take i = xs) := Lib.hid (List.take_of_length_le (by rw [HN.out]; exact Nat.le_refl _))
        have ow := OW.out
        have gr := GR.out
        rw [ET.out] at ow gr
        obtain ⟨ys, hys⟩ : ∃ y, xs.map (·.t.est) = y := ⟨_, rfl⟩
        rw [hys] at ow
        have YL : ys.length = i := by rw [← hys, List.length_map]; exact HN.out
        have YB : ∀ y ∈ ys, y < 18446744073709551616 := fun y hy => by
          rw [← hys] at hy
          obtain ⟨m, hm, rfl⟩ := List.mem_map.1 hy
          exact XM.out m hm
        have CS := Lib.hid (sumU13_c ow YL (by omega))
        have CL := Lib.hid (fun (k : Nat) => leastU13_c (w := wr.drewN k) (show (wr.drewN k).ownsRow w5.heap.size 29 1 (.slice R i rc) i (ys.map encF13) from ow) YL (by omega) YB)
        have CM := Lib.hid (fun (k : Nat) => mostU13_c (w := wr.drewN k) (show (wr.drewN k).ownsRow w5.heap.size 29 1 (.slice R i rc) i (ys.map encF13) from ow) YL (by omega) YB)
        obtain ⟨sv, hsv⟩ : ∃ v, Fl.canonO (Fl.sumO (fun j => ys.getD j 0) i) = v := ⟨_, rfl⟩
        rw [hsv] at CS
        have SV : Hid (Fl.canonO (Fl.sumO (fun j => (((tks ms).filter (T9.holds ⟨ql, qd, qt, qs, qw, qm⟩)).map (·.est)).getD j 0) i) = sv) := Lib.hid (by
          rw [← hsv, ← hys, HX.out, ← tks_filter]
          simp [tks]
          rfl)
        have SEL : Hid ((tks ms).filter (T9.holds ⟨ql, qd, qt, qs, qw, qm⟩) = tks xs) := Lib.hid (by rw [HX.out, tks_filter])
        obtain ⟨dn, hdn⟩ : ∃ d, done13 (tks xs) = d := ⟨_, rfl⟩
        obtain ⟨kn, hkn⟩ : ∃ d, known13 (tks xs) = d := ⟨_, rfl⟩
        rw [hdn, hkn] at gr
        have GRz := Lib.hid gr
        have HDN := Lib.hid hdn
        have HKN := Lib.hid hkn
        have tbr : wr.heap[w.heap.size + 2]? = some (.cells #[.int .i64 0, .int .i64 0, .int .i64 0, .float .f64 0, .float .f64 0, .float .f64 0] 43 (0, 0)) := (TC.out.below.block _ (by have := HG2.out; omega)).trans TB5.out
        have TBr := Lib.hid tbr
        have BR : Hid (Below w.heap.size w wr) := Lib.hid ((B2.out.trans (B5.out.mono B2.out.size)).trans (TC.out.below.mono (by have := HG2.out; omega)))
        clear ow gr hys YL YB hsv hdn hkn tbr
        go_wp2_with fail
        refine CS.out.mono ?_
        rintro e wq ⟨rfl, k, rfl⟩
        go_wp2_with fail
        refine (CL.out k).mono ?_
        rintro e wq ⟨⟨lv, rfl⟩, rfl⟩
        go_wp2_with fail
        refine (CM.out k).mono ?_
        rintro e wq ⟨⟨mv, rfl⟩, rfl⟩
        have grd : (wr.drewN k).heap[g]? = some (.cells #[.int .i64 (i : Int), .int .i64 (dn : Int), .int .i64 (kn : Int), .float .f64 0, .float .f64 0, .float .f64 0] 43 (0, 0)) := GRz.out
        obtain ⟨t0, t1, t2, t3, t4, t5⟩ := six_cells13 grd
        have f3 := blk_free grd 3
        have f4 := blk_free grd 4
        have f5 := blk_free grd 5
        have GRd := Lib.hid grd
        have TBd : Hid ((wr.drewN k).heap[w.heap.size + 2]? = some (.cells #[.int .i64 0, .int .i64 0, .int .i64 0, .float .f64 0, .float .f64 0, .float .f64 0] 43 (0, 0))) := Lib.hid TBr.out
        have BD : Hid (Below w.heap.size w (wr.drewN k)) := Lib.hid (Tch.drewN (B := w.heap.size) (ts := []) ⟨BR.out, fun b cs t fr hb _ => BR.out.block b (lt_of_block hb)⟩ k).below
        generalize wr.drewN k = wk at *
        clear grd
        obtain ⟨wl, hwl⟩ : ∃ u, ((wk.setCell ⟨g, 3, none⟩ (.float .f64 sv)).setCell ⟨g, 4, none⟩ (.float .f64 lv)).setCell ⟨g, 5, none⟩ (.float .f64 mv) = u := ⟨_, rfl⟩
        have GL : Hid (wl.heap[g]? = some (.cells #[.int .i64 (i : Int), .int .i64 (dn : Int), .int .i64 (kn : Int), .float .f64 sv, .float .f64 lv, .float .f64 mv] 43 (0, 0))) := Lib.hid (by
          rw [← hwl]
          exact blk_set (blk_set (blk_set GRd.out 3 _) 4 _) 5 _)
        have TBl : Hid (wl.heap[w.heap.size + 2]? = some (.cells #[.int .i64 0, .int .i64 0, .int .i64 0, .float .f64 0, .float .f64 0, .float .f64 0] 43 (0, 0))) := Lib.hid (by
          rw [← hwl]
          have ne : w.heap.size + 2 ≠ g := by have := HG2.out; omega
          exact blk_far (blk_far (blk_far TBd.out ne _) ne _) ne _)
        have BL : Hid (Below w.heap.size w wl) := Lib.hid (by
          rw [← hwl]
          have le : w.heap.size ≤ g := by have := HG2.out; omega
          exact ((BD.out.setCell le _).setCell le _).setCell le _)
        go_upto_region 17 with fail
        try rw [hwl]
        clear hwl t0 t1 t2 t3 t4 t5 f3 f4 f5
        obtain ⟨t0, t1, t2, t3, t4, t5⟩ := six_cells13 GL.out
        have u6 := six_cells13 TBl.out
        obtain ⟨u0, u1, u2, u3, u4, u5⟩ := u6
        have f0 := blk_free TBl.out 0
        have f1 := blk_free TBl.out 1
        have f2 := blk_free TBl.out 2
        have f3 := blk_free TBl.out 3
        have f4 := blk_free TBl.out 4
        have f5 := blk_free TBl.out 5
        obtain ⟨wz, hwz⟩ : ∃ u, put6 wl (w.heap.size + 2) (.int .i64 (i : Int)) (.int .i64 (dn : Int)) (.int .i64 (kn : Int)) (.float .f64 sv) (.float .f64 lv) (.float .f64 mv) = u := ⟨_, rfl⟩
        have TBz : wz.heap[w.heap.size + 2]? = some (.cells #[.int .i64 (i : Int), .int .i64 (dn : Int), .int .i64 (kn : Int), .float .f64 sv, .float .f64 lv, .float .f64 mv] 43 (0, 0)) := by
          rw [← hwz]
          exact blk_set (blk_set (blk_set (blk_set (blk_set (blk_set TBl.out 0 _) 1 _) 2 _) 3 _) 4 _) 5 _
        have BZ : Hid (Below w.heap.size wl wz) := Lib.hid (by
          rw [← hwz]
          exact (Tch.put6Ty (ts := [43]) (Tch.refl w.heap.size _ wl) ⟨_, _, TBl.out⟩ (by simp) (by omega) _ _ _ _ _ _).below)
        unfold put6 at hwz
        obtain ⟨k0, k1, k2, k3, k4, k5⟩ := six_cells13 TBz
        clear TBz
        go_wp2
        try rw [hwz]
        refine bodyPost_ret (v := .tuple #[.agg #[.int .i64 (i : Int), .int .i64 (dn : Int), .int .i64 (kn : Int), .float .f64 sv, .float .f64 lv, .float .f64 mv], .int .i64 0]) (by simp [results, Try.results12, go_sem, k0, k1, k2, k3, k4, k5]) rfl ?_
        have ln : ((tks ms).filter (T9.holds ⟨ql, qd, qt, qs, qw, qm⟩)).length = i := by rw [SEL.out, tks_len]; exact HN.out
        refine ⟨.inr ⟨ER.out, lv, mv, ?_⟩, BL.out.trans BZ.out⟩
        have sv' := SV.out
        rw [ln, sv', SEL.out, HDN.out, HKN.out]
end
end Go.Proofs.Ytnhpkcphgdkdiaa
