import Derived.Test.YtnhpkcphgdkdiaaGreatZ29
import Derived.Test.YtnhpkcphgdkdiaaGreatZ49
namespace Go.Proofs.YtnhpkcphgdkdiaaGreat
set_option linter.unusedSimpArgs false
set_option maxRecDepth 100000
section
set_option linter.unusedSimpArgs false
section
open Go.RowKit Go.Lib Go.Shelf
def ovJ {α : Type} (q p : Nat → Option (Option α)) (k : Nat) : Option (Option α) := if (q k).isSome = true then q k else p k
theorem ovJ_map {α : Type} {q p : Nat → Option (Option α)} {u : Option α → Value} : overN (fun k => (q k).map u) (fun k => (p k).map u) = fun k => (ovJ q p k).map u := by
 funext k
 unfold overN ovJ
 show (if ((q k).map u).isSome = true then (q k).map u else (p k).map u) = (if (q k).isSome = true then q k else p k).map u
 cases q k <;> rfl
theorem pw_mem {α : Type} {g : α → Nat} {ps : List α} {gs : List Nat} {k : Nat} {y : α} (h : pwN g ps gs k = some (some y)) : y ∈ ps ∧ g y = k := by
 unfold pwN at h
 split at h
 ·injection h with h
  exact ⟨List.mem_of_find?_eq_some h, first_id h⟩
 ·split at h
  ·injection h with h; cases h
  ·cases h
theorem pw_key {α : Type} {g : α → Nat} {ps : List α} {gs : List Nat} {k : Nat} (h : (pwN g ps gs k).isSome = true) : (∃ y ∈ ps, g y = k) ∨ k ∈ gs := by
 unfold pwN at h
 split at h
 ·rename_i q
  obtain ⟨y, hy⟩ := Option.isSome_iff_exists.1 q
  exact .inl ⟨y, List.mem_of_find?_eq_some hy, first_id hy⟩
 ·split at h
  ·exact .inr (by assumption)
  ·cases h
theorem ov_mem {α : Type} {g : α → Nat} {ps qs : List α} {gs hs : List Nat} {k : Nat} {y : α} (h : ovJ (pwN g qs hs) (pwN g ps gs) k = some (some y)) : (y ∈ qs ∨ y ∈ ps) ∧ g y = k := by
 unfold ovJ at h
 split at h
 ·exact ⟨.inl (pw_mem h).1, (pw_mem h).2⟩
 ·exact ⟨.inr (pw_mem h).1, (pw_mem h).2⟩
theorem ov_key {α : Type} {g : α → Nat} {ps qs : List α} {gs hs : List Nat} {k : Nat} (h : (ovJ (pwN g qs hs) (pwN g ps gs) k).isSome = true) : k ∈ (qs.map g ++ hs) ++ (ps.map g ++ gs) := by
 unfold ovJ at h
 simp only [List.mem_append, List.mem_map]
 split at h
 ·rcases pw_key h with ⟨y, hy, e⟩ | q
  ·exact .inl (.inl ⟨y, hy, e⟩)
  ·exact .inl (.inr q)
 ·rcases pw_key h with ⟨y, hy, e⟩ | q
  ·exact .inr (.inl ⟨y, hy, e⟩)
  ·exact .inr (.inr q)
theorem ov_len {α : Type} {g : α → Nat} {u : Option α → Value} {ps qs : List α} {gs hs ss : List Nat} (h : RisN (fun k => (ovJ (pwN g qs hs) (pwN g ps gs) k).map u) ss) : ss.length ≤ (qs.length + hs.length) + (ps.length + gs.length) := by
 have q := len_sub (ss := ss) (L := (qs.map g ++ hs) ++ (ps.map g ++ gs)) (h.1.imp (fun {a b} r => by omega)) (fun x hx => ov_key (by
  have r : ((ovJ (pwN g qs hs) (pwN g ps gs) x).map u).isSome = true := (h.2 x).1 hx
  simpa using r))
 have r : ss.length ≤ qs.length + (hs.length + (ps.length + gs.length)) := by simpa using q
 omega
theorem pw_map {α β : Type} (f : α → β) {g : α → Nat} {g' : β → Nat} (hg : ∀ x, g x = g' (f x)) (ps : List α) (gs : List Nat) (k : Nat) : pwN g' (ps.map f) gs k = (pwN g ps gs k).map (Option.map f) := by
 unfold pwN
 rw [first_map f hg]
 cases firstN g ps k with
 | none => by_cases q : k ∈ gs <;> simp [q]
 | some x => simp
theorem ov_map {α β : Type} (f : α → β) {g : α → Nat} {g' : β → Nat} (hg : ∀ x, g x = g' (f x)) (ps qs : List α) (gs hs : List Nat) (k : Nat) : ovJ (pwN g' (qs.map f) hs) (pwN g' (ps.map f) gs) k = (ovJ (pwN g qs hs) (pwN g ps gs) k).map (Option.map f) := by
 unfold ovJ
 rw [pw_map f hg, pw_map f hg]
 cases pwN g qs hs k <;> simp
theorem bt_tch {w u : World} {m n : Nat} {f : Nat → Option Value} (h : Bt m w u) (hm : UM w m n f) : Tch 0 [] w u :=
 ⟨h.below (Nat.zero_le _) (Nat.zero_le _), fun k cs t fr hk _ => h.block k (lt_of_block hk) (fun e => by subst e; exact (hm.apart hk).elim)⟩
def wordL (p q : PDt) : Nat → Option (Option T9.Li) := ovJ (pwN idL q.ls q.gl) (pwN idL p.ls p.gl)
def wordK (p q : PDt) : Nat → Option (Option T9.Tk) := ovJ (pwN T9.Tk.id (tks q.ms) q.gk) (pwN T9.Tk.id (tks p.ms) p.gk)
def JnOk (p q : PDt) (w : World) (e : Ending) (w' : World) : Prop := ∃ r : PDt, e = .returned (.agg r.cells) ∧ TPd r w' ∧ Told idL (jn (wordL p q)) r.ls ∧ (r.gl.Pairwise (· < ·) ∧ ∀ x, x ∈ r.gl ↔ wordL p q x = some none) ∧ Told T9.Tk.id (jn (wordK p q)) (tks r.ms) ∧ (r.gk.Pairwise (· < ·) ∧ ∀ x, x ∈ r.gk ↔ wordK p q x = some none) ∧ Below w.heap.size w w'
theorem wl_form {J : Nat → Option (Option T9.Li)} : ∀ k v, (J k).map vWL = some v → ∃ (b : Bool) (i : Nat) (s : List UInt8), v = .agg #[.bool b, .int .u64 (i : Int), .string (str s)] := fun k v h => by
 obtain ⟨o, _, e⟩ := Option.map_eq_some_iff.1 h
 exact ⟨_, _, _, e.symm⟩
theorem wk_form {J : Nat → Option (Option MTk)} : ∀ k v, (J k).map vWK = some v → ∃ (b : Bool) (i l : Nat) (s : List UInt8) (d : Bool) (r e : Nat) (A9 : Option Addr) (n9 c9 : Nat), v = .agg #[.bool b, .int .u64 (i : Int), .int .u64 (l : Int), .string (str s), .bool d, .float .f64 r, .float .f64 e, .slice A9 n9 c9] := fun k v h => by
 obtain ⟨o, _, e⟩ := Option.map_eq_some_iff.1 h
 exact ⟨_, _, _, _, _, _, _, _, _, _, e.symm⟩
set_option maxHeartbeats 8000000 in
theorem join12_c {p q : PDt} {w : World} (hp : TPd p w) (hq : TPd q w) (b1 : p.ls.length ≤ 300) (b2 : p.ms.length ≤ 300) (b3 : p.gl.length ≤ 300) (b4 : p.gk.length ≤ 300) (d1 : q.ls.length ≤ 300) (d2 : q.ms.length ≤ 300) (d3 : q.gl.length ≤ 300) (d4 : q.gk.length ≤ 300)
  (bt : ∀ m ∈ p.ms, m.t.tags.length ≤ 1000) (dt : ∀ m ∈ q.ms, m.t.tags.length ≤ 1000) (il : ∀ l ∈ p.ls, l.id < 18446744073709551616) (ik : ∀ m ∈ p.ms, m.t.id < 18446744073709551616) (igl : ∀ x ∈ p.gl, x < 18446744073709551616) (igk : ∀ x ∈ p.gk, x < 18446744073709551616)
  (jl : ∀ l ∈ q.ls, l.id < 18446744073709551616) (jk : ∀ m ∈ q.ms, m.t.id < 18446744073709551616) (jgl : ∀ x ∈ q.gl, x < 18446744073709551616) (jgk : ∀ x ∈ q.gk, x < 18446744073709551616) :
  Calls Tryz.prog 10 #[.agg p.cells, .agg q.cells] w (JnOk p q w) := by
 obtain ⟨w1, hw1⟩ : ∃ u, w.alloc (.cells p.cells 45) = u := ⟨_, rfl⟩
 have e1 : Below w.heap.size w w1 := by rw [← hw1]; exact (Below.refl _ _).alloc (Nat.le_refl _) _
 have pa : w1.heap[w.heap.size]? = some (.cells p.cells 45 (0, 0)) := by rw [← hw1]; exact World.alloc_heap_new w _
 have z1 : w1.heap.size = w.heap.size + 1 := by rw [← hw1]; simp
 obtain ⟨w2, hw2⟩ : ∃ u, w1.alloc (.cells q.cells 45) = u := ⟨_, rfl⟩
 have e2 : Below w1.heap.size w1 w2 := by rw [← hw2]; exact (Below.refl _ _).alloc (Nat.le_refl _) _
 have pb : w2.heap[w.heap.size + 1]? = some (.cells q.cells 45 (0, 0)) := by rw [← hw2, ← z1]; exact World.alloc_heap_new w1 _
 have z2 : w2.heap.size = w.heap.size + 1 + 1 := by rw [← hw2]; simp [z1]
 obtain ⟨w3, hw3⟩ : ∃ u, w2.alloc (.cells #[.slice none 0 0, .slice none 0 0, .slice none 0 0, .slice none 0 0] 45) = u := ⟨_, rfl⟩
 have e3 : Below w2.heap.size w2 w3 := by rw [← hw3]; exact (Below.refl _ _).alloc (Nat.le_refl _) _
 have pc : w3.heap[w.heap.size + 1 + 1]? = some (.cells #[.slice none 0 0, .slice none 0 0, .slice none 0 0, .slice none 0 0] 45 (0, 0)) := by rw [← hw3, ← z2]; exact World.alloc_heap_new w2 _
 have B3 : Hid (Below w.heap.size w w3) := hid ((e1.trans (e2.mono (by omega))).trans (e3.mono (by omega)))
 have PA : Hid (w3.heap[w.heap.size]? = some (.cells p.cells 45 (0, 0))) := hid (blk_keep (blk_keep pa e2) e3)
 have PB : Hid (w3.heap[w.heap.size + 1]? = some (.cells q.cells 45 (0, 0))) := hid (blk_keep pb e3)
 have PC := hid pc
 have TP := hid (hp.stay B3.out)
 have TQ := hid (hq.stay B3.out)
 obtain ⟨pls, A, c, pms, A2, c2, pgl, A3, c3, pgk, A4, c4⟩ := p
 obtain ⟨qls, D, x, qms, D2, x2, qgl, D3, x3, qgk, D4, x4⟩ := q
 dsimp only at b1 b2 b3 b4 d1 d2 d3 d4 bt dt il ik igl igk jl jk jgl jgk
 obtain ⟨n1, h1⟩ : ∃ n, pls.length = n := ⟨_, rfl⟩
 obtain ⟨n2, h2⟩ : ∃ n, pms.length = n := ⟨_, rfl⟩
 obtain ⟨n3, h3⟩ : ∃ n, pgl.length = n := ⟨_, rfl⟩
 obtain ⟨n4, h4⟩ : ∃ n, pgk.length = n := ⟨_, rfl⟩
 obtain ⟨m1, k1⟩ : ∃ n, qls.length = n := ⟨_, rfl⟩
 obtain ⟨m2, k2⟩ : ∃ n, qms.length = n := ⟨_, rfl⟩
 obtain ⟨m3, k3⟩ : ∃ n, qgl.length = n := ⟨_, rfl⟩
 obtain ⟨m4, k4⟩ : ∃ n, qgk.length = n := ⟨_, rfl⟩
 unfold PDt.cells at hw1 hw2 PA PB ⊢
 dsimp only at hw1 hw2 PA PB ⊢
 rw [h1] at b1
 rw [h2] at b2
 rw [h3] at b3
 rw [h4] at b4
 rw [k1] at d1
 rw [k2] at d2
 rw [k3] at d3
 rw [k4] at d4
 rw [h1, h2, h3, h4] at hw1 PA ⊢
 rw [k1, k2, k3, k4] at hw2 PB ⊢
 have H1 := hid h1
 have H2 := hid h2
 have H3 := hid h3
 have H4 := hid h4
 have K1 := hid k1
 have K2 := hid k2
 have K3 := hid k3
 have K4 := hid k4
 have BT := hid bt
 have DT := hid dt
 have IL := hid il
 have IK := hid ik
 have IGL := hid igl
 have IGK := hid igk
 have JL := hid jl
 have JK := hid jk
 have JGL := hid jgl
 have JGK := hid jgk
 have CL1 := hid (wrdL_c (c := c) (c2 := c3) TP.out.l.old TP.out.g H1.out.symm H3.out.symm (by omega) (by omega) il igl)
 obtain ⟨p0, p1, p2, p3⟩ := four12 PA.out
 clear hp hq bt dt il ik igl igk jl jk jgl jgk e1 pa e2 pb e3 pc h1 h2 h3 h4 k1 k2 k3 k4
 go_enter Tryz.func10, Tryz.ntmps10
 go_wp2_with fail
 refine CL1.out.mono ?_
 rintro e w4 ⟨mp, rfl, hmp, hUp, h4⟩
 have UP4 := hid hUp
 have MP := hid hmp
 have B4 : Hid (Below w3.heap.size w3 w4) := hid h4
 have CL2 := hid (wrdL_c (c := x) (c2 := x3) (TQ.out.stay h4).l.old (TQ.out.stay h4).g K1.out.symm K3.out.symm (by omega) (by omega) JL.out JGL.out)
 obtain ⟨q0, q1, q2, q3⟩ := four12 (blk_keep PB.out h4)
 clear hUp hmp h4 p0 p1 p2 p3
 go_wp2_with fail
 refine CL2.out.mono ?_
 rintro e w5 ⟨mq, rfl, hmq, hUq, h5⟩
 have UP5 := hid (UP4.out.below h5 UP4.out.lt)
 have NE : mp ≠ mq := by have := UP4.out.lt; omega
 have CC := hid (cpyWL_c UP5.out hUq NE wl_form (by omega))
 have B5 : Hid (Below w3.heap.size w3 w5) := hid (B4.out.trans (h5.mono B4.out.size))
 clear hmq hUq h5 NE q0 q1 q2 q3
 go_wp2_with fail
 refine CC.out.mono ?_
 rintro e w6 ⟨rfl, hU6, hB6⟩
 rw [ovJ_map] at hU6
 have U6 := hid hU6
 have B6 : Hid (Below w3.heap.size w3 w6) := hid (B5.out.trans (hB6.below MP.out B5.out.size))
 clear hU6 hB6
 go_upto_region 3 with fail
 refine wp_region_held_drew (S := fun u => Below w3.heap.size w3 u) (by kernel_rfl) (B6.out.drew) (fun S0 => ?_)
 refine tkH 0 ?_ rfl (by kernel_rfl) rfl ?_ S0 ?_
 rotate_left
 ·intro u hu;skip;go_simp;try rfl
 try simp only [Act.put, pS]
 refine tkH 1 ?_ rfl (by kernel_rfl) rfl ?_ S0 ?_
 rotate_left
 ·intro u hu;obtain ⟨p0, p1, p2, p3⟩ := four12 (blk_keep PA.out hu);go_simp;try rfl
 try simp only [Act.put, pS]
 refine tkH 3 ?_ rfl (by kernel_rfl) rfl ?_ S0 ?_
 rotate_left
 ·intro u hu;skip;go_simp;try rfl
 try simp only [Act.put, pS]
 refine tkH 4 ?_ rfl (by kernel_rfl) rfl ?_ S0 ?_
 rotate_left
 ·intro u hu;obtain ⟨p0, p1, p2, p3⟩ := four12 (blk_keep PA.out hu);go_simp;try rfl
 try simp only [Act.put, pS]
 have CO := hid (own12_c (c := c2) (w := w6.drew) (⟨(TP.out.stay S0).k.old, fun m hm => ⟨((TP.out.stay S0).t m hm).1.old, ((TP.out.stay S0).t m hm).2⟩⟩ : KL w6.drew A2 pms) H2.out.symm (by omega) BT.out)
 have UM0 : Hid (UM w6.drew mp (n3 + n1 + (m3 + m1)) fun k => (ovJ (pwN idL qls qgl) (pwN idL pls pgl) k).map vWL) := hid (U6.out.same rfl)
 refine anyH_one9 (i := 2) (by kernel_rfl) rfl (fun K hK => ?_)
 go_simp
 refine CO.out.mono ?_
 rintro e w7 ⟨O1, oc1, ps, rfl, ho7, hl7, ht7, hc7, hb7⟩
 have S1 : Below w3.heap.size w3 w7 := S0.trans (hb7.mono S0.size)
 have UM1 := hid (UM0.out.below hb7 UM0.out.lt)
 have PS7 := hid ho7
 have LP7 := hid hl7
 have LT7 := hid ht7
 have PN : ps.length = n2 := by rw [← tks_len, ho7, tks_len]; exact H2.out
 have CW := hid (wrdK_c (c := oc1) (c2 := c4) (w := w7) (⟨hl7.old, fun m hm => ⟨(ht7 m hm).1.old, (ht7 m hm).2⟩⟩ : KL w7 O1 ps) (TP.out.stay S1).h (n := ps.length) (n2 := n4) rfl H4.out.symm (by omega) (by omega) (fun m hm => by
  have q : m.t ∈ tks pms := by rw [← ho7]; exact List.mem_map.2 ⟨m, hm, rfl⟩
  obtain ⟨m', r1, r2⟩ := List.mem_map.1 q
  show m.t.id < _
  rw [← r2]
  exact IK.out m' r1) IGK.out)
 have PNh := hid PN
 clear ho7 hl7 ht7 hc7 hb7 PN
 refine hK _ _ S1 ?_
 clear hK K S0
 have S0 := S1
 clear S1
 try simp only [Act.put, pS]
 refine anyH_one9 (i := 5) (by kernel_rfl) rfl (fun K hK => ?_)
 go_simp
 refine CW.out.mono ?_
 rintro e w8 ⟨mk, rfl, hmk, hUk, h8⟩
 have S1 : Below w3.heap.size w3 w8 := S0.trans (h8.mono S0.size)
 have UM2 := hid (UM1.out.below h8 UM1.out.lt)
 have UK2 := hid hUk
 have LP8 := hid (LP7.out.tch (Tch.of_below (B := 0) h8 (Nat.zero_le _) []) (by simp))
 have LT8 := hid (fun m hm => (show Lies w8 0 9 m.A (gcells m.t.tags) ∧ m.t.tags.length ≤ m.c from ⟨(LT7.out m hm).1.tch (Tch.of_below (B := 0) h8 (Nat.zero_le _) []) (by simp), (LT7.out m hm).2⟩))
 have MK : Hid (w3.heap.size ≤ mk ∧ mp < mk) := hid ⟨by have := S0.size; omega, by have := UM1.out.lt; omega⟩
 clear hmk hUk h8
 refine hK _ _ S1 ?_
 clear hK K S0
 have S0 := S1
 clear S1
 try simp only [Act.put, pS]
 refine tkH 6 ?_ rfl (by kernel_rfl) rfl ?_ S0 ?_
 rotate_left
 ·intro u hu;skip;go_simp;try rfl
 try simp only [Act.put, pS]
 refine wpAnyH_done (by kernel_rfl) ?_ _
 have B8 : Hid (Below w3.heap.size w3 w8) := hid S0
 clear S0
 go_upto_region 4 with fail
 refine wp_region_held_drew (S := fun u => Below w3.heap.size w3 u) (by kernel_rfl) (B8.out.drew) (fun S0 => ?_)
 refine tkH 0 ?_ rfl (by kernel_rfl) rfl ?_ S0 ?_
 rotate_left
 ·intro u hu;skip;go_simp;try rfl
 try simp only [Act.put, pS]
 refine tkH 1 ?_ rfl (by kernel_rfl) rfl ?_ S0 ?_
 rotate_left
 ·intro u hu;skip;go_simp;try rfl
 try simp only [Act.put, pS]
 refine tkH 2 ?_ rfl (by kernel_rfl) rfl ?_ S0 ?_
 rotate_left
 ·intro u hu;obtain ⟨q0, q1, q2, q3⟩ := four12 (blk_keep PB.out hu);go_simp;try rfl
 try simp only [Act.put, pS]
 refine tkH 4 ?_ rfl (by kernel_rfl) rfl ?_ S0 ?_
 rotate_left
 ·intro u hu;skip;go_simp;try rfl
 try simp only [Act.put, pS]
 refine tkH 5 ?_ rfl (by kernel_rfl) rfl ?_ S0 ?_
 rotate_left
 ·intro u hu;obtain ⟨q0, q1, q2, q3⟩ := four12 (blk_keep PB.out hu);go_simp;try rfl
 try simp only [Act.put, pS]
 have CO := hid (own12_c (c := x2) (w := w8.drew) (⟨(TQ.out.stay S0).k.old, fun m hm => ⟨((TQ.out.stay S0).t m hm).1.old, ((TQ.out.stay S0).t m hm).2⟩⟩ : KL w8.drew D2 qms) K2.out.symm (by omega) DT.out)
 have UM3 : Hid (UM w8.drew mp (n3 + n1 + (m3 + m1)) fun k => (ovJ (pwN idL qls qgl) (pwN idL pls pgl) k).map vWL) := hid (UM2.out.same rfl)
 have UK3 : Hid (UM w8.drew mk (n4 + ps.length) fun k => (pwN idK ps pgk k).map vWK) := hid (UK2.out.same rfl)
 refine anyH_one9 (i := 3) (by kernel_rfl) rfl (fun K hK => ?_)
 go_simp
 refine CO.out.mono ?_
 rintro e w9 ⟨O2, oc2, os, rfl, ho9, hl9, ht9, hc9, hb9⟩
 have S1 : Below w3.heap.size w3 w9 := S0.trans (hb9.mono S0.size)
 have UM4 := hid (UM3.out.below hb9 UM3.out.lt)
 have UK4 := hid (UK3.out.below hb9 UK3.out.lt)
 have QS9 := hid ho9
 have LQ9 := hid hl9
 have LU9 := hid ht9
 have TC9 : Hid (Tch 0 [] w8 w9) := hid ((Tch.drew (Tch.refl 0 [] w8)).trans (Tch.of_below (B := 0) hb9 (Nat.zero_le _) []))
 have QN : os.length = m2 := by rw [← tks_len, ho9, tks_len]; exact K2.out
 have CW := hid (wrdK_c (c := oc2) (c2 := x4) (w := w9) (⟨hl9.old, fun m hm => ⟨(ht9 m hm).1.old, (ht9 m hm).2⟩⟩ : KL w9 O2 os) (TQ.out.stay S1).h (n := os.length) (n2 := m4) rfl K4.out.symm (by omega) (by omega) (fun m hm => by
  have q : m.t ∈ tks qms := by rw [← ho9]; exact List.mem_map.2 ⟨m, hm, rfl⟩
  obtain ⟨m', r1, r2⟩ := List.mem_map.1 q
  show m.t.id < _
  rw [← r2]
  exact JK.out m' r1) JGK.out)
 have QNh := hid QN
 clear ho9 hl9 ht9 hc9 hb9 QN
 refine hK _ _ S1 ?_
 clear hK K S0
 have S0 := S1
 clear S1
 try simp only [Act.put, pS]
 refine anyH_one9 (i := 6) (by kernel_rfl) rfl (fun K hK => ?_)
 go_simp
 refine CW.out.mono ?_
 rintro e w10 ⟨mk2, rfl, hmk, hUk, h10⟩
 have S1 : Below w3.heap.size w3 w10 := S0.trans (h10.mono S0.size)
 have UM5 := hid (UM4.out.below h10 UM4.out.lt)
 have UK5 := hid (UK4.out.below h10 UK4.out.lt)
 have TC10 : Hid (Tch 0 [] w9 w10) := hid (Tch.of_below (B := 0) h10 (Nat.zero_le _) [])
 have NE : mk ≠ mk2 := by have := UK4.out.lt; omega
 have CC := hid (cpyWK_c UK5.out hUk NE wk_form (by have := PNh.out; have := QNh.out; omega))
 clear hmk hUk h10 NE
 refine hK _ _ S1 ?_
 clear hK K S0
 have S0 := S1
 clear S1
 try simp only [Act.put, pS]
 refine anyH_one9 (i := 7) (by kernel_rfl) rfl (fun K hK => ?_)
 go_simp
 refine CC.out.mono ?_
 rintro e w11 ⟨rfl, hU11, hB11⟩
 rw [ovJ_map] at hU11
 have S1 : Below w3.heap.size w3 w11 := S0.trans (hB11.below MK.out.1 S0.size)
 have UK6 := hid hU11
 have UM6 := hid (UM5.out.same (hB11.block mp UM5.out.lt (by have := MK.out.2; omega)))
 have TC11 := hid (bt_tch hB11 UK5.out)
 clear hU11 hB11
 refine hK _ _ S1 ?_
 clear hK K S0
 have S0 := S1
 clear S1
 try simp only [Act.put, pS]
 refine wpAnyH_done (by kernel_rfl) ?_ _
 have B11 : Hid (Below w3.heap.size w3 w11) := hid S0
 have TCA := hid ((TC9.out.trans TC10.out).trans TC11.out)
 have LP11 := hid (LP8.out.tch TCA.out (by simp))
 have LT11 := hid (fun m hm => (show Lies w11 0 9 m.A (gcells m.t.tags) ∧ m.t.tags.length ≤ m.c from ⟨(LT8.out m hm).1.tch TCA.out (by simp), (LT8.out m hm).2⟩))
 have LU11 := hid (fun m hm => (show Lies w11 0 9 m.A (gcells m.t.tags) ∧ m.t.tags.length ≤ m.c from ⟨(LU9.out m hm).1.tch (TC10.out.trans TC11.out) (by simp), (LU9.out m hm).2⟩))
 clear S0 TC9 TC10 TC11 TCA LP7 LT7 LP8 LT8 LQ9 LU9 UM0 UM1 UM2 UM3 UM4 UM5 UK2 UK3 UK4 UK5
 obtain ⟨w12, hw12⟩ : ∃ u, w11.alloc (.cells #[.slice none 0 0, .slice none 0 0, .slice none 0 0, .slice none 0 0] 45) = u := ⟨_, rfl⟩
 have b12 : Below w11.heap.size w11 w12 := by rw [← hw12]; exact (Below.refl _ _).alloc (Nat.le_refl _) _
 obtain ⟨g, hg⟩ : ∃ g, w11.heap.size = g := ⟨_, rfl⟩
 have PG : Hid (w12.heap[g]? = some (.cells #[.slice none 0 0, .slice none 0 0, .slice none 0 0, .slice none 0 0] 45 (0, 0))) := hid (by rw [← hw12, ← hg]; exact World.alloc_heap_new w11 _)
 have B12 : Hid (Below w3.heap.size w3 w12) := hid (B11.out.trans (b12.mono B11.out.size))
 have UM7 := hid (UM6.out.below b12 UM6.out.lt)
 have UK7 := hid (UK6.out.below b12 UK6.out.lt)
 have LT12 := hid (fun m hm => (show Lies w12 0 9 m.A (gcells m.t.tags) ∧ m.t.tags.length ≤ m.c from ⟨(LT11.out m hm).1.tch (Tch.of_below (B := 0) b12 (Nat.zero_le _) []) (by simp), (LT11.out m hm).2⟩))
 have LU12 := hid (fun m hm => (show Lies w12 0 9 m.A (gcells m.t.tags) ∧ m.t.tags.length ≤ m.c from ⟨(LU11.out m hm).1.tch (Tch.of_below (B := 0) b12 (Nat.zero_le _) []) (by simp), (LU11.out m hm).2⟩))
 have GG : Hid (w3.heap.size ≤ g) := hid (by rw [← hg]; exact B11.out.size)
 have CT := hid (tldL_c UM7.out (by omega) (fun k y h => (ov_mem h).2) (fun k h => by
  have q := ov_key h
  simp only [List.mem_append, List.mem_map] at q
  rcases q with (⟨y, hy, rfl⟩ | q) | (⟨y, hy, rfl⟩ | q)
  ·exact JL.out y hy
  ·exact JGL.out k q
  ·exact IL.out y hy
  ·exact IGL.out k q) (fun ss hs => by have := ov_len hs; have := H1.out; have := H3.out; have := K1.out; have := K3.out; omega))
 clear b12
 go_upto_region 7 with (go_at_call 27; refine CT.out.mono ?_; rintro e w13 ⟨R1, rc1, rl, R3, rc3, gl, rfl, t1, g1, l1', c1', l3', c3', hb13⟩; have pg13 := blk_keep PG.out hb13; obtain ⟨y0, y1, y2, y3⟩ := four12 pg13; have f0 := blk_free pg13 0; have f2 := blk_free pg13 2; have PG13 := hid pg13; have HB13 := hid hb13; have TL := hid t1; have GL := hid g1; have LL13 := hid l1'; have LG13 := hid l3'; have CL13 := hid (And.intro c1' c3'); clear pg13 hb13 t1 g1 l1' l3' c1' c3')
 obtain ⟨u13, hu13⟩ : ∃ u, w13.setCell ⟨g, 0, none⟩ (.slice R1 rl.length rc1) = u := ⟨_, rfl⟩
 try rw [hu13]
 obtain ⟨w14, hw14⟩ : ∃ u, u13.setCell ⟨g, 2, none⟩ (.slice R3 gl.length rc3) = u := ⟨_, rfl⟩
 try rw [hw14]
 obtain ⟨ta, ga, ka, qa⟩ := pt_set PG13.out hu13
 obtain ⟨tb, gb, kb, qb⟩ := pt_set ga hw14
 have T14 := hid (ta.trans tb)
 have PG14 := hid gb
 have B14 : Hid (Below w3.heap.size w3 w14) := hid (B12.out.trans ((HB13.out.mono B12.out.size).trans ((qa _ GG.out).trans (qb _ GG.out))))
 have UK9 := hid ((UK7.out.below HB13.out UK7.out.lt).same (by
  have nk : mk ≠ g := fun e => by subst e; exact (UK7.out.apart PG.out)
  exact (kb mk nk).trans (ka mk nk)))
 have CT2 := hid (tldK_c UK9.out (by have := PNh.out; have := QNh.out; omega) (fun k y h => (ov_mem h).2) (fun k h => by
  have q := ov_key h
  simp only [List.mem_append, List.mem_map] at q
  have low : ∀ {z : MTk} {l m : List MTk}, tks l = tks m → z ∈ l → ∃ z' ∈ m, z'.t.id = z.t.id := fun {z l m} e hz => by
   have q : z.t ∈ tks m := by rw [← e]; exact List.mem_map.2 ⟨z, hz, rfl⟩
   obtain ⟨z', r1, r2⟩ := List.mem_map.1 q
   exact ⟨z', r1, by rw [r2]⟩
  rcases q with (⟨y, hy, rfl⟩ | q) | (⟨y, hy, rfl⟩ | q)
  ·obtain ⟨z, hz, e⟩ := low QS9.out hy
   show y.t.id < _
   rw [← e]
   exact JK.out z hz
  ·exact JGK.out k q
  ·obtain ⟨z, hz, e⟩ := low PS7.out hy
   show y.t.id < _
   rw [← e]
   exact IK.out z hz
  ·exact IGK.out k q) (fun ss hs => by have := ov_len hs; have := PNh.out; have := QNh.out; have := H4.out; have := K4.out; omega))
 clear y0 y1 y2 y3 f0 f2 ta ga ka qa tb gb kb qb hu13 hw14
 go_upto_region 8 with (go_at_call 28; refine CT2.out.mono ?_; rintro e w15 ⟨R2, rc2, rk, R4, rc4, gk, rfl, t1, g1, l1', c1', l3', c3', hb15⟩; have pg15 := blk_keep PG14.out hb15; obtain ⟨y0, y1, y2, y3⟩ := four12 pg15; have f1 := blk_free pg15 1; have f3 := blk_free pg15 3; have PG15 := hid pg15; have HB15 := hid hb15; have TK := hid t1; have GK := hid g1; have LK15 := hid l1'; have LH15 := hid l3'; have CK15 := hid (And.intro c1' c3'); clear pg15 hb15 t1 g1 l1' l3' c1' c3')
 obtain ⟨u15, hu15⟩ : ∃ u, w15.setCell ⟨g, 1, none⟩ (.slice R2 rk.length rc2) = u := ⟨_, rfl⟩
 try rw [hu15]
 obtain ⟨w16, hw16⟩ : ∃ u, u15.setCell ⟨g, 3, none⟩ (.slice R4 gk.length rc4) = u := ⟨_, rfl⟩
 try rw [hw16]
 obtain ⟨ta, ga, ka, qa⟩ := pt_set PG15.out hu15
 obtain ⟨tb, gb, kb, qb⟩ := pt_set ga hw16
 have T16 := hid (ta.trans tb)
 have PG16 : Hid (w16.heap[g]? = some (.cells #[.slice R1 rl.length rc1, .slice R2 rk.length rc2, .slice R3 gl.length rc3, .slice R4 gk.length rc4] 45 (0, 0))) := hid gb
 have B16 : Hid (Below w3.heap.size w3 w16) := hid (B14.out.trans ((HB15.out.mono B14.out.size).trans ((qa _ GG.out).trans (qb _ GG.out))))
 clear y0 y1 y2 y3 f1 f3 ta ga ka qa tb gb kb qb hu15 hw16
 have PC16 := hid (blk_keep PC.out B16.out)
 obtain ⟨y0, y1, y2, y3⟩ := four12 PG16.out
 have e0 := blk_free PC16.out 0
 have e1 := blk_free PC16.out 1
 have e2 := blk_free PC16.out 2
 have e3 := blk_free PC16.out 3
 obtain ⟨o0, o1, o2, o3⟩ := four12 PC16.out
 obtain ⟨wz, hwz⟩ : ∃ u, (((w16.setCell ⟨w.heap.size + 1 + 1, 0, none⟩ (.slice R1 rl.length rc1)).setCell ⟨w.heap.size + 1 + 1, 1, none⟩ (.slice R2 rk.length rc2)).setCell ⟨w.heap.size + 1 + 1, 2, none⟩ (.slice R3 gl.length rc3)).setCell ⟨w.heap.size + 1 + 1, 3, none⟩ (.slice R4 gk.length rc4) = u := ⟨_, rfl⟩
 have KZ : Hid (wz.heap[w.heap.size + 1 + 1]? = some (.cells #[.slice R1 rl.length rc1, .slice R2 rk.length rc2, .slice R3 gl.length rc3, .slice R4 gk.length rc4] 45 (0, 0)) ∧ Tch 0 [45] w16 wz ∧ Below w.heap.size w16 wz) := hid (by
  obtain ⟨t1, g1, _, q1⟩ := pt_set PC16.out (rfl : w16.setCell ⟨w.heap.size + 1 + 1, 0, none⟩ (.slice R1 rl.length rc1) = _)
  obtain ⟨t2, g2, _, q2⟩ := pt_set (i := 1) (x := .slice R2 rk.length rc2) g1 rfl
  obtain ⟨t3, g3, _, q3⟩ := pt_set (i := 2) (x := .slice R3 gl.length rc3) g2 rfl
  obtain ⟨t4, g4, _, q4⟩ := pt_set (i := 3) (x := .slice R4 gk.length rc4) g3 hwz
  exact ⟨g4, ((t1.trans t2).trans t3).trans t4, (((q1 w.heap.size (by omega)).trans (q2 w.heap.size (by omega))).trans (q3 w.heap.size (by omega))).trans (q4 w.heap.size (by omega))⟩)
 obtain ⟨zz0, zz1, zz2, zz3⟩ := four12 KZ.out.1
 go_wp2
 try rw [hwz]
 refine bodyPost_ret (v := .agg #[.slice R1 rl.length rc1, .slice R2 rk.length rc2, .slice R3 gl.length rc3, .slice R4 gk.length rc4]) (by simp [results, Tryz.results10, go_sem, zz0, zz1, zz2, zz3]) rfl ?_
 have TZ := KZ.out.2.1
 have up13 : ∀ {t : TypeId} {Ad : Option Addr} {xs : List Value}, Lies w13 0 t Ad xs → t ≠ 45 → Lies wz 0 t Ad xs := fun h ht => (((h.tch (T14.out.mono (Nat.zero_le _)) (by simpa using ht)).tch (Tch.of_below (B := 0) HB15.out (Nat.zero_le _) []) (by simp)).tch (T16.out.mono (Nat.zero_le _)) (by simpa using ht)).tch TZ (by simpa using ht)
 have up15 : ∀ {t : TypeId} {Ad : Option Addr} {xs : List Value}, Lies w15 0 t Ad xs → t ≠ 45 → Lies wz 0 t Ad xs := fun h ht => (h.tch (T16.out.mono (Nat.zero_le _)) (by simpa using ht)).tch TZ (by simpa using ht)
 have up12 : ∀ {t : TypeId} {Ad : Option Addr} {xs : List Value}, Lies w12 0 t Ad xs → t ≠ 45 → Lies wz 0 t Ad xs := fun h ht => up13 (h.tch (Tch.of_below (B := 0) HB13.out (Nat.zero_le _) []) (by simp)) ht
 refine ⟨⟨rl, R1, rc1, rk, R2, rc2, gl, R3, rc3, gk, R4, rc4⟩, rfl, ⟨up13 LL13.out (by decide), up15 LK15.out (by decide), fun m hm => ?_, up13 LG13.out (by decide), up15 LH15.out (by decide), CL13.out.1, CK15.out.1, CL13.out.2, CK15.out.2⟩, TL.out, GL.out, ?_, ?_, (B3.out.trans (B16.out.mono B3.out.size)).trans KZ.out.2.2⟩
 ·have q := (TK.out.fst (idK m)).symm.trans (first_self12 TK.out.srt hm)
  have q2 : ovJ (pwN idK os qgk) (pwN idK ps pgk) (idK m) = some (some m) := by
   unfold jn at q
   cases e : ovJ (pwN idK os qgk) (pwN idK ps pgk) (idK m) with
   | none => rw [e] at q; cases q
   | some o => rw [e] at q; rw [show o = some m from q]
  rcases (ov_mem q2).1 with r | r
  ·exact ⟨up12 (LU12.out m r).1 (by decide), (LU12.out m r).2⟩
  ·exact ⟨up12 (LT12.out m r).1 (by decide), (LT12.out m r).2⟩
 ·have E : ∀ k, wordK ⟨pls, A, c, pms, A2, c2, pgl, A3, c3, pgk, A4, c4⟩ ⟨qls, D, x, qms, D2, x2, qgl, D3, x3, qgk, D4, x4⟩ k = (ovJ (pwN idK os qgk) (pwN idK ps pgk) k).map (Option.map MTk.t) := fun k => by
   unfold wordK
   dsimp only
   rw [← PS7.out, ← QS9.out]
   exact ov_map MTk.t (g := idK) (g' := T9.Tk.id) (fun _ => rfl) ps os pgk qgk k
  refine ⟨List.pairwise_map.2 TK.out.srt, fun k => ?_⟩
  have q1 := first_map MTk.t (g := idK) (g' := T9.Tk.id) (fun _ => rfl) rk k
  refine q1.trans ?_
  rw [TK.out.fst k]
  unfold jn
  rw [E k]
  cases ovJ (pwN idK os qgk) (pwN idK ps pgk) k with
  | none => rfl
  | some o => cases o <;> rfl
 ·refine ⟨GK.out.1, fun k => ?_⟩
  show k ∈ gk ↔ _
  rw [GK.out.2 k]
  have E : wordK ⟨pls, A, c, pms, A2, c2, pgl, A3, c3, pgk, A4, c4⟩ ⟨qls, D, x, qms, D2, x2, qgl, D3, x3, qgk, D4, x4⟩ k = (ovJ (pwN idK os qgk) (pwN idK ps pgk) k).map (Option.map MTk.t) := by
   unfold wordK
   dsimp only
   rw [← PS7.out, ← QS9.out]
   exact ov_map MTk.t (g := idK) (g' := T9.Tk.id) (fun _ => rfl) ps os pgk qgk k
  rw [E]
  cases ovJ (pwN idK os qgk) (pwN idK ps pgk) k with
  | none => simp
  | some o => cases o <;> simp
end
end
end Go.Proofs.YtnhpkcphgdkdiaaGreat
