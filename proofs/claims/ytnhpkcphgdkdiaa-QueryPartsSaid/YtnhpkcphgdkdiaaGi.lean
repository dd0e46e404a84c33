/- Stage 13: Run. -/
import Derived.Test.YtnhpkcphgdkdiaaGh
namespace Go.Proofs.Ytnhpkcphgdkdiaa
set_option maxRecDepth 100000
set_option linter.unusedSimpArgs false
namespace Sr
theorem sort_uniq {α : Type} {lt : α → α → Bool} (h : WO lt) : ∀ {r s : List α}, Srt lt r → Srt lt s → (∀ k, r.filter (eqv lt k) = s.filter (eqv lt k)) → r = s
  | [], s, _, _, hf => by
    cases s with
    | nil => rfl
    | cons y t =>
      have := hf y
      rw [List.filter_nil, List.filter_cons_of_pos (eqv_self h y)] at this
      cases this
  | x :: t, s, hr, hs, hf => by
    cases s with
    | nil =>
      have := hf x
      rw [List.filter_nil, List.filter_cons_of_pos (eqv_self h x)] at this
      cases this
    | cons y u =>
      have hx : x ∈ y :: u := by
        have : x ∈ (y :: u).filter (eqv lt x) := by rw [← hf x]; exact List.mem_filter.2 ⟨List.mem_cons_self, eqv_self h x⟩
        exact (List.mem_filter.1 this).1
      have hy : y ∈ x :: t := by
        have : y ∈ (x :: t).filter (eqv lt y) := by rw [hf y]; exact List.mem_filter.2 ⟨List.mem_cons_self, eqv_self h y⟩
        exact (List.mem_filter.1 this).1
      have h1 : lt x y = false := by
        rcases List.mem_cons.1 hx with e | e
        · rw [e]; exact h.irr y
        · exact (List.pairwise_cons.1 hs).1 x e
      have h2 : lt y x = false := by
        rcases List.mem_cons.1 hy with e | e
        · rw [e]; exact h.irr x
        · exact (List.pairwise_cons.1 hr).1 y e
      have e : x = y := by
        have := hf x
        rw [List.filter_cons_of_pos (eqv_self h x), List.filter_cons_of_pos (by simp [eqv, h1, h2])] at this
        exact List.head_eq_of_cons_eq this
      subst e
      rw [sort_uniq h (List.pairwise_cons.1 hr).2 (List.pairwise_cons.1 hs).2 fun k => by
        have := hf k
        rw [List.filter_cons, List.filter_cons] at this
        split at this
        · exact List.tail_eq_of_cons_eq this
        · exact this]
end Sr
section
open Go.RowKit Go.Lib Go.Shelf Go.Sort
namespace T9
def cut13 (q : Qr) (l : List Tk) : List Tk := if 0 < q.limit then (if q.down = true then l.reverse else l).take q.limit.toNat else if q.down = true then l.reverse else l
/-- The tasks that hold in order. -/
def Ord13 (s : Int) (l r : List Tk) : Prop := Sr.Srt (lt13 s) r ∧ Sr.Stb (lt13 s) l r
theorem Ord13.uniq {s : Int} {l r t : List Tk} (h : Ord13 s l r) (k : Ord13 s l t) : r = t := Sr.sort_uniq (wo13 s) h.1 k.1 fun x => (h.2 x).trans (k.2 x).symm
end T9
theorem cmpF_rkw (a b : Nat) : cmpF (rkw a) (rkw b) = cmpF a b := by unfold cmpF; rw [lt_rkw, lt_rkw]
theorem ltOf_Q (s : Int) : ltOf (cfQ s) = fun x y => lt13 s x.t y.t := by
  funext x y
  show decide (cfQ s x y < 0) = decide (cf13 s x.t y.t < 0)
  unfold cfQ cf13 rk2
  dsimp only
  rw [cmpF_rkw, cmpF_rkw]
theorem tks_ord13 {s : Int} {D W : List MTk} (h1 : Sr.Srt (ltOf (cfQ s)) W) (h2 : Sr.Stb (ltOf (cfQ s)) D W) : T9.Ord13 s (tks D) (tks W) := by
  rw [ltOf_Q] at h1 h2
  refine ⟨List.pairwise_map.2 h1, fun k => ?_⟩
  have q := congrArg (List.map (·.t)) (h2 ⟨k, none, 0⟩)
  have e : ∀ l : List MTk, (tks l).filter (Sr.eqv (lt13 s) k) = (l.filter (Sr.eqv (fun x y : MTk => lt13 s x.t y.t) ⟨k, none, 0⟩)).map (·.t) := fun l => by
    unfold tks
    rw [List.filter_map]
    rfl
  rw [e, e]
  exact q
/-- What Run tells. -/
def RunOk (ls : List T9.Li) (ts : List T9.Tk) (q : T9.Qr) (w : World) (e : Ending) (w' : World) : Prop :=
  ((T9.wrongE ls q ≠ 0 ∧ e = .returned (.tuple #[.slice none 0 0, .int .i64 (T9.wrongE ls q)])) ∨
    (T9.wrongE ls q = 0 ∧ ∃ A c qs, e = .returned (.tuple #[.slice A qs.length c, .int .i64 0]) ∧ KL w' A qs ∧ qs.length ≤ c ∧ ∃ l, T9.Ord13 q.sort (ts.filter (T9.holds q)) l ∧ tks qs = T9.cut13 q l)) ∧ Below w.heap.size w w'
theorem tks_filter (p : T9.Tk → Bool) (ms : List MTk) : tks (ms.filter (fun m => p m.t)) = (tks ms).filter p := by
  unfold tks
  rw [List.filter_map]
  rfl
theorem tks_rev (ms : List MTk) : tks ms.reverse = (tks ms).reverse := by simp [tks]
theorem tks_take (n : Nat) (ms : List MTk) : tks (ms.take n) = (tks ms).take n := by simp [tks, List.map_take]
theorem own_take13 {w : World} {B n c k : Nat} {A : Option Addr} {xs : List MTk} (h : w.ownsRow B 32 7 (.slice A n c) n (tkcells xs)) (hn : xs.length = n) (hk : k ≤ n) : Lies w 0 32 A (tkcells (xs.take k)) := by
  have L := lies_own (B := 0) h
  have e : tkcells (xs.take k) = (tkcells xs).take (k * 7) := by
    have e1 : tkcells xs = tkcells (xs.take k) ++ tkcells (xs.drop k) := by
      unfold tkcells
      rw [← List.flatMap_append, List.take_append_drop]
    have ln : (tkcells (xs.take k)).length = k * 7 := by
      rw [tkcells_len, List.length_take, Nat.min_eq_left (by omega)]
    rw [e1, ← ln, List.take_left]
  rw [e]
  exact L.take _
set_option maxRecDepth 100000 in
set_option maxHeartbeats 4000000 in
theorem run13_c {A A2 : Option Addr} {n1 n2 c c2 : Nat} {ls : List T9.Li} {ms : List MTk} {q : T9.Qr} {w : World} (hl : LL w A ls) (hk : KL w A2 ms) (e1 : n1 = ls.length) (e2 : n2 = ms.length) (s1 : n1 ≤ 1000) (s2 : n2 ≤ 1000) (hg : ∀ m ∈ ms, m.t.tags.length ≤ 1000) (hf : ∀ m ∈ ms, m.t.rank < 18446744073709551616 ∧ m.t.est < 18446744073709551616) :
    Calls Try.prog 10 #[.agg #[.slice A n1 c, .slice A2 n2 c2], .agg (qcells q)] w (RunOk ls (tks ms) q w) := by
  obtain ⟨ql, qd, qt, qs, qw, qm⟩ := q
  obtain ⟨w0, hw0⟩ : ∃ u, w.alloc (.cells #[.slice A n1 c, .slice A2 n2 c2] 25) = u := ⟨_, rfl⟩
  obtain ⟨lb, b1, z1⟩ := new_two hw0
  obtain ⟨w1, hw1⟩ : ∃ u, w0.alloc (.cells (qcells ⟨ql, qd, qt, qs, qw, qm⟩) 28) = u := ⟨_, rfl⟩
  obtain ⟨pb, b2, z2⟩ := new_six13 hw1
  rw [z1] at pb
  have B1 : Hid (Below w.heap.size w w1) := Lib.hid (b1.trans (b2.mono (by omega)))
  have QB : Hid (w1.heap[w.heap.size + 1]? = some (.cells (qcells ⟨ql, qd, qt, qs, qw, qm⟩) 28 (0, 0))) := Lib.hid pb
  have LB := Lib.hid (blk_keep lb b2)
  have Z : Hid (w1.heap.size = w.heap.size + 2) := Lib.hid (by omega)
  have CW := Lib.hid (wrong13_c (A2 := A2) (n2 := n2) (c := c) (c2 := c2) (q := ⟨ql, qd, qt, qs, qw, qm⟩) (hl.stay B1.out) e1 (by omega))
  have CH := Lib.hid (fun (u : World) (hu : Below w1.heap.size w1 u) => held13_c (A := A) (n1 := n1) (c := c) (c2 := c2) (q := ⟨ql, qd, qt, qs, qw, qm⟩) ((hk.stay B1.out).stay hu) e2 (by omega) (fun m hm => by have := hg m hm; omega))
  have HK := Lib.hid (hk.stay B1.out)
  have E2 := Lib.hid e2
  have HG := Lib.hid hg
  have HF := Lib.hid hf
  have hmf : ∀ (fn : Fn) (first cap : Array Value) (w : World), (Instr.makeFunc fn first cap).run Try.prog w = .ok (.func fn first cap) w := fun _ _ _ _ => rfl
  have S2 : Hid (n2 ≤ 1000) := Lib.hid s2
  obtain ⟨er, her⟩ : ∃ r, T9.wrongE ls ⟨ql, qd, qt, qs, qw, qm⟩ = r := ⟨_, rfl⟩
  rw [her] at CW
  have ER := Lib.hid her
  unfold qcells at hw1 CW CH ⊢
  dsimp only at hw1 CW CH ⊢
  obtain ⟨l0, l1⟩ := two_cells LB.out
  obtain ⟨p0, p1, p2, p3, p4, p5⟩ := six_cells13 pb
  clear lb b1 pb b2 z2 hl hk e1 e2 s1 s2 hg hf her
  by_cases he : er = 0
  rotate_left
  · have hez : (er != 0) = true := by simp [he]
    have HE := Lib.hid he
    clear he
    go_enter Try.func10, Try.ntmps10
    go_wp2_with fail
    refine CW.out.mono ?_
    rintro e w3 ⟨rfl, h3⟩
    have H3 := Lib.hid h3
    clear h3
    go_wp2
    go_ret2
    exact ⟨.inl ⟨by rw [ER.out]; exact HE.out, by rw [ER.out]; rfl⟩, B1.out.trans (H3.out.mono B1.out.size)⟩
  · subst he
    have hez : ((0 : Int) != 0) = false := by decide
    go_enter Try.func10, Try.ntmps10
    go_wp2_with fail
    refine CW.out.mono ?_
    rintro e w3 ⟨rfl, h3⟩
    have H3 := Lib.hid h3
    have CH3 := Lib.hid (CH.out w3 h3)
    obtain ⟨l0, l1⟩ := two_cells (blk_keep LB.out h3)
    obtain ⟨p0, p1, p2, p3, p4, p5⟩ := six_cells13 (blk_keep QB.out h3)
    clear h3
    go_wp2_with fail
    refine CH3.out.mono ?_
    rintro e w4 ⟨A4, c4, xs, rfl, ho4, hx4, h4⟩
    obtain ⟨n, hn⟩ : ∃ n, xs.length = n := ⟨_, rfl⟩
    rw [hn] at ho4
    have B4 : Hid (Below w1.heap.size w1 w4) := Lib.hid (H3.out.trans (h4.mono H3.out.size))
    have HX := Lib.hid hx4
    have HN := Lib.hid hn
    have BS : Hid (w.heap.size + 1 < w3.heap.size) := Lib.hid (by have := H3.out.size; have := Z.out; omega)
    have NS : Hid (n ≤ 1000) := Lib.hid (by rw [← hn, hx4]; have := List.length_filter_le (fun m : MTk => T9.holds ⟨ql, qd, qt, qs, qw, qm⟩ m.t) ms; have := E2.out; have := S2.out; omega)
    have QB4 : Hid (w4.heap[w.heap.size + 1]? = some (.cells (qcells ⟨ql, qd, qt, qs, qw, qm⟩) 28 (0, 0))) := Lib.hid (blk_keep QB.out B4.out)
    have CS := Lib.hid (sortU13_c ho4 hn (by have := NS.out; omega) QB4.out BS.out (fun m hm => HF.out m (by rw [hx4] at hm; exact (List.mem_filter.1 hm).1)))
    have H4 := Lib.hid h4
    clear ho4 hx4 h4
    rw [hn]
    clear hn
    go_wp2_with fail
    refine CS.out.mono ?_
    rintro e w5 ⟨rfl, hb5, W, ho5, hl5, hs5, ht5⟩
    have OD := Lib.hid (tks_ord13 hs5 ht5)
    have WM : Hid (∀ m ∈ W, m ∈ xs) := Lib.hid (fun m hm => Sr.Stb.mem (woQ qs) ht5 hm)
    have p4 := (six_cells13 ((hb5.block _ BS.out).trans QB4.out)).2.2.2.2.1
    have B5 := Lib.hid hb5
    have O5 := Lib.hid ho5
    have L5 := Lib.hid hl5
    clear hb5 ho5 hl5 hs5 ht5
    cases qw with
    | true =>
      have CR := Lib.hid (revU13_c O5.out L5.out (by have := NS.out; omega))
      go_wp2_with fail
      refine CR.out.mono ?_
      rintro e w6 ⟨rfl, hb6, ho6⟩
      obtain ⟨V, hV⟩ : ∃ v, W.reverse = v := ⟨_, rfl⟩
      rw [hV] at ho6
      have O6 := Lib.hid ho6
      have VM : Hid (∀ m ∈ V, m ∈ xs) := Lib.hid (fun m hm => WM.out m (by rw [← hV] at hm; exact List.mem_reverse.1 hm))
      have VL : Hid (V.length = n) := Lib.hid (by rw [← hV, List.length_reverse]; exact L5.out)
      have VT : Hid (tks V = (tks W).reverse) := Lib.hid (by rw [← hV]; exact tks_rev W)
      have b6 : Below w3.heap.size w4 w6 := B5.out.trans (hb6.mono (Nat.le_refl _))
      clear hb6 ho6 hV p4
      have B6 : Hid (Below w3.heap.size w4 w6) := Lib.hid b6
      have QB6 : Hid (w6.heap[w.heap.size + 1]? = some (.cells (qcells ⟨ql, qd, qt, qs, true, qm⟩) 28 (0, 0))) := Lib.hid ((B6.out.block _ BS.out).trans QB4.out)
      obtain ⟨p0, p1, p2, p3, p4, p5⟩ := six_cells13 QB6.out
      have KV : Hid (∀ m ∈ V, m.fine w6 ∧ m.t.tags.length ≤ 1000) := Lib.hid (fun m hm => by
        have q := VM.out m hm
        rw [HX.out] at q
        have q2 := (List.mem_filter.1 q).1
        exact ⟨(HK.out.2 m q2).stay (B4.out.trans (B6.out.mono H3.out.size) |>.mono (Nat.le_refl _)), HG.out m q2⟩)
      clear b6
      by_cases hm : 0 < qm
      · obtain ⟨k, hmin⟩ : ∃ k : Nat, min qm (n : Int) = (k : Int) := ⟨(min qm (n : Int)).toNat, by omega⟩
        have kn : k ≤ n := by omega
        have kc : (k : Int) ≤ (c4 : Int) := by have := own_room13 O6.out; omega
        have k0 : 0 ≤ (k : Int) := by omega
        have KM : Hid (qm.toNat = k ∨ (n ≤ qm.toNat ∧ k = n)) := Lib.hid (by omega)
        have CO := Lib.hid (own13_c (c := c4) (⟨(own_take13 O6.out VL.out kn).old, fun m hm => (KV.out m (List.mem_of_mem_take hm)).1⟩ : KL w6 A4 (V.take k)) (n := k) (by rw [List.length_take, VL.out]; omega) (by have := NS.out; omega) (fun m hm => (KV.out m (List.mem_of_mem_take hm)).2))
        have HM := Lib.hid hm
        go_wp2_with fail
        refine CO.out.mono ?_
        rintro e w7 ⟨A7, c7, qs7, rfl, hq7, hl7, ht7, hc7, hb7⟩
        have Q7 := Lib.hid hq7
        have LT7 := Lib.hid hl7
        have T7 := Lib.hid ht7
        have B7 := Lib.hid hb7
        clear hq7 hl7 ht7 hb7
        go_wp2
        go_ret2
        refine ⟨.inr ⟨ER.out, A7, c7, qs7, rfl, ⟨LT7.out.old, fun m hm => ⟨(T7.out m hm).1.old, (T7.out m hm).2⟩⟩, hc7, tks W, ?_, ?_⟩, B1.out.trans ((B4.out.trans ((B6.out.mono H3.out.size).trans (B7.out.mono (Nat.le_trans (Nat.le_trans H3.out.size H4.out.size) B6.out.size)))).mono B1.out.size)⟩
        · have od := OD.out
          rw [HX.out, tks_filter] at od
          exact od
        · rw [Q7.out, tks_take, VT.out]
          unfold T9.cut13
          rw [if_pos HM.out]
          show _ = List.take qm.toNat (tks W).reverse
          rcases KM.out with z | ⟨z1, z2⟩
          · rw [z]
          · have ln : ((tks W).reverse).length = n := by simp [tks_len, L5.out]
            rw [List.take_of_length_le (by omega), List.take_of_length_le (by omega)]
      · have CO := Lib.hid (own13_c (c := c4) (⟨by have := own_take13 O6.out VL.out (Nat.le_refl n); rw [List.take_of_length_le (by rw [VL.out]; exact Nat.le_refl _)] at this; exact this.old, fun m hm => (KV.out m hm).1⟩ : KL w6 A4 V) (n := n) VL.out.symm NS.out (fun m hm => (KV.out m hm).2))
        have HM := Lib.hid hm
        go_wp2_with fail
        refine CO.out.mono ?_
        rintro e w7 ⟨A7, c7, qs7, rfl, hq7, hl7, ht7, hc7, hb7⟩
        have Q7 := Lib.hid hq7
        have LT7 := Lib.hid hl7
        have T7 := Lib.hid ht7
        have B7 := Lib.hid hb7
        clear hq7 hl7 ht7 hb7
        go_wp2
        go_ret2
        refine ⟨.inr ⟨ER.out, A7, c7, qs7, rfl, ⟨LT7.out.old, fun m hm => ⟨(T7.out m hm).1.old, (T7.out m hm).2⟩⟩, hc7, tks W, ?_, ?_⟩, B1.out.trans ((B4.out.trans ((B6.out.mono H3.out.size).trans (B7.out.mono (Nat.le_trans (Nat.le_trans H3.out.size H4.out.size) B6.out.size)))).mono B1.out.size)⟩
        · have od := OD.out
          rw [HX.out, tks_filter] at od
          exact od
        · rw [Q7.out, VT.out]
          unfold T9.cut13
          rw [if_neg (by have := HM.out; show ¬ 0 < qm; omega)]
          rfl
    | false =>
      obtain ⟨V, hV⟩ : ∃ v, W = v := ⟨_, rfl⟩
      obtain ⟨w6, hw6⟩ : ∃ u, w5 = u := ⟨_, rfl⟩
      subst hw6
      have O6 : Hid (w5.ownsRow w3.heap.size 32 7 (.slice A4 n c4) n (tkcells V)) := Lib.hid (by rw [← hV]; exact O5.out)
      have VM : Hid (∀ m ∈ V, m ∈ xs) := Lib.hid (fun m hm => WM.out m (by rw [← hV] at hm; exact hm))
      have VL : Hid (V.length = n) := Lib.hid (by rw [← hV]; exact L5.out)
      have VT : Hid (tks V = tks W) := Lib.hid (by rw [hV])
      have b6 := B5.out
      clear hV p4
      have B6 : Hid (Below w3.heap.size w4 w5) := Lib.hid b6
      have QB6 : Hid (w5.heap[w.heap.size + 1]? = some (.cells (qcells ⟨ql, qd, qt, qs, false, qm⟩) 28 (0, 0))) := Lib.hid ((B6.out.block _ BS.out).trans QB4.out)
      obtain ⟨p0, p1, p2, p3, p4, p5⟩ := six_cells13 QB6.out
      have KV : Hid (∀ m ∈ V, m.fine w5 ∧ m.t.tags.length ≤ 1000) := Lib.hid (fun m hm => by
        have q := VM.out m hm
        rw [HX.out] at q
        have q2 := (List.mem_filter.1 q).1
        exact ⟨(HK.out.2 m q2).stay (B4.out.trans (B6.out.mono H3.out.size) |>.mono (Nat.le_refl _)), HG.out m q2⟩)
      clear b6
      by_cases hm : 0 < qm
      · obtain ⟨k, hmin⟩ : ∃ k : Nat, min qm (n : Int) = (k : Int) := ⟨(min qm (n : Int)).toNat, by omega⟩
        have kn : k ≤ n := by omega
        have kc : (k : Int) ≤ (c4 : Int) := by have := own_room13 O6.out; omega
        have k0 : 0 ≤ (k : Int) := by omega
        have KM : Hid (qm.toNat = k ∨ (n ≤ qm.toNat ∧ k = n)) := Lib.hid (by omega)
        have CO := Lib.hid (own13_c (c := c4) (⟨(own_take13 O6.out VL.out kn).old, fun m hm => (KV.out m (List.mem_of_mem_take hm)).1⟩ : KL w5 A4 (V.take k)) (n := k) (by rw [List.length_take, VL.out]; omega) (by have := NS.out; omega) (fun m hm => (KV.out m (List.mem_of_mem_take hm)).2))
        have HM := Lib.hid hm
        go_wp2_with fail
        refine CO.out.mono ?_
        rintro e w7 ⟨A7, c7, qs7, rfl, hq7, hl7, ht7, hc7, hb7⟩
        have Q7 := Lib.hid hq7
        have LT7 := Lib.hid hl7
        have T7 := Lib.hid ht7
        have B7 := Lib.hid hb7
        clear hq7 hl7 ht7 hb7
        go_wp2
        go_ret2
        refine ⟨.inr ⟨ER.out, A7, c7, qs7, rfl, ⟨LT7.out.old, fun m hm => ⟨(T7.out m hm).1.old, (T7.out m hm).2⟩⟩, hc7, tks W, ?_, ?_⟩, B1.out.trans ((B4.out.trans ((B6.out.mono H3.out.size).trans (B7.out.mono (Nat.le_trans (Nat.le_trans H3.out.size H4.out.size) B6.out.size)))).mono B1.out.size)⟩
        · have od := OD.out
          rw [HX.out, tks_filter] at od
          exact od
        · rw [Q7.out, tks_take, VT.out]
          unfold T9.cut13
          rw [if_pos HM.out]
          show _ = List.take qm.toNat (tks W)
          rcases KM.out with z | ⟨z1, z2⟩
          · rw [z]
          · have ln : ((tks W)).length = n := by simp [tks_len, L5.out]
            rw [List.take_of_length_le (by omega), List.take_of_length_le (by omega)]
      · have CO := Lib.hid (own13_c (c := c4) (⟨by have := own_take13 O6.out VL.out (Nat.le_refl n); rw [List.take_of_length_le (by rw [VL.out]; exact Nat.le_refl _)] at this; exact this.old, fun m hm => (KV.out m hm).1⟩ : KL w5 A4 V) (n := n) VL.out.symm NS.out (fun m hm => (KV.out m hm).2))
        have HM := Lib.hid hm
        go_wp2_with fail
        refine CO.out.mono ?_
        rintro e w7 ⟨A7, c7, qs7, rfl, hq7, hl7, ht7, hc7, hb7⟩
        have Q7 := Lib.hid hq7
        have LT7 := Lib.hid hl7
        have T7 := Lib.hid ht7
        have B7 := Lib.hid hb7
        clear hq7 hl7 ht7 hb7
        go_wp2
        go_ret2
        refine ⟨.inr ⟨ER.out, A7, c7, qs7, rfl, ⟨LT7.out.old, fun m hm => ⟨(T7.out m hm).1.old, (T7.out m hm).2⟩⟩, hc7, tks W, ?_, ?_⟩, B1.out.trans ((B4.out.trans ((B6.out.mono H3.out.size).trans (B7.out.mono (Nat.le_trans (Nat.le_trans H3.out.size H4.out.size) B6.out.size)))).mono B1.out.size)⟩
        · have od := OD.out
          rw [HX.out, tks_filter] at od
          exact od
        · rw [Q7.out, VT.out]
          unfold T9.cut13
          rw [if_neg (by have := HM.out; show ¬ 0 < qm; omega)]
          rfl
end
end Go.Proofs.Ytnhpkcphgdkdiaa
