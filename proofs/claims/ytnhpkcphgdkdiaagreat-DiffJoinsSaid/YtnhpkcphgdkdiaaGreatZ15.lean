import Derived.Test.YtnhpkcphgdkdiaaGreatZ14
namespace Go.Proofs.YtnhpkcphgdkdiaaGreat
set_option linter.unusedSimpArgs false
set_option maxRecDepth 100000
section
section
open Go.RowKit Go.Shelf Go.Maps Go.Lib Go.Sort
attribute [local go_sem] Oper.semAt_some
theorem infoU : (Tryz.prog.info? 30).map (fun i => (i.zero, i.size, i.bytes)) = some (some (.int .u64 0), 1, 8) := by kernel_rfl
theorem keepq {W W1 : World} {o : Obj} {base : Nat} {e : TypeId} {size n : Nat} {v : Value} {xs : List Value} {k : Nat} (hnc : ∀ cs t fr, W.heap[k]? ≠ some (.cells cs t fr)) (hk : k < W.heap.size) (hrow : W.ownsRow base e size v n xs) (hg : (W.alloc o).grownBy W1 v.ownBlock) : W1.heap[k]? = W.heap[k]? := by
 refine (hg.block k (by simp; omega) (fun q => ?_)).trans (Below.heap_alloc W o k hk)
 obtain ⟨_, cs, fr, r⟩ := own_row hrow k q.symm
 exact hnc _ _ _ r
theorem walkq {W W1 : World} {base : Nat} {e : TypeId} {size n : Nat} {v : Value} {xs : List Value} (hrow : W.ownsRow base e size v n xs) (hg : W.grownBy W1 v.ownBlock) : KeepsWalks W W1 :=
 KeepsWalks.of_grownBy hg (fun j o hj ho => by
  obtain ⟨_, cs, fr, r⟩ := own_row hrow j hj
  rw [r] at ho
  cases ho
  rfl)
def CollU (w : World) (b : Nat) (pre : List Nat) (W : World) : Prop :=
 (∃ A c, W.heap[b]? = some (.cells #[.slice A pre.length c] 43 (0, 0)) ∧ W.ownsRow w.heap.size 30 1 (.slice A pre.length c) pre.length (pre.map encU)) ∧ Below w.heap.size w W
theorem CollU.tch {w : World} {b : Nat} {pre : List Nat} {W W' : World} {B : Nat} (h : CollU w b pre W) (hB : w.heap.size ≤ B) (hT : Tch B [] W W') : CollU w b pre W' := by
 obtain ⟨⟨A, c, hb, hr⟩, hbl⟩ := h
 exact ⟨⟨A, c, (hT.typed _ _ _ _ hb (by simp)).trans hb, own_tch hr hT (by simp)⟩, hbl.trans (hT.below.mono hB)⟩
def RowU (S : List Nat → Prop) (w : World) (e : Ending) (w' : World) : Prop :=
 ∃ A c ss, e = .returned (.slice A ss.length c) ∧ S ss ∧ w'.ownsRow w.heap.size 30 1 (.slice A ss.length c) ss.length (ss.map encU) ∧ Below w.heap.size w w'
set_option maxHeartbeats 2000000 in
theorem appendU_c {n N gf : Nat} {lb : Array Value} {S : List Nat → Prop} {w : World} (hn : 2 ≤ n) (hN : N ≤ 1000000) (eg : ∀ args w, (callFunc gf args).run Tryz.prog w = .ok (.enter gf args) w) (hseq : SeqGives Fence.wide (n - 1) Tryz.prog gf lb encU S N w) :
  CallsIn Fence.wide n Tryz.prog 113 #[.slice none 0 0, .func (.func gf) #[] lb] w (RowU S w) := by
 obtain ⟨w1, hw1⟩ : ∃ w1, w.alloc (.cells #[.slice none 0 0] 43) = w1 := ⟨_, rfl⟩
 have b1 : Below w.heap.size w w1 := by rw [← hw1]; exact (Below.refl _ w).alloc (Nat.le_refl _) _
 have s1 : w1.heap.size = w.heap.size + 1 := by rw [← hw1]; simp
 have k1 : w1.heap[w.heap.size]? = some (.cells #[.slice none 0 0] 43 (0, 0)) := by rw [← hw1]; exact World.alloc_heap_new w _
 have HSQ := hid (hseq.later b1)
 have HI0 : Hid (CollU w w.heap.size [] w1) := hid ⟨⟨none, 0, k1, World.ownsRow_nil _ _ _ _⟩, b1⟩
 clear hseq k1
 have HB1 := hid b1
 clear b1
 refine callsIn_of_wp_marks Tryz.func113 rfl trivial ?_ rfl
 simp only [Tryz.ntmps113, List.size_toArray, List.length_cons, List.length_nil, Nat.reduceAdd, Nat.reduceSub, Array.replicate_succ, Array.replicate_zero, List.push_toArray, List.append_toArray, List.nil_append, List.cons_append]
 gi_wp2
 refine range_w (α := Nat) (n := n) (by omega) (gf := gf) (lb := lb) rfl eg HSQ.out rfl (CollU w w.heap.size) (fun pre A A' h hT => h.tch (by omega) hT) HI0.out
  (fun x => { tmps := #[.slice none 0 0, .func (.func gf) #[] lb, .pointer (some ⟨w.heap.size, 0, none⟩), undef, .slice none 0 0, encU x, .func (.func gf) #[] lb, encU x, undef, undef, undef, undef, undef], defers := [] }) ?assign ?body ?done
 case assign =>
  intro l x W K hK
  unfold encU
  gi_wp2
  exact hK
 case body =>
  rintro pre x W ⟨⟨A, c, hbx, hrow⟩, hB⟩ hpn hz hn1 hn2
  have cb := qcell hbx
  have fb := blk_free hbx 0
  have hzW := hB.size
  obtain ⟨i0, hi, iz0, iz1, iz2⟩ := info_parts infoU
  have HNW : Hid (∀ j u, [encU x][j]? = some u → (W.alloc (.cells #[encU x] 30)).cell? ((⟨W.heap.size, 0, none⟩ : Addr).add j) = some u) := hid (fun j u hj => by
   have hn' := qcell (heap_alloc_new W (.cells #[encU x] 30))
   cases j with
   | zero => simpa [Addr.add] using hn'.trans hj
   | succ j => simp at hj)
  have HR := hid hrow
  have HBX := hid hbx
  have HB := hid hB
  have N1 := hid hn1
  have N2 := hid hn2
  clear hrow hbx hB hn1 hn2
  unfold encU
  gi_wp2_with (gi_at_builtin; refine wpListIn_append_own _ rfl _ _ 43 rfl w.heap.size 30 i0 _ 1 8 Tryz.underlying43 hi iz0 iz1 iz2 rfl (by decide) _ pre.length (pre.map encU) rfl (HR.out.alloc _) ⟨W.heap.size, 0, none⟩ 1 1 [encU x] rfl rfl HNW.out (by intro u hu; rw [List.mem_singleton] at hu; subst hu; rfl) (by unfold maxLen; omega) (by omega) (by simp; omega) ?_; intro v' w4 hown' hgrow _; obtain ⟨A1, k1, rfl⟩ := own_slice hown'; have hp1 := grown_blk (HR.out.alloc _) hgrow (blk_alloc HBX.out _) (by decide); have c2 := qcell hp1; have f2 := blk_free hp1 0; have T1 := hid (grown_tch (B := w.heap.size) (ts := [43, 30]) (HR.out.alloc _) hgrow (Nat.le_refl _) (by simp; omega) (by decide)); have G1 := hid hgrow; have HO := hid hown'; have HP1 := hid hp1; clear hgrow hown' hp1)
  have T2 := ((Tch.refl w.heap.size [43, 30] W).alloc hzW (.cells #[encU x] 30)).trans T1.out
  have T3 := T2.setCell (p := ⟨w.heap.size, 0, none⟩) HP1.out (by decide) (Nat.le_refl _) (.slice A1 (pre.length + 1) k1)
  have el : (pre ++ [x]).length = pre.length + 1 := by simp
  refine ⟨⟨?_, ?_⟩, ((KeepsWalks.alloc W _).trans (walkq (HR.out.alloc _) G1.out)).trans (KeepsWalks.setCell _ _ _), ⟨⟨A1, k1, ?_, ?_⟩, HB.out.trans T3.below⟩⟩
  ·exact (Below.heap_setCell w4 _ _ _ (by show _ ≠ w.heap.size; omega)).trans (keepq N2.out (by omega) HR.out G1.out)
  ·exact (Below.heap_setCell w4 _ _ _ (by show _ ≠ w.heap.size; omega)).trans (keepq N1.out (by omega) HR.out G1.out)
  ·rw [el]
   exact one_setCell HP1.out
  ·rw [el, List.map_append]
   exact own_far HO.out HP1.out (by decide) _
 case done =>
  rintro ss W hS ⟨⟨A, c, hbx, hrow⟩, hB⟩ hD
  have cb := qcell hbx
  have hzW := hB.size
  have HD := hid hD
  have HS := hid hS
  have HR := hid hrow
  have HB := hid hB
  clear hD hS hrow hB hbx
  gi_wp2
  have T : Tch w.heap.size [] W (W.putObj w1.heap.size (.deferred none)) := ⟨⟨rfl, rfl, rfl, by simp, fun k hk => World.putObj_heap_other (by omega)⟩, fun k cs t fr hk _ => World.putObj_heap_other (fun e => by subst e; rw [HD.out] at hk; cases hk)⟩
  refine ⟨by simp, .inl ⟨_, _, rfl, run_takeDeferred HD.out, ?_⟩⟩
  exact ⟨_, results_tmp rfl _ _ _, A, c, ss, rfl, HS.out, own_tch HR.out T (by simp), HB.out.trans T.below⟩
set_option maxHeartbeats 1000000 in
theorem collectU_c {n N gf : Nat} {lb : Array Value} {S : List Nat → Prop} {w : World} (hn : 3 ≤ n) (hN : N ≤ 1000000) (eg : ∀ args w, (callFunc gf args).run Tryz.prog w = .ok (.enter gf args) w) (hseq : SeqGives Fence.wide (n - 1 - 1) Tryz.prog gf lb encU S N w) :
  CallsIn Fence.wide n Tryz.prog 97 #[.func (.func gf) #[] lb] w (RowU S w) := by
 refine callsIn_of_wp Tryz.func97 rfl trivial ?_ rfl
 simp only [Tryz.ntmps97, List.size_toArray, List.length_cons, List.length_nil, Nat.reduceAdd, Nat.reduceSub, Array.replicate_succ, Array.replicate_zero, List.push_toArray, List.append_toArray, List.nil_append, List.cons_append]
 gi_wp2_with (refine ⟨trivial, (fun h => by omega), ?_⟩; gi_at_call 113; refine (appendU_c (by omega) hN eg hseq).mono ?_; rintro e w' ⟨A, c, ss, rfl, hS, hr, hb⟩)
 go_ret
 exact ⟨A, c, ss, rfl, hS, hr, hb⟩
end
end
section
section
open Go.RowKit Go.Shelf Go.Maps Go.Lib Go.Sort
theorem insNone (c : Nat) (w : World) : Calls Tryz.prog 122 #[.slice none 0 c, .int .i64 0, .int .i64 0] w fun e w' => e = .returned (.tuple #[]) ∧ w = w' := by
 go_enter Tryz.func122, Tryz.ntmps122
 go_wp2
 go_loopg [6] 0 (fun _ vi wr => vi = .int .i64 1 ∧ w = wr)
 case atStart => exact ⟨rfl, rfl⟩
 case round =>
  obtain ⟨rfl, rfl⟩ := hrel
  go_wp2
  go_end0
  exact ⟨rfl, rfl⟩
theorem pdqNone (c : Nat) (w : World) : Calls Tryz.prog 114 #[.slice none 0 c, .int .i64 0, .int .i64 0, .int .i64 0] w fun e w' => e = .returned (.tuple #[]) ∧ w = w' := by
 have hc := hid (insNone c w)
 go_enter Tryz.func114, Tryz.ntmps114
 go_wp2
 go_loopg [1, 2, 3, 8, 9] 0 (fun _ s1 s2 s3 s8 s9 wr => s1 = .int .i64 0 ∧ s2 = .int .i64 0 ∧ s3 = .int .i64 0 ∧ s8 = .bool true ∧ s9 = .bool true ∧ w = wr)
 case atStart => exact ⟨rfl, rfl, rfl, rfl, rfl, rfl⟩
 case round =>
  obtain ⟨rfl, rfl, rfl, rfl, rfl, rfl⟩ := hrel
  go_wp2_with (go_at_call 122; refine hc.out.mono ?_; rintro e w1 ⟨rfl, rfl⟩)
  (try simp only [Exit.inBlock, Exit.then]); refine bodyPost_ret (results_none rfl _ _ _) rfl ?_
  exact ⟨rfl, rfl⟩
theorem sortNone (c : Nat) (w : World) : Calls Tryz.prog 98 #[.slice none 0 c] w fun e w' => e = .returned (.tuple #[]) ∧ w = w' := by
 have hp := hid (pdqNone c w)
 have hl := hid (lenU 0 (by decide) w)
 go_enter Tryz.func98, Tryz.ntmps98
 go_wp2_with (first | (go_at_call 115; refine hl.out.mono ?_; rintro e w' ⟨rfl, rfl⟩) | (go_at_call 114; refine hp.out.mono ?_; rintro e w' ⟨rfl, rfl⟩))
 go_end0
 exact ⟨rfl, rfl⟩
theorem row_sorted {w W : World} {base g cap : Nat} {cur : Array Value} {ss ts : List Nat} {t : TypeId} (hl : ts.length = ss.length) (hbase : base ≤ g) (hb : w.heap[g]? = some (.cells cur t (0, 0))) (h1 : ss.length ≤ cap) (h2 : cap ≤ maxLen) (h3 : cur.size = cap * 1)
  (S : SW encU w g 0 ts.toArray W) : W.ownsRow base t 1 (.slice (some ⟨g, 0, none⟩) ss.length cap) ss.length (ts.map encU) ∧ w.grownBy W (some g) := by
 obtain ⟨n, os, rfl⟩ := S
 have hg : g < w.heap.size := (Array.getElem?_eq_some_iff.1 hb).1
 have hblk : (sortWorld encU w g 0 n ts.toArray os).heap[g]? = some (.cells (putCells encU 0 ts.toArray cur) t (0, 0)) := by
  unfold sortWorld
  rw [heap_grow_old _ _ (by rw [size_putRow]; exact hg)]
  simp [putRow, mapBlock, Sort.ahead, Array.getElem?_modify, hb, onCells]
 refine ⟨⟨by simp [hl], .inr ⟨g, cap, _, rfl, hbase, hblk, h1, h2, by simp [putCells, h3], ?_⟩⟩, ⟨rfl, rfl, rfl, by unfold sortWorld; rw [size_grow, size_putRow]; exact Nat.le_add_right _ _, fun k hk hne => ?_⟩⟩
 ·apply List.ext_getElem?
  intro j
  by_cases hj : j < ts.length
  ·rw [Nat.mul_one, List.getElem?_take_of_lt (by omega), Array.getElem?_toList]
   simp [putCells, hj, show j < cur.size by omega]
  ·rw [Nat.mul_one, List.getElem?_take_eq_none (by omega), List.getElem?_eq_none (by simp; omega)]
 ·unfold sortWorld
  rw [heap_grow_old _ _ (by rw [size_putRow]; exact hk)]
  have q : g ≠ k := fun e => hne (by rw [e])
  simp [putRow, mapBlock, Sort.ahead, Array.getElem?_modify, q]
theorem row_holds {w : World} {g : Nat} {cur : Array Value} {t : TypeId} {ss : List Nat} (hb : w.heap[g]? = some (.cells cur t (0, 0))) (ht : cur.toList.take ss.length = ss.map encU) : Holds encU w g 0 ss.toArray := by
 intro j hj
 have hj' : j < ss.length := by simpa using hj
 refine ⟨?_, by simp [World.frozen?, hb]⟩
 have q : (cur.toList.take ss.length)[j]? = (ss.map encU)[j]? := by rw [ht]
 rw [List.getElem?_take_of_lt hj', Array.getElem?_toList] at q
 simp [World.cell?, hb, q, hj']
def RisN (f : Nat → Option Value) (ss : List Nat) : Prop := ss.Pairwise (· < ·) ∧ ∀ x, x ∈ ss ↔ (f x).isSome = true
theorem ris_sorted {f : Nat → Option Value} {ss : List Nat} (h : AllN f ss) : RisN f (ss.mergeSort (fun x y => decide (x ≤ y))) := by
 refine ⟨?_, fun x => by rw [List.mem_mergeSort]; exact h.2 x⟩
 have hp := List.pairwise_mergeSort (le := fun x y : Nat => decide (x ≤ y)) (fun a b c h1 h2 => by simp only [decide_eq_true_eq] at *; omega) (fun a b => by simp only [Bool.or_eq_true, decide_eq_true_eq]; omega) ss
 have hn : (ss.mergeSort (fun x y => decide (x ≤ y))).Nodup := (List.mergeSort_perm ss _).nodup_iff.2 h.1
 exact (hp.and hn).imp (fun {a b} q => by have := of_decide_eq_true q.1; have := q.2; omega)
theorem sortRow_c {W : World} {base c : Nat} {A : Option Addr} {ss : List Nat} (hlen : ss.length ≤ 1000000) (hbs : base ≤ W.heap.size) (hrow : W.ownsRow base 30 1 (.slice A ss.length c) ss.length (ss.map encU)) :
  Calls Tryz.prog 98 #[.slice A ss.length c] W fun e w' => e = .returned (.tuple #[]) ∧ w'.ownsRow base 30 1 (.slice A ss.length c) ss.length ((ss.mergeSort (fun x y => decide (x ≤ y))).map encU) ∧ Below base W w' := by
 rcases hrow.2 with ⟨hz, hz2⟩ | ⟨gb, cap, cur, hv, hbase, hgb, r1, r2, r3, r4⟩
 ·have e : ss = [] := List.eq_nil_of_length_eq_zero hz2
  subst e
  injection hz with h1 h2 h3
  subst h1
  refine (sortNone c W).mono ?_
  rintro e w' ⟨rfl, rfl⟩
  exact ⟨rfl, by simpa using hrow, Below.refl _ _⟩
 ·injection hv with h1 h2 h3
  subst h1 h3
  have hg : gb < W.heap.size := (Array.getElem?_eq_some_iff.1 hgb).1
  have q := sortU_c (cap := c) (d := ss.toArray) (row_holds hgb (by rw [Nat.mul_one] at r4; exact r4)) hg (by simp; omega)
  rw [List.size_toArray] at q
  refine q.mono ?_
  rintro e w' ⟨rfl, S⟩
  have et : pdq ltU ss.toArray 0 ss.length (Lib.bitLen ss.length) true true = (ss.mergeSort (fun x y => decide (x ≤ y))).toArray := by rw [← pdqU_sorted ss]
  rw [et] at S
  obtain ⟨o1, o2⟩ := row_sorted (List.length_mergeSort ss) hbase hgb r1 r2 r3 S
  exact ⟨rfl, o1, (Below.refl _ W).grown o2 hbs (fun j hj => by cases hj; exact hbase)⟩
set_option maxHeartbeats 2000000 in
theorem sortedU_c {nn gf : Nat} {lb : Array Value} {f : Nat → Option Value} {w : World} (hN : nn ≤ 1000000) (eg : ∀ args w, (callFunc gf args).run Tryz.prog w = .ok (.enter gf args) w) (hseq : SeqGives Fence.wide 2 Tryz.prog gf lb encU (AllN f) nn w) :
  Calls Tryz.prog 78 #[.func (.func gf) #[] lb] w (RowU (RisN f) w) := by
 have cC := hid (callsIn_wide.1 (collectU_c (n := 4) (by decide) hN eg hseq.bounded))
 clear hseq
 go_enter Tryz.func78, Tryz.ntmps78
 go_wp2_with (first
  | (go_at_call 97; refine cC.out.mono ?_; rintro e W ⟨A, c, ss, rfl, ⟨hS, hlen⟩, hrow, hb⟩; have HS := hid hS; have HB := hid hb; have cS := hid (sortRow_c (Nat.le_trans hlen hN) hb.size hrow); clear hS hb hrow)
  | (go_at_call 98; refine cS.out.mono ?_; rintro e W2 ⟨rfl, hrow2, hb2⟩))
 go_ret
 have hl : (ss.mergeSort (fun x y => decide (x ≤ y))).length = ss.length := List.length_mergeSort ss
 refine ⟨A, c, ss.mergeSort (fun x y => decide (x ≤ y)), by rw [hl]; rfl, ris_sorted HS.out, by rw [hl]; exact hrow2, HB.out.trans hb2⟩
end
end
end Go.Proofs.YtnhpkcphgdkdiaaGreat
