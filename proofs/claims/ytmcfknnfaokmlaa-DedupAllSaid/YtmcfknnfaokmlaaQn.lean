/- Stage 12: slices.AppendSeq, slices.Collect, slices.Sorted at uint64: the numbers of a map in order (written by wip/gen12um.py). -/
import Derived.Test.YtmcfknnfaokmlaaQm
namespace Go.Proofs.Ytmcfknnfaokmlaa
set_option maxRecDepth 100000
section
open Go.RowKit Go.Shelf Go.Maps Go.Lib Go.Sort
attribute [local go_sem] Oper.semAt_some
theorem infoU : (Try.prog.info? 24).map (fun i => (i.zero, i.size, i.bytes)) = some (some (.int .u64 0), 1, 8) := by kernel_rfl
theorem keepq {W W1 : World} {o : Obj} {base : Nat} {e : TypeId} {size n : Nat} {v : Value} {xs : List Value} {k : Nat} (hnc : ∀ cs t fr, W.heap[k]? ≠ some (.cells cs t fr)) (hk : k < W.heap.size) (hrow : W.ownsRow base e size v n xs) (hg : (W.alloc o).grownBy W1 v.ownBlock) : W1.heap[k]? = W.heap[k]? := by
  refine (hg.block k (by simp; omega) (fun q => ?_)).trans (Below.heap_alloc W o k hk)
  obtain ⟨_, cs, fr, r⟩ := own_row hrow k q.symm
  exact hnc _ _ _ r
theorem walkq {W W1 : World} {base : Nat} {e : TypeId} {size n : Nat} {v : Value} {xs : List Value} (hrow : W.ownsRow base e size v n xs) (hg : W.grownBy W1 v.ownBlock) : KeepsWalks W W1 :=
  KeepsWalks.of_grownBy hg (fun j o hj ho => by
    obtain ⟨_, cs, fr, r⟩ := own_row hrow j hj
    rw [r] at ho
    cases ho
    rfl)
/-- Between two rounds: the list in the box. -/
def CollU (w : World) (b : Nat) (pre : List Nat) (W : World) : Prop :=
  (∃ A c, W.heap[b]? = some (.cells #[.slice A pre.length c] 55 (0, 0)) ∧ W.ownsRow w.heap.size 24 1 (.slice A pre.length c) pre.length (pre.map encU)) ∧ Below w.heap.size w W
theorem CollU.tch {w : World} {b : Nat} {pre : List Nat} {W W' : World} {B : Nat} (h : CollU w b pre W) (hB : w.heap.size ≤ B) (hT : Tch B [] W W') : CollU w b pre W' := by
  obtain ⟨⟨A, c, hb, hr⟩, hbl⟩ := h
  exact ⟨⟨A, c, (hT.typed _ _ _ _ hb (by simp)).trans hb, own_tch hr hT (by simp)⟩, hbl.trans (hT.below.mono hB)⟩
/-- What is handed back: a row of the call's own. -/
def RowU (S : List Nat → Prop) (w : World) (e : Ending) (w' : World) : Prop :=
  ∃ A c ss, e = .returned (.slice A ss.length c) ∧ S ss ∧ w'.ownsRow w.heap.size 24 1 (.slice A ss.length c) ss.length (ss.map encU) ∧ Below w.heap.size w w'
set_option maxRecDepth 100000 in
set_option maxHeartbeats 2000000 in
theorem appendU_c {n N gf : Nat} {lb : Array Value} {S : List Nat → Prop} {w : World} (hn : 2 ≤ n) (hN : N ≤ 1000000) (eg : ∀ args w, (callFunc gf args).run Try.prog w = .ok (.enter gf args) w) (hseq : SeqGives Fence.wide (n - 1) Try.prog gf lb encU S N w) :
    CallsIn Fence.wide n Try.prog 29 #[.slice none 0 0, .func (.func gf) #[] lb] w (RowU S w) := by
  obtain ⟨w1, hw1⟩ : ∃ w1, w.alloc (.cells #[.slice none 0 0] 55) = w1 := ⟨_, rfl⟩
  have b1 : Below w.heap.size w w1 := by rw [← hw1]; exact (Below.refl _ w).alloc (Nat.le_refl _) _
  have s1 : w1.heap.size = w.heap.size + 1 := by rw [← hw1]; simp
  have k1 : w1.heap[w.heap.size]? = some (.cells #[.slice none 0 0] 55 (0, 0)) := by rw [← hw1]; exact World.alloc_heap_new w _
  have HSQ := Lib.hid (hseq.later b1)
  have HI0 : Hid (CollU w w.heap.size [] w1) := Lib.hid ⟨⟨none, 0, k1, World.ownsRow_nil _ _ _ _⟩, b1⟩
  clear hseq k1
  have HB1 := Lib.hid b1
  clear b1
  refine callsIn_of_wp_marks Try.func29 rfl trivial ?_ rfl
  simp only [Try.ntmps29, List.size_toArray, List.length_cons, List.length_nil, Nat.reduceAdd, Nat.reduceSub, Array.replicate_succ, Array.replicate_zero, List.push_toArray, List.append_toArray, List.nil_append, List.cons_append]
  gi_wp2
  refine range_w (α := Nat) (n := n) (by omega) (gf := gf) (lb := lb) rfl eg HSQ.out rfl (CollU w w.heap.size) (fun pre A A' h hT => h.tch (by omega) hT) HI0.out
    (fun x => { tmps := #[.slice none 0 0, .func (.func gf) #[] lb, .pointer (some ⟨w.heap.size, 0, none⟩), undef, .slice none 0 0, encU x, .func (.func gf) #[] lb, encU x, undef, undef, undef, undef, undef], defers := [] }) ?assign ?body ?done
  case assign =>
    intro l x W K hK
    unfold encU
    gi_wp2
    exact hK
  case body =>
    rintro pre x W ⟨⟨A, c, hbx, hrow⟩, hB⟩ hpn hz hn1 hn2
    have cb := qcell hbx
    have fb := blk_free hbx 0
    have hzW := hB.size
    obtain ⟨i0, hi, iz0, iz1, iz2⟩ := info_parts infoU
    have HNW : Hid (∀ j u, [encU x][j]? = some u → (W.alloc (.cells #[encU x] 24)).cell? ((⟨W.heap.size, 0, none⟩ : Addr).add j) = some u) := Lib.hid (fun j u hj => by
      have hn' := qcell (heap_alloc_new W (.cells #[encU x] 24))
      cases j with
      | zero => simpa [Addr.add] using hn'.trans hj
      | succ j => simp at hj)
    have HR := Lib.hid hrow
    have HBX := Lib.hid hbx
    have HB := Lib.hid hB
    have N1 := Lib.hid hn1
    have N2 := Lib.hid hn2
    clear hrow hbx hB hn1 hn2
    unfold encU
    gi_wp2_with (gi_at_builtin; refine wpListIn_append_own _ rfl _ _ 55 rfl w.heap.size 24 i0 _ 1 8 Try.underlying55 hi iz0 iz1 iz2 rfl (by decide) _ pre.length (pre.map encU) rfl (HR.out.alloc _) ⟨W.heap.size, 0, none⟩ 1 1 [encU x] rfl rfl HNW.out (by intro u hu; rw [List.mem_singleton] at hu; subst hu; rfl) (by unfold maxLen; omega) (by omega) (by simp; omega) ?_; intro v' w4 hown' hgrow _; obtain ⟨A1, k1, rfl⟩ := own_slice hown'; have hp1 := grown_blk (HR.out.alloc _) hgrow (blk_alloc HBX.out _) (by decide); have c2 := qcell hp1; have f2 := blk_free hp1 0; have T1 := Lib.hid (grown_tch (B := w.heap.size) (ts := [55, 24]) (HR.out.alloc _) hgrow (Nat.le_refl _) (by simp; omega) (by decide)); have G1 := Lib.hid hgrow; have HO := Lib.hid hown'; have HP1 := Lib.hid hp1; clear hgrow hown' hp1)
    have T2 := ((Tch.refl w.heap.size [55, 24] W).alloc hzW (.cells #[encU x] 24)).trans T1.out
    have T3 := T2.setCell (p := ⟨w.heap.size, 0, none⟩) HP1.out (by decide) (Nat.le_refl _) (.slice A1 (pre.length + 1) k1)
    have el : (pre ++ [x]).length = pre.length + 1 := by simp
    refine ⟨⟨?_, ?_⟩, ((KeepsWalks.alloc W _).trans (walkq (HR.out.alloc _) G1.out)).trans (KeepsWalks.setCell _ _ _), ⟨⟨A1, k1, ?_, ?_⟩, HB.out.trans T3.below⟩⟩
    · exact (Below.heap_setCell w4 _ _ _ (by show _ ≠ w.heap.size; omega)).trans (keepq N2.out (by omega) HR.out G1.out)
    · exact (Below.heap_setCell w4 _ _ _ (by show _ ≠ w.heap.size; omega)).trans (keepq N1.out (by omega) HR.out G1.out)
    · rw [el]
      exact one_setCell HP1.out
    · rw [el, List.map_append]
      exact own_far HO.out HP1.out (by decide) _
  case done =>
    rintro ss W hS ⟨⟨A, c, hbx, hrow⟩, hB⟩ hD
    have cb := qcell hbx
    have hzW := hB.size
    have HD := Lib.hid hD
    have HS := Lib.hid hS
    have HR := Lib.hid hrow
    have HB := Lib.hid hB
    clear hD hS hrow hB hbx
    gi_wp2
    have T : Tch w.heap.size [] W (W.putObj w1.heap.size (.deferred none)) := ⟨⟨rfl, rfl, rfl, by simp, fun k hk => World.putObj_heap_other (by omega)⟩, fun k cs t fr hk _ => World.putObj_heap_other (fun e => by subst e; rw [HD.out] at hk; cases hk)⟩
    refine ⟨by simp, .inl ⟨_, _, rfl, run_takeDeferred HD.out, ?_⟩⟩
    exact ⟨_, results_tmp rfl _ _ _, A, c, ss, rfl, HS.out, own_tch HR.out T (by simp), HB.out.trans T.below⟩
set_option maxHeartbeats 1000000 in
theorem collectU_c {n N gf : Nat} {lb : Array Value} {S : List Nat → Prop} {w : World} (hn : 3 ≤ n) (hN : N ≤ 1000000) (eg : ∀ args w, (callFunc gf args).run Try.prog w = .ok (.enter gf args) w) (hseq : SeqGives Fence.wide (n - 1 - 1) Try.prog gf lb encU S N w) :
    CallsIn Fence.wide n Try.prog 26 #[.func (.func gf) #[] lb] w (RowU S w) := by
  refine callsIn_of_wp Try.func26 rfl trivial ?_ rfl
  simp only [Try.ntmps26, List.size_toArray, List.length_cons, List.length_nil, Nat.reduceAdd, Nat.reduceSub, Array.replicate_succ, Array.replicate_zero, List.push_toArray, List.append_toArray, List.nil_append, List.cons_append]
  gi_wp2_with (refine ⟨trivial, (fun h => by omega), ?_⟩; gi_at_call 29; refine (appendU_c (by omega) hN eg hseq).mono ?_; rintro e w' ⟨A, c, ss, rfl, hS, hr, hb⟩)
  go_ret
  exact ⟨A, c, ss, rfl, hS, hr, hb⟩
end
end Go.Proofs.Ytmcfknnfaokmlaa
