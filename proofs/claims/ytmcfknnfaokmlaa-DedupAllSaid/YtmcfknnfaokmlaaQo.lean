/- Stage 12: slices.Sorted at uint64 (written by wip/gen12um.py). -/
import Derived.Test.YtmcfknnfaokmlaaQn
namespace Go.Proofs.Ytmcfknnfaokmlaa
set_option maxRecDepth 100000
section
open Go.RowKit Go.Shelf Go.Maps Go.Lib Go.Sort
theorem insNone (c : Nat) (w : World) : Calls Try.prog 32 #[.slice none 0 c, .int .i64 0, .int .i64 0] w fun e w' => e = .returned (.tuple #[]) ∧ w = w' := by
  go_enter Try.func32, Try.ntmps32
  go_wp2
  go_loopg [6] 0 (fun _ vi wr => vi = .int .i64 1 ∧ w = wr)
  case atStart => exact ⟨rfl, rfl⟩
  case round =>
    obtain ⟨rfl, rfl⟩ := hrel
    go_wp2
    go_end0
    exact ⟨rfl, rfl⟩
theorem pdqNone (c : Nat) (w : World) : Calls Try.prog 30 #[.slice none 0 c, .int .i64 0, .int .i64 0, .int .i64 0] w fun e w' => e = .returned (.tuple #[]) ∧ w = w' := by
  have hc := Lib.hid (insNone c w)
  go_enter Try.func30, Try.ntmps30
  go_wp2
  go_loopg [1, 2, 3, 8, 9] 0 (fun _ s1 s2 s3 s8 s9 wr => s1 = .int .i64 0 ∧ s2 = .int .i64 0 ∧ s3 = .int .i64 0 ∧ s8 = .bool true ∧ s9 = .bool true ∧ w = wr)
  case atStart => exact ⟨rfl, rfl, rfl, rfl, rfl, rfl⟩
  case round =>
    obtain ⟨rfl, rfl, rfl, rfl, rfl, rfl⟩ := hrel
    go_wp2_with (go_at_call 32; refine hc.out.mono ?_; rintro e w1 ⟨rfl, rfl⟩)
    (try simp only [Exit.inBlock, Exit.then]); refine bodyPost_ret (results_none rfl _ _ _) rfl ?_
    exact ⟨rfl, rfl⟩
theorem sortNone (c : Nat) (w : World) : Calls Try.prog 27 #[.slice none 0 c] w fun e w' => e = .returned (.tuple #[]) ∧ w = w' := by
  have hp := Lib.hid (pdqNone c w)
  have hl := Lib.hid (lenU 0 (by decide) w)
  go_enter Try.func27, Try.ntmps27
  go_wp2_with (first | (go_at_call 31; refine hl.out.mono ?_; rintro e w' ⟨rfl, rfl⟩) | (go_at_call 30; refine hp.out.mono ?_; rintro e w' ⟨rfl, rfl⟩))
  go_end0
  exact ⟨rfl, rfl⟩

/-- The row behind its sorting. -/
theorem row_sorted {w W : World} {base g cap : Nat} {cur : Array Value} {ss ts : List Nat} {t : TypeId} (hl : ts.length = ss.length) (hbase : base ≤ g) (hb : w.heap[g]? = some (.cells cur t (0, 0))) (h1 : ss.length ≤ cap) (h2 : cap ≤ maxLen) (h3 : cur.size = cap * 1)
    (S : SW encU w g 0 ts.toArray W) : W.ownsRow base t 1 (.slice (some ⟨g, 0, none⟩) ss.length cap) ss.length (ts.map encU) ∧ w.grownBy W (some g) := by
  obtain ⟨n, os, rfl⟩ := S
  have hg : g < w.heap.size := (Array.getElem?_eq_some_iff.1 hb).1
  have hblk : (sortWorld encU w g 0 n ts.toArray os).heap[g]? = some (.cells (putCells encU 0 ts.toArray cur) t (0, 0)) := by
    unfold sortWorld
    rw [heap_grow_old _ _ (by rw [size_putRow]; exact hg)]
    simp [putRow, mapBlock, Sort.ahead, Array.getElem?_modify, hb, onCells]
  refine ⟨⟨by simp [hl], .inr ⟨g, cap, _, rfl, hbase, hblk, h1, h2, by simp [putCells, h3], ?_⟩⟩, ⟨rfl, rfl, rfl, by unfold sortWorld; rw [size_grow, size_putRow]; exact Nat.le_add_right _ _, fun k hk hne => ?_⟩⟩
  · apply List.ext_getElem?
    intro j
    by_cases hj : j < ts.length
    · rw [Nat.mul_one, List.getElem?_take_of_lt (by omega), Array.getElem?_toList]
      simp [putCells, hj, show j < cur.size by omega]
    · rw [Nat.mul_one, List.getElem?_take_eq_none (by omega), List.getElem?_eq_none (by simp; omega)]
  · unfold sortWorld
    rw [heap_grow_old _ _ (by rw [size_putRow]; exact hk)]
    have q : g ≠ k := fun e => hne (by rw [e])
    simp [putRow, mapBlock, Sort.ahead, Array.getElem?_modify, q]
theorem row_holds {w : World} {g : Nat} {cur : Array Value} {t : TypeId} {ss : List Nat} (hb : w.heap[g]? = some (.cells cur t (0, 0))) (ht : cur.toList.take ss.length = ss.map encU) : Holds encU w g 0 ss.toArray := by
  intro j hj
  have hj' : j < ss.length := by simpa using hj
  refine ⟨?_, by simp [World.frozen?, hb]⟩
  have q : (cur.toList.take ss.length)[j]? = (ss.map encU)[j]? := by rw [ht]
  rw [List.getElem?_take_of_lt hj', Array.getElem?_toList] at q
  simp [World.cell?, hb, q, hj']

/-- The numbers that stand in a map, in order. -/
def RisN (f : Nat → Option Value) (ss : List Nat) : Prop := ss.Pairwise (· < ·) ∧ ∀ x, x ∈ ss ↔ (f x).isSome = true
theorem ris_sorted {f : Nat → Option Value} {ss : List Nat} (h : AllN f ss) : RisN f (ss.mergeSort (fun x y => decide (x ≤ y))) := by
  refine ⟨?_, fun x => by rw [List.mem_mergeSort]; exact h.2 x⟩
  have hp := List.pairwise_mergeSort (le := fun x y : Nat => decide (x ≤ y)) (fun a b c h1 h2 => by simp only [decide_eq_true_eq] at *; omega) (fun a b => by simp only [Bool.or_eq_true, decide_eq_true_eq]; omega) ss
  have hn : (ss.mergeSort (fun x y => decide (x ≤ y))).Nodup := (List.mergeSort_perm ss _).nodup_iff.2 h.1
  exact (hp.and hn).imp (fun {a b} q => by have := of_decide_eq_true q.1; have := q.2; omega)
theorem sortRow_c {W : World} {base c : Nat} {A : Option Addr} {ss : List Nat} (hlen : ss.length ≤ 1000000) (hbs : base ≤ W.heap.size) (hrow : W.ownsRow base 24 1 (.slice A ss.length c) ss.length (ss.map encU)) :
    Calls Try.prog 27 #[.slice A ss.length c] W fun e w' => e = .returned (.tuple #[]) ∧ w'.ownsRow base 24 1 (.slice A ss.length c) ss.length ((ss.mergeSort (fun x y => decide (x ≤ y))).map encU) ∧ Below base W w' := by
  rcases hrow.2 with ⟨hz, hz2⟩ | ⟨gb, cap, cur, hv, hbase, hgb, r1, r2, r3, r4⟩
  · have e : ss = [] := List.eq_nil_of_length_eq_zero hz2
    subst e
    injection hz with h1 h2 h3
    subst h1
    refine (sortNone c W).mono ?_
    rintro e w' ⟨rfl, rfl⟩
    exact ⟨rfl, by simpa using hrow, Below.refl _ _⟩
  · injection hv with h1 h2 h3
    subst h1 h3
    have hg : gb < W.heap.size := (Array.getElem?_eq_some_iff.1 hgb).1
    have q := sortU_c (cap := c) (d := ss.toArray) (row_holds hgb (by rw [Nat.mul_one] at r4; exact r4)) hg (by simp; omega)
    rw [List.size_toArray] at q
    refine q.mono ?_
    rintro e w' ⟨rfl, S⟩
    have et : pdq ltU ss.toArray 0 ss.length (Lib.bitLen ss.length) true true = (ss.mergeSort (fun x y => decide (x ≤ y))).toArray := by rw [← pdqU_sorted ss]
    rw [et] at S
    obtain ⟨o1, o2⟩ := row_sorted (List.length_mergeSort ss) hbase hgb r1 r2 r3 S
    exact ⟨rfl, o1, (Below.refl _ W).grown o2 hbs (fun j hj => by cases hj; exact hbase)⟩
set_option maxHeartbeats 2000000 in
theorem sortedU_c {nn gf : Nat} {lb : Array Value} {f : Nat → Option Value} {w : World} (hN : nn ≤ 1000000) (eg : ∀ args w, (callFunc gf args).run Try.prog w = .ok (.enter gf args) w) (hseq : SeqGives Fence.wide 2 Try.prog gf lb encU (AllN f) nn w) :
    Calls Try.prog 23 #[.func (.func gf) #[] lb] w (RowU (RisN f) w) := by
  have cC := Lib.hid (callsIn_wide.1 (collectU_c (n := 4) (by decide) hN eg hseq.bounded))
  clear hseq
  go_enter Try.func23, Try.ntmps23
  go_wp2_with (first
    | (go_at_call 26; refine cC.out.mono ?_; rintro e W ⟨A, c, ss, rfl, ⟨hS, hlen⟩, hrow, hb⟩; have HS := Lib.hid hS; have HB := Lib.hid hb; have cS := Lib.hid (sortRow_c (Nat.le_trans hlen hN) hb.size hrow); clear hS hb hrow)
    | (go_at_call 27; refine cS.out.mono ?_; rintro e W2 ⟨rfl, hrow2, hb2⟩))
  go_ret
  have hl : (ss.mergeSort (fun x y => decide (x ≤ y))).length = ss.length := List.length_mergeSort ss
  refine ⟨A, c, ss.mergeSort (fun x y => decide (x ≤ y)), by rw [hl]; rfl, ris_sorted HS.out, by rw [hl]; exact hrow2, HB.out.trans hb2⟩
end
end Go.Proofs.Ytmcfknnfaokmlaa
