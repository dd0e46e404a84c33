import Derived.Test.YtnhpkcphgdkdiaaGreatZ13
namespace Go.Proofs.YtnhpkcphgdkdiaaGreat
set_option linter.unusedSimpArgs false
set_option maxRecDepth 100000
section
section
open Go.RowKit Go.Shelf Go.Maps Go.Lib Go.Sort
theorem qcell {w : World} {g : Nat} {a : Value} {t : TypeId} {fr : Nat × Nat} (h : w.heap[g]? = some (.cells #[a] t fr)) : w.cell? ⟨g, 0, none⟩ = some a := by simp [World.cell?, h]
set_option maxHeartbeats 1000000 in
theorem keysL_g {n Bm mb nn : Nat} {f : Nat → Option Value} {w : World} {fr : Nat × Nat} (hn : 1 ≤ n) (hm : w.heap[Bm]? = some (.cells #[.map (some mb)] 89 fr)) (hU : UM w mb nn f) :
  SeqGives Fence.wide n Tryz.prog 99 #[.pointer (some ⟨Bm, 0, none⟩)] encU (AllN f) nn w := by
 intro l J W hW hJ hY h0
 have cm := qcell ((hW.block Bm (lt_of_block hm)).trans hm)
 obtain ⟨D, own, hhas, _⟩ := (hU.below hW hU.lt).out
 have sz := own.size_le
 refine callsIn_of_wp Tryz.func99 rfl trivial ?_ rfl
 simp only [Tryz.ntmps99, List.size_toArray, List.length_cons, List.length_nil, Nat.reduceAdd, Nat.reduceSub, Array.replicate_succ, Array.replicate_zero, List.push_toArray, List.append_toArray, List.nil_append, List.cons_append]
 gi_wp2_with (first
  | (gi_at_range; refine wpListIn_range_own _ rfl _ 89 rfl 30 32 u64K Tryz.underlying89 _ mb nn D rfl own ?_; intro w0 hrg0 hg0 hs0)
  | gi_in)
 go_frame
 gi_loopw [3] (fun _ wr => ∃ (left : Lit → Bool) (cnt : Nat) (ss : List Nat), wr.ranges Tryz.prog 30 anyV mb W.heap.size nn D left cnt ∧ ss.length + cnt ≤ Maps.size D ∧ (ss.Nodup ∧ ∀ x, x ∈ ss ↔ (Maps.has D (nkey x) = true ∧ left (nkey x) = false)) ∧ J ss wr)
  (fun _ wr => wr.rangeLeft mb W.heap.size)
 case atStart => exact ⟨_, _, [], hrg0, by simp, ⟨List.nodup_nil, fun x => by cases Maps.has D (nkey x) <;> simp⟩, hJ [] W w0 none h0 hg0 (fun r e => by cases e)⟩
 case round =>
  obtain ⟨left, cnt, ss, hrg, hcs, ⟨hnd, hin⟩, hJs⟩ := hrel
  gi_wp2_with (first
   | (gi_at_next; refine wpListIn_next_ranges _ rfl _ rfl 30 u64K anyV encU id (fun key kl hk => by obtain ⟨x, hx, _⟩ := nkey_of hk; exact ⟨x, hx⟩) (fun v _ _ => ⟨v, rfl⟩) mb W.heap.size nn _ _ _ rfl hrg ?_ ?_)
   | gi_in)
  ·intro _ hl0
   gi_wp2
   go_end0
   exact ⟨⟨_, rfl⟩, ss, ⟨hnd, fun x => by rw [hin x, hhas, hl0]; simp⟩, hJs⟩
  ·intro x c kl yd yp w2 cnt2 hkey hlk hv hat hrg2 hlt hg2 hs2 hen
   obtain ⟨x', ex, rfl, _⟩ := nkey_of hkey
   obtain rfl : x = x' := by unfold encU at ex; injection ex with _ ex; omega
   have hhx : Maps.has D (nkey x) = true := has_true_of_atKey hat
   have hnew : x ∉ ss := fun hx => by have := ((hin x).1 hx).2; rw [hlk] at this; cases this
   obtain ⟨fn, tmps, assign, body, hy, hR⟩ := hY ss x w2 (hJ ss wr w2 (some W.heap.size) hJs hg2 (fun r e => by cases e; exact ⟨Nat.le_refl _, hrg.iter_walk⟩)) (by omega)
   clear hs2
   gi_wp2
   refine hR.mono ?_
   rintro e W3 ⟨rfl, hJ3, hk3⟩
   gi_wp2
   have hrg3 := hrg2.of_walks hk3
   go_roundw
   case rel =>
    refine ⟨_, cnt2, ss ++ [x], hrg3, by simp; omega, ⟨List.nodup_append.2 ⟨hnd, by simp, fun a ha b hb => by rw [List.mem_singleton] at hb; subst hb; exact fun e => hnew (e ▸ ha)⟩, fun z => ?_⟩, hJ3⟩
    by_cases hz : z = x
    ·subst hz
     simp [hhx, WideAt.sameKey_self (nkey_lit z)]
    ·simp [hin z, hz, Maps.sameKey_ne (fun q => hz (nkey_inj.1 q))]
   case measure => rw [hrg3.left_eq, hrg.left_eq]; exact hlt
theorem keysL_c (mb : Option Nat) (w : World) : Calls Tryz.prog 79 #[.map mb] w fun e w' => e = .returned (.func (.func 99) #[] #[.pointer (some ⟨w.heap.size, 0, none⟩)]) ∧ w.alloc (.cells #[.map mb] 89) = w' := by
 go_enter Tryz.func79, Tryz.ntmps79
 go_wp2
 go_ret
 exact ⟨rfl, rfl⟩
set_option maxHeartbeats 1000000 in
theorem keysK_g {n Bm mb nn : Nat} {f : Nat → Option Value} {w : World} {fr : Nat × Nat} (hn : 1 ≤ n) (hm : w.heap[Bm]? = some (.cells #[.map (some mb)] 93 fr)) (hU : UM w mb nn f) :
  SeqGives Fence.wide n Tryz.prog 100 #[.pointer (some ⟨Bm, 0, none⟩)] encU (AllN f) nn w := by
 intro l J W hW hJ hY h0
 have cm := qcell ((hW.block Bm (lt_of_block hm)).trans hm)
 obtain ⟨D, own, hhas, _⟩ := (hU.below hW hU.lt).out
 have sz := own.size_le
 refine callsIn_of_wp Tryz.func100 rfl trivial ?_ rfl
 simp only [Tryz.ntmps100, List.size_toArray, List.length_cons, List.length_nil, Nat.reduceAdd, Nat.reduceSub, Array.replicate_succ, Array.replicate_zero, List.push_toArray, List.append_toArray, List.nil_append, List.cons_append]
 gi_wp2_with (first
  | (gi_at_range; refine wpListIn_range_own _ rfl _ 93 rfl 30 38 u64K Tryz.underlying93 _ mb nn D rfl own ?_; intro w0 hrg0 hg0 hs0)
  | gi_in)
 go_frame
 gi_loopw [3] (fun _ wr => ∃ (left : Lit → Bool) (cnt : Nat) (ss : List Nat), wr.ranges Tryz.prog 30 anyV mb W.heap.size nn D left cnt ∧ ss.length + cnt ≤ Maps.size D ∧ (ss.Nodup ∧ ∀ x, x ∈ ss ↔ (Maps.has D (nkey x) = true ∧ left (nkey x) = false)) ∧ J ss wr)
  (fun _ wr => wr.rangeLeft mb W.heap.size)
 case atStart => exact ⟨_, _, [], hrg0, by simp, ⟨List.nodup_nil, fun x => by cases Maps.has D (nkey x) <;> simp⟩, hJ [] W w0 none h0 hg0 (fun r e => by cases e)⟩
 case round =>
  obtain ⟨left, cnt, ss, hrg, hcs, ⟨hnd, hin⟩, hJs⟩ := hrel
  gi_wp2_with (first
   | (gi_at_next; refine wpListIn_next_ranges _ rfl _ rfl 30 u64K anyV encU id (fun key kl hk => by obtain ⟨x, hx, _⟩ := nkey_of hk; exact ⟨x, hx⟩) (fun v _ _ => ⟨v, rfl⟩) mb W.heap.size nn _ _ _ rfl hrg ?_ ?_)
   | gi_in)
  ·intro _ hl0
   gi_wp2
   go_end0
   exact ⟨⟨_, rfl⟩, ss, ⟨hnd, fun x => by rw [hin x, hhas, hl0]; simp⟩, hJs⟩
  ·intro x c kl yd yp w2 cnt2 hkey hlk hv hat hrg2 hlt hg2 hs2 hen
   obtain ⟨x', ex, rfl, _⟩ := nkey_of hkey
   obtain rfl : x = x' := by unfold encU at ex; injection ex with _ ex; omega
   have hhx : Maps.has D (nkey x) = true := has_true_of_atKey hat
   have hnew : x ∉ ss := fun hx => by have := ((hin x).1 hx).2; rw [hlk] at this; cases this
   obtain ⟨fn, tmps, assign, body, hy, hR⟩ := hY ss x w2 (hJ ss wr w2 (some W.heap.size) hJs hg2 (fun r e => by cases e; exact ⟨Nat.le_refl _, hrg.iter_walk⟩)) (by omega)
   clear hs2
   gi_wp2
   refine hR.mono ?_
   rintro e W3 ⟨rfl, hJ3, hk3⟩
   gi_wp2
   have hrg3 := hrg2.of_walks hk3
   go_roundw
   case rel =>
    refine ⟨_, cnt2, ss ++ [x], hrg3, by simp; omega, ⟨List.nodup_append.2 ⟨hnd, by simp, fun a ha b hb => by rw [List.mem_singleton] at hb; subst hb; exact fun e => hnew (e ▸ ha)⟩, fun z => ?_⟩, hJ3⟩
    by_cases hz : z = x
    ·subst hz
     simp [hhx, WideAt.sameKey_self (nkey_lit z)]
    ·simp [hin z, hz, Maps.sameKey_ne (fun q => hz (nkey_inj.1 q))]
   case measure => rw [hrg3.left_eq, hrg.left_eq]; exact hlt
theorem keysK_c (mb : Option Nat) (w : World) : Calls Tryz.prog 80 #[.map mb] w fun e w' => e = .returned (.func (.func 100) #[] #[.pointer (some ⟨w.heap.size, 0, none⟩)]) ∧ w.alloc (.cells #[.map mb] 93) = w' := by
 go_enter Tryz.func80, Tryz.ntmps80
 go_wp2
 go_ret
 exact ⟨rfl, rfl⟩
set_option maxHeartbeats 1000000 in
theorem keysWL_g {n Bm mb nn : Nat} {f : Nat → Option Value} {w : World} {fr : Nat × Nat} (hn : 1 ≤ n) (hm : w.heap[Bm]? = some (.cells #[.map (some mb)] 61 fr)) (hU : UM w mb nn f) :
  SeqGives Fence.wide n Tryz.prog 101 #[.pointer (some ⟨Bm, 0, none⟩)] encU (AllN f) nn w := by
 intro l J W hW hJ hY h0
 have cm := qcell ((hW.block Bm (lt_of_block hm)).trans hm)
 obtain ⟨D, own, hhas, _⟩ := (hU.below hW hU.lt).out
 have sz := own.size_le
 refine callsIn_of_wp Tryz.func101 rfl trivial ?_ rfl
 simp only [Tryz.ntmps101, List.size_toArray, List.length_cons, List.length_nil, Nat.reduceAdd, Nat.reduceSub, Array.replicate_succ, Array.replicate_zero, List.push_toArray, List.append_toArray, List.nil_append, List.cons_append]
 gi_wp2_with (first
  | (gi_at_range; refine wpListIn_range_own _ rfl _ 61 rfl 30 65 u64K Tryz.underlying61 _ mb nn D rfl own ?_; intro w0 hrg0 hg0 hs0)
  | gi_in)
 go_frame
 gi_loopw [3] (fun _ wr => ∃ (left : Lit → Bool) (cnt : Nat) (ss : List Nat), wr.ranges Tryz.prog 30 anyV mb W.heap.size nn D left cnt ∧ ss.length + cnt ≤ Maps.size D ∧ (ss.Nodup ∧ ∀ x, x ∈ ss ↔ (Maps.has D (nkey x) = true ∧ left (nkey x) = false)) ∧ J ss wr)
  (fun _ wr => wr.rangeLeft mb W.heap.size)
 case atStart => exact ⟨_, _, [], hrg0, by simp, ⟨List.nodup_nil, fun x => by cases Maps.has D (nkey x) <;> simp⟩, hJ [] W w0 none h0 hg0 (fun r e => by cases e)⟩
 case round =>
  obtain ⟨left, cnt, ss, hrg, hcs, ⟨hnd, hin⟩, hJs⟩ := hrel
  gi_wp2_with (first
   | (gi_at_next; refine wpListIn_next_ranges _ rfl _ rfl 30 u64K anyV encU id (fun key kl hk => by obtain ⟨x, hx, _⟩ := nkey_of hk; exact ⟨x, hx⟩) (fun v _ _ => ⟨v, rfl⟩) mb W.heap.size nn _ _ _ rfl hrg ?_ ?_)
   | gi_in)
  ·intro _ hl0
   gi_wp2
   go_end0
   exact ⟨⟨_, rfl⟩, ss, ⟨hnd, fun x => by rw [hin x, hhas, hl0]; simp⟩, hJs⟩
  ·intro x c kl yd yp w2 cnt2 hkey hlk hv hat hrg2 hlt hg2 hs2 hen
   obtain ⟨x', ex, rfl, _⟩ := nkey_of hkey
   obtain rfl : x = x' := by unfold encU at ex; injection ex with _ ex; omega
   have hhx : Maps.has D (nkey x) = true := has_true_of_atKey hat
   have hnew : x ∉ ss := fun hx => by have := ((hin x).1 hx).2; rw [hlk] at this; cases this
   obtain ⟨fn, tmps, assign, body, hy, hR⟩ := hY ss x w2 (hJ ss wr w2 (some W.heap.size) hJs hg2 (fun r e => by cases e; exact ⟨Nat.le_refl _, hrg.iter_walk⟩)) (by omega)
   clear hs2
   gi_wp2
   refine hR.mono ?_
   rintro e W3 ⟨rfl, hJ3, hk3⟩
   gi_wp2
   have hrg3 := hrg2.of_walks hk3
   go_roundw
   case rel =>
    refine ⟨_, cnt2, ss ++ [x], hrg3, by simp; omega, ⟨List.nodup_append.2 ⟨hnd, by simp, fun a ha b hb => by rw [List.mem_singleton] at hb; subst hb; exact fun e => hnew (e ▸ ha)⟩, fun z => ?_⟩, hJ3⟩
    by_cases hz : z = x
    ·subst hz
     simp [hhx, WideAt.sameKey_self (nkey_lit z)]
    ·simp [hin z, hz, Maps.sameKey_ne (fun q => hz (nkey_inj.1 q))]
   case measure => rw [hrg3.left_eq, hrg.left_eq]; exact hlt
theorem keysWL_c (mb : Option Nat) (w : World) : Calls Tryz.prog 81 #[.map mb] w fun e w' => e = .returned (.func (.func 101) #[] #[.pointer (some ⟨w.heap.size, 0, none⟩)]) ∧ w.alloc (.cells #[.map mb] 61) = w' := by
 go_enter Tryz.func81, Tryz.ntmps81
 go_wp2
 go_ret
 exact ⟨rfl, rfl⟩
set_option maxHeartbeats 1000000 in
theorem keysWK_g {n Bm mb nn : Nat} {f : Nat → Option Value} {w : World} {fr : Nat × Nat} (hn : 1 ≤ n) (hm : w.heap[Bm]? = some (.cells #[.map (some mb)] 66 fr)) (hU : UM w mb nn f) :
  SeqGives Fence.wide n Tryz.prog 102 #[.pointer (some ⟨Bm, 0, none⟩)] encU (AllN f) nn w := by
 intro l J W hW hJ hY h0
 have cm := qcell ((hW.block Bm (lt_of_block hm)).trans hm)
 obtain ⟨D, own, hhas, _⟩ := (hU.below hW hU.lt).out
 have sz := own.size_le
 refine callsIn_of_wp Tryz.func102 rfl trivial ?_ rfl
 simp only [Tryz.ntmps102, List.size_toArray, List.length_cons, List.length_nil, Nat.reduceAdd, Nat.reduceSub, Array.replicate_succ, Array.replicate_zero, List.push_toArray, List.append_toArray, List.nil_append, List.cons_append]
 gi_wp2_with (first
  | (gi_at_range; refine wpListIn_range_own _ rfl _ 66 rfl 30 70 u64K Tryz.underlying66 _ mb nn D rfl own ?_; intro w0 hrg0 hg0 hs0)
  | gi_in)
 go_frame
 gi_loopw [3] (fun _ wr => ∃ (left : Lit → Bool) (cnt : Nat) (ss : List Nat), wr.ranges Tryz.prog 30 anyV mb W.heap.size nn D left cnt ∧ ss.length + cnt ≤ Maps.size D ∧ (ss.Nodup ∧ ∀ x, x ∈ ss ↔ (Maps.has D (nkey x) = true ∧ left (nkey x) = false)) ∧ J ss wr)
  (fun _ wr => wr.rangeLeft mb W.heap.size)
 case atStart => exact ⟨_, _, [], hrg0, by simp, ⟨List.nodup_nil, fun x => by cases Maps.has D (nkey x) <;> simp⟩, hJ [] W w0 none h0 hg0 (fun r e => by cases e)⟩
 case round =>
  obtain ⟨left, cnt, ss, hrg, hcs, ⟨hnd, hin⟩, hJs⟩ := hrel
  gi_wp2_with (first
   | (gi_at_next; refine wpListIn_next_ranges _ rfl _ rfl 30 u64K anyV encU id (fun key kl hk => by obtain ⟨x, hx, _⟩ := nkey_of hk; exact ⟨x, hx⟩) (fun v _ _ => ⟨v, rfl⟩) mb W.heap.size nn _ _ _ rfl hrg ?_ ?_)
   | gi_in)
  ·intro _ hl0
   gi_wp2
   go_end0
   exact ⟨⟨_, rfl⟩, ss, ⟨hnd, fun x => by rw [hin x, hhas, hl0]; simp⟩, hJs⟩
  ·intro x c kl yd yp w2 cnt2 hkey hlk hv hat hrg2 hlt hg2 hs2 hen
   obtain ⟨x', ex, rfl, _⟩ := nkey_of hkey
   obtain rfl : x = x' := by unfold encU at ex; injection ex with _ ex; omega
   have hhx : Maps.has D (nkey x) = true := has_true_of_atKey hat
   have hnew : x ∉ ss := fun hx => by have := ((hin x).1 hx).2; rw [hlk] at this; cases this
   obtain ⟨fn, tmps, assign, body, hy, hR⟩ := hY ss x w2 (hJ ss wr w2 (some W.heap.size) hJs hg2 (fun r e => by cases e; exact ⟨Nat.le_refl _, hrg.iter_walk⟩)) (by omega)
   clear hs2
   gi_wp2
   refine hR.mono ?_
   rintro e W3 ⟨rfl, hJ3, hk3⟩
   gi_wp2
   have hrg3 := hrg2.of_walks hk3
   go_roundw
   case rel =>
    refine ⟨_, cnt2, ss ++ [x], hrg3, by simp; omega, ⟨List.nodup_append.2 ⟨hnd, by simp, fun a ha b hb => by rw [List.mem_singleton] at hb; subst hb; exact fun e => hnew (e ▸ ha)⟩, fun z => ?_⟩, hJ3⟩
    by_cases hz : z = x
    ·subst hz
     simp [hhx, WideAt.sameKey_self (nkey_lit z)]
    ·simp [hin z, hz, Maps.sameKey_ne (fun q => hz (nkey_inj.1 q))]
   case measure => rw [hrg3.left_eq, hrg.left_eq]; exact hlt
theorem keysWK_c (mb : Option Nat) (w : World) : Calls Tryz.prog 82 #[.map mb] w fun e w' => e = .returned (.func (.func 102) #[] #[.pointer (some ⟨w.heap.size, 0, none⟩)]) ∧ w.alloc (.cells #[.map mb] 66) = w' := by
 go_enter Tryz.func82, Tryz.ntmps82
 go_wp2
 go_ret
 exact ⟨rfl, rfl⟩
end
end
end Go.Proofs.YtnhpkcphgdkdiaaGreat
