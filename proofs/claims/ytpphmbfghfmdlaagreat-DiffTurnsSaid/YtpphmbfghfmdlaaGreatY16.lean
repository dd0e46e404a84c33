import Derived.Test.YtpphmbfghfmdlaaGreatY15
namespace Go.Proofs.YtpphmbfghfmdlaaGreat
set_option linter.unusedSimpArgs false
set_option maxRecDepth 100000
section
section
open Go.RowKit Go.Shelf Go.Maps Go.Lib Go.Sort
theorem qcell {w : World} {g : Nat} {a : Value} {t : TypeId} {fr : Nat × Nat} (h : w.heap[g]? = some (.cells #[a] t fr)) : w.cell? ⟨g, 0, none⟩ = some a := by simp [World.cell?, h]
set_option maxHeartbeats 1000000 in
theorem keysL_g {n Bm mb nn : Nat} {f : Nat → Option Value} {w : World} {fr : Nat × Nat} (hn : 1 ≤ n) (hm : w.heap[Bm]? = some (.cells #[.map (some mb)] 129 fr)) (hU : UM w mb nn f) :
  SeqGives Fence.wide n Tryz.prog 175 #[.pointer (some ⟨Bm, 0, none⟩)] encU (AllN f) nn w := by
 intro l J W hW hJ hY h0
 have cm := qcell ((hW.block Bm (lt_of_block hm)).trans hm)
 obtain ⟨D, own, hhas, _⟩ := (hU.below hW hU.lt).out
 have sz := own.size_le
 refine callsIn_of_wp Tryz.func175 rfl trivial ?_ rfl
 simp only [Tryz.ntmps175, List.size_toArray, List.length_cons, List.length_nil, Nat.reduceAdd, Nat.reduceSub, Array.replicate_succ, Array.replicate_zero, List.push_toArray, List.append_toArray, List.nil_append, List.cons_append]
 gi_wp2_with (first
  | (gi_at_range; refine wpListIn_range_own _ rfl _ 129 rfl 26 51 u64K Tryz.underlying129 _ mb nn D rfl own ?_; intro w0 hrg0 hg0 hs0)
  | gi_in)
 go_frame
 gi_loopw [3] (fun _ wr => ∃ (left : Lit → Bool) (cnt : Nat) (ss : List Nat), wr.ranges Tryz.prog 26 anyV mb W.heap.size nn D left cnt ∧ ss.length + cnt ≤ Maps.size D ∧ (ss.Nodup ∧ ∀ x, x ∈ ss ↔ (Maps.has D (nkey x) = true ∧ left (nkey x) = false)) ∧ J ss wr)
  (fun _ wr => wr.rangeLeft mb W.heap.size)
 case atStart => exact ⟨_, _, [], hrg0, by simp, ⟨List.nodup_nil, fun x => by cases Maps.has D (nkey x) <;> simp⟩, hJ [] W w0 none h0 hg0 (fun r e => by cases e)⟩
 case round =>
  obtain ⟨left, cnt, ss, hrg, hcs, ⟨hnd, hin⟩, hJs⟩ := hrel
  gi_wp2_with (first
   | (gi_at_next; refine wpListIn_next_ranges _ rfl _ rfl 26 u64K anyV encU id (fun key kl hk => by obtain ⟨x, hx, _⟩ := nkey_of hk; exact ⟨x, hx⟩) (fun v _ _ => ⟨v, rfl⟩) mb W.heap.size nn _ _ _ rfl hrg ?_ ?_)
   | gi_in)
  ·intro _ hl0
   gi_wp2
   go_end0
   exact ⟨⟨_, rfl⟩, ss, ⟨hnd, fun x => by rw [hin x, hhas, hl0]; simp⟩, hJs⟩
  ·intro x c kl yd yp w2 cnt2 hkey hlk hv hat hrg2 hlt hg2 hs2 hen
   obtain ⟨x', ex, rfl, _⟩ := nkey_of hkey
   obtain rfl : x = x' := by unfold encU at ex; injection ex with _ ex; omega
   have hhx : Maps.has D (nkey x) = true := has_true_of_atKey hat
   have hnew : x ∉ ss := fun hx => by have := ((hin x).1 hx).2; rw [hlk] at this; cases this
   obtain ⟨fn, tmps, assign, body, hy, hR⟩ := hY ss x w2 (hJ ss wr w2 (some W.heap.size) hJs hg2 (fun r e => by cases e; exact ⟨Nat.le_refl _, hrg.iter_walk⟩)) (by omega)
   clear hs2
   gi_wp2
   refine hR.mono ?_
   rintro e W3 ⟨rfl, hJ3, hk3⟩
   gi_wp2
   have hrg3 := hrg2.of_walks hk3
   go_roundw
   case rel =>
    refine ⟨_, cnt2, ss ++ [x], hrg3, by simp; omega, ⟨List.nodup_append.2 ⟨hnd, by simp, fun a ha b hb => by rw [List.mem_singleton] at hb; subst hb; exact fun e => hnew (e ▸ ha)⟩, fun z => ?_⟩, hJ3⟩
    by_cases hz : z = x
    ·subst hz
     simp [hhx, WideAt.sameKey_self (nkey_lit z)]
    ·simp [hin z, hz, Maps.sameKey_ne (fun q => hz (nkey_inj.1 q))]
   case measure => rw [hrg3.left_eq, hrg.left_eq]; exact hlt
theorem keysL_c (mb : Option Nat) (w : World) : Calls Tryz.prog 150 #[.map mb] w fun e w' => e = .returned (.func (.func 175) #[] #[.pointer (some ⟨w.heap.size, 0, none⟩)]) ∧ w.alloc (.cells #[.map mb] 129) = w' := by
 go_enter Tryz.func150, Tryz.ntmps150
 go_wp2
 go_ret
 exact ⟨rfl, rfl⟩
set_option maxHeartbeats 1000000 in
theorem keysK_g {n Bm mb nn : Nat} {f : Nat → Option Value} {w : World} {fr : Nat × Nat} (hn : 1 ≤ n) (hm : w.heap[Bm]? = some (.cells #[.map (some mb)] 132 fr)) (hU : UM w mb nn f) :
  SeqGives Fence.wide n Tryz.prog 176 #[.pointer (some ⟨Bm, 0, none⟩)] encU (AllN f) nn w := by
 intro l J W hW hJ hY h0
 have cm := qcell ((hW.block Bm (lt_of_block hm)).trans hm)
 obtain ⟨D, own, hhas, _⟩ := (hU.below hW hU.lt).out
 have sz := own.size_le
 refine callsIn_of_wp Tryz.func176 rfl trivial ?_ rfl
 simp only [Tryz.ntmps176, List.size_toArray, List.length_cons, List.length_nil, Nat.reduceAdd, Nat.reduceSub, Array.replicate_succ, Array.replicate_zero, List.push_toArray, List.append_toArray, List.nil_append, List.cons_append]
 gi_wp2_with (first
  | (gi_at_range; refine wpListIn_range_own _ rfl _ 132 rfl 26 56 u64K Tryz.underlying132 _ mb nn D rfl own ?_; intro w0 hrg0 hg0 hs0)
  | gi_in)
 go_frame
 gi_loopw [3] (fun _ wr => ∃ (left : Lit → Bool) (cnt : Nat) (ss : List Nat), wr.ranges Tryz.prog 26 anyV mb W.heap.size nn D left cnt ∧ ss.length + cnt ≤ Maps.size D ∧ (ss.Nodup ∧ ∀ x, x ∈ ss ↔ (Maps.has D (nkey x) = true ∧ left (nkey x) = false)) ∧ J ss wr)
  (fun _ wr => wr.rangeLeft mb W.heap.size)
 case atStart => exact ⟨_, _, [], hrg0, by simp, ⟨List.nodup_nil, fun x => by cases Maps.has D (nkey x) <;> simp⟩, hJ [] W w0 none h0 hg0 (fun r e => by cases e)⟩
 case round =>
  obtain ⟨left, cnt, ss, hrg, hcs, ⟨hnd, hin⟩, hJs⟩ := hrel
  gi_wp2_with (first
   | (gi_at_next; refine wpListIn_next_ranges _ rfl _ rfl 26 u64K anyV encU id (fun key kl hk => by obtain ⟨x, hx, _⟩ := nkey_of hk; exact ⟨x, hx⟩) (fun v _ _ => ⟨v, rfl⟩) mb W.heap.size nn _ _ _ rfl hrg ?_ ?_)
   | gi_in)
  ·intro _ hl0
   gi_wp2
   go_end0
   exact ⟨⟨_, rfl⟩, ss, ⟨hnd, fun x => by rw [hin x, hhas, hl0]; simp⟩, hJs⟩
  ·intro x c kl yd yp w2 cnt2 hkey hlk hv hat hrg2 hlt hg2 hs2 hen
   obtain ⟨x', ex, rfl, _⟩ := nkey_of hkey
   obtain rfl : x = x' := by unfold encU at ex; injection ex with _ ex; omega
   have hhx : Maps.has D (nkey x) = true := has_true_of_atKey hat
   have hnew : x ∉ ss := fun hx => by have := ((hin x).1 hx).2; rw [hlk] at this; cases this
   obtain ⟨fn, tmps, assign, body, hy, hR⟩ := hY ss x w2 (hJ ss wr w2 (some W.heap.size) hJs hg2 (fun r e => by cases e; exact ⟨Nat.le_refl _, hrg.iter_walk⟩)) (by omega)
   clear hs2
   gi_wp2
   refine hR.mono ?_
   rintro e W3 ⟨rfl, hJ3, hk3⟩
   gi_wp2
   have hrg3 := hrg2.of_walks hk3
   go_roundw
   case rel =>
    refine ⟨_, cnt2, ss ++ [x], hrg3, by simp; omega, ⟨List.nodup_append.2 ⟨hnd, by simp, fun a ha b hb => by rw [List.mem_singleton] at hb; subst hb; exact fun e => hnew (e ▸ ha)⟩, fun z => ?_⟩, hJ3⟩
    by_cases hz : z = x
    ·subst hz
     simp [hhx, WideAt.sameKey_self (nkey_lit z)]
    ·simp [hin z, hz, Maps.sameKey_ne (fun q => hz (nkey_inj.1 q))]
   case measure => rw [hrg3.left_eq, hrg.left_eq]; exact hlt
theorem keysK_c (mb : Option Nat) (w : World) : Calls Tryz.prog 151 #[.map mb] w fun e w' => e = .returned (.func (.func 176) #[] #[.pointer (some ⟨w.heap.size, 0, none⟩)]) ∧ w.alloc (.cells #[.map mb] 132) = w' := by
 go_enter Tryz.func151, Tryz.ntmps151
 go_wp2
 go_ret
 exact ⟨rfl, rfl⟩
end
end
end Go.Proofs.YtpphmbfghfmdlaaGreat
