import Derived.Test.YtnhpkcphgdkdiaaGreatZ34
namespace Go.Proofs.YtnhpkcphgdkdiaaGreat
set_option linter.unusedSimpArgs false
set_option maxRecDepth 100000
section
set_option linter.unusedSimpArgs false
section
open Go.RowKit Go.Lib Go.Shelf
theorem riseL_c {w : World} {mb nn : Nat} {f : Nat → Option Value} (hU : UM w mb nn f) (hN : nn ≤ 1000000) : Calls Tryz.prog 47 #[.map (some mb)] w (RowU (RisN f) w) := by
 obtain ⟨w1, hw1⟩ : ∃ u, w.alloc (.cells #[.map (some mb)] 89) = u := ⟨_, rfl⟩
 have b1 : Below w.heap.size w w1 := by rw [← hw1]; exact (Below.refl _ w).alloc (Nat.le_refl _) _
 have k1 : w1.heap[w.heap.size]? = some (.cells #[.map (some mb)] 89 (0, 0)) := by rw [← hw1]; exact World.alloc_heap_new w _
 have CS := hid (sortedU_c hN (enters_of Tryz.func99 (by kernel_rfl) rfl) (keysL_g (n := 2) (by decide) k1 (hU.below b1 hU.lt)))
 have B1 := hid b1
 have CK := hid (keysL_c (some mb) w)
 rw [hw1] at CK
 clear hU b1 k1 hw1
 go_enter Tryz.func47, Tryz.ntmps47
 go_wp2_with (first
  | (go_at_call 79; refine CK.out.mono ?_; rintro e w' ⟨rfl, rfl⟩)
  | (go_at_call 78; refine CS.out.mono ?_; rintro e w2 ⟨A, c, ss, rfl, hS, hrow, hb⟩))
 go_ret
 exact ⟨A, c, ss, rfl, hS, own_less hrow B1.out.size, B1.out.trans (hb.mono B1.out.size)⟩
theorem riseK_c {w : World} {mb nn : Nat} {f : Nat → Option Value} (hU : UM w mb nn f) (hN : nn ≤ 1000000) : Calls Tryz.prog 50 #[.map (some mb)] w (RowU (RisN f) w) := by
 obtain ⟨w1, hw1⟩ : ∃ u, w.alloc (.cells #[.map (some mb)] 93) = u := ⟨_, rfl⟩
 have b1 : Below w.heap.size w w1 := by rw [← hw1]; exact (Below.refl _ w).alloc (Nat.le_refl _) _
 have k1 : w1.heap[w.heap.size]? = some (.cells #[.map (some mb)] 93 (0, 0)) := by rw [← hw1]; exact World.alloc_heap_new w _
 have CS := hid (sortedU_c hN (enters_of Tryz.func100 (by kernel_rfl) rfl) (keysK_g (n := 2) (by decide) k1 (hU.below b1 hU.lt)))
 have B1 := hid b1
 have CK := hid (keysK_c (some mb) w)
 rw [hw1] at CK
 clear hU b1 k1 hw1
 go_enter Tryz.func50, Tryz.ntmps50
 go_wp2_with (first
  | (go_at_call 80; refine CK.out.mono ?_; rintro e w' ⟨rfl, rfl⟩)
  | (go_at_call 78; refine CS.out.mono ?_; rintro e w2 ⟨A, c, ss, rfl, hS, hrow, hb⟩))
 go_ret
 exact ⟨A, c, ss, rfl, hS, own_less hrow B1.out.size, B1.out.trans (hb.mono B1.out.size)⟩
theorem riseWL_c {w : World} {mb nn : Nat} {f : Nat → Option Value} (hU : UM w mb nn f) (hN : nn ≤ 1000000) : Calls Tryz.prog 53 #[.map (some mb)] w (RowU (RisN f) w) := by
 obtain ⟨w1, hw1⟩ : ∃ u, w.alloc (.cells #[.map (some mb)] 61) = u := ⟨_, rfl⟩
 have b1 : Below w.heap.size w w1 := by rw [← hw1]; exact (Below.refl _ w).alloc (Nat.le_refl _) _
 have k1 : w1.heap[w.heap.size]? = some (.cells #[.map (some mb)] 61 (0, 0)) := by rw [← hw1]; exact World.alloc_heap_new w _
 have CS := hid (sortedU_c hN (enters_of Tryz.func101 (by kernel_rfl) rfl) (keysWL_g (n := 2) (by decide) k1 (hU.below b1 hU.lt)))
 have B1 := hid b1
 have CK := hid (keysWL_c (some mb) w)
 rw [hw1] at CK
 clear hU b1 k1 hw1
 go_enter Tryz.func53, Tryz.ntmps53
 go_wp2_with (first
  | (go_at_call 81; refine CK.out.mono ?_; rintro e w' ⟨rfl, rfl⟩)
  | (go_at_call 78; refine CS.out.mono ?_; rintro e w2 ⟨A, c, ss, rfl, hS, hrow, hb⟩))
 go_ret
 exact ⟨A, c, ss, rfl, hS, own_less hrow B1.out.size, B1.out.trans (hb.mono B1.out.size)⟩
theorem riseWK_c {w : World} {mb nn : Nat} {f : Nat → Option Value} (hU : UM w mb nn f) (hN : nn ≤ 1000000) : Calls Tryz.prog 54 #[.map (some mb)] w (RowU (RisN f) w) := by
 obtain ⟨w1, hw1⟩ : ∃ u, w.alloc (.cells #[.map (some mb)] 66) = u := ⟨_, rfl⟩
 have b1 : Below w.heap.size w w1 := by rw [← hw1]; exact (Below.refl _ w).alloc (Nat.le_refl _) _
 have k1 : w1.heap[w.heap.size]? = some (.cells #[.map (some mb)] 66 (0, 0)) := by rw [← hw1]; exact World.alloc_heap_new w _
 have CS := hid (sortedU_c hN (enters_of Tryz.func102 (by kernel_rfl) rfl) (keysWK_g (n := 2) (by decide) k1 (hU.below b1 hU.lt)))
 have B1 := hid b1
 have CK := hid (keysWK_c (some mb) w)
 rw [hw1] at CK
 clear hU b1 k1 hw1
 go_enter Tryz.func54, Tryz.ntmps54
 go_wp2_with (first
  | (go_at_call 82; refine CK.out.mono ?_; rintro e w' ⟨rfl, rfl⟩)
  | (go_at_call 78; refine CS.out.mono ?_; rintro e w2 ⟨A, c, ss, rfl, hS, hrow, hb⟩))
 go_ret
 exact ⟨A, c, ss, rfl, hS, own_less hrow B1.out.size, B1.out.trans (hb.mono B1.out.size)⟩
set_option maxHeartbeats 1000000 in
theorem sameL_c (a b : T9.Li) (w : World) : Calls Tryz.prog 30 #[vL a, vL b] w fun e w' => e = .returned (.bool (decide (a = b))) ∧ Below w.heap.size w w' := by
 show Calls Tryz.prog 30 #[.agg #[.int .u64 (a.id : Int), .string (str a.name)], .agg #[.int .u64 (b.id : Int), .string (str b.name)]] w _
 obtain ⟨w1, hw1⟩ : ∃ u, w.alloc (.cells #[.int .u64 (a.id : Int), .string (str a.name)] 32) = u := ⟨_, rfl⟩
 obtain ⟨pb, b1, z1⟩ := new_two hw1
 obtain ⟨w2, hw2⟩ : ∃ u, w1.alloc (.cells #[.int .u64 (b.id : Int), .string (str b.name)] 32) = u := ⟨_, rfl⟩
 obtain ⟨pb2, b2, z2⟩ := new_two hw2
 have B : Hid (Below w.heap.size w w2) := hid (b1.trans (b2.mono (by omega)))
 have pbb := (b2.block w.heap.size (by omega)).trans pb
 rw [z1] at pb2
 obtain ⟨p0, p1⟩ := two_cells pbb
 obtain ⟨q0, q1⟩ := two_cells pb2
 clear pb b1 pb2 b2 pbb
 go_enter Tryz.func30, Tryz.ntmps30
 go_wp2
 all_goals
  go_ret
  refine ⟨ret_bool ?_, B.out⟩
  rw [Bool.eq_iff_iff]
  simp [T9.Li.ext_iff']
 ·exact ⟨by omega, by assumption⟩
 ·intro _; assumption
 ·intro q; omega
theorem buildSt1 {A : Option Addr} {n c : Nat} (w : World) : (Instr.build 25 #[(1, .slice A n c)]).run Tryz.prog w = .ok (.agg #[.slice none 0 0, .slice A n c]) w := run_build w 25 _ _ (by kernel_rfl)
theorem one_SM {m : MTk} {w : World} {g : Nat} (hm : m.fine w) (hg : w.heap[g]? = some (.cells (encK m).toArray 38 (0, 0))) : SM ⟨[], none, 0, [m], some ⟨g, 0, none⟩, 1⟩ w :=
 ⟨LL.nil, ⟨by
  have := (Lies.of_blk (B := 0) hg).old (t' := 0)
  simpa [tkcells] using this, fun x hx => by rw [List.mem_singleton] at hx; subst hx; exact hm⟩, Nat.le_refl _, Nat.le_refl _⟩
set_option maxHeartbeats 2000000 in
theorem sameK_c {a b : MTk} {w : World} (ha : a.fine w) (hb : b.fine w) (sa : a.t.short ∧ a.t.ok) (sb : b.t.short ∧ b.t.ok) :
  Calls Tryz.prog 32 #[vK a, vK b] w fun e w' => e = .returned (.bool (T9.same1 a.t b.t)) ∧ Below w.heap.size w w' := by
 obtain ⟨ta, A3, c3⟩ := a
 obtain ⟨tb, A4, c4⟩ := b
 show Calls Tryz.prog 32 #[.agg #[.int .u64 (ta.id : Int), .int .u64 (ta.list : Int), .string (str ta.title), .bool ta.done, .float .f64 ta.rank, .float .f64 ta.est, .slice A3 ta.tags.length c3], .agg #[.int .u64 (tb.id : Int), .int .u64 (tb.list : Int), .string (str tb.title), .bool tb.done, .float .f64 tb.rank, .float .f64 tb.est, .slice A4 tb.tags.length c4]] w _
 obtain ⟨w1, hw1⟩ : ∃ u, w.alloc (.cells #[.int .u64 (ta.id : Int), .int .u64 (ta.list : Int), .string (str ta.title), .bool ta.done, .float .f64 ta.rank, .float .f64 ta.est, .slice A3 ta.tags.length c3] 38) = u := ⟨_, rfl⟩
 obtain ⟨pb, b1, z1⟩ := new_seven hw1
 obtain ⟨w2, hw2⟩ : ∃ u, w1.alloc (.cells #[.int .u64 (tb.id : Int), .int .u64 (tb.list : Int), .string (str tb.title), .bool tb.done, .float .f64 tb.rank, .float .f64 tb.est, .slice A4 tb.tags.length c4] 38) = u := ⟨_, rfl⟩
 obtain ⟨pb2, b2, z2⟩ := new_seven hw2
 obtain ⟨w3, hw3⟩ : ∃ u, w2.alloc (.cells #[.int .u64 (ta.id : Int), .int .u64 (ta.list : Int), .string (str ta.title), .bool ta.done, .float .f64 ta.rank, .float .f64 ta.est, .slice A3 ta.tags.length c3] 38) = u := ⟨_, rfl⟩
 obtain ⟨pb3, b3, z3⟩ := new_seven hw3
 obtain ⟨w4, hw4⟩ : ∃ u, w3.alloc (.cells #[.int .u64 (tb.id : Int), .int .u64 (tb.list : Int), .string (str tb.title), .bool tb.done, .float .f64 tb.rank, .float .f64 tb.est, .slice A4 tb.tags.length c4] 38) = u := ⟨_, rfl⟩
 obtain ⟨pb4, b4, z4⟩ := new_seven hw4
 have y2 : w2.heap.size = w.heap.size + 2 := by omega
 have y3 : w3.heap.size = w.heap.size + 3 := by omega
 have y4 : w4.heap.size = w.heap.size + 4 := by omega
 clear z2 z3 z4
 rw [y3] at pb4
 rw [y2] at pb3
 rw [z1] at pb2
 have B4 : Hid (Below w.heap.size w w4) := hid (((b1.trans (b2.mono (by omega))).trans (b3.mono (by omega))).trans (b4.mono (by omega)))
 have pbb := (b2.block w.heap.size (by omega)).trans pb
 have pbc := (b3.block (w.heap.size + 1) (by omega)).trans pb2
 obtain ⟨p0, p1, p2, p3, p4, p5, p6⟩ := seven_cells pbb
 obtain ⟨q0, q1, q2, q3, q4, q5, q6⟩ := seven_cells pbc
 have SA : SM ⟨[], none, 0, [(⟨ta, A3, c3⟩ : MTk)], some ⟨w.heap.size + 2, 0, none⟩, 1⟩ w4 := one_SM (ha.stay B4.out) ((b4.block (w.heap.size + 2) (by omega)).trans pb3)
 have SB : SM ⟨[], none, 0, [(⟨tb, A4, c4⟩ : MTk)], some ⟨w.heap.size + 3, 0, none⟩, 1⟩ w4 := one_SM (hb.stay B4.out) pb4
 have ST : ∀ {t : T9.Tk}, t.short → (⟨[], [t]⟩ : T9.St).short := fun {t} h => ⟨by simp, fun x hx => by rw [List.mem_singleton] at hx; subst hx; exact h, by simp, by simp⟩
 have SO : ∀ {t : T9.Tk}, t.ok → (⟨[], [t]⟩ : T9.St).ok := fun {t} h => ⟨by simp, fun x hx => by rw [List.mem_singleton] at hx; subst hx; exact h⟩
 have CS := hid (sameSt_c SA SB (ST sa.1) (ST sb.1) (SO sa.2) (SO sb.2))
 unfold MSt.val at CS
 have g1 := @buildSt1 (some ⟨w.heap.size + 2, 0, none⟩) 1 1
 have g2 := @buildSt1 (some ⟨w.heap.size + 3, 0, none⟩) 1 1
 have R : Hid (T9.same ⟨[], [ta]⟩ ⟨[], [tb]⟩ = T9.same1 ta tb) := hid (by simp [T9.same, T9.sameT])
 clear ha hb sa sb pb b1 pb2 b2 pb3 b3 pb4 b4 pbb pbc SA SB ST SO
 go_enter Tryz.func32, Tryz.ntmps32
 go_wp2_with (go_at_call 55; refine CS.out.mono ?_; rintro e w5 ⟨rfl, h5⟩)
 go_ret
 exact ⟨ret_bool R.out, B4.out.trans (h5.mono B4.out.size)⟩
end
end
end Go.Proofs.YtnhpkcphgdkdiaaGreat
