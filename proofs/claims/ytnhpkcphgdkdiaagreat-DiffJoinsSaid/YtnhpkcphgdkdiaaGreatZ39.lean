import Derived.Test.YtnhpkcphgdkdiaaGreatZ38
namespace Go.Proofs.YtnhpkcphgdkdiaaGreat
set_option linter.unusedSimpArgs false
set_option maxRecDepth 100000
section
set_option linter.unusedSimpArgs false
section
open Go.RowKit Go.Lib Go.Shelf
def PDt.size (p : PDt) : Nat := p.ls.length + p.ms.length + p.gl.length + p.gk.length
set_option maxHeartbeats 1000000 in
theorem size12_c {p : PDt} {w : World} (h1 : p.ls.length ≤ 1000) (h2 : p.ms.length ≤ 1000) (h3 : p.gl.length ≤ 1000) (h4 : p.gk.length ≤ 1000) :
  Calls Tryz.prog 13 #[.agg p.cells] w fun e w' => e = .returned (.int .i64 (p.size : Int)) ∧ Below w.heap.size w w' := by
 obtain ⟨ls, A, c, ms, A2, c2, gl, A3, c3, gk, A4, c4⟩ := p
 dsimp only at h1 h2 h3 h4
 obtain ⟨n1, e1⟩ : ∃ n, ls.length = n := ⟨_, rfl⟩
 obtain ⟨n2, e2⟩ : ∃ n, ms.length = n := ⟨_, rfl⟩
 obtain ⟨n3, e3⟩ : ∃ n, gl.length = n := ⟨_, rfl⟩
 obtain ⟨n4, e4⟩ : ∃ n, gk.length = n := ⟨_, rfl⟩
 have ES : Hid ((⟨ls, A, c, ms, A2, c2, gl, A3, c3, gk, A4, c4⟩ : PDt).size = n1 + n2 + n3 + n4) := hid (by unfold PDt.size; rw [e1, e2, e3, e4])
 rw [e1] at h1
 rw [e2] at h2
 rw [e3] at h3
 rw [e4] at h4
 unfold PDt.cells
 rw [e1, e2, e3, e4]
 clear e1 e2 e3 e4
 obtain ⟨w1, hw1⟩ : ∃ u, w.alloc (.cells #[.slice A n1 c, .slice A2 n2 c2, .slice A3 n3 c3, .slice A4 n4 c4] 45) = u := ⟨_, rfl⟩
 have pb : w1.heap[w.heap.size]? = some (.cells #[.slice A n1 c, .slice A2 n2 c2, .slice A3 n3 c3, .slice A4 n4 c4] 45 (0, 0)) := by rw [← hw1]; exact World.alloc_heap_new w _
 have b1 : Below w.heap.size w w1 := by rw [← hw1]; exact (Below.refl _ _).alloc (Nat.le_refl _) _
 obtain ⟨p0, p1, p2, p3⟩ := four12 pb
 clear pb
 go_enter Tryz.func13, Tryz.ntmps13
 go_wp2
 go_ret
 exact ⟨by rw [ES.out]; go_num, b1⟩
theorem bl12a (w : World) : (Instr.build 32 #[(0, .int .u64 1), (1, .string ⟨#[108]⟩)]).run Tryz.prog w = .ok (.agg #[.int .u64 1, .string ⟨#[108]⟩]) w := run_build w 32 _ _ (by kernel_rfl)
theorem bl12b (w : World) : (Instr.build 38 #[(0, .int .u64 1), (1, .int .u64 1), (2, .string ⟨#[97]⟩)]).run Tryz.prog w = .ok (.agg #[.int .u64 1, .int .u64 1, .string ⟨#[97]⟩, .bool false, .float .f64 0, .float .f64 0, .slice none 0 0]) w := run_build w 38 _ _ (by kernel_rfl)
theorem bl12c (A : Option Addr) (n c : Nat) (w : World) : (Instr.build 25 #[(0, .slice A n c)]).run Tryz.prog w = .ok (.agg #[.slice A n c, .slice none 0 0]) w := run_build w 25 _ _ (by kernel_rfl)
theorem bl12d (A A2 : Option Addr) (n c n2 c2 : Nat) (w : World) : (Instr.build 25 #[(0, .slice A n c), (1, .slice A2 n2 c2)]).run Tryz.prog w = .ok (.agg #[.slice A n c, .slice A2 n2 c2]) w := run_build w 25 _ _ (by kernel_rfl)
theorem bs12a (w : World) : (Instr.buildSlice 22 1 #[(0, .agg #[.int .u64 1, .string ⟨#[108]⟩])]).run Tryz.prog w = .ok (.slice (some ⟨w.heap.size, 0, none⟩) 1 1) (w.alloc (.cells #[.int .u64 1, .string ⟨#[108]⟩] 32)) := buildSlL9 ⟨1, [108]⟩ w
theorem bs12b (w : World) : (Instr.buildSlice 23 1 #[(0, .agg #[.int .u64 1, .int .u64 1, .string ⟨#[97]⟩, .bool false, .float .f64 0, .float .f64 0, .slice none 0 0])]).run Tryz.prog w = .ok (.slice (some ⟨w.heap.size, 0, none⟩) 1 1) (w.alloc (.cells #[.int .u64 1, .int .u64 1, .string ⟨#[97]⟩, .bool false, .float .f64 0, .float .f64 0, .slice none 0 0] 38)) := buildSlK9 ⟨⟨1, 1, [97], false, 0, 0, []⟩, none, 0⟩ w
def aw12a : T9.St := ⟨[⟨1, [108]⟩], []⟩
def aw12b : T9.St := ⟨[⟨1, [108]⟩], [⟨1, 1, [97], false, 0, 0, []⟩]⟩
theorem aw12_len : (newL (T9.canon aw12a) (T9.canon aw12b)).length = 0 ∧ (newK (T9.canon aw12a) (T9.canon aw12b)).length = 1 ∧ (goneL (T9.canon aw12a) (T9.canon aw12b)).length = 0 ∧ (goneK (T9.canon aw12a) (T9.canon aw12b)).length = 0 := by decide +kernel
set_option maxHeartbeats 2000000 in
theorem awake12_c (w : World) : Calls Tryz.prog 4 #[] w fun e w' => e = .returned (.bool true) ∧ Below w.heap.size w w' := by
 obtain ⟨w1, hw1⟩ : ∃ u, w.alloc (.cells #[.int .u64 1, .string ⟨#[108]⟩] 32) = u := ⟨_, rfl⟩
 obtain ⟨p1, b1, z1⟩ := new_two hw1
 obtain ⟨w2, hw2⟩ : ∃ u, w1.alloc (.cells #[.slice (some ⟨w.heap.size, 0, none⟩) 1 1, .slice none 0 0] 25) = u := ⟨_, rfl⟩
 obtain ⟨p2a, b2a, z2a⟩ := new_two hw2
 obtain ⟨w5, hw5⟩ : ∃ u, w2.setCell ⟨w.heap.size + 1, 1, none⟩ (.slice none 0 0) = u := ⟨_, rfl⟩
 rw [z1] at p2a
 have z2 : w5.heap.size = w1.heap.size + 1 := by rw [← hw5]; simp; omega
 have p2 : w5.heap[w.heap.size + 1]? = some (.cells #[.slice (some ⟨w.heap.size, 0, none⟩) 1 1, .slice none 0 0] 25 (0, 0)) := by rw [← hw5]; exact (blk_set p2a 1 _).trans rfl
 have b2 : Below w1.heap.size w1 w5 := by rw [← hw5]; exact b2a.setCell (p := ⟨w.heap.size + 1, 1, none⟩) (by rw [z1]; exact Nat.le_refl _) _
 have fz := blk_free p2a 1
 obtain ⟨c0, c1⟩ := two_cells p2a
 obtain ⟨w3, hw3⟩ : ∃ u, w5.alloc (.cells #[.int .u64 1, .int .u64 1, .string ⟨#[97]⟩, .bool false, .float .f64 0, .float .f64 0, .slice none 0 0] 38) = u := ⟨_, rfl⟩
 obtain ⟨p3, b3, z3⟩ := new_seven hw3
 obtain ⟨w4, hw4⟩ : ∃ u, w3.alloc (.cells #[.slice (some ⟨w.heap.size, 0, none⟩) 1 1, .slice (some ⟨w.heap.size + 2, 0, none⟩) 1 1] 25) = u := ⟨_, rfl⟩
 obtain ⟨p4, b4, z4⟩ := new_two hw4
 have y2 : w5.heap.size = w.heap.size + 2 := by omega
 have y3 : w3.heap.size = w.heap.size + 3 := by omega
 clear z2 z3 z4 z2a p2a b2a
 rw [y2] at p3
 rw [y3] at p4
 have B4 : Hid (Below w.heap.size w w4) := hid (((b1.trans (b2.mono (by omega))).trans (b3.mono (by omega))).trans (b4.mono (by omega)))
 have l4 := (b4.block w.heap.size (by omega)).trans ((b3.block w.heap.size (by omega)).trans ((b2.block w.heap.size (by omega)).trans p1))
 have k4 := (b4.block (w.heap.size + 2) (by omega)).trans p3
 have s4 := (b4.block (w.heap.size + 1) (by omega)).trans ((b3.block (w.heap.size + 1) (by omega)).trans p2)
 have s2 := p2
 have LL4 : LL w4 (some ⟨w.heap.size, 0, none⟩) [⟨1, [108]⟩] := (Lies.of_blk (B := 0) l4).old
 have KL4 : KL w4 (some ⟨w.heap.size + 2, 0, none⟩) [⟨⟨1, 1, [97], false, 0, 0, []⟩, none, 0⟩] := ⟨(Lies.of_blk (B := 0) k4).old, fun m hm => by
  simp only [List.mem_cons, List.not_mem_nil, or_false] at hm
  subst hm
  exact ⟨Lies.nil, Nat.le_refl _⟩⟩
 have lt : aw12b.light := ⟨by decide, by decide, by decide, by decide, by decide, by decide⟩
 have la : aw12a.light := ⟨by decide, by decide, by decide, by decide, by decide, by decide⟩
 have ot : aw12b.ok := ⟨fun l hl => by simp [aw12b] at hl; subst hl; show (1 : Nat) < _; decide, fun t ht => by simp [aw12b] at ht; subst ht; exact ⟨by decide, by decide, by decide, by decide⟩⟩
 have oa : aw12a.ok := ⟨fun l hl => by simp [aw12a] at hl; subst hl; show (1 : Nat) < _; decide, fun t ht => by simp [aw12a] at ht⟩
 have CO : Hid (Calls Tryz.prog 11 #[.agg #[.slice (some ⟨w.heap.size, 0, none⟩) 1 1, .slice none 0 0], .agg #[.slice (some ⟨w.heap.size, 0, none⟩) 1 1, .slice (some ⟨w.heap.size + 2, 0, none⟩) 1 1]] w4 (OfOk (T9.canon aw12a) (T9.canon aw12b) w4)) := hid (of12_c (a := ⟨[⟨1, [108]⟩], some ⟨w.heap.size, 0, none⟩, 1, [], none, 0⟩) (b := ⟨[⟨1, [108]⟩], some ⟨w.heap.size, 0, none⟩, 1, [⟨⟨1, 1, [97], false, 0, 0, []⟩, none, 0⟩], some ⟨w.heap.size + 2, 0, none⟩, 1⟩) ⟨LL4, KL.nil, Nat.le_refl _, Nat.le_refl _⟩ ⟨LL4, KL4, Nat.le_refl _, Nat.le_refl _⟩ la lt oa ot)
 have CZ : Hid (∀ (p : PDt) (w5 : World), p.ls = newL (T9.canon aw12a) (T9.canon aw12b) → tks p.ms = newK (T9.canon aw12a) (T9.canon aw12b) → p.gl = goneL (T9.canon aw12a) (T9.canon aw12b) → p.gk = goneK (T9.canon aw12a) (T9.canon aw12b) → Calls Tryz.prog 13 #[.agg p.cells] w5 fun e w' => e = .returned (.int .i64 1) ∧ Below w5.heap.size w5 w') := hid (by
  intro p w5 h1 h2 h3 h4
  obtain ⟨n1, n2, n3, n4⟩ := aw12_len
  rw [← h1] at n1
  rw [← h2, tks_len] at n2
  rw [← h3] at n3
  rw [← h4] at n4
  have q := size12_c (p := p) (w := w5) (by omega) (by omega) (by omega) (by omega)
  have ES : p.size = 1 := by unfold PDt.size; omega
  rw [ES] at q
  exact q)
 obtain ⟨x0, x1⟩ := two_cells s4
 obtain ⟨v0, v1⟩ := two_cells s2
 obtain ⟨q0, q1⟩ := two_cells p4
 have g1 := bl12a
 have g2 := bl12b
 have g3 := bl12c
 have g4 := bl12d
 have g5 := bs12a
 have g6 := bs12b
 clear p1 b1 p2 b2 p3 b3 p4 b4 l4 k4 s4 s2 LL4 KL4 lt la ot oa
 go_enter Tryz.func4, Tryz.ntmps4
 go_wp2_with (first
  | (go_at_call 11; go_loud (refine CO.out.mono ?_; rintro e w7 ⟨p, rfl, hp, h1, h2, h3, h4, h5⟩; have CZ2 := hid (CZ.out p w7 h1 h2 h3 h4); have H5 := hid h5; clear h1 h2 h3 h4 h5 hp))
  | (go_at_call 13; refine CZ2.out.mono ?_; rintro e w6 ⟨rfl, h6⟩))
 go_ret
 exact ⟨rfl, B4.out.trans ((H5.out.trans (h6.mono H5.out.size)).mono B4.out.size)⟩
end
end
end Go.Proofs.YtnhpkcphgdkdiaaGreat
