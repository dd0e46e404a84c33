/- Stage 13: the example; Light of a query; Begin of nothing. -/
import Derived.Test.YtnhpkcphgdkdiaaGj
import Derived.Test.YtnhpkcphgdkdiaaTas
import Derived.Test.YtnhpkcphgdkdiaaTaf
import Derived.Test.YtnhpkcphgdkdiaaKh
namespace Go.Proofs.Ytnhpkcphgdkdiaa
set_option maxRecDepth 100000
set_option linter.unusedSimpArgs false
section
open Go.RowKit Go.Lib Go.Shelf Go.Sort
theorem str_size13 (t : List UInt8) : (str t).size = t.length := by simp [str, ByteArray.size]
theorem lightQ_c (q : T9.Qr) (w : World) : Calls Try.prog 7 #[.agg (qcells q)] w fun e w' => e = .returned (.bool (decide (q.tag.length ≤ 100))) ∧ Below w.heap.size w w' := by
  obtain ⟨ql, qd, qt, qs, qw, qm⟩ := q
  unfold qcells
  dsimp only
  obtain ⟨w1, hw1⟩ : ∃ u, w.alloc (.cells #[.int .u64 (ql : Int), .int .i64 qd, .string (str qt), .int .i64 qs, .bool qw, .int .i64 qm] 28) = u := ⟨_, rfl⟩
  obtain ⟨pb, b1, z1⟩ := new_six13 hw1
  obtain ⟨p0, p1, p2, p3, p4, p5⟩ := six_cells13 pb
  have B1 := Lib.hid b1
  clear pb b1 z1
  by_cases h : qt.length ≤ 100
  · have hz : (qt.length : Int) ≤ 100 := by omega
    have H := Lib.hid h
    clear h
    go_enter Try.func7, Try.ntmps7
    go_wp2
    go_ret
    exact ⟨ret_bool (by
      have h := H.out
      rw [decide_eq_true h]
      exact decide_eq_true (by show ((str qt).size : Int) ≤ 100; rw [str_size13]; omega)), B1.out⟩
  · have hz : ¬ (qt.length : Int) ≤ 100 := by omega
    have H := Lib.hid h
    clear h
    go_enter Try.func7, Try.ntmps7
    go_wp2
    go_ret
    exact ⟨ret_bool (by
      have h := H.out
      rw [decide_eq_false h]
      exact decide_eq_false (by show ¬ ((str qt).size : Int) ≤ 100; rw [str_size13]; omega)), B1.out⟩
theorem light0_13 : T9.St.light ⟨[], []⟩ := ⟨by simp, by simp, by simp, by simp, by simp, by simp⟩
set_option maxRecDepth 100000 in
set_option maxHeartbeats 4000000 in
theorem begin13_c (w : World) : Calls Try.prog 13 #[.agg #[.slice none 0 0, .slice none 0 0]] w fun e w' => ∃ A c A2 c2, e = .returned (.agg #[.slice A 0 c, .slice A2 0 c2]) ∧ Below w.heap.size w w' := by
  obtain ⟨w0, hw0⟩ : ∃ u, w.alloc (.cells #[.slice none 0 0, .slice none 0 0] 25) = u := ⟨_, rfl⟩
  obtain ⟨lb, b1, z1⟩ := new_two hw0
  obtain ⟨w1, hw1⟩ : ∃ u, w0.alloc (.cells #[.slice none 0 0, .slice none 0 0] 25) = u := ⟨_, rfl⟩
  obtain ⟨rb, b2, z2⟩ := new_two hw1
  rw [z1] at rb
  have B1 : Hid (Below w.heap.size w w1) := Lib.hid (b1.trans (b2.mono (by omega)))
  have LB := Lib.hid (blk_keep lb b2)
  have RB := Lib.hid rb
  have CC : Hid (Calls Try.prog 30 #[.agg #[.slice none 0 0, .slice none 0 0]] w1 fun e w' => (∃ A c A2 c2, e = .returned (.agg #[.slice A 0 c, .slice A2 0 c2])) ∧ Below w1.heap.size w1 w') := Lib.hid ((canonRT_c (c1 := 0) (c2 := 0) (LL.nil : LL w1 none []) (KL.nil : KL w1 none []) (n1 := 0) (n2 := 0) rfl rfl (by decide) (by decide) (by simp)).mono fun e w' h => by
    obtain ⟨⟨ls, A, c, ms, A2, c2⟩, rfl, hst, _, _, _, _, _, _, _, hb2⟩ := h
    have e1 : ls = [] := congrArg T9.St.lists hst
    have e2 : ms = [] := by
      have : tks ms = [] := congrArg T9.St.tasks hst
      exact List.map_eq_nil_iff.1 this
    subst e1
    subst e2
    exact ⟨⟨A, c, A2, c2, rfl⟩, hb2⟩)
  obtain ⟨l0, l1⟩ := two_cells LB.out
  clear lb b1 rb b2 z2
  go_enter Try.func13, Try.ntmps13
  go_upto_region 2 with (go_at_call 30; refine CC.out.mono ?_; rintro e w2 ⟨⟨A, c, A2, c2, rfl⟩, hb2⟩; have lb2 := blk_keep LB.out hb2; have LB2 := Lib.hid lb2; have RB2 := Lib.hid (blk_keep RB.out hb2); have HB2 := Lib.hid hb2; have f0 := blk_free lb2 0; have f1 := blk_free lb2 1; obtain ⟨l0, l1⟩ := two_cells lb2; clear hb2 lb2)
  obtain ⟨w3, hw3⟩ : ∃ u, (w2.setCell ⟨w.heap.size, 0, none⟩ (.slice A 0 c)).setCell ⟨w.heap.size, 1, none⟩ (.slice A2 0 c2) = u := ⟨_, rfl⟩
  try rw [hw3]
  have LB3 : Hid (w3.heap[w.heap.size]? = some (.cells #[.slice A 0 c, .slice A2 0 c2] 25 (0, 0))) := Lib.hid (by rw [← hw3]; exact blk_set (blk_set LB2.out 0 _) 1 _)
  have RB3 : Hid (w3.heap[w.heap.size + 1]? = some (.cells #[.slice none 0 0, .slice none 0 0] 25 (0, 0))) := Lib.hid (by rw [← hw3]; exact blk_far (blk_far RB2.out (by simp) _) (by simp) _)
  have B3 : Hid (Below w.heap.size w w3) := Lib.hid (by
    rw [← hw3]
    exact ((B1.out.trans (HB2.out.mono B1.out.size)).setCell (Nat.le_refl _) _).setCell (Nat.le_refl _) _)
  clear hw3 f0 f1 l0 l1
  obtain ⟨l0, l1⟩ := two_cells LB3.out
  have CR := Lib.hid (refRight_c (c := c) (c2 := c2) (LL.nil : LL w3 A []) (KL.nil : KL w3 A2 []) (n1 := 0) (n2 := 0) rfl rfl light0_13.short)
  rw [show T9.rightE ⟨[], tks []⟩ = 0 from by decide +kernel] at CR
  go_upto_region 4 with (go_at_call 31; refine CR.out.mono ?_; rintro e w4 ⟨rfl, hb4⟩; have HB4 := Lib.hid hb4; obtain ⟨l0, l1⟩ := two_cells (blk_keep LB3.out hb4); have rb4 := blk_keep RB3.out hb4; have RB4 := Lib.hid rb4; have f0 := blk_free rb4 0; have f1 := blk_free rb4 1; obtain ⟨r0, r1⟩ := two_cells rb4; clear hb4 rb4)
  obtain ⟨w5, hw5⟩ : ∃ u, (w4.setCell ⟨w.heap.size + 1, 0, none⟩ (.slice A 0 c)).setCell ⟨w.heap.size + 1, 1, none⟩ (.slice A2 0 c2) = u := ⟨_, rfl⟩
  have RB5 : w5.heap[w.heap.size + 1]? = some (.cells #[.slice A 0 c, .slice A2 0 c2] 25 (0, 0)) := by rw [← hw5]; exact blk_set (blk_set RB4.out 0 _) 1 _
  have B5 : Hid (Below w.heap.size w w5) := Lib.hid (by
    rw [← hw5]
    exact ((B3.out.trans (HB4.out.mono B3.out.size)).setCell (by simp) _).setCell (by simp) _)
  obtain ⟨k0, k1⟩ := two_cells RB5
  clear RB5
  go_wp2
  try rw [hw5]
  refine bodyPost_ret (v := .agg #[.slice A 0 c, .slice A2 0 c2]) (by simp [results, Try.results13, go_sem, k0, k1]) rfl ?_
  exact ⟨A, c, A2, c2, rfl, B5.out⟩
def ka13 : MTk := ⟨⟨1, 1, [97], false, 0, 4607182418800017408, []⟩, none, 0⟩
def kb13 : MTk := ⟨⟨2, 1, [98], false, 0, 4611686018427387904, []⟩, none, 0⟩
def q0_13 : T9.Qr := ⟨0, 0, [], 0, false, 0⟩
def q7_13 : T9.Qr := ⟨7, 0, [], 0, false, 0⟩
theorem aw13 : T9.wrongE [⟨1, [108]⟩] q0_13 = 0 ∧ T9.wrongE [] q7_13 = 91 ∧ known13 ((tks [ka13, kb13]).filter (T9.holds q0_13)) = 2 ∧ Fl.canonO (Fl.sumO (fun j => (((tks [ka13, kb13]).filter (T9.holds q0_13)).map (·.est)).getD j 0) ((tks [ka13, kb13]).filter (T9.holds q0_13)).length) = 4613937818241073152 := by decide +kernel
theorem blS13 (w : World) : (Instr.build 25 #[]).run Try.prog w = .ok (.agg #[.slice none 0 0, .slice none 0 0]) w := run_build w 25 _ _ (by kernel_rfl)
theorem blS2_13 (A A2 : Option Addr) (n c n2 c2 : Nat) (w : World) : (Instr.build 25 #[(0, .slice A n c), (1, .slice A2 n2 c2)]).run Try.prog w = .ok (.agg #[.slice A n c, .slice A2 n2 c2]) w := run_build w 25 _ _ (by kernel_rfl)
theorem blL13 (w : World) : (Instr.build 49 #[(0, .int .u64 1), (1, .string ⟨#[108]⟩)]).run Try.prog w = .ok (.agg #[.int .u64 1, .string ⟨#[108]⟩]) w := run_build w 49 _ _ (by kernel_rfl)
theorem blKa13 (w : World) : (Instr.build 32 #[(0, .int .u64 1), (1, .int .u64 1), (2, .string ⟨#[97]⟩), (5, .float .f64 4607182418800017408)]).run Try.prog w = .ok (.agg #[.int .u64 1, .int .u64 1, .string ⟨#[97]⟩, .bool false, .float .f64 0, .float .f64 4607182418800017408, .slice none 0 0]) w := run_build w 32 _ _ (by kernel_rfl)
theorem blKb13 (w : World) : (Instr.build 32 #[(0, .int .u64 2), (1, .int .u64 1), (2, .string ⟨#[98]⟩), (5, .float .f64 4611686018427387904)]).run Try.prog w = .ok (.agg #[.int .u64 2, .int .u64 1, .string ⟨#[98]⟩, .bool false, .float .f64 0, .float .f64 4611686018427387904, .slice none 0 0]) w := run_build w 32 _ _ (by kernel_rfl)
theorem blSlL13 (w : World) : (Instr.buildSlice 22 1 #[(0, .agg #[.int .u64 1, .string ⟨#[108]⟩])]).run Try.prog w = .ok (.slice (some ⟨w.heap.size, 0, none⟩) 1 1) (w.alloc (.cells #[.int .u64 1, .string ⟨#[108]⟩] 49)) := by
  obtain ⟨i0, hi, hz0, hz1, hz2⟩ := info_parts Try.infoLi9
  exact run_buildSlice_one w 22 49 #[.int .u64 1, .string ⟨#[108]⟩] i0 _ Try.underlying22 hi hz0 hz1 (by decide) (by decide)
theorem blSlT13 (w : World) : (Instr.buildSlice 23 2 #[(0, .agg #[.int .u64 1, .int .u64 1, .string ⟨#[97]⟩, .bool false, .float .f64 0, .float .f64 4607182418800017408, .slice none 0 0]), (1, .agg #[.int .u64 2, .int .u64 1, .string ⟨#[98]⟩, .bool false, .float .f64 0, .float .f64 4611686018427387904, .slice none 0 0])]).run Try.prog w = .ok (.slice (some ⟨w.heap.size, 0, none⟩) 2 2) (w.alloc (.cells (tkcells [ka13, kb13]).toArray 32)) := by
  obtain ⟨i0, hi, hz0, hz1, hz2⟩ := info_parts Try.infoTk9
  exact run_buildSlice_two w 23 32 (encK ka13).toArray (encK kb13).toArray i0 _ Try.underlying23 hi hz0 hz1 hz1 (by show 0 < 7; omega) (by show 7 ≤ _; omega)
theorem blQ0 (w : World) : (Instr.build 28 #[]).run Try.prog w = .ok (.agg #[.int .u64 0, .int .i64 0, .string ⟨#[]⟩, .int .i64 0, .bool false, .int .i64 0]) w := run_build w 28 _ _ (by kernel_rfl)
theorem blQ7 (w : World) : (Instr.build 28 #[(0, .int .u64 7)]).run Try.prog w = .ok (.agg #[.int .u64 7, .int .i64 0, .string ⟨#[]⟩, .int .i64 0, .bool false, .int .i64 0]) w := run_build w 28 _ _ (by kernel_rfl)
theorem eq3_13 : Fl.eqB 4613937818241073152 4613937818241073152 = true := by decide +kernel
set_option maxRecDepth 100000 in
set_option maxHeartbeats 1000000 in
theorem awake13_c (w : World) : Calls Try.prog 5 #[] w fun e w' => e = .returned (.bool true) ∧ Below w.heap.size w w' := by
  have hb0 := blS13
  have hb1 := blS2_13
  have hb2 := blL13
  have hb3 := blKa13
  have hb4 := blKb13
  have hb5 := blSlL13
  have hb6 : ∀ w : World, (Instr.buildSlice 23 2 #[(0, .agg #[.int .u64 1, .int .u64 1, .string ⟨#[97]⟩, .bool false, .float .f64 0, .float .f64 4607182418800017408, .slice none 0 0]), (1, .agg #[.int .u64 2, .int .u64 1, .string ⟨#[98]⟩, .bool false, .float .f64 0, .float .f64 4611686018427387904, .slice none 0 0])]).run Try.prog w = .ok (.slice (some ⟨w.heap.size, 0, none⟩) 2 2) (w.alloc (.cells #[.int .u64 1, .int .u64 1, .string ⟨#[97]⟩, .bool false, .float .f64 0, .float .f64 4607182418800017408, .slice none 0 0, .int .u64 2, .int .u64 1, .string ⟨#[98]⟩, .bool false, .float .f64 0, .float .f64 4611686018427387904, .slice none 0 0] 32)) := blSlT13
  have hb7 := blQ0
  have hb8 := blQ7
  have BG := Lib.hid (begin13_c w)
  go_enter Try.func5, Try.ntmps5
  go_wp2_with fail
  refine BG.out.mono ?_
  rintro e wa ⟨A, c, A2, c2, rfl, ha⟩
  have BA := Lib.hid ha
  obtain ⟨w0, hw0⟩ : ∃ u, wa.alloc (.cells #[.slice A 0 c, .slice A2 0 c2] 25) = u := ⟨_, rfl⟩
  obtain ⟨ab, b0, z0⟩ := new_two hw0
  obtain ⟨w1, hw1⟩ : ∃ u, w0.alloc (.cells #[.int .u64 1, .string ⟨#[108]⟩] 49) = u := ⟨_, rfl⟩
  obtain ⟨lb, b1, z1⟩ := new_two hw1
  rw [z0] at lb z1
  obtain ⟨w2, hw2⟩ : ∃ u, w1.alloc (.cells #[.int .u64 1, .int .u64 1, .string ⟨#[97]⟩, .bool false, .float .f64 0, .float .f64 4607182418800017408, .slice none 0 0, .int .u64 2, .int .u64 1, .string ⟨#[98]⟩, .bool false, .float .f64 0, .float .f64 4611686018427387904, .slice none 0 0] 32) = u := ⟨_, rfl⟩
  have tb : w2.heap[wa.heap.size + 1 + 1]? = some (.cells #[.int .u64 1, .int .u64 1, .string ⟨#[97]⟩, .bool false, .float .f64 0, .float .f64 4607182418800017408, .slice none 0 0, .int .u64 2, .int .u64 1, .string ⟨#[98]⟩, .bool false, .float .f64 0, .float .f64 4611686018427387904, .slice none 0 0] 32 (0, 0)) := by rw [← hw2, ← z1]; exact heap_alloc_new w1 _
  have b2 : Below w1.heap.size w1 w2 := by rw [← hw2]; exact (Below.refl _ w1).alloc (Nat.le_refl _) _
  have z2 : w2.heap.size = w1.heap.size + 1 := by rw [← hw2]; simp
  obtain ⟨w3, hw3⟩ : ∃ u, w2.alloc (.cells #[.slice (some ⟨wa.heap.size + 1, 0, none⟩) 1 1, .slice (some ⟨wa.heap.size + 1 + 1, 0, none⟩) 2 2] 25) = u := ⟨_, rfl⟩
  obtain ⟨sb, b3, z3⟩ := new_two hw3
  rw [z1] at z2
  rw [z2] at sb z3
  have B3 : Hid (Below wa.heap.size wa w3) := Lib.hid (((b0.trans (b1.mono (by omega))).trans (b2.mono (by omega))).trans (b3.mono (by omega)))
  have AB3 := Lib.hid (blk_keep (blk_keep (blk_keep ab b1) b2) b3)
  have SB3 := Lib.hid sb
  have hl : LL w3 (some ⟨wa.heap.size + 1, 0, none⟩) [⟨1, [108]⟩] := (Lies.of_blk (B := 0) (blk_keep (blk_keep lb b2) b3)).old
  have hk : KL w3 (some ⟨wa.heap.size + 1 + 1, 0, none⟩) [ka13, kb13] := by
    refine ⟨(Lies.of_blk (B := 0) (blk_keep tb b3)).old, fun m hm => ?_⟩
    simp only [List.mem_cons, List.not_mem_nil, or_false] at hm
    rcases hm with rfl | rfl
    · exact ⟨Lies.nil, Nat.le_refl _⟩
    · exact ⟨Lies.nil, Nat.le_refl _⟩
  have CS := sums13_c (c := 1) (c2 := 2) (q := q0_13) hl hk (n1 := 1) (n2 := 2) rfl rfl (by decide) (by decide) (fun m hm => by
    simp only [List.mem_cons, List.not_mem_nil, or_false] at hm
    rcases hm with rfl | rfl <;> decide) (fun m hm => by
    simp only [List.mem_cons, List.not_mem_nil, or_false] at hm
    rcases hm with rfl | rfl <;> decide)
  have CS1 : Hid (Calls Try.prog 12 #[.agg #[.slice (some ⟨wa.heap.size + 1, 0, none⟩) 1 1, .slice (some ⟨wa.heap.size + 1 + 1, 0, none⟩) 2 2], .agg #[.int .u64 0, .int .i64 0, .string ⟨#[]⟩, .int .i64 0, .bool false, .int .i64 0]] w3 fun e w' => (∃ (a b l m : Nat), e = .returned (.tuple #[.agg #[.int .i64 (a : Int), .int .i64 (b : Int), .int .i64 2, .float .f64 4613937818241073152, .float .f64 l, .float .f64 m], .int .i64 0])) ∧ Below w3.heap.size w3 w') := Lib.hid (CS.mono fun e w' h => by
    obtain ⟨h1, h2⟩ := h
    refine ⟨?_, h2⟩
    rcases h1 with ⟨q, _⟩ | ⟨_, l, m, e1⟩
    · exact absurd aw13.1 q
    · rw [aw13.2.2.1, aw13.2.2.2] at e1
      exact ⟨_, _, l, m, e1⟩)
  have CR := fun (u : World) => run13_c (w := u) (A := A) (A2 := A2) (c := c) (c2 := c2) (q := q7_13) (LL.nil : LL u A []) (KL.nil : KL u A2 []) (n1 := 0) (n2 := 0) rfl rfl (by decide) (by decide) (by simp) (by simp)
  have CR1 : Hid (∀ u : World, Calls Try.prog 10 #[.agg #[.slice A 0 c, .slice A2 0 c2], .agg #[.int .u64 7, .int .i64 0, .string ⟨#[]⟩, .int .i64 0, .bool false, .int .i64 0]] u fun e w' => e = .returned (.tuple #[.slice none 0 0, .int .i64 91]) ∧ Below u.heap.size u w') := Lib.hid (fun u => (CR u).mono fun e w' h => by
    obtain ⟨h1, h2⟩ := h
    refine ⟨?_, h2⟩
    rcases h1 with ⟨_, q⟩ | ⟨q, _⟩
    · rw [aw13.2.1] at q
      exact q
    · rw [aw13.2.1] at q
      cases q)
  have e3 := eq3_13
  clear ha ab b0 lb b1 tb b2 b3 sb hl hk CS CR
  obtain ⟨s0, s1⟩ := two_cells SB3.out
  go_wp2_with fail
  refine CS1.out.mono ?_
  rintro e w4 ⟨⟨na, nb, lv, mv, rfl⟩, h4⟩
  obtain ⟨w5, hw5⟩ : ∃ u, w4.alloc (.cells #[.int .i64 (na : Int), .int .i64 (nb : Int), .int .i64 2, .float .f64 4613937818241073152, .float .f64 lv, .float .f64 mv] 43) = u := ⟨_, rfl⟩
  obtain ⟨ub, b5, z5⟩ := new_six13 hw5
  have B5 : Hid (Below w3.heap.size w3 w5) := Lib.hid (h4.trans (b5.mono h4.size))
  have UB := Lib.hid ub
  obtain ⟨s0, s1⟩ := two_cells (blk_keep AB3.out B5.out)
  clear h4 ub b5 z5
  go_wp2_with fail
  refine (CR1.out _).mono ?_
  rintro e w6 ⟨rfl, h6⟩
  obtain ⟨u0, u1, u2, u3, u4, u5⟩ := six_cells13 (blk_keep UB.out h6)
  have B6 := Lib.hid (B5.out.trans (h6.mono B5.out.size))
  clear h6
  go_wp2
  go_ret
  exact ⟨rfl, BA.out.trans ((B3.out.trans (B6.out.mono B3.out.size)).mono BA.out.size)⟩
end
end Go.Proofs.Ytnhpkcphgdkdiaa
