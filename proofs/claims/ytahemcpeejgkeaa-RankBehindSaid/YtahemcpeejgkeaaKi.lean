/- Stage 10: awake. -/
import Derived.Test.YtahemcpeejgkeaaKh
namespace Go.Proofs.Ytahemcpeejgkeaa
open Go.Shelf Go.RowKit Go.Lib Go.Sort
set_option maxRecDepth 100000

theorem at_ab10 : T9.plcI [ka10.t, kb10.t] 2 = 1 := by decide +kernel
set_option maxHeartbeats 1000000 in
set_option maxRecDepth 100000 in
theorem awake10_c (w : World) : Calls Try.prog 5 #[] w fun e w' => e = .returned (.bool true) ∧ Below w.heap.size w w' := by
  have hb1 := buildSlL10 w
  have hb2 := fun w => buildSlT10 w
  go_enter Try.func5, Try.ntmps5
  go_wp2_with fail
  obtain ⟨w1, hw1⟩ : ∃ u, w.alloc (.cells #[.int .u64 1, .string ⟨#[108]⟩] 45) = u := ⟨_, rfl⟩
  obtain ⟨lb, b1, z1⟩ := new_two hw1
  obtain ⟨w2, hw2⟩ : ∃ u, w1.alloc (.cells #[.int .u64 1, .int .u64 1, .string ⟨#[97]⟩, .bool false, .float .f64 4607182418800017408, .float .f64 0, .slice none 0 0, .int .u64 2, .int .u64 1, .string ⟨#[98]⟩, .bool false, .float .f64 4611686018427387904, .float .f64 0, .slice none 0 0] 36) = u := ⟨_, rfl⟩
  have tb : w2.heap[w.heap.size + 1]? = some (.cells #[.int .u64 1, .int .u64 1, .string ⟨#[97]⟩, .bool false, .float .f64 4607182418800017408, .float .f64 0, .slice none 0 0, .int .u64 2, .int .u64 1, .string ⟨#[98]⟩, .bool false, .float .f64 4611686018427387904, .float .f64 0, .slice none 0 0] 36 (0, 0)) := by rw [← hw2, ← z1]; exact heap_alloc_new w1 _
  have b2 : Below w1.heap.size w1 w2 := by rw [← hw2]; exact (Below.refl _ w1).alloc (Nat.le_refl _) _
  have z2 : w2.heap.size = w1.heap.size + 1 := by rw [← hw2]; simp
  obtain ⟨w3, hw3⟩ : ∃ u, w2.alloc (.cells #[.slice (some ⟨w.heap.size, 0, none⟩) 1 1, .slice (some ⟨w.heap.size + 1, 0, none⟩) 2 2] 25) = u := ⟨_, rfl⟩
  obtain ⟨sb, b3, z3⟩ := new_two hw3
  have B3 : Hid (Below w.heap.size w w3) := Lib.hid ((b1.trans (b2.mono (by omega))).trans (b3.mono (by omega)))
  have hl : LL w3 (some ⟨w.heap.size, 0, none⟩) [⟨1, [108]⟩] := by
    have q := Lies.of_blk (B := 0) ((b3.block w.heap.size (by omega)).trans ((b2.block w.heap.size (by omega)).trans lb))
    exact q.old
  have hk : KL w3 (some ⟨w.heap.size + 1, 0, none⟩) [ka10, kb10] := by
    refine ⟨?_, fun m hm => ?_⟩
    · have q := Lies.of_blk (B := 0) ((b3.block (w.heap.size + 1) (by omega)).trans tb)
      exact q.old
    · simp only [List.mem_cons, List.not_mem_nil, or_false] at hm
      rcases hm with rfl | rfl
      · exact ⟨Lies.nil, Nat.le_refl _⟩
      · exact ⟨Lies.nil, Nat.le_refl _⟩
  have hsh : ∀ m ∈ [ka10, kb10], m.t.short := fun m hm => by
    simp only [List.mem_cons, List.not_mem_nil, or_false] at hm
    rcases hm with rfl | rfl
    · exact ⟨by decide, by simp [ka10], by decide⟩
    · exact ⟨by decide, by simp [kb10], by decide⟩
  have hr : ∀ m ∈ [ka10, kb10], m.t.rank < 18446744073709551616 := fun m hm => by
    simp only [List.mem_cons, List.not_mem_nil, or_false] at hm
    rcases hm with rfl | rfl
    · exact (by decide : 4607182418800017408 < 18446744073709551616)
    · exact (by decide : 4611686018427387904 < 18446744073709551616)
  have BT : Hid (Calls Try.prog 10 #[.agg #[.slice (some ⟨w.heap.size, 0, none⟩) 1 1, .slice (some ⟨w.heap.size + 1, 0, none⟩) 2 2], .int .u64 1, .int .u64 1] w3 (BtwOk [⟨1, [108]⟩] (tks [ka10, kb10]) 1 1 w3)) := Lib.hid (between_c hl hk rfl rfl (by decide) (by decide) (fun m hm => (hsh m hm).2.2) hr 1 1)
  have HK := Lib.hid hk
  have HSH := Lib.hid hsh
  have HR := Lib.hid hr
  have SB : Hid (w3.heap[w.heap.size + 1 + 1]? = some (.cells #[.slice (some ⟨w.heap.size, 0, none⟩) 1 1, .slice (some ⟨w.heap.size + 1, 0, none⟩) 2 2] 25 (0, 0))) := Lib.hid (by rw [← (show w2.heap.size = w.heap.size + 1 + 1 by omega)]; exact sb)
  clear hl hk hsh hr b1 b2 b3 z1 z2 z3 lb tb sb hb1 hb2
  rw [hw1, hw2, hw3]
  refine BT.out.mono ?_
  rintro e w4 ⟨f, er, rfl, h4, _, hb⟩
  have he : f = 4609434218613702656 ∧ er = 0 := by
    rcases hb with ⟨q, _⟩ | ⟨l, ho, q⟩
    · exact absurd q (by decide)
    · rw [ord_ab10 ho, btw_ab10] at q
      injection q with q1 q2
      exact ⟨q1.symm, q2.symm⟩
  obtain ⟨rfl, rfl⟩ := he
  have AT : Hid (Calls Try.prog 13 #[.agg #[.slice (some ⟨w.heap.size, 0, none⟩) 1 1, .slice (some ⟨w.heap.size + 1, 0, none⟩) 2 2], .int .u64 2] w4 (AtOk (tks [ka10, kb10]) 2 w4)) := Lib.hid (rankAt_c (HK.out.stay h4) rfl (by decide) HSH.out HR.out 2)
  have B4 := Lib.hid (B3.out.trans (h4.mono B3.out.size))
  obtain ⟨q0, q1⟩ := two_cells ((h4.block (w.heap.size + 1 + 1) (lt_of_block SB.out)).trans SB.out)
  have g1 : Fl.ltB 4607182418800017408 4609434218613702656 = true := by decide +kernel
  have g2 : Fl.ltB 4609434218613702656 4611686018427387904 = true := by decide +kernel
  clear hb h4
  go_wp2_with fail
  refine AT.out.mono ?_
  rintro e w5 ⟨r, rfl, h5, hr⟩
  have he : r = 1 := by
    rcases hr with ⟨q, _⟩ | ⟨_, l, ho, q⟩
    · exact absurd q (by decide)
    · rw [q, ord_ab10 ho]
      exact at_ab10
  subst he
  have B5 := Lib.hid (B4.out.trans (h5.mono B4.out.size))
  clear hr h5
  go_wp2
  go_ret
  exact ⟨rfl, B5.out⟩
end Go.Proofs.Ytahemcpeejgkeaa
