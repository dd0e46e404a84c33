/- Stage 9: awake. -/
import Derived.Test.YtbgdmmemahfpbaaTab
import Derived.Test.YtbgdmmemahfpbaaMm
namespace Go.Proofs.Ytbgdmmemahfpbaa
open Go.RowKit Go.Lib
set_option maxRecDepth 100000

@[go_sem] theorem buildK9a (w : World) : (Instr.build 37 #[(0, .int .u64 1), (1, .int .u64 2), (2, .string ⟨#[116]⟩)]).run Try.prog w = .ok (.agg #[.int .u64 1, .int .u64 2, .string ⟨#[116]⟩, .bool false, .float .f64 0, .float .f64 0, .slice none 0 0]) w := run_build w 37 _ _ (by kernel_rfl)
@[go_sem] theorem buildS9a (A : Option Addr) (n c : Nat) (w : World) : (Instr.build 25 #[(1, .slice A n c)]).run Try.prog w = .ok (.agg #[.slice none 0 0, .slice A n c]) w := run_build w 25 _ _ (by kernel_rfl)
@[go_sem] theorem buildS9b (w : World) : (Instr.build 25 #[]).run Try.prog w = .ok (.agg #[.slice none 0 0, .slice none 0 0]) w := run_build w 25 _ _ (by kernel_rfl)
theorem buildSl9 (w : World) : (Instr.buildSlice 23 1 #[(0, .agg #[.int .u64 1, .int .u64 2, .string ⟨#[116]⟩, .bool false, .float .f64 0, .float .f64 0, .slice none 0 0])]).run Try.prog w = .ok (.slice (some ⟨w.heap.size, 0, none⟩) 1 1) (w.alloc (.cells #[.int .u64 1, .int .u64 2, .string ⟨#[116]⟩, .bool false, .float .f64 0, .float .f64 0, .slice none 0 0] 37)) := by
  obtain ⟨i0, hi, hz0, hz1, hz2⟩ := info_parts Try.infoTk9
  exact run_buildSlice_one w 23 37 #[.int .u64 1, .int .u64 2, .string ⟨#[116]⟩, .bool false, .float .f64 0, .float .f64 0, .slice none 0 0] i0 _ Try.underlying23 hi hz0 hz1 (by decide) (by decide)
set_option maxHeartbeats 2000000 in
set_option maxRecDepth 100000 in
theorem awake9_c (w : World) : Calls Try.prog 7 #[] w fun e w' => e = .returned (.bool true) ∧ Below w.heap.size w w' := by
  have hbs := buildSl9 w
  go_enter Try.func7, Try.ntmps7
  go_wp2_with fail
  obtain ⟨w1, hw1⟩ : ∃ u, w.alloc (.cells #[.int .u64 1, .int .u64 2, .string ⟨#[116]⟩, .bool false, .float .f64 0, .float .f64 0, .slice none 0 0] 37) = u := ⟨_, rfl⟩
  obtain ⟨tb, b1, z1⟩ := new_seven hw1
  obtain ⟨w2, hw2⟩ : ∃ u, w1.alloc (.cells #[.slice none 0 0, .slice (some ⟨w.heap.size, 0, none⟩) 1 1] 25) = u := ⟨_, rfl⟩
  obtain ⟨sb, b2, z2⟩ := new_two hw2
  rw [hw1, hw2]
  have B2 : Hid (Below w.heap.size w w2) := Lib.hid (b1.trans (b2.mono (by omega)))
  have tb2 := (b2.block w.heap.size (by omega)).trans tb
  have KT : KL w2 (some ⟨w.heap.size, 0, none⟩) [⟨⟨1, 2, [116], false, 0, 0, []⟩, none, 0⟩] := by
    refine ⟨?_, ?_⟩
    · have q := Lies.of_blk (B := 0) tb2
      exact q.old
    · intro m hm
      simp only [List.mem_cons, List.not_mem_nil, or_false] at hm
      subst hm
      exact ⟨Lies.nil, Nat.le_refl _⟩
  have RC := right_c (c := 0) (c2 := 1) (LL.nil (A := none)) KT (n1 := 0) (n2 := 1) rfl rfl ⟨by simp, by intro t ht; simp [tks] at ht; subst ht; exact ⟨by decide, by simp, by decide⟩, by simp, by simp [tks]⟩ (by decide)
  have RE : T9.rightE ⟨[], tks [⟨⟨1, 2, [116], false, 0, 0, []⟩, none, 0⟩]⟩ = 91 := rfl
  rw [RE] at RC
  have RC2 := Lib.hid RC
  clear RC RE KT tb2 tb sb b1 b2
  refine RC2.out.mono ?_
  rintro e w3 ⟨rfl, h3⟩
  have B3 := Lib.hid (B2.out.trans (h3.mono B2.out.size))
  clear h3
  have TC := fun wx => title_c [97] (by decide) wx
  have TE : T9.title [97] = true := by decide
  rw [TE] at TC
  have hst : str [97] = ⟨#[97]⟩ := rfl
  rw [hst] at TC
  go_wp2_with (go_at_call 20; refine (TC _).mono ?_; rintro e w' ⟨rfl, rfl⟩)
  have PC := Lib.hid (put_c (A := none) (A2 := none) (c := 0) (c2 := 0) (n1 := 0) (n2 := 0) (ls := []) (ms := []) (w := w3) LL.nil KL.nil rfl rfl ⟨by decide, by decide, by simp, by simp [tks], by simp [tks], by simp [tks]⟩ ⟨by simp, by simp [tks]⟩)
  refine PC.out.mono ?_
  rintro e w4 ⟨A, n, c, rfl, ho, hb⟩
  obtain ⟨hn, _⟩ := own_room ho
  have e2 : n = 2 := hn.trans (by rfl)
  subst e2
  have B4 := Lib.hid (B3.out.trans (hb.mono B3.out.size))
  clear ho hb hn
  go_wp2
  go_ret
  exact ⟨rfl, B4.out⟩
end Go.Proofs.Ytbgdmmemahfpbaa
