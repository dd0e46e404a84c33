/- Stage 11: awake; Light of a mutation; the walk of MutateRight. -/
import Derived.Test.YtjaaehbllkbiaaaGreatMe
namespace Go.Proofs.YtjaaehbllkbiaaaGreat
open Go.RowKit Go.Lib
set_option maxRecDepth 100000

theorem addr_zero11 (a : Addr) : a.add 0 = a := by
 cases a
 unfold Addr.add
 split <;> simp_all
theorem tks_one11 {ms : List MTk} {t : T9.Tk} (h : tks ms = [t]) : ∃ mk, ms = [mk] ∧ mk.t = t := by
 cases ms with
 | nil => cases h
 | cons a r =>
  cases r with
  | nil => exact ⟨a, rfl, by injection h⟩
  | cons b r => injection h with _ h; cases h
def tk11 : T9.Tk := ⟨1, 1, [97], false, 0, 0, [[120]]⟩
def st11 : T9.St := ⟨[⟨1, [108]⟩], [tk11]⟩
theorem ap11 : T9.applyM st11 ⟨9, 1, 0, [120], 0, false⟩ = (⟨[], []⟩, 92) := by decide +kernel
theorem ap12 : T9.applyM st11 ⟨9, 1, 0, [121], 0, false⟩ = (⟨[⟨1, [108]⟩], [{ tk11 with tags := [[120], [121]] }]⟩, 0) := by decide +kernel
theorem st11_light : st11.light := ⟨by decide, by decide, fun l hl => by rw [st11, List.mem_singleton] at hl; subst hl; decide, fun t ht => by rw [st11, List.mem_singleton] at ht; subst ht; decide, fun t ht => by rw [st11, List.mem_singleton] at ht; subst ht; decide, fun t ht x hx => by
 rw [st11, List.mem_singleton] at ht
 subst ht
 rw [tk11, List.mem_singleton] at hx
 subst hx
 decide⟩
theorem st11_ok : st11.ok := ⟨fun l hl => by
 rw [st11, List.mem_singleton] at hl
 subst hl
 exact (by decide : 1 < 18446744073709551616), fun t ht => by
 rw [st11, List.mem_singleton] at ht
 subst ht
 exact ⟨by decide, by decide, by decide, by decide⟩⟩
set_option linter.unusedSimpArgs false in
set_option maxHeartbeats 2000000 in
set_option maxRecDepth 100000 in
theorem awake11_c (w : World) : Calls Tryz.prog 6 #[] w fun e w' => e = .returned (.bool true) ∧ Below w.heap.size w w' := by
 obtain ⟨w1, hw1⟩ : ∃ u, w.alloc (.cells #[.int .u64 1, .string ⟨#[108]⟩] 50) = u := ⟨_, rfl⟩
 obtain ⟨lb, b1, z1⟩ := new_two hw1
 obtain ⟨w2, hw2⟩ : ∃ u, w1.alloc (.cells #[.string ⟨#[120]⟩] 9) = u := ⟨_, rfl⟩
 have gb : w2.heap[w1.heap.size]? = some (.cells #[.string ⟨#[120]⟩] 9 (0, 0)) := by rw [← hw2]; exact heap_alloc_new w1 _
 have b2 : Below w1.heap.size w1 w2 := by rw [← hw2]; exact (Below.refl _ w1).alloc (Nat.le_refl _) _
 have z2 : w2.heap.size = w1.heap.size + 1 := by rw [← hw2]; simp
 obtain ⟨w3, hw3⟩ : ∃ u, w2.alloc (.cells #[.int .u64 1, .int .u64 1, .string ⟨#[97]⟩, .bool false, .float .f64 0, .float .f64 0, .slice (some ⟨w1.heap.size, 0, none⟩) 1 1] 45) = u := ⟨_, rfl⟩
 obtain ⟨tb, b3, z3⟩ := new_seven hw3
 obtain ⟨w4, hw4⟩ : ∃ u, w3.alloc (.cells #[.slice (some ⟨w.heap.size, 0, none⟩) 1 1, .slice (some ⟨w2.heap.size, 0, none⟩) 1 1] 25) = u := ⟨_, rfl⟩
 obtain ⟨sb, b4, z4⟩ := new_two hw4
 have B4 : Hid (Below w.heap.size w w4) := Lib.hid (((b1.trans (b2.mono (by omega))).trans (b3.mono (by omega))).trans (b4.mono (by omega)))
 have S4 : Hid (SM ⟨[⟨1, [108]⟩], some ⟨w.heap.size, 0, none⟩, 1, [⟨tk11, some ⟨w1.heap.size, 0, none⟩, 1⟩], some ⟨w2.heap.size, 0, none⟩, 1⟩ w4) := Lib.hid (by
  refine ⟨?_, ⟨?_, fun m hm => ?_⟩, Nat.le_refl _, Nat.le_refl _⟩
  ·have q := Lies.of_blk (B := 0) ((b4.block w.heap.size (by omega)).trans ((b3.block w.heap.size (by omega)).trans ((b2.block w.heap.size (by omega)).trans lb)))
   exact q.old
  ·have q := Lies.of_blk (B := 0) ((b4.block (w2.heap.size) (by omega)).trans tb)
   exact q.old
  ·rw [List.mem_singleton] at hm
   subst hm
   refine ⟨?_, Nat.le_refl _⟩
   have q := Lies.of_blk (B := 0) ((b4.block (w1.heap.size) (by omega)).trans ((b3.block (w1.heap.size) (by omega)).trans gb))
   exact q.old)
 have SB : Hid (w4.heap[w3.heap.size]? = some (.cells #[.slice (some ⟨w.heap.size, 0, none⟩) 1 1, .slice (some ⟨w2.heap.size, 0, none⟩) 1 1] 25 (0, 0))) := Lib.hid sb
 have C1 : Hid (Calls Tryz.prog 9 #[.agg #[.slice (some ⟨w.heap.size, 0, none⟩) 1 1, .slice (some ⟨w2.heap.size, 0, none⟩) 1 1], .agg #[.int .i64 9, .int .u64 1, .int .u64 0, .string ⟨#[120]⟩, .float .f64 0, .bool false]] w4 (MutOk st11 ⟨9, 1, 0, [120], 0, false⟩ w4)) := Lib.hid (mutApply_c (m := ⟨9, 1, 0, [120], 0, false⟩) S4.out st11_light st11_ok (by decide) ⟨by decide, by decide, by decide⟩)
 clear b1 b2 b3 b4 z1 z2 z3 z4 lb gb tb sb
 obtain ⟨v0, v1⟩ := two_cells SB.out
 go_enter Tryz.func6, Tryz.ntmps6
 go_wp2_with fail
 refine C1.out.mono ?_
 rintro e wa ⟨q, er, rfl, hq, ha, hst, her⟩
 rw [ap11] at her
 obtain rfl : er = 92 := her
 unfold MSt.val
 obtain ⟨w5, hw5⟩ : ∃ u, wa.alloc (.cells #[.slice q.A q.ls.length q.c, .slice q.A2 q.ms.length q.c2] 25) = u := ⟨_, rfl⟩
 have h5 : Below w4.heap.size w4 w5 := by rw [← hw5]; exact ha.alloc ha.size _
 have B5 := Lib.hid (B4.out.trans (h5.mono B4.out.size))
 have C2 : Hid (Calls Tryz.prog 9 #[.agg #[.slice (some ⟨w.heap.size, 0, none⟩) 1 1, .slice (some ⟨w2.heap.size, 0, none⟩) 1 1], .agg #[.int .i64 9, .int .u64 1, .int .u64 0, .string ⟨#[121]⟩, .float .f64 0, .bool false]] w5 (MutOk st11 ⟨9, 1, 0, [121], 0, false⟩ w5)) := Lib.hid (mutApply_c (m := ⟨9, 1, 0, [121], 0, false⟩) (S4.out.stay h5) st11_light st11_ok (by decide) ⟨by decide, by decide, by decide⟩)
 obtain ⟨x0, x1⟩ := two_cells ((h5.block _ (lt_of_block SB.out)).trans SB.out)
 clear hq ha hst h5 v0 v1
 go_wp2_with fail
 refine C2.out.mono ?_
 rintro e wb ⟨⟨ls2, A2, c2, ms2, A3, c3⟩, er, rfl, hq, hb, hst, her⟩
 rw [ap12] at her hst
 obtain rfl : er = 0 := her
 have e2 : tks ms2 = [{ tk11 with tags := [[120], [121]] }] := congrArg T9.St.tasks hst
 obtain ⟨mk, rfl, emk⟩ : ∃ mk, ms2 = [mk] ∧ mk.t = { tk11 with tags := [[120], [121]] } := tks_one11 e2
 unfold MSt.val
 dsimp only [List.length_cons, List.length_nil]
 obtain ⟨w6, hw6⟩ : ∃ u, wb.alloc (.cells #[.slice A2 ls2.length c2, .slice A3 1 c3] 25) = u := ⟨_, rfl⟩
 obtain ⟨ob, b6, z6⟩ := new_two hw6
 have B6 := Lib.hid (B5.out.trans ((hb.trans (b6.mono hb.size)).mono B5.out.size))
 obtain ⟨ad, m', hA, hx, _, r0, r1, r2, r3, r4, r5, r6⟩ := (hq.k.stay b6).at_ (k := 0) (show 0 < 1 by decide)
 have em : m' = mk := by injection hx with hx; exact hx.symm
 subst em
 dsimp only at hA
 subst hA
 have tl : m'.t.tags.length = 2 := by rw [emk]; rfl
 rw [Nat.zero_mul, addr_zero11, tl] at r6
 obtain ⟨y0, y1⟩ := two_cells ob
 clear hq hb hst e2 ob b6 z6 hx emk r0 r1 r2 r3 r4 r5 tl x0 x1
 go_wp2_with fail
 go_ret
 exact ⟨rfl, B6.out⟩

theorem light11_c {m : T9.Mu} {w : World} : Calls Tryz.prog 8 #[m.val] w fun e w' => e = .returned (.bool (decide (m.text.length ≤ 200))) ∧ Below w.heap.size w w' := by
 unfold T9.Mu.val
 obtain ⟨w1, hw1⟩ : ∃ u, w.alloc (.cells #[.int .i64 m.kind, .int .u64 (m.id : Int), .int .u64 (m.list : Int), .string (str m.text), .float .f64 m.f, .bool m.flag] 29) = u := ⟨_, rfl⟩
 obtain ⟨pb, b1, z1⟩ := new_six11 hw1
 obtain ⟨p0, p1, p2, p3, p4, p5⟩ := six_cells11 pb
 have B1 := Lib.hid b1
 have sz : (str m.text).size = m.text.length := rfl
 clear pb b1 z1
 by_cases h : m.text.length ≤ 200
 ·have hz : ((str m.text).size : Int) ≤ 200 := by rw [sz]; omega
  have e := Lib.hid (decide_eq_true h)
  clear h sz
  go_enter Tryz.func8, Tryz.ntmps8
  go_wp2
  go_ret
  exact ⟨ret_bool (by rw [e.out]), B1.out⟩
 ·have hz : ¬ (((str m.text).size : Int) ≤ 200) := by rw [sz]; omega
  have e := Lib.hid (decide_eq_false h)
  clear h sz
  go_enter Tryz.func8, Tryz.ntmps8
  go_wp2
  go_ret
  exact ⟨ret_bool (by rw [e.out]), B1.out⟩
end Go.Proofs.YtjaaehbllkbiaaaGreat
