/- Stage 9: the code's readTask (written by wip/gen9rt.py). -/
import Derived.Test.YtbgdmmemahfpbaaTah
import Derived.Test.YtbgdmmemahfpbaaTad
import Derived.Test.YtbgdmmemahfpbaaMm
import Derived.Test.YtbgdmmemahfpbaaRg
import Derived.StillTailTactics
namespace Go.Proofs.Ytbgdmmemahfpbaa
open Go.RowKit Go.Lib
set_option maxRecDepth 100000

@[go_sem] theorem buildK9n (n : Int) (w : World) : (Instr.build 37 #[(0, .int .u64 n)]).run Try.prog w = .ok (.agg #[.int .u64 n, .int .u64 0, .string ⟨#[]⟩, .bool false, .float .f64 0, .float .f64 0, .slice none 0 0]) w := run_build w 37 _ _ (by kernel_rfl)
theorem full_nat9 : (18446744073709551615 : Int).toNat = Cd.full := by unfold Cd.full; rfl
/-- A cell of a block that the reader doesn't own. -/
theorem RS.setFar {B p : Nat} {tb : TypeId} {w : World} {s : Option (List UInt8)} (h : RS 116 B tb w p s) {g : Nat} (ht : Ty w g 37) (hB : B ≤ g) (h2 : tb ≠ 37) (i : Nat) (u : Value) : RS 116 B tb (w.setCell ⟨g, i, none⟩ u) p s :=
  h.tch ((Tch.refl B [37] w).setTy (p := ⟨g, i, none⟩) ht (by simp) hB u) (by decide) (by simpa using h2)
theorem Tch.zero {B : Nat} {ts : List TypeId} {w w' : World} (h : Tch B ts w w') : Tch 0 ts w w' := ⟨h.below.mono (Nat.zero_le _), h.typed⟩
def TkOk (B p : Nat) (s : Option (List UInt8)) (w : World) (e : Ending) (w' : World) : Prop :=
  ∃ m : MTk, e = .returned (.agg (encK m).toArray) ∧ m.t = (T9.rdTk s).1 ∧ Lies w' 0 9 m.A (gcells m.t.tags) ∧ m.t.tags.length ≤ m.c ∧ RS 116 B 5 w' p (T9.rdTk s).2 ∧ Tch B [116] w w'

theorem shr_full (s : Option (List UInt8)) : St.Shr s (Cd.rdN Cd.full s).2 := St.shr_N _ s
theorem shr_many9 : ∀ (n : Nat) (s : Option (List UInt8)), St.Shr s (T9.many (Cd.rdB 60) n s).2
  | 0, _ => fun t ht => ⟨t, ht, Nat.le_refl _⟩
  | n + 1, s => (St.shr_B 60 s).trans (shr_many9 n _)
theorem shr_F9 (s : Option (List UInt8)) : St.Shr s (Cd.rdF s).2 := fun t ht => by
  unfold Cd.rdF at ht
  cases q : (Cd.rdW 8 s).2 with
  | none => rw [q] at ht; simp at ht
  | some u =>
    rw [q] at ht
    dsimp only at ht
    split at ht
    · injection ht with ht
      subst ht
      cases s with
      | none => simp [Cd.rdW] at q
      | some l =>
        by_cases h8 : 8 ≤ l.length
        · simp only [Cd.rdW, if_pos h8, Option.some.injEq] at q
          exact ⟨l, rfl, by rw [← q, List.length_drop]; omega⟩
        · simp [Cd.rdW, if_neg h8] at q
    · cases ht

set_option maxHeartbeats 4000000 in
set_option maxRecDepth 100000 in
theorem readTask_c {B p : Nat} {s : Option (List UInt8)} {w : World} (h : RS 116 B 5 w p s) (hl : ∀ l, s = some l → l.length ≤ 1099511627776) :
    Calls Try.prog 56 #[.pointer (some ⟨p, 0, none⟩)] w (TkOk B p s w) := by
  have hBs := h.size
  have BS := Lib.hid hBs
  obtain ⟨w0, hw0⟩ : ∃ u, w.alloc (.cells #[.int .u64 0, .int .u64 0, .string ⟨#[]⟩, .bool false, .float .f64 0, .float .f64 0, .slice none 0 0] 37) = u := ⟨_, rfl⟩
  obtain ⟨rb0, b0, z0⟩ := new_seven hw0
  have R0 : Hid (RS 116 B 5 w0 p s) := Lib.hid (by rw [← hw0]; exact h.alloc _)
  have RB0 := Lib.hid rb0
  have Tw0 : Hid (Tch B [116] w w0) := Lib.hid (Tch.of_below b0 hBs _)
  have Z0 := Lib.hid z0
  have L0 := Lib.hid hl
  have N1 := Lib.hid (rN_rd (mz := 18446744073709551615) R0.out (by decide) L0.out (by decide))
  rw [full_nat9] at N1
  clear h hl rb0 b0 z0 hBs
  go_enter Try.func56, Try.ntmps56
  go_wp2_with fail
  refine N1.out.mono ?_
  rintro e w1 ⟨rfl, hr, ht⟩
  obtain ⟨i0, hi0⟩ : ∃ v, v = (Cd.rdN Cd.full s).1 := ⟨_, rfl⟩
  rw [← hi0]
  have I0 := Lib.hid hi0
  have SH1 := Lib.hid (shr_full s)
  have hr : RS 116 B 5 w1 p (T9.s1 s) := hr
  have RB1 := Lib.hid (ht.blk RB0.out (by decide))
  have Tw1 := Lib.hid (Tw0.out.trans ht)
  clear hw0 hi0
  go_wp2_with fail
  obtain ⟨w2, hw2⟩ : ∃ u, w1.alloc (.cells #[.int .u64 (i0 : Int), .int .u64 0, .string ⟨#[]⟩, .bool false, .float .f64 0, .float .f64 0, .slice none 0 0] 37) = u := ⟨_, rfl⟩
  rw [hw2]
  obtain ⟨lb2, b2, z2⟩ := new_seven hw2
  have GZ : Hid (w.heap.size + 1 ≤ w1.heap.size) := Lib.hid (by have := lt_of_block RB1.out; omega)
  have R2 : Hid (RS 116 B 5 w2 p (T9.s1 s)) := Lib.hid (by rw [← hw2]; exact hr.alloc _)
  have Tw2 : Hid (Tch B [116] w w2) := Lib.hid (by rw [← hw2]; exact Tw1.out.alloc (by have := GZ.out; have := BS.out; omega) _)
  have RB2 := Lib.hid (blk_keep RB1.out b2)
  have LB2 := Lib.hid lb2
  clear hr ht lb2 b2 z2
  have C1 := Lib.hid (rN_rd (mz := 18446744073709551615) R2.out (by decide) (SH1.out.bound L0.out) (by decide))
  rw [full_nat9] at C1
  refine C1.out.mono ?_
  rintro e w3 ⟨rfl, hr, ht⟩
  obtain ⟨i1, hi1⟩ : ∃ v, v = (Cd.rdN Cd.full (T9.s1 s)).1 := ⟨_, rfl⟩
  rw [← hi1]
  have I1 := Lib.hid hi1
  have hr : RS 116 B 5 w3 p (T9.s2 s) := hr
  have lb3 := ht.blk LB2.out (by decide)
  have rb3 := ht.blk RB2.out (by decide)
  have Tw3 := Lib.hid (Tw2.out.trans ht)
  have y1 : Ty w3 w1.heap.size 37 := ⟨_, _, lb3⟩
  obtain ⟨c30, c31, c32, c33, c34, c35, c36⟩ := seven_cells lb3
  have f3 := blk_free lb3 1
  obtain ⟨w4, hw4⟩ : ∃ u, w3.setCell ⟨w1.heap.size, 1, none⟩ (.int .u64 (i1 : Int)) = u := ⟨_, rfl⟩
  have LB4 : Hid (w4.heap[w1.heap.size]? = some (.cells #[.int .u64 (i0 : Int), .int .u64 (i1 : Int), .string ⟨#[]⟩, .bool false, .float .f64 0, .float .f64 0, .slice none 0 0] 37 (0, 0))) := Lib.hid (by rw [← hw4]; exact (blk_set lb3 1 (.int .u64 (i1 : Int))).trans rfl)
  have RB4 : Hid (w4.heap[w.heap.size]? = some (.cells #[.int .u64 0, .int .u64 0, .string ⟨#[]⟩, .bool false, .float .f64 0, .float .f64 0, .slice none 0 0] 37 (0, 0))) := Lib.hid (by rw [← hw4]; exact blk_far rb3 (p := ⟨w1.heap.size, 1, none⟩) (by have := GZ.out; show w.heap.size ≠ w1.heap.size; omega) (.int .u64 (i1 : Int)))
  have R4 : Hid (RS 116 B 5 w4 p (T9.s2 s)) := Lib.hid (by rw [← hw4]; exact hr.setFar y1 (by have := GZ.out; have := BS.out; omega) (by decide) _ _)
  have Tw4 : Hid (Tch B [116] w w4) := Lib.hid (by rw [← hw4]; exact Tw3.out.setNew (p := ⟨w1.heap.size, 1, none⟩) (by have := GZ.out; show w.heap.size ≤ w1.heap.size; omega) BS.out _)
  have SH2 := Lib.hid (SH1.out.trans (shr_full (T9.s1 s)))
  clear hr ht hi1 lb3 rb3 y1
  have C2 := Lib.hid (rB_rd (mz := 60) R4.out (by decide) (SH2.out.bound L0.out) (by decide) (by decide))
  go_wp2_with fail
  refine C2.out.mono ?_
  rintro e w5 ⟨Ab, nb, cb, rfl, hob, hr, ht⟩
  obtain ⟨hnb, _⟩ := own_room hob
  obtain ⟨i2, hi2⟩ : ∃ v, v = (Cd.rdB 60 (T9.s2 s)).1 := ⟨_, rfl⟩
  have cv := conv_at (c := cb) (lies_own (B := 0) (t := 5) hob) hnb
  rw [show (Cd.rdB (60 : Int).toNat (T9.s2 s)).1 = i2 from hi2.symm] at cv
  have I2 := Lib.hid hi2
  have hr : RS 116 B 5 w5 p (T9.s3 s) := hr
  have lb5 := ht.blk LB4.out (by decide)
  have rb5 := ht.blk RB4.out (by decide)
  have Tw5 := Lib.hid (Tw4.out.trans ht)
  have y2 : Ty w5 w1.heap.size 37 := ⟨_, _, lb5⟩
  obtain ⟨c50, c51, c52, c53, c54, c55, c56⟩ := seven_cells lb5
  have f5 := blk_free lb5 2
  obtain ⟨w6, hw6⟩ : ∃ u, w5.setCell ⟨w1.heap.size, 2, none⟩ (.string (str i2)) = u := ⟨_, rfl⟩
  have LB6 : Hid (w6.heap[w1.heap.size]? = some (.cells #[.int .u64 (i0 : Int), .int .u64 (i1 : Int), .string (str i2), .bool false, .float .f64 0, .float .f64 0, .slice none 0 0] 37 (0, 0))) := Lib.hid (by rw [← hw6]; exact (blk_set lb5 2 (.string (str i2))).trans rfl)
  have RB6 : Hid (w6.heap[w.heap.size]? = some (.cells #[.int .u64 0, .int .u64 0, .string ⟨#[]⟩, .bool false, .float .f64 0, .float .f64 0, .slice none 0 0] 37 (0, 0))) := Lib.hid (by rw [← hw6]; exact blk_far rb5 (p := ⟨w1.heap.size, 2, none⟩) (by have := GZ.out; show w.heap.size ≠ w1.heap.size; omega) (.string (str i2)))
  have R6 : Hid (RS 116 B 5 w6 p (T9.s3 s)) := Lib.hid (by rw [← hw6]; exact hr.setFar y2 (by have := GZ.out; have := BS.out; omega) (by decide) _ _)
  have Tw6 : Hid (Tch B [116] w w6) := Lib.hid (by rw [← hw6]; exact Tw5.out.setNew (p := ⟨w1.heap.size, 2, none⟩) (by have := GZ.out; show w.heap.size ≤ w1.heap.size; omega) BS.out _)
  have SH3 := Lib.hid (SH2.out.trans (St.shr_B 60 (T9.s2 s)))
  clear hr ht hi2 lb5 rb5 y2 hob hnb
  have C3 := Lib.hid (rG_rd R6.out (by decide) (SH3.out.bound L0.out))
  go_wp2_with fail
  refine C3.out.mono ?_
  rintro e w7 ⟨rfl, hr, ht⟩
  obtain ⟨i3, hi3⟩ : ∃ v, v = (Cd.rdG (T9.s3 s)).1 := ⟨_, rfl⟩
  rw [← hi3]
  have I3 := Lib.hid hi3
  have hr : RS 116 B 5 w7 p (T9.s4 s) := hr
  have lb7 := ht.blk LB6.out (by decide)
  have rb7 := ht.blk RB6.out (by decide)
  have Tw7 := Lib.hid (Tw6.out.trans ht)
  have y3 : Ty w7 w1.heap.size 37 := ⟨_, _, lb7⟩
  obtain ⟨c70, c71, c72, c73, c74, c75, c76⟩ := seven_cells lb7
  have f7 := blk_free lb7 3
  obtain ⟨w8, hw8⟩ : ∃ u, w7.setCell ⟨w1.heap.size, 3, none⟩ (.bool i3) = u := ⟨_, rfl⟩
  have LB8 : Hid (w8.heap[w1.heap.size]? = some (.cells #[.int .u64 (i0 : Int), .int .u64 (i1 : Int), .string (str i2), .bool i3, .float .f64 0, .float .f64 0, .slice none 0 0] 37 (0, 0))) := Lib.hid (by rw [← hw8]; exact (blk_set lb7 3 (.bool i3)).trans rfl)
  have RB8 : Hid (w8.heap[w.heap.size]? = some (.cells #[.int .u64 0, .int .u64 0, .string ⟨#[]⟩, .bool false, .float .f64 0, .float .f64 0, .slice none 0 0] 37 (0, 0))) := Lib.hid (by rw [← hw8]; exact blk_far rb7 (p := ⟨w1.heap.size, 3, none⟩) (by have := GZ.out; show w.heap.size ≠ w1.heap.size; omega) (.bool i3))
  have R8 : Hid (RS 116 B 5 w8 p (T9.s4 s)) := Lib.hid (by rw [← hw8]; exact hr.setFar y3 (by have := GZ.out; have := BS.out; omega) (by decide) _ _)
  have Tw8 : Hid (Tch B [116] w w8) := Lib.hid (by rw [← hw8]; exact Tw7.out.setNew (p := ⟨w1.heap.size, 3, none⟩) (by have := GZ.out; show w.heap.size ≤ w1.heap.size; omega) BS.out _)
  have SH4 := Lib.hid (SH3.out.trans (St.shr_G (T9.s3 s)))
  clear hr ht hi3 lb7 rb7 y3
  have C4 := Lib.hid (rF_rd R8.out (by decide) (SH4.out.bound L0.out))
  go_wp2_with fail
  refine C4.out.mono ?_
  rintro e w9 ⟨rfl, hr, ht⟩
  obtain ⟨i4, hi4⟩ : ∃ v, v = (Cd.rdF (T9.s4 s)).1 := ⟨_, rfl⟩
  rw [← hi4]
  have I4 := Lib.hid hi4
  have hr : RS 116 B 5 w9 p (T9.s5 s) := hr
  have lb9 := ht.blk LB8.out (by decide)
  have rb9 := ht.blk RB8.out (by decide)
  have Tw9 := Lib.hid (Tw8.out.trans ht)
  have y4 : Ty w9 w1.heap.size 37 := ⟨_, _, lb9⟩
  obtain ⟨c90, c91, c92, c93, c94, c95, c96⟩ := seven_cells lb9
  have f9 := blk_free lb9 4
  obtain ⟨w10, hw10⟩ : ∃ u, w9.setCell ⟨w1.heap.size, 4, none⟩ (.float .f64 i4) = u := ⟨_, rfl⟩
  have LB10 : Hid (w10.heap[w1.heap.size]? = some (.cells #[.int .u64 (i0 : Int), .int .u64 (i1 : Int), .string (str i2), .bool i3, .float .f64 i4, .float .f64 0, .slice none 0 0] 37 (0, 0))) := Lib.hid (by rw [← hw10]; exact (blk_set lb9 4 (.float .f64 i4)).trans rfl)
  have RB10 : Hid (w10.heap[w.heap.size]? = some (.cells #[.int .u64 0, .int .u64 0, .string ⟨#[]⟩, .bool false, .float .f64 0, .float .f64 0, .slice none 0 0] 37 (0, 0))) := Lib.hid (by rw [← hw10]; exact blk_far rb9 (p := ⟨w1.heap.size, 4, none⟩) (by have := GZ.out; show w.heap.size ≠ w1.heap.size; omega) (.float .f64 i4))
  have R10 : Hid (RS 116 B 5 w10 p (T9.s5 s)) := Lib.hid (by rw [← hw10]; exact hr.setFar y4 (by have := GZ.out; have := BS.out; omega) (by decide) _ _)
  have Tw10 : Hid (Tch B [116] w w10) := Lib.hid (by rw [← hw10]; exact Tw9.out.setNew (p := ⟨w1.heap.size, 4, none⟩) (by have := GZ.out; show w.heap.size ≤ w1.heap.size; omega) BS.out _)
  have SH5 := Lib.hid (SH4.out.trans (shr_F9 (T9.s4 s)))
  clear hr ht hi4 lb9 rb9 y4
  have C5 := Lib.hid (rF_rd R10.out (by decide) (SH5.out.bound L0.out))
  go_wp2_with fail
  refine C5.out.mono ?_
  rintro e w11 ⟨rfl, hr, ht⟩
  obtain ⟨i5, hi5⟩ : ∃ v, v = (Cd.rdF (T9.s5 s)).1 := ⟨_, rfl⟩
  rw [← hi5]
  have I5 := Lib.hid hi5
  have hr : RS 116 B 5 w11 p (T9.s6 s) := hr
  have lb11 := ht.blk LB10.out (by decide)
  have rb11 := ht.blk RB10.out (by decide)
  have Tw11 := Lib.hid (Tw10.out.trans ht)
  have y5 : Ty w11 w1.heap.size 37 := ⟨_, _, lb11⟩
  obtain ⟨c110, c111, c112, c113, c114, c115, c116⟩ := seven_cells lb11
  have f11 := blk_free lb11 5
  obtain ⟨w12, hw12⟩ : ∃ u, w11.setCell ⟨w1.heap.size, 5, none⟩ (.float .f64 i5) = u := ⟨_, rfl⟩
  have LB12 : Hid (w12.heap[w1.heap.size]? = some (.cells #[.int .u64 (i0 : Int), .int .u64 (i1 : Int), .string (str i2), .bool i3, .float .f64 i4, .float .f64 i5, .slice none 0 0] 37 (0, 0))) := Lib.hid (by rw [← hw12]; exact (blk_set lb11 5 (.float .f64 i5)).trans rfl)
  have RB12 : Hid (w12.heap[w.heap.size]? = some (.cells #[.int .u64 0, .int .u64 0, .string ⟨#[]⟩, .bool false, .float .f64 0, .float .f64 0, .slice none 0 0] 37 (0, 0))) := Lib.hid (by rw [← hw12]; exact blk_far rb11 (p := ⟨w1.heap.size, 5, none⟩) (by have := GZ.out; show w.heap.size ≠ w1.heap.size; omega) (.float .f64 i5))
  have R12 : Hid (RS 116 B 5 w12 p (T9.s6 s)) := Lib.hid (by rw [← hw12]; exact hr.setFar y5 (by have := GZ.out; have := BS.out; omega) (by decide) _ _)
  have Tw12 : Hid (Tch B [116] w w12) := Lib.hid (by rw [← hw12]; exact Tw11.out.setNew (p := ⟨w1.heap.size, 5, none⟩) (by have := GZ.out; show w.heap.size ≤ w1.heap.size; omega) BS.out _)
  have SH6 := Lib.hid (SH5.out.trans (shr_F9 (T9.s5 s)))
  clear hr ht hi5 lb11 rb11 y5
  have C6 := Lib.hid (rN_rd (mz := 60) R12.out (by decide) (SH6.out.bound L0.out) (by decide))
  go_wp2_with fail
  refine C6.out.mono ?_
  rintro e w13 ⟨rfl, hr, ht⟩
  obtain ⟨n, hn⟩ : ∃ v, v = T9.tagsN s := ⟨_, rfl⟩
  have hn' : n = (Cd.rdN (60 : Int).toNat (T9.s6 s)).1 := hn
  rw [← hn']
  have NT := Lib.hid hn
  have n60 : n ≤ 60 := by rw [hn']; exact (Cd.rdN_lt 60 (T9.s6 s)).2
  have hr : RS 116 B 5 w13 p (T9.s7 s) := hr
  have LB13 := Lib.hid (ht.blk LB12.out (by decide))
  have RB13 := Lib.hid (ht.blk RB12.out (by decide))
  have Tw13 := Lib.hid (Tw12.out.trans ht)
  have R13 := Lib.hid hr
  have SH7 : Hid (St.Shr s (T9.s7 s)) := Lib.hid (SH6.out.trans (St.shr_N 60 (T9.s6 s)))
  obtain ⟨fi0, hfi, fz0, fz1, fz2⟩ := info_parts Try.infoStr9
  clear hn hn' hr ht
  go_wp2_with fail
  go_loopw [25] (fun s25 wr => ∃ (j : Nat) (A : Option Addr) (c : Nat), s25 = .int .u64 j ∧ j ≤ n ∧ Aside (RS 116 B 5 wr p (T9.many (Cd.rdB 60) j (T9.s7 s)).2 ∧ wr.ownsRow w.heap.size 9 1 (.slice A j c) j (gcells (T9.many (Cd.rdB 60) j (T9.s7 s)).1) ∧ wr.heap[w1.heap.size]? = some (.cells #[.int .u64 (i0 : Int), .int .u64 (i1 : Int), .string (str i2), .bool i3, .float .f64 i4, .float .f64 i5, .slice A j c] 37 (0, 0)) ∧ wr.heap[w.heap.size]? = some (.cells #[.int .u64 0, .int .u64 0, .string ⟨#[]⟩, .bool false, .float .f64 0, .float .f64 0, .slice none 0 0] 37 (0, 0)) ∧ Tch B [116] w wr)) (fun s25 _ => n - (intOf s25).toNat)
  case atStart => exact ⟨0, none, 0, rfl, Nat.zero_le _, R13.out, World.ownsRow_nil _ _ _ _, LB13.out, RB13.out, Tw13.out⟩
  case round =>
    obtain ⟨j, A, c, rfl, hj, hI⟩ := hrel
    have HI := Lib.hid hI.out
    clear hI
    by_cases hlt : j < n
    · have hltz : (j : Int) < (n : Int) := by omega
      have g3 := HI.out.2.2.1
      obtain ⟨x0, x1, x2, x3, x4, x5, x6⟩ := seven_cells g3
      have SHJ : Hid (∀ l, (T9.many (Cd.rdB 60) j (T9.s7 s)).2 = some l → l.length ≤ 1099511627776) := Lib.hid ((shr_many9 j (T9.s7 s)).bound (SH7.out.bound L0.out))
      have CB := Lib.hid (rB_rd (w := wr.drew) (mz := 60) (HI.out.1.tch (Tch.refl B [] wr).drew (by simp) (by simp)) (by decide) SHJ.out (by decide) (by decide))
      clear g3
      have S0 : wr.drew.cell? ⟨w1.heap.size, 6, none⟩ = some (.slice A j c) := x6
      go_wp2_with fail
      refine Any.begin (S := fun u => u.cell? ⟨w1.heap.size, 6, none⟩ = some (.slice A j c)) (st := 8) mixed9 ?_
      refine Any.take (st := 8) (i := 0) (v := ?_) rfl (by kernel_rfl) (by kernel_rfl) (by kernel_rfl) rfl (by kernel_rfl) (fun _ _ _ h => h) (Or.inl ⟨by rfl, ?_⟩) S0 ?_
      rotate_left
      · intro u hu
        have hu : u.cell? ⟨w1.heap.size, 6, none⟩ = some (.slice A j c) := hu
        go_simp
        try rfl
      try simp only [Act.put, List.setIfInBounds_toArray, List.set_cons_zero, List.set_cons_succ, List.getElem_toArray, List.getElem_cons_zero]
      refine Any.take (st := 8) (i := 1) (v := ?_) rfl (by kernel_rfl) (by kernel_rfl) (by kernel_rfl) rfl (by kernel_rfl) (fun _ _ _ h => h) (Or.inl ⟨by rfl, ?_⟩) S0 ?_
      rotate_left
      · intro u hu
        have hu : u.cell? ⟨w1.heap.size, 6, none⟩ = some (.slice A j c) := hu
        go_simp
        try rfl
      try simp only [Act.put, List.setIfInBounds_toArray, List.set_cons_zero, List.set_cons_succ, List.getElem_toArray, List.getElem_cons_zero, List.getElem_cons_succ]
      refine Any.take (st := 8) (i := 2) (v := ?_) rfl (by kernel_rfl) (by kernel_rfl) (by kernel_rfl) rfl (by kernel_rfl) (fun _ _ _ h => h) (Or.inl ⟨by rfl, ?_⟩) S0 ?_
      rotate_left
      · intro u hu
        have hu : u.cell? ⟨w1.heap.size, 6, none⟩ = some (.slice A j c) := hu
        go_simp
        try rfl
      try simp only [Act.put, List.setIfInBounds_toArray, List.set_cons_zero, List.set_cons_succ, List.getElem_toArray, List.getElem_cons_zero, List.getElem_cons_succ]
      clear S0
      refine Any.one (i := 3) (by kernel_rfl) rfl (fun K hK => ?_)
      go_simp
      refine CB.out.mono ?_
      rintro e wa ⟨Ab, nb, cb, rfl, hob, hr, ht⟩
      obtain ⟨hnb, _⟩ := own_room hob
      obtain ⟨x, hx⟩ : ∃ v, v = (Cd.rdB (60 : Int).toNat (T9.many (Cd.rdB 60) j (T9.s7 s)).2).1 := ⟨_, rfl⟩
      have cv := conv_at (c := cb) (lies_own (B := 0) (t := 5) hob) hnb
      rw [← hx] at cv
      have HX := Lib.hid hx
      have HA := Lib.hid (And.intro hr ht)
      have ga := ht.blk HI.out.2.2.1 (by decide)
      have GA := Lib.hid ga
      have xa := (seven_cells ga).2.2.2.2.2.2
      clear hob hnb hx hr ht ga
      refine hK _ _ (fun _ => xa) ?_
      clear hK K
      try simp only [Act.put, List.setIfInBounds_toArray, List.set_cons_zero, List.set_cons_succ, List.getElem_toArray, List.getElem_cons_zero, List.getElem_cons_succ]
      refine Any.one (i := 4) (by kernel_rfl) rfl (fun K hK => ?_)
      go_simp
      refine hK _ _ (fun _ => xa) ?_
      clear hK K cv
      try simp only [Act.put, List.setIfInBounds_toArray, List.set_cons_zero, List.set_cons_succ, List.getElem_toArray, List.getElem_cons_zero, List.getElem_cons_succ]
      refine Any.one (i := 5) (by kernel_rfl) rfl (fun K hK => ?_)
      go_simp
      refine hK _ _ (fun _ => (seven_cells (blk_alloc GA.out _)).2.2.2.2.2.2) ?_
      clear hK K
      try simp only [Act.put, List.setIfInBounds_toArray, List.set_cons_zero, List.set_cons_succ, List.getElem_toArray, List.getElem_cons_zero, List.getElem_cons_succ]
      refine Any.one (i := 6) (by kernel_rfl) rfl (fun K hK => ?_)
      have TA := Lib.hid ((Tch.refl B [116] wr).drew.trans HA.out.2)
      have zB := HA.out.1.size
      have z0 : w.heap.size ≤ wa.heap.size := by have := lt_of_block GA.out; have := GZ.out; omega
      have OWa := Lib.hid (own_tch HI.out.2.1 TA.out (by decide))
      refine step_own rfl _ _ 35 rfl w.heap.size 9 fi0 _ 1 16 Try.underlying35 hfi fz0 fz1 fz2 rfl (by decide) _ j _ rfl (OWa.out.alloc (.cells #[.string (str x)] 9)) 0 (some ⟨wa.heap.size, 0, none⟩) 1 1 [encS x] 9 rfl rfl (Lies.of_blk (heap_alloc_new wa _)) (by intro v hv; simp at hv; subst hv; rfl) (by unfold maxLen; omega) (by omega) (by simp; omega) ?_
      intro v6 w6 hown6 hgrow6 hor6
      obtain ⟨A6, k6, rfl⟩ := own_slice hown6
      have g6b := grown_blk (OWa.out.alloc (.cells #[.string (str x)] 9)) hgrow6 (blk_alloc GA.out (.cells #[.string (str x)] 9)) (by decide)
      have rb6 := grown_blk (OWa.out.alloc (.cells #[.string (str x)] 9)) hgrow6 (blk_alloc (TA.out.blk HI.out.2.2.2.1 (by decide)) (.cells #[.string (str x)] 9)) (by decide)
      have T6 : Hid (Tch B [9] wa w6) := Lib.hid (((Tch.refl B [9] wa).alloc zB (.cells #[.string (str x)] 9)).trans (grown_tch (B := B) (ts := [9]) (OWa.out.alloc (.cells #[.string (str x)] 9)) hgrow6 BS.out (by simp; omega) (by simp)))
      have R6' : Hid (RS 116 B 5 w6 p (T9.many (Cd.rdB 60) (j + 1) (T9.s7 s)).2) := Lib.hid (by
        rw [T9.many_snoc]
        exact HA.out.1.tch T6.out (by decide) (by decide))
      have keep6 : ∀ k, k < w.heap.size → w6.heap[k]? = wa.heap[k]? := fun k hk => (hgrow6.block k (by simp; omega) (fun q => by
        have := ((OWa.out.alloc (.cells #[.string (str x)] 9)).lt k q.symm).1
        omega)).trans (Below.heap_alloc wa _ k (by omega))
      have TT := HI.out.2.2.2.2.trans TA.out
      have TW6 : Hid (Tch B [116] w w6) := Lib.hid ⟨TT.below.trans T6.out.below, fun k cs t fr hk ht => (keep6 k (lt_of_block hk)).trans (TT.typed k cs t fr hk ht)⟩
      clear keep6 TT
      have HO6 := Lib.hid hown6
      have G6 := Lib.hid g6b
      have RB6 := Lib.hid rb6
      have x66 := (seven_cells g6b).2.2.2.2.2.2
      have f66 := blk_free g6b 6
      refine hK _ _ (fun _ => x66) ?_
      clear hK K hown6 hgrow6 hor6 g6b rb6 x6 xa
      try simp only [Act.put, List.setIfInBounds_toArray, List.set_cons_zero, List.set_cons_succ, List.getElem_toArray, List.getElem_cons_zero, List.getElem_cons_succ]
      refine Any.one (i := 7) (by kernel_rfl) rfl (fun K hK => ?_)
      go_simp
      refine hK _ _ (fun _ => x66) ?_
      clear hK K
      try simp only [Act.put, List.setIfInBounds_toArray, List.set_cons_zero, List.set_cons_succ, List.getElem_toArray, List.getElem_cons_zero, List.getElem_cons_succ]
      refine Any.one (i := 8) (by kernel_rfl) rfl (fun K hK => ?_)
      go_simp
      refine hK _ _ (fun e => absurd rfl e) ?_
      clear hK K
      try simp only [Act.put, List.setIfInBounds_toArray, List.set_cons_zero, List.set_cons_succ, List.getElem_toArray, List.getElem_cons_zero]
      refine Any.done (by kernel_rfl) ?_
      have Y6 : Hid (Ty w6 w1.heap.size 37) := Lib.hid ⟨_, _, G6.out⟩
      have gz := GZ.out
      have bs := BS.out
      have R7 : Hid (RS 116 B 5 (w6.setCell ⟨w1.heap.size, 6, none⟩ (.slice A6 (j + 1) k6)) p (T9.many (Cd.rdB 60) (j + 1) (T9.s7 s)).2) := Lib.hid (R6'.out.setFar Y6.out (by omega) (by decide) _ _)
      have O7 : Hid ((w6.setCell ⟨w1.heap.size, 6, none⟩ (.slice A6 (j + 1) k6)).ownsRow w.heap.size 9 1 (.slice A6 (j + 1) k6) (j + 1) (gcells (T9.many (Cd.rdB 60) (j + 1) (T9.s7 s)).1)) := Lib.hid (by
        rw [T9.many_snoc, gcells_snoc]
        have hx : x = (Cd.rdB 60 (T9.many (Cd.rdB 60) j (T9.s7 s)).2).1 := HX.out
        rw [← hx]
        exact own_far HO6.out G6.out (by decide) _)
      have LB7 : Hid ((w6.setCell ⟨w1.heap.size, 6, none⟩ (.slice A6 (j + 1) k6)).heap[w1.heap.size]? = some (.cells #[.int .u64 (i0 : Int), .int .u64 (i1 : Int), .string (str i2), .bool i3, .float .f64 i4, .float .f64 i5, .slice A6 (j + 1) k6] 37 (0, 0))) := Lib.hid ((blk_set G6.out 6 (.slice A6 (j + 1) k6)).trans rfl)
      have RB7 : Hid ((w6.setCell ⟨w1.heap.size, 6, none⟩ (.slice A6 (j + 1) k6)).heap[w.heap.size]? = some (.cells #[.int .u64 0, .int .u64 0, .string ⟨#[]⟩, .bool false, .float .f64 0, .float .f64 0, .slice none 0 0] 37 (0, 0))) := Lib.hid (blk_far RB6.out (p := ⟨w1.heap.size, 6, none⟩) (by show w.heap.size ≠ w1.heap.size; omega) _)
      have T7 : Hid (Tch B [116] w (w6.setCell ⟨w1.heap.size, 6, none⟩ (.slice A6 (j + 1) k6))) := Lib.hid (TW6.out.setNew (p := ⟨w1.heap.size, 6, none⟩) (by show w.heap.size ≤ w1.heap.size; omega) bs _)
      clear gz bs z0 zB x66 f66
      go_wp2
      go_roundw
      case rel => exact ⟨j + 1, A6, k6, by go_num, by omega, R7.out, O7.out, LB7.out, RB7.out, T7.out⟩
      case measure => simp [intOf]; omega
    · obtain rfl : j = n := by omega
      have hltz : ¬ ((j : Int) < (j : Int)) := by omega
      have g3 := HI.out.2.2.1
      have rb3 := HI.out.2.2.2.1
      obtain ⟨x0, x1, x2, x3, x4, x5, x6⟩ := seven_cells g3
      obtain ⟨q0, q1, q2, q3, q4, q5, q6⟩ := seven_cells rb3
      have fr0 := blk_free rb3 0
      have fr1 := blk_free rb3 1
      have fr2 := blk_free rb3 2
      have fr3 := blk_free rb3 3
      have fr4 := blk_free rb3 4
      have fr5 := blk_free rb3 5
      have fr6 := blk_free rb3 6
      have RBF : Hid ((((((((wr.setCell ⟨w.heap.size, 0, none⟩ (.int .u64 (i0 : Int))).setCell ⟨w.heap.size, 1, none⟩ (.int .u64 (i1 : Int))).setCell ⟨w.heap.size, 2, none⟩ (.string (str i2))).setCell ⟨w.heap.size, 3, none⟩ (.bool i3)).setCell ⟨w.heap.size, 4, none⟩ (.float .f64 i4)).setCell ⟨w.heap.size, 5, none⟩ (.float .f64 i5)).setCell ⟨w.heap.size, 6, none⟩ (.slice A j c)).heap[w.heap.size]? = some (.cells #[.int .u64 (i0 : Int), .int .u64 (i1 : Int), .string (str i2), .bool i3, .float .f64 i4, .float .f64 i5, .slice A j c] 37 (0, 0))) := Lib.hid ((blk_set (blk_set (blk_set (blk_set (blk_set (blk_set (blk_set rb3 0 (.int .u64 (i0 : Int))) 1 (.int .u64 (i1 : Int))) 2 (.string (str i2))) 3 (.bool i3)) 4 (.float .f64 i4)) 5 (.float .f64 i5)) 6 (.slice A j c)).trans rfl)
      obtain ⟨k0, k1, k2, k3, k4, k5, k6⟩ := seven_cells RBF.out
      clear g3 rb3
      go_wp2
      refine bodyPost_ret (v := .agg #[.int .u64 (i0 : Int), .int .u64 (i1 : Int), .string (str i2), .bool i3, .float .f64 i4, .float .f64 i5, .slice A j c]) (by simp [results, Try.results56, go_sem, k0, k1, k2, k3, k4, k5, k6]) rfl ?_
      have TL : (T9.many (Cd.rdB 60) j (T9.s7 s)).1.length = j := T9.many_len _ _ _
      have bs := BS.out
      have yr : Ty wr w.heap.size 37 := ⟨_, _, HI.out.2.2.2.1⟩
      have TF := ((((((((Tch.refl B [37] wr).setTy (p := ⟨w.heap.size, 0, none⟩) (yr) (by simp) bs (.int .u64 (i0 : Int))).setTy (p := ⟨w.heap.size, 1, none⟩) ((yr).set ⟨w.heap.size, 0, none⟩ (.int .u64 (i0 : Int))) (by simp) bs (.int .u64 (i1 : Int))).setTy (p := ⟨w.heap.size, 2, none⟩) (((yr).set ⟨w.heap.size, 0, none⟩ (.int .u64 (i0 : Int))).set ⟨w.heap.size, 1, none⟩ (.int .u64 (i1 : Int))) (by simp) bs (.string (str i2))).setTy (p := ⟨w.heap.size, 3, none⟩) ((((yr).set ⟨w.heap.size, 0, none⟩ (.int .u64 (i0 : Int))).set ⟨w.heap.size, 1, none⟩ (.int .u64 (i1 : Int))).set ⟨w.heap.size, 2, none⟩ (.string (str i2))) (by simp) bs (.bool i3)).setTy (p := ⟨w.heap.size, 4, none⟩) (((((yr).set ⟨w.heap.size, 0, none⟩ (.int .u64 (i0 : Int))).set ⟨w.heap.size, 1, none⟩ (.int .u64 (i1 : Int))).set ⟨w.heap.size, 2, none⟩ (.string (str i2))).set ⟨w.heap.size, 3, none⟩ (.bool i3)) (by simp) bs (.float .f64 i4)).setTy (p := ⟨w.heap.size, 5, none⟩) ((((((yr).set ⟨w.heap.size, 0, none⟩ (.int .u64 (i0 : Int))).set ⟨w.heap.size, 1, none⟩ (.int .u64 (i1 : Int))).set ⟨w.heap.size, 2, none⟩ (.string (str i2))).set ⟨w.heap.size, 3, none⟩ (.bool i3)).set ⟨w.heap.size, 4, none⟩ (.float .f64 i4)) (by simp) bs (.float .f64 i5)).setTy (p := ⟨w.heap.size, 6, none⟩) (((((((yr).set ⟨w.heap.size, 0, none⟩ (.int .u64 (i0 : Int))).set ⟨w.heap.size, 1, none⟩ (.int .u64 (i1 : Int))).set ⟨w.heap.size, 2, none⟩ (.string (str i2))).set ⟨w.heap.size, 3, none⟩ (.bool i3)).set ⟨w.heap.size, 4, none⟩ (.float .f64 i4)).set ⟨w.heap.size, 5, none⟩ (.float .f64 i5)) (by simp) bs (.slice A j c))
      have TN := (((((((HI.out.2.2.2.2.setNew (p := ⟨w.heap.size, 0, none⟩) (Nat.le_refl _) bs (.int .u64 (i0 : Int))).setNew (p := ⟨w.heap.size, 1, none⟩) (Nat.le_refl _) bs (.int .u64 (i1 : Int))).setNew (p := ⟨w.heap.size, 2, none⟩) (Nat.le_refl _) bs (.string (str i2))).setNew (p := ⟨w.heap.size, 3, none⟩) (Nat.le_refl _) bs (.bool i3)).setNew (p := ⟨w.heap.size, 4, none⟩) (Nat.le_refl _) bs (.float .f64 i4)).setNew (p := ⟨w.heap.size, 5, none⟩) (Nat.le_refl _) bs (.float .f64 i5)).setNew (p := ⟨w.heap.size, 6, none⟩) (Nat.le_refl _) bs (.slice A j c))
      refine ⟨⟨⟨i0, i1, i2, i3, i4, i5, (T9.many (Cd.rdB 60) j (T9.s7 s)).1⟩, A, c⟩, ?_, ?_, ?_, ?_, ?_, TN⟩
      · show _ = Ending.returned (Value.agg #[.int .u64 (i0 : Int), .int .u64 (i1 : Int), .string (str i2), .bool i3, .float .f64 i4, .float .f64 i5, .slice A (T9.many (Cd.rdB 60) j (T9.s7 s)).1.length c])
        rw [TL]
      · show T9.Tk.mk i0 i1 i2 i3 i4 i5 _ = (T9.rdTk s).1
        unfold T9.rdTk
        rw [I0.out, I1.out, I2.out, I3.out, I4.out, I5.out, NT.out]
      · exact (lies_own (t := 9) HI.out.2.1).tch TF.zero (by decide)
      · show (T9.many (Cd.rdB 60) j (T9.s7 s)).1.length ≤ c
        rw [TL]
        exact (own_room HI.out.2.1).2
      · unfold T9.rdTk
        rw [← NT.out]
        exact HI.out.1.tch TF (by decide) (by decide)
end Go.Proofs.Ytbgdmmemahfpbaa
