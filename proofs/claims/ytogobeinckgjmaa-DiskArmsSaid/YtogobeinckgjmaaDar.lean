/- Stage 5: the law DiskArms, the walk. -/
import Derived.Test.YtogobeinckgjmaaDa
namespace Go.Proofs.Ytogobeinckgjmaa
open Go.RowKit

/-- A disk that was armed, and how many more it is for. -/
structure Arms (arm lf : Int) (j : Nat) (D : Dk.D) : Prop where
  ok : D.ok
  dead : D.dead = false
  left : D.left = if 0 ≤ lf then lf else -1
  iff : 0 ≤ arm ↔ 0 ≤ lf
  low : -9223372036854775808 ≤ lf
  high : lf ≤ 9223372036854775807
  few : D.cache.length ≤ j
theorem Arms.begin {arm : Int} (n : Int) (h : -9223372036854775808 ≤ arm ∧ arm ≤ 9223372036854775807) : Arms arm arm 0 (Dk.arm (Dk.new n) arm) :=
  ⟨Dk.arm_ok (Dk.new_ok n) arm, rfl, rfl, Iff.rfl, h.1, h.2, Nat.le_refl _⟩
theorem Arms.top {arm lf : Int} {j : Nat} {D : Dk.D} (h : Arms arm lf j D) : D.left ≤ 9223372036854775807 := by
  rw [h.left]; have := h.high; split <;> omega
theorem Arms.next {arm lf : Int} {j : Nat} {D : Dk.D} (h : Arms arm lf j D) : Arms arm lf (j + 1) D := ⟨h.ok, h.dead, h.left, h.iff, h.low, h.high, Nat.le_succ_of_le h.few⟩
theorem Arms.act {arm lf : Int} {j : Nat} {D : Dk.D} (h : Arms arm lf j D) : ((Dk.act D).1 = 50 ∧ lf = 0 ∧ (Dk.act D).2.dead = true) ∨ ((Dk.act D).1 = 0 ∧ lf ≠ 0 ∧ (Dk.act D).2.dead = false ∧ (Dk.act D).2.left = if 0 ≤ (if 0 < lf then lf - 1 else lf) then (if 0 < lf then lf - 1 else lf) else -1) := by
  have hl := h.left
  have hd := h.dead
  by_cases z : lf = 0
  · subst z
    refine Or.inl ?_
    have q : Dk.act D = (50, { D with dead := true }) := by unfold Dk.act; rw [if_pos (Or.inr (by rw [hl]; simp))]
    rw [q]
    exact ⟨rfl, rfl, rfl⟩
  · refine Or.inr ?_
    have nz : D.left ≠ 0 := by rw [hl]; split <;> omega
    have q : Dk.act D = (0, if 0 < D.left then { D with left := D.left - 1 } else D) := by unfold Dk.act; rw [if_neg (by rw [hd]; simpa using nz)]
    rw [q]
    refine ⟨rfl, z, ?_, ?_⟩
    · show (if 0 < D.left then { D with left := D.left - 1 } else D).dead = false
      split <;> exact hd
    · show (if 0 < D.left then { D with left := D.left - 1 } else D).left = _
      by_cases c : 0 < lf
      · rw [if_pos (show 0 ≤ lf by omega)] at hl
        rw [if_pos (show 0 < D.left by omega), if_pos c, if_pos (show 0 ≤ lf - 1 by omega)]
        show D.left - 1 = lf - 1
        rw [hl]
      · rw [if_neg (show ¬ 0 ≤ lf by omega)] at hl
        rw [if_neg (show ¬ 0 < D.left by omega), if_neg c, if_neg (show ¬ 0 ≤ lf by omega)]
        exact hl
theorem Arms.iff2 {arm lf : Int} {j : Nat} {D : Dk.D} (h : Arms arm lf j D) : (0 ≤ arm ↔ 0 ≤ (if 0 < lf then lf - 1 else lf)) ∧ -9223372036854775808 ≤ (if 0 < lf then lf - 1 else lf) ∧ (if 0 < lf then lf - 1 else lf) ≤ 9223372036854775807 := by
  have := h.iff; have := h.low; have := h.high
  split <;> omega
theorem Arms.write {arm lf : Int} {j : Nat} {D : Dk.D} (h : Arms arm lf j D) (i : Int) (b : List UInt8) :
    (((Dk.write D i b).1 = 1 ∨ (Dk.write D i b).1 = 2) ∧ (Dk.write D i b).2 = D) ∨ ((Dk.write D i b).1 = 50 ∧ lf = 0 ∧ (Dk.write D i b).2.ok ∧ (Dk.write D i b).2.dead = true ∧ (Dk.write D i b).2.cache.length ≤ j) ∨
    ((Dk.write D i b).1 = 0 ∧ lf ≠ 0 ∧ Arms arm (if 0 < lf then lf - 1 else lf) (j + 1) (Dk.write D i b).2) := by
  have ok := Dk.write_ok h.ok i b
  unfold Dk.write at ok ⊢
  rw [if_neg (by rw [h.dead]; simp)] at ok ⊢
  split at ok
  · rename_i q; rw [if_pos q]; exact Or.inl ⟨Or.inl rfl, rfl⟩
  rename_i q1; rw [if_neg q1]
  split at ok
  · rename_i q; rw [if_pos q]; exact Or.inl ⟨Or.inr rfl, rfl⟩
  rename_i q2; rw [if_neg q2]
  obtain ⟨i2, i3, i4⟩ := h.iff2
  rcases h.act with ⟨a1, a2, a3⟩ | ⟨a1, a2, a3, a4⟩
  · rw [if_neg (by rw [a1]; decide)] at ok ⊢
    exact Or.inr (Or.inl ⟨a1, a2, ok, a3, by rw [Dk.act_cache]; exact h.few⟩)
  · rw [if_pos a1] at ok ⊢
    refine Or.inr (Or.inr ⟨rfl, a2, ok, a3, a4, i2, i3, i4, ?_⟩)
    show ((Dk.act D).2.cache ++ [_]).length ≤ j + 1
    rw [List.length_append, Dk.act_cache]
    have := h.few
    simp; omega
theorem Arms.flush {arm lf : Int} {j : Nat} {D : Dk.D} (h : Arms arm lf j D) :
    ((Dk.flush D).1 = 50 ∧ lf = 0 ∧ (Dk.flush D).2.ok ∧ (Dk.flush D).2.dead = true ∧ (Dk.flush D).2.cache.length ≤ j) ∨
    ((Dk.flush D).1 = 0 ∧ lf ≠ 0 ∧ Arms arm (if 0 < lf then lf - 1 else lf) (j + 1) (Dk.flush D).2) := by
  have ok := Dk.flush_ok h.ok
  unfold Dk.flush at ok ⊢
  obtain ⟨i2, i3, i4⟩ := h.iff2
  rcases h.act with ⟨a1, a2, a3⟩ | ⟨a1, a2, a3, a4⟩
  · rw [if_neg (by rw [a1]; decide)] at ok ⊢
    exact Or.inl ⟨a1, a2, ok, a3, by rw [Dk.act_cache]; exact h.few⟩
  · rw [if_pos a1] at ok ⊢
    exact Or.inr ⟨rfl, a2, ok, a3, a4, i2, i3, i4, Nat.zero_le _⟩

set_option maxHeartbeats 4000000 in
set_option maxRecDepth 100000 in
theorem diskArms_c {A KA : Option Addr} {cl ck : Nat} {l : List MDd} {ks : List Bool} {w : World} (n arm : Int) (hl : DL w w.heap.size A l) (hok : ∀ m ∈ l, m.x.ok) (hcl : l.length ≤ cl) (hK : Lies w w.heap.size 0 KA (ks.map Value.bool)) (hck : ks.length ≤ ck) (hn1 : n ≤ 9223372036854775807) (ha : -9223372036854775808 ≤ arm ∧ arm ≤ 9223372036854775807) (hs : l.length ≤ 9223372036854775807) (hs2 : ks.length ≤ 9223372036854775807) :
    Calls Try.prog 6 #[.int .i64 n, .slice A l.length cl, .int .i64 arm, .slice KA ks.length ck] w fun e w' => e = .returned (.bool true) ∧ Below w.heap.size w w' := by
  have HL := Lib.hid hl
  have HOK := Lib.hid hok
  have HK := Lib.hid hK
  have HA := Lib.hid ha
  have HN := Lib.hid hn1
  have HCL := Lib.hid hcl
  have HCK := Lib.hid hck
  clear hl hok hK ha hn1 hcl hck
  go_enter Try.func6, Try.ntmps6
  go_wp2_with fail
  refine (awake5 w).mono ?_
  rintro e w1 ⟨rfl, hb1⟩
  have B1 := Lib.hid hb1
  clear hb1
  have z1 := B1.out.size
  go_wp2_with fail
  refine (few5_c (HL.out.below (Nat.le_refl _) B1.out) z1 rfl hs).mono ?_
  cases hf : Dk.few (dds l)
  · rintro e w2 ⟨rfl, hb2⟩
    have B2 := Lib.hid (B1.out.trans (hb2.mono z1))
    clear hb2 hf
    go_wp2
    go_ret
    exact ⟨rfl, B2.out⟩
  rintro e w2 ⟨rfl, hb2⟩
  have B2 := Lib.hid (B1.out.trans (hb2.mono z1))
  have HF := Lib.hid (Dk.few_len hf)
  have z2 := B2.out.size
  clear hb2 hf
  by_cases hn : 50 < n
  · go_wp2
    go_ret
    exact ⟨rfl, B2.out⟩
  by_cases hk : 100 < ks.length
  · have hk2 : (100 : Int) < (ks.length : Int) := by omega
    go_wp2
    go_ret
    exact ⟨rfl, B2.out⟩
  have hk2 : (ks.length : Int) ≤ 100 := by omega
  go_wp2_with fail
  refine (cdNew_c n _ HN.out).mono ?_
  intro e w3 hp
  obtain ⟨q, G3, rfl, hs3, _, hb3⟩ := CNewOk.step z2 hp
  have S3 := Lib.hid hs3
  have B3 := Lib.hid (B2.out.trans (hb3.mono z2))
  have z3 := B3.out.size
  have O3 := Lib.hid (Dk.new_ok n)
  clear hp hs3 hb3
  go_wp2_with fail
  refine (cdArm_c S3.out.cd arm).mono ?_
  intro e w4 hp
  obtain ⟨rfl, G4, hs4⟩ := CdOk0.step S3.out z3 hp
  have S4 := Lib.hid hs4.cs
  have B4 := Lib.hid (B3.out.trans hs4.below)
  have z4 := B4.out.size
  have O4 := Lib.hid (Dk.arm_ok O3.out arm)
  clear hp hs4
  have A4 := Lib.hid (Arms.begin n HA.out)
  have k100 : ks.length ≤ 100 := by omega
  go_wp2_with fail
  go_loopw [10, 36] (fun lv i wr => ∃ (j : Nat) (lf : Int) (G : Nat → Prop) (D : Dk.D), j ≤ l.length ∧ lv = .int .i64 lf ∧ i = .int .i64 j ∧ CS wr w.heap.size G q D ∧ Arms arm lf j D ∧ Below w.heap.size w wr) (fun _ i _ => l.length - (intOf i).toNat)
  case atStart => exact ⟨0, arm, G4, _, Nat.zero_le _, rfl, rfl, S4.out, A4.out, B4.out⟩
  case round =>
    obtain ⟨j, lf, G, D, hj, rfl, rfl, hs, har, hb⟩ := hrel
    have HS := Lib.hid hs
    have HAR := Lib.hid har
    have HB := Lib.hid hb
    have hz := hb.size
    have l40 : l.length ≤ 40 := by have := HF.out.1; rw [dds_len] at this; exact this
    clear hs har hb
    by_cases hlt : j < l.length
    · obtain ⟨ad, m, rfl, hm, _, d0, d1, d2, d3, d4⟩ := (HL.out.below (Nat.le_refl _) HB.out).at_ hlt
      have FI := Lib.hid (HL.out.2 m (List.mem_of_getElem? hm))
      have BL : m.x.b.length ≤ 100 := (HF.out.2 m.x (List.mem_map.2 ⟨m, List.mem_of_getElem? hm, rfl⟩)).1
      clear hm
      by_cases k0 : m.x.kind = 0
      · rw [k0] at d0
        have WA := Lib.hid (fun o => (Below.refl wr.heap.size wr).alloc (Nat.le_refl _) o)
        go_wp2_with fail
        have HSa := Lib.hid (HS.out.keep (WA.out (.cells #[.int .i64 0, .int .i64 m.x.at_, .slice m.A m.x.b.length m.c, .int .i64 m.x.n, .slice m.KA m.x.keep.length m.Kc] 32)))
        have HBa := Lib.hid (HB.out.trans ((WA.out (.cells #[.int .i64 0, .int .i64 m.x.at_, .slice m.A m.x.b.length m.c, .int .i64 m.x.n, .slice m.KA m.x.keep.length m.Kc] 32)).mono hz))
        refine (cdWrite_c HSa.out.cd HAR.out.ok HAR.out.top (by have := HAR.out.few; omega) (FI.out.1.1.below (Nat.le_refl _) HBa.out) (FI.out.1.1.far HSa.out.old HBa.out.size) rfl (by omega) FI.out.1.2 m.x.at_).mono ?_
        intro e w5 hp
        obtain ⟨rfl, G5, hs5⟩ := CdOk.step HSa.out HBa.out.size hp
        have S5 := Lib.hid hs5.cs
        have B5 := Lib.hid (HBa.out.trans hs5.below)
        have hw := HAR.out.write m.x.at_ m.x.b
        clear hp hs5 k0
        generalize Dk.write D m.x.at_ m.x.b = r at *
        obtain ⟨er, D2⟩ := r
        dsimp only at hw S5 ⊢
        rcases hw with ⟨he, rfl⟩ | ⟨rfl, rfl, ok5, dd5, cl5⟩ | ⟨rfl, nz5, ar5⟩
        · rcases he with rfl | rfl
          · go_wp2
            go_roundw
            case rel => exact ⟨j + 1, lf, G5, D2, by omega, rfl, by go_num, S5.out, HAR.out.next, B5.out⟩
            case measure => simp [intOf]; omega
          · go_wp2
            go_roundw
            case rel => exact ⟨j + 1, lf, G5, D2, by omega, rfl, by go_num, S5.out, HAR.out.next, B5.out⟩
            case measure => simp [intOf]; omega
        · have ha0 : 0 ≤ arm := HAR.out.iff.2 (Int.le_refl 0)
          go_wp2_with fail
          refine (cdDead_c S5.out.cd).mono ?_
          rintro e w6 ⟨rfl, hb6⟩
          have S6 := Lib.hid (S5.out.keep hb6)
          have B6 := Lib.hid (B5.out.trans (hb6.mono B5.out.size))
          clear hb6
          rw [dd5]
          have TS := Lib.hid S6.out
          have TO := Lib.hid ok5
          have TB := Lib.hid B6.out
          have TL : D2.cache.length ≤ 100 := by omega
          go_wp2_with fail
          refine (cdCrash_c (ks := ks) TS.out.cd TO.out (by omega) (HK.out.below (Nat.le_refl _) TB.out) (HK.out.far TS.out.old TB.out.size) rfl (by omega) HCK.out).mono ?_
          intro e w7 hp
          obtain ⟨rfl, G7, hs7⟩ := CdOk0.step TS.out TB.out.size hp
          have S7 := Lib.hid hs7.cs
          have B7 := Lib.hid (TB.out.trans hs7.below)
          have O7 := Lib.hid (Dk.crash_ok TO.out ks)
          clear hp hs7
          go_wp2_with fail
          refine (cdDead_c S7.out.cd).mono ?_
          rintro e w8 ⟨rfl, hb8⟩
          have S8 := Lib.hid (S7.out.keep hb8)
          have B8 := Lib.hid (B7.out.trans (hb8.mono B7.out.size))
          clear hb8
          rw [show (Dk.crash D2 ks).dead = false from rfl]
          go_wp2_with fail
          refine (cdFlush_c S8.out.cd O7.out (by show (-1 : Int) ≤ _; omega) (by show (0 : Nat) ≤ _; omega)).mono ?_
          intro e w9 hp
          obtain ⟨rfl, G9, hs9⟩ := CdOk.step S8.out B8.out.size hp
          have B9 := Lib.hid (B8.out.trans hs9.below)
          clear hp hs9
          rw [show (Dk.flush (Dk.crash D2 ks)).1 = 0 from rfl]
          go_wp2
          go_ret
          exact ⟨rfl, B9.out⟩
        · have AR5 := Lib.hid ar5
          have dd5 := ar5.dead
          clear ar5
          rcases Int.lt_or_lt_of_ne nz5 with lneg | lpos
          · have ha0 : arm < 0 := by have := HAR.out.iff; omega
            go_wp2_with fail
            refine (cdDead_c S5.out.cd).mono ?_
            rintro e w6 ⟨rfl, hb6⟩
            have S6 := Lib.hid (S5.out.keep hb6)
            have B6 := Lib.hid (B5.out.trans (hb6.mono B5.out.size))
            clear hb6
            rw [dd5]
            go_wp2
            go_roundw
            case rel =>
              have q := AR5.out
              rw [if_neg (by omega)] at q
              exact ⟨j + 1, lf, G5, D2, by omega, rfl, by go_num, S6.out, q, B6.out⟩
            case measure => simp [intOf]; omega
          · have ha0 : 0 ≤ arm := by have := HAR.out.iff; omega
            have lhi := HAR.out.high
            go_wp2_with fail
            refine (cdDead_c S5.out.cd).mono ?_
            rintro e w6 ⟨rfl, hb6⟩
            have S6 := Lib.hid (S5.out.keep hb6)
            have B6 := Lib.hid (B5.out.trans (hb6.mono B5.out.size))
            clear hb6
            rw [dd5]
            go_wp2
            go_roundw
            case rel =>
              have q := AR5.out
              rw [if_pos lpos] at q
              exact ⟨j + 1, lf - 1, G5, D2, by omega, by go_num, by go_num, S6.out, q, B6.out⟩
            case measure => simp [intOf]; omega
      by_cases k2 : m.x.kind = 2
      · rw [k2] at d0
        have WA := Lib.hid (fun o => (Below.refl wr.heap.size wr).alloc (Nat.le_refl _) o)
        go_wp2_with fail
        have HSa := Lib.hid (HS.out.keep (WA.out (.cells #[.int .i64 2, .int .i64 m.x.at_, .slice m.A m.x.b.length m.c, .int .i64 m.x.n, .slice m.KA m.x.keep.length m.Kc] 32)))
        have HBa := Lib.hid (HB.out.trans ((WA.out (.cells #[.int .i64 2, .int .i64 m.x.at_, .slice m.A m.x.b.length m.c, .int .i64 m.x.n, .slice m.KA m.x.keep.length m.Kc] 32)).mono hz))
        refine (cdFlush_c HSa.out.cd HAR.out.ok HAR.out.top (by have := HAR.out.few; omega)).mono ?_
        intro e w5 hp
        obtain ⟨rfl, G5, hs5⟩ := CdOk.step HSa.out HBa.out.size hp
        have S5 := Lib.hid hs5.cs
        have B5 := Lib.hid (HBa.out.trans hs5.below)
        have hw := HAR.out.flush
        clear hp hs5 k0 k2
        generalize Dk.flush D = r at *
        obtain ⟨er, D2⟩ := r
        dsimp only at hw S5 ⊢
        rcases hw with ⟨rfl, rfl, ok5, dd5, cl5⟩ | ⟨rfl, nz5, ar5⟩
        · have ha0 : 0 ≤ arm := HAR.out.iff.2 (Int.le_refl 0)
          go_wp2_with fail
          refine (cdDead_c S5.out.cd).mono ?_
          rintro e w6 ⟨rfl, hb6⟩
          have S6 := Lib.hid (S5.out.keep hb6)
          have B6 := Lib.hid (B5.out.trans (hb6.mono B5.out.size))
          clear hb6
          rw [dd5]
          have TS := Lib.hid S6.out
          have TO := Lib.hid ok5
          have TB := Lib.hid B6.out
          have TL : D2.cache.length ≤ 100 := by omega
          go_wp2_with fail
          refine (cdCrash_c (ks := ks) TS.out.cd TO.out (by omega) (HK.out.below (Nat.le_refl _) TB.out) (HK.out.far TS.out.old TB.out.size) rfl (by omega) HCK.out).mono ?_
          intro e w7 hp
          obtain ⟨rfl, G7, hs7⟩ := CdOk0.step TS.out TB.out.size hp
          have S7 := Lib.hid hs7.cs
          have B7 := Lib.hid (TB.out.trans hs7.below)
          have O7 := Lib.hid (Dk.crash_ok TO.out ks)
          clear hp hs7
          go_wp2_with fail
          refine (cdDead_c S7.out.cd).mono ?_
          rintro e w8 ⟨rfl, hb8⟩
          have S8 := Lib.hid (S7.out.keep hb8)
          have B8 := Lib.hid (B7.out.trans (hb8.mono B7.out.size))
          clear hb8
          rw [show (Dk.crash D2 ks).dead = false from rfl]
          go_wp2_with fail
          refine (cdFlush_c S8.out.cd O7.out (by show (-1 : Int) ≤ _; omega) (by show (0 : Nat) ≤ _; omega)).mono ?_
          intro e w9 hp
          obtain ⟨rfl, G9, hs9⟩ := CdOk.step S8.out B8.out.size hp
          have B9 := Lib.hid (B8.out.trans hs9.below)
          clear hp hs9
          rw [show (Dk.flush (Dk.crash D2 ks)).1 = 0 from rfl]
          go_wp2
          go_ret
          exact ⟨rfl, B9.out⟩
        · have AR5 := Lib.hid ar5
          have dd5 := ar5.dead
          clear ar5
          rcases Int.lt_or_lt_of_ne nz5 with lneg | lpos
          · have ha0 : arm < 0 := by have := HAR.out.iff; omega
            go_wp2_with fail
            refine (cdDead_c S5.out.cd).mono ?_
            rintro e w6 ⟨rfl, hb6⟩
            have S6 := Lib.hid (S5.out.keep hb6)
            have B6 := Lib.hid (B5.out.trans (hb6.mono B5.out.size))
            clear hb6
            rw [dd5]
            go_wp2
            go_roundw
            case rel =>
              have q := AR5.out
              rw [if_neg (by omega)] at q
              exact ⟨j + 1, lf, G5, D2, by omega, rfl, by go_num, S6.out, q, B6.out⟩
            case measure => simp [intOf]; omega
          · have ha0 : 0 ≤ arm := by have := HAR.out.iff; omega
            have lhi := HAR.out.high
            go_wp2_with fail
            refine (cdDead_c S5.out.cd).mono ?_
            rintro e w6 ⟨rfl, hb6⟩
            have S6 := Lib.hid (S5.out.keep hb6)
            have B6 := Lib.hid (B5.out.trans (hb6.mono B5.out.size))
            clear hb6
            rw [dd5]
            go_wp2
            go_roundw
            case rel =>
              have q := AR5.out
              rw [if_pos lpos] at q
              exact ⟨j + 1, lf - 1, G5, D2, by omega, by go_num, by go_num, S6.out, q, B6.out⟩
            case measure => simp [intOf]; omega
      · have q0 : (m.x.kind == 0) = false := by simpa using k0
        have q2 : (m.x.kind == 2) = false := by simpa using k2
        clear k0 k2
        have WA := Lib.hid (fun o => (Below.refl wr.heap.size wr).alloc (Nat.le_refl _) o)
        go_wp2
        go_roundw
        case rel => exact ⟨j + 1, lf, G, D, by omega, rfl, by go_num, (HS.out.keep (WA.out _)), HAR.out.next, (HB.out.trans ((WA.out _).mono hz))⟩
        case measure => simp [intOf]; omega
    · obtain rfl : j = l.length := by omega
      have TS := Lib.hid HS.out
      have TO := Lib.hid HAR.out.ok
      have TB := Lib.hid HB.out
      have TL : D.cache.length ≤ 100 := by have := HAR.out.few; omega
      go_wp2_with fail
      refine (cdCrash_c (ks := ks) TS.out.cd TO.out (by omega) (HK.out.below (Nat.le_refl _) TB.out) (HK.out.far TS.out.old TB.out.size) rfl (by omega) HCK.out).mono ?_
      intro e w7 hp
      obtain ⟨rfl, G7, hs7⟩ := CdOk0.step TS.out TB.out.size hp
      have S7 := Lib.hid hs7.cs
      have B7 := Lib.hid (TB.out.trans hs7.below)
      have O7 := Lib.hid (Dk.crash_ok TO.out ks)
      clear hp hs7
      go_wp2_with fail
      refine (cdDead_c S7.out.cd).mono ?_
      rintro e w8 ⟨rfl, hb8⟩
      have S8 := Lib.hid (S7.out.keep hb8)
      have B8 := Lib.hid (B7.out.trans (hb8.mono B7.out.size))
      clear hb8
      rw [show (Dk.crash D ks).dead = false from rfl]
      go_wp2_with fail
      refine (cdFlush_c S8.out.cd O7.out (by show (-1 : Int) ≤ _; omega) (by show (0 : Nat) ≤ _; omega)).mono ?_
      intro e w9 hp
      obtain ⟨rfl, G9, hs9⟩ := CdOk.step S8.out B8.out.size hp
      have B9 := Lib.hid (B8.out.trans hs9.below)
      clear hp hs9
      rw [show (Dk.flush (Dk.crash D ks)).1 = 0 from rfl]
      go_wp2
      go_ret
      exact ⟨rfl, B9.out⟩
end Go.Proofs.Ytogobeinckgjmaa
