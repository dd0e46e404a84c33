/- Stage 11: the code's Check, kinds 4, 5, 6 (written by wip/gen11cc.py). -/
import Derived.Test.YtjaaehbllkbiaaaGreatMw
namespace Go.Proofs.YtjaaehbllkbiaaaGreat
open Go.RowKit Go.Lib
set_option maxRecDepth 100000

set_option linter.unusedSimpArgs false in
set_option maxHeartbeats 4000000 in
set_option maxRecDepth 100000 in
theorem cchk4_c {id list f : Nat} {text : List UInt8} {flag : Bool} {w : World} (ht : text.length ≤ 1000000) : Calls Tryz.prog 11 #[.agg #[.int .i64 4, .int .u64 (id : Int), .int .u64 (list : Int), .string (str text), .float .f64 f, .bool flag]] w fun e w' => e = .returned (.int .i64 (T9.checkE ⟨4, id, list, text, f, flag⟩)) ∧ Below w.heap.size w w' := by
 have V0 : Hid (T9.isC f = false → T9.checkE ⟨4, id, list, text, f, flag⟩ = 110) := Lib.hid (by intros; simp [T9.checkE, T9.extra, T9.nId, T9.nList, T9.nText, T9.nF, T9.nFlag, T9.ofL, T9.nTag, *])
 have V1 : Hid (T9.isC f = true → ¬ list = 0 → T9.checkE ⟨4, id, list, text, f, flag⟩ = 110) := Lib.hid (by intros; simp [T9.checkE, T9.extra, T9.nId, T9.nList, T9.nText, T9.nF, T9.nFlag, T9.ofL, T9.nTag, *])
 have V2 : Hid (T9.isC f = true → list = 0 → Fl.eqB f 0 = false → T9.checkE ⟨4, id, list, text, f, flag⟩ = 110) := Lib.hid (by intros; simp [T9.checkE, T9.extra, T9.nId, T9.nList, T9.nText, T9.nF, T9.nFlag, T9.ofL, T9.nTag, *])
 have V3 : Hid (T9.isC f = true → list = 0 → Fl.eqB f 0 = true → flag = true → T9.checkE ⟨4, id, list, text, f, flag⟩ = 110) := Lib.hid (by intros; simp [T9.checkE, T9.extra, T9.nId, T9.nList, T9.nText, T9.nF, T9.nFlag, T9.ofL, T9.nTag, *])
 have V4 : Hid (T9.isC f = true → list = 0 → Fl.eqB f 0 = true → flag = false → id = 0 → T9.checkE ⟨4, id, list, text, f, flag⟩ = 93) := Lib.hid (by intros; simp [T9.checkE, T9.extra, T9.nId, T9.nList, T9.nText, T9.nF, T9.nFlag, T9.ofL, T9.nTag, *])
 have V5 : Hid (T9.isC f = true → list = 0 → Fl.eqB f 0 = true → flag = false → ¬ id = 0 → T9.title text = false → T9.checkE ⟨4, id, list, text, f, flag⟩ = 94) := Lib.hid (by intros; simp [T9.checkE, T9.extra, T9.nId, T9.nList, T9.nText, T9.nF, T9.nFlag, T9.ofL, T9.nTag, *])
 have V6 : Hid (T9.isC f = true → list = 0 → Fl.eqB f 0 = true → flag = false → ¬ id = 0 → T9.title text = true → T9.checkE ⟨4, id, list, text, f, flag⟩ = 0) := Lib.hid (by intros; simp [T9.checkE, T9.extra, T9.nId, T9.nList, T9.nText, T9.nF, T9.nFlag, T9.ofL, T9.nTag, *])
 obtain ⟨V, hV⟩ : ∃ v, T9.checkE ⟨4, id, list, text, f, flag⟩ = v := ⟨_, rfl⟩
 rw [hV]
 rw [hV] at V0
 rw [hV] at V1
 rw [hV] at V2
 rw [hV] at V3
 rw [hV] at V4
 rw [hV] at V5
 rw [hV] at V6
 obtain ⟨c1, hc1⟩ : ∃ b, T9.isC f = b := ⟨_, rfl⟩
 obtain ⟨c2, hc2⟩ : ∃ b, T9.title text = b := ⟨_, rfl⟩
 obtain ⟨c3, hc3⟩ : ∃ b, T9.tag text = b := ⟨_, rfl⟩
 obtain ⟨w1, hw1⟩ : ∃ u, w.alloc (.cells #[.int .i64 4, .int .u64 (id : Int), .int .u64 (list : Int), .string (str text), .float .f64 f, .bool flag] 29) = u := ⟨_, rfl⟩
 obtain ⟨pb, b1, z1⟩ := new_six11 hw1
 obtain ⟨w2, hw2⟩ : ∃ u, w1.alloc (.cells #[.int .i64 12] 3) = u := ⟨_, rfl⟩
 have b2 : Below w1.heap.size w1 w2 := by rw [← hw2]; exact (Below.refl _ w1).alloc (Nat.le_refl _) _
 have k2 : w2.heap[w1.heap.size]? = some (.cells #[.int .i64 12] 3 (0, 0)) := by rw [← hw2]; exact heap_alloc_new w1 _
 have q0 := cell_of_one k2
 obtain ⟨p0, p1, p2, p3, p4, p5⟩ := six_cells11 pb
 obtain ⟨r0, r1, r2, r3, r4, r5⟩ := six_cells11 ((b2.block w.heap.size (by omega)).trans pb)
 have B1 := Lib.hid (b1.trans (b2.mono (by omega)))
 have NM := Lib.hid (names4_c w1)
 have IC := Lib.hid (isCanonM_c f w2)
 have TC := Lib.hid (title_c text ht w2)
 have GC := Lib.hid (tag_c text ht w2)
 have CL := Lib.hid (class_c f w2)
 rw [hc1] at IC
 rw [hc2] at TC
 rw [hc3] at GC
 have N1 := Lib.hid (named_c (W := w2) (what := 1) (b := false) q0 (by kernel_rfl))
 have N2 := Lib.hid (named_c (W := w2) (what := 2) (b := false) q0 (by kernel_rfl))
 have N4 := Lib.hid (named_c (W := w2) (what := 4) (b := true) q0 (by kernel_rfl))
 have N6 := Lib.hid (named_c (W := w2) (what := 6) (b := true) q0 (by kernel_rfl))
 have N8 := Lib.hid (named_c (W := w2) (what := 8) (b := true) q0 (by kernel_rfl))
 have N16 := Lib.hid (named_c (W := w2) (what := 16) (b := false) q0 (by kernel_rfl))
 have N24 := Lib.hid (named_c (W := w2) (what := 24) (b := true) q0 (by kernel_rfl))
 have N32 := Lib.hid (named_c (W := w2) (what := 32) (b := false) q0 (by kernel_rfl))
 have N96 := Lib.hid (named_c (W := w2) (what := 96) (b := false) q0 (by kernel_rfl))
 have N128 := Lib.hid (named_c (W := w2) (what := 128) (b := false) q0 (by kernel_rfl))
 have HC1 := Lib.hid hc1
 have HC2 := Lib.hid hc2
 have HC3 := Lib.hid hc3
 clear pb b1 z1 ht b2 k2 hc1 hc2 hc3 hV
 go_enter Tryz.func11, Tryz.ntmps11
 go_wp2_with (go_at_call 27; refine NM.out.mono ?_; rintro e w' ⟨rfl, rfl⟩)
 cases c1 with
 | false =>
  go_wp2_with ((first | (go_at_call 29; refine IC.out.mono ?_) | (with_reducible refine N1.out.mono ?_) | (with_reducible refine N2.out.mono ?_) | (with_reducible refine N4.out.mono ?_) | (with_reducible refine N6.out.mono ?_) | (with_reducible refine N8.out.mono ?_) | (with_reducible refine N16.out.mono ?_) | (with_reducible refine N24.out.mono ?_) | (with_reducible refine N32.out.mono ?_) | (with_reducible refine N96.out.mono ?_) | (with_reducible refine N128.out.mono ?_) | (go_at_call 30; refine TC.out.mono ?_) | (go_at_call 31; refine GC.out.mono ?_) | (go_at_call 32; refine CL.out.mono ?_)); rintro e w' ⟨rfl, rfl⟩)
  go_ret
  exact ⟨ret_i64 (V0.out HC1.out).symm, B1.out⟩
 | true =>
  go_wp2_with ((first | (go_at_call 29; refine IC.out.mono ?_)); rintro e w' ⟨rfl, rfl⟩)
  by_cases zlist : list = 0
  ·have ylist : ((list : Int) != 0) = false := by rw [zlist]; rfl
   have xlist : ((list : Int) == 0) = true := by rw [zlist]; rfl
   have Zlist := Lib.hid zlist
   clear zlist
   go_wp2_with ((first | (with_reducible refine N1.out.mono ?_) | (with_reducible refine N6.out.mono ?_) | (with_reducible refine N24.out.mono ?_)); rintro e w' ⟨rfl, rfl⟩)
   cases zf : Fl.eqB f 0 with
   | false =>
    have yf : (!Fl.eqB f 0) = true := by rw [zf]; rfl
    have ZF := Lib.hid zf
    go_wp2_with ((first | (go_at_call 29; refine IC.out.mono ?_) | (with_reducible refine N1.out.mono ?_) | (with_reducible refine N2.out.mono ?_) | (with_reducible refine N4.out.mono ?_) | (with_reducible refine N6.out.mono ?_) | (with_reducible refine N8.out.mono ?_) | (with_reducible refine N16.out.mono ?_) | (with_reducible refine N24.out.mono ?_) | (with_reducible refine N32.out.mono ?_) | (with_reducible refine N96.out.mono ?_) | (with_reducible refine N128.out.mono ?_) | (go_at_call 30; refine TC.out.mono ?_) | (go_at_call 31; refine GC.out.mono ?_) | (go_at_call 32; refine CL.out.mono ?_)); rintro e w' ⟨rfl, rfl⟩)
    go_ret
    exact ⟨ret_i64 (V2.out HC1.out Zlist.out ZF.out).symm, B1.out⟩
   | true =>
    have yf : (!Fl.eqB f 0) = false := by rw [zf]; rfl
    have ZF := Lib.hid zf
    go_wp2_with ((first | (with_reducible refine N96.out.mono ?_)); rintro e w' ⟨rfl, rfl⟩)
    have HFL : Hid (flag = flag) := Lib.hid rfl
    cases flag with
    | true =>
     go_wp2_with ((first | (go_at_call 29; refine IC.out.mono ?_) | (with_reducible refine N1.out.mono ?_) | (with_reducible refine N2.out.mono ?_) | (with_reducible refine N4.out.mono ?_) | (with_reducible refine N6.out.mono ?_) | (with_reducible refine N8.out.mono ?_) | (with_reducible refine N16.out.mono ?_) | (with_reducible refine N24.out.mono ?_) | (with_reducible refine N32.out.mono ?_) | (with_reducible refine N96.out.mono ?_) | (with_reducible refine N128.out.mono ?_) | (go_at_call 30; refine TC.out.mono ?_) | (go_at_call 31; refine GC.out.mono ?_) | (go_at_call 32; refine CL.out.mono ?_)); rintro e w' ⟨rfl, rfl⟩)
     go_ret
     exact ⟨ret_i64 (V3.out HC1.out Zlist.out ZF.out (by first | trivial | rfl)).symm, B1.out⟩
    | false =>
     go_wp2_with ((first | (with_reducible refine N128.out.mono ?_) | (with_reducible refine N1.out.mono ?_) | (with_reducible refine N2.out.mono ?_)); rintro e w' ⟨rfl, rfl⟩)
     by_cases zid : id = 0
     ·have yid : ((id : Int) != 0) = false := by rw [zid]; rfl
      have xid : ((id : Int) == 0) = true := by rw [zid]; rfl
      have Zid := Lib.hid zid
      clear zid
      go_wp2_with ((first | (go_at_call 29; refine IC.out.mono ?_) | (with_reducible refine N1.out.mono ?_) | (with_reducible refine N2.out.mono ?_) | (with_reducible refine N4.out.mono ?_) | (with_reducible refine N6.out.mono ?_) | (with_reducible refine N8.out.mono ?_) | (with_reducible refine N16.out.mono ?_) | (with_reducible refine N24.out.mono ?_) | (with_reducible refine N32.out.mono ?_) | (with_reducible refine N96.out.mono ?_) | (with_reducible refine N128.out.mono ?_) | (go_at_call 30; refine TC.out.mono ?_) | (go_at_call 31; refine GC.out.mono ?_) | (go_at_call 32; refine CL.out.mono ?_)); rintro e w' ⟨rfl, rfl⟩)
      go_ret
      exact ⟨ret_i64 (V4.out HC1.out Zlist.out ZF.out (by first | trivial | rfl) Zid.out).symm, B1.out⟩
     ·have yid : ((id : Int) != 0) = true := by simp; omega
      have xid : ((id : Int) == 0) = false := by rw [beq_eq_false_iff_ne]; omega
      have Zid := Lib.hid zid
      clear zid
      go_wp2_with ((first | (with_reducible refine N4.out.mono ?_)); rintro e w' ⟨rfl, rfl⟩)
      cases c2 with
      | false =>
       go_wp2_with ((first | (go_at_call 29; refine IC.out.mono ?_) | (with_reducible refine N1.out.mono ?_) | (with_reducible refine N2.out.mono ?_) | (with_reducible refine N4.out.mono ?_) | (with_reducible refine N6.out.mono ?_) | (with_reducible refine N8.out.mono ?_) | (with_reducible refine N16.out.mono ?_) | (with_reducible refine N24.out.mono ?_) | (with_reducible refine N32.out.mono ?_) | (with_reducible refine N96.out.mono ?_) | (with_reducible refine N128.out.mono ?_) | (go_at_call 30; refine TC.out.mono ?_) | (go_at_call 31; refine GC.out.mono ?_) | (go_at_call 32; refine CL.out.mono ?_)); rintro e w' ⟨rfl, rfl⟩)
       go_ret
       exact ⟨ret_i64 (V5.out HC1.out Zlist.out ZF.out (by first | trivial | rfl) Zid.out HC2.out).symm, B1.out⟩
      | true =>
       go_wp2_with ((first | (with_reducible refine N8.out.mono ?_) | (go_at_call 30; refine TC.out.mono ?_) | (with_reducible refine N16.out.mono ?_) | (go_at_call 31; refine GC.out.mono ?_) | (with_reducible refine N32.out.mono ?_) | (go_at_call 32; refine CL.out.mono ?_)); rintro e w' ⟨rfl, rfl⟩)
       go_ret
       exact ⟨ret_i64 (V6.out HC1.out Zlist.out ZF.out (by first | trivial | rfl) Zid.out HC2.out).symm, B1.out⟩
  ·have ylist : ((list : Int) != 0) = true := by simp; omega
   have xlist : ((list : Int) == 0) = false := by rw [beq_eq_false_iff_ne]; omega
   have Zlist := Lib.hid zlist
   clear zlist
   go_wp2_with ((first | (go_at_call 29; refine IC.out.mono ?_) | (with_reducible refine N1.out.mono ?_) | (with_reducible refine N2.out.mono ?_) | (with_reducible refine N4.out.mono ?_) | (with_reducible refine N6.out.mono ?_) | (with_reducible refine N8.out.mono ?_) | (with_reducible refine N16.out.mono ?_) | (with_reducible refine N24.out.mono ?_) | (with_reducible refine N32.out.mono ?_) | (with_reducible refine N96.out.mono ?_) | (with_reducible refine N128.out.mono ?_) | (go_at_call 30; refine TC.out.mono ?_) | (go_at_call 31; refine GC.out.mono ?_) | (go_at_call 32; refine CL.out.mono ?_)); rintro e w' ⟨rfl, rfl⟩)
   go_ret
   exact ⟨ret_i64 (V1.out HC1.out Zlist.out).symm, B1.out⟩
set_option linter.unusedSimpArgs false in
set_option maxHeartbeats 4000000 in
set_option maxRecDepth 100000 in
theorem cchk5_c {id list f : Nat} {text : List UInt8} {flag : Bool} {w : World} (ht : text.length ≤ 1000000) : Calls Tryz.prog 11 #[.agg #[.int .i64 5, .int .u64 (id : Int), .int .u64 (list : Int), .string (str text), .float .f64 f, .bool flag]] w fun e w' => e = .returned (.int .i64 (T9.checkE ⟨5, id, list, text, f, flag⟩)) ∧ Below w.heap.size w w' := by
 have V0 : Hid (T9.isC f = false → T9.checkE ⟨5, id, list, text, f, flag⟩ = 110) := Lib.hid (by intros; simp [T9.checkE, T9.extra, T9.nId, T9.nList, T9.nText, T9.nF, T9.nFlag, T9.ofL, T9.nTag, *])
 have V1 : Hid (T9.isC f = true → ¬ list = 0 → T9.checkE ⟨5, id, list, text, f, flag⟩ = 110) := Lib.hid (by intros; simp [T9.checkE, T9.extra, T9.nId, T9.nList, T9.nText, T9.nF, T9.nFlag, T9.ofL, T9.nTag, *])
 have V2 : Hid (T9.isC f = true → list = 0 → ¬ text = [] → T9.checkE ⟨5, id, list, text, f, flag⟩ = 110) := Lib.hid (by intros; simp [T9.checkE, T9.extra, T9.nId, T9.nList, T9.nText, T9.nF, T9.nFlag, T9.ofL, T9.nTag, *])
 have V3 : Hid (T9.isC f = true → list = 0 → text = [] → Fl.eqB f 0 = false → T9.checkE ⟨5, id, list, text, f, flag⟩ = 110) := Lib.hid (by intros; simp [T9.checkE, T9.extra, T9.nId, T9.nList, T9.nText, T9.nF, T9.nFlag, T9.ofL, T9.nTag, *])
 have V4 : Hid (T9.isC f = true → list = 0 → text = [] → Fl.eqB f 0 = true → id = 0 → T9.checkE ⟨5, id, list, text, f, flag⟩ = 93) := Lib.hid (by intros; simp [T9.checkE, T9.extra, T9.nId, T9.nList, T9.nText, T9.nF, T9.nFlag, T9.ofL, T9.nTag, *])
 have V5 : Hid (T9.isC f = true → list = 0 → text = [] → Fl.eqB f 0 = true → ¬ id = 0 → T9.checkE ⟨5, id, list, text, f, flag⟩ = 0) := Lib.hid (by intros; simp [T9.checkE, T9.extra, T9.nId, T9.nList, T9.nText, T9.nF, T9.nFlag, T9.ofL, T9.nTag, *])
 obtain ⟨V, hV⟩ : ∃ v, T9.checkE ⟨5, id, list, text, f, flag⟩ = v := ⟨_, rfl⟩
 rw [hV]
 rw [hV] at V0
 rw [hV] at V1
 rw [hV] at V2
 rw [hV] at V3
 rw [hV] at V4
 rw [hV] at V5
 obtain ⟨c1, hc1⟩ : ∃ b, T9.isC f = b := ⟨_, rfl⟩
 obtain ⟨c2, hc2⟩ : ∃ b, T9.title text = b := ⟨_, rfl⟩
 obtain ⟨c3, hc3⟩ : ∃ b, T9.tag text = b := ⟨_, rfl⟩
 obtain ⟨w1, hw1⟩ : ∃ u, w.alloc (.cells #[.int .i64 5, .int .u64 (id : Int), .int .u64 (list : Int), .string (str text), .float .f64 f, .bool flag] 29) = u := ⟨_, rfl⟩
 obtain ⟨pb, b1, z1⟩ := new_six11 hw1
 obtain ⟨w2, hw2⟩ : ∃ u, w1.alloc (.cells #[.int .i64 132] 3) = u := ⟨_, rfl⟩
 have b2 : Below w1.heap.size w1 w2 := by rw [← hw2]; exact (Below.refl _ w1).alloc (Nat.le_refl _) _
 have k2 : w2.heap[w1.heap.size]? = some (.cells #[.int .i64 132] 3 (0, 0)) := by rw [← hw2]; exact heap_alloc_new w1 _
 have q0 := cell_of_one k2
 obtain ⟨p0, p1, p2, p3, p4, p5⟩ := six_cells11 pb
 obtain ⟨r0, r1, r2, r3, r4, r5⟩ := six_cells11 ((b2.block w.heap.size (by omega)).trans pb)
 have B1 := Lib.hid (b1.trans (b2.mono (by omega)))
 have NM := Lib.hid (names5_c w1)
 have IC := Lib.hid (isCanonM_c f w2)
 have TC := Lib.hid (title_c text ht w2)
 have GC := Lib.hid (tag_c text ht w2)
 have CL := Lib.hid (class_c f w2)
 rw [hc1] at IC
 rw [hc2] at TC
 rw [hc3] at GC
 have N1 := Lib.hid (named_c (W := w2) (what := 1) (b := false) q0 (by kernel_rfl))
 have N2 := Lib.hid (named_c (W := w2) (what := 2) (b := false) q0 (by kernel_rfl))
 have N4 := Lib.hid (named_c (W := w2) (what := 4) (b := true) q0 (by kernel_rfl))
 have N6 := Lib.hid (named_c (W := w2) (what := 6) (b := true) q0 (by kernel_rfl))
 have N8 := Lib.hid (named_c (W := w2) (what := 8) (b := false) q0 (by kernel_rfl))
 have N16 := Lib.hid (named_c (W := w2) (what := 16) (b := false) q0 (by kernel_rfl))
 have N24 := Lib.hid (named_c (W := w2) (what := 24) (b := false) q0 (by kernel_rfl))
 have N32 := Lib.hid (named_c (W := w2) (what := 32) (b := false) q0 (by kernel_rfl))
 have N96 := Lib.hid (named_c (W := w2) (what := 96) (b := false) q0 (by kernel_rfl))
 have N128 := Lib.hid (named_c (W := w2) (what := 128) (b := true) q0 (by kernel_rfl))
 have HC1 := Lib.hid hc1
 have HC2 := Lib.hid hc2
 have HC3 := Lib.hid hc3
 clear pb b1 z1 ht b2 k2 hc1 hc2 hc3 hV
 go_enter Tryz.func11, Tryz.ntmps11
 go_wp2_with (go_at_call 27; refine NM.out.mono ?_; rintro e w' ⟨rfl, rfl⟩)
 cases c1 with
 | false =>
  go_wp2_with ((first | (go_at_call 29; refine IC.out.mono ?_) | (with_reducible refine N1.out.mono ?_) | (with_reducible refine N2.out.mono ?_) | (with_reducible refine N4.out.mono ?_) | (with_reducible refine N6.out.mono ?_) | (with_reducible refine N8.out.mono ?_) | (with_reducible refine N16.out.mono ?_) | (with_reducible refine N24.out.mono ?_) | (with_reducible refine N32.out.mono ?_) | (with_reducible refine N96.out.mono ?_) | (with_reducible refine N128.out.mono ?_) | (go_at_call 30; refine TC.out.mono ?_) | (go_at_call 31; refine GC.out.mono ?_) | (go_at_call 32; refine CL.out.mono ?_)); rintro e w' ⟨rfl, rfl⟩)
  go_ret
  exact ⟨ret_i64 (V0.out HC1.out).symm, B1.out⟩
 | true =>
  go_wp2_with ((first | (go_at_call 29; refine IC.out.mono ?_)); rintro e w' ⟨rfl, rfl⟩)
  by_cases zlist : list = 0
  ·have ylist : ((list : Int) != 0) = false := by rw [zlist]; rfl
   have xlist : ((list : Int) == 0) = true := by rw [zlist]; rfl
   have Zlist := Lib.hid zlist
   clear zlist
   go_wp2_with ((first | (with_reducible refine N1.out.mono ?_) | (with_reducible refine N6.out.mono ?_)); rintro e w' ⟨rfl, rfl⟩)
   by_cases zt : text = []
   ·have ZT := Lib.hid zt
    have te : text.isEmpty = true := by rw [zt]; rfl
    have te2 : (!text.isEmpty) = false := by rw [te]; rfl
    clear zt
    go_wp2_with ((first | (with_reducible refine N24.out.mono ?_)); rintro e w' ⟨rfl, rfl⟩)
    cases zf : Fl.eqB f 0 with
    | false =>
     have yf : (!Fl.eqB f 0) = true := by rw [zf]; rfl
     have ZF := Lib.hid zf
     go_wp2_with ((first | (go_at_call 29; refine IC.out.mono ?_) | (with_reducible refine N1.out.mono ?_) | (with_reducible refine N2.out.mono ?_) | (with_reducible refine N4.out.mono ?_) | (with_reducible refine N6.out.mono ?_) | (with_reducible refine N8.out.mono ?_) | (with_reducible refine N16.out.mono ?_) | (with_reducible refine N24.out.mono ?_) | (with_reducible refine N32.out.mono ?_) | (with_reducible refine N96.out.mono ?_) | (with_reducible refine N128.out.mono ?_) | (go_at_call 30; refine TC.out.mono ?_) | (go_at_call 31; refine GC.out.mono ?_) | (go_at_call 32; refine CL.out.mono ?_)); rintro e w' ⟨rfl, rfl⟩)
     go_ret
     exact ⟨ret_i64 (V3.out HC1.out Zlist.out ZT.out ZF.out).symm, B1.out⟩
    | true =>
     have yf : (!Fl.eqB f 0) = false := by rw [zf]; rfl
     have ZF := Lib.hid zf
     go_wp2_with ((first | (with_reducible refine N96.out.mono ?_) | (with_reducible refine N128.out.mono ?_) | (with_reducible refine N1.out.mono ?_) | (with_reducible refine N2.out.mono ?_)); rintro e w' ⟨rfl, rfl⟩)
     by_cases zid : id = 0
     ·have yid : ((id : Int) != 0) = false := by rw [zid]; rfl
      have xid : ((id : Int) == 0) = true := by rw [zid]; rfl
      have Zid := Lib.hid zid
      clear zid
      go_wp2_with ((first | (go_at_call 29; refine IC.out.mono ?_) | (with_reducible refine N1.out.mono ?_) | (with_reducible refine N2.out.mono ?_) | (with_reducible refine N4.out.mono ?_) | (with_reducible refine N6.out.mono ?_) | (with_reducible refine N8.out.mono ?_) | (with_reducible refine N16.out.mono ?_) | (with_reducible refine N24.out.mono ?_) | (with_reducible refine N32.out.mono ?_) | (with_reducible refine N96.out.mono ?_) | (with_reducible refine N128.out.mono ?_) | (go_at_call 30; refine TC.out.mono ?_) | (go_at_call 31; refine GC.out.mono ?_) | (go_at_call 32; refine CL.out.mono ?_)); rintro e w' ⟨rfl, rfl⟩)
      go_ret
      exact ⟨ret_i64 (V4.out HC1.out Zlist.out ZT.out ZF.out Zid.out).symm, B1.out⟩
     ·have yid : ((id : Int) != 0) = true := by simp; omega
      have xid : ((id : Int) == 0) = false := by rw [beq_eq_false_iff_ne]; omega
      have Zid := Lib.hid zid
      clear zid
      go_wp2_with ((first | (with_reducible refine N4.out.mono ?_) | (with_reducible refine N8.out.mono ?_) | (go_at_call 30; refine TC.out.mono ?_) | (with_reducible refine N16.out.mono ?_) | (go_at_call 31; refine GC.out.mono ?_) | (with_reducible refine N32.out.mono ?_) | (go_at_call 32; refine CL.out.mono ?_)); rintro e w' ⟨rfl, rfl⟩)
      go_ret
      exact ⟨ret_i64 (V5.out HC1.out Zlist.out ZT.out ZF.out Zid.out).symm, B1.out⟩
   ·have ZT := Lib.hid zt
    have te : text.isEmpty = false := by cases text with | nil => exact absurd rfl zt | cons a l => rfl
    have te2 : (!text.isEmpty) = true := by rw [te]; rfl
    clear zt
    go_wp2_with ((first | (go_at_call 29; refine IC.out.mono ?_) | (with_reducible refine N1.out.mono ?_) | (with_reducible refine N2.out.mono ?_) | (with_reducible refine N4.out.mono ?_) | (with_reducible refine N6.out.mono ?_) | (with_reducible refine N8.out.mono ?_) | (with_reducible refine N16.out.mono ?_) | (with_reducible refine N24.out.mono ?_) | (with_reducible refine N32.out.mono ?_) | (with_reducible refine N96.out.mono ?_) | (with_reducible refine N128.out.mono ?_) | (go_at_call 30; refine TC.out.mono ?_) | (go_at_call 31; refine GC.out.mono ?_) | (go_at_call 32; refine CL.out.mono ?_)); rintro e w' ⟨rfl, rfl⟩)
    go_ret
    exact ⟨ret_i64 (V2.out HC1.out Zlist.out ZT.out).symm, B1.out⟩
  ·have ylist : ((list : Int) != 0) = true := by simp; omega
   have xlist : ((list : Int) == 0) = false := by rw [beq_eq_false_iff_ne]; omega
   have Zlist := Lib.hid zlist
   clear zlist
   go_wp2_with ((first | (go_at_call 29; refine IC.out.mono ?_) | (with_reducible refine N1.out.mono ?_) | (with_reducible refine N2.out.mono ?_) | (with_reducible refine N4.out.mono ?_) | (with_reducible refine N6.out.mono ?_) | (with_reducible refine N8.out.mono ?_) | (with_reducible refine N16.out.mono ?_) | (with_reducible refine N24.out.mono ?_) | (with_reducible refine N32.out.mono ?_) | (with_reducible refine N96.out.mono ?_) | (with_reducible refine N128.out.mono ?_) | (go_at_call 30; refine TC.out.mono ?_) | (go_at_call 31; refine GC.out.mono ?_) | (go_at_call 32; refine CL.out.mono ?_)); rintro e w' ⟨rfl, rfl⟩)
   go_ret
   exact ⟨ret_i64 (V1.out HC1.out Zlist.out).symm, B1.out⟩
set_option linter.unusedSimpArgs false in
set_option maxHeartbeats 4000000 in
set_option maxRecDepth 100000 in
theorem cchk6_c {id list f : Nat} {text : List UInt8} {flag : Bool} {w : World} (ht : text.length ≤ 1000000) : Calls Tryz.prog 11 #[.agg #[.int .i64 6, .int .u64 (id : Int), .int .u64 (list : Int), .string (str text), .float .f64 f, .bool flag]] w fun e w' => e = .returned (.int .i64 (T9.checkE ⟨6, id, list, text, f, flag⟩)) ∧ Below w.heap.size w w' := by
 have V0 : Hid (T9.isC f = false → T9.checkE ⟨6, id, list, text, f, flag⟩ = 110) := Lib.hid (by intros; simp [T9.checkE, T9.extra, T9.nId, T9.nList, T9.nText, T9.nF, T9.nFlag, T9.ofL, T9.nTag, *])
 have V1 : Hid (T9.isC f = true → ¬ text = [] → T9.checkE ⟨6, id, list, text, f, flag⟩ = 110) := Lib.hid (by intros; simp [T9.checkE, T9.extra, T9.nId, T9.nList, T9.nText, T9.nF, T9.nFlag, T9.ofL, T9.nTag, *])
 have V2 : Hid (T9.isC f = true → text = [] → flag = true → T9.checkE ⟨6, id, list, text, f, flag⟩ = 110) := Lib.hid (by intros; simp [T9.checkE, T9.extra, T9.nId, T9.nList, T9.nText, T9.nF, T9.nFlag, T9.ofL, T9.nTag, *])
 have V3 : Hid (T9.isC f = true → text = [] → flag = false → list = 0 → T9.checkE ⟨6, id, list, text, f, flag⟩ = 91) := Lib.hid (by intros; simp [T9.checkE, T9.extra, T9.nId, T9.nList, T9.nText, T9.nF, T9.nFlag, T9.ofL, T9.nTag, *])
 have V4 : Hid (T9.isC f = true → text = [] → flag = false → ¬ list = 0 → id = 0 → T9.checkE ⟨6, id, list, text, f, flag⟩ = 93) := Lib.hid (by intros; simp [T9.checkE, T9.extra, T9.nId, T9.nList, T9.nText, T9.nF, T9.nFlag, T9.ofL, T9.nTag, *])
 have V5 : Hid (T9.isC f = true → text = [] → flag = false → ¬ list = 0 → ¬ id = 0 → Fl.isN f = true → T9.checkE ⟨6, id, list, text, f, flag⟩ = 100) := Lib.hid (by intros; simp [T9.checkE, T9.extra, T9.nId, T9.nList, T9.nText, T9.nF, T9.nFlag, T9.ofL, T9.nTag, *])
 have V6 : Hid (T9.isC f = true → text = [] → flag = false → ¬ list = 0 → ¬ id = 0 → Fl.isN f = false → T9.checkE ⟨6, id, list, text, f, flag⟩ = 0) := Lib.hid (by intros; simp [T9.checkE, T9.extra, T9.nId, T9.nList, T9.nText, T9.nF, T9.nFlag, T9.ofL, T9.nTag, *])
 obtain ⟨V, hV⟩ : ∃ v, T9.checkE ⟨6, id, list, text, f, flag⟩ = v := ⟨_, rfl⟩
 rw [hV]
 rw [hV] at V0
 rw [hV] at V1
 rw [hV] at V2
 rw [hV] at V3
 rw [hV] at V4
 rw [hV] at V5
 rw [hV] at V6
 obtain ⟨c1, hc1⟩ : ∃ b, T9.isC f = b := ⟨_, rfl⟩
 obtain ⟨c2, hc2⟩ : ∃ b, T9.title text = b := ⟨_, rfl⟩
 obtain ⟨c3, hc3⟩ : ∃ b, T9.tag text = b := ⟨_, rfl⟩
 obtain ⟨w1, hw1⟩ : ∃ u, w.alloc (.cells #[.int .i64 6, .int .u64 (id : Int), .int .u64 (list : Int), .string (str text), .float .f64 f, .bool flag] 29) = u := ⟨_, rfl⟩
 obtain ⟨pb, b1, z1⟩ := new_six11 hw1
 obtain ⟨w2, hw2⟩ : ∃ u, w1.alloc (.cells #[.int .i64 37] 3) = u := ⟨_, rfl⟩
 have b2 : Below w1.heap.size w1 w2 := by rw [← hw2]; exact (Below.refl _ w1).alloc (Nat.le_refl _) _
 have k2 : w2.heap[w1.heap.size]? = some (.cells #[.int .i64 37] 3 (0, 0)) := by rw [← hw2]; exact heap_alloc_new w1 _
 have q0 := cell_of_one k2
 obtain ⟨p0, p1, p2, p3, p4, p5⟩ := six_cells11 pb
 obtain ⟨r0, r1, r2, r3, r4, r5⟩ := six_cells11 ((b2.block w.heap.size (by omega)).trans pb)
 have B1 := Lib.hid (b1.trans (b2.mono (by omega)))
 have NM := Lib.hid (names6_c w1)
 have IC := Lib.hid (isCanonM_c f w2)
 have TC := Lib.hid (title_c text ht w2)
 have GC := Lib.hid (tag_c text ht w2)
 have CL := Lib.hid (class_c f w2)
 rw [hc1] at IC
 rw [hc2] at TC
 rw [hc3] at GC
 have N1 := Lib.hid (named_c (W := w2) (what := 1) (b := true) q0 (by kernel_rfl))
 have N2 := Lib.hid (named_c (W := w2) (what := 2) (b := false) q0 (by kernel_rfl))
 have N4 := Lib.hid (named_c (W := w2) (what := 4) (b := true) q0 (by kernel_rfl))
 have N6 := Lib.hid (named_c (W := w2) (what := 6) (b := true) q0 (by kernel_rfl))
 have N8 := Lib.hid (named_c (W := w2) (what := 8) (b := false) q0 (by kernel_rfl))
 have N16 := Lib.hid (named_c (W := w2) (what := 16) (b := false) q0 (by kernel_rfl))
 have N24 := Lib.hid (named_c (W := w2) (what := 24) (b := false) q0 (by kernel_rfl))
 have N32 := Lib.hid (named_c (W := w2) (what := 32) (b := true) q0 (by kernel_rfl))
 have N96 := Lib.hid (named_c (W := w2) (what := 96) (b := true) q0 (by kernel_rfl))
 have N128 := Lib.hid (named_c (W := w2) (what := 128) (b := false) q0 (by kernel_rfl))
 have HC1 := Lib.hid hc1
 have HC2 := Lib.hid hc2
 have HC3 := Lib.hid hc3
 clear pb b1 z1 ht b2 k2 hc1 hc2 hc3 hV
 go_enter Tryz.func11, Tryz.ntmps11
 go_wp2_with (go_at_call 27; refine NM.out.mono ?_; rintro e w' ⟨rfl, rfl⟩)
 cases c1 with
 | false =>
  go_wp2_with ((first | (go_at_call 29; refine IC.out.mono ?_) | (with_reducible refine N1.out.mono ?_) | (with_reducible refine N2.out.mono ?_) | (with_reducible refine N4.out.mono ?_) | (with_reducible refine N6.out.mono ?_) | (with_reducible refine N8.out.mono ?_) | (with_reducible refine N16.out.mono ?_) | (with_reducible refine N24.out.mono ?_) | (with_reducible refine N32.out.mono ?_) | (with_reducible refine N96.out.mono ?_) | (with_reducible refine N128.out.mono ?_) | (go_at_call 30; refine TC.out.mono ?_) | (go_at_call 31; refine GC.out.mono ?_) | (go_at_call 32; refine CL.out.mono ?_)); rintro e w' ⟨rfl, rfl⟩)
  go_ret
  exact ⟨ret_i64 (V0.out HC1.out).symm, B1.out⟩
 | true =>
  go_wp2_with ((first | (go_at_call 29; refine IC.out.mono ?_) | (with_reducible refine N1.out.mono ?_) | (with_reducible refine N6.out.mono ?_)); rintro e w' ⟨rfl, rfl⟩)
  by_cases zt : text = []
  ·have ZT := Lib.hid zt
   have te : text.isEmpty = true := by rw [zt]; rfl
   have te2 : (!text.isEmpty) = false := by rw [te]; rfl
   clear zt
   go_wp2_with ((first | (with_reducible refine N24.out.mono ?_) | (with_reducible refine N96.out.mono ?_)); rintro e w' ⟨rfl, rfl⟩)
   have HFL : Hid (flag = flag) := Lib.hid rfl
   cases flag with
   | true =>
    go_wp2_with ((first | (go_at_call 29; refine IC.out.mono ?_) | (with_reducible refine N1.out.mono ?_) | (with_reducible refine N2.out.mono ?_) | (with_reducible refine N4.out.mono ?_) | (with_reducible refine N6.out.mono ?_) | (with_reducible refine N8.out.mono ?_) | (with_reducible refine N16.out.mono ?_) | (with_reducible refine N24.out.mono ?_) | (with_reducible refine N32.out.mono ?_) | (with_reducible refine N96.out.mono ?_) | (with_reducible refine N128.out.mono ?_) | (go_at_call 30; refine TC.out.mono ?_) | (go_at_call 31; refine GC.out.mono ?_) | (go_at_call 32; refine CL.out.mono ?_)); rintro e w' ⟨rfl, rfl⟩)
    go_ret
    exact ⟨ret_i64 (V2.out HC1.out ZT.out (by first | trivial | rfl)).symm, B1.out⟩
   | false =>
    go_wp2_with ((first | (with_reducible refine N128.out.mono ?_)); rintro e w' ⟨rfl, rfl⟩)
    by_cases zlist : list = 0
    ·have ylist : ((list : Int) != 0) = false := by rw [zlist]; rfl
     have xlist : ((list : Int) == 0) = true := by rw [zlist]; rfl
     have Zlist := Lib.hid zlist
     clear zlist
     go_wp2_with ((first | (go_at_call 29; refine IC.out.mono ?_) | (with_reducible refine N1.out.mono ?_) | (with_reducible refine N2.out.mono ?_) | (with_reducible refine N4.out.mono ?_) | (with_reducible refine N6.out.mono ?_) | (with_reducible refine N8.out.mono ?_) | (with_reducible refine N16.out.mono ?_) | (with_reducible refine N24.out.mono ?_) | (with_reducible refine N32.out.mono ?_) | (with_reducible refine N96.out.mono ?_) | (with_reducible refine N128.out.mono ?_) | (go_at_call 30; refine TC.out.mono ?_) | (go_at_call 31; refine GC.out.mono ?_) | (go_at_call 32; refine CL.out.mono ?_)); rintro e w' ⟨rfl, rfl⟩)
     go_ret
     exact ⟨ret_i64 (V3.out HC1.out ZT.out (by first | trivial | rfl) Zlist.out).symm, B1.out⟩
    ·have ylist : ((list : Int) != 0) = true := by simp; omega
     have xlist : ((list : Int) == 0) = false := by rw [beq_eq_false_iff_ne]; omega
     have Zlist := Lib.hid zlist
     clear zlist
     go_wp2_with ((first | (with_reducible refine N1.out.mono ?_) | (with_reducible refine N2.out.mono ?_)); rintro e w' ⟨rfl, rfl⟩)
     by_cases zid : id = 0
     ·have yid : ((id : Int) != 0) = false := by rw [zid]; rfl
      have xid : ((id : Int) == 0) = true := by rw [zid]; rfl
      have Zid := Lib.hid zid
      clear zid
      go_wp2_with ((first | (go_at_call 29; refine IC.out.mono ?_) | (with_reducible refine N1.out.mono ?_) | (with_reducible refine N2.out.mono ?_) | (with_reducible refine N4.out.mono ?_) | (with_reducible refine N6.out.mono ?_) | (with_reducible refine N8.out.mono ?_) | (with_reducible refine N16.out.mono ?_) | (with_reducible refine N24.out.mono ?_) | (with_reducible refine N32.out.mono ?_) | (with_reducible refine N96.out.mono ?_) | (with_reducible refine N128.out.mono ?_) | (go_at_call 30; refine TC.out.mono ?_) | (go_at_call 31; refine GC.out.mono ?_) | (go_at_call 32; refine CL.out.mono ?_)); rintro e w' ⟨rfl, rfl⟩)
      go_ret
      exact ⟨ret_i64 (V4.out HC1.out ZT.out (by first | trivial | rfl) Zlist.out Zid.out).symm, B1.out⟩
     ·have yid : ((id : Int) != 0) = true := by simp; omega
      have xid : ((id : Int) == 0) = false := by rw [beq_eq_false_iff_ne]; omega
      have Zid := Lib.hid zid
      clear zid
      go_wp2_with ((first | (with_reducible refine N4.out.mono ?_) | (with_reducible refine N8.out.mono ?_) | (go_at_call 30; refine TC.out.mono ?_) | (with_reducible refine N16.out.mono ?_) | (go_at_call 31; refine GC.out.mono ?_)); rintro e w' ⟨rfl, rfl⟩)
      cases zn : Fl.isN f with
      | true =>
       have ZN := Lib.hid zn
       go_wp2_with ((first | (go_at_call 29; refine IC.out.mono ?_) | (with_reducible refine N1.out.mono ?_) | (with_reducible refine N2.out.mono ?_) | (with_reducible refine N4.out.mono ?_) | (with_reducible refine N6.out.mono ?_) | (with_reducible refine N8.out.mono ?_) | (with_reducible refine N16.out.mono ?_) | (with_reducible refine N24.out.mono ?_) | (with_reducible refine N32.out.mono ?_) | (with_reducible refine N96.out.mono ?_) | (with_reducible refine N128.out.mono ?_) | (go_at_call 30; refine TC.out.mono ?_) | (go_at_call 31; refine GC.out.mono ?_) | (go_at_call 32; refine CL.out.mono ?_)); rintro e w' ⟨rfl, rfl⟩)
       go_ret
       exact ⟨ret_i64 (V5.out HC1.out ZT.out (by first | trivial | rfl) Zlist.out Zid.out ZN.out).symm, B1.out⟩
      | false =>
       have ZN := Lib.hid zn
       go_wp2_with ((first | (with_reducible refine N32.out.mono ?_) | (go_at_call 32; refine CL.out.mono ?_)); rintro e w' ⟨rfl, rfl⟩)
       go_ret
       exact ⟨ret_i64 (V6.out HC1.out ZT.out (by first | trivial | rfl) Zlist.out Zid.out ZN.out).symm, B1.out⟩
  ·have ZT := Lib.hid zt
   have te : text.isEmpty = false := by cases text with | nil => exact absurd rfl zt | cons a l => rfl
   have te2 : (!text.isEmpty) = true := by rw [te]; rfl
   clear zt
   go_wp2_with ((first | (go_at_call 29; refine IC.out.mono ?_) | (with_reducible refine N1.out.mono ?_) | (with_reducible refine N2.out.mono ?_) | (with_reducible refine N4.out.mono ?_) | (with_reducible refine N6.out.mono ?_) | (with_reducible refine N8.out.mono ?_) | (with_reducible refine N16.out.mono ?_) | (with_reducible refine N24.out.mono ?_) | (with_reducible refine N32.out.mono ?_) | (with_reducible refine N96.out.mono ?_) | (with_reducible refine N128.out.mono ?_) | (go_at_call 30; refine TC.out.mono ?_) | (go_at_call 31; refine GC.out.mono ?_) | (go_at_call 32; refine CL.out.mono ?_)); rintro e w' ⟨rfl, rfl⟩)
   go_ret
   exact ⟨ret_i64 (V1.out HC1.out ZT.out).symm, B1.out⟩
end Go.Proofs.YtjaaehbllkbiaaaGreat
