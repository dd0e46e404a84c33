import Derived.Test.YtpphmbfghfmdlaaGreatZ50
namespace Go.Proofs.YtpphmbfghfmdlaaGreat
set_option linter.unusedSimpArgs false
set_option maxRecDepth 100000
section
open Go.RowKit Go.Lib
set_option maxHeartbeats 16000000 in
theorem cchkA_c {k : Int} {id list f : Nat} {text : List UInt8} {flag : Bool} {w : World} (hk : k = 1 ∨ k = 2 ∨ k = 3) (ht : text.length ≤ 1000000) : Calls Tryz.prog 12 #[.agg #[.int .i64 k, .int .u64 (id : Int), .int .u64 (list : Int), .string (str text), .float .f64 f, .bool flag]] w fun e w' => e = .returned (.int .i64 (T9.bC ⟨k, id, list, text, f, flag⟩)) ∧ Below w.heap.size w w' := by
 obtain ⟨V, hV⟩ : ∃ v, T9.bC ⟨k, id, list, text, f, flag⟩ = v := ⟨_, rfl⟩
 rw [hV]
 obtain ⟨c1, hc1⟩ : ∃ b, T9.isC f = b := ⟨_, rfl⟩
 obtain ⟨c2, hc2⟩ : ∃ b, T9.title text = b := ⟨_, rfl⟩
 obtain ⟨c3, hc3⟩ : ∃ b, T9.tag text = b := ⟨_, rfl⟩
 obtain ⟨w1, hw1⟩ : ∃ u, w.alloc (.cells #[.int .i64 k, .int .u64 (id : Int), .int .u64 (list : Int), .string (str text), .float .f64 f, .bool flag] 29) = u := ⟨_, rfl⟩
 obtain ⟨pb, b1, z1⟩ := aW hw1
 obtain ⟨p0, p1, p2, p3, p4, p5⟩ := af pb
 have IC := hid fun W => iF f W
 have TC := hid fun W => iZ text ht W
 have GC := hid fun W => pM text ht W
 have CL := hid fun W => dN f W
 rw [hc1] at IC
 rw [hc2] at TC
 rw [hc3] at GC
 have PB := hid pb
 have B0 := hid b1
 have HC1 := hid hc1
 have HC2 := hid hc2
 have HC3 := hid hc3
 have HV := hid hV
 clear pb b1 z1 ht hc1 hc2 hc3 hV
 rcases hk with rfl | rfl | rfl
 have NM := hid (xL w1)
 obtain ⟨w2, hw2, q0, ⟨r0, r1, r2, r3, r4, r5⟩, B1⟩ := ig 10 PB.out B0.out
 obtain ⟨N1, N2, N4, N6, N8, N16, N24, N32, N96, N128⟩ := ib (b1 := false) (b2 := true) (b4 := false) (b6 := true) (b8 := true) (b16 := false) (b24 := true) (b32 := false) (b96 := false) (b128 := false) q0 (by kernel_rfl)
 go_enter Tryz.func12, Tryz.ntmps12
 go_wp2_with (go_at_call 34; refine NM.out.mono ?_; rintro e w' ⟨rfl, rfl⟩)
 rcases cu c1 with rfl | rfl
 rotate_left
 go_wp2_with (((go_at_call 36; refine (IC.out _).mono ?_)); rintro e w' ⟨rfl, rfl⟩)
 rcases (dM list).symm with ⟨zli, yli, xli⟩ | ⟨zli, yli, xli⟩
 rotate_left
 go_wp2_with ((first | (with_reducible refine N1.out.mono ?_) | (with_reducible refine N6.out.mono ?_) | (with_reducible refine N24.out.mono ?_)); rintro e w' ⟨rfl, rfl⟩)
 rcases jS (Fl.eqB f 0) with ⟨zf, yf⟩ | ⟨zf, yf⟩
 rotate_left
 go_wp2_with (((with_reducible refine N96.out.mono ?_)); rintro e w' ⟨rfl, rfl⟩)
 rcases (cu flag).symm with rfl | rfl
 rotate_left
 go_wp2_with ((first | (with_reducible refine N128.out.mono ?_) | (with_reducible refine N1.out.mono ?_)); rintro e w' ⟨rfl, rfl⟩)
 rcases dM id with ⟨zid, yid, xid⟩ | ⟨zid, yid, xid⟩
 rotate_left
 go_wp2_with ((first | (with_reducible refine N2.out.mono ?_) | (with_reducible refine N4.out.mono ?_)); rintro e w' ⟨rfl, rfl⟩)
 rcases cu c2 with rfl | rfl
 rotate_left
 go_wp2_with ((first | (with_reducible refine N8.out.mono ?_) | (go_at_call 37; refine (TC.out _).mono ?_) | (with_reducible refine N16.out.mono ?_) | (go_at_call 38; refine (GC.out _).mono ?_) | (with_reducible refine N32.out.mono ?_) | (go_at_call 39; refine (CL.out _).mono ?_)); rintro e w' ⟨rfl, rfl⟩)
 rotate_left
 have NM := hid (yR w1)
 obtain ⟨w2, hw2, q0, ⟨r0, r1, r2, r3, r4, r5⟩, B1⟩ := ig 2 PB.out B0.out
 obtain ⟨N1, N2, N4, N6, N8, N16, N24, N32, N96, N128⟩ := ib (b1 := false) (b2 := true) (b4 := false) (b6 := true) (b8 := false) (b16 := false) (b24 := false) (b32 := false) (b96 := false) (b128 := false) q0 (by kernel_rfl)
 go_enter Tryz.func12, Tryz.ntmps12
 go_wp2_with (go_at_call 34; refine NM.out.mono ?_; rintro e w' ⟨rfl, rfl⟩)
 rcases cu c1 with rfl | rfl
 rotate_left
 go_wp2_with (((go_at_call 36; refine (IC.out _).mono ?_)); rintro e w' ⟨rfl, rfl⟩)
 rcases (dM list).symm with ⟨zli, yli, xli⟩ | ⟨zli, yli, xli⟩
 rotate_left
 go_wp2_with ((first | (with_reducible refine N1.out.mono ?_) | (with_reducible refine N6.out.mono ?_)); rintro e w' ⟨rfl, rfl⟩)
 rcases (kP text).symm with ⟨zt, te, te2⟩ | ⟨zt, te, te2⟩
 rotate_left
 go_wp2_with (((with_reducible refine N24.out.mono ?_)); rintro e w' ⟨rfl, rfl⟩)
 rcases jS (Fl.eqB f 0) with ⟨zf, yf⟩ | ⟨zf, yf⟩
 rotate_left
 go_wp2_with (((with_reducible refine N96.out.mono ?_)); rintro e w' ⟨rfl, rfl⟩)
 rcases (cu flag).symm with rfl | rfl
 rotate_left
 go_wp2_with ((first | (with_reducible refine N128.out.mono ?_) | (with_reducible refine N1.out.mono ?_)); rintro e w' ⟨rfl, rfl⟩)
 rcases dM id with ⟨zid, yid, xid⟩ | ⟨zid, yid, xid⟩
 rotate_left
 go_wp2_with ((first | (with_reducible refine N2.out.mono ?_) | (with_reducible refine N4.out.mono ?_) | (with_reducible refine N8.out.mono ?_) | (go_at_call 37; refine (TC.out _).mono ?_) | (with_reducible refine N16.out.mono ?_) | (go_at_call 38; refine (GC.out _).mono ?_) | (with_reducible refine N32.out.mono ?_) | (go_at_call 39; refine (CL.out _).mono ?_)); rintro e w' ⟨rfl, rfl⟩)
 rotate_left
 have NM := hid (wH w1)
 obtain ⟨w2, hw2, q0, ⟨r0, r1, r2, r3, r4, r5⟩, B1⟩ := ig 45 PB.out B0.out
 obtain ⟨N1, N2, N4, N6, N8, N16, N24, N32, N96, N128⟩ := ib (b1 := true) (b2 := false) (b4 := true) (b6 := true) (b8 := true) (b16 := false) (b24 := true) (b32 := true) (b96 := true) (b128 := false) q0 (by kernel_rfl)
 go_enter Tryz.func12, Tryz.ntmps12
 go_wp2_with (go_at_call 34; refine NM.out.mono ?_; rintro e w' ⟨rfl, rfl⟩)
 rcases cu c1 with rfl | rfl
 rotate_left
 go_wp2_with ((first | (go_at_call 36; refine (IC.out _).mono ?_) | (with_reducible refine N1.out.mono ?_) | (with_reducible refine N6.out.mono ?_) | (with_reducible refine N24.out.mono ?_) | (with_reducible refine N96.out.mono ?_)); rintro e w' ⟨rfl, rfl⟩)
 rcases (cu flag).symm with rfl | rfl
 rotate_left
 go_wp2_with (((with_reducible refine N128.out.mono ?_)); rintro e w' ⟨rfl, rfl⟩)
 rcases dM list with ⟨zli, yli, xli⟩ | ⟨zli, yli, xli⟩
 rotate_left
 go_wp2_with ((first | (with_reducible refine N1.out.mono ?_) | (with_reducible refine N2.out.mono ?_)); rintro e w' ⟨rfl, rfl⟩)
 rcases dM id with ⟨zid, yid, xid⟩ | ⟨zid, yid, xid⟩
 rotate_left
 go_wp2_with (((with_reducible refine N4.out.mono ?_)); rintro e w' ⟨rfl, rfl⟩)
 rcases cu c2 with rfl | rfl
 rotate_left
 go_wp2_with ((first | (with_reducible refine N8.out.mono ?_) | (go_at_call 37; refine (TC.out _).mono ?_) | (with_reducible refine N16.out.mono ?_) | (go_at_call 38; refine (GC.out _).mono ?_)); rintro e w' ⟨rfl, rfl⟩)
 rcases (cu (Fl.isN f)).symm with zn | zn
 rotate_left
 go_wp2_with ((first | (with_reducible refine N32.out.mono ?_) | (go_at_call 39; refine (CL.out _).mono ?_)); rintro e w' ⟨rfl, rfl⟩)
 rotate_left
 all_goals
  try go_wp2_with ((first | (go_at_call 36; refine (IC.out _).mono ?_) | (with_reducible refine N1.out.mono ?_) | (with_reducible refine N2.out.mono ?_) | (with_reducible refine N4.out.mono ?_) | (with_reducible refine N6.out.mono ?_) | (with_reducible refine N8.out.mono ?_) | (with_reducible refine N16.out.mono ?_) | (with_reducible refine N24.out.mono ?_) | (with_reducible refine N32.out.mono ?_) | (with_reducible refine N96.out.mono ?_) | (with_reducible refine N128.out.mono ?_) | (go_at_call 37; refine (TC.out _).mono ?_) | (go_at_call 38; refine (GC.out _).mono ?_) | (go_at_call 39; refine (CL.out _).mono ?_)); rintro e w' ⟨rfl, rfl⟩)
  go_ret
  have hV := HV.out
  have q1 := HC1.out
  have q2 := HC2.out
  have q3 := HC3.out
  try have z1 := zid.out
  try have z2 := zli.out
  try have z3 := zt.out
  simp [T9.bC, T9.extra, T9.nId, T9.jq, T9.jU, T9.nF, T9.mJ, T9.ofL, T9.kC, *] at hV
  subst hV
  exact ⟨rfl, B1.out⟩
end
section
open Go.RowKit Go.Lib
set_option maxHeartbeats 16000000 in
theorem cchkB_c {k : Int} {id list f : Nat} {text : List UInt8} {flag : Bool} {w : World} (hk : k = 4 ∨ k = 5 ∨ k = 6) (ht : text.length ≤ 1000000) : Calls Tryz.prog 12 #[.agg #[.int .i64 k, .int .u64 (id : Int), .int .u64 (list : Int), .string (str text), .float .f64 f, .bool flag]] w fun e w' => e = .returned (.int .i64 (T9.bC ⟨k, id, list, text, f, flag⟩)) ∧ Below w.heap.size w w' := by
 obtain ⟨V, hV⟩ : ∃ v, T9.bC ⟨k, id, list, text, f, flag⟩ = v := ⟨_, rfl⟩
 rw [hV]
 obtain ⟨c1, hc1⟩ : ∃ b, T9.isC f = b := ⟨_, rfl⟩
 obtain ⟨c2, hc2⟩ : ∃ b, T9.title text = b := ⟨_, rfl⟩
 obtain ⟨c3, hc3⟩ : ∃ b, T9.tag text = b := ⟨_, rfl⟩
 obtain ⟨w1, hw1⟩ : ∃ u, w.alloc (.cells #[.int .i64 k, .int .u64 (id : Int), .int .u64 (list : Int), .string (str text), .float .f64 f, .bool flag] 29) = u := ⟨_, rfl⟩
 obtain ⟨pb, b1, z1⟩ := aW hw1
 obtain ⟨p0, p1, p2, p3, p4, p5⟩ := af pb
 have IC := hid fun W => iF f W
 have TC := hid fun W => iZ text ht W
 have GC := hid fun W => pM text ht W
 have CL := hid fun W => dN f W
 rw [hc1] at IC
 rw [hc2] at TC
 rw [hc3] at GC
 have PB := hid pb
 have B0 := hid b1
 have HC1 := hid hc1
 have HC2 := hid hc2
 have HC3 := hid hc3
 have HV := hid hV
 clear pb b1 z1 ht hc1 hc2 hc3 hV
 rcases hk with rfl | rfl | rfl
 have NM := hid (xH w1)
 obtain ⟨w2, hw2, q0, ⟨r0, r1, r2, r3, r4, r5⟩, B1⟩ := ig 12 PB.out B0.out
 obtain ⟨N1, N2, N4, N6, N8, N16, N24, N32, N96, N128⟩ := ib (b1 := false) (b2 := false) (b4 := true) (b6 := true) (b8 := true) (b16 := false) (b24 := true) (b32 := false) (b96 := false) (b128 := false) q0 (by kernel_rfl)
 go_enter Tryz.func12, Tryz.ntmps12
 go_wp2_with (go_at_call 34; refine NM.out.mono ?_; rintro e w' ⟨rfl, rfl⟩)
 rcases cu c1 with rfl | rfl
 rotate_left
 go_wp2_with (((go_at_call 36; refine (IC.out _).mono ?_)); rintro e w' ⟨rfl, rfl⟩)
 rcases (dM list).symm with ⟨zli, yli, xli⟩ | ⟨zli, yli, xli⟩
 rotate_left
 go_wp2_with ((first | (with_reducible refine N1.out.mono ?_) | (with_reducible refine N6.out.mono ?_) | (with_reducible refine N24.out.mono ?_)); rintro e w' ⟨rfl, rfl⟩)
 rcases jS (Fl.eqB f 0) with ⟨zf, yf⟩ | ⟨zf, yf⟩
 rotate_left
 go_wp2_with (((with_reducible refine N96.out.mono ?_)); rintro e w' ⟨rfl, rfl⟩)
 rcases (cu flag).symm with rfl | rfl
 rotate_left
 go_wp2_with ((first | (with_reducible refine N128.out.mono ?_) | (with_reducible refine N1.out.mono ?_) | (with_reducible refine N2.out.mono ?_)); rintro e w' ⟨rfl, rfl⟩)
 rcases dM id with ⟨zid, yid, xid⟩ | ⟨zid, yid, xid⟩
 rotate_left
 go_wp2_with (((with_reducible refine N4.out.mono ?_)); rintro e w' ⟨rfl, rfl⟩)
 rcases cu c2 with rfl | rfl
 rotate_left
 go_wp2_with ((first | (with_reducible refine N8.out.mono ?_) | (go_at_call 37; refine (TC.out _).mono ?_) | (with_reducible refine N16.out.mono ?_) | (go_at_call 38; refine (GC.out _).mono ?_) | (with_reducible refine N32.out.mono ?_) | (go_at_call 39; refine (CL.out _).mono ?_)); rintro e w' ⟨rfl, rfl⟩)
 rotate_left
 have NM := hid (yz w1)
 obtain ⟨w2, hw2, q0, ⟨r0, r1, r2, r3, r4, r5⟩, B1⟩ := ig 132 PB.out B0.out
 obtain ⟨N1, N2, N4, N6, N8, N16, N24, N32, N96, N128⟩ := ib (b1 := false) (b2 := false) (b4 := true) (b6 := true) (b8 := false) (b16 := false) (b24 := false) (b32 := false) (b96 := false) (b128 := true) q0 (by kernel_rfl)
 go_enter Tryz.func12, Tryz.ntmps12
 go_wp2_with (go_at_call 34; refine NM.out.mono ?_; rintro e w' ⟨rfl, rfl⟩)
 rcases cu c1 with rfl | rfl
 rotate_left
 go_wp2_with (((go_at_call 36; refine (IC.out _).mono ?_)); rintro e w' ⟨rfl, rfl⟩)
 rcases (dM list).symm with ⟨zli, yli, xli⟩ | ⟨zli, yli, xli⟩
 rotate_left
 go_wp2_with ((first | (with_reducible refine N1.out.mono ?_) | (with_reducible refine N6.out.mono ?_)); rintro e w' ⟨rfl, rfl⟩)
 rcases (kP text).symm with ⟨zt, te, te2⟩ | ⟨zt, te, te2⟩
 rotate_left
 go_wp2_with (((with_reducible refine N24.out.mono ?_)); rintro e w' ⟨rfl, rfl⟩)
 rcases jS (Fl.eqB f 0) with ⟨zf, yf⟩ | ⟨zf, yf⟩
 rotate_left
 go_wp2_with ((first | (with_reducible refine N96.out.mono ?_) | (with_reducible refine N128.out.mono ?_) | (with_reducible refine N1.out.mono ?_) | (with_reducible refine N2.out.mono ?_)); rintro e w' ⟨rfl, rfl⟩)
 rcases dM id with ⟨zid, yid, xid⟩ | ⟨zid, yid, xid⟩
 rotate_left
 go_wp2_with ((first | (with_reducible refine N4.out.mono ?_) | (with_reducible refine N8.out.mono ?_) | (go_at_call 37; refine (TC.out _).mono ?_) | (with_reducible refine N16.out.mono ?_) | (go_at_call 38; refine (GC.out _).mono ?_) | (with_reducible refine N32.out.mono ?_) | (go_at_call 39; refine (CL.out _).mono ?_)); rintro e w' ⟨rfl, rfl⟩)
 rotate_left
 have NM := hid (xk w1)
 obtain ⟨w2, hw2, q0, ⟨r0, r1, r2, r3, r4, r5⟩, B1⟩ := ig 37 PB.out B0.out
 obtain ⟨N1, N2, N4, N6, N8, N16, N24, N32, N96, N128⟩ := ib (b1 := true) (b2 := false) (b4 := true) (b6 := true) (b8 := false) (b16 := false) (b24 := false) (b32 := true) (b96 := true) (b128 := false) q0 (by kernel_rfl)
 go_enter Tryz.func12, Tryz.ntmps12
 go_wp2_with (go_at_call 34; refine NM.out.mono ?_; rintro e w' ⟨rfl, rfl⟩)
 rcases cu c1 with rfl | rfl
 rotate_left
 go_wp2_with ((first | (go_at_call 36; refine (IC.out _).mono ?_) | (with_reducible refine N1.out.mono ?_) | (with_reducible refine N6.out.mono ?_)); rintro e w' ⟨rfl, rfl⟩)
 rcases (kP text).symm with ⟨zt, te, te2⟩ | ⟨zt, te, te2⟩
 rotate_left
 go_wp2_with ((first | (with_reducible refine N24.out.mono ?_) | (with_reducible refine N96.out.mono ?_)); rintro e w' ⟨rfl, rfl⟩)
 rcases (cu flag).symm with rfl | rfl
 rotate_left
 go_wp2_with (((with_reducible refine N128.out.mono ?_)); rintro e w' ⟨rfl, rfl⟩)
 rcases dM list with ⟨zli, yli, xli⟩ | ⟨zli, yli, xli⟩
 rotate_left
 go_wp2_with ((first | (with_reducible refine N1.out.mono ?_) | (with_reducible refine N2.out.mono ?_)); rintro e w' ⟨rfl, rfl⟩)
 rcases dM id with ⟨zid, yid, xid⟩ | ⟨zid, yid, xid⟩
 rotate_left
 go_wp2_with ((first | (with_reducible refine N4.out.mono ?_) | (with_reducible refine N8.out.mono ?_) | (go_at_call 37; refine (TC.out _).mono ?_) | (with_reducible refine N16.out.mono ?_) | (go_at_call 38; refine (GC.out _).mono ?_)); rintro e w' ⟨rfl, rfl⟩)
 rcases (cu (Fl.isN f)).symm with zn | zn
 rotate_left
 go_wp2_with ((first | (with_reducible refine N32.out.mono ?_) | (go_at_call 39; refine (CL.out _).mono ?_)); rintro e w' ⟨rfl, rfl⟩)
 rotate_left
 all_goals
  try go_wp2_with ((first | (go_at_call 36; refine (IC.out _).mono ?_) | (with_reducible refine N1.out.mono ?_) | (with_reducible refine N2.out.mono ?_) | (with_reducible refine N4.out.mono ?_) | (with_reducible refine N6.out.mono ?_) | (with_reducible refine N8.out.mono ?_) | (with_reducible refine N16.out.mono ?_) | (with_reducible refine N24.out.mono ?_) | (with_reducible refine N32.out.mono ?_) | (with_reducible refine N96.out.mono ?_) | (with_reducible refine N128.out.mono ?_) | (go_at_call 37; refine (TC.out _).mono ?_) | (go_at_call 38; refine (GC.out _).mono ?_) | (go_at_call 39; refine (CL.out _).mono ?_)); rintro e w' ⟨rfl, rfl⟩)
  go_ret
  have hV := HV.out
  have q1 := HC1.out
  have q2 := HC2.out
  have q3 := HC3.out
  try have z1 := zid.out
  try have z2 := zli.out
  try have z3 := zt.out
  simp [T9.bC, T9.extra, T9.nId, T9.jq, T9.jU, T9.nF, T9.mJ, T9.ofL, T9.kC, *] at hV
  subst hV
  exact ⟨rfl, B1.out⟩
end
end Go.Proofs.YtpphmbfghfmdlaaGreat
