/- Stage 6: the law SuperKeeps, the walk. -/
import Derived.Test.YthddpenpmjonkaaSa
import Derived.Test.YthddpenpmjonkaaSld
import Derived.Test.YthddpenpmjonkaaOpu
namespace Go.Proofs.Ythddpenpmjonkaa
open Go.RowKit
set_option maxRecDepth 100000

/-- A row of no disk, behind a call on the disk. -/
theorem CStep.row {w w' : World} {B base : Nat} {G G2 : Nat → Prop} {q : Nat} {d : Dk.D} {e : TypeId} {size n : Nat} {v : Value} {xs : List Value} (hs : CStep w w' B G G2 q d) (ho : w.ownsRow base e size v n xs) (hoff : ∀ k, v.ownBlock = some k → ¬ G k) :
    w'.ownsRow base e size v n xs ∧ ∀ k, v.ownBlock = some k → ¬ G2 k :=
  ⟨own_keep ho (fun k e => hs.but.block k (ho.lt k e).2 (hoff k e)), fun k e g => hoff k e (hs.new k (ho.lt k e).2 g)⟩

theorem Calm.arm {d : Dk.D} (h : Su.Calm d) (n : Int) : Su.Calm (Dk.arm d n) := ⟨Dk.arm_ok h.ok n, h.dead, h.cache, h.bad0, h.bad1⟩
theorem big_no {j : Nat} (h : j ≤ 100) : decide ((9223372036854775808 : Int) ≤ (j : Int)) = false := by simp; omega
theorem big_no2 {j : Nat} (h : j ≤ 100) : decide (9223372036854775808 ≤ j) = false := by simp; omega
theorem nat_u64 {n : Nat} (h : n ≤ 100) : U64 n := U64.of (by omega)

set_option maxHeartbeats 8000000 in
set_option maxRecDepth 100000 in
theorem superKeeps_c {A1 A2 KA : Option Addr} {c1 c2 ck : Nat} {ls : List MNs} {k : List Nat} {ks : List Bool} {w : World} (arm : Int) (h1 : NL w w.heap.size A1 ls) (h2 : Lies w w.heap.size 0 A2 (ncells k)) (hc2 : k.length ≤ c2) (hx : ∀ x ∈ k, U64 x) (ha : arm ≤ 9223372036854775807) (hK : Lies w w.heap.size 0 KA (ks.map Value.bool)) (hck : ks.length ≤ ck) :
    Calls Try.prog 5 #[.slice A1 ls.length c1, .slice A2 k.length c2, .int .i64 arm, .slice KA ks.length ck] w fun e w' => e = .returned (.bool true) ∧ Below w.heap.size w w' := by
  have H1 := Lib.hid h1
  have H2 := Lib.hid h2
  have HX := Lib.hid hx
  have HA := Lib.hid ha
  have HK := Lib.hid hK
  have HCK := Lib.hid hck
  obtain ⟨n1, en1⟩ : ∃ n, n = ls.length := ⟨_, rfl⟩
  obtain ⟨n2, en2⟩ : ∃ n, n = k.length := ⟨_, rfl⟩
  obtain ⟨n3, en3⟩ : ∃ n, n = ks.length := ⟨_, rfl⟩
  rw [← en1, ← en2, ← en3]
  rw [← en2] at hc2
  rw [← en3] at HCK
  have N1 := Lib.hid en1
  have N2 := Lib.hid en2
  have N3 := Lib.hid en3
  clear h1 h2 hx ha hK hck en1 en2 en3
  go_enter Try.func5, Try.ntmps5
  go_wp2_with fail
  refine (awake6 w).mono ?_
  rintro e w1 ⟨rfl, hb1⟩
  have B1 := Lib.hid hb1
  clear hb1
  have z1 := B1.out.size
  by_cases q : 8 < n1 ∨ 4 < n2 ∨ 20 < n3
  · go_wp2
    all_goals first
      | (go_ret; exact ⟨rfl, B1.out⟩)
      | (exfalso; omega)
  have q1 : n1 ≤ 8 := by omega
  have q2 : n2 ≤ 4 := by omega
  have q3 : n3 ≤ 20 := by omega
  clear q
  obtain ⟨f1, f2, f3, f4, f5⟩ := Su.format_well (n := 4) (by decide) (l := []) ⟨by decide, by simp, by decide⟩
  have F1 := Lib.hid f1
  have F2 := Lib.hid f2
  have F3 := Lib.hid f3
  have F5 := Lib.hid f5
  clear f1 f2 f3 f4 f5
  go_wp2_with fail
  refine (cdNew_c 4 _ (by decide)).mono ?_
  intro e w3 hp
  obtain ⟨q, G3, rfl, hs3, _, hb3⟩ := CNewOk.step z1 hp
  have S3 := Lib.hid hs3
  have B3 := Lib.hid (B1.out.trans (hb3.mono z1))
  have z3 := B3.out.size
  clear hp hs3 hb3
  go_wp2_with fail
  refine (suFormat_c (l := []) (B := 0) (t := 0) S3.out.cd S3.out.lt (Dk.new_ok 4) (by decide) (by decide) Lies.nil (fun h => absurd rfl h) rfl (by decide) (by simp) (by decide)).mono ?_
  rw [F1.out]
  intro e w4 hp
  obtain ⟨rfl, G4, hs4⟩ := CdOk.step S3.out z3 hp
  have S4 := Lib.hid hs4.cs
  have B4 := Lib.hid (B3.out.trans hs4.below)
  clear hp hs4
  generalize (Su.format (Dk.new 4) []).2 = D4 at *
  go_wp2_with fail
  go_loopw [43] (fun i wr => ∃ (j : Nat) (G : Nat → Prop) (D : Dk.D) (l : List Nat), j ≤ n1 ∧ i = .int .i64 j ∧ CS wr w.heap.size G q D ∧ Su.Calm D ∧ D.left = -1 ∧ Su.Two j l D.s ∧ Below w.heap.size w wr) (fun i _ => n1 - (intOf i).toNat)
  case atStart => exact ⟨0, G4, D4, [], Nat.zero_le _, rfl, S4.out, F2.out, F3.out, F5.out, B4.out⟩
  case round =>
    obtain ⟨j, G, D, l, hj, rfl, hs, hcm, hlf, htw, hb⟩ := hrel
    have S := Lib.hid hs
    have CM := Lib.hid hcm
    have LF := Lib.hid hlf
    have TW := Lib.hid htw
    have B := Lib.hid hb
    have hz := hb.size
    have LD := Lib.hid (Su.load_two' hcm htw)
    have CL := Lib.hid (show D.cache.length ≤ 1000000 by rw [hcm.cache]; decide)
    have l4 := htw.good.few
    clear hs hcm hlf htw hb
    by_cases hlt : j < n1
    · have hlt2 : j < ls.length := by rw [← N1.out]; exact hlt
      obtain ⟨ad, m, rfl, hm, hf, hcell⟩ := (H1.out.below (Nat.le_refl _) B.out).at_ hlt2
      have FI := Lib.hid (H1.out.2 m (List.mem_of_getElem? hm))
      obtain ⟨nm, enm⟩ : ∃ n, n = m.ns.length := ⟨_, rfl⟩
      rw [← enm] at hcell
      have NM := Lib.hid enm
      clear hm hf enm
      go_wp2_with fail
      refine (suLoad_c S.out.cd S.out.lt CM.out.ok (by have := CL.out; omega)).mono ?_
      rw [LD.out]
      rintro e w5 ⟨A5, n5, c5, rfl, _, _, _, hb5⟩
      have S5 := Lib.hid (S.out.keep hb5)
      have B5 := Lib.hid (B.out.trans (hb5.mono hz))
      have z5 := B5.out.size
      clear hb5
      have big1 : decide ((9223372036854775808 : Int) ≤ (j : Int)) = false := big_no (by omega)
      have big2 : decide (9223372036854775808 ≤ j) = false := big_no2 (by omega)
      by_cases hm4 : 4 < nm
      · go_wp2
        go_ret
        exact ⟨rfl, B5.out⟩
      · have gd : Su.Good (j + 1) m.ns := ⟨by omega, FI.out.2.2, by rw [← NM.out]; omega⟩
        obtain ⟨s1, s2, s3, s4, s5⟩ := Su.save_well CM.out LF.out TW.out gd
        have V1 := Lib.hid s1
        have V2 := Lib.hid s2
        have V3 := Lib.hid s3
        have V5 := Lib.hid s5
        clear s1 s2 s3 s4 s5 gd
        go_wp2_with fail
        refine (suSave_c (g := j + 1) (l := m.ns) S5.out.cd S5.out.lt CM.out.ok (by rw [LF.out]; decide) (by have := CL.out; omega) (FI.out.1.below (Nat.le_refl _) B5.out) NM.out (by rw [NM.out]; exact FI.out.2.1) (nat_u64 (by omega)) FI.out.2.2 (by omega)).mono ?_
        rw [V1.out]
        intro e w6 hp
        obtain ⟨rfl, G6, hs6⟩ := CdOk.step S5.out z5 hp
        have S6 := Lib.hid hs6.cs
        have B6 := Lib.hid (B5.out.trans hs6.below)
        clear hp hs6
        generalize (Su.save D (j + 1) m.ns).2 = D6 at *
        go_wp2
        go_roundw
        case rel => exact ⟨j + 1, G6, D6, m.ns, by omega, by go_num, S6.out, V2.out, V3.out, V5.out, B6.out⟩
        case measure => simp [intOf]; omega
    · obtain rfl : j = n1 := by omega
      have AL := Lib.hid (show -1 ≤ (Dk.arm D arm).left by show -1 ≤ (if 0 ≤ arm then arm else -1); split <;> omega)
      have AT := Lib.hid (show (Dk.arm D arm).left ≤ 9223372036854775807 by have := HA.out; show (if 0 ≤ arm then arm else -1) ≤ _; split <;> omega)
      have AC := Lib.hid (Calm.arm CM.out arm)
      have GK := Lib.hid (show Su.Good (j + 1) k from ⟨by omega, HX.out, by rw [← N2.out]; omega⟩)
      have SC := Lib.hid (Su.save_crash AC.out AL.out (show Su.Two j l (Dk.arm D arm).s from TW.out) GK.out ks)
      have AF := Lib.hid (show Dk.Fine 0 (Dk.arm D arm) from ⟨AC.out.ok, AT.out, by rw [AC.out.cache]; exact Nat.le_refl _⟩)
      have SV := Lib.hid (save_fine AF.out (j + 1) k)
      go_wp2_with fail
      refine (suLoad_c S.out.cd S.out.lt CM.out.ok (by have := CL.out; omega)).mono ?_
      rw [LD.out]
      rintro e w5 ⟨A5, n5, c5, rfl, hn5, _, ho5, hb5⟩
      dsimp only at hn5 ho5 ⊢
      have O5 := Lib.hid ho5
      have N5 := Lib.hid hn5
      have S5 := Lib.hid (S.out.keep hb5)
      have B5 := Lib.hid (B.out.trans (hb5.mono hz))
      have z5 := B5.out.size
      have n54 : n5 ≤ 4 := by rw [hn5]; exact l4
      have OF5 := Lib.hid (show ∀ k, (Value.slice A5 n5 c5).ownBlock = some k → ¬ G k from fun k e g => by have := (ho5.lt k e).1; have := S.out.lt k g; omega)
      clear hb5 ho5 hn5
      go_wp2_with fail
      refine (cdArm_c S5.out.cd arm).mono ?_
      intro e w6 hp
      obtain ⟨rfl, G6, hs6⟩ := CdOk0.step S5.out z5 hp
      have S6 := Lib.hid hs6.cs
      have r6 := hs6.row O5.out OF5.out
      have O6 := Lib.hid r6.1
      have OF6 := Lib.hid r6.2
      have B6 := Lib.hid (B5.out.trans hs6.below)
      have z6 := B6.out.size
      clear hp hs6 r6
      go_wp2_with fail
      refine (suSave_c (g := j + 1) (l := k) S6.out.cd S6.out.lt AC.out.ok AT.out (by rw [AC.out.cache]; decide) (H2.out.below (Nat.le_refl _) B6.out) N2.out hc2 (nat_u64 (by omega)) HX.out (by omega)).mono ?_
      intro e w7 hp
      obtain ⟨rfl, G7, hs7⟩ := CdOk.step S6.out z6 hp
      have S7 := Lib.hid hs7.cs
      have r7 := hs7.row O6.out OF6.out
      have O7 := Lib.hid r7.1
      have OF7 := Lib.hid r7.2
      have B7 := Lib.hid (B6.out.trans hs7.below)
      have z7 := B7.out.size
      clear hp hs7 r7
      generalize Su.save (Dk.arm D arm) (j + 1) k = r at *
      obtain ⟨done, D7⟩ := r
      dsimp only at S7 SC SV ⊢
      go_wp2_with fail
      refine (cdCrash_c (ks := ks) S7.out.cd SV.out.ok (by have := SV.out.few; omega) (HK.out.below (Nat.le_refl _) B7.out) (HK.out.far S7.out.old B7.out.size) N3.out (by omega) HCK.out).mono ?_
      intro e w8 hp
      obtain ⟨rfl, G8, hs8⟩ := CdOk0.step S7.out z7 hp
      have S8 := Lib.hid hs8.cs
      have r8 := hs8.row O7.out OF7.out
      have O8 := Lib.hid r8.1
      have B8 := Lib.hid (B7.out.trans hs8.below)
      have z8 := B8.out.size
      have OK8 := Lib.hid (Dk.crash_ok SV.out.ok ks)
      clear hp hs8 r8
      go_wp2_with fail
      refine (suLoad_c S8.out.cd S8.out.lt OK8.out (by show (0 : Nat) ≤ _; omega)).mono ?_
      rcases SC.out with ⟨ld, dn⟩ | ld
      · rw [ld]
        rintro e w9 ⟨A9, n9, c9, rfl, hn9, _, ho9, hb9⟩
        dsimp only at hn9 ho9 ⊢
        have O9 := Lib.hid ho9
        have N9 := Lib.hid hn9
        have O89 := Lib.hid (own_below O8.out hb9)
        have B9 := Lib.hid (B8.out.trans (hb9.mono z8))
        have n94 : n9 ≤ 4 := by rw [hn9]; exact l4
        have dd : (done != 0) = true := by simpa using dn
        have jj : ((j : Int) == (j : Int)) = true := by simp
        clear hb9 ho9 hn9 ld dn SC
        go_wp2_with fail
        refine (sameNums_c (Lies.of_own (B := 0) O9.out) (Lies.of_own (B := 0) O89.out) N9.out N5.out (by omega) rfl).mono ?_
        rintro e w10 ⟨rfl, i, rfl⟩
        go_wp2
        go_ret
        exact ⟨rfl, below_drewN B9.out i⟩
      · rw [ld]
        rintro e w9 ⟨A9, n9, c9, rfl, hn9, _, ho9, hb9⟩
        dsimp only at hn9 ho9 ⊢
        have O9 := Lib.hid ho9
        have N9 := Lib.hid hn9
        have B9 := Lib.hid (B8.out.trans (hb9.mono z8))
        have n94 : n9 ≤ 4 := by rw [hn9, ← N2.out]; exact q2
        have jj : (((j + 1 : Nat) : Int) == (j : Int)) = false := by simp; omega
        have j1 : (((j + 1 : Nat) : Int) == (j : Int) + 1) = true := by simp
        clear hb9 ho9 hn9 ld SC
        go_wp2_with fail
        refine (sameNums_c (Lies.of_own (B := 0) O9.out) (H2.out.below (Nat.le_refl _) B9.out) N9.out N2.out (by omega) rfl).mono ?_
        rintro e w10 ⟨rfl, i, rfl⟩
        go_wp2
        go_ret
        exact ⟨rfl, below_drewN B9.out i⟩
end Go.Proofs.Ythddpenpmjonkaa
