/- Stage 5: the law DiskOwn, the walk. -/
import Derived.Test.YtogobeinckgjmaaDa
namespace Go.Proofs.Ytogobeinckgjmaa
open Go.RowKit

set_option maxHeartbeats 4000000 in
set_option maxRecDepth 100000 in
theorem diskOwn_c {A : Option Addr} {cl : Nat} {b : List UInt8} {w : World} (n i : Int) (hL : Lies w w.heap.size 0 A (bcells b)) (hcl : b.length ≤ cl) (hn1 : n ≤ 9223372036854775807) :
    Calls Try.prog 5 #[.int .i64 n, .slice A b.length cl, .int .i64 i] w fun e w' => e = .returned (.bool true) ∧ Below w.heap.size w w' := by
  have kc := fun (w : World) (C : Array Value) (n c : Nat) => Lib.run_convert_bytes_const (P := Try.prog) w 29 5 C n c Try.underlying29 Try.underlying5
  have HL := Lib.hid hL
  have HN := Lib.hid hn1
  have HCL := Lib.hid hcl
  clear hL hn1 hcl
  go_enter Try.func5, Try.ntmps5
  go_wp2_with fail
  refine (awake5 w).mono ?_
  rintro e w1 ⟨rfl, hb1⟩
  have B1 := Lib.hid hb1
  have z1 := hb1.size
  clear hb1
  by_cases hn : 50 < n
  · go_wp2
    go_ret
    exact ⟨rfl, B1.out⟩
  by_cases hb : 64 < b.length
  · have hb2 : (64 : Int) < (b.length : Int) := by omega
    go_wp2
    go_ret
    exact ⟨rfl, B1.out⟩
  have hb2 : (b.length : Int) ≤ 64 := by omega
  have b64 : b.length ≤ 64 := by omega
  clear hb
  go_wp2_with fail
  refine (cdNew_c n _ HN.out).mono ?_
  intro e w2 hp
  obtain ⟨q, G2, rfl, hs2, _, hb2'⟩ := CNewOk.step z1 hp
  have S2 := Lib.hid hs2
  have B2 := Lib.hid (B1.out.trans (hb2'.mono z1))
  have z2 := B2.out.size
  have O2 := Lib.hid (Dk.new_ok n)
  clear hp hs2 hb2'
  go_wp2_with fail
  refine (cdWrite_c S2.out.cd O2.out (by show (-1 : Int) ≤ _; omega) (by show (0 : Nat) ≤ _; omega) (HL.out.below (Nat.le_refl _) B2.out) (HL.out.far S2.out.old z2) rfl (by omega) HCL.out i).mono ?_
  intro e w3 hp
  obtain ⟨rfl, G3, hs3⟩ := CdOk.step S2.out z2 hp
  have S3 := Lib.hid hs3.cs
  have B3 := Lib.hid (B2.out.trans hs3.below)
  have z3 := B3.out.size
  have D3 := Lib.hid (Dk.write_new n i b)
  clear hp hs3
  generalize Dk.write (Dk.new n) i b = r3 at *
  obtain ⟨e3, d3⟩ := r3
  dsimp only at S3 D3 ⊢
  go_wp2_with fail
  refine (cdFlush_c S3.out.cd D3.out.1 (by rw [D3.out.2.1]; omega) (by have := D3.out.2.2.2; omega)).mono ?_
  intro e w4 hp
  obtain ⟨rfl, G4, hs4⟩ := CdOk.step S3.out z3 hp
  have S4 := Lib.hid hs4.cs
  have B4 := Lib.hid (B3.out.trans hs4.below)
  have z4 := B4.out.size
  have D4 := Lib.hid (Dk.flush_live D3.out)
  clear hp hs4
  generalize Dk.flush d3 = r4 at *
  obtain ⟨e4, d4⟩ := r4
  dsimp only at S4 D4 ⊢
  go_wp2_with fail
  refine (cdClone_c S4.out.cd D4.out.1).mono ?_
  intro e w5 hp
  obtain ⟨q2, H5, rfl, hs5, hd5, hb5⟩ := CNewOk.step z4 hp
  have T5 := Lib.hid hs5
  have S5 := Lib.hid (S4.out.keep hb5)
  have B5 := Lib.hid (B4.out.trans (hb5.mono z4))
  have z5 := B5.out.size
  have X5 : Hid (∀ k, H5 k → ¬ G4 k) := Lib.hid fun k hk g => hd5 k (S4.out.old k g).2 hk
  have OC := Lib.hid (Dk.clone_ok D4.out.1)
  clear hp hs5 hb5 hd5
  go_wp2_with fail
  refine (cdRead_c T5.out.cd OC.out (by show (0 : Nat) ≤ _; omega) i).mono ?_
  rintro e w6 ⟨A6, n6, c6, rfl, hl6, hn6, ho6, hb6⟩
  subst hl6
  have T6 := Lib.hid (T5.out.keep hb6)
  have S6 := Lib.hid (S5.out.keep hb6)
  have B6 := Lib.hid (B5.out.trans (hb6.mono z5))
  have z6 := B6.out.size
  have W6 := Lib.hid ho6
  have Y6 : Hid (∀ k, (Value.slice A6 (Dk.read (Dk.clone d4) i).1.length c6).ownBlock = some k → ¬ G4 k ∧ k < w6.heap.size) := Lib.hid fun k hk => ⟨fun g => by have := (S5.out.old k g).2; have := (ho6.lt k hk).1; omega, (ho6.lt k hk).2⟩
  clear ho6 hb6
  go_wp2_with fail
  have ab6 := Lib.hid ((Below.refl w6.heap.size w6).alloc (Nat.le_refl _) (.cells (bcells [111, 116, 104, 101, 114]).toArray 5 (5, 6)))
  have S6a := Lib.hid (S6.out.keep ab6.out)
  have B6a := Lib.hid (B6.out.trans (ab6.out.mono z6))
  refine (cdWrite_c (b := [111, 116, 104, 101, 114]) S6a.out.cd D4.out.1 (by rw [D4.out.2.1]; omega) (by have := D4.out.2.2.2; omega) (Lies.of_blk (B := 0) (heap_alloc_new w6 _)) (S6.out.far _) rfl (by decide) (by decide) i).mono ?_
  intro e w7 hp
  obtain ⟨rfl, G7, hs7⟩ := CdOk.step S6a.out B6a.out.size hp
  have S7 := Lib.hid hs7.cs
  have B7 := Lib.hid (B6a.out.trans hs7.below)
  have z7 := B7.out.size
  have T7 := Lib.hid ((T6.out.keep ab6.out).but hs7.but X5.out)
  have D7 := Lib.hid (Dk.write_live D4.out i [111, 116, 104, 101, 114])
  have X7 : Hid (∀ k, H5 k → ¬ G7 k) := Lib.hid fun k hk g => X5.out k hk (hs7.new k (Nat.lt_of_lt_of_le (T6.out.old k hk).2 ab6.out.size) g)
  have W7 := Lib.hid (own_keep W6.out (fun k hk => (hs7.but.block k (Nat.lt_of_lt_of_le (Y6.out k hk).2 ab6.out.size) (Y6.out k hk).1).trans (ab6.out.block k (Y6.out k hk).2)))
  have Y7 : Hid (∀ k, (Value.slice A6 (Dk.read (Dk.clone d4) i).1.length c6).ownBlock = some k → ¬ G7 k ∧ k < w7.heap.size) := Lib.hid fun k hk => ⟨fun g => (Y6.out k hk).1 (hs7.new k (Nat.lt_of_lt_of_le (Y6.out k hk).2 ab6.out.size) g), Nat.lt_of_lt_of_le (Y6.out k hk).2 (Nat.le_trans ab6.out.size hs7.but.size)⟩
  clear hp hs7
  generalize Dk.write d4 i [111, 116, 104, 101, 114] = r7 at *
  obtain ⟨e7, d7⟩ := r7
  dsimp only at S7 D7 ⊢
  go_wp2_with fail
  refine (cdFlush_c S7.out.cd D7.out.1 (by rw [D7.out.2.1]; omega) (by have := D7.out.2.2.2; omega)).mono ?_
  intro e w8 hp
  obtain ⟨rfl, G8, hs8⟩ := CdOk.step S7.out z7 hp
  have B8 := Lib.hid (B7.out.trans hs8.below)
  have z8 := B8.out.size
  have T8 := Lib.hid (T7.out.but hs8.but X7.out)
  have W8 := Lib.hid (own_keep W7.out (fun k hk => hs8.but.block k (Y7.out k hk).2 (Y7.out k hk).1))
  clear hp hs8
  generalize Dk.flush d7 = r8 at *
  obtain ⟨e8, d8⟩ := r8
  dsimp only at ⊢
  go_wp2_with fail
  refine (cdRead_c T8.out.cd OC.out (by show (0 : Nat) ≤ _; omega) i).mono ?_
  rintro e w9 ⟨A9, n9, c9, rfl, hl9, hn9, ho9, hb9⟩
  subst hl9
  have B9 := Lib.hid (B8.out.trans (hb9.mono z8))
  have z9 := B9.out.size
  have W9 := Lib.hid (own_below W8.out hb9)
  have V9 := Lib.hid ho9
  clear ho9 hb9 kc
  go_wp2_with fail
  refine (ndArm_c 3 w9).mono ?_
  rintro e w10 ⟨rfl, hb⟩
  have B10 := Lib.hid (B9.out.trans (hb.mono z9))
  have z10 := B10.out.size
  have W10 := Lib.hid (own_below W9.out hb)
  have V10 := Lib.hid (own_below V9.out hb)
  clear hb
  go_wp2_with fail
  have ab10 := Lib.hid ((Below.refl w10.heap.size w10).alloc (Nat.le_refl _) (.cells #[.bool true] 4))
  have W10a := Lib.hid (own_below W10.out ab10.out)
  have V10a := Lib.hid (own_below V10.out ab10.out)
  have B10a := Lib.hid (B10.out.trans (ab10.out.mono z10))
  refine (ndCrash_c _ 1 1 _).mono ?_
  rintro e w11 ⟨rfl, hb⟩
  have B11 := Lib.hid (B10a.out.trans (hb.mono B10a.out.size))
  have z11 := B11.out.size
  have W11 := Lib.hid (own_below W10a.out hb)
  have V11 := Lib.hid (own_below V10a.out hb)
  clear hb
  go_wp2_with fail
  refine (ndFault_c i true w11).mono ?_
  rintro e w12 ⟨rfl, hb⟩
  have B12 := Lib.hid (B11.out.trans (hb.mono z11))
  have z12 := B12.out.size
  have W12 := Lib.hid (own_below W11.out hb)
  have V12 := Lib.hid (own_below V11.out hb)
  clear hb
  go_wp2_with fail
  refine (ndWipe_c w12).mono ?_
  rintro e w13 ⟨rfl, hb⟩
  have B13 := Lib.hid (B12.out.trans (hb.mono z12))
  have z13 := B13.out.size
  have W13 := Lib.hid (own_below W12.out hb)
  have V13 := Lib.hid (own_below V12.out hb)
  clear hb
  go_wp2_with fail
  refine (ndRead_c i w13).mono ?_
  rintro e w14 ⟨A14, n14, c14, rfl, hl14, hn14, ho14, hb⟩
  have B14 := Lib.hid (B13.out.trans (hb.mono z13))
  have z14 := B14.out.size
  have W14 := Lib.hid (own_below W13.out hb)
  have V14 := Lib.hid (own_below V13.out hb)
  clear hb ho14
  have g1 := conv_at (c := c6) (lies_own (B := 0) W14.out) rfl
  have g2 := conv_at (c := c9) (lies_own (B := 0) V14.out) rfl
  go_wp2_with fail
  refine (ndWrite_c i A b.length cl w14).mono ?_
  rintro e w15 ⟨rfl, hb⟩
  have B15 := Lib.hid (B14.out.trans (hb.mono z14))
  have z15 := B15.out.size
  clear hb
  go_wp2_with fail
  refine (ndFlush_c w15).mono ?_
  rintro e w16 ⟨rfl, hb⟩
  have B16 := Lib.hid (B15.out.trans (hb.mono z15))
  have z16 := B16.out.size
  clear hb
  go_wp2_with fail
  refine (ndSize_c w16).mono ?_
  rintro e w17 ⟨rfl, hb⟩
  have B17 := Lib.hid (B16.out.trans (hb.mono z16))
  have z17 := B17.out.size
  clear hb
  go_wp2_with fail
  refine (ndCached_c w17).mono ?_
  rintro e w18 ⟨rfl, hb⟩
  have B18 := Lib.hid (B17.out.trans (hb.mono z17))
  have z18 := B18.out.size
  clear hb
  go_wp2_with fail
  refine (ndDead_c w18).mono ?_
  rintro e w19 ⟨rfl, hb⟩
  have B19 := Lib.hid (B18.out.trans (hb.mono z18))
  have z19 := B19.out.size
  clear hb
  go_wp2_with fail
  refine (ndClone_c w19).mono ?_
  rintro e w20 ⟨rfl, hb⟩
  have B20 := Lib.hid (B19.out.trans (hb.mono z19))
  have z20 := B20.out.size
  clear hb
  go_wp2
  go_ret
  exact ⟨rfl, B20.out⟩
end Go.Proofs.Ytogobeinckgjmaa
