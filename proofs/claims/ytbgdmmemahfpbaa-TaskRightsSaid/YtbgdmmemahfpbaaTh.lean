/- The sort in place of slices.SortStableFunc, at lists, whatever program P bears these bodies: elements of k cells, a comparison that may lay blocks. -/
import Derived.Test.YtbgdmmemahfpbaaTd
import Derived.Test.YtbgdmmemahfpbaaProg
import Derived.Shelf.SlSortCmp.KitK
import Derived.Sort.WalkB2
import Derived.Sort.WalkB12
import Derived.Deep.LoopGhost
import Derived.BigRegion
import Derived.WalkKit
import Derived.Lib.Hide
import Derived.Deep.DeepCutAuto
namespace Go.Proofs.Ytbgdmmemahfpbaa
open Go.Shelf Go.RowKit Go.Lib Go.Sort
set_option maxRecDepth 100000


variable {P : Program} {α : Type} [Inhabited α]

set_option maxHeartbeats 8000000 in
set_option maxRecDepth 1000000 in
theorem stableL (L : SrtL P) (k : Nat) (aE : ∀ w, (isAgg 41).run P w = .ok true w) (zE : ∀ w, (Go.sizeOf 41).run P w = .ok k w) (enc : α → List Value) (blk off cap : Nat) (d0 d : Array α) (w0 w : World) (R : RowK enc k w0 blk off d0) (hs : d0.size = d.size) (S : SWK enc k w0 blk off d w) (cf : α → α → Int) (g : Nat) (cb : Array Value) (eg : ∀ args w, (callFunc g args).run P w = .ok (.enter g args) w) (hcmp : CmpLays P g cb enc k cf blk off d0.size w0) (ho : Sr.WO (ltOf cf)) (n : Nat) (hn : n = d.size) (hsz : d.size < 4611686018427387904) :
    Calls P 112 #[.slice (some ⟨blk, off, none⟩) d.size cap, .int .i64 n, .func (.func g) #[] cb] w fun e w' => e = .returned (.tuple #[]) ∧ SrtOkL cf enc k w0 blk off d [] d.toList [] w' := by
  have mixed := L.mixed; have u0 := L.u0; have a0 := L.a0; have z0 := L.z0; have v0 := L.v0; have u3 := L.u3; have a3 := L.a3; have z3 := L.z3; have v3 := L.v3; have u4 := L.u4; have a4 := L.a4; have z4 := L.z4; have v4 := L.v4; have u5 := L.u5; have a5 := L.a5; have z5 := L.z5; have v5 := L.v5; have u6 := L.u6; have a6 := L.a6; have z6 := L.z6; have v6 := L.v6; have u7 := L.u7; have a7 := L.a7; have z7 := L.z7; have v7 := L.v7
  have HN := Lib.hid hn
  have n1 : n ≤ d.size := by omega
  have n2 : d.size ≤ n := by omega
  have HC : Aside _ := hcmp
  have S0 : Aside _ := S
  have FG := L.f5
  have e3 := L.e3
  have e4 := L.e4
  clear S hcmp hn
  go_enter FG, Try.ntmps112
  go_wp2_with fail
  go_loopw [7, 8] (fun s7 s8 wr => ∃ (a : Nat) (dk : Array α) (D R' : List α), s7 = .int .i64 a ∧ s8 = .int .i64 ((a : Int) + 20) ∧ a ≤ n ∧ dk.size = d.size ∧ Aside (SWK enc k w0 blk off dk wr) ∧ Hid (dk.toList = D ++ R' ∧ D.length = a ∧ Sr.Pre (ltOf cf) 20 D ∧ Sr.Stb (ltOf cf) d.toList (D ++ R'))) (fun s7 _ _ => n - (intOf s7).toNat)
  case atStart => exact ⟨0, d, [], d.toList, rfl, rfl, Nat.zero_le _, rfl, S0, Lib.hid ⟨rfl, rfl, Sr.Pre.nil, Sr.Stb.refl _⟩⟩
  case round =>
    obtain ⟨a, dk, D, R', rfl, rfl, han, hds, S1, HE⟩ := hrel
    clear S0
    have hl : Hid (D.length + R'.length = n) := Lib.hid (by have := congrArg List.length HE.out.1; rw [Array.length_toList, List.length_append] at this; omega)
    by_cases hlt : a + 20 ≤ n
    · have hlz : (a : Int) + 20 ≤ (n : Int) := by omega
      have hcall := insertionL (P := P) L k aE zE enc blk off cap d0 dk w0 wr R (by omega) S1.out cf g cb eg HC.out ho (A := D) (B := R'.take 20) (C := R'.drop 20) (by rw [HE.out.1, List.take_append_drop]) a (a + 20) HE.out.2.1.symm (by rw [List.length_take]; have := hl.out; have := HE.out.2.1; omega) (by omega)
      rw [hds, show ((a + 20 : Nat) : Int) = (a : Int) + 20 by omega] at hcall
      clear S1
      go_wp2_with (go_at_fn 124; refine hcall.mono ?_; rintro e w1 ⟨rfl, dk1, W, S2, hd1, hl1, hl2, hl3, hl4⟩)
      have S3 : Aside _ := S2
      have HL := Lib.hid (And.intro hl1 (And.intro hl2 (And.intro hl3 hl4)))
      clear S2 hl1 hl2 hl3 hl4
      go_wp2
      go_roundw
      case rel =>
        refine ⟨a + 20, dk1, D ++ W, R'.drop 20, by go_num, by congr 1 <;> omega, hlt, by omega, S3, Lib.hid ⟨by rw [HL.out.1]; simp, by rw [List.length_append, HL.out.2.1, List.length_take]; have := hl.out; have := HE.out.2.1; omega, HE.out.2.2.1.snoc (by rw [HL.out.2.1, List.length_take]; have := hl.out; have := HE.out.2.1; omega) HL.out.2.2.1, ?_⟩⟩
        refine HE.out.2.2.2.trans ?_
        have := ((Sr.Stb.refl (lt := ltOf cf) D).app HL.out.2.2.2).app (Sr.Stb.refl (lt := ltOf cf) (R'.drop 20))
        rwa [List.append_assoc, List.take_append_drop] at this
      case measure => simp [intOf]; omega
    · have hlz : ¬ (a : Int) + 20 ≤ (n : Int) := by omega
      have hcall := insertionL (P := P) L k aE zE enc blk off cap d0 dk w0 wr R (by omega) S1.out cf g cb eg HC.out ho (A := D) (B := R') (C := []) (by rw [HE.out.1, List.append_nil]) a n HE.out.2.1.symm (by have := hl.out; omega) (by omega)
      rw [hds] at hcall
      clear S1
      go_wp2_with (go_at_fn 124; refine hcall.mono ?_; rintro e w1 ⟨rfl, dk1, W, S2, hd1, hl1, hl2, hl3, hl4⟩)
      have S3 : Aside _ := S2
      have HB1 : Hid (Sr.Blk (ltOf cf) 20 dk1.toList ∧ Sr.Stb (ltOf cf) d.toList dk1.toList) := Lib.hid (by
        rw [hl1, List.append_nil]
        exact ⟨HE.out.2.2.1 W (Sr.Blk.last (by have := hl.out; have := HE.out.2.1; omega) hl3), HE.out.2.2.2.trans ((Sr.Stb.refl _).app hl4)⟩)
      have hd1' : dk1.size = d.size := by omega
      clear S2 hl1 hl2 hl3 hl4 hl HE
      go_wp2_with fail
      go_loopw [6] (fun s6 wr => ∃ (bs : Nat) (dk : Array α), s6 = .int .i64 bs ∧ 20 ≤ bs ∧ bs ≤ 2 * n + 20 ∧ dk.size = d.size ∧ Aside (SWK enc k w0 blk off dk wr) ∧ Hid (Sr.Blk (ltOf cf) bs dk.toList ∧ Sr.Stb (ltOf cf) d.toList dk.toList)) (fun s6 _ => n - (intOf s6).toNat)
      case atStart => exact ⟨20, dk1, rfl, Nat.le_refl _, by omega, hd1', S3, HB1⟩
      case round =>
        clear S3 HB1 hd1 hd1' hds han
        obtain ⟨bs, dk2, rfl, hb1, hb2, hds, S1, HE⟩ := hrel
        by_cases hbn : bs < n
        · as_aux_lemma =>
          have hbz : (bs : Int) < (n : Int) := by omega
          go_wp2_with fail
          go_loopw [7, 8] (fun s7 s8 wr => ∃ (a : Nat) (dk : Array α) (D R' : List α), s7 = .int .i64 a ∧ s8 = .int .i64 ((a : Int) + 2 * (bs : Int)) ∧ a ≤ n ∧ dk.size = d.size ∧ Aside (SWK enc k w0 blk off dk wr) ∧ Hid (dk.toList = D ++ R' ∧ D.length = a ∧ Sr.Pre (ltOf cf) (2 * bs) D ∧ Sr.Blk (ltOf cf) bs R' ∧ Sr.Stb (ltOf cf) d.toList (D ++ R'))) (fun s7 _ _ => n - (intOf s7).toNat)
          case atStart => exact ⟨0, dk2, [], dk2.toList, rfl, by congr 1 <;> omega, Nat.zero_le _, hds, S1, Lib.hid ⟨rfl, rfl, Sr.Pre.nil, HE.out.1, HE.out.2⟩⟩
          case round =>
            clear S1 HE hds
            obtain ⟨a, dk, D, R', rfl, rfl, han, hds, S1, HE⟩ := hrel
            have hl : Hid (D.length + R'.length = n) := Lib.hid (by have := congrArg List.length HE.out.1; rw [Array.length_toList, List.length_append] at this; omega)
            by_cases hlt : a + 2 * bs ≤ n
            · have hlz : (a : Int) + 2 * (bs : Int) ≤ (n : Int) := by omega
              obtain ⟨q1, r1, hq1, hq2, hq3, hq4⟩ := HE.out.2.2.2.1.first' (by omega) (by have := hl.out; have := HE.out.2.1; omega)
              have hr := congrArg List.length hq1
              rw [List.length_append] at hr
              obtain ⟨q5, r5, hq5, hq6, hq7, hq8⟩ := hq4.first' (by omega) (by have := hl.out; have := HE.out.2.1; omega)
              have hcall := symMergeL (P := P) L k aE zE enc blk off cap d0 w0 R cf g cb eg HC.out ho (q1.length + q5.length) D q1 q5 r5 dk wr (by omega) S1.out (by rw [HE.out.1, hq1, hq5]) hq3 hq7 a (a + bs) (a + 2 * bs) HE.out.2.1.symm (by have := HE.out.2.1; omega) (by have := HE.out.2.1; omega) (by omega) (by omega) (Nat.le_refl _) (by omega)
              rw [hds, show ((a + bs : Nat) : Int) = (a : Int) + (bs : Int) by omega, show ((a + 2 * bs : Nat) : Int) = (a : Int) + 2 * (bs : Int) by omega] at hcall
              have Q1 := Lib.hid hq1
              have Q2 := Lib.hid hq2
              have Q5 := Lib.hid hq5
              have Q6 := Lib.hid hq6
              have Q8 := Lib.hid hq8
              clear S1 hq1 hq2 hq3 hq4 hq5 hq6 hq7 hq8 hr
              go_wp2_with (go_at_fn 125; refine hcall.mono ?_; rintro e w1 ⟨rfl, dk1, W, S2, hd1, hl1, hl2, hl3, hl4⟩)
              have S3 : Aside _ := S2
              have HL := Lib.hid (And.intro hl1 (And.intro hl2 (And.intro hl3 hl4)))
              clear S2 hl1 hl2 hl3 hl4
              go_wp2
              go_roundw
              case rel =>
                refine ⟨a + 2 * bs, dk1, D ++ W, r5, by congr 1 <;> omega, by congr 1 <;> omega, hlt, by omega, S3, Lib.hid ⟨by rw [HL.out.1]; simp, by rw [List.length_append, HL.out.2.1, List.length_append]; have := HE.out.2.1; have := Q2.out; have := Q6.out; omega, HE.out.2.2.1.snoc (by rw [HL.out.2.1, List.length_append]; have := Q2.out; have := Q6.out; omega) HL.out.2.2.1, Q8.out, ?_⟩⟩
                refine HE.out.2.2.2.2.trans ?_
                have := ((Sr.Stb.refl (lt := ltOf cf) D).app HL.out.2.2.2).app (Sr.Stb.refl (lt := ltOf cf) r5)
                rw [Q1.out, Q5.out]
                simpa using this
              case measure => simp [intOf]; omega
            · have hlz : ¬ (a : Int) + 2 * (bs : Int) ≤ (n : Int) := by omega
              have wm : IntKind.i64.wrap ((bs : Int) * 2) = (bs : Int) * 2 := by rw [IntKind.wrap_i64]; omega
              by_cases hmn : a + bs < n
              · have hmz : (a : Int) + (bs : Int) < (n : Int) := by omega
                obtain ⟨q1, r1, hq1, hq2, hq3, hq4⟩ := HE.out.2.2.2.1.first (by have := hl.out; have := HE.out.2.1; omega)
                have hr := congrArg List.length hq1
                rw [List.length_append] at hr
                have hq7 := hq4.all (by have := hl.out; have := HE.out.2.1; omega)
                have hcall := symMergeL (P := P) L k aE zE enc blk off cap d0 w0 R cf g cb eg HC.out ho (q1.length + r1.length) D q1 r1 [] dk wr (by omega) S1.out (by rw [HE.out.1, hq1, List.append_nil]) hq3 hq7 a (a + bs) n HE.out.2.1.symm (by have := HE.out.2.1; omega) (by have := hl.out; omega) (by omega) (by have := hl.out; have := HE.out.2.1; omega) (Nat.le_refl _) (by omega)
                rw [hds, show ((a + bs : Nat) : Int) = (a : Int) + (bs : Int) by omega] at hcall
                have Q1 := Lib.hid hq1
                clear S1 hq1 hq2 hq3 hq4 hq7 hr
                go_wp2_with (go_at_fn 125; refine hcall.mono ?_; rintro e w1 ⟨rfl, dk1, W, S2, hd1, hl1, hl2, hl3, hl4⟩)
                have S3 : Aside _ := S2
                have HL := Lib.hid (And.intro hl1 (And.intro hl2 (And.intro hl3 hl4)))
                clear S2 hl1 hl2 hl3 hl4
                go_wp2
                go_roundw
                case rel =>
                  refine ⟨2 * bs, dk1, by congr 1 <;> omega, by omega, by omega, by omega, S3, Lib.hid ?_⟩
                  rw [HL.out.1, List.append_nil]
                  exact ⟨HE.out.2.2.1 W (Sr.Blk.last (by rw [HL.out.2.1, ← Q1.out]; have := hl.out; have := HE.out.2.1; omega) HL.out.2.2.1), HE.out.2.2.2.2.trans ((Sr.Stb.refl _).app (by rw [Q1.out]; exact HL.out.2.2.2))⟩
                case measure => simp [intOf]; omega
              · have hmz : ¬ (a : Int) + (bs : Int) < (n : Int) := by omega
                go_wp2
                go_roundw
                case rel =>
                  refine ⟨2 * bs, dk, by congr 1 <;> omega, by omega, by omega, hds, S1, Lib.hid ?_⟩
                  rw [HE.out.1]
                  exact ⟨HE.out.2.2.1 R' (Sr.Blk.last (by have := hl.out; have := HE.out.2.1; omega) (HE.out.2.2.2.1.all (by have := hl.out; have := HE.out.2.1; omega))), HE.out.2.2.2.2⟩
                case measure => simp [intOf]; omega
        · have hbz : ¬ (bs : Int) < (n : Int) := by omega
          have HF : Hid (Sr.Srt (ltOf cf) dk2.toList) := Lib.hid (HE.out.1.all (by rw [Array.length_toList]; omega))
          go_wp2
          go_end0
          exact ⟨rfl, dk2, dk2.toList, S1.out, hds, by simp, by rw [Array.length_toList, Array.length_toList]; exact hds, HF.out, HE.out.2⟩

end Go.Proofs.Ytbgdmmemahfpbaa
