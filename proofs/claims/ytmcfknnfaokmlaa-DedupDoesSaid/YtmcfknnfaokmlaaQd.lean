/- slices.Sort at uint64: the partition (written by wip/gen12so.py). -/
import Derived.Test.YtmcfknnfaokmlaaQa
import Derived.Sort.WalkC4
import Derived.Sort.WalkC
namespace Go.Proofs.Ytmcfknnfaokmlaa
set_option maxRecDepth 100000
section
open Go.Shelf Go.RowKit Go.Lib Go.Sort

variable {P : Program} {α : Type} [Inhabited α] {enc : α → Value} {lt : α → α → Bool}

set_option maxHeartbeats 16000000 in
set_option maxRecDepth 1000000 in
theorem prtU {blk off cap : Nat} {d0 d : Array α} {w0 w : World} (L : SoU P) (hless : LessU P enc lt) (R : Row1 enc w0 blk off d0) (hs : d0.size = d.size) (S : SW enc w0 blk off d w) {a b pivot : Nat} (hap : a ≤ pivot) (hpb : pivot < b) (hb : b ≤ d.size) (hsz : d.size < 4611686018427387904) :
    Calls P 40 #[.slice (some ⟨blk, off, none⟩) d.size cap, .int .i64 a, .int .i64 b, .int .i64 pivot] w fun e w' => e = .returned (.tuple #[.int .i64 (Sort.partition lt d a b pivot).1, .bool (Sort.partition lt d a b pivot).2.1]) ∧ SW enc w0 blk off (Sort.partition lt d a b pivot).2.2 w' := by
  have mixed := L.mixed; have u0 := L.u0; have a0 := L.a0; have z0 := L.z0; have v0 := L.v0; have u3 := L.u3; have a3 := L.a3; have z3 := L.z3; have v3 := L.v3; have u4 := L.u4; have a4 := L.a4; have z4 := L.z4; have v4 := L.v4; have u2 := L.u2; have a2 := L.a2; have z2 := L.z2; have v2 := L.v2; have u7 := L.u7; have a7 := L.a7; have z7 := L.z7; have v7 := L.v7; have u8 := L.u8; have a8 := L.a8; have z8 := L.z8; have v8 := L.v8; have u9 := L.u9; have a9 := L.a9; have z9 := L.z9; have v9 := L.v9; have u10 := L.u10; have a10 := L.a10; have z10 := L.z10; have v10 := L.v10; have u11 := L.u11; have a11 := L.a11; have z11 := L.z11; have v11 := L.v11; have eless := L.eless; have esift := L.esift; have eord := L.eord; have emed := L.emed; have emad := L.emad; have eins := L.eins; have eheap := L.eheap; have erev := L.erev; have epiv := L.epiv; have ebrk := L.ebrk; have epar := L.epar; have epeq := L.epeq; have eprt := L.eprt; have epdq := L.epdq; have enp2 := L.enp2; have exn := L.exn; have elen := L.elen; have a6 := L.a6; have z6 := L.z6
  have hcl0 := R.hO.cells
  simp only [Value.cells] at hcl0
  have hst := R.hO.store P
  have FG := L.fprt
  have HC : Aside _ := hless
  have S0 : Aside _ := S
  clear S hless
  go_enter FG, Try.ntmps40
  go_wp2_with fail
  obtain ⟨x1n, x1e, x1p, x1b, x1r, x1h⟩ := ixU (E := (a : Int)) (N := a) (m := d.size) (by omega) (by omega) hsz
  obtain ⟨y1n, y1e, y1p, y1b, y1r, y1h⟩ := ixU (E := (pivot : Int)) (N := pivot) (m := d.size) (by omega) (by omega) hsz
  obtain ⟨p1, q1, t1, c1a, c1b, c1c, f1a, f1b, s1⟩ := swpU S0.out R (by omega) x1h y1h (by omega) (by omega)
  have S1 : Aside _ := s1
  clear S0 s1 x1h y1h
  go_wp2_with fail
  go_big_region_o
  clear c1a c1b c1c f1a f1b
  generalize ((w.setCell ⟨blk, off + x1n, none⟩ (enc q1)).setCell ⟨blk, off + y1n, none⟩ (enc p1)).drew = w1 at S1 ⊢
  clear x1e y1e
  obtain ⟨i1, hi⟩ : ∃ i : Nat, i = a + 1 := ⟨_, rfl⟩
  obtain ⟨j1, hj⟩ : ∃ j : Nat, j = b - 1 := ⟨_, rfl⟩
  obtain ⟨dk1, hdk⟩ : ∃ dk : Array α, dk = Sort.swp d a pivot := ⟨_, rfl⟩
  rw [← hdk] at S1
  have hs1 : dk1.size = d.size := by rw [hdk]; exact size_swp _ _ _
  have hij1 : i1 ≤ j1 + 1 := by omega
  have hai1 : a < i1 := by omega
  have hjb1 : j1 < b := by omega
  have Hi : Hid (i1 = a + 1) := hi
  have Hj : Hid (j1 = b - 1) := hj
  have Hdk : Hid (dk1 = Sort.swp d a pivot) := hdk
  have ezi : ((a : Int) + 1) = (i1 : Int) := by omega
  have ezj : ((b : Int) - 1) = (j1 : Int) := by omega
  clear hi hj hdk
  go_wp2
  go_loopw [10] (fun vi w1 => ∃ (p1 : Nat), vi = .int .i64 p1 ∧ i1 ≤ p1 ∧ p1 ≤ j1 + 1 ∧ Aside (SW enc w0 blk off dk1 w1) ∧ Hid (Sort.scanUp (fun x => lt x dk1[a]!) dk1 j1 p1 = Sort.scanUp (fun x => lt x dk1[a]!) dk1 j1 i1))
    (fun vi _ => j1 + 1 - (intOf vi).toNat)
  case atStart => exact ⟨i1, rfl, Nat.le_refl _, hij1, S1, rfl⟩
  case round =>
    clear S1
    obtain ⟨p1, rfl, hii1, hjj1, SU1, hsc1⟩ := hrel
    by_cases hle1 : p1 ≤ j1
    · have hgu1 : decide ((p1 : Int) ≤ (j1 : Int)) = true := decide_eq_true (by omega)
      cases hlv1 : lt dk1[p1]! dk1[a]! with
      | true =>
        obtain ⟨x2n, x2e, x2p, x2b, x2r, x2h⟩ := ixU (E := (p1 : Int)) (N := p1) (m := d.size) (by omega) (by omega) hsz
        obtain ⟨y2n, y2e, y2p, y2b, y2r, y2h⟩ := ixU (E := (a : Int)) (N := a) (m := d.size) (by omega) (by omega) hsz
        obtain ⟨p2, q2, hp2, hq2, l2, m2⟩ := twoU SU1.out R (by omega) x2h y2h (by omega) (by omega)
        have c2 := HC.out p2 q2
        rw [show lt p2 q2 = true by rw [hp2, hq2]; exact hlv1] at c2
        clear hp2 hq2 x2h y2h
        go_wp2_with fail
        go_quiet_grown (first | (go_at_call 38; refine Calls.grown_of (c2 _)))
        have SV1 : Aside (SW enc w0 blk off dk1 (grow (wr.drewN nq) osq)) := SU1.out.grown nq osq
        clear l2 m2 c2 SU1
        generalize grow (wr.drewN nq) osq = wv1 at SV1 ⊢
        clear nq osq
        clear x2e y2e
        go_wp2
        go_roundw
        case rel => exact ⟨p1 + 1, by go_num, by omega, by omega, SV1, (scanUp_go (fun x => lt x dk1[a]!) dk1 j1 p1 hle1 hlv1).symm.trans hsc1.out⟩
        case measure => simp [intOf]; omega
      | false =>
        have hi21 : Hid (p1 = Sort.scanUp (fun x => lt x dk1[a]!) dk1 j1 i1) := (scanUp_end (fun x => lt x dk1[a]!) dk1 j1 p1 (Or.inr hlv1)).symm.trans hsc1.out
        clear hsc1
        obtain ⟨x3n, x3e, x3p, x3b, x3r, x3h⟩ := ixU (E := (p1 : Int)) (N := p1) (m := d.size) (by omega) (by omega) hsz
        obtain ⟨y3n, y3e, y3p, y3b, y3r, y3h⟩ := ixU (E := (a : Int)) (N := a) (m := d.size) (by omega) (by omega) hsz
        obtain ⟨p3, q3, hp3, hq3, l3, m3⟩ := twoU SU1.out R (by omega) x3h y3h (by omega) (by omega)
        have c3 := HC.out p3 q3
        rw [show lt p3 q3 = false by rw [hp3, hq3]; exact hlv1] at c3
        clear hp3 hq3 x3h y3h
        go_wp2_with fail
        go_quiet_grown (first | (go_at_call 38; refine Calls.grown_of (c3 _)))
        have SV1 : Aside (SW enc w0 blk off dk1 (grow (wr.drewN nq) osq)) := SU1.out.grown nq osq
        clear l3 m3 c3 SU1
        generalize grow (wr.drewN nq) osq = wv1 at SV1 ⊢
        clear nq osq
        clear x3e y3e
        go_wp2
        go_loopw [11] (fun vj w2 => ∃ (q1 : Nat), vj = .int .i64 q1 ∧ q1 ≤ j1 ∧ p1 ≤ q1 + 1 ∧ Aside (SW enc w0 blk off dk1 w2) ∧ Hid (Sort.scanDown (fun x => !lt x dk1[a]!) dk1 p1 q1 = Sort.scanDown (fun x => !lt x dk1[a]!) dk1 p1 j1))
          (fun vj _ => (intOf vj).toNat)
        case atStart => exact ⟨j1, rfl, Nat.le_refl _, hjj1, SV1, rfl⟩
        case round =>
          clear SV1
          obtain ⟨q1, rfl, hqj1, hpq1, SD1, hsd1⟩ := hrel
          by_cases hld1 : p1 ≤ q1
          · have hgd1 : decide ((p1 : Int) ≤ (q1 : Int)) = true := decide_eq_true (by omega)
            cases hlw1 : lt dk1[q1]! dk1[a]! with
            | false =>
              obtain ⟨x4n, x4e, x4p, x4b, x4r, x4h⟩ := ixU (E := (q1 : Int)) (N := q1) (m := d.size) (by omega) (by omega) hsz
              obtain ⟨y4n, y4e, y4p, y4b, y4r, y4h⟩ := ixU (E := (a : Int)) (N := a) (m := d.size) (by omega) (by omega) hsz
              obtain ⟨p4, q4, hp4, hq4, l4, m4⟩ := twoU SD1.out R (by omega) x4h y4h (by omega) (by omega)
              have c4 := HC.out p4 q4
              rw [show lt p4 q4 = false by rw [hp4, hq4]; exact hlw1] at c4
              clear hp4 hq4 x4h y4h
              go_wp2_with fail
              go_quiet_grown (first | (go_at_call 38; refine Calls.grown_of (c4 _)))
              have SE1 : Aside (SW enc w0 blk off dk1 (grow (wr.drewN nq) osq)) := SD1.out.grown nq osq
              clear l4 m4 c4 SD1
              generalize grow (wr.drewN nq) osq = we1 at SE1 ⊢
              clear nq osq
              clear x4e y4e
              go_wp2
              go_roundw
              case rel => exact ⟨q1 - 1, by go_num, by omega, by omega, SE1, (scanDown_go (fun x => !lt x dk1[a]!) dk1 p1 q1 hld1 (by omega) (by simp [hlw1])).symm.trans hsd1.out⟩
              case measure => simp [intOf]; omega
            | true =>
              have hj21 : Hid (q1 = Sort.scanDown (fun x => !lt x dk1[a]!) dk1 p1 j1) := (scanDown_end (fun x => !lt x dk1[a]!) dk1 p1 q1 (Or.inr (by simp [hlw1]))).symm.trans hsd1.out
              have hgt1 : decide ((q1 : Int) < (p1 : Int)) = false := decide_eq_false (by omega)
              have hgn1 : decide (q1 < p1) = false := decide_eq_false (by omega)
              clear hsd1
              obtain ⟨x5n, x5e, x5p, x5b, x5r, x5h⟩ := ixU (E := (q1 : Int)) (N := q1) (m := d.size) (by omega) (by omega) hsz
              obtain ⟨y5n, y5e, y5p, y5b, y5r, y5h⟩ := ixU (E := (a : Int)) (N := a) (m := d.size) (by omega) (by omega) hsz
              obtain ⟨p5, q5, hp5, hq5, l5, m5⟩ := twoU SD1.out R (by omega) x5h y5h (by omega) (by omega)
              have c5 := HC.out p5 q5
              rw [show lt p5 q5 = true by rw [hp5, hq5]; exact hlw1] at c5
              clear hp5 hq5 x5h y5h
              go_wp2_with fail
              go_quiet_grown (first | (go_at_call 38; refine Calls.grown_of (c5 _)))
              have SE1 : Aside (SW enc w0 blk off dk1 (grow (wr.drewN nq) osq)) := SD1.out.grown nq osq
              clear l5 m5 c5 SD1
              generalize grow (wr.drewN nq) osq = we1 at SE1 ⊢
              clear nq osq
              clear x5e y5e
              have hlt1 := part_scans_lt lt a i1 j1 dk1 (by omega) hi21.out hj21.out hld1
              go_wp2_with fail
              obtain ⟨x6n, x6e, x6p, x6b, x6r, x6h⟩ := ixU (E := (p1 : Int)) (N := p1) (m := d.size) (by omega) (by omega) hsz
              obtain ⟨y6n, y6e, y6p, y6b, y6r, y6h⟩ := ixU (E := (q1 : Int)) (N := q1) (m := d.size) (by omega) (by omega) hsz
              obtain ⟨p6, q6, t6, c6a, c6b, c6c, f6a, f6b, s6⟩ := swpU SE1.out R (by omega) x6h y6h (by omega) (by omega)
              have SF1 : Aside _ := s6
              clear SE1 s6 x6h y6h
              go_wp2_with fail
              go_big_region_o
              clear c6a c6b c6c f6a f6b
              generalize ((we1.setCell ⟨blk, off + x6n, none⟩ (enc q6)).setCell ⟨blk, off + y6n, none⟩ (enc p6)).drew = wf1 at SF1 ⊢
              clear x6e y6e
              go_wp2
              obtain ⟨I0, hI0⟩ : ∃ I0 : Nat, I0 = p1 + 1 := ⟨_, rfl⟩
              obtain ⟨J0, hJ0⟩ : ∃ J0 : Nat, J0 = q1 - 1 := ⟨_, rfl⟩
              obtain ⟨D0, hD0⟩ : ∃ D0 : Array α, D0 = Sort.swp dk1 p1 q1 := ⟨_, rfl⟩
              have PF : Hid (Sort.partition lt d a b pivot = ((Sort.partLoop lt a I0 J0 D0).1, false, Sort.swp (Sort.partLoop lt a I0 J0 D0).2 (Sort.partLoop lt a I0 J0 D0).1 a)) := by
                rw [hI0, hJ0, hD0]; exact part_first_go lt d a b pivot Hi.out Hj.out Hdk.out hi21.out hj21.out (by omega)
              go_loopw [10, 11] (fun vi vj wr => ∃ (i2 j2 : Nat) (dk2 : Array α), vi = .int .i64 i2 ∧ vj = .int .i64 j2 ∧ a < i2 ∧ i2 ≤ j2 + 1 ∧ j2 < b ∧ dk2.size = d.size ∧ Aside (SW enc w0 blk off dk2 wr) ∧
                  Sort.partLoop lt a i2 j2 dk2 = Sort.partLoop lt a I0 J0 D0)
                (fun vi vj _ => (intOf vj).toNat + 1 - (intOf vi).toNat)
              case atStart => exact ⟨p1 + 1, q1 - 1, Sort.swp dk1 p1 q1, by go_num, by go_num, by omega, by omega, by omega, by rw [size_swp]; exact hs1, SF1, by rw [hI0, hJ0, hD0]⟩
              case round =>
                clear SF1 hI0 hJ0 hD0 hj21 hi21 hlt1 Hi Hj Hdk
                obtain ⟨i2, j2, dk2, rfl, rfl, hai2, hij2, hjb2, hs2, T1, heq⟩ := hrel
                have AE : Hid (Sort.partLoop lt a i2 j2 dk2 = Sort.partLoop lt a I0 J0 D0) := heq
                clear heq
                go_wp2
                go_loopw [10] (fun vi w1 => ∃ (p2 : Nat), vi = .int .i64 p2 ∧ i2 ≤ p2 ∧ p2 ≤ j2 + 1 ∧ Aside (SW enc w0 blk off dk2 w1) ∧ Hid (Sort.scanUp (fun x => lt x dk2[a]!) dk2 j2 p2 = Sort.scanUp (fun x => lt x dk2[a]!) dk2 j2 i2))
                  (fun vi _ => j2 + 1 - (intOf vi).toNat)
                case atStart => exact ⟨i2, rfl, Nat.le_refl _, hij2, T1, rfl⟩
                case round =>
                  clear T1
                  obtain ⟨p2, rfl, hii2, hjj2, SU2, hsc2⟩ := hrel
                  by_cases hle2 : p2 ≤ j2
                  · have hgu2 : decide ((p2 : Int) ≤ (j2 : Int)) = true := decide_eq_true (by omega)
                    cases hlv2 : lt dk2[p2]! dk2[a]! with
                    | true =>
                      obtain ⟨x7n, x7e, x7p, x7b, x7r, x7h⟩ := ixU (E := (p2 : Int)) (N := p2) (m := d.size) (by omega) (by omega) hsz
                      obtain ⟨y7n, y7e, y7p, y7b, y7r, y7h⟩ := ixU (E := (a : Int)) (N := a) (m := d.size) (by omega) (by omega) hsz
                      obtain ⟨p7, q7, hp7, hq7, l7, m7⟩ := twoU SU2.out R (by omega) x7h y7h (by omega) (by omega)
                      have c7 := HC.out p7 q7
                      rw [show lt p7 q7 = true by rw [hp7, hq7]; exact hlv2] at c7
                      clear hp7 hq7 x7h y7h
                      go_wp2_with fail
                      go_quiet_grown (first | (go_at_call 38; refine Calls.grown_of (c7 _)))
                      have SV2 : Aside (SW enc w0 blk off dk2 (grow (wr.drewN nq) osq)) := SU2.out.grown nq osq
                      clear l7 m7 c7 SU2
                      generalize grow (wr.drewN nq) osq = wv2 at SV2 ⊢
                      clear nq osq
                      clear x7e y7e
                      go_wp2
                      go_roundw
                      case rel => exact ⟨p2 + 1, by go_num, by omega, by omega, SV2, (scanUp_go (fun x => lt x dk2[a]!) dk2 j2 p2 hle2 hlv2).symm.trans hsc2.out⟩
                      case measure => simp [intOf]; omega
                    | false =>
                      have hi22 : Hid (p2 = Sort.scanUp (fun x => lt x dk2[a]!) dk2 j2 i2) := (scanUp_end (fun x => lt x dk2[a]!) dk2 j2 p2 (Or.inr hlv2)).symm.trans hsc2.out
                      clear hsc2
                      obtain ⟨x8n, x8e, x8p, x8b, x8r, x8h⟩ := ixU (E := (p2 : Int)) (N := p2) (m := d.size) (by omega) (by omega) hsz
                      obtain ⟨y8n, y8e, y8p, y8b, y8r, y8h⟩ := ixU (E := (a : Int)) (N := a) (m := d.size) (by omega) (by omega) hsz
                      obtain ⟨p8, q8, hp8, hq8, l8, m8⟩ := twoU SU2.out R (by omega) x8h y8h (by omega) (by omega)
                      have c8 := HC.out p8 q8
                      rw [show lt p8 q8 = false by rw [hp8, hq8]; exact hlv2] at c8
                      clear hp8 hq8 x8h y8h
                      go_wp2_with fail
                      go_quiet_grown (first | (go_at_call 38; refine Calls.grown_of (c8 _)))
                      have SV2 : Aside (SW enc w0 blk off dk2 (grow (wr.drewN nq) osq)) := SU2.out.grown nq osq
                      clear l8 m8 c8 SU2
                      generalize grow (wr.drewN nq) osq = wv2 at SV2 ⊢
                      clear nq osq
                      clear x8e y8e
                      go_wp2
                      go_loopw [11] (fun vj w2 => ∃ (q2 : Nat), vj = .int .i64 q2 ∧ q2 ≤ j2 ∧ p2 ≤ q2 + 1 ∧ Aside (SW enc w0 blk off dk2 w2) ∧ Hid (Sort.scanDown (fun x => !lt x dk2[a]!) dk2 p2 q2 = Sort.scanDown (fun x => !lt x dk2[a]!) dk2 p2 j2))
                        (fun vj _ => (intOf vj).toNat)
                      case atStart => exact ⟨j2, rfl, Nat.le_refl _, hjj2, SV2, rfl⟩
                      case round =>
                        clear SV2
                        obtain ⟨q2, rfl, hqj2, hpq2, SD2, hsd2⟩ := hrel
                        by_cases hld2 : p2 ≤ q2
                        · have hgd2 : decide ((p2 : Int) ≤ (q2 : Int)) = true := decide_eq_true (by omega)
                          cases hlw2 : lt dk2[q2]! dk2[a]! with
                          | false =>
                            obtain ⟨x9n, x9e, x9p, x9b, x9r, x9h⟩ := ixU (E := (q2 : Int)) (N := q2) (m := d.size) (by omega) (by omega) hsz
                            obtain ⟨y9n, y9e, y9p, y9b, y9r, y9h⟩ := ixU (E := (a : Int)) (N := a) (m := d.size) (by omega) (by omega) hsz
                            obtain ⟨p9, q9, hp9, hq9, l9, m9⟩ := twoU SD2.out R (by omega) x9h y9h (by omega) (by omega)
                            have c9 := HC.out p9 q9
                            rw [show lt p9 q9 = false by rw [hp9, hq9]; exact hlw2] at c9
                            clear hp9 hq9 x9h y9h
                            go_wp2_with fail
                            go_quiet_grown (first | (go_at_call 38; refine Calls.grown_of (c9 _)))
                            have SE2 : Aside (SW enc w0 blk off dk2 (grow (wr.drewN nq) osq)) := SD2.out.grown nq osq
                            clear l9 m9 c9 SD2
                            generalize grow (wr.drewN nq) osq = we2 at SE2 ⊢
                            clear nq osq
                            clear x9e y9e
                            go_wp2
                            go_roundw
                            case rel => exact ⟨q2 - 1, by go_num, by omega, by omega, SE2, (scanDown_go (fun x => !lt x dk2[a]!) dk2 p2 q2 hld2 (by omega) (by simp [hlw2])).symm.trans hsd2.out⟩
                            case measure => simp [intOf]; omega
                          | true =>
                            have hj22 : Hid (q2 = Sort.scanDown (fun x => !lt x dk2[a]!) dk2 p2 j2) := (scanDown_end (fun x => !lt x dk2[a]!) dk2 p2 q2 (Or.inr (by simp [hlw2]))).symm.trans hsd2.out
                            have hgt2 : decide ((q2 : Int) < (p2 : Int)) = false := decide_eq_false (by omega)
                            have hgn2 : decide (q2 < p2) = false := decide_eq_false (by omega)
                            clear hsd2
                            obtain ⟨x10n, x10e, x10p, x10b, x10r, x10h⟩ := ixU (E := (q2 : Int)) (N := q2) (m := d.size) (by omega) (by omega) hsz
                            obtain ⟨y10n, y10e, y10p, y10b, y10r, y10h⟩ := ixU (E := (a : Int)) (N := a) (m := d.size) (by omega) (by omega) hsz
                            obtain ⟨p10, q10, hp10, hq10, l10, m10⟩ := twoU SD2.out R (by omega) x10h y10h (by omega) (by omega)
                            have c10 := HC.out p10 q10
                            rw [show lt p10 q10 = true by rw [hp10, hq10]; exact hlw2] at c10
                            clear hp10 hq10 x10h y10h
                            go_wp2_with fail
                            go_quiet_grown (first | (go_at_call 38; refine Calls.grown_of (c10 _)))
                            have SE2 : Aside (SW enc w0 blk off dk2 (grow (wr.drewN nq) osq)) := SD2.out.grown nq osq
                            clear l10 m10 c10 SD2
                            generalize grow (wr.drewN nq) osq = we2 at SE2 ⊢
                            clear nq osq
                            clear x10e y10e
                            have hlt2 := part_scans_lt lt a i2 j2 dk2 (by omega) hi22.out hj22.out hld2
                            go_wp2_with fail
                            obtain ⟨x11n, x11e, x11p, x11b, x11r, x11h⟩ := ixU (E := (p2 : Int)) (N := p2) (m := d.size) (by omega) (by omega) hsz
                            obtain ⟨y11n, y11e, y11p, y11b, y11r, y11h⟩ := ixU (E := (q2 : Int)) (N := q2) (m := d.size) (by omega) (by omega) hsz
                            obtain ⟨p11, q11, t11, c11a, c11b, c11c, f11a, f11b, s11⟩ := swpU SE2.out R (by omega) x11h y11h (by omega) (by omega)
                            have SF2 : Aside _ := s11
                            clear SE2 s11 x11h y11h
                            go_wp2_with fail
                            go_big_region_o
                            clear c11a c11b c11c f11a f11b
                            generalize ((we2.setCell ⟨blk, off + x11n, none⟩ (enc q11)).setCell ⟨blk, off + y11n, none⟩ (enc p11)).drew = wf2 at SF2 ⊢
                            clear x11e y11e
                            go_wp2
                            go_roundw
                            case rel =>
                              refine ⟨p2 + 1, q2 - 1, Sort.swp dk2 p2 q2, by go_num, by go_num, by omega, by omega, by omega, by rw [size_swp]; exact hs2, SF2, ?_⟩
                              rw [← AE.out]; exact (part_go lt a i2 j2 dk2 hi22.out hj22.out (by omega)).symm
                            case measure => simp [intOf]; omega
                        · have hj22 : Hid (q2 = Sort.scanDown (fun x => !lt x dk2[a]!) dk2 p2 j2) := (scanDown_end (fun x => !lt x dk2[a]!) dk2 p2 q2 (Or.inl hld2)).symm.trans hsd2.out
                          have hgd2 : decide ((p2 : Int) ≤ (q2 : Int)) = false := decide_eq_false (by omega)
                          have hgt2 : decide ((q2 : Int) < (p2 : Int)) = true := decide_eq_true (by omega)
                          have hgn2 : decide (q2 < p2) = true := decide_eq_true (by omega)
                          clear hsd2
                          go_wp2_with fail
                          go_big_region_o
                          have SE2 : Aside (SW enc w0 blk off dk2 wr.drew) := SD2.out.drew
                          clear SD2
                          generalize wr.drew = we2 at SE2 ⊢
                          go_wp2_with fail
                          obtain ⟨x12n, x12e, x12p, x12b, x12r, x12h⟩ := ixU (E := (q2 : Int)) (N := q2) (m := d.size) (by omega) (by omega) hsz
                          obtain ⟨y12n, y12e, y12p, y12b, y12r, y12h⟩ := ixU (E := (a : Int)) (N := a) (m := d.size) (by omega) (by omega) hsz
                          obtain ⟨p12, q12, t12, c12a, c12b, c12c, f12a, f12b, s12⟩ := swpU SE2.out R (by omega) x12h y12h (by omega) (by omega)
                          have SF2 : Aside _ := s12
                          clear SE2 s12 x12h y12h
                          go_wp2_with fail
                          go_big_region_o
                          clear c12a c12b c12c f12a f12b
                          generalize ((we2.setCell ⟨blk, off + x12n, none⟩ (enc q12)).setCell ⟨blk, off + y12n, none⟩ (enc p12)).drew = wf2 at SF2 ⊢
                          clear x12e y12e
                          go_wp2
                          go_ret2
                          have e := part_break lt a i2 j2 dk2 hi22.out hj22.out (by omega)
                          rw [PF.out, ← AE.out, e]
                          exact ⟨rfl, SF2.out⟩
                  · have hi22 : Hid (p2 = Sort.scanUp (fun x => lt x dk2[a]!) dk2 j2 i2) := (scanUp_end (fun x => lt x dk2[a]!) dk2 j2 p2 (Or.inl hle2)).symm.trans hsc2.out
                    have hgu2 : decide ((p2 : Int) ≤ (j2 : Int)) = false := decide_eq_false (by omega)
                    clear hsc2
                    go_wp2_with fail
                    go_big_region_o
                    have SV2 : Aside (SW enc w0 blk off dk2 wr.drew) := SU2.out.drew
                    clear SU2
                    generalize wr.drew = wv2 at SV2 ⊢
                    go_wp2
                    go_loopw [11] (fun vj w2 => ∃ (q2 : Nat), vj = .int .i64 q2 ∧ q2 ≤ j2 ∧ p2 ≤ q2 + 1 ∧ Aside (SW enc w0 blk off dk2 w2) ∧ Hid (Sort.scanDown (fun x => !lt x dk2[a]!) dk2 p2 q2 = Sort.scanDown (fun x => !lt x dk2[a]!) dk2 p2 j2))
                      (fun vj _ => (intOf vj).toNat)
                    case atStart => exact ⟨j2, rfl, Nat.le_refl _, hjj2, SV2, rfl⟩
                    case round =>
                      clear SV2
                      obtain ⟨q2, rfl, hqj2, hpq2, SD2, hsd2⟩ := hrel
                      by_cases hld2 : p2 ≤ q2
                      · exfalso; omega
                      · have hj22 : Hid (q2 = Sort.scanDown (fun x => !lt x dk2[a]!) dk2 p2 j2) := (scanDown_end (fun x => !lt x dk2[a]!) dk2 p2 q2 (Or.inl hld2)).symm.trans hsd2.out
                        have hgd2 : decide ((p2 : Int) ≤ (q2 : Int)) = false := decide_eq_false (by omega)
                        have hgt2 : decide ((q2 : Int) < (p2 : Int)) = true := decide_eq_true (by omega)
                        have hgn2 : decide (q2 < p2) = true := decide_eq_true (by omega)
                        clear hsd2
                        go_wp2_with fail
                        go_big_region_o
                        have SE2 : Aside (SW enc w0 blk off dk2 wr.drew) := SD2.out.drew
                        clear SD2
                        generalize wr.drew = we2 at SE2 ⊢
                        go_wp2_with fail
                        obtain ⟨x13n, x13e, x13p, x13b, x13r, x13h⟩ := ixU (E := (q2 : Int)) (N := q2) (m := d.size) (by omega) (by omega) hsz
                        obtain ⟨y13n, y13e, y13p, y13b, y13r, y13h⟩ := ixU (E := (a : Int)) (N := a) (m := d.size) (by omega) (by omega) hsz
                        obtain ⟨p13, q13, t13, c13a, c13b, c13c, f13a, f13b, s13⟩ := swpU SE2.out R (by omega) x13h y13h (by omega) (by omega)
                        have SF2 : Aside _ := s13
                        clear SE2 s13 x13h y13h
                        go_wp2_with fail
                        go_big_region_o
                        clear c13a c13b c13c f13a f13b
                        generalize ((we2.setCell ⟨blk, off + x13n, none⟩ (enc q13)).setCell ⟨blk, off + y13n, none⟩ (enc p13)).drew = wf2 at SF2 ⊢
                        clear x13e y13e
                        go_wp2
                        go_ret2
                        have e := part_break lt a i2 j2 dk2 hi22.out hj22.out (by omega)
                        rw [PF.out, ← AE.out, e]
                        exact ⟨rfl, SF2.out⟩
          · have hj21 : Hid (q1 = Sort.scanDown (fun x => !lt x dk1[a]!) dk1 p1 j1) := (scanDown_end (fun x => !lt x dk1[a]!) dk1 p1 q1 (Or.inl hld1)).symm.trans hsd1.out
            have hgd1 : decide ((p1 : Int) ≤ (q1 : Int)) = false := decide_eq_false (by omega)
            have hgt1 : decide ((q1 : Int) < (p1 : Int)) = true := decide_eq_true (by omega)
            have hgn1 : decide (q1 < p1) = true := decide_eq_true (by omega)
            clear hsd1
            go_wp2_with fail
            go_big_region_o
            have SE1 : Aside (SW enc w0 blk off dk1 wr.drew) := SD1.out.drew
            clear SD1
            generalize wr.drew = we1 at SE1 ⊢
            go_wp2_with fail
            obtain ⟨x14n, x14e, x14p, x14b, x14r, x14h⟩ := ixU (E := (q1 : Int)) (N := q1) (m := d.size) (by omega) (by omega) hsz
            obtain ⟨y14n, y14e, y14p, y14b, y14r, y14h⟩ := ixU (E := (a : Int)) (N := a) (m := d.size) (by omega) (by omega) hsz
            obtain ⟨p14, q14, t14, c14a, c14b, c14c, f14a, f14b, s14⟩ := swpU SE1.out R (by omega) x14h y14h (by omega) (by omega)
            have SF1 : Aside _ := s14
            clear SE1 s14 x14h y14h
            go_wp2_with fail
            go_big_region_o
            clear c14a c14b c14c f14a f14b
            generalize ((we1.setCell ⟨blk, off + x14n, none⟩ (enc q14)).setCell ⟨blk, off + y14n, none⟩ (enc p14)).drew = wf1 at SF1 ⊢
            clear x14e y14e
            go_wp2
            go_ret2
            have e := part_first_break lt d a b pivot Hi.out Hj.out Hdk.out hi21.out hj21.out (by omega)
            rw [e]
            exact ⟨rfl, SF1.out⟩
    · have hi21 : Hid (p1 = Sort.scanUp (fun x => lt x dk1[a]!) dk1 j1 i1) := (scanUp_end (fun x => lt x dk1[a]!) dk1 j1 p1 (Or.inl hle1)).symm.trans hsc1.out
      have hgu1 : decide ((p1 : Int) ≤ (j1 : Int)) = false := decide_eq_false (by omega)
      clear hsc1
      go_wp2_with fail
      go_big_region_o
      have SV1 : Aside (SW enc w0 blk off dk1 wr.drew) := SU1.out.drew
      clear SU1
      generalize wr.drew = wv1 at SV1 ⊢
      go_wp2
      go_loopw [11] (fun vj w2 => ∃ (q1 : Nat), vj = .int .i64 q1 ∧ q1 ≤ j1 ∧ p1 ≤ q1 + 1 ∧ Aside (SW enc w0 blk off dk1 w2) ∧ Hid (Sort.scanDown (fun x => !lt x dk1[a]!) dk1 p1 q1 = Sort.scanDown (fun x => !lt x dk1[a]!) dk1 p1 j1))
        (fun vj _ => (intOf vj).toNat)
      case atStart => exact ⟨j1, rfl, Nat.le_refl _, hjj1, SV1, rfl⟩
      case round =>
        clear SV1
        obtain ⟨q1, rfl, hqj1, hpq1, SD1, hsd1⟩ := hrel
        by_cases hld1 : p1 ≤ q1
        · exfalso; omega
        · have hj21 : Hid (q1 = Sort.scanDown (fun x => !lt x dk1[a]!) dk1 p1 j1) := (scanDown_end (fun x => !lt x dk1[a]!) dk1 p1 q1 (Or.inl hld1)).symm.trans hsd1.out
          have hgd1 : decide ((p1 : Int) ≤ (q1 : Int)) = false := decide_eq_false (by omega)
          have hgt1 : decide ((q1 : Int) < (p1 : Int)) = true := decide_eq_true (by omega)
          have hgn1 : decide (q1 < p1) = true := decide_eq_true (by omega)
          clear hsd1
          go_wp2_with fail
          go_big_region_o
          have SE1 : Aside (SW enc w0 blk off dk1 wr.drew) := SD1.out.drew
          clear SD1
          generalize wr.drew = we1 at SE1 ⊢
          go_wp2_with fail
          obtain ⟨x15n, x15e, x15p, x15b, x15r, x15h⟩ := ixU (E := (q1 : Int)) (N := q1) (m := d.size) (by omega) (by omega) hsz
          obtain ⟨y15n, y15e, y15p, y15b, y15r, y15h⟩ := ixU (E := (a : Int)) (N := a) (m := d.size) (by omega) (by omega) hsz
          obtain ⟨p15, q15, t15, c15a, c15b, c15c, f15a, f15b, s15⟩ := swpU SE1.out R (by omega) x15h y15h (by omega) (by omega)
          have SF1 : Aside _ := s15
          clear SE1 s15 x15h y15h
          go_wp2_with fail
          go_big_region_o
          clear c15a c15b c15c f15a f15b
          generalize ((we1.setCell ⟨blk, off + x15n, none⟩ (enc q15)).setCell ⟨blk, off + y15n, none⟩ (enc p15)).drew = wf1 at SF1 ⊢
          clear x15e y15e
          go_wp2
          go_ret2
          have e := part_first_break lt d a b pivot Hi.out Hj.out Hdk.out hi21.out hj21.out (by omega)
          rw [e]
          exact ⟨rfl, SF1.out⟩
end
end Go.Proofs.Ytmcfknnfaokmlaa
