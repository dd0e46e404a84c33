/- slices.Sort at uint64: the partition of equals (written by wip/gen12so.py). -/
import Derived.Test.YtmcfknnfaokmlaaQa
import Derived.Sort.WalkC4
import Derived.Sort.WalkC
namespace Go.Proofs.Ytmcfknnfaokmlaa
set_option maxRecDepth 100000
section
open Go.Shelf Go.RowKit Go.Lib Go.Sort

variable {P : Program} {α : Type} [Inhabited α] {enc : α → Value} {lt : α → α → Bool}

set_option maxHeartbeats 16000000 in
set_option maxRecDepth 1000000 in
theorem peqU {blk off cap : Nat} {d0 d : Array α} {w0 w : World} (L : SoU P) (hless : LessU P enc lt) (R : Row1 enc w0 blk off d0) (hs : d0.size = d.size) (S : SW enc w0 blk off d w) {a b pivot : Nat} (hap : a ≤ pivot) (hpb : pivot < b) (hb : b ≤ d.size) (hsz : d.size < 4611686018427387904) :
    Calls P 39 #[.slice (some ⟨blk, off, none⟩) d.size cap, .int .i64 a, .int .i64 b, .int .i64 pivot] w fun e w' => e = .returned (.int .i64 (Sort.partitionEqual lt d a b pivot).1) ∧ SW enc w0 blk off (Sort.partitionEqual lt d a b pivot).2 w' := by
  have mixed := L.mixed; have u0 := L.u0; have a0 := L.a0; have z0 := L.z0; have v0 := L.v0; have u3 := L.u3; have a3 := L.a3; have z3 := L.z3; have v3 := L.v3; have u4 := L.u4; have a4 := L.a4; have z4 := L.z4; have v4 := L.v4; have u2 := L.u2; have a2 := L.a2; have z2 := L.z2; have v2 := L.v2; have u7 := L.u7; have a7 := L.a7; have z7 := L.z7; have v7 := L.v7; have u8 := L.u8; have a8 := L.a8; have z8 := L.z8; have v8 := L.v8; have u9 := L.u9; have a9 := L.a9; have z9 := L.z9; have v9 := L.v9; have u10 := L.u10; have a10 := L.a10; have z10 := L.z10; have v10 := L.v10; have u11 := L.u11; have a11 := L.a11; have z11 := L.z11; have v11 := L.v11; have eless := L.eless; have esift := L.esift; have eord := L.eord; have emed := L.emed; have emad := L.emad; have eins := L.eins; have eheap := L.eheap; have erev := L.erev; have epiv := L.epiv; have ebrk := L.ebrk; have epar := L.epar; have epeq := L.epeq; have eprt := L.eprt; have epdq := L.epdq; have enp2 := L.enp2; have exn := L.exn; have elen := L.elen; have a6 := L.a6; have z6 := L.z6
  have hcl0 := R.hO.cells
  simp only [Value.cells] at hcl0
  have hst := R.hO.store P
  have FG := L.fpeq
  have HC : Aside _ := hless
  have S0 : Aside _ := S
  clear S hless
  go_enter FG, Try.ntmps39
  go_wp2_with fail
  obtain ⟨x1n, x1e, x1p, x1b, x1r, x1h⟩ := ixU (E := (a : Int)) (N := a) (m := d.size) (by omega) (by omega) hsz
  obtain ⟨y1n, y1e, y1p, y1b, y1r, y1h⟩ := ixU (E := (pivot : Int)) (N := pivot) (m := d.size) (by omega) (by omega) hsz
  obtain ⟨p1, q1, t1, c1a, c1b, c1c, f1a, f1b, s1⟩ := swpU S0.out R (by omega) x1h y1h (by omega) (by omega)
  have S1 : Aside _ := s1
  clear S0 s1 x1h y1h
  go_wp2_with fail
  go_big_region_o
  clear c1a c1b c1c f1a f1b
  generalize ((w.setCell ⟨blk, off + x1n, none⟩ (enc q1)).setCell ⟨blk, off + y1n, none⟩ (enc p1)).drew = w1 at S1 ⊢
  clear x1e y1e
  go_wp2
  go_loopw [9, 10] (fun vi vj wr => ∃ (i1 j1 : Nat) (dk : Array α), vi = .int .i64 i1 ∧ vj = .int .i64 j1 ∧ a < i1 ∧ i1 ≤ j1 + 1 ∧ j1 < b ∧ dk.size = d.size ∧ Aside (SW enc w0 blk off dk wr) ∧
      Sort.partEqLoop lt a i1 j1 dk = Sort.partEqLoop lt a (a + 1) (b - 1) (Sort.swp d a pivot))
    (fun vi vj _ => (intOf vj).toNat + 1 - (intOf vi).toNat)
  case atStart => exact ⟨a + 1, b - 1, Sort.swp d a pivot, by go_num, by go_num, by omega, by omega, by omega, size_swp _ _ _, S1, rfl⟩
  case round =>
    clear S1
    obtain ⟨i1, j1, dk, rfl, rfl, hai1, hij1, hjb1, hs1, T1, heq⟩ := hrel
    have AE : Hid (Sort.partEqLoop lt a i1 j1 dk = Sort.partEqLoop lt a (a + 1) (b - 1) (Sort.swp d a pivot)) := heq
    clear heq
    go_wp2
    go_loopw [9] (fun vi w1 => ∃ (p1 : Nat), vi = .int .i64 p1 ∧ i1 ≤ p1 ∧ p1 ≤ j1 + 1 ∧ Aside (SW enc w0 blk off dk w1) ∧ Hid (Sort.scanUp (fun x => !lt dk[a]! x) dk j1 p1 = Sort.scanUp (fun x => !lt dk[a]! x) dk j1 i1))
      (fun vi _ => j1 + 1 - (intOf vi).toNat)
    case atStart => exact ⟨i1, rfl, Nat.le_refl _, hij1, T1, rfl⟩
    case round =>
      clear T1
      obtain ⟨p1, rfl, hii1, hjj1, SU1, hsc1⟩ := hrel
      by_cases hle1 : p1 ≤ j1
      · have hgu1 : decide ((p1 : Int) ≤ (j1 : Int)) = true := decide_eq_true (by omega)
        cases hlv1 : lt dk[a]! dk[p1]! with
        | false =>
          obtain ⟨x2n, x2e, x2p, x2b, x2r, x2h⟩ := ixU (E := (a : Int)) (N := a) (m := d.size) (by omega) (by omega) hsz
          obtain ⟨y2n, y2e, y2p, y2b, y2r, y2h⟩ := ixU (E := (p1 : Int)) (N := p1) (m := d.size) (by omega) (by omega) hsz
          obtain ⟨p2, q2, hp2, hq2, l2, m2⟩ := twoU SU1.out R (by omega) x2h y2h (by omega) (by omega)
          have c2 := HC.out p2 q2
          rw [show lt p2 q2 = false by rw [hp2, hq2]; exact hlv1] at c2
          clear hp2 hq2 x2h y2h
          go_wp2_with fail
          go_quiet_grown (first | (go_at_call 38; refine Calls.grown_of (c2 _)))
          have SV1 : Aside (SW enc w0 blk off dk (grow (wr.drewN nq) osq)) := SU1.out.grown nq osq
          clear l2 m2 c2 SU1
          generalize grow (wr.drewN nq) osq = wv1 at SV1 ⊢
          clear nq osq
          clear x2e y2e
          go_wp2
          go_roundw
          case rel => exact ⟨p1 + 1, by go_num, by omega, by omega, SV1, (scanUp_go (fun x => !lt dk[a]! x) dk j1 p1 hle1 (by simp [hlv1])).symm.trans hsc1.out⟩
          case measure => simp [intOf]; omega
        | true =>
          have hi21 : Hid (p1 = Sort.scanUp (fun x => !lt dk[a]! x) dk j1 i1) := (scanUp_end (fun x => !lt dk[a]! x) dk j1 p1 (Or.inr (by simp [hlv1]))).symm.trans hsc1.out
          clear hsc1
          obtain ⟨x3n, x3e, x3p, x3b, x3r, x3h⟩ := ixU (E := (a : Int)) (N := a) (m := d.size) (by omega) (by omega) hsz
          obtain ⟨y3n, y3e, y3p, y3b, y3r, y3h⟩ := ixU (E := (p1 : Int)) (N := p1) (m := d.size) (by omega) (by omega) hsz
          obtain ⟨p3, q3, hp3, hq3, l3, m3⟩ := twoU SU1.out R (by omega) x3h y3h (by omega) (by omega)
          have c3 := HC.out p3 q3
          rw [show lt p3 q3 = true by rw [hp3, hq3]; exact hlv1] at c3
          clear hp3 hq3 x3h y3h
          go_wp2_with fail
          go_quiet_grown (first | (go_at_call 38; refine Calls.grown_of (c3 _)))
          have SV1 : Aside (SW enc w0 blk off dk (grow (wr.drewN nq) osq)) := SU1.out.grown nq osq
          clear l3 m3 c3 SU1
          generalize grow (wr.drewN nq) osq = wv1 at SV1 ⊢
          clear nq osq
          clear x3e y3e
          go_wp2
          go_loopw [10] (fun vj w2 => ∃ (q1 : Nat), vj = .int .i64 q1 ∧ q1 ≤ j1 ∧ p1 ≤ q1 + 1 ∧ Aside (SW enc w0 blk off dk w2) ∧ Hid (Sort.scanDown (fun x => lt dk[a]! x) dk p1 q1 = Sort.scanDown (fun x => lt dk[a]! x) dk p1 j1))
            (fun vj _ => (intOf vj).toNat)
          case atStart => exact ⟨j1, rfl, Nat.le_refl _, hjj1, SV1, rfl⟩
          case round =>
            clear SV1
            obtain ⟨q1, rfl, hqj1, hpq1, SD1, hsd1⟩ := hrel
            by_cases hld1 : p1 ≤ q1
            · have hgd1 : decide ((p1 : Int) ≤ (q1 : Int)) = true := decide_eq_true (by omega)
              cases hlw1 : lt dk[a]! dk[q1]! with
              | true =>
                obtain ⟨x4n, x4e, x4p, x4b, x4r, x4h⟩ := ixU (E := (a : Int)) (N := a) (m := d.size) (by omega) (by omega) hsz
                obtain ⟨y4n, y4e, y4p, y4b, y4r, y4h⟩ := ixU (E := (q1 : Int)) (N := q1) (m := d.size) (by omega) (by omega) hsz
                obtain ⟨p4, q4, hp4, hq4, l4, m4⟩ := twoU SD1.out R (by omega) x4h y4h (by omega) (by omega)
                have c4 := HC.out p4 q4
                rw [show lt p4 q4 = true by rw [hp4, hq4]; exact hlw1] at c4
                clear hp4 hq4 x4h y4h
                go_wp2_with fail
                go_quiet_grown (first | (go_at_call 38; refine Calls.grown_of (c4 _)))
                have SE1 : Aside (SW enc w0 blk off dk (grow (wr.drewN nq) osq)) := SD1.out.grown nq osq
                clear l4 m4 c4 SD1
                generalize grow (wr.drewN nq) osq = we1 at SE1 ⊢
                clear nq osq
                clear x4e y4e
                go_wp2
                go_roundw
                case rel => exact ⟨q1 - 1, by go_num, by omega, by omega, SE1, (scanDown_go (fun x => lt dk[a]! x) dk p1 q1 hld1 (by omega) hlw1).symm.trans hsd1.out⟩
                case measure => simp [intOf]; omega
              | false =>
                have hj21 : Hid (q1 = Sort.scanDown (fun x => lt dk[a]! x) dk p1 j1) := (scanDown_end (fun x => lt dk[a]! x) dk p1 q1 (Or.inr hlw1)).symm.trans hsd1.out
                have hgt1 : decide ((q1 : Int) < (p1 : Int)) = false := decide_eq_false (by omega)
                have hgn1 : decide (q1 < p1) = false := decide_eq_false (by omega)
                clear hsd1
                obtain ⟨x5n, x5e, x5p, x5b, x5r, x5h⟩ := ixU (E := (a : Int)) (N := a) (m := d.size) (by omega) (by omega) hsz
                obtain ⟨y5n, y5e, y5p, y5b, y5r, y5h⟩ := ixU (E := (q1 : Int)) (N := q1) (m := d.size) (by omega) (by omega) hsz
                obtain ⟨p5, q5, hp5, hq5, l5, m5⟩ := twoU SD1.out R (by omega) x5h y5h (by omega) (by omega)
                have c5 := HC.out p5 q5
                rw [show lt p5 q5 = false by rw [hp5, hq5]; exact hlw1] at c5
                clear hp5 hq5 x5h y5h
                go_wp2_with fail
                go_quiet_grown (first | (go_at_call 38; refine Calls.grown_of (c5 _)))
                have SE1 : Aside (SW enc w0 blk off dk (grow (wr.drewN nq) osq)) := SD1.out.grown nq osq
                clear l5 m5 c5 SD1
                generalize grow (wr.drewN nq) osq = we1 at SE1 ⊢
                clear nq osq
                clear x5e y5e
                have hlt1 := scans_lt lt a i1 j1 dk (by omega) hi21.out hj21.out hld1
                go_wp2_with fail
                obtain ⟨x6n, x6e, x6p, x6b, x6r, x6h⟩ := ixU (E := (p1 : Int)) (N := p1) (m := d.size) (by omega) (by omega) hsz
                obtain ⟨y6n, y6e, y6p, y6b, y6r, y6h⟩ := ixU (E := (q1 : Int)) (N := q1) (m := d.size) (by omega) (by omega) hsz
                obtain ⟨p6, q6, t6, c6a, c6b, c6c, f6a, f6b, s6⟩ := swpU SE1.out R (by omega) x6h y6h (by omega) (by omega)
                have SF1 : Aside _ := s6
                clear SE1 s6 x6h y6h
                go_wp2_with fail
                go_big_region_o
                clear c6a c6b c6c f6a f6b
                generalize ((we1.setCell ⟨blk, off + x6n, none⟩ (enc q6)).setCell ⟨blk, off + y6n, none⟩ (enc p6)).drew = wf1 at SF1 ⊢
                clear x6e y6e
                go_wp2
                go_roundw
                case rel =>
                  refine ⟨p1 + 1, q1 - 1, Sort.swp dk p1 q1, by go_num, by go_num, by omega, by omega, by omega, by rw [size_swp]; exact hs1, SF1, ?_⟩
                  rw [← AE.out]; exact (partEq_go lt a i1 j1 dk hi21.out hj21.out (by omega)).symm
                case measure => simp [intOf]; omega
            · have hj21 : Hid (q1 = Sort.scanDown (fun x => lt dk[a]! x) dk p1 j1) := (scanDown_end (fun x => lt dk[a]! x) dk p1 q1 (Or.inl hld1)).symm.trans hsd1.out
              have hgd1 : decide ((p1 : Int) ≤ (q1 : Int)) = false := decide_eq_false (by omega)
              have hgt1 : decide ((q1 : Int) < (p1 : Int)) = true := decide_eq_true (by omega)
              have hgn1 : decide (q1 < p1) = true := decide_eq_true (by omega)
              clear hsd1
              go_wp2_with fail
              go_big_region_o
              have SE1 : Aside (SW enc w0 blk off dk wr.drew) := SD1.out.drew
              clear SD1
              generalize wr.drew = we1 at SE1 ⊢
              go_wp2
              go_ret
              have e := partEq_break lt a i1 j1 dk hi21.out hj21.out (by omega)
              refine ⟨?_, ?_⟩
              · unfold Sort.partitionEqual; rw [← AE.out, e]; rfl
              · unfold Sort.partitionEqual; rw [← AE.out, e]; exact SE1.out
      · have hi21 : Hid (p1 = Sort.scanUp (fun x => !lt dk[a]! x) dk j1 i1) := (scanUp_end (fun x => !lt dk[a]! x) dk j1 p1 (Or.inl hle1)).symm.trans hsc1.out
        have hgu1 : decide ((p1 : Int) ≤ (j1 : Int)) = false := decide_eq_false (by omega)
        clear hsc1
        go_wp2_with fail
        go_big_region_o
        have SV1 : Aside (SW enc w0 blk off dk wr.drew) := SU1.out.drew
        clear SU1
        generalize wr.drew = wv1 at SV1 ⊢
        go_wp2
        go_loopw [10] (fun vj w2 => ∃ (q1 : Nat), vj = .int .i64 q1 ∧ q1 ≤ j1 ∧ p1 ≤ q1 + 1 ∧ Aside (SW enc w0 blk off dk w2) ∧ Hid (Sort.scanDown (fun x => lt dk[a]! x) dk p1 q1 = Sort.scanDown (fun x => lt dk[a]! x) dk p1 j1))
          (fun vj _ => (intOf vj).toNat)
        case atStart => exact ⟨j1, rfl, Nat.le_refl _, hjj1, SV1, rfl⟩
        case round =>
          clear SV1
          obtain ⟨q1, rfl, hqj1, hpq1, SD1, hsd1⟩ := hrel
          by_cases hld1 : p1 ≤ q1
          · exfalso; omega
          · have hj21 : Hid (q1 = Sort.scanDown (fun x => lt dk[a]! x) dk p1 j1) := (scanDown_end (fun x => lt dk[a]! x) dk p1 q1 (Or.inl hld1)).symm.trans hsd1.out
            have hgd1 : decide ((p1 : Int) ≤ (q1 : Int)) = false := decide_eq_false (by omega)
            have hgt1 : decide ((q1 : Int) < (p1 : Int)) = true := decide_eq_true (by omega)
            have hgn1 : decide (q1 < p1) = true := decide_eq_true (by omega)
            clear hsd1
            go_wp2_with fail
            go_big_region_o
            have SE1 : Aside (SW enc w0 blk off dk wr.drew) := SD1.out.drew
            clear SD1
            generalize wr.drew = we1 at SE1 ⊢
            go_wp2
            go_ret
            have e := partEq_break lt a i1 j1 dk hi21.out hj21.out (by omega)
            refine ⟨?_, ?_⟩
            · unfold Sort.partitionEqual; rw [← AE.out, e]; rfl
            · unfold Sort.partitionEqual; rw [← AE.out, e]; exact SE1.out
end
end Go.Proofs.Ytmcfknnfaokmlaa
