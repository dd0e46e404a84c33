/- slices.Sort at uint64: the partial insertion sort (written by wip/gen12so.py). -/
import Derived.Test.YtmcfknnfaokmlaaQa
import Derived.Sort.WalkA6
namespace Go.Proofs.Ytmcfknnfaokmlaa
set_option maxRecDepth 100000
section
open Go.Shelf Go.RowKit Go.Lib Go.Sort

variable {P : Program} {α : Type} [Inhabited α] {enc : α → Value} {lt : α → α → Bool}

set_option maxHeartbeats 16000000 in
set_option maxRecDepth 1000000 in
theorem parU {blk off cap : Nat} {d0 d : Array α} {w0 w : World} (L : SoU P) (hless : LessU P enc lt) (R : Row1 enc w0 blk off d0) (hs : d0.size = d.size) (S : SW enc w0 blk off d w) {a b : Nat} (hab : a < b) (hb : b ≤ d.size) (hsz : d.size < 4611686018427387904) :
    Calls P 37 #[.slice (some ⟨blk, off, none⟩) d.size cap, .int .i64 a, .int .i64 b] w fun e w' => e = .returned (.bool (Sort.partialInsertionSort lt d a b).2) ∧ SW enc w0 blk off (Sort.partialInsertionSort lt d a b).1 w' := by
  have mixed := L.mixed; have u0 := L.u0; have a0 := L.a0; have z0 := L.z0; have v0 := L.v0; have u3 := L.u3; have a3 := L.a3; have z3 := L.z3; have v3 := L.v3; have u4 := L.u4; have a4 := L.a4; have z4 := L.z4; have v4 := L.v4; have u2 := L.u2; have a2 := L.a2; have z2 := L.z2; have v2 := L.v2; have u7 := L.u7; have a7 := L.a7; have z7 := L.z7; have v7 := L.v7; have u8 := L.u8; have a8 := L.a8; have z8 := L.z8; have v8 := L.v8; have u9 := L.u9; have a9 := L.a9; have z9 := L.z9; have v9 := L.v9; have u10 := L.u10; have a10 := L.a10; have z10 := L.z10; have v10 := L.v10; have u11 := L.u11; have a11 := L.a11; have z11 := L.z11; have v11 := L.v11; have eless := L.eless; have esift := L.esift; have eord := L.eord; have emed := L.emed; have emad := L.emad; have eins := L.eins; have eheap := L.eheap; have erev := L.erev; have epiv := L.epiv; have ebrk := L.ebrk; have epar := L.epar; have epeq := L.epeq; have eprt := L.eprt; have epdq := L.epdq; have enp2 := L.enp2; have exn := L.exn; have elen := L.elen; have a6 := L.a6; have z6 := L.z6
  have hcl0 := R.hO.cells
  simp only [Value.cells] at hcl0
  have hst := R.hO.store P
  have FG := L.fpar
  have HC : Aside _ := hless
  have S0 : Aside _ := S
  clear S hless
  go_enter FG, Try.ntmps37
  go_wp2
  go_loopg [7, 8] 5 (fun g1 vi vs wr => ∃ (i s : Nat) (dk : Array α), vi = .int .i64 i ∧ vs = .int .i64 s ∧ s ≤ 5 ∧ 5 - s ≤ g1 ∧ a < i ∧ i ≤ b ∧ dk.size = d.size ∧ Aside (SW enc w0 blk off dk wr) ∧ Hid (partialIns lt a b (5 - s) i dk = partialIns lt a b 5 (a + 1) d))
  case atStart => exact ⟨a + 1, 0, d, by first | go_num | (congr 1; omega), rfl, by omega, by omega, by omega, by omega, rfl, S0, rfl⟩
  case round =>
    clear S0
    obtain ⟨i, s, dk, rfl, rfl, hs5, hg1, hai, hib, hsk, S1, HO⟩ := hrel
    by_cases hs' : s < 5
    · have hsz5 : (s : Int) < 5 := by omega
      go_wp2
      go_loopg [7] (b - i) (fun g2 vi wr2 => ∃ (kx : Nat), vi = .int .i64 kx ∧ i ≤ kx ∧ kx ≤ b ∧ b - kx ≤ g2 ∧ Aside (SW enc w0 blk off dk wr2) ∧ Hid (scanSorted lt dk b kx = scanSorted lt dk b i))
      case atStart => exact ⟨i, rfl, Nat.le_refl _, hib, Nat.le_refl _, S1, rfl⟩
      case round =>
        clear S1
        obtain ⟨kx, rfl, hik, hkb, hg2, S1, HSc⟩ := hrel
        by_cases hkb' : kx < b
        · have hkz : (kx : Int) < (b : Int) := by omega
          obtain ⟨kxp, hkxp⟩ : ∃ q, q + 1 = kx := ⟨kx - 1, by omega⟩
          have zkxp : (kx : Int) = (kxp : Int) + 1 := by omega
          have hkd : decide ((kxp : Int) + 1 < (b : Int)) = true := decide_eq_true (by omega)
          cases hlv : lt dk[kx]! dk[kx - 1]! with
          | false =>
            obtain ⟨x1n, x1e, x1p, x1b, x1r, x1h⟩ := ixU (E := (kxp : Int) + 1) (N := kx) (m := d.size) (by omega) (by omega) hsz
            obtain ⟨y1n, y1e, y1p, y1b, y1r, y1h⟩ := ixU (E := (kxp : Int)) (N := kx - 1) (m := d.size) (by omega) (by omega) hsz
            obtain ⟨p1, q1, hp1, hq1, l1, m1⟩ := twoU S1.out R (by omega) x1h y1h (by omega) (by omega)
            have c1 := HC.out p1 q1
            rw [show lt p1 q1 = false by rw [hp1, hq1]; exact hlv] at c1
            clear hp1 hq1 x1h y1h
            go_wp2_with fail
            go_quiet_grown (first | (go_at_call 38; refine Calls.grown_of (c1 _)))
            have S2 : Aside (SW enc w0 blk off dk (grow (wr.drewN nq) osq)) := S1.out.grown nq osq
            clear l1 m1 c1 S1
            generalize grow (wr.drewN nq) osq = w2 at S2 ⊢
            clear nq osq
            clear x1e y1e
            go_wp2
            go_roundg (b - (kx + 1))
            case measure => omega
            case rel => exact ⟨kx + 1, by first | go_num | (congr 1; omega), by omega, by omega, Nat.le_refl _, S2, (show Hid _ from by rw [← HSc.out, scanSorted_go lt dk b kx hkb' hlv]; exact rfl)⟩
          | true =>
            have HK : Hid (scanSorted lt dk b i = kx) := by show _ = _; rw [← HSc.out, scanSorted_stop lt dk b kx (Or.inr hlv)]
            have hkne : ((kx : Int) == (b : Int)) = false := beq_eq_false_iff_ne.2 (by omega)
            have hkne' : ((kxp : Int) + 1 == (b : Int)) = false := beq_eq_false_iff_ne.2 (by omega)
            obtain ⟨x2n, x2e, x2p, x2b, x2r, x2h⟩ := ixU (E := (kxp : Int) + 1) (N := kx) (m := d.size) (by omega) (by omega) hsz
            obtain ⟨y2n, y2e, y2p, y2b, y2r, y2h⟩ := ixU (E := (kxp : Int)) (N := kx - 1) (m := d.size) (by omega) (by omega) hsz
            obtain ⟨p2, q2, hp2, hq2, l2, m2⟩ := twoU S1.out R (by omega) x2h y2h (by omega) (by omega)
            have c2 := HC.out p2 q2
            rw [show lt p2 q2 = true by rw [hp2, hq2]; exact hlv] at c2
            clear hp2 hq2 x2h y2h
            go_wp2_with fail
            go_quiet_grown (first | (go_at_call 38; refine Calls.grown_of (c2 _)))
            have S2 : Aside (SW enc w0 blk off dk (grow (wr.drewN nq) osq)) := S1.out.grown nq osq
            clear l2 m2 c2 S1
            generalize grow (wr.drewN nq) osq = w2 at S2 ⊢
            clear nq osq
            clear x2e y2e
            by_cases h50 : b - a < 50
            · have h50z : (b : Int) - (a : Int) < 50 := by omega
              go_wp2
              have hv : Sort.partialInsertionSort lt d a b = (dk, false) := by
                unfold Sort.partialInsertionSort
                rw [← HO.out, pi_short lt a b s i dk hs' (by rw [HK.out]; omega) h50]
              rw [hv]
              go_ret
              exact ⟨rfl, S2.out⟩
            · have h50z : ¬ ((b : Int) - (a : Int) < 50) := by omega
              go_wp2_with fail
              obtain ⟨x3n, x3e, x3p, x3b, x3r, x3h⟩ := ixU (E := (kxp : Int) + 1) (N := kx) (m := d.size) (by omega) (by omega) hsz
              obtain ⟨y3n, y3e, y3p, y3b, y3r, y3h⟩ := ixU (E := (kxp : Int)) (N := kx - 1) (m := d.size) (by omega) (by omega) hsz
              obtain ⟨p3, q3, t3, c3a, c3b, c3c, f3a, f3b, s3⟩ := swpU S2.out R (by omega) x3h y3h (by omega) (by omega)
              have S3 : Aside _ := s3
              clear S2 s3 x3h y3h
              go_wp2_with fail
              go_big_region_o
              clear c3a c3b c3c f3a f3b
              generalize ((w2.setCell ⟨blk, off + x3n, none⟩ (enc q3)).setCell ⟨blk, off + y3n, none⟩ (enc p3)).drew = w3 at S3 ⊢
              clear x3e y3e
              have hX1 : (swp dk kx (kx - 1)).size = d.size := by rw [size_swp]; exact hsk
              by_cases hka : kx - a ≥ 2
              · have hkaz : (2 : Int) ≤ (kx : Int) - (a : Int) := by omega
                have hkad : decide ((2 : Int) ≤ (kxp : Int) + 1 - (a : Int)) = true := decide_eq_true (by omega)
                go_wp2
                go_loopg [9] (kx - 1) (fun g3 vj wr3 => ∃ (j : Nat) (dj : Array α), vj = .int .i64 j ∧ j ≤ kx - 1 ∧ j ≤ g3 ∧ dj.size = d.size ∧ Aside (SW enc w0 blk off dj wr3) ∧ Hid (shiftDown lt j dj = shiftDown lt (kx - 1) (swp dk kx (kx - 1))))
                case atStart => exact ⟨kx - 1, (swp dk kx (kx - 1)), by congr 1; omega, Nat.le_refl _, Nat.le_refl _, hX1, S3, rfl⟩
                case round =>
                  clear S3
                  obtain ⟨j, dj, rfl, hjk, hg3, hsj, SD, HDn⟩ := hrel
                  by_cases hj1 : 1 ≤ j
                  · have hj1z : (1 : Int) ≤ (j : Int) := by omega
                    obtain ⟨jp, hjp⟩ : ∃ q, q + 1 = j := ⟨j - 1, by omega⟩
                    have zjp : (j : Int) = (jp : Int) + 1 := by omega
                    have hj1z' : (1 : Int) ≤ (jp : Int) + 1 := by omega
                    go_wp2_with fail
                    cases hlv2 : lt dj[j]! dj[j - 1]! with
                    | true =>
                      obtain ⟨x4n, x4e, x4p, x4b, x4r, x4h⟩ := ixU (E := (jp : Int) + 1) (N := j) (m := d.size) (by omega) (by omega) hsz
                      obtain ⟨y4n, y4e, y4p, y4b, y4r, y4h⟩ := ixU (E := (jp : Int)) (N := j - 1) (m := d.size) (by omega) (by omega) hsz
                      obtain ⟨p4, q4, hp4, hq4, l4, m4⟩ := twoU SD.out R (by omega) x4h y4h (by omega) (by omega)
                      have c4 := HC.out p4 q4
                      rw [show lt p4 q4 = true by rw [hp4, hq4]; exact hlv2] at c4
                      clear hp4 hq4 x4h y4h
                      go_wp2_with fail
                      go_quiet_grown (first | (go_at_call 38; refine Calls.grown_of (c4 _)))
                      have SD2 : Aside (SW enc w0 blk off dj (grow (wr.drewN nq) osq)) := SD.out.grown nq osq
                      clear l4 m4 c4 SD
                      generalize grow (wr.drewN nq) osq = wd2 at SD2 ⊢
                      clear nq osq
                      clear x4e y4e
                      go_wp2_with fail
                      obtain ⟨x5n, x5e, x5p, x5b, x5r, x5h⟩ := ixU (E := (jp : Int) + 1) (N := j) (m := d.size) (by omega) (by omega) hsz
                      obtain ⟨y5n, y5e, y5p, y5b, y5r, y5h⟩ := ixU (E := (jp : Int)) (N := j - 1) (m := d.size) (by omega) (by omega) hsz
                      obtain ⟨p5, q5, t5, c5a, c5b, c5c, f5a, f5b, s5⟩ := swpU SD2.out R (by omega) x5h y5h (by omega) (by omega)
                      have SD3 : Aside _ := s5
                      clear SD2 s5 x5h y5h
                      go_wp2_with fail
                      go_big_region_o
                      clear c5a c5b c5c f5a f5b
                      generalize ((wd2.setCell ⟨blk, off + x5n, none⟩ (enc q5)).setCell ⟨blk, off + y5n, none⟩ (enc p5)).drew = wd3 at SD3 ⊢
                      clear x5e y5e
                      go_wp2
                      go_roundg (j - 1)
                      case measure => omega
                      case rel => exact ⟨j - 1, swp dj j (j - 1), by congr 1; omega, by omega, Nat.le_refl _, by rw [size_swp]; exact hsj, SD3, (show Hid _ from by rw [← HDn.out, shiftDown_go lt j dj hj1 hlv2]; exact rfl)⟩
                    | false =>
                      have HD : Hid (fixDown lt a kx (swp dk kx (kx - 1)) = dj) := by show _ = _; unfold fixDown; rw [if_pos hka, ← HDn.out, shiftDown_stop lt j dj (Or.inr hlv2)]
                      obtain ⟨x6n, x6e, x6p, x6b, x6r, x6h⟩ := ixU (E := (jp : Int) + 1) (N := j) (m := d.size) (by omega) (by omega) hsz
                      obtain ⟨y6n, y6e, y6p, y6b, y6r, y6h⟩ := ixU (E := (jp : Int)) (N := j - 1) (m := d.size) (by omega) (by omega) hsz
                      obtain ⟨p6, q6, hp6, hq6, l6, m6⟩ := twoU SD.out R (by omega) x6h y6h (by omega) (by omega)
                      have c6 := HC.out p6 q6
                      rw [show lt p6 q6 = false by rw [hp6, hq6]; exact hlv2] at c6
                      clear hp6 hq6 x6h y6h
                      go_wp2_with fail
                      go_quiet_grown (first | (go_at_call 38; refine Calls.grown_of (c6 _)))
                      have SD4 : Aside (SW enc w0 blk off dj (grow (wr.drewN nq) osq)) := SD.out.grown nq osq
                      clear l6 m6 c6 SD
                      generalize grow (wr.drewN nq) osq = wd4 at SD4 ⊢
                      clear nq osq
                      clear x6e y6e
                      by_cases hbk : b - kx ≥ 2
                      · have hbkz : (2 : Int) ≤ (b : Int) - (kx : Int) := by omega
                        have hbkd : decide ((2 : Int) ≤ (b : Int) - ((kxp : Int) + 1)) = true := decide_eq_true (by omega)
                        go_wp2
                        go_loopg [10] (b - (kx + 1)) (fun g4 vj wr4 => ∃ (ju : Nat) (du : Array α), vj = .int .i64 ju ∧ kx + 1 ≤ ju ∧ ju ≤ b ∧ b - ju ≤ g4 ∧ du.size = d.size ∧ Aside (SW enc w0 blk off du wr4) ∧ Hid (shiftUp lt b ju du = shiftUp lt b (kx + 1) dj))
                        case atStart => exact ⟨kx + 1, dj, by first | go_num | (congr 1; omega), Nat.le_refl _, by omega, Nat.le_refl _, hsj, SD4, rfl⟩
                        case round =>
                          clear SD4
                          obtain ⟨ju, du, rfl, hkj, hjb, hg4, hsu, SU, HU⟩ := hrel
                          by_cases hjb' : ju < b
                          · have hjz : (ju : Int) < (b : Int) := by omega
                            obtain ⟨jup, hjup⟩ : ∃ q, q + 1 = ju := ⟨ju - 1, by omega⟩
                            have zjup : (ju : Int) = (jup : Int) + 1 := by omega
                            have hjz' : (jup : Int) + 1 < (b : Int) := by omega
                            go_wp2_with fail
                            cases hlv3 : lt du[ju]! du[ju - 1]! with
                            | true =>
                              obtain ⟨x7n, x7e, x7p, x7b, x7r, x7h⟩ := ixU (E := (jup : Int) + 1) (N := ju) (m := d.size) (by omega) (by omega) hsz
                              obtain ⟨y7n, y7e, y7p, y7b, y7r, y7h⟩ := ixU (E := (jup : Int)) (N := ju - 1) (m := d.size) (by omega) (by omega) hsz
                              obtain ⟨p7, q7, hp7, hq7, l7, m7⟩ := twoU SU.out R (by omega) x7h y7h (by omega) (by omega)
                              have c7 := HC.out p7 q7
                              rw [show lt p7 q7 = true by rw [hp7, hq7]; exact hlv3] at c7
                              clear hp7 hq7 x7h y7h
                              go_wp2_with fail
                              go_quiet_grown (first | (go_at_call 38; refine Calls.grown_of (c7 _)))
                              have SU2 : Aside (SW enc w0 blk off du (grow (wr.drewN nq) osq)) := SU.out.grown nq osq
                              clear l7 m7 c7 SU
                              generalize grow (wr.drewN nq) osq = wu2 at SU2 ⊢
                              clear nq osq
                              clear x7e y7e
                              go_wp2_with fail
                              obtain ⟨x8n, x8e, x8p, x8b, x8r, x8h⟩ := ixU (E := (jup : Int) + 1) (N := ju) (m := d.size) (by omega) (by omega) hsz
                              obtain ⟨y8n, y8e, y8p, y8b, y8r, y8h⟩ := ixU (E := (jup : Int)) (N := ju - 1) (m := d.size) (by omega) (by omega) hsz
                              obtain ⟨p8, q8, t8, c8a, c8b, c8c, f8a, f8b, s8⟩ := swpU SU2.out R (by omega) x8h y8h (by omega) (by omega)
                              have SU3 : Aside _ := s8
                              clear SU2 s8 x8h y8h
                              go_wp2_with fail
                              go_big_region_o
                              clear c8a c8b c8c f8a f8b
                              generalize ((wu2.setCell ⟨blk, off + x8n, none⟩ (enc q8)).setCell ⟨blk, off + y8n, none⟩ (enc p8)).drew = wu3 at SU3 ⊢
                              clear x8e y8e
                              go_wp2
                              go_roundg (b - (ju + 1))
                              case measure => omega
                              case rel => exact ⟨ju + 1, swp du ju (ju - 1), by first | go_num | (congr 1; omega), by omega, by omega, Nat.le_refl _, by rw [size_swp]; exact hsu, SU3, (show Hid _ from by rw [← HU.out, shiftUp_go lt b ju du hjb' hlv3]; exact rfl)⟩
                            | false =>
                              obtain ⟨x9n, x9e, x9p, x9b, x9r, x9h⟩ := ixU (E := (jup : Int) + 1) (N := ju) (m := d.size) (by omega) (by omega) hsz
                              obtain ⟨y9n, y9e, y9p, y9b, y9r, y9h⟩ := ixU (E := (jup : Int)) (N := ju - 1) (m := d.size) (by omega) (by omega) hsz
                              obtain ⟨p9, q9, hp9, hq9, l9, m9⟩ := twoU SU.out R (by omega) x9h y9h (by omega) (by omega)
                              have c9 := HC.out p9 q9
                              rw [show lt p9 q9 = false by rw [hp9, hq9]; exact hlv3] at c9
                              clear hp9 hq9 x9h y9h
                              go_wp2_with fail
                              go_quiet_grown (first | (go_at_call 38; refine Calls.grown_of (c9 _)))
                              have SU2 : Aside (SW enc w0 blk off du (grow (wr.drewN nq) osq)) := SU.out.grown nq osq
                              clear l9 m9 c9 SU
                              generalize grow (wr.drewN nq) osq = wu2 at SU2 ⊢
                              clear nq osq
                              clear x9e y9e
                              go_wp2
                              go_roundg (5 - (s + 1))
                              case measure => omega
                              case rel => exact ⟨kx, s + 1, du, by first | rfl | (congr 1; omega), by first | go_num | (congr 1; omega), by omega, Nat.le_refl _, by omega, by omega, hsu, SU2, (show Hid _ from by rw [← HO.out, pi_go lt a b s i kx dk hs' HK.out (by omega) h50, HD.out, show fixUp lt b kx dj = du from by unfold fixUp; rw [if_pos hbk, ← HU.out, shiftUp_stop lt b ju du (Or.inr hlv3)]]; exact rfl)⟩
                          · have hjz : ¬ (ju : Int) < (b : Int) := by omega
                            go_wp2
                            go_roundg (5 - (s + 1))
                            case measure => omega
                            case rel => exact ⟨kx, s + 1, du, by first | rfl | (congr 1; omega), by first | go_num | (congr 1; omega), by omega, Nat.le_refl _, by omega, by omega, hsu, SU, (show Hid _ from by rw [← HO.out, pi_go lt a b s i kx dk hs' HK.out (by omega) h50, HD.out, show fixUp lt b kx dj = du from by unfold fixUp; rw [if_pos hbk, ← HU.out, shiftUp_stop lt b ju du (Or.inl hjb')]]; exact rfl)⟩
                      · have hbkz : ¬ (2 : Int) ≤ (b : Int) - (kx : Int) := by omega
                        have hbkd : decide ((2 : Int) ≤ (b : Int) - ((kxp : Int) + 1)) = false := decide_eq_false (by omega)
                        go_wp2
                        go_roundg (5 - (s + 1))
                        case measure => omega
                        case rel => exact ⟨kx, s + 1, dj, by first | rfl | (congr 1; omega), by first | go_num | (congr 1; omega), by omega, Nat.le_refl _, by omega, by omega, hsj, SD4, (show Hid _ from by rw [← HO.out, pi_go lt a b s i kx dk hs' HK.out (by omega) h50, HD.out, show fixUp lt b kx dj = dj from by unfold fixUp; rw [if_neg hbk]]; exact rfl)⟩
                  · have hj1z : ¬ (1 : Int) ≤ (j : Int) := by omega
                    have HD : Hid (fixDown lt a kx (swp dk kx (kx - 1)) = dj) := by show _ = _; unfold fixDown; rw [if_pos hka, ← HDn.out, shiftDown_stop lt j dj (Or.inl (by omega))]
                    by_cases hbk : b - kx ≥ 2
                    · have hbkz : (2 : Int) ≤ (b : Int) - (kx : Int) := by omega
                      have hbkd : decide ((2 : Int) ≤ (b : Int) - ((kxp : Int) + 1)) = true := decide_eq_true (by omega)
                      go_wp2
                      go_loopg [10] (b - (kx + 1)) (fun g4 vj wr4 => ∃ (ju : Nat) (du : Array α), vj = .int .i64 ju ∧ kx + 1 ≤ ju ∧ ju ≤ b ∧ b - ju ≤ g4 ∧ du.size = d.size ∧ Aside (SW enc w0 blk off du wr4) ∧ Hid (shiftUp lt b ju du = shiftUp lt b (kx + 1) dj))
                      case atStart => exact ⟨kx + 1, dj, by first | go_num | (congr 1; omega), Nat.le_refl _, by omega, Nat.le_refl _, hsj, SD, rfl⟩
                      case round =>
                        clear SD
                        obtain ⟨ju, du, rfl, hkj, hjb, hg4, hsu, SU, HU⟩ := hrel
                        by_cases hjb' : ju < b
                        · have hjz : (ju : Int) < (b : Int) := by omega
                          obtain ⟨jup, hjup⟩ : ∃ q, q + 1 = ju := ⟨ju - 1, by omega⟩
                          have zjup : (ju : Int) = (jup : Int) + 1 := by omega
                          have hjz' : (jup : Int) + 1 < (b : Int) := by omega
                          go_wp2_with fail
                          cases hlv3 : lt du[ju]! du[ju - 1]! with
                          | true =>
                            obtain ⟨x10n, x10e, x10p, x10b, x10r, x10h⟩ := ixU (E := (jup : Int) + 1) (N := ju) (m := d.size) (by omega) (by omega) hsz
                            obtain ⟨y10n, y10e, y10p, y10b, y10r, y10h⟩ := ixU (E := (jup : Int)) (N := ju - 1) (m := d.size) (by omega) (by omega) hsz
                            obtain ⟨p10, q10, hp10, hq10, l10, m10⟩ := twoU SU.out R (by omega) x10h y10h (by omega) (by omega)
                            have c10 := HC.out p10 q10
                            rw [show lt p10 q10 = true by rw [hp10, hq10]; exact hlv3] at c10
                            clear hp10 hq10 x10h y10h
                            go_wp2_with fail
                            go_quiet_grown (first | (go_at_call 38; refine Calls.grown_of (c10 _)))
                            have SU2 : Aside (SW enc w0 blk off du (grow (wr.drewN nq) osq)) := SU.out.grown nq osq
                            clear l10 m10 c10 SU
                            generalize grow (wr.drewN nq) osq = wu2 at SU2 ⊢
                            clear nq osq
                            clear x10e y10e
                            go_wp2_with fail
                            obtain ⟨x11n, x11e, x11p, x11b, x11r, x11h⟩ := ixU (E := (jup : Int) + 1) (N := ju) (m := d.size) (by omega) (by omega) hsz
                            obtain ⟨y11n, y11e, y11p, y11b, y11r, y11h⟩ := ixU (E := (jup : Int)) (N := ju - 1) (m := d.size) (by omega) (by omega) hsz
                            obtain ⟨p11, q11, t11, c11a, c11b, c11c, f11a, f11b, s11⟩ := swpU SU2.out R (by omega) x11h y11h (by omega) (by omega)
                            have SU3 : Aside _ := s11
                            clear SU2 s11 x11h y11h
                            go_wp2_with fail
                            go_big_region_o
                            clear c11a c11b c11c f11a f11b
                            generalize ((wu2.setCell ⟨blk, off + x11n, none⟩ (enc q11)).setCell ⟨blk, off + y11n, none⟩ (enc p11)).drew = wu3 at SU3 ⊢
                            clear x11e y11e
                            go_wp2
                            go_roundg (b - (ju + 1))
                            case measure => omega
                            case rel => exact ⟨ju + 1, swp du ju (ju - 1), by first | go_num | (congr 1; omega), by omega, by omega, Nat.le_refl _, by rw [size_swp]; exact hsu, SU3, (show Hid _ from by rw [← HU.out, shiftUp_go lt b ju du hjb' hlv3]; exact rfl)⟩
                          | false =>
                            obtain ⟨x12n, x12e, x12p, x12b, x12r, x12h⟩ := ixU (E := (jup : Int) + 1) (N := ju) (m := d.size) (by omega) (by omega) hsz
                            obtain ⟨y12n, y12e, y12p, y12b, y12r, y12h⟩ := ixU (E := (jup : Int)) (N := ju - 1) (m := d.size) (by omega) (by omega) hsz
                            obtain ⟨p12, q12, hp12, hq12, l12, m12⟩ := twoU SU.out R (by omega) x12h y12h (by omega) (by omega)
                            have c12 := HC.out p12 q12
                            rw [show lt p12 q12 = false by rw [hp12, hq12]; exact hlv3] at c12
                            clear hp12 hq12 x12h y12h
                            go_wp2_with fail
                            go_quiet_grown (first | (go_at_call 38; refine Calls.grown_of (c12 _)))
                            have SU2 : Aside (SW enc w0 blk off du (grow (wr.drewN nq) osq)) := SU.out.grown nq osq
                            clear l12 m12 c12 SU
                            generalize grow (wr.drewN nq) osq = wu2 at SU2 ⊢
                            clear nq osq
                            clear x12e y12e
                            go_wp2
                            go_roundg (5 - (s + 1))
                            case measure => omega
                            case rel => exact ⟨kx, s + 1, du, by first | rfl | (congr 1; omega), by first | go_num | (congr 1; omega), by omega, Nat.le_refl _, by omega, by omega, hsu, SU2, (show Hid _ from by rw [← HO.out, pi_go lt a b s i kx dk hs' HK.out (by omega) h50, HD.out, show fixUp lt b kx dj = du from by unfold fixUp; rw [if_pos hbk, ← HU.out, shiftUp_stop lt b ju du (Or.inr hlv3)]]; exact rfl)⟩
                        · have hjz : ¬ (ju : Int) < (b : Int) := by omega
                          go_wp2
                          go_roundg (5 - (s + 1))
                          case measure => omega
                          case rel => exact ⟨kx, s + 1, du, by first | rfl | (congr 1; omega), by first | go_num | (congr 1; omega), by omega, Nat.le_refl _, by omega, by omega, hsu, SU, (show Hid _ from by rw [← HO.out, pi_go lt a b s i kx dk hs' HK.out (by omega) h50, HD.out, show fixUp lt b kx dj = du from by unfold fixUp; rw [if_pos hbk, ← HU.out, shiftUp_stop lt b ju du (Or.inl hjb')]]; exact rfl)⟩
                    · have hbkz : ¬ (2 : Int) ≤ (b : Int) - (kx : Int) := by omega
                      have hbkd : decide ((2 : Int) ≤ (b : Int) - ((kxp : Int) + 1)) = false := decide_eq_false (by omega)
                      go_wp2
                      go_roundg (5 - (s + 1))
                      case measure => omega
                      case rel => exact ⟨kx, s + 1, dj, by first | rfl | (congr 1; omega), by first | go_num | (congr 1; omega), by omega, Nat.le_refl _, by omega, by omega, hsj, SD, (show Hid _ from by rw [← HO.out, pi_go lt a b s i kx dk hs' HK.out (by omega) h50, HD.out, show fixUp lt b kx dj = dj from by unfold fixUp; rw [if_neg hbk]]; exact rfl)⟩
              · have hkaz : ¬ (2 : Int) ≤ (kx : Int) - (a : Int) := by omega
                have hkad : decide ((2 : Int) ≤ (kxp : Int) + 1 - (a : Int)) = false := decide_eq_false (by omega)
                have HD : Hid (fixDown lt a kx (swp dk kx (kx - 1)) = (swp dk kx (kx - 1))) := by show _ = _; unfold fixDown; rw [if_neg hka]
                by_cases hbk : b - kx ≥ 2
                · have hbkz : (2 : Int) ≤ (b : Int) - (kx : Int) := by omega
                  have hbkd : decide ((2 : Int) ≤ (b : Int) - ((kxp : Int) + 1)) = true := decide_eq_true (by omega)
                  go_wp2
                  go_loopg [10] (b - (kx + 1)) (fun g4 vj wr4 => ∃ (ju : Nat) (du : Array α), vj = .int .i64 ju ∧ kx + 1 ≤ ju ∧ ju ≤ b ∧ b - ju ≤ g4 ∧ du.size = d.size ∧ Aside (SW enc w0 blk off du wr4) ∧ Hid (shiftUp lt b ju du = shiftUp lt b (kx + 1) (swp dk kx (kx - 1))))
                  case atStart => exact ⟨kx + 1, (swp dk kx (kx - 1)), by first | go_num | (congr 1; omega), Nat.le_refl _, by omega, Nat.le_refl _, hX1, S3, rfl⟩
                  case round =>
                    clear S3
                    obtain ⟨ju, du, rfl, hkj, hjb, hg4, hsu, SU, HU⟩ := hrel
                    by_cases hjb' : ju < b
                    · have hjz : (ju : Int) < (b : Int) := by omega
                      obtain ⟨jup, hjup⟩ : ∃ q, q + 1 = ju := ⟨ju - 1, by omega⟩
                      have zjup : (ju : Int) = (jup : Int) + 1 := by omega
                      have hjz' : (jup : Int) + 1 < (b : Int) := by omega
                      go_wp2_with fail
                      cases hlv3 : lt du[ju]! du[ju - 1]! with
                      | true =>
                        obtain ⟨x13n, x13e, x13p, x13b, x13r, x13h⟩ := ixU (E := (jup : Int) + 1) (N := ju) (m := d.size) (by omega) (by omega) hsz
                        obtain ⟨y13n, y13e, y13p, y13b, y13r, y13h⟩ := ixU (E := (jup : Int)) (N := ju - 1) (m := d.size) (by omega) (by omega) hsz
                        obtain ⟨p13, q13, hp13, hq13, l13, m13⟩ := twoU SU.out R (by omega) x13h y13h (by omega) (by omega)
                        have c13 := HC.out p13 q13
                        rw [show lt p13 q13 = true by rw [hp13, hq13]; exact hlv3] at c13
                        clear hp13 hq13 x13h y13h
                        go_wp2_with fail
                        go_quiet_grown (first | (go_at_call 38; refine Calls.grown_of (c13 _)))
                        have SU2 : Aside (SW enc w0 blk off du (grow (wr.drewN nq) osq)) := SU.out.grown nq osq
                        clear l13 m13 c13 SU
                        generalize grow (wr.drewN nq) osq = wu2 at SU2 ⊢
                        clear nq osq
                        clear x13e y13e
                        go_wp2_with fail
                        obtain ⟨x14n, x14e, x14p, x14b, x14r, x14h⟩ := ixU (E := (jup : Int) + 1) (N := ju) (m := d.size) (by omega) (by omega) hsz
                        obtain ⟨y14n, y14e, y14p, y14b, y14r, y14h⟩ := ixU (E := (jup : Int)) (N := ju - 1) (m := d.size) (by omega) (by omega) hsz
                        obtain ⟨p14, q14, t14, c14a, c14b, c14c, f14a, f14b, s14⟩ := swpU SU2.out R (by omega) x14h y14h (by omega) (by omega)
                        have SU3 : Aside _ := s14
                        clear SU2 s14 x14h y14h
                        go_wp2_with fail
                        go_big_region_o
                        clear c14a c14b c14c f14a f14b
                        generalize ((wu2.setCell ⟨blk, off + x14n, none⟩ (enc q14)).setCell ⟨blk, off + y14n, none⟩ (enc p14)).drew = wu3 at SU3 ⊢
                        clear x14e y14e
                        go_wp2
                        go_roundg (b - (ju + 1))
                        case measure => omega
                        case rel => exact ⟨ju + 1, swp du ju (ju - 1), by first | go_num | (congr 1; omega), by omega, by omega, Nat.le_refl _, by rw [size_swp]; exact hsu, SU3, (show Hid _ from by rw [← HU.out, shiftUp_go lt b ju du hjb' hlv3]; exact rfl)⟩
                      | false =>
                        obtain ⟨x15n, x15e, x15p, x15b, x15r, x15h⟩ := ixU (E := (jup : Int) + 1) (N := ju) (m := d.size) (by omega) (by omega) hsz
                        obtain ⟨y15n, y15e, y15p, y15b, y15r, y15h⟩ := ixU (E := (jup : Int)) (N := ju - 1) (m := d.size) (by omega) (by omega) hsz
                        obtain ⟨p15, q15, hp15, hq15, l15, m15⟩ := twoU SU.out R (by omega) x15h y15h (by omega) (by omega)
                        have c15 := HC.out p15 q15
                        rw [show lt p15 q15 = false by rw [hp15, hq15]; exact hlv3] at c15
                        clear hp15 hq15 x15h y15h
                        go_wp2_with fail
                        go_quiet_grown (first | (go_at_call 38; refine Calls.grown_of (c15 _)))
                        have SU2 : Aside (SW enc w0 blk off du (grow (wr.drewN nq) osq)) := SU.out.grown nq osq
                        clear l15 m15 c15 SU
                        generalize grow (wr.drewN nq) osq = wu2 at SU2 ⊢
                        clear nq osq
                        clear x15e y15e
                        go_wp2
                        go_roundg (5 - (s + 1))
                        case measure => omega
                        case rel => exact ⟨kx, s + 1, du, by first | rfl | (congr 1; omega), by first | go_num | (congr 1; omega), by omega, Nat.le_refl _, by omega, by omega, hsu, SU2, (show Hid _ from by rw [← HO.out, pi_go lt a b s i kx dk hs' HK.out (by omega) h50, HD.out, show fixUp lt b kx (swp dk kx (kx - 1)) = du from by unfold fixUp; rw [if_pos hbk, ← HU.out, shiftUp_stop lt b ju du (Or.inr hlv3)]]; exact rfl)⟩
                    · have hjz : ¬ (ju : Int) < (b : Int) := by omega
                      go_wp2
                      go_roundg (5 - (s + 1))
                      case measure => omega
                      case rel => exact ⟨kx, s + 1, du, by first | rfl | (congr 1; omega), by first | go_num | (congr 1; omega), by omega, Nat.le_refl _, by omega, by omega, hsu, SU, (show Hid _ from by rw [← HO.out, pi_go lt a b s i kx dk hs' HK.out (by omega) h50, HD.out, show fixUp lt b kx (swp dk kx (kx - 1)) = du from by unfold fixUp; rw [if_pos hbk, ← HU.out, shiftUp_stop lt b ju du (Or.inl hjb')]]; exact rfl)⟩
                · have hbkz : ¬ (2 : Int) ≤ (b : Int) - (kx : Int) := by omega
                  have hbkd : decide ((2 : Int) ≤ (b : Int) - ((kxp : Int) + 1)) = false := decide_eq_false (by omega)
                  go_wp2
                  go_roundg (5 - (s + 1))
                  case measure => omega
                  case rel => exact ⟨kx, s + 1, (swp dk kx (kx - 1)), by first | rfl | (congr 1; omega), by first | go_num | (congr 1; omega), by omega, Nat.le_refl _, by omega, by omega, hX1, S3, (show Hid _ from by rw [← HO.out, pi_go lt a b s i kx dk hs' HK.out (by omega) h50, HD.out, show fixUp lt b kx (swp dk kx (kx - 1)) = (swp dk kx (kx - 1)) from by unfold fixUp; rw [if_neg hbk]]; exact rfl)⟩
        · obtain rfl : kx = b := by omega
          have hkz : ¬ (kx : Int) < (kx : Int) := by omega
          have hkd : decide ((kx : Int) < (kx : Int)) = false := decide_eq_false hkz
          go_wp2_with fail
          go_big_region_o
          have S2 : Aside (SW enc w0 blk off dk wr.drew) := S1.out.drew
          clear S1
          generalize wr.drew = w2 at S2 ⊢
          go_wp2
          have hv : Sort.partialInsertionSort lt d a kx = (dk, true) := by
            unfold Sort.partialInsertionSort
            rw [← HO.out, pi_true lt a kx s i dk hs' (by rw [← HSc.out, scanSorted_stop lt dk kx kx (Or.inl (by omega))])]
          rw [hv]
          go_ret
          exact ⟨rfl, S2.out⟩
    · obtain rfl : s = 5 := by omega
      go_wp2
      have hv : Sort.partialInsertionSort lt d a b = (dk, false) := by
        unfold Sort.partialInsertionSort
        rw [← HO.out, pi_end]
      rw [hv]
      go_ret
      exact ⟨rfl, S1.out⟩
end
end Go.Proofs.Ytmcfknnfaokmlaa
