/- slices.Sort at uint64: the heap (written by wip/gen12so.py). -/
import Derived.Test.YtmcfknnfaokmlaaQa
namespace Go.Proofs.Ytmcfknnfaokmlaa
set_option maxRecDepth 100000
section
open Go.Shelf Go.RowKit Go.Lib Go.Sort

variable {P : Program} {α : Type} [Inhabited α] {enc : α → Value} {lt : α → α → Bool}

set_option maxHeartbeats 16000000 in
set_option maxRecDepth 1000000 in
theorem siftU {blk off cap : Nat} {d0 d : Array α} {w0 w : World} (L : SoU P) (hless : LessU P enc lt) (R : Row1 enc w0 blk off d0) (hs : d0.size = d.size) (S : SW enc w0 blk off d w) {lo hi first : Nat} (hlo : lo ≤ hi) (hb : first + hi ≤ d.size) (hsz : d.size < 4611686018427387904) :
    Calls P 43 #[.slice (some ⟨blk, off, none⟩) d.size cap, .int .i64 lo, .int .i64 hi, .int .i64 first] w fun e w' => e = .returned (.tuple #[]) ∧ SW enc w0 blk off (siftDown lt hi first lo d) w' := by
  have mixed := L.mixed; have u0 := L.u0; have a0 := L.a0; have z0 := L.z0; have v0 := L.v0; have u3 := L.u3; have a3 := L.a3; have z3 := L.z3; have v3 := L.v3; have u4 := L.u4; have a4 := L.a4; have z4 := L.z4; have v4 := L.v4; have u2 := L.u2; have a2 := L.a2; have z2 := L.z2; have v2 := L.v2; have u7 := L.u7; have a7 := L.a7; have z7 := L.z7; have v7 := L.v7; have u8 := L.u8; have a8 := L.a8; have z8 := L.z8; have v8 := L.v8; have u9 := L.u9; have a9 := L.a9; have z9 := L.z9; have v9 := L.v9; have u10 := L.u10; have a10 := L.a10; have z10 := L.z10; have v10 := L.v10; have u11 := L.u11; have a11 := L.a11; have z11 := L.z11; have v11 := L.v11; have eless := L.eless; have esift := L.esift; have eord := L.eord; have emed := L.emed; have emad := L.emad; have eins := L.eins; have eheap := L.eheap; have erev := L.erev; have epiv := L.epiv; have ebrk := L.ebrk; have epar := L.epar; have epeq := L.epeq; have eprt := L.eprt; have epdq := L.epdq; have enp2 := L.enp2; have exn := L.exn; have elen := L.elen; have a6 := L.a6; have z6 := L.z6
  have hcl0 := R.hO.cells
  simp only [Value.cells] at hcl0
  have hst := R.hO.store P
  have FG := L.fsift
  have HC : Aside _ := hless
  have S0 : Aside _ := S
  clear S hless
  go_enter FG, Try.ntmps43
  go_wp2
  go_loopg [8] (hi - lo) (fun kx s8 wr => ∃ (root : Nat) (dk : Array α), s8 = .int .i64 root ∧ root ≤ hi ∧ hi - root ≤ kx ∧ dk.size = d.size ∧ Aside (SW enc w0 blk off dk wr) ∧ Hid (siftDown lt hi first root dk = siftDown lt hi first lo d))
  case atStart => exact ⟨lo, d, rfl, hlo, Nat.le_refl _, rfl, S0, rfl⟩
  case round =>
    obtain ⟨root, dk, rfl, hr, hkx, hds, S1, HE⟩ := hrel
    clear S0
    by_cases h0 : hi ≤ 2 * root + 1
    · have h0z : (hi : Int) ≤ 2 * (root : Int) + 1 := by omega
      go_wp2
      go_end0
      refine ⟨rfl, ?_⟩
      rw [← HE.out, sd_end lt dk h0]
      exact S1.out
    · have h0z : ¬ ((hi : Int) ≤ 2 * (root : Int) + 1) := by omega
      have rch : IntKind.i64.wrap (2 * (root : Int) + 1 + 1) = 2 * (root : Int) + 1 + 1 := by rw [IntKind.wrap_i64]; omega
      by_cases h1 : 2 * root + 2 < hi
      · have h1z : 2 * (root : Int) + 1 + 1 < (hi : Int) := by omega
        have h1d : decide (2 * (root : Int) + 1 + 1 < (hi : Int)) = true := decide_eq_true h1z
        cases hL : lt dk[first + (2 * root + 1)]! dk[first + (2 * root + 2)]! with
        | true =>
          obtain ⟨x1n, x1e, x1p, x1b, x1r, x1h⟩ := ixU (E := (first : Int) + (2 * (root : Int) + 1)) (N := first + (2 * root + 1)) (m := d.size) (by omega) (by omega) hsz
          obtain ⟨y1n, y1e, y1p, y1b, y1r, y1h⟩ := ixU (E := (first : Int) + (2 * (root : Int) + 1) + 1) (N := first + (2 * root + 2)) (m := d.size) (by omega) (by omega) hsz
          obtain ⟨p1, q1, hp1, hq1, l1, m1⟩ := twoU S1.out R (by omega) x1h y1h (by omega) (by omega)
          have c1 := HC.out p1 q1
          rw [show lt p1 q1 = true by rw [hp1, hq1]; exact hL] at c1
          clear hp1 hq1 x1h y1h
          go_wp2_with fail
          go_quiet_grown (first | (go_at_call 38; refine Calls.grown_of (c1 _)))
          have S2 : Aside (SW enc w0 blk off dk (grow (wr.drewN nq) osq)) := S1.out.grown nq osq
          clear l1 m1 c1 S1
          generalize grow (wr.drewN nq) osq = w2 at S2 ⊢
          clear nq osq
          clear x1e y1e
          go_wp2_with fail
          cases hG : lt dk[first + root]! dk[first + (2 * root + 2)]! with
          | true =>
            obtain ⟨x2n, x2e, x2p, x2b, x2r, x2h⟩ := ixU (E := (first : Int) + (root : Int)) (N := first + root) (m := d.size) (by omega) (by omega) hsz
            obtain ⟨y2n, y2e, y2p, y2b, y2r, y2h⟩ := ixU (E := (first : Int) + (2 * (root : Int) + 1 + 1)) (N := first + (2 * root + 2)) (m := d.size) (by omega) (by omega) hsz
            obtain ⟨p2, q2, hp2, hq2, l2, m2⟩ := twoU S2.out R (by omega) x2h y2h (by omega) (by omega)
            have c2 := HC.out p2 q2
            rw [show lt p2 q2 = true by rw [hp2, hq2]; exact hG] at c2
            clear hp2 hq2 x2h y2h
            go_wp2_with fail
            go_quiet_grown (first | (go_at_call 38; refine Calls.grown_of (c2 _)))
            have S3 : Aside (SW enc w0 blk off dk (grow (w2.drewN nq) osq)) := S2.out.grown nq osq
            clear l2 m2 c2 S2
            generalize grow (w2.drewN nq) osq = w3 at S3 ⊢
            clear nq osq
            clear x2e y2e
            go_wp2_with fail
            obtain ⟨x3n, x3e, x3p, x3b, x3r, x3h⟩ := ixU (E := (first : Int) + (root : Int)) (N := first + root) (m := d.size) (by omega) (by omega) hsz
            obtain ⟨y3n, y3e, y3p, y3b, y3r, y3h⟩ := ixU (E := (first : Int) + (2 * (root : Int) + 1 + 1)) (N := first + (2 * root + 2)) (m := d.size) (by omega) (by omega) hsz
            obtain ⟨p3, q3, t3, c3a, c3b, c3c, f3a, f3b, s3⟩ := swpU S3.out R (by omega) x3h y3h (by omega) (by omega)
            have S4 : Aside _ := s3
            clear S3 s3 x3h y3h
            go_wp2_with fail
            go_big_region_o
            clear c3a c3b c3c f3a f3b
            generalize ((w3.setCell ⟨blk, off + x3n, none⟩ (enc q3)).setCell ⟨blk, off + y3n, none⟩ (enc p3)).drew = w4 at S4 ⊢
            clear x3e y3e
            go_wp2
            go_roundg (hi - (2 * root + 2))
            case measure => omega
            case rel => exact ⟨2 * root + 2, swp dk (first + root) (first + (2 * root + 2)), by first | rfl | go_num | (congr 1; omega), by omega, Nat.le_refl _, by rw [size_swp]; exact hds, S4, (show Hid _ from by rw [← HE.out, sd_right_go lt dk h1 hL hG]; exact rfl)⟩
          | false =>
            obtain ⟨x4n, x4e, x4p, x4b, x4r, x4h⟩ := ixU (E := (first : Int) + (root : Int)) (N := first + root) (m := d.size) (by omega) (by omega) hsz
            obtain ⟨y4n, y4e, y4p, y4b, y4r, y4h⟩ := ixU (E := (first : Int) + (2 * (root : Int) + 1 + 1)) (N := first + (2 * root + 2)) (m := d.size) (by omega) (by omega) hsz
            obtain ⟨p4, q4, hp4, hq4, l4, m4⟩ := twoU S2.out R (by omega) x4h y4h (by omega) (by omega)
            have c4 := HC.out p4 q4
            rw [show lt p4 q4 = false by rw [hp4, hq4]; exact hG] at c4
            clear hp4 hq4 x4h y4h
            go_wp2_with fail
            go_quiet_grown (first | (go_at_call 38; refine Calls.grown_of (c4 _)))
            have S3 : Aside (SW enc w0 blk off dk (grow (w2.drewN nq) osq)) := S2.out.grown nq osq
            clear l4 m4 c4 S2
            generalize grow (w2.drewN nq) osq = w3 at S3 ⊢
            clear nq osq
            clear x4e y4e
            go_wp2
            refine bodyPost_ret (results_none rfl _ _ _) rfl ?_
            refine ⟨rfl, ?_⟩
            rw [← HE.out, sd_right_stop lt dk h1 hL hG]
            exact S3.out
        | false =>
          obtain ⟨x5n, x5e, x5p, x5b, x5r, x5h⟩ := ixU (E := (first : Int) + (2 * (root : Int) + 1)) (N := first + (2 * root + 1)) (m := d.size) (by omega) (by omega) hsz
          obtain ⟨y5n, y5e, y5p, y5b, y5r, y5h⟩ := ixU (E := (first : Int) + (2 * (root : Int) + 1) + 1) (N := first + (2 * root + 2)) (m := d.size) (by omega) (by omega) hsz
          obtain ⟨p5, q5, hp5, hq5, l5, m5⟩ := twoU S1.out R (by omega) x5h y5h (by omega) (by omega)
          have c5 := HC.out p5 q5
          rw [show lt p5 q5 = false by rw [hp5, hq5]; exact hL] at c5
          clear hp5 hq5 x5h y5h
          go_wp2_with fail
          go_quiet_grown (first | (go_at_call 38; refine Calls.grown_of (c5 _)))
          have S2 : Aside (SW enc w0 blk off dk (grow (wr.drewN nq) osq)) := S1.out.grown nq osq
          clear l5 m5 c5 S1
          generalize grow (wr.drewN nq) osq = w2 at S2 ⊢
          clear nq osq
          clear x5e y5e
          go_wp2_with fail
          cases hG : lt dk[first + root]! dk[first + (2 * root + 1)]! with
          | true =>
            obtain ⟨x6n, x6e, x6p, x6b, x6r, x6h⟩ := ixU (E := (first : Int) + (root : Int)) (N := first + root) (m := d.size) (by omega) (by omega) hsz
            obtain ⟨y6n, y6e, y6p, y6b, y6r, y6h⟩ := ixU (E := (first : Int) + (2 * (root : Int) + 1)) (N := first + (2 * root + 1)) (m := d.size) (by omega) (by omega) hsz
            obtain ⟨p6, q6, hp6, hq6, l6, m6⟩ := twoU S2.out R (by omega) x6h y6h (by omega) (by omega)
            have c6 := HC.out p6 q6
            rw [show lt p6 q6 = true by rw [hp6, hq6]; exact hG] at c6
            clear hp6 hq6 x6h y6h
            go_wp2_with fail
            go_quiet_grown (first | (go_at_call 38; refine Calls.grown_of (c6 _)))
            have S3 : Aside (SW enc w0 blk off dk (grow (w2.drewN nq) osq)) := S2.out.grown nq osq
            clear l6 m6 c6 S2
            generalize grow (w2.drewN nq) osq = w3 at S3 ⊢
            clear nq osq
            clear x6e y6e
            go_wp2_with fail
            obtain ⟨x7n, x7e, x7p, x7b, x7r, x7h⟩ := ixU (E := (first : Int) + (root : Int)) (N := first + root) (m := d.size) (by omega) (by omega) hsz
            obtain ⟨y7n, y7e, y7p, y7b, y7r, y7h⟩ := ixU (E := (first : Int) + (2 * (root : Int) + 1)) (N := first + (2 * root + 1)) (m := d.size) (by omega) (by omega) hsz
            obtain ⟨p7, q7, t7, c7a, c7b, c7c, f7a, f7b, s7⟩ := swpU S3.out R (by omega) x7h y7h (by omega) (by omega)
            have S4 : Aside _ := s7
            clear S3 s7 x7h y7h
            go_wp2_with fail
            go_big_region_o
            clear c7a c7b c7c f7a f7b
            generalize ((w3.setCell ⟨blk, off + x7n, none⟩ (enc q7)).setCell ⟨blk, off + y7n, none⟩ (enc p7)).drew = w4 at S4 ⊢
            clear x7e y7e
            go_wp2
            go_roundg (hi - (2 * root + 1))
            case measure => omega
            case rel => exact ⟨2 * root + 1, swp dk (first + root) (first + (2 * root + 1)), by first | rfl | go_num | (congr 1; omega), by omega, Nat.le_refl _, by rw [size_swp]; exact hds, S4, (show Hid _ from by rw [← HE.out, sd_left_go lt dk (by omega) (fun _ => hL) hG]; exact rfl)⟩
          | false =>
            obtain ⟨x8n, x8e, x8p, x8b, x8r, x8h⟩ := ixU (E := (first : Int) + (root : Int)) (N := first + root) (m := d.size) (by omega) (by omega) hsz
            obtain ⟨y8n, y8e, y8p, y8b, y8r, y8h⟩ := ixU (E := (first : Int) + (2 * (root : Int) + 1)) (N := first + (2 * root + 1)) (m := d.size) (by omega) (by omega) hsz
            obtain ⟨p8, q8, hp8, hq8, l8, m8⟩ := twoU S2.out R (by omega) x8h y8h (by omega) (by omega)
            have c8 := HC.out p8 q8
            rw [show lt p8 q8 = false by rw [hp8, hq8]; exact hG] at c8
            clear hp8 hq8 x8h y8h
            go_wp2_with fail
            go_quiet_grown (first | (go_at_call 38; refine Calls.grown_of (c8 _)))
            have S3 : Aside (SW enc w0 blk off dk (grow (w2.drewN nq) osq)) := S2.out.grown nq osq
            clear l8 m8 c8 S2
            generalize grow (w2.drewN nq) osq = w3 at S3 ⊢
            clear nq osq
            clear x8e y8e
            go_wp2
            refine bodyPost_ret (results_none rfl _ _ _) rfl ?_
            refine ⟨rfl, ?_⟩
            rw [← HE.out, sd_left_stop lt dk (by omega) (fun _ => hL) hG]
            exact S3.out
      · have h1z : ¬ (2 * (root : Int) + 1 + 1 < (hi : Int)) := by omega
        have h1d : decide (2 * (root : Int) + 1 + 1 < (hi : Int)) = false := decide_eq_false h1z
        go_wp2_with fail
        go_big_region_o
        have S2 : Aside (SW enc w0 blk off dk wr.drew) := S1.out.drew
        clear S1
        generalize wr.drew = w2 at S2 ⊢
        go_wp2_with fail
        cases hG : lt dk[first + root]! dk[first + (2 * root + 1)]! with
        | true =>
          obtain ⟨x9n, x9e, x9p, x9b, x9r, x9h⟩ := ixU (E := (first : Int) + (root : Int)) (N := first + root) (m := d.size) (by omega) (by omega) hsz
          obtain ⟨y9n, y9e, y9p, y9b, y9r, y9h⟩ := ixU (E := (first : Int) + (2 * (root : Int) + 1)) (N := first + (2 * root + 1)) (m := d.size) (by omega) (by omega) hsz
          obtain ⟨p9, q9, hp9, hq9, l9, m9⟩ := twoU S2.out R (by omega) x9h y9h (by omega) (by omega)
          have c9 := HC.out p9 q9
          rw [show lt p9 q9 = true by rw [hp9, hq9]; exact hG] at c9
          clear hp9 hq9 x9h y9h
          go_wp2_with fail
          go_quiet_grown (first | (go_at_call 38; refine Calls.grown_of (c9 _)))
          have S3 : Aside (SW enc w0 blk off dk (grow (w2.drewN nq) osq)) := S2.out.grown nq osq
          clear l9 m9 c9 S2
          generalize grow (w2.drewN nq) osq = w3 at S3 ⊢
          clear nq osq
          clear x9e y9e
          go_wp2_with fail
          obtain ⟨x10n, x10e, x10p, x10b, x10r, x10h⟩ := ixU (E := (first : Int) + (root : Int)) (N := first + root) (m := d.size) (by omega) (by omega) hsz
          obtain ⟨y10n, y10e, y10p, y10b, y10r, y10h⟩ := ixU (E := (first : Int) + (2 * (root : Int) + 1)) (N := first + (2 * root + 1)) (m := d.size) (by omega) (by omega) hsz
          obtain ⟨p10, q10, t10, c10a, c10b, c10c, f10a, f10b, s10⟩ := swpU S3.out R (by omega) x10h y10h (by omega) (by omega)
          have S4 : Aside _ := s10
          clear S3 s10 x10h y10h
          go_wp2_with fail
          go_big_region_o
          clear c10a c10b c10c f10a f10b
          generalize ((w3.setCell ⟨blk, off + x10n, none⟩ (enc q10)).setCell ⟨blk, off + y10n, none⟩ (enc p10)).drew = w4 at S4 ⊢
          clear x10e y10e
          go_wp2
          go_roundg (hi - (2 * root + 1))
          case measure => omega
          case rel => exact ⟨2 * root + 1, swp dk (first + root) (first + (2 * root + 1)), by first | rfl | go_num | (congr 1; omega), by omega, Nat.le_refl _, by rw [size_swp]; exact hds, S4, (show Hid _ from by rw [← HE.out, sd_left_go lt dk (by omega) (fun q => absurd q h1) hG]; exact rfl)⟩
        | false =>
          obtain ⟨x11n, x11e, x11p, x11b, x11r, x11h⟩ := ixU (E := (first : Int) + (root : Int)) (N := first + root) (m := d.size) (by omega) (by omega) hsz
          obtain ⟨y11n, y11e, y11p, y11b, y11r, y11h⟩ := ixU (E := (first : Int) + (2 * (root : Int) + 1)) (N := first + (2 * root + 1)) (m := d.size) (by omega) (by omega) hsz
          obtain ⟨p11, q11, hp11, hq11, l11, m11⟩ := twoU S2.out R (by omega) x11h y11h (by omega) (by omega)
          have c11 := HC.out p11 q11
          rw [show lt p11 q11 = false by rw [hp11, hq11]; exact hG] at c11
          clear hp11 hq11 x11h y11h
          go_wp2_with fail
          go_quiet_grown (first | (go_at_call 38; refine Calls.grown_of (c11 _)))
          have S3 : Aside (SW enc w0 blk off dk (grow (w2.drewN nq) osq)) := S2.out.grown nq osq
          clear l11 m11 c11 S2
          generalize grow (w2.drewN nq) osq = w3 at S3 ⊢
          clear nq osq
          clear x11e y11e
          go_wp2
          refine bodyPost_ret (results_none rfl _ _ _) rfl ?_
          refine ⟨rfl, ?_⟩
          rw [← HE.out, sd_left_stop lt dk (by omega) (fun q => absurd q h1) hG]
          exact S3.out

set_option maxHeartbeats 16000000 in
set_option maxRecDepth 1000000 in
theorem heapU {blk off cap : Nat} {d0 d : Array α} {w0 w : World} (L : SoU P) (hless : LessU P enc lt) (R : Row1 enc w0 blk off d0) (hs : d0.size = d.size) (S : SW enc w0 blk off d w) {a b : Nat} (hab : a ≤ b) (hb : b ≤ d.size) (hsz : d.size < 4611686018427387904) :
    Calls P 33 #[.slice (some ⟨blk, off, none⟩) d.size cap, .int .i64 a, .int .i64 b] w fun e w' => e = .returned (.tuple #[]) ∧ SW enc w0 blk off (heapSort lt d a b) w' := by
  have mixed := L.mixed; have u0 := L.u0; have a0 := L.a0; have z0 := L.z0; have v0 := L.v0; have u3 := L.u3; have a3 := L.a3; have z3 := L.z3; have v3 := L.v3; have u4 := L.u4; have a4 := L.a4; have z4 := L.z4; have v4 := L.v4; have u2 := L.u2; have a2 := L.a2; have z2 := L.z2; have v2 := L.v2; have u7 := L.u7; have a7 := L.a7; have z7 := L.z7; have v7 := L.v7; have u8 := L.u8; have a8 := L.a8; have z8 := L.z8; have v8 := L.v8; have u9 := L.u9; have a9 := L.a9; have z9 := L.z9; have v9 := L.v9; have u10 := L.u10; have a10 := L.a10; have z10 := L.z10; have v10 := L.v10; have u11 := L.u11; have a11 := L.a11; have z11 := L.z11; have v11 := L.v11; have eless := L.eless; have esift := L.esift; have eord := L.eord; have emed := L.emed; have emad := L.emad; have eins := L.eins; have eheap := L.eheap; have erev := L.erev; have epiv := L.epiv; have ebrk := L.ebrk; have epar := L.epar; have epeq := L.epeq; have eprt := L.eprt; have epdq := L.epdq; have enp2 := L.enp2; have exn := L.exn; have elen := L.elen; have a6 := L.a6; have z6 := L.z6
  have hcl0 := R.hO.cells
  simp only [Value.cells] at hcl0
  have hst := R.hO.store P
  have FG := L.fheap
  have HC : Aside _ := hless
  have S0 : Aside _ := S
  clear S hless
  have ecast : ((b - a : Nat) : Int) = (b : Int) - (a : Int) := by omega
  go_enter FG, Try.ntmps33
  go_wp2
  go_loopg [9] ((b - a - 1) / 2 + 1) (fun kx s9 wr => s9 = .int .i64 ((kx : Int) - 1) ∧ kx ≤ (b - a - 1) / 2 + 1 ∧ ∃ (dk : Array α), dk.size = d.size ∧ Aside (SW enc w0 blk off dk wr) ∧
    Hid (heapBuild lt (b - a) a kx dk = heapBuild lt (b - a) a ((b - a - 1) / 2 + 1) d))
  case atStart => exact ⟨by rw [half_start hab], Nat.le_refl _, d, rfl, S0, rfl⟩
  case round =>
    clear S0
    obtain ⟨rfl, hkk, dk, hds, S1, HE⟩ := hrel
    cases gk with
    | zero =>
      have hB : dk = heapBuild lt (b - a) a ((b - a - 1) / 2 + 1) d := HE.out
      clear HE hkk
      go_wp2
      go_loopg [10] (b - a) (fun kx s10 wr2 => s10 = .int .i64 ((kx : Int) - 1) ∧ kx ≤ b - a ∧ ∃ (dj : Array α), dj.size = d.size ∧ Aside (SW enc w0 blk off dj wr2) ∧ Hid (heapPop lt a kx dj = heapPop lt a (b - a) dk))
      case atStart => exact ⟨by rw [ecast], Nat.le_refl _, dk, hds, S1, rfl⟩
      case round =>
        clear S1
        obtain ⟨rfl, hkk, dj, hdj, S1, HE2⟩ := hrel
        cases gk with
        | zero =>
          go_wp2
          go_end0
          have e : dj = heapSort lt d a b := by rw [heapSort, ← hB, ← HE2.out]; rfl
          rw [← e]
          exact ⟨rfl, S1.out⟩
        | succ kx =>
          have ekx : ((kx + 1 : Nat) : Int) - 1 = (kx : Int) := by omega
          go_wp2_with fail
          obtain ⟨x1n, x1e, x1p, x1b, x1r, x1h⟩ := ixU (E := (a : Int)) (N := a) (m := d.size) (by omega) (by omega) hsz
          obtain ⟨y1n, y1e, y1p, y1b, y1r, y1h⟩ := ixU (E := (a : Int) + (kx : Int)) (N := a + kx) (m := d.size) (by omega) (by omega) hsz
          obtain ⟨p1, q1, t1, c1a, c1b, c1c, f1a, f1b, s1⟩ := swpU S1.out R (by omega) x1h y1h (by omega) (by omega)
          have S2 : Aside _ := s1
          clear S1 s1 x1h y1h
          go_wp2_with fail
          go_big_region_o
          clear c1a c1b c1c f1a f1b
          generalize ((wr.setCell ⟨blk, off + x1n, none⟩ (enc q1)).setCell ⟨blk, off + y1n, none⟩ (enc p1)).drew = w2 at S2 ⊢
          clear x1e y1e
          have hd2 : (swp dj a (a + kx)).size = d.size := by rw [size_swp]; exact hdj
          have hcall := siftU (cap := cap) (lo := 0) (hi := kx) (first := a) L HC.out R (by omega) S2.out (Nat.zero_le _) (by omega) (by omega)
          rw [hd2] at hcall
          clear S2
          go_wp2_with (go_at_call 43; refine hcall.mono ?_; rintro e w1 ⟨rfl, S3⟩)
          go_roundg kx
          case measure => omega
          case rel =>
            have hss : (siftDown lt kx a 0 (swp dj a (a + kx))).size = (swp dj a (a + kx)).size := size_siftDown lt _ _ _ _ _ (Nat.le_refl _)
            exact ⟨by simp, by omega, siftDown lt kx a 0 (swp dj a (a + kx)), by rw [hss, hd2], S3, HE2⟩
    | succ kx =>
      have hcall := siftU (cap := cap) (lo := kx) (hi := b - a) (first := a) L HC.out R (by omega) S1.out (by omega) (by omega) (by omega)
      rw [ecast, hds] at hcall
      clear S1
      go_wp2_with (go_at_call 43; refine hcall.mono ?_; rintro e w1 ⟨rfl, S3⟩)
      go_roundg kx
      case measure => omega
      case rel =>
        have hss : (siftDown lt (b - a) a kx dk).size = dk.size := size_siftDown lt _ _ _ _ _ (Nat.le_refl _)
        exact ⟨by simp, by omega, siftDown lt (b - a) a kx dk, by rw [hss, hds], S3, HE⟩
end
end Go.Proofs.Ytmcfknnfaokmlaa
