/- slices.Sort at uint64: patterns broken (written by wip/gen12so.py). -/
import Derived.Test.YtmcfknnfaokmlaaQa
import Derived.Sort.Walk7
import Derived.Shelf.SlSortCmp.Xorshift
namespace Go.Proofs.Ytmcfknnfaokmlaa
set_option maxRecDepth 100000
section
open Go.Shelf Go.RowKit Go.Lib Go.Sort

variable {P : Program} {α : Type} [Inhabited α] {enc : α → Value} {lt : α → α → Bool}

def NpU (P : Program) : Prop := ∀ n : Nat, n < 4611686018427387904 → ∀ w, Calls P 44 #[.int .i64 n] w fun e w' => e = .returned (.int .u64 ((1 <<< bitsLen n : Nat) : Int)) ∧ w' = w
def XnU (P : Program) : Prop := ∀ (rb ro X : Nat), X < 18446744073709551616 → ∀ w : World, w.cell? ⟨rb, ro, none⟩ = some (.int .u64 X) → w.frozen? ⟨rb, ro, none⟩ = false → Calls P 45 #[.pointer (some ⟨rb, ro, none⟩)] w fun e w' => e = .returned (.int .u64 (xorNextN X : Nat)) ∧ w' = (w.setCell ⟨rb, ro, none⟩ (.int .u64 (xorNextN X : Nat))).drewN 3
set_option maxHeartbeats 16000000 in
set_option maxRecDepth 1000000 in
theorem brkGoU {blk off cap : Nat} {d0 d : Array α} {w0 w : World} (L' : SoU P) (hnp : NpU P) (hxn : XnU P) (R : Row1 enc w0 blk off d0) (hs : d0.size = d.size) (S : SW enc w0 blk off d w) {a L : Nat} (hb : a + L ≤ d.size) (h8 : 8 ≤ L) (hsz : d.size < 4611686018427387904) :
    Calls P 34 #[.slice (some ⟨blk, off, none⟩) d.size cap, .int .i64 a, .int .i64 ((a + L : Nat) : Int)] w fun e w' => e = .returned (.tuple #[]) ∧ SW enc w0 blk off (breakPatterns d a (a + L)) w' := by
  have mixed := L'.mixed; have u0 := L'.u0; have a0 := L'.a0; have z0 := L'.z0; have v0 := L'.v0; have u3 := L'.u3; have a3 := L'.a3; have z3 := L'.z3; have v3 := L'.v3; have u4 := L'.u4; have a4 := L'.a4; have z4 := L'.z4; have v4 := L'.v4; have u2 := L'.u2; have a2 := L'.a2; have z2 := L'.z2; have v2 := L'.v2; have u7 := L'.u7; have a7 := L'.a7; have z7 := L'.z7; have v7 := L'.v7; have u8 := L'.u8; have a8 := L'.a8; have z8 := L'.z8; have v8 := L'.v8; have u9 := L'.u9; have a9 := L'.a9; have z9 := L'.z9; have v9 := L'.v9; have u10 := L'.u10; have a10 := L'.a10; have z10 := L'.z10; have v10 := L'.v10; have u11 := L'.u11; have a11 := L'.a11; have z11 := L'.z11; have v11 := L'.v11; have eless := L'.eless; have esift := L'.esift; have eord := L'.eord; have emed := L'.emed; have emad := L'.emad; have eins := L'.eins; have eheap := L'.eheap; have erev := L'.erev; have epiv := L'.epiv; have ebrk := L'.ebrk; have epar := L'.epar; have epeq := L'.epeq; have eprt := L'.eprt; have epdq := L'.epdq; have enp2 := L'.enp2; have exn := L'.exn; have elen := L'.elen; have a6 := L'.a6; have z6 := L'.z6
  have hcl0 := R.hO.cells
  simp only [Value.cells] at hcl0
  have hst := R.hO.store P
  have FG := L'.fbrk
  rw [breakPatterns_eq d a L h8]
  obtain ⟨M, hM⟩ : ∃ M : Nat, M = 1 <<< bitsLen L := ⟨_, rfl⟩
  have hM1 : 1 ≤ M := by rw [hM, Nat.one_shiftLeft]; exact Nat.two_pow_pos _
  have hM2 : M ≤ 2 * L := by rw [hM, Nat.one_shiftLeft]; exact two_pow_bitsLen_le (by omega)
  have hNP := hnp L (by omega)
  rw [← hM] at hNP ⊢
  have XNN : Aside _ := hxn
  clear hM hnp hxn
  have hLz : ((a : Int) + (L : Int) - (a : Int)) = (L : Int) := by omega
  have h8z : (8 : Int) ≤ (L : Int) := by omega
  have hne : w.heap.size ≠ blk := by have := S.lt R.hblk; omega
  have hle0 : w0.heap.size ≤ w.heap.size := S.le
  have S0 : Aside (SW enc w0 blk off d w) := S
  clear S
  go_enter FG, Try.ntmps34
  go_wp2_with (first | (go_at_call 44; refine (hNP _).mono ?_; rintro e w' ⟨rfl, rfl⟩))
  go_loopg [9] 3 (fun g1 vi wr => ∃ (t : Nat) (r : UInt64) (dk : Array α), vi = .int .i64 ((a : Int) + (L : Int) / 4 * 2 - 1 + (t : Int)) ∧ t ≤ 3 ∧ 3 - t ≤ g1 ∧ dk.size = d.size ∧ Aside (SW enc w0 blk off dk wr) ∧
      wr.cell? ⟨w.heap.size, 0, none⟩ = some (.int .u64 (r.toNat : Int)) ∧ wr.frozen? ⟨w.heap.size, 0, none⟩ = false ∧
      Hid (bpRest a L M (a + L / 4 * 2 - 1) (3 - t) t (r, dk) = bpRest a L M (a + L / 4 * 2 - 1) 3 0 (UInt64.ofNat L, d)))
  case atStart =>
    refine ⟨0, UInt64.ofNat L, d, by simp, by omega, by omega, rfl, S0.out.alloc _, ?_, by simp, rfl⟩
    rw [show (UInt64.ofNat L).toNat = L from by simp; omega]
    simp
  case round =>
    clear S0
    obtain ⟨t, r, dk, rfl, ht, hg1, hds, S1, cR, fR, HR⟩ := hrel
    by_cases ht3 : t < 3
    · have hle : (a : Int) + (L : Int) / 4 * 2 - 1 + (t : Int) ≤ (a : Int) + (L : Int) / 4 * 2 + 1 := by omega
      obtain ⟨R0, hRr⟩ : ∃ R0 : Nat, R0 = r.toNat := ⟨_, rfl⟩
      have lR : R0 < 18446744073709551616 := by rw [hRr]; exact r.toNat_lt
      obtain ⟨R', hR'⟩ : ∃ R' : Nat, R' = xorNextN R0 := ⟨_, rfl⟩
      have lR' : R' < 18446744073709551616 := by rw [hR']; exact xorNextN_lt R0 lR
      obtain ⟨O, hO⟩ : ∃ O : Nat, O = R' &&& (M - 1) := ⟨_, rfl⟩
      have lO : O ≤ M - 1 := by rw [hO]; exact Nat.and_le_right
      have eAnd : bits .and .u64 (R' : Int) ((M : Int) - 1) = (O : Int) := by
        rw [show ((M : Int) - 1) = ((M - 1 : Nat) : Int) by omega, bits_and_u64_nat _ _ lR' (by omega), hO]
      rw [← hRr] at cR
      have hNext := XNN.out w.heap.size 0 R0 lR wr cR fR
      rw [← hR'] at hNext
      have HN : Hid (R' = (xorNext r).toNat ∧ O = (xorNext r).toNat &&& (M - 1)) := by
        have e : R' = (xorNext r).toNat := by rw [hR', hRr, xorNext_toNat]
        exact ⟨e, by rw [hO, e]⟩
      clear hRr hR' hO
      have S2 : Aside (SW enc w0 blk off dk ((wr.setCell ⟨w.heap.size, 0, none⟩ (.int .u64 (R' : Int))).drewN 3)) := (S1.out.setCell_new w.heap.size 0 (.int .u64 (R' : Int)) hle0).drewN 3
      have cR' : ((wr.setCell ⟨w.heap.size, 0, none⟩ (.int .u64 (R' : Int))).drewN 3).cell? ⟨w.heap.size, 0, none⟩ = some (.int .u64 (R' : Int)) := by
        rw [World.cell?_drewN]; exact World.cell?_setCell_same _ _ _ cR
      have fR' : ((wr.setCell ⟨w.heap.size, 0, none⟩ (.int .u64 (R' : Int))).drewN 3).frozen? ⟨w.heap.size, 0, none⟩ = false := by
        rw [World.frozen?_drewN]; simpa using fR
      generalize (wr.setCell ⟨w.heap.size, 0, none⟩ (.int .u64 (R' : Int))).drewN 3 = w2 at hNext S2 cR' fR'
      clear cR fR S1
      by_cases hLO : L ≤ O
      · have hLOz : (L : Int) ≤ (O : Int) := by omega
        go_wp2_with (go_at_call 45; refine hNext.mono ?_; rintro e w' ⟨rfl, hw'⟩; obtain rfl : w2 = w' := hw'.symm)
        obtain ⟨x1n, x1e, x1p, x1b, x1r, x1h⟩ := ixU (E := (a : Int) + (L : Int) / 4 * 2 - 1 + (t : Int)) (N := a + L / 4 * 2 - 1 + t) (m := d.size) (by omega) (by omega) hsz
        obtain ⟨y1n, y1e, y1p, y1b, y1r, y1h⟩ := ixU (E := (a : Int) + ((O : Int) - (L : Int))) (N := a + (O - L)) (m := d.size) (by omega) (by omega) hsz
        obtain ⟨p1, q1, t1, c1a, c1b, c1c, f1a, f1b, s1⟩ := swpU S2.out R (by omega) x1h y1h (by omega) (by omega)
        have S3 : Aside _ := s1
        clear S2 s1 x1h y1h
        go_wp2_with fail
        go_big_region_o
        clear c1a c1b c1c f1a f1b
        have k1 := box_kept_swap1 hne cR' fR' (off + x1n) (off + y1n) (enc q1) (enc p1)
        generalize ((w2.setCell ⟨blk, off + x1n, none⟩ (enc q1)).setCell ⟨blk, off + y1n, none⟩ (enc p1)).drew = w3 at S3 k1 ⊢
        clear x1e y1e
        clear cR' fR'
        go_wp2
        go_roundg (3 - (t + 1))
        case measure => omega
        case rel => exact ⟨t + 1, xorNext r, swp dk (a + L / 4 * 2 - 1 + t) (a + (O - L)), by congr 1; push_cast; omega, by omega, Nat.le_refl _, by rw [size_swp]; exact hds, S3, by rw [← HN.out.1]; exact k1.1, k1.2,
          (show Hid _ from by rw [← HR.out, bp_step a L M _ t r dk (O - L) ht3 (by rw [← HN.out.2, if_pos (by omega)])]; exact rfl)⟩
      · have hLOz : ¬ (L : Int) ≤ (O : Int) := by omega
        go_wp2_with (go_at_call 45; refine hNext.mono ?_; rintro e w' ⟨rfl, hw'⟩; obtain rfl : w2 = w' := hw'.symm)
        obtain ⟨x2n, x2e, x2p, x2b, x2r, x2h⟩ := ixU (E := (a : Int) + (L : Int) / 4 * 2 - 1 + (t : Int)) (N := a + L / 4 * 2 - 1 + t) (m := d.size) (by omega) (by omega) hsz
        obtain ⟨y2n, y2e, y2p, y2b, y2r, y2h⟩ := ixU (E := (a : Int) + (O : Int)) (N := a + O) (m := d.size) (by omega) (by omega) hsz
        obtain ⟨p2, q2, t2, c2a, c2b, c2c, f2a, f2b, s2⟩ := swpU S2.out R (by omega) x2h y2h (by omega) (by omega)
        have S3 : Aside _ := s2
        clear S2 s2 x2h y2h
        go_wp2_with fail
        go_big_region_o
        clear c2a c2b c2c f2a f2b
        have k2 := box_kept_swap1 hne cR' fR' (off + x2n) (off + y2n) (enc q2) (enc p2)
        generalize ((w2.setCell ⟨blk, off + x2n, none⟩ (enc q2)).setCell ⟨blk, off + y2n, none⟩ (enc p2)).drew = w3 at S3 k2 ⊢
        clear x2e y2e
        clear cR' fR'
        go_wp2
        go_roundg (3 - (t + 1))
        case measure => omega
        case rel => exact ⟨t + 1, xorNext r, swp dk (a + L / 4 * 2 - 1 + t) (a + O), by congr 1; push_cast; omega, by omega, Nat.le_refl _, by rw [size_swp]; exact hds, S3, by rw [← HN.out.1]; exact k2.1, k2.2,
          (show Hid _ from by rw [← HR.out, bp_step a L M _ t r dk (O) ht3 (by rw [← HN.out.2, if_neg (by omega)])]; exact rfl)⟩
    · obtain rfl : t = 3 := by omega
      have hle : ¬ ((a : Int) + (L : Int) / 4 * 2 - 1 + ((3 : Nat) : Int) ≤ (a : Int) + (L : Int) / 4 * 2 + 1) := by omega
      go_wp2
      go_end0
      refine ⟨rfl, ?_⟩
      rw [← HR.out]
      exact S1.out
set_option maxHeartbeats 16000000 in
set_option maxRecDepth 1000000 in
theorem brkU {blk off cap : Nat} {d0 d : Array α} {w0 w : World} (L' : SoU P) (hnp : NpU P) (hxn : XnU P) (R : Row1 enc w0 blk off d0) (hs : d0.size = d.size) (S : SW enc w0 blk off d w) {a b : Nat} (hab : a ≤ b) (hb : b ≤ d.size) (hsz : d.size < 4611686018427387904) :
    Calls P 34 #[.slice (some ⟨blk, off, none⟩) d.size cap, .int .i64 a, .int .i64 b] w fun e w' => e = .returned (.tuple #[]) ∧ SW enc w0 blk off (breakPatterns d a b) w' := by
  obtain ⟨L, rfl⟩ : ∃ L, b = a + L := ⟨b - a, by omega⟩
  by_cases h8 : 8 ≤ L
  · exact brkGoU L' hnp hxn R hs S hb h8 hsz
  · have hv : breakPatterns d a (a + L) = d := by unfold breakPatterns; simp only [Nat.add_sub_cancel_left]; rw [if_neg h8]
    rw [hv]
    have mixed := L'.mixed; have u0 := L'.u0; have a0 := L'.a0; have z0 := L'.z0; have v0 := L'.v0; have u3 := L'.u3; have a3 := L'.a3; have z3 := L'.z3; have v3 := L'.v3; have u4 := L'.u4; have a4 := L'.a4; have z4 := L'.z4; have v4 := L'.v4; have u2 := L'.u2; have a2 := L'.a2; have z2 := L'.z2; have v2 := L'.v2; have u7 := L'.u7; have a7 := L'.a7; have z7 := L'.z7; have v7 := L'.v7; have u8 := L'.u8; have a8 := L'.a8; have z8 := L'.z8; have v8 := L'.v8; have u9 := L'.u9; have a9 := L'.a9; have z9 := L'.z9; have v9 := L'.v9; have u10 := L'.u10; have a10 := L'.a10; have z10 := L'.z10; have v10 := L'.v10; have u11 := L'.u11; have a11 := L'.a11; have z11 := L'.z11; have v11 := L'.v11; have eless := L'.eless; have esift := L'.esift; have eord := L'.eord; have emed := L'.emed; have emad := L'.emad; have eins := L'.eins; have eheap := L'.eheap; have erev := L'.erev; have epiv := L'.epiv; have ebrk := L'.ebrk; have epar := L'.epar; have epeq := L'.epeq; have eprt := L'.eprt; have epdq := L'.epdq; have enp2 := L'.enp2; have exn := L'.exn; have elen := L'.elen; have a6 := L'.a6; have z6 := L'.z6
    have hcl0 := R.hO.cells
    simp only [Value.cells] at hcl0
    have hst := R.hO.store P
    have FG := L'.fbrk
    have hLz : ((a : Int) + (L : Int) - (a : Int)) = (L : Int) := by omega
    have h8z : ¬ (8 : Int) ≤ (L : Int) := by omega
    have S0 : Aside (SW enc w0 blk off d w) := S
    clear S
    go_enter FG, Try.ntmps34
    go_wp2
    go_end0
    exact ⟨rfl, S0.out⟩
end
end Go.Proofs.Ytmcfknnfaokmlaa
