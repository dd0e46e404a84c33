/- slices.Sort at uint64: the median (written by wip/gen12so.py). -/
import Derived.Test.YtmcfknnfaokmlaaQa
import Derived.Shelf.GgSortFunc.LotD
namespace Go.Proofs.Ytmcfknnfaokmlaa
set_option maxRecDepth 100000
section
open Go.Shelf Go.RowKit Go.Lib Go.Sort

variable {P : Program} {α : Type} [Inhabited α] {enc : α → Value} {lt : α → α → Bool}

set_option maxHeartbeats 16000000 in
set_option maxRecDepth 1000000 in
theorem ordU {blk off cap : Nat} {d0 d : Array α} {w0 w : World} (L : SoU P) (hless : LessU P enc lt) (R : Row1 enc w0 blk off d0) (hs : d0.size = d.size) {a b c s : Nat} (C : Cnt1 enc w0 blk off d c s w) (ha : a < d.size) (hb : b < d.size) (hss : s < 4611686018427387904) (hsz : d.size < 4611686018427387904) :
    Calls P 49 #[.slice (some ⟨blk, off, none⟩) d.size cap, .int .i64 a, .int .i64 b, .pointer (some ⟨c, 0, none⟩)] w fun e w' => e = .returned (.tuple #[.int .i64 (order2 lt d a b s).1, .int .i64 (order2 lt d a b s).2.1]) ∧ Cnt1 enc w0 blk off d c (order2 lt d a b s).2.2 w' := by
  have mixed := L.mixed; have u0 := L.u0; have a0 := L.a0; have z0 := L.z0; have v0 := L.v0; have u3 := L.u3; have a3 := L.a3; have z3 := L.z3; have v3 := L.v3; have u4 := L.u4; have a4 := L.a4; have z4 := L.z4; have v4 := L.v4; have u2 := L.u2; have a2 := L.a2; have z2 := L.z2; have v2 := L.v2; have u7 := L.u7; have a7 := L.a7; have z7 := L.z7; have v7 := L.v7; have u8 := L.u8; have a8 := L.a8; have z8 := L.z8; have v8 := L.v8; have u9 := L.u9; have a9 := L.a9; have z9 := L.z9; have v9 := L.v9; have u10 := L.u10; have a10 := L.a10; have z10 := L.z10; have v10 := L.v10; have u11 := L.u11; have a11 := L.a11; have z11 := L.z11; have v11 := L.v11; have eless := L.eless; have esift := L.esift; have eord := L.eord; have emed := L.emed; have emad := L.emad; have eins := L.eins; have eheap := L.eheap; have erev := L.erev; have epiv := L.epiv; have ebrk := L.ebrk; have epar := L.epar; have epeq := L.epeq; have eprt := L.eprt; have epdq := L.epdq; have enp2 := L.enp2; have exn := L.exn; have elen := L.elen; have a6 := L.a6; have z6 := L.z6
  have hcl0 := R.hO.cells
  simp only [Value.cells] at hcl0
  have hst := R.hO.store P
  have FG := L.ford
  have HC : Aside _ := hless
  have C1 : Aside (Cnt1 enc w0 blk off d c s w) := C
  have S1 : Aside (SW enc w0 blk off d w) := C.1
  clear hless C
  go_enter FG, Try.ntmps49
  cases hlv : lt d[b]! d[a]! with
  | true =>
    have e2 : order2 lt d a b s = (b, a, s + 1) := by simp [order2, hlv]
    obtain ⟨xn, xe, xp, xb, xr, xh⟩ := ixU (E := (b : Int)) (N := b) (m := d.size) (by omega) (by omega) hsz
    obtain ⟨yn, ye, yp, yb, yr, yh⟩ := ixU (E := (a : Int)) (N := a) (m := d.size) (by omega) (by omega) hsz
    obtain ⟨p1, q1, hp1, hq1, l1, m1⟩ := twoU S1.out R (by omega) xh yh (by omega) (by omega)
    have c1 := HC.out p1 q1
    rw [show lt p1 q1 = true by rw [hp1, hq1]; exact hlv] at c1
    clear hp1 hq1 xh yh
    go_wp2_with fail
    go_quiet_grown (first | (go_at_call 38; refine Calls.grown_of (c1 _)))
    have C2 : Aside (Cnt1 enc w0 blk off d c s (grow (w.drewN nq) osq)) := C1.out.grown nq osq
    clear l1 m1 c1 S1 C1
    generalize grow (w.drewN nq) osq = w2 at C2 ⊢
    clear nq osq
    clear xe ye
    obtain ⟨_, cc, cfz, _, _⟩ := C2.out
    go_wp2
    go_ret2
    rw [e2]
    exact ⟨rfl, by have := C2.out.bump (s + 1); simpa using this⟩
  | false =>
    have e2 : order2 lt d a b s = (a, b, s) := by simp [order2, hlv]
    obtain ⟨xn, xe, xp, xb, xr, xh⟩ := ixU (E := (b : Int)) (N := b) (m := d.size) (by omega) (by omega) hsz
    obtain ⟨yn, ye, yp, yb, yr, yh⟩ := ixU (E := (a : Int)) (N := a) (m := d.size) (by omega) (by omega) hsz
    obtain ⟨p1, q1, hp1, hq1, l1, m1⟩ := twoU S1.out R (by omega) xh yh (by omega) (by omega)
    have c1 := HC.out p1 q1
    rw [show lt p1 q1 = false by rw [hp1, hq1]; exact hlv] at c1
    clear hp1 hq1 xh yh
    go_wp2_with fail
    go_quiet_grown (first | (go_at_call 38; refine Calls.grown_of (c1 _)))
    have C2 : Aside (Cnt1 enc w0 blk off d c s (grow (w.drewN nq) osq)) := C1.out.grown nq osq
    clear l1 m1 c1 S1 C1
    generalize grow (w.drewN nq) osq = w2 at C2 ⊢
    clear nq osq
    clear xe ye
    obtain ⟨_, cc, cfz, _, _⟩ := C2.out
    go_wp2
    go_ret2
    rw [e2]
    exact ⟨rfl, C2.out⟩
set_option maxHeartbeats 16000000 in
set_option maxRecDepth 1000000 in
theorem medU {blk off cap : Nat} {d0 d : Array α} {w0 w : World} (L : SoU P) (hless : LessU P enc lt) (R : Row1 enc w0 blk off d0) (hs : d0.size = d.size) {a b c' c s : Nat} (C : Cnt1 enc w0 blk off d c s w) (ha : a < d.size) (hb : b < d.size) (hc : c' < d.size) (hss : s + 3 < 4611686018427387904) (hsz : d.size < 4611686018427387904) :
    Calls P 47 #[.slice (some ⟨blk, off, none⟩) d.size cap, .int .i64 a, .int .i64 b, .int .i64 c', .pointer (some ⟨c, 0, none⟩)] w fun e w' => e = .returned (.int .i64 (median lt d a b c' s).1) ∧ Cnt1 enc w0 blk off d c (median lt d a b c' s).2 w' := by
  have mixed := L.mixed; have u0 := L.u0; have a0 := L.a0; have z0 := L.z0; have v0 := L.v0; have u3 := L.u3; have a3 := L.a3; have z3 := L.z3; have v3 := L.v3; have u4 := L.u4; have a4 := L.a4; have z4 := L.z4; have v4 := L.v4; have u2 := L.u2; have a2 := L.a2; have z2 := L.z2; have v2 := L.v2; have u7 := L.u7; have a7 := L.a7; have z7 := L.z7; have v7 := L.v7; have u8 := L.u8; have a8 := L.a8; have z8 := L.z8; have v8 := L.v8; have u9 := L.u9; have a9 := L.a9; have z9 := L.z9; have v9 := L.v9; have u10 := L.u10; have a10 := L.a10; have z10 := L.z10; have v10 := L.v10; have u11 := L.u11; have a11 := L.a11; have z11 := L.z11; have v11 := L.v11; have eless := L.eless; have esift := L.esift; have eord := L.eord; have emed := L.emed; have emad := L.emad; have eins := L.eins; have eheap := L.eheap; have erev := L.erev; have epiv := L.epiv; have ebrk := L.ebrk; have epar := L.epar; have epeq := L.epeq; have eprt := L.eprt; have epdq := L.epdq; have enp2 := L.enp2; have exn := L.exn; have elen := L.elen; have a6 := L.a6; have z6 := L.z6
  have hcl0 := R.hO.cells
  simp only [Value.cells] at hcl0
  have hst := R.hO.store P
  have FG := L.fmed
  have l1 := order2_lt' lt d s ha hb
  have s1 := order2_swaps' lt d a b s
  have l2 := order2_lt' lt d (order2 lt d a b s).2.2 l1.2 hc
  have s2 := order2_swaps' lt d (order2 lt d a b s).2.1 c' (order2 lt d a b s).2.2
  have step := fun (W' : World) (t a' b' : Nat) (C' : Cnt1 enc w0 blk off d c t W') (ha' : a' < d.size) (hb' : b' < d.size) (ht : t < 4611686018427387904) => ordU (cap := cap) L hless R hs C' ha' hb' ht hsz
  clear hless
  go_enter FG, Try.ntmps47
  go_wp2_with (go_at_call 49; refine (step _ _ _ _ C ha hb (by omega)).mono ?_; rintro e w1 ⟨rfl, C1⟩)
  go_wp2_with (go_at_call 49; refine (step _ _ _ _ C1 l1.2 hc (by omega)).mono ?_; rintro e w2 ⟨rfl, C2⟩)
  go_wp2_with (go_at_call 49; refine (step _ _ _ _ C2 l1.1 l2.1 (by omega)).mono ?_; rintro e w3 ⟨rfl, C3⟩)
  go_ret
  exact ⟨rfl, C3⟩
set_option maxHeartbeats 16000000 in
set_option maxRecDepth 1000000 in
theorem madU {blk off cap : Nat} {d0 d : Array α} {w0 w : World} (L : SoU P) (hless : LessU P enc lt) (R : Row1 enc w0 blk off d0) (hs : d0.size = d.size) {a c s : Nat} (C : Cnt1 enc w0 blk off d c s w) (ha1 : 1 ≤ a) (ha2 : a + 1 < d.size) (hss : s + 3 < 4611686018427387904) (hsz : d.size < 4611686018427387904) :
    Calls P 46 #[.slice (some ⟨blk, off, none⟩) d.size cap, .int .i64 a, .pointer (some ⟨c, 0, none⟩)] w fun e w' => e = .returned (.int .i64 (medianAdjacent lt d a s).1) ∧ Cnt1 enc w0 blk off d c (medianAdjacent lt d a s).2 w' := by
  have mixed := L.mixed; have u0 := L.u0; have a0 := L.a0; have z0 := L.z0; have v0 := L.v0; have u3 := L.u3; have a3 := L.a3; have z3 := L.z3; have v3 := L.v3; have u4 := L.u4; have a4 := L.a4; have z4 := L.z4; have v4 := L.v4; have u2 := L.u2; have a2 := L.a2; have z2 := L.z2; have v2 := L.v2; have u7 := L.u7; have a7 := L.a7; have z7 := L.z7; have v7 := L.v7; have u8 := L.u8; have a8 := L.a8; have z8 := L.z8; have v8 := L.v8; have u9 := L.u9; have a9 := L.a9; have z9 := L.z9; have v9 := L.v9; have u10 := L.u10; have a10 := L.a10; have z10 := L.z10; have v10 := L.v10; have u11 := L.u11; have a11 := L.a11; have z11 := L.z11; have v11 := L.v11; have eless := L.eless; have esift := L.esift; have eord := L.eord; have emed := L.emed; have emad := L.emad; have eins := L.eins; have eheap := L.eheap; have erev := L.erev; have epiv := L.epiv; have ebrk := L.ebrk; have epar := L.epar; have epeq := L.epeq; have eprt := L.eprt; have epdq := L.epdq; have enp2 := L.enp2; have exn := L.exn; have elen := L.elen; have a6 := L.a6; have z6 := L.z6
  have hcl0 := R.hO.cells
  simp only [Value.cells] at hcl0
  have hst := R.hO.store P
  have FG := L.fmad
  have hm := medU (cap := cap) (a := a - 1) (b := a) (c' := a + 1) L hless R hs C (by omega) (by omega) ha2 hss hsz
  rw [show ((a - 1 : Nat) : Int) = (a : Int) - 1 by omega, show ((a + 1 : Nat) : Int) = (a : Int) + 1 by omega] at hm
  clear hless
  go_enter FG, Try.ntmps46
  go_wp2_with (go_at_call 47; refine hm.mono ?_; rintro e w1 ⟨rfl, C1⟩)
  go_ret
  exact ⟨rfl, C1⟩
end
end Go.Proofs.Ytmcfknnfaokmlaa
