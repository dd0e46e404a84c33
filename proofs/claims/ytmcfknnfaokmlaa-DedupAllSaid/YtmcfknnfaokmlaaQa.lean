/- slices.Sort at uint64: the kit, the insertion sort, a range turned round (written by wip/gen12so.py). -/
import Derived.Test.YtmcfknnfaokmlaaProg
import Derived.Shelf.SlSortCmp.Kit1
import Derived.Shelf.SlSortCmp.QuietGrown
import Derived.Sort.WalkA
import Derived.Sort.WalkB2
import Derived.Sort.WalkB12
import Derived.Sort.WalkB3
import Derived.Deep.LoopGhost
import Derived.BigRegion
import Derived.WalkKit
import Derived.Lib.Hide
import Derived.Deep.DeepCutAuto
namespace Go.Proofs.Ytmcfknnfaokmlaa
set_option maxRecDepth 100000
section
open Go.Shelf Go.RowKit Go.Lib Go.Sort

/-- What the walks ask of the program: these bodies, the types that they name. -/
structure SoU (P : Program) : Prop where
  mixed : P.follows .mixedOrders = true
  fless : P.funcs[38]? = some Try.f38
  eless : ∀ args w, (callFunc 38 args).run P w = .ok (.enter 38 args) w
  fnan : P.funcs[48]? = some Try.f48
  enan : ∀ args w, (callFunc 48 args).run P w = .ok (.enter 48 args) w
  fins : P.funcs[32]? = some Try.f32
  eins : ∀ args w, (callFunc 32 args).run P w = .ok (.enter 32 args) w
  fheap : P.funcs[33]? = some Try.f33
  eheap : ∀ args w, (callFunc 33 args).run P w = .ok (.enter 33 args) w
  fsift : P.funcs[43]? = some Try.f43
  esift : ∀ args w, (callFunc 43 args).run P w = .ok (.enter 43 args) w
  frev : P.funcs[36]? = some Try.f36
  erev : ∀ args w, (callFunc 36 args).run P w = .ok (.enter 36 args) w
  fpiv : P.funcs[35]? = some Try.f35
  epiv : ∀ args w, (callFunc 35 args).run P w = .ok (.enter 35 args) w
  fbrk : P.funcs[34]? = some Try.f34
  ebrk : ∀ args w, (callFunc 34 args).run P w = .ok (.enter 34 args) w
  fpar : P.funcs[37]? = some Try.f37
  epar : ∀ args w, (callFunc 37 args).run P w = .ok (.enter 37 args) w
  fpeq : P.funcs[39]? = some Try.f39
  epeq : ∀ args w, (callFunc 39 args).run P w = .ok (.enter 39 args) w
  fprt : P.funcs[40]? = some Try.f40
  eprt : ∀ args w, (callFunc 40 args).run P w = .ok (.enter 40 args) w
  fpdq : P.funcs[30]? = some Try.f30
  epdq : ∀ args w, (callFunc 30 args).run P w = .ok (.enter 30 args) w
  fmed : P.funcs[47]? = some Try.f47
  emed : ∀ args w, (callFunc 47 args).run P w = .ok (.enter 47 args) w
  fmad : P.funcs[46]? = some Try.f46
  emad : ∀ args w, (callFunc 46 args).run P w = .ok (.enter 46 args) w
  ford : P.funcs[49]? = some Try.f49
  eord : ∀ args w, (callFunc 49 args).run P w = .ok (.enter 49 args) w
  fnp2 : P.funcs[44]? = some Try.f44
  enp2 : ∀ args w, (callFunc 44 args).run P w = .ok (.enter 44 args) w
  fxn : P.funcs[45]? = some Try.f45
  exn : ∀ args w, (callFunc 45 args).run P w = .ok (.enter 45 args) w
  flen : P.funcs[31]? = some Try.f31
  elen : ∀ args w, (callFunc 31 args).run P w = .ok (.enter 31 args) w
  u0 : P.underlying 0 = some (.tuple #[])
  a0 : ∀ w, (isAgg 0).run P w = .ok false w
  z0 : ∀ w, (Go.sizeOf 0).run P w = .ok 1 w
  v0 : ∀ w, (zeroValue 0).run P w = .ok (.tuple #[]) w
  u3 : P.underlying 3 = some (.int .i64)
  a3 : ∀ w, (isAgg 3).run P w = .ok false w
  z3 : ∀ w, (Go.sizeOf 3).run P w = .ok 1 w
  v3 : ∀ w, (zeroValue 3).run P w = .ok (.int .i64 0) w
  u4 : P.underlying 4 = some .bool
  a4 : ∀ w, (isAgg 4).run P w = .ok false w
  z4 : ∀ w, (Go.sizeOf 4).run P w = .ok 1 w
  v4 : ∀ w, (zeroValue 4).run P w = .ok (.bool false) w
  u2 : P.underlying 55 = some (.slice 24)
  a2 : ∀ w, (isAgg 55).run P w = .ok false w
  z2 : ∀ w, (Go.sizeOf 55).run P w = .ok 1 w
  v2 : ∀ w, (zeroValue 55).run P w = .ok (.slice none 0 0) w
  u6 : P.underlying 24 = some (.int .u64)
  a6 : ∀ w, (isAgg 24).run P w = .ok false w
  z6 : ∀ w, (Go.sizeOf 24).run P w = .ok 1 w
  v6 : ∀ w, (zeroValue 24).run P w = .ok (.int .u64 0) w
  u7 : P.underlying 83 = some (.pointer 3)
  a7 : ∀ w, (isAgg 83).run P w = .ok false w
  z7 : ∀ w, (Go.sizeOf 83).run P w = .ok 1 w
  v7 : ∀ w, (zeroValue 83).run P w = .ok (.pointer none) w
  u8 : P.underlying 66 = some (.int .u64)
  a8 : ∀ w, (isAgg 66).run P w = .ok false w
  z8 : ∀ w, (Go.sizeOf 66).run P w = .ok 1 w
  v8 : ∀ w, (zeroValue 66).run P w = .ok (.int .u64 0) w
  u9 : P.underlying 79 = some (.int .u64)
  a9 : ∀ w, (isAgg 79).run P w = .ok false w
  z9 : ∀ w, (Go.sizeOf 79).run P w = .ok 1 w
  v9 : ∀ w, (zeroValue 79).run P w = .ok (.int .u64 0) w
  u10 : P.underlying 85 = some (.pointer 79)
  a10 : ∀ w, (isAgg 85).run P w = .ok false w
  z10 : ∀ w, (Go.sizeOf 85).run P w = .ok 1 w
  v10 : ∀ w, (zeroValue 85).run P w = .ok (.pointer none) w
  u11 : P.underlying 68 = some (.int .i64)
  a11 : ∀ w, (isAgg 68).run P w = .ok false w
  z11 : ∀ w, (Go.sizeOf 68).run P w = .ok 1 w
  v11 : ∀ w, (zeroValue 68).run P w = .ok (.int .i64 0) w

variable {P : Program} {α : Type} [Inhabited α] {enc : α → Value} {lt : α → α → Bool}

/-- What is asked of cmp.Less: it compares, and turns nothing. -/
def LessU (P : Program) (enc : α → Value) (lt : α → α → Bool) : Prop := ∀ (x y : α) (w : World), Calls P 38 #[enc x, enc y] w fun e w' => e = .returned (.bool (lt x y)) ∧ ∃ q os', w' = grow (w.drewN q) os'

theorem ixU {E : Int} {N m : Nat} (h : E = (N : Int)) (hm : N < m) (hz : m < 4611686018427387904) : ∃ n : Nat, E.toNat = n ∧ (0 : Int) ≤ E ∧ E < (m : Int) ∧ IntKind.i64.wrap E = E ∧ n = N := ⟨N, by omega, by omega, by omega, by rw [IntKind.wrap_i64]; omega, rfl⟩
section
variable {w0 W : World} {blk off : Nat} {d0 dk : Array α}
theorem twoU (h : SW enc w0 blk off dk W) (R : Row1 enc w0 blk off d0) (hs : dk.size = d0.size) {I J n m : Nat} (hn : n = I) (hm : m = J) (hI : I < dk.size) (hJ : J < dk.size) :
    ∃ u v : α, u = dk[I]! ∧ v = dk[J]! ∧ (∀ q os, (grow (W.drewN q) os).cell? ⟨blk, off + n, none⟩ = some (enc u)) ∧ ∀ q os, (grow (W.drewN q) os).cell? ⟨blk, off + m, none⟩ = some (enc v) := by
  subst hn; subst hm
  exact ⟨_, _, rfl, rfl, fun q os => h.cl R hs _ hI q os, fun q os => h.cl R hs _ hJ q os⟩
theorem swpU (h : SW enc w0 blk off dk W) (R : Row1 enc w0 blk off d0) (hs : dk.size = d0.size) {I J n m : Nat} (hn : n = I) (hm : m = J) (hI : I < dk.size) (hJ : J < dk.size) :
    ∃ (u v : α) (t : Value), W.cell? ⟨blk, off + n, none⟩ = some (enc u) ∧ W.cell? ⟨blk, off + m, none⟩ = some (enc v) ∧ (W.setCell ⟨blk, off + n, none⟩ (enc v)).cell? ⟨blk, off + m, none⟩ = some t ∧ W.frozen? ⟨blk, off + n, none⟩ = false ∧ W.frozen? ⟨blk, off + m, none⟩ = false ∧
      SW enc w0 blk off (swp dk I J) ((W.setCell ⟨blk, off + n, none⟩ (enc v)).setCell ⟨blk, off + m, none⟩ (enc u)).drew := by
  subst hn; subst hm
  obtain ⟨t, ht⟩ := h.c2 R hs _ _ hI hJ (enc dk[m]!)
  exact ⟨_, _, t, h.c1 R hs _ hI, h.c1 R hs _ hJ, ht, h.f1 R hs _ hI, h.f1 R hs _ hJ, h.swapped R _ _ hI hJ⟩
end

set_option maxHeartbeats 16000000 in
set_option maxRecDepth 1000000 in
theorem insU {blk off cap : Nat} {d0 d : Array α} {w0 w : World} (L : SoU P) (hless : LessU P enc lt) (R : Row1 enc w0 blk off d0) (hs : d0.size = d.size) (S : SW enc w0 blk off d w) {a b : Nat} (hab : a ≤ b) (hb : b ≤ d.size) (hsz : d.size < 4611686018427387904) :
    Calls P 32 #[.slice (some ⟨blk, off, none⟩) d.size cap, .int .i64 a, .int .i64 b] w fun e w' => e = .returned (.tuple #[]) ∧ SW enc w0 blk off (Sort.insertionSort lt d a b) w' := by
  have mixed := L.mixed; have u0 := L.u0; have a0 := L.a0; have z0 := L.z0; have v0 := L.v0; have u3 := L.u3; have a3 := L.a3; have z3 := L.z3; have v3 := L.v3; have u4 := L.u4; have a4 := L.a4; have z4 := L.z4; have v4 := L.v4; have u2 := L.u2; have a2 := L.a2; have z2 := L.z2; have v2 := L.v2; have u7 := L.u7; have a7 := L.a7; have z7 := L.z7; have v7 := L.v7; have u8 := L.u8; have a8 := L.a8; have z8 := L.z8; have v8 := L.v8; have u9 := L.u9; have a9 := L.a9; have z9 := L.z9; have v9 := L.v9; have u10 := L.u10; have a10 := L.a10; have z10 := L.z10; have v10 := L.v10; have u11 := L.u11; have a11 := L.a11; have z11 := L.z11; have v11 := L.v11; have eless := L.eless; have esift := L.esift; have eord := L.eord; have emed := L.emed; have emad := L.emad; have eins := L.eins; have eheap := L.eheap; have erev := L.erev; have epiv := L.epiv; have ebrk := L.ebrk; have epar := L.epar; have epeq := L.epeq; have eprt := L.eprt; have epdq := L.epdq; have enp2 := L.enp2; have exn := L.exn; have elen := L.elen; have a6 := L.a6; have z6 := L.z6
  have hcl0 := R.hO.cells
  simp only [Value.cells] at hcl0
  have hst := R.hO.store P
  have FG := L.fins
  have HC : Aside _ := hless
  have S0 : Aside _ := S
  clear S hless
  go_enter FG, Try.ntmps32
  go_wp2
  go_loopg [6] (b - a) (fun g1 vi wr => ∃ (i : Nat) (dk : Array α), vi = .int .i64 i ∧ a < i ∧ i ≤ b + 1 ∧ b + 1 - i ≤ g1 + 1 ∧ dk.size = d.size ∧ Aside (SW enc w0 blk off dk wr) ∧ Hid (insOuter lt a b i dk = insOuter lt a b (a + 1) d))
  case atStart => exact ⟨a + 1, d, by go_num, by omega, by omega, by omega, rfl, S0, rfl⟩
  case round =>
    clear S0
    obtain ⟨i, dk, rfl, hai, hib, hg1, hsk, S1, HO⟩ := hrel
    by_cases hlt : i < b
    · have hltz : (i : Int) < (b : Int) := by omega
      go_wp2
      go_loopg [7] i (fun g2 vj wr2 => ∃ (j : Nat) (dj : Array α), vj = .int .i64 j ∧ a ≤ j ∧ j ≤ i ∧ j ≤ g2 ∧ dj.size = d.size ∧ Aside (SW enc w0 blk off dj wr2) ∧ Hid (insInner lt a j dj = insInner lt a i dk))
      case atStart => exact ⟨i, dk, rfl, by omega, Nat.le_refl _, Nat.le_refl _, hsk, S1, rfl⟩
      case round =>
        clear S1
        obtain ⟨j, dj, rfl, haj, hji, hg2, hsj, SJ, HI⟩ := hrel
        have OUT : Aside ((j ≤ a ∨ lt dj[j]! dj[j - 1]! = false) → Hid (insOuter lt a b (i + 1) dj = insOuter lt a b (a + 1) d)) := fun hs => by
          show _ = _
          rw [← HO.out, insOuter_go _ _ _ _ _ hlt, ← HI.out, insInner_stop _ _ _ _ hs]
        by_cases hja : a < j
        · have hjaz : (a : Int) < (j : Int) := by omega
          obtain ⟨jp, hjp⟩ : ∃ q, q + 1 = j := ⟨j - 1, by omega⟩
          have zjp : (j : Int) = (jp : Int) + 1 := by omega
          have hjad : decide ((jp : Int) + 1 > (a : Int)) = true := decide_eq_true (by omega)
          have hjaz' : (a : Int) < (jp : Int) + 1 := by omega
          cases hlv : lt dj[j]! dj[j - 1]! with
          | true =>
            obtain ⟨x1n, x1e, x1p, x1b, x1r, x1h⟩ := ixU (E := (jp : Int) + 1) (N := j) (m := d.size) (by omega) (by omega) hsz
            obtain ⟨y1n, y1e, y1p, y1b, y1r, y1h⟩ := ixU (E := (jp : Int)) (N := j - 1) (m := d.size) (by omega) (by omega) hsz
            obtain ⟨p1, q1, hp1, hq1, l1, m1⟩ := twoU SJ.out R (by omega) x1h y1h (by omega) (by omega)
            have c1 := HC.out p1 q1
            rw [show lt p1 q1 = true by rw [hp1, hq1]; exact hlv] at c1
            clear hp1 hq1 x1h y1h
            go_wp2_with fail
            go_quiet_grown (first | (go_at_call 38; refine Calls.grown_of (c1 _)))
            have S2 : Aside (SW enc w0 blk off dj (grow (wr.drewN nq) osq)) := SJ.out.grown nq osq
            clear l1 m1 c1 SJ
            generalize grow (wr.drewN nq) osq = w2 at S2 ⊢
            clear nq osq
            clear x1e y1e
            go_wp2_with fail
            obtain ⟨x2n, x2e, x2p, x2b, x2r, x2h⟩ := ixU (E := (jp : Int) + 1) (N := j) (m := d.size) (by omega) (by omega) hsz
            obtain ⟨y2n, y2e, y2p, y2b, y2r, y2h⟩ := ixU (E := (jp : Int)) (N := j - 1) (m := d.size) (by omega) (by omega) hsz
            obtain ⟨p2, q2, t2, c2a, c2b, c2c, f2a, f2b, s2⟩ := swpU S2.out R (by omega) x2h y2h (by omega) (by omega)
            have S3 : Aside _ := s2
            clear S2 s2 x2h y2h
            go_wp2_with fail
            go_big_region_o
            clear c2a c2b c2c f2a f2b
            generalize ((w2.setCell ⟨blk, off + x2n, none⟩ (enc q2)).setCell ⟨blk, off + y2n, none⟩ (enc p2)).drew = w3 at S3 ⊢
            clear x2e y2e
            go_wp2
            go_roundg (j - 1)
            case measure => omega
            case rel => exact ⟨j - 1, swp dj j (j - 1), by first | rfl | go_num | (congr 1; omega), by omega, by omega, Nat.le_refl _, by rw [size_swp]; exact hsj, S3, (show Hid _ from by rw [← HI.out, insInner_go lt a j dj hja hlv]; exact rfl)⟩
          | false =>
            obtain ⟨x3n, x3e, x3p, x3b, x3r, x3h⟩ := ixU (E := (jp : Int) + 1) (N := j) (m := d.size) (by omega) (by omega) hsz
            obtain ⟨y3n, y3e, y3p, y3b, y3r, y3h⟩ := ixU (E := (jp : Int)) (N := j - 1) (m := d.size) (by omega) (by omega) hsz
            obtain ⟨p3, q3, hp3, hq3, l3, m3⟩ := twoU SJ.out R (by omega) x3h y3h (by omega) (by omega)
            have c3 := HC.out p3 q3
            rw [show lt p3 q3 = false by rw [hp3, hq3]; exact hlv] at c3
            clear hp3 hq3 x3h y3h
            go_wp2_with fail
            go_quiet_grown (first | (go_at_call 38; refine Calls.grown_of (c3 _)))
            have S2 : Aside (SW enc w0 blk off dj (grow (wr.drewN nq) osq)) := SJ.out.grown nq osq
            clear l3 m3 c3 SJ
            generalize grow (wr.drewN nq) osq = w2 at S2 ⊢
            clear nq osq
            clear x3e y3e
            go_wp2
            go_roundg (b - (i + 1))
            case measure => omega
            case rel => exact ⟨i + 1, dj, by go_num, by omega, by omega, by omega, hsj, S2, OUT.out (Or.inr hlv)⟩
        · have hjaz : decide ((j : Int) > (a : Int)) = false := decide_eq_false (by omega)
          have hjaz' : ¬ (a : Int) < (j : Int) := by omega
          go_wp2_with fail
          go_big_region_o
          have S2 : Aside (SW enc w0 blk off dj wr.drew) := SJ.out.drew
          clear SJ
          generalize wr.drew = w2 at S2 ⊢
          go_wp2
          go_roundg (b - (i + 1))
          case measure => omega
          case rel => exact ⟨i + 1, dj, by go_num, by omega, by omega, by omega, hsj, S2, OUT.out (Or.inl (by omega))⟩
    · have hltz : ¬ (i : Int) < (b : Int) := by omega
      go_wp2
      go_end0
      exact ⟨rfl, by unfold Sort.insertionSort; rw [← HO.out, insOuter_stop _ _ _ _ _ hlt]; exact S1.out⟩

set_option maxHeartbeats 16000000 in
set_option maxRecDepth 1000000 in
theorem revU {blk off cap : Nat} {d0 d : Array α} {w0 w : World} (L : SoU P) (hless : LessU P enc lt) (R : Row1 enc w0 blk off d0) (hs : d0.size = d.size) (S : SW enc w0 blk off d w) {a b : Nat} (hab : a ≤ b) (hb : b ≤ d.size) (hsz : d.size < 4611686018427387904) :
    Calls P 36 #[.slice (some ⟨blk, off, none⟩) d.size cap, .int .i64 a, .int .i64 b] w fun e w' => e = .returned (.tuple #[]) ∧ SW enc w0 blk off (reverseRange d a b) w' := by
  have mixed := L.mixed; have u0 := L.u0; have a0 := L.a0; have z0 := L.z0; have v0 := L.v0; have u3 := L.u3; have a3 := L.a3; have z3 := L.z3; have v3 := L.v3; have u4 := L.u4; have a4 := L.a4; have z4 := L.z4; have v4 := L.v4; have u2 := L.u2; have a2 := L.a2; have z2 := L.z2; have v2 := L.v2; have u7 := L.u7; have a7 := L.a7; have z7 := L.z7; have v7 := L.v7; have u8 := L.u8; have a8 := L.a8; have z8 := L.z8; have v8 := L.v8; have u9 := L.u9; have a9 := L.a9; have z9 := L.z9; have v9 := L.v9; have u10 := L.u10; have a10 := L.a10; have z10 := L.z10; have v10 := L.v10; have u11 := L.u11; have a11 := L.a11; have z11 := L.z11; have v11 := L.v11; have eless := L.eless; have esift := L.esift; have eord := L.eord; have emed := L.emed; have emad := L.emad; have eins := L.eins; have eheap := L.eheap; have erev := L.erev; have epiv := L.epiv; have ebrk := L.ebrk; have epar := L.epar; have epeq := L.epeq; have eprt := L.eprt; have epdq := L.epdq; have enp2 := L.enp2; have exn := L.exn; have elen := L.elen; have a6 := L.a6; have z6 := L.z6
  have hcl0 := R.hO.cells
  simp only [Value.cells] at hcl0
  have hst := R.hO.store P
  have FG := L.frev
  have HC : Aside _ := hless
  have S0 : Aside _ := S
  clear S hless
  go_enter FG, Try.ntmps36
  go_wp2
  go_loopg [6, 7] (b - a) (fun kx s6 s7 wr => ∃ (i jn : Nat) (jz : Int) (dk : Array α), s6 = .int .i64 i ∧ s7 = .int .i64 jz ∧ ((i : Int) < jz → jz = jn ∧ jn < d.size) ∧ (¬ (i : Int) < jz → ¬ i < jn) ∧ jn - i ≤ kx ∧
    dk.size = d.size ∧ Aside (SW enc w0 blk off dk wr) ∧ Hid (reverseLoop i jn dk = reverseLoop a (b - 1) d))
  case atStart => exact ⟨a, b - 1, (b : Int) - 1, d, rfl, rfl, fun h => ⟨by omega, by omega⟩, fun h => by omega, by omega, rfl, S0, rfl⟩
  case round =>
    clear S0
    obtain ⟨i, jn, jz, dk, rfl, rfl, h1, h2, hkx, hds, S1, heq⟩ := hrel
    by_cases hlt : (i : Int) < jz
    · obtain ⟨rfl, hjn⟩ := h1 hlt
      have hij : i < jn := by omega
      clear h1 h2
      go_wp2_with fail
      obtain ⟨x1n, x1e, x1p, x1b, x1r, x1h⟩ := ixU (E := (i : Int)) (N := i) (m := d.size) (by omega) (by omega) hsz
      obtain ⟨y1n, y1e, y1p, y1b, y1r, y1h⟩ := ixU (E := (jn : Int)) (N := jn) (m := d.size) (by omega) (by omega) hsz
      obtain ⟨p1, q1, t1, c1a, c1b, c1c, f1a, f1b, s1⟩ := swpU S1.out R (by omega) x1h y1h (by omega) (by omega)
      have S2 : Aside _ := s1
      clear S1 s1 x1h y1h
      go_wp2_with fail
      go_big_region_o
      clear c1a c1b c1c f1a f1b
      generalize ((wr.setCell ⟨blk, off + x1n, none⟩ (enc q1)).setCell ⟨blk, off + y1n, none⟩ (enc p1)).drew = w2 at S2 ⊢
      clear x1e y1e
      go_wp2
      go_roundg (jn - 1 - (i + 1))
      case measure => omega
      case rel =>
        have heq := heq.out
        rw [reverseLoop, if_pos hij] at heq
        exact ⟨i + 1, jn - 1, (jn : Int) - 1, swp dk i jn, by simp, rfl, fun h => ⟨by omega, by omega⟩, fun h => by omega, Nat.le_refl _, by rw [size_swp]; exact hds, S2, heq⟩
    · have hnot := h2 hlt
      go_wp2
      go_end0
      refine ⟨rfl, ?_⟩
      have heq := heq.out
      rw [reverseLoop, if_neg hnot] at heq
      rw [reverseRange, ← heq]
      exact S1.out
end
end Go.Proofs.Ytmcfknnfaokmlaa
