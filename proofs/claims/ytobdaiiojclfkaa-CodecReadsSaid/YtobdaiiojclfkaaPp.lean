/- Contract of codec.Reader's part. -/
import Derived.Test.YtobdaiiojclfkaaPt
import Derived.Test.YtobdaiiojclfkaaRe
namespace Go.Proofs.Ytobdaiiojclfkaa
open Go.RowKit

/-- It returned a part, whose bytes are its own, and turned nothing but a reader. -/
def PartOk (t : TypeId) (B : Nat) (tb : TypeId) (p : Nat) (x : Cd.Pt) (s : Option (List UInt8)) (w : World) (e : Ending) (w' : World) : Prop :=
  ∃ m : MPt, e = .returned (.agg #[.int .i64 m.pt.kind, .int .u64 m.pt.n, .int .i64 m.pt.i, .float .f64 m.pt.f, .slice m.A m.pt.b.length m.c, .bool m.pt.is]) ∧ m.pt = x ∧
    w'.ownsRow w.heap.size 5 1 (.slice m.A m.pt.b.length m.c) m.pt.b.length (bcells m.pt.b) ∧ RS t B tb w' p s ∧ Tch B [t] w w'

set_option maxHeartbeats 4000000 in
set_option maxRecDepth 100000 in
theorem part_rd {B p : Nat} {tb : TypeId} {w : World} {s : Option (List UInt8)} {k : Int} (h : RS 74 B tb w p s) (ht : tb ≠ 74) (ht2 : tb ≠ 39) (hl : ∀ l, s = some l → l.length ≤ 1099511627776) :
    Calls Try.prog 32 #[.pointer (some ⟨p, 0, none⟩), .int .i64 k] w (PartOk 74 B tb p (Cd.rdP k s).1 (Cd.rdP k s).2 w) := by
  have HS := Lib.hid h
  have HX := Lib.hid hl
  have hB := h.size
  have q1 := heap_alloc2_old w (.cells #[.int .i64 0, .int .u64 0, .int .i64 0, .float .f64 0, .slice none 0 0, .bool false] 39) (.cells #[.int .i64 k, .int .u64 0, .int .i64 0, .float .f64 0, .slice none 0 0, .bool false] 39)
  have q2 := heap_alloc2_new w (.cells #[.int .i64 0, .int .u64 0, .int .i64 0, .float .f64 0, .slice none 0 0, .bool false] 39) (.cells #[.int .i64 k, .int .u64 0, .int .i64 0, .float .f64 0, .slice none 0 0, .bool false] 39)
  have T0 := ((Tch.refl B [74] w).alloc hB (.cells #[.int .i64 0, .int .u64 0, .int .i64 0, .float .f64 0, .slice none 0 0, .bool false] 39)).alloc (by simp; omega) (.cells #[.int .i64 k, .int .u64 0, .int .i64 0, .float .f64 0, .slice none 0 0, .bool false] 39)
  have Q1 := Lib.hid q1
  have Q2 := Lib.hid q2
  have HT0 := Lib.hid T0
  clear h hl q1 q2 T0
  by_cases hk1 : k = 1
  · subst hk1
    rw [show Cd.rdP 1 s = ({ Cd.blank 1 with n := (Cd.rdN Cd.full s).1 }, (Cd.rdN Cd.full s).2) from rfl]
    go_enter Try.func32, Try.ntmps32
    go_wp2_with fail
    refine (rN_rd (mz := 18446744073709551615) ((HS.out.alloc _).alloc _) ht HX.out (by omega)).mono ?_
    rw [full_nat]
    rintro e w' ⟨rfl, hr, hT⟩
    have HR := Lib.hid hr
    have HT := Lib.hid hT
    have P1 := hT.blk Q1.out (by decide)
    have P2 := hT.blk Q2.out (by decide)
    have y1 := Ty.of P1
    have y2 := Ty.of P2
    clear hr hT
    obtain ⟨a0, a1, a2, a3, a4, a5⟩ := six P1
    obtain ⟨b0, b1, b2, b3, b4, b5⟩ := six P2
    have f1 := blk_free P1
    have f2 := blk_free P2
    clear P1 P2
    go_wp2
    have T1 := ((Tch.refl B [39] w').setTy (p := ⟨w.heap.size + 1, 1, none⟩) y2 (by simp) (by simp; omega) (.int .u64 ((Cd.rdN Cd.full s).1 : Int))).put6Ty (y1.set _ _) (by simp) hB (.int .i64 1) (.int .u64 ((Cd.rdN Cd.full s).1 : Int)) (.int .i64 0) (.float .f64 0) (.slice none 0 0) (.bool false)
    have T2 := ((HT0.out.trans HT.out).setNew (p := ⟨w.heap.size + 1, 1, none⟩) (by simp) hB (.int .u64 ((Cd.rdN Cd.full s).1 : Int))).put6New (g := w.heap.size) (Nat.le_refl _) hB (.int .i64 1) (.int .u64 ((Cd.rdN Cd.full s).1 : Int)) (.int .i64 0) (.float .f64 0) (.slice none 0 0) (.bool false)
    exact bodyPost_ret (v := .agg #[(.int .i64 1), (.int .u64 ((Cd.rdN Cd.full s).1 : Int)), (.int .i64 0), (.float .f64 0), (.slice none 0 0), (.bool false)]) (by simp [results, Try.results32, go_sem, a0, a1, a2, a3, a4, a5]) rfl ⟨⟨{ Cd.blank 1 with n := (Cd.rdN Cd.full s).1 }, none, 0⟩, rfl, rfl, World.ownsRow_nil _ _ _ _, HR.out.tch T1 (by decide) (by simpa using ht2), T2⟩
  by_cases hk2 : k = 2
  · subst hk2
    clear hk1
    rw [show Cd.rdP 2 s = ({ Cd.blank 2 with i := (Cd.rdI s).1 }, (Cd.rdI s).2) from rfl]
    go_enter Try.func32, Try.ntmps32
    go_wp2_with fail
    refine (rI_rd ((HS.out.alloc _).alloc _) ht HX.out).mono ?_
    rintro e w' ⟨rfl, hr, hT⟩
    have HR := Lib.hid hr
    have HT := Lib.hid hT
    have P1 := hT.blk Q1.out (by decide)
    have P2 := hT.blk Q2.out (by decide)
    have y1 := Ty.of P1
    have y2 := Ty.of P2
    clear hr hT
    obtain ⟨a0, a1, a2, a3, a4, a5⟩ := six P1
    obtain ⟨b0, b1, b2, b3, b4, b5⟩ := six P2
    have f1 := blk_free P1
    have f2 := blk_free P2
    clear P1 P2
    go_wp2
    have T1 := ((Tch.refl B [39] w').setTy (p := ⟨w.heap.size + 1, 2, none⟩) y2 (by simp) (by simp; omega) (.int .i64 (Cd.rdI s).1)).put6Ty (y1.set _ _) (by simp) hB (.int .i64 2) (.int .u64 0) (.int .i64 (Cd.rdI s).1) (.float .f64 0) (.slice none 0 0) (.bool false)
    have T2 := ((HT0.out.trans HT.out).setNew (p := ⟨w.heap.size + 1, 2, none⟩) (by simp) hB (.int .i64 (Cd.rdI s).1)).put6New (g := w.heap.size) (Nat.le_refl _) hB (.int .i64 2) (.int .u64 0) (.int .i64 (Cd.rdI s).1) (.float .f64 0) (.slice none 0 0) (.bool false)
    exact bodyPost_ret (v := .agg #[(.int .i64 2), (.int .u64 0), (.int .i64 (Cd.rdI s).1), (.float .f64 0), (.slice none 0 0), (.bool false)]) (by simp [results, Try.results32, go_sem, a0, a1, a2, a3, a4, a5]) rfl ⟨⟨{ Cd.blank 2 with i := (Cd.rdI s).1 }, none, 0⟩, rfl, rfl, World.ownsRow_nil _ _ _ _, HR.out.tch T1 (by decide) (by simpa using ht2), T2⟩
  by_cases hk3 : k = 3
  · subst hk3
    clear hk1 hk2
    rw [show Cd.rdP 3 s = ({ Cd.blank 3 with f := (Cd.rdF s).1 }, (Cd.rdF s).2) from rfl]
    go_enter Try.func32, Try.ntmps32
    go_wp2_with fail
    refine (rF_rd ((HS.out.alloc _).alloc _) ht HX.out).mono ?_
    rintro e w' ⟨rfl, hr, hT⟩
    have HR := Lib.hid hr
    have HT := Lib.hid hT
    have P1 := hT.blk Q1.out (by decide)
    have P2 := hT.blk Q2.out (by decide)
    have y1 := Ty.of P1
    have y2 := Ty.of P2
    clear hr hT
    obtain ⟨a0, a1, a2, a3, a4, a5⟩ := six P1
    obtain ⟨b0, b1, b2, b3, b4, b5⟩ := six P2
    have f1 := blk_free P1
    have f2 := blk_free P2
    clear P1 P2
    go_wp2
    have T1 := ((Tch.refl B [39] w').setTy (p := ⟨w.heap.size + 1, 3, none⟩) y2 (by simp) (by simp; omega) (.float .f64 (Cd.rdF s).1)).put6Ty (y1.set _ _) (by simp) hB (.int .i64 3) (.int .u64 0) (.int .i64 0) (.float .f64 (Cd.rdF s).1) (.slice none 0 0) (.bool false)
    have T2 := ((HT0.out.trans HT.out).setNew (p := ⟨w.heap.size + 1, 3, none⟩) (by simp) hB (.float .f64 (Cd.rdF s).1)).put6New (g := w.heap.size) (Nat.le_refl _) hB (.int .i64 3) (.int .u64 0) (.int .i64 0) (.float .f64 (Cd.rdF s).1) (.slice none 0 0) (.bool false)
    exact bodyPost_ret (v := .agg #[(.int .i64 3), (.int .u64 0), (.int .i64 0), (.float .f64 (Cd.rdF s).1), (.slice none 0 0), (.bool false)]) (by simp [results, Try.results32, go_sem, a0, a1, a2, a3, a4, a5]) rfl ⟨⟨{ Cd.blank 3 with f := (Cd.rdF s).1 }, none, 0⟩, rfl, rfl, World.ownsRow_nil _ _ _ _, HR.out.tch T1 (by decide) (by simpa using ht2), T2⟩
  by_cases hk4 : k = 4
  · subst hk4
    clear hk1 hk2 hk3
    rw [show Cd.rdP 4 s = ({ Cd.blank 4 with b := (Cd.rdB 65536 s).1 }, (Cd.rdB 65536 s).2) from rfl]
    go_enter Try.func32, Try.ntmps32
    go_wp2_with fail
    refine (rB_rd (mz := 65536) ((HS.out.alloc _).alloc _) ht HX.out (by omega) (by omega)).mono ?_
    rw [show (65536 : Int).toNat = 65536 from rfl]
    rintro e w' ⟨A, n, c, rfl, ho, hr, hT⟩
    obtain ⟨hn, _⟩ := own_room ho
    subst hn
    have HO := Lib.hid (own_less ho (b := w.heap.size) (by simp; omega))
    clear ho
    have HR := Lib.hid hr
    have HT := Lib.hid hT
    have P1 := hT.blk Q1.out (by decide)
    have P2 := hT.blk Q2.out (by decide)
    have y1 := Ty.of P1
    have y2 := Ty.of P2
    clear hr hT
    obtain ⟨a0, a1, a2, a3, a4, a5⟩ := six P1
    obtain ⟨b0, b1, b2, b3, b4, b5⟩ := six P2
    have f1 := blk_free P1
    have f2 := blk_free P2
    clear P1 P2
    go_wp2
    have T1 := ((Tch.refl B [39] w').setTy (p := ⟨w.heap.size + 1, 4, none⟩) y2 (by simp) (by simp; omega) (.slice A (Cd.rdB 65536 s).1.length c)).put6Ty (y1.set _ _) (by simp) hB (.int .i64 4) (.int .u64 0) (.int .i64 0) (.float .f64 0) (.slice A (Cd.rdB 65536 s).1.length c) (.bool false)
    have T2 := ((HT0.out.trans HT.out).setNew (p := ⟨w.heap.size + 1, 4, none⟩) (by simp) hB (.slice A (Cd.rdB 65536 s).1.length c)).put6New (g := w.heap.size) (Nat.le_refl _) hB (.int .i64 4) (.int .u64 0) (.int .i64 0) (.float .f64 0) (.slice A (Cd.rdB 65536 s).1.length c) (.bool false)
    exact bodyPost_ret (v := .agg #[(.int .i64 4), (.int .u64 0), (.int .i64 0), (.float .f64 0), (.slice A (Cd.rdB 65536 s).1.length c), (.bool false)]) (by simp [results, Try.results32, go_sem, a0, a1, a2, a3, a4, a5]) rfl ⟨⟨{ Cd.blank 4 with b := (Cd.rdB 65536 s).1 }, A, c⟩, rfl, rfl, own_tch HO.out T1 (by decide), HR.out.tch T1 (by decide) (by simpa using ht2), T2⟩
  by_cases hk5 : k = 5
  · subst hk5
    clear hk1 hk2 hk3 hk4
    rw [show Cd.rdP 5 s = ({ Cd.blank 5 with is := (Cd.rdG s).1 }, (Cd.rdG s).2) from rfl]
    go_enter Try.func32, Try.ntmps32
    go_wp2_with fail
    refine (rG_rd ((HS.out.alloc _).alloc _) ht HX.out).mono ?_
    rintro e w' ⟨rfl, hr, hT⟩
    have HR := Lib.hid hr
    have HT := Lib.hid hT
    have P1 := hT.blk Q1.out (by decide)
    have P2 := hT.blk Q2.out (by decide)
    have y1 := Ty.of P1
    have y2 := Ty.of P2
    clear hr hT
    obtain ⟨a0, a1, a2, a3, a4, a5⟩ := six P1
    obtain ⟨b0, b1, b2, b3, b4, b5⟩ := six P2
    have f1 := blk_free P1
    have f2 := blk_free P2
    clear P1 P2
    go_wp2
    have T1 := ((Tch.refl B [39] w').setTy (p := ⟨w.heap.size + 1, 5, none⟩) y2 (by simp) (by simp; omega) (.bool (Cd.rdG s).1)).put6Ty (y1.set _ _) (by simp) hB (.int .i64 5) (.int .u64 0) (.int .i64 0) (.float .f64 0) (.slice none 0 0) (.bool (Cd.rdG s).1)
    have T2 := ((HT0.out.trans HT.out).setNew (p := ⟨w.heap.size + 1, 5, none⟩) (by simp) hB (.bool (Cd.rdG s).1)).put6New (g := w.heap.size) (Nat.le_refl _) hB (.int .i64 5) (.int .u64 0) (.int .i64 0) (.float .f64 0) (.slice none 0 0) (.bool (Cd.rdG s).1)
    exact bodyPost_ret (v := .agg #[(.int .i64 5), (.int .u64 0), (.int .i64 0), (.float .f64 0), (.slice none 0 0), (.bool (Cd.rdG s).1)]) (by simp [results, Try.results32, go_sem, a0, a1, a2, a3, a4, a5]) rfl ⟨⟨{ Cd.blank 5 with is := (Cd.rdG s).1 }, none, 0⟩, rfl, rfl, World.ownsRow_nil _ _ _ _, HR.out.tch T1 (by decide) (by simpa using ht2), T2⟩
  · have e6 : Cd.rdP k s = (Cd.blank k, none) := by unfold Cd.rdP; simp [hk1, hk2, hk3, hk4, hk5]
    rw [e6]
    clear e6
    go_enter Try.func32, Try.ntmps32
    go_wp2_with fail
    refine (fail_c ((HS.out.alloc _).alloc _)).mono ?_
    rintro e w' ⟨rfl, hr, hT⟩
    have HR := Lib.hid hr
    have HT := Lib.hid hT
    have P1 := hT.blk Q1.out (by decide)
    have P2 := hT.blk Q2.out (by decide)
    have y1 := Ty.of P1
    have y2 := Ty.of P2
    clear hr hT
    obtain ⟨a0, a1, a2, a3, a4, a5⟩ := six P1
    obtain ⟨b0, b1, b2, b3, b4, b5⟩ := six P2
    have f1 := blk_free P1
    have f2 := blk_free P2
    clear P1 P2
    go_wp2
    have T1 := (Tch.refl B [39] w').put6Ty y1 (by simp) hB (.int .i64 k) (.int .u64 0) (.int .i64 0) (.float .f64 0) (.slice none 0 0) (.bool false)
    have T2 := (HT0.out.trans HT.out).put6New (g := w.heap.size) (Nat.le_refl _) hB (.int .i64 k) (.int .u64 0) (.int .i64 0) (.float .f64 0) (.slice none 0 0) (.bool false)
    exact bodyPost_ret (v := .agg #[(.int .i64 k), (.int .u64 0), (.int .i64 0), (.float .f64 0), (.slice none 0 0), (.bool false)]) (by simp [results, Try.results32, go_sem, a0, a1, a2, a3, a4, a5]) rfl ⟨⟨Cd.blank k, none, 0⟩, rfl, rfl, World.ownsRow_nil _ _ _ _, HR.out.tch T1 (by decide) (by simpa using ht2), T2⟩
end Go.Proofs.Ytobdaiiojclfkaa
