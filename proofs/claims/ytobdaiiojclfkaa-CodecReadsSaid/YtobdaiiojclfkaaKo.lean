/- Contract of the law's own own. -/
import Derived.Test.YtobdaiiojclfkaaKn
namespace Go.Proofs.Ytobdaiiojclfkaa
open Go.RowKit

def OwnOk (m : MPt) (w : World) (e : Ending) (w' : World) : Prop :=
  ∃ m' : MPt, e = .returned (.agg #[.int .i64 m'.pt.kind, .int .u64 m'.pt.n, .int .i64 m'.pt.i, .float .f64 m'.pt.f, .slice m'.A m'.pt.b.length m'.c, .bool m'.pt.is]) ∧ m'.pt = Cd.own m.pt ∧ (m'.pt.b = [] ∨ (m'.A = m.A ∧ m'.c = m.c ∧ m'.pt.b = m.pt.b)) ∧ Below w.heap.size w w'

set_option maxHeartbeats 4000000 in
theorem own_c (m : MPt) (w : World) :
    Calls Try.prog 15 #[.agg #[.int .i64 m.pt.kind, .int .u64 m.pt.n, .int .i64 m.pt.i, .float .f64 m.pt.f, .slice m.A m.pt.b.length m.c, .bool m.pt.is]] w (OwnOk m w) := by
  have TB : ∀ o1 o2 o3, Below w.heap.size w (((w.alloc o1).alloc o2).alloc o3) := fun o1 o2 o3 => (((Below.refl _ _).alloc (Nat.le_refl _) o1).alloc (by simp) o2).alloc (by simp; omega) o3
  have HB := Lib.hid TB
  clear TB
  by_cases hk1 : m.pt.kind = 1
  · obtain ⟨⟨pk, pn, pi, pf, pb, pg⟩, A, c⟩ := m
    dsimp only at hk1 ⊢
    subst hk1
    have e : Cd.own ⟨1, pn, pi, pf, pb, pg⟩ = { Cd.blank 1 with n := pn } := rfl
    have E := Lib.hid e
    clear e
    go_enter Try.func15, Try.ntmps15
    go_wp2_with fail
    exact bodyPost_ret (v := .agg #[.int .i64 1, .int .u64 pn, .int .i64 0, .float .f64 0, .slice none 0 0, .bool false]) (by simp [results, Try.results15, go_sem]) rfl ⟨⟨{ Cd.blank 1 with n := pn }, none, 0⟩, rfl, E.out.symm, Or.inl rfl, HB.out _ _ _⟩
  by_cases hk2 : m.pt.kind = 2
  · obtain ⟨⟨pk, pn, pi, pf, pb, pg⟩, A, c⟩ := m
    dsimp only at hk2 ⊢
    subst hk2
    have e : Cd.own ⟨2, pn, pi, pf, pb, pg⟩ = { Cd.blank 2 with i := pi } := rfl
    have E := Lib.hid e
    clear e
    go_enter Try.func15, Try.ntmps15
    go_wp2_with fail
    exact bodyPost_ret (v := .agg #[.int .i64 2, .int .u64 0, .int .i64 pi, .float .f64 0, .slice none 0 0, .bool false]) (by simp [results, Try.results15, go_sem]) rfl ⟨⟨{ Cd.blank 2 with i := pi }, none, 0⟩, rfl, E.out.symm, Or.inl rfl, HB.out _ _ _⟩
  by_cases hk3 : m.pt.kind = 3
  · obtain ⟨⟨pk, pn, pi, pf, pb, pg⟩, A, c⟩ := m
    dsimp only at hk3 ⊢
    subst hk3
    have e : Cd.own ⟨3, pn, pi, pf, pb, pg⟩ = { Cd.blank 3 with f := Fl.canon pf } := rfl
    have E := Lib.hid e
    clear e
    go_enter Try.func15, Try.ntmps15
    go_wp2_with (go_at_call 45; refine (refCanon_c _ _).mono ?_; rintro e w' ⟨rfl, rfl⟩)
    exact bodyPost_ret (v := .agg #[.int .i64 3, .int .u64 0, .int .i64 0, .float .f64 (Fl.canon pf), .slice none 0 0, .bool false]) (by simp [results, Try.results15, go_sem]) rfl ⟨⟨{ Cd.blank 3 with f := Fl.canon pf }, none, 0⟩, rfl, E.out.symm, Or.inl rfl, HB.out _ _ _⟩
  by_cases hk4 : m.pt.kind = 4
  · obtain ⟨⟨pk, pn, pi, pf, pb, pg⟩, A, c⟩ := m
    dsimp only at hk4 ⊢
    subst hk4
    have e : Cd.own ⟨4, pn, pi, pf, pb, pg⟩ = { Cd.blank 4 with b := pb } := rfl
    have E := Lib.hid e
    clear e
    go_enter Try.func15, Try.ntmps15
    go_wp2_with fail
    exact bodyPost_ret (v := .agg #[.int .i64 4, .int .u64 0, .int .i64 0, .float .f64 0, .slice A pb.length c, .bool false]) (by simp [results, Try.results15, go_sem]) rfl ⟨⟨{ Cd.blank 4 with b := pb }, A, c⟩, rfl, E.out.symm, Or.inr ⟨rfl, rfl, rfl⟩, HB.out _ _ _⟩
  by_cases hk5 : m.pt.kind = 5
  · obtain ⟨⟨pk, pn, pi, pf, pb, pg⟩, A, c⟩ := m
    dsimp only at hk5 ⊢
    subst hk5
    have e : Cd.own ⟨5, pn, pi, pf, pb, pg⟩ = { Cd.blank 5 with is := pg } := rfl
    have E := Lib.hid e
    clear e
    go_enter Try.func15, Try.ntmps15
    go_wp2_with fail
    exact bodyPost_ret (v := .agg #[.int .i64 5, .int .u64 0, .int .i64 0, .float .f64 0, .slice none 0 0, .bool pg]) (by simp [results, Try.results15, go_sem]) rfl ⟨⟨{ Cd.blank 5 with is := pg }, none, 0⟩, rfl, E.out.symm, Or.inl rfl, HB.out _ _ _⟩
  · have e : Cd.own m.pt = Cd.blank m.pt.kind := by unfold Cd.own; simp [hk1, hk2, hk3, hk4, hk5]
    have E := Lib.hid e
    clear e
    go_enter Try.func15, Try.ntmps15
    go_wp2
    exact bodyPost_ret (v := .agg #[.int .i64 m.pt.kind, .int .u64 0, .int .i64 0, .float .f64 0, .slice none 0 0, .bool false]) (by simp [results, Try.results15, go_sem]) rfl ⟨⟨Cd.blank m.pt.kind, none, 0⟩, rfl, E.out.symm, Or.inl rfl, HB.out _ _ _⟩
end Go.Proofs.Ytobdaiiojclfkaa
