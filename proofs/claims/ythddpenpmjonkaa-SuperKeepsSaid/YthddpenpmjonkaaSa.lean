/- Stage 6: chapter 6's example. Stage 6: the law SuperSlots, the walk. -/
import Derived.Test.YthddpenpmjonkaaSup
import Derived.Test.YthddpenpmjonkaaSu
namespace Go.Proofs.Ythddpenpmjonkaa
open Go.RowKit
set_option maxRecDepth 100000

theorem good_one {g x : Nat} (hg : g ≤ 100) (hx : x ≤ 100) : Su.Good g [x] := ⟨by omega, by intro n hn; simp at hn; subst hn; omega, (by decide : 1 ≤ 4)⟩
theorem u64_one {x : Nat} (hx : x ≤ 100) : ∀ n ∈ [x], U64 n := by intro n hn; simp at hn; subst hn; exact U64.of (by omega)
theorem CS.lt {w : World} {B : Nat} {G : Nat → Prop} {q : Nat} {d : Dk.D} (h : CS w B G q d) : ∀ k, G k → k < w.heap.size := fun k hk => (h.old k hk).2
theorem own_num {w : World} {B : Nat} {A : Option Addr} {n c : Nat} {l : List Nat} (h : w.ownsRow B 22 1 (.slice A n c) n (ncells l)) (hl : n = l.length) {k : Nat} (hk : k < n) : ∃ g, A = some ⟨g, 0, none⟩ ∧ w.cell? ⟨g, k, none⟩ = some (.int .u64 (l[k]'(by omega) : Int)) := by
  obtain ⟨g, e, _, _, hc, _⟩ := own_at h (by omega)
  refine ⟨g, e, hc k _ ?_⟩
  unfold ncells
  rw [List.getElem?_map, List.getElem?_eq_getElem (by omega)]
  rfl

set_option maxHeartbeats 4000000 in
set_option maxRecDepth 100000 in
theorem awake6 (w : World) : Calls Try.prog 6 #[] w fun e w' => e = .returned (.bool true) ∧ Below w.heap.size w w' := by
  obtain ⟨f1, f2, f3, f4, f5⟩ := Su.format_well (n := 2) (by decide) (good_one (g := 0) (x := 7) (by decide) (by decide))
  obtain ⟨s1, s2, s3, s4, s5⟩ := Su.save_well (k := [8]) f2 f3 f5 (good_one (g := 0 + 1) (x := 8) (by decide) (by decide))
  have LD := Lib.hid (Su.load_two' s2 s5)
  have F1 := Lib.hid f1
  have S1' := Lib.hid s1
  have OK1 := Lib.hid f2.ok
  have LF1 := Lib.hid (show (Su.format (Dk.new 2) [7]).2.left ≤ 9223372036854775807 by rw [f3]; decide)
  have CA1 := Lib.hid (show (Su.format (Dk.new 2) [7]).2.cache.length ≤ 10000000 by rw [f2.cache]; decide)
  have OK2 := Lib.hid s2.ok
  have CA2 := Lib.hid (show (Su.save (Su.format (Dk.new 2) [7]).2 (0 + 1) [8]).2.cache.length ≤ 10000000 by rw [s2.cache]; decide)
  clear f1 f2 f3 f4 f5 s1 s2 s3 s4 s5
  go_enter Try.func6, Try.ntmps6
  go_wp2_with fail
  refine (cdNew_c _ _ (by decide)).mono ?_
  intro e w1 hp
  obtain ⟨q, G1, rfl, hs1, _, hb1⟩ := CNewOk.step (Nat.le_refl _) hp
  have S1 := Lib.hid hs1
  have B1 := Lib.hid hb1
  have z1 := hb1.size
  clear hp hs1 hb1
  go_wp2_with fail
  have S1a := Lib.hid (S1.out.keep ((Below.refl w1.heap.size w1).alloc (Nat.le_refl _) (.cells #[.int .u64 7] 22)))
  refine (suFormat_c (l := [7]) S1a.out.cd S1a.out.lt (Dk.new_ok 2) (by decide) (by decide) (lies_num (x := 7) rfl) (fun _ ad e => by injection e with e; subst e; exact ⟨fun g => by have := S1.out.lt _ g; simp at this, by simp⟩) rfl (by decide) (u64_one (by decide)) (by decide)).mono ?_
  intro e w2 hp
  obtain ⟨rfl, G2, hs2⟩ := CdOk.step S1a.out (by simp; omega) hp
  have S2 := Lib.hid hs2.cs
  have B2 := Lib.hid ((B1.out.alloc z1 _).trans hs2.below)
  have z2 := B2.out.size
  clear hp hs2
  rw [F1.out]
  go_wp2_with fail
  have S2a := Lib.hid (S2.out.keep ((Below.refl w2.heap.size w2).alloc (Nat.le_refl _) (.cells #[.int .u64 8] 22)))
  refine (suSave_c (g := 0 + 1) (l := [8]) S2a.out.cd S2a.out.lt OK1.out LF1.out CA1.out (lies_num (x := 8) rfl) rfl (by decide) (U64.of (by decide)) (u64_one (by decide)) (by decide)).mono ?_
  intro e w3 hp
  obtain ⟨rfl, G3, hs3⟩ := CdOk.step S2a.out (by simp; omega) hp
  have S3 := Lib.hid hs3.cs
  have B3 := Lib.hid ((B2.out.alloc z2 _).trans hs3.below)
  have z3 := B3.out.size
  clear hp hs3
  rw [S1'.out]
  go_wp2_with fail
  refine (suLoad_c S3.out.cd S3.out.lt OK2.out CA2.out).mono ?_
  rw [LD.out]
  rintro e w4 ⟨A4, n4, c4, rfl, hn4, _, ho4, hb4⟩
  obtain ⟨g, rfl, hc⟩ := own_num ho4 hn4 (k := 0) (by rw [hn4]; decide)
  have c0 : w4.cell? ⟨g, 0, none⟩ = some (.int .u64 8) := hc
  have B4 := Lib.hid (B3.out.trans (hb4.mono z3))
  obtain rfl : n4 = 1 := hn4
  clear ho4 hb4 hc
  go_wp2
  go_ret
  exact ⟨rfl, B4.out⟩

set_option maxHeartbeats 8000000 in
set_option maxRecDepth 100000 in
theorem superSlots_c {g : Nat} {A1 A2 : Option Addr} {c1 c2 : Nat} {l : List Nat} {b : List UInt8} {w : World} (hg : U64 g) (h1 : Lies w w.heap.size 0 A1 (ncells l)) (hc1 : l.length ≤ c1) (hx : ∀ x ∈ l, U64 x) (h2 : Lies w w.heap.size 0 A2 (bcells b)) (hc2 : b.length ≤ c2) :
    Calls Try.prog 3 #[.int .u64 (g : Int), .slice A1 l.length c1, .slice A2 b.length c2] w fun e w' => e = .returned (.bool true) ∧ Below w.heap.size w w' := by
  have H1 := Lib.hid h1
  have H2 := Lib.hid h2
  have HG := Lib.hid hg
  have HX := Lib.hid hx
  have E1 : Hid (l.length = l.length) := Lib.hid rfl
  obtain ⟨n1, en1⟩ : ∃ n, n = l.length := ⟨_, rfl⟩
  obtain ⟨n2, en2⟩ : ∃ n, n = b.length := ⟨_, rfl⟩
  rw [← en1, ← en2]
  rw [← en1] at hc1
  rw [← en2] at hc2
  have N1 := Lib.hid en1
  have N2 := Lib.hid en2
  clear h1 h2 hg hx E1 en1 en2
  go_enter Try.func3, Try.ntmps3
  go_wp2_with fail
  refine (awake6 w).mono ?_
  rintro e w1 ⟨rfl, hb1⟩
  have B1 := Lib.hid hb1
  clear hb1
  have z1 := B1.out.size
  by_cases q1 : 10 < n1
  · go_wp2
    go_ret
    exact ⟨rfl, B1.out⟩
  by_cases q2 : 200 < n2
  · go_wp2
    go_ret
    exact ⟨rfl, B1.out⟩
  go_wp2_with fail
  refine (suSlot_c (H1.out.below (Nat.le_refl _) B1.out) N1.out hc1 HG.out HX.out (by omega)).mono ?_
  rintro e w2 ⟨A3, n3, c3, rfl, hn3, hc3, ho3, hb2⟩
  obtain ⟨sl, hsl⟩ : ∃ s, s = Su.slotB g l := ⟨_, rfl⟩
  obtain ⟨se, hse⟩ : ∃ s, s = Su.slotE l := ⟨_, rfl⟩
  rw [← hsl] at hn3 ho3
  rw [← hse]
  subst hn3
  have SL := Lib.hid hsl
  have SE := Lib.hid hse
  have O3 := Lib.hid ho3
  have B2 := Lib.hid (B1.out.trans (hb2.mono z1))
  have z2 := B2.out.size
  clear ho3 hb2 hsl hse
  go_wp2_with fail
  refine (refSlot_c (H1.out.below (Nat.le_refl _) B2.out) N1.out HG.out HX.out (by omega)).mono ?_
  rw [← SL.out, ← SE.out]
  rintro e w3 ⟨A4, n4, c4, rfl, hn4, hc4, ho4, hb3⟩
  subst hn4
  have O4 := Lib.hid ho4
  have O34 := Lib.hid (own_below O3.out hb3)
  have B3 := Lib.hid (B2.out.trans (hb3.mono z2))
  have z3 := B3.out.size
  clear ho4 hb3
  go_wp2_with fail
  refine (suOf_c (H2.out.below (Nat.le_refl _) B3.out) N2.out hc2 (by omega)).mono ?_
  obtain ⟨x, hx⟩ : ∃ x, x = Su.ofPick (Su.unslot b) := ⟨_, rfl⟩
  rw [← hx]
  have HX3 := Lib.hid hx
  clear hx
  obtain ⟨xg, xl, xe⟩ := x
  rintro e w4 ⟨A5, n5, c5, rfl, hn5, hc5, ho5, hb4⟩
  dsimp only at hn5 ho5 ⊢
  have O5 := Lib.hid ho5
  have N5 := Lib.hid hn5
  have O44 := Lib.hid (own_below O4.out hb4)
  have O35 := Lib.hid (own_below O34.out hb4)
  have B4 := Lib.hid (B3.out.trans (hb4.mono z3))
  have z4 := B4.out.size
  clear ho5 hb4 hn5
  go_wp2_with fail
  refine (refUnslot_c (H2.out.below (Nat.le_refl _) B4.out) N2.out hc2 (by omega)).mono ?_
  rw [← HX3.out]
  rintro e w5 ⟨A6, n6, c6, rfl, hn6, hc6, ho6, hb5⟩
  dsimp only at hn6 ho6 ⊢
  have O6 := Lib.hid ho6
  have N6 := Lib.hid hn6
  have O55 := Lib.hid (own_below O5.out hb5)
  have g1 := conv_at (c := c3) (lies_own (B := 0) (own_below O35.out hb5)) rfl
  have g2 := conv_at (c := c4) (lies_own (B := 0) (own_below O44.out hb5)) rfl
  have B5 := Lib.hid (B4.out.trans (hb5.mono z4))
  have sb : (sl == sl) = true := by simp
  have es : (se == se) = true := by simp
  have eg : ((xg : Int) == (xg : Int)) = true := by simp
  have ee : (xe == xe) = true := by simp
  have few : n5 ≤ 4 := by
    have q := HX3.out
    rw [N5.out]
    cases hu : Su.unslot b with
    | none => rw [hu] at q; injection q with _ q; injection q with q _; subst q; exact Nat.zero_le _
    | some y => rw [hu] at q; injection q with _ q; injection q with q _; subst q; exact (Su.unslot_good (g := y.1) (l := y.2) hu).few
  clear ho6 hb5 hn6
  go_wp2_with fail
  refine (sameNums_c (Lies.of_own (B := 0) O55.out) (Lies.of_own (B := 0) O6.out) N5.out N6.out (by omega) rfl).mono ?_
  rintro e w6 ⟨rfl, j, rfl⟩
  go_wp2
  go_ret
  exact ⟨rfl, below_drewN B5.out j⟩
end Go.Proofs.Ythddpenpmjonkaa
