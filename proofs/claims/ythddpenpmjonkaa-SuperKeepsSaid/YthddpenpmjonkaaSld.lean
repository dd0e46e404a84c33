/- Stage 6: the law SuperLoads, the walk. -/
import Derived.Test.YthddpenpmjonkaaSa
import Derived.Test.YthddpenpmjonkaaDp
namespace Go.Proofs.Ythddpenpmjonkaa
open Go.RowKit
set_option maxRecDepth 100000

theorem DS.lt {w : World} {B : Nat} {F : Nat → Prop} {p : Nat} {d : Dk.D} (h : DS w B F p d) : ∀ k, F k → k < w.heap.size := fun k hk => (h.old k hk).2
theorem save_fine {k : Nat} {d : Dk.D} (h : Dk.Fine k d) (g : Nat) (l : List Nat) : Dk.Fine (k + 1) (Su.save d g l).2 := by
  have a := h.flush
  unfold Su.save
  split
  · exact h.next
  split
  · split
    · have b := Dk.Fine.write (k := 0) (d := (Dk.flush d).2) ⟨a.ok, a.left, by
        rename_i q _
        have : (Dk.flush d).2.cache = [] := by
          unfold Dk.flush at q ⊢
          split at q
          · rename_i q2; rw [if_pos q2]
          · rename_i q2; exact absurd q q2
        rw [this]; exact Nat.le_refl _⟩ ((g % 2 : Nat) : Int) (Su.slot g l)
      have c := b.flush
      refine ⟨c.ok, c.left, ?_⟩
      have := Dk.flush_few (k := 1) (d := (Dk.write (Dk.flush d).2 ((g % 2 : Nat) : Int) (Su.slot g l)).2) (by have := b.few; omega)
      omega
    · have b := a.write ((g % 2 : Nat) : Int) (Su.slot g l)
      rename_i q1 q2
      refine ⟨b.ok, b.left, ?_⟩
      have f := Dk.write_few (k := 0) (d := (Dk.flush d).2) (by
        have : (Dk.flush d).2.cache = [] := by
          unfold Dk.flush at q1 ⊢
          split at q1
          · rename_i q3; rw [if_pos q3]
          · rename_i q3; exact absurd q1 q3
        rw [this]; exact Nat.le_refl _) ((g % 2 : Nat) : Int) (Su.slot g l)
      omega
  · exact a

namespace Su
theorem pick_few {a b : Option (Nat × List Nat)} (ha : ∀ x, a = some x → x.2.length ≤ 4) (hb : ∀ x, b = some x → x.2.length ≤ 4) : (ofPick (pick a b)).2.1.length ≤ 4 := by
  unfold pick
  repeat' split
  · cases hq : b with
    | none => exact Nat.zero_le _
    | some y => exact hb y hq
  · exact ha _ rfl
  · exact hb _ rfl
  · exact ha _ rfl
theorem load_few (d : Dk.D) : (load d).2.1.length ≤ 4 := by
  unfold load
  repeat' split
  · exact pick_few (fun x hx => (unslot_good (g := x.1) (l := x.2) hx).few) (fun x hx => (unslot_good (g := x.1) (l := x.2) hx).few)
  · exact Nat.zero_le _
  · exact Nat.zero_le _
end Su

set_option maxHeartbeats 8000000 in
set_option maxRecDepth 100000 in
theorem superLoads_c {A1 A2 A3 A4 : Option Addr} {c1 c2 c3 c4 : Nat} {a b : List UInt8} {gs l : List Nat} {w : World} (n : Int) (hn : n ≤ 9223372036854775807) (h1 : Lies w w.heap.size 0 A1 (bcells a)) (hc1 : a.length ≤ c1) (h2 : Lies w w.heap.size 0 A2 (bcells b)) (hc2 : b.length ≤ c2)
    (h3 : Lies w w.heap.size 0 A3 (ncells gs)) (hg : ∀ x ∈ gs, U64 x) (h4 : Lies w w.heap.size 0 A4 (ncells l)) (hc4 : l.length ≤ c4) (hx : ∀ x ∈ l, U64 x) :
    Calls Try.prog 4 #[.int .i64 n, .slice A1 a.length c1, .slice A2 b.length c2, .slice A3 gs.length c3, .slice A4 l.length c4] w fun e w' => e = .returned (.bool true) ∧ Below w.heap.size w w' := by
  have H1 := Lib.hid h1
  have H2 := Lib.hid h2
  have H3 := Lib.hid h3
  have H4 := Lib.hid h4
  have HN := Lib.hid hn
  have HG := Lib.hid hg
  have HX := Lib.hid hx
  obtain ⟨n1, en1⟩ : ∃ n, n = a.length := ⟨_, rfl⟩
  obtain ⟨n2, en2⟩ : ∃ n, n = b.length := ⟨_, rfl⟩
  obtain ⟨n3, en3⟩ : ∃ n, n = gs.length := ⟨_, rfl⟩
  obtain ⟨n4, en4⟩ : ∃ n, n = l.length := ⟨_, rfl⟩
  rw [← en1, ← en2, ← en3, ← en4]
  rw [← en1] at hc1
  rw [← en2] at hc2
  rw [← en4] at hc4
  have N1 := Lib.hid en1
  have N2 := Lib.hid en2
  have N3 := Lib.hid en3
  have N4 := Lib.hid en4
  clear h1 h2 h3 h4 hn hg hx en1 en2 en3 en4
  go_enter Try.func4, Try.ntmps4
  go_wp2_with fail
  refine (awake6 w).mono ?_
  rintro e w1 ⟨rfl, hb1⟩
  have B1 := Lib.hid hb1
  clear hb1
  have z1 := B1.out.size
  by_cases q : 10 < n ∨ 64 < n1 ∨ 64 < n2 ∨ 8 < n3 ∨ 6 < n4
  · have z0 : decide (10 < n) = true ∨ (decide (10 < n) = false ∧ (64 < n1 ∨ 64 < n2 ∨ 8 < n3 ∨ 6 < n4)) := by
      by_cases q0 : 10 < n
      · exact Or.inl (by simpa using q0)
      · exact Or.inr ⟨by simpa using q0, by omega⟩
    clear q
    go_wp2
    all_goals first
      | (go_ret; exact ⟨rfl, B1.out⟩)
      | (exfalso; simp at z0; omega)
      | (exfalso; omega)
  have q1 : n ≤ 10 := by omega
  have q2 : n1 ≤ 64 := by omega
  have q3 : n2 ≤ 64 := by omega
  have q4 : n3 ≤ 8 := by omega
  have q5 : n4 ≤ 6 := by omega
  clear q
  go_wp2_with fail
  refine (cdNew_c n _ HN.out).mono ?_
  intro e w3 hp
  obtain ⟨q, G3, rfl, hs3, _, hb3⟩ := CNewOk.step z1 hp
  have S3 := Lib.hid hs3
  have B3 := Lib.hid (B1.out.trans (hb3.mono z1))
  have z3 := B3.out.size
  clear hp hs3 hb3
  go_wp2_with fail
  refine (refNewDisk_c n _ HN.out).mono ?_
  intro e w4 hp
  obtain ⟨p, F4, rfl, hs4, hn4, hb4⟩ := NewOk.step z3 hp
  have T4 : Hid (Tw w.heap.size w4 G3 F4 q p (Dk.new n) (Dk.new n)) := Lib.hid ⟨S3.out.keep hb4, hs4, fun k hk hg => hn4 k (S3.out.old k hg).2 hk⟩
  have B4 := Lib.hid (B3.out.trans (hb4.mono z3))
  have M4 := Lib.hid (Dk.Fine.new n)
  clear hp hs4 hb4 hn4
  go_wp2_with fail
  have zz5 := B4.out.size
  refine (cdWrite_c T4.out.c.cd M4.out.ok M4.out.left (by have := M4.out.few; omega) (H1.out.below (Nat.le_refl _) B4.out) (H1.out.far T4.out.c.old B4.out.size) N1.out (by omega) hc1 0).mono ?_
  intro e w5 hp
  obtain ⟨rfl, G5, hs5⟩ := CdOk.step T4.out.c zz5 hp
  have U5 := Lib.hid (T4.out.code hs5)
  have C5 := Lib.hid (B4.out.trans hs5.below)
  have y5 := C5.out.size
  clear hp hs5
  go_wp2_with fail
  refine (refWrite_c U5.out.d.rd M4.out.ok M4.out.left (by have := M4.out.few; omega) (H1.out.below (Nat.le_refl _) C5.out) (H1.out.far U5.out.d.old C5.out.size) N1.out 0).mono ?_
  intro e x5 hp
  obtain ⟨rfl, F5, hr5⟩ := DiskOk.step U5.out.d y5 hp
  have T6 := Lib.hid (U5.out.ref hr5)
  have B6 := Lib.hid (C5.out.trans hr5.below)
  have M6 := Lib.hid (M4.out.write 0 a)
  clear hp hr5
  generalize Dk.write (Dk.new n) 0 a = r6 at *
  go_wp2_with fail
  have zz7 := B6.out.size
  refine (cdWrite_c T6.out.c.cd M6.out.ok M6.out.left (by have := M6.out.few; omega) (H2.out.below (Nat.le_refl _) B6.out) (H2.out.far T6.out.c.old B6.out.size) N2.out (by omega) hc2 1).mono ?_
  intro e w7 hp
  obtain ⟨rfl, G7, hs7⟩ := CdOk.step T6.out.c zz7 hp
  have U7 := Lib.hid (T6.out.code hs7)
  have C7 := Lib.hid (B6.out.trans hs7.below)
  have y7 := C7.out.size
  clear hp hs7
  go_wp2_with fail
  refine (refWrite_c U7.out.d.rd M6.out.ok M6.out.left (by have := M6.out.few; omega) (H2.out.below (Nat.le_refl _) C7.out) (H2.out.far U7.out.d.old C7.out.size) N2.out 1).mono ?_
  intro e x7 hp
  obtain ⟨rfl, F7, hr7⟩ := DiskOk.step U7.out.d y7 hp
  have T8 := Lib.hid (U7.out.ref hr7)
  have B8 := Lib.hid (C7.out.trans hr7.below)
  have M8 := Lib.hid (M6.out.write 1 b)
  clear hp hr7
  generalize Dk.write r6.2 1 b = r8 at *
  go_wp2_with fail
  go_loopw [63] (fun i wr => ∃ (j : Nat) (G F : Nat → Prop) (D : Dk.D), j ≤ n3 ∧ i = .int .i64 j ∧ Tw w.heap.size wr G F q p D D ∧ Dk.Fine (2 + j) D ∧ Below w.heap.size w wr) (fun i _ => n3 - (intOf i).toNat)
  case atStart => exact ⟨0, G7, F7, r8.2, Nat.zero_le _, rfl, T8.out, M8.out, B8.out⟩
  case round =>
    obtain ⟨j, G, F, D, hj, rfl, ht, hm, hb⟩ := hrel
    have T := Lib.hid ht
    have M := Lib.hid hm
    have B := Lib.hid hb
    have hz := hb.size
    clear ht hm hb
    by_cases hlt : j < n3
    · have hlt2 : j < gs.length := by rw [← N3.out]; exact hlt
      obtain ⟨ad, rfl, hcell⟩ := (H3.out.below (Nat.le_refl _) B.out).num hlt2
      obtain ⟨g, eg⟩ : ∃ g, g = gs[j] := ⟨_, rfl⟩
      have GU := Lib.hid (show U64 g by rw [eg]; exact HG.out _ (List.getElem_mem hlt2))
      rw [← eg] at hcell
      clear eg
      go_wp2_with fail
      refine (suSave_c T.out.c.cd T.out.c.lt M.out.ok M.out.left (by have := M.out.few; omega) (H4.out.below (Nat.le_refl _) B.out) N4.out hc4 GU.out HX.out (by omega)).mono ?_
      intro e w9 hp
      obtain ⟨rfl, G9, hs9⟩ := CdOk.step T.out.c hz hp
      have U9 := Lib.hid (T.out.code hs9)
      have C9 := Lib.hid (B.out.trans hs9.below)
      have y9 := C9.out.size
      clear hp hs9
      go_wp2_with fail
      refine (refSave_c U9.out.d.rd U9.out.d.lt M.out.ok M.out.left (by have := M.out.few; omega) (H4.out.below (Nat.le_refl _) C9.out) N4.out GU.out HX.out (by omega)).mono ?_
      intro e x9 hp
      obtain ⟨rfl, F9, hr9⟩ := DiskOk.step U9.out.d y9 hp
      have T9 := Lib.hid (U9.out.ref hr9)
      have B9 := Lib.hid (C9.out.trans hr9.below)
      have M9 := Lib.hid (save_fine M.out g l)
      clear hp hr9
      generalize Su.save D g l = r at *
      obtain ⟨er, D2⟩ := r
      dsimp only at T9 M9 ⊢
      have ee : (er != er) = false := by simp
      go_wp2
      go_roundw
      case rel => exact ⟨j + 1, G9, F9, D2, by omega, by go_num, T9.out, M9.out, B9.out⟩
      case measure => simp [intOf]; omega
    · obtain rfl : j = n3 := by omega
      go_wp2_with fail
      refine (suLoad_c T.out.c.cd T.out.c.lt M.out.ok (by have := M.out.few; omega)).mono ?_
      have lf := Su.load_few D
      obtain ⟨x, hx⟩ : ∃ x, x = Su.load D := ⟨_, rfl⟩
      rw [← hx] at lf ⊢
      have LX := Lib.hid hx
      clear hx
      obtain ⟨xg, xl, xe⟩ := x
      rintro e w9 ⟨A5, n5, c5, rfl, hn5, hc5, ho5, hb5⟩
      dsimp only at hn5 ho5 lf ⊢
      have O5 := Lib.hid ho5
      have N5 := Lib.hid hn5
      have T5 := Lib.hid (T.out.keep hb5)
      have B5 := Lib.hid (B.out.trans (hb5.mono hz))
      have z5 := B5.out.size
      have few : n5 ≤ 4 := by rw [hn5]; exact lf
      clear ho5 hb5 hn5 lf
      go_wp2_with fail
      refine (refLoad_c T5.out.d.rd T5.out.d.lt M.out.ok (by have := M.out.few; omega)).mono ?_
      rw [← LX.out]
      rintro e x9 ⟨A6, n6, c6, rfl, hn6, hc6, ho6, hb6⟩
      dsimp only at hn6 ho6 ⊢
      have O6 := Lib.hid ho6
      have N6 := Lib.hid hn6
      have O55 := Lib.hid (own_below O5.out hb6)
      have B6' := Lib.hid (B5.out.trans (hb6.mono z5))
      have eg : ((xg : Int) == (xg : Int)) = true := by simp
      have ee : (xe == xe) = true := by simp
      clear ho6 hb6 hn6
      go_wp2_with fail
      refine (sameNums_c (Lies.of_own (B := 0) O55.out) (Lies.of_own (B := 0) O6.out) N5.out N6.out (by omega) rfl).mono ?_
      rintro e w6 ⟨rfl, jj, rfl⟩
      go_wp2
      go_ret
      exact ⟨rfl, below_drewN B6'.out jj⟩
end Go.Proofs.Ythddpenpmjonkaa
