/- Contract of the document's own Unslot. -/
import Derived.Test.YtbfkjneidabijaaGreatSm
import Derived.Test.YtbfkjneidabijaaGreatRr
import Derived.Deep.RegionHeld3
namespace Go.Proofs.YtbfkjneidabijaaGreat
open Go.RowKit
set_option maxRecDepth 100000

/-- It returned a number, numbers of its own and an error's number, and left all older memory alone. -/
def NErrOk (B : Nat) (x : Nat × List Nat × Int) (w : World) (e : Ending) (w' : World) : Prop :=
  ∃ A n c, e = .returned (.tuple #[.int .u64 (x.1 : Int), .slice A n c, .int .i64 x.2.2]) ∧ n = x.2.1.length ∧ n ≤ c ∧ w'.ownsRow B 52 1 (.slice A n c) n (ncells x.2.1) ∧ Below B w w'
theorem NErrOk.bad {w w' : World} {er : Int} (h : Below w.heap.size w w') : NErrOk w.heap.size (0, [], er) w (.returned (.tuple #[.int .u64 0, .slice none 0 0, .int .i64 er])) w' :=
  ⟨none, 0, 0, rfl, rfl, Nat.le_refl _, World.ownsRow_nil _ _ _ _, h⟩

namespace Su
theorem unslot_head {b : List UInt8} (h : b.take 2 ≠ [70, 83]) : unslot b = none := by unfold unslot; exact if_neg h
theorem unslot_fail {b : List UInt8} (h : (tell (some (b.drop 2))).2.2 = none) : unslot b = none := by
  unfold unslot
  split
  · exact if_neg (by rw [h]; simp)
  · rfl
theorem unslot_not {b : List UInt8} {g : Nat} {l : List Nat} {s : Option (List UInt8)} (h : tell (some (b.drop 2)) = (g, l, s)) (hi : is b g l = false) : unslot b = none := by
  unfold unslot
  rw [h]
  split
  · exact if_neg (by rw [hi]; simp)
  · rfl
theorem unslot_yes {b : List UInt8} {g : Nat} {l : List Nat} {t : List UInt8} (h0 : b.take 2 = [70, 83]) (h : tell (some (b.drop 2)) = (g, l, some t)) (hi : is b g l = true) : unslot b = some (g, l) := by
  unfold unslot
  rw [if_pos h0, h, if_pos ⟨rfl, hi⟩]
end Su

theorem short_rdN {N m : Nat} {s : Option (List UInt8)} (h : ∀ l, s = some l → l.length ≤ N) : ∀ l, (Cd.rdN m s).2 = some l → l.length ≤ N := by
  intro t ht
  cases s with
  | none => cases ht
  | some l =>
    have q := (Cd.read_num (Cd.pair_of ht)).1
    have := congrArg List.length q
    rw [List.length_append] at this
    have := h l rfl
    omega
theorem short_rdL {N : Nat} {s : Option (List UInt8)} (h : ∀ l, s = some l → l.length ≤ N) (k : Nat) : ∀ l, (Su.rdL k s).2 = some l → l.length ≤ N := by
  induction k generalizing s with
  | zero => exact h
  | succ k ih => exact ih (short_rdN h)
theorem napp_step {B : Nat} {w w1 : World} {v : Value} {n : Nat} {xs : List Value} (h : w.ownsRow B 52 1 v n xs) (hg : w.grownBy w1 v.ownBlock) (hB : B ≤ w.heap.size) : Tch B [52] w w1 :=
  grown_tch h hg (Nat.le_refl _) hB (by decide)
theorem lies_num {w : World} {x : Nat} {g : Nat} (hg : g = w.heap.size) : Lies (w.alloc (.cells #[.int .u64 (x : Int)] 52)) 0 52 (some ⟨g, 0, none⟩) (ncells [x]) := by
  subst hg
  exact Lies.of_blk (heap_alloc_new w _)
theorem lt_two {l : List UInt8} (h : ¬ l.length < 2) : ∃ x y t, l = x :: y :: t := by
  rcases l with _ | ⟨a, _ | ⟨b, t⟩⟩
  · simp at h
  · simp at h
  · exact ⟨a, b, t, rfl⟩
theorem u8_ne {x : UInt8} {k : Nat} (hk : k < 256) (h : x ≠ UInt8.ofNat k) : ((x.toNat : Int) != (k : Int)) = true := by
  have q : x.toNat ≠ k := fun q => h (UInt8.toNat_inj.1 (by rw [q, UInt8.toNat_ofNat', Nat.mod_eq_of_lt hk]))
  simp; omega

set_option maxHeartbeats 4000000 in
set_option maxRecDepth 100000 in
theorem refUnslot_c {A : Option Addr} {n c : Nat} {b : List UInt8} {w : World} {B : Nat} {t : TypeId} (hL : Lies w B t A (bcells b)) (hn : n = b.length) (hc : n ≤ c) (hs : n ≤ 1000000000) :
    Calls Tryz.prog 62 #[.slice A n c] w (NErrOk w.heap.size (Su.ofPick (Su.unslot b)) w) := by
  have HL := Lib.hid (hL.old (t' := 0))
  have HN := Lib.hid hn
  clear hL hn
  by_cases h2 : n < 2
  · have e : Su.unslot b = none := Su.unslot_head (fun q => by
      have := congrArg List.length q
      rw [List.length_take, ← HN.out] at this
      simp at this
      omega)
    rw [e]
    clear e
    go_enter Tryz.func62, Tryz.ntmps62
    go_wp2
    refine bodyPost_ret (v := .tuple #[.int .u64 0, .slice none 0 0, .int .i64 60]) (by simp [results, Tryz.results62, go_sem]) rfl ?_
    exact NErrOk.bad (Below.refl _ _)
  obtain ⟨x, y, b2, rfl⟩ := lt_two (l := b) (by rw [← HN.out]; exact h2)
  obtain ⟨ad, rfl, cx⟩ := HL.out.byteAt (k := 0) (x := x) rfl
  obtain ⟨ad', e', cy⟩ := HL.out.byteAt (k := 1) (x := y) rfl
  injection e' with e'
  subst e'
  have cx' : w.cell? ad = some (.int .u8 (x.toNat : Int)) := cx
  have cy' : w.cell? ⟨ad.block, ad.off + 1, none⟩ = some (.int .u8 (y.toNat : Int)) := cy
  clear cx cy
  by_cases hx : x = 70
  · by_cases hy : y = 83
    · subst hx
      subst hy
      have ex : (((70 : UInt8).toNat : Int) != 70) = false := by decide
      have ey : (((83 : UInt8).toNat : Int) != 83) = false := by decide
      have l2 : b2.length = n - 2 := by have := HN.out; simp at this; omega
      obtain ⟨A2, hA2⟩ : ∃ A2, (if c = 2 then some ad else some ⟨ad.block, ad.off + 2, none⟩) = A2 := ⟨_, rfl⟩
      have hB2 : Lies w w.heap.size 0 A2 (bcells b2) := by
        have q := HL.out.cut 2 c (by rw [bcells_len, ← HN.out]; exact hc)
        rw [bcells_drop] at q
        rw [← hA2]
        exact q
      have LB := Lib.hid hB2
      have L2 := Lib.hid l2
      clear hB2 l2
      go_enter Tryz.func62, Tryz.ntmps62
      go_wp2_with fail
      have R0 : RS 135 w.heap.size 0 (w.alloc (.cells #[.slice A2 (n - 2) (c - 2), .bool false] 135)) w.heap.size (some b2) :=
        ⟨Nat.le_refl _, A2, c - 2, by rw [L2.out]; omega, by rw [L2.out]; exact heap_alloc_new w _, LB.out.alloc (Nat.le_refl _) _⟩
      have H0 := Lib.hid (show ∀ l, some b2 = some l → l.length ≤ 1099511627776 from fun l e => by injection e with e; subst e; rw [L2.out]; omega)
      obtain ⟨g, s1, e1⟩ : ∃ g s1, Cd.rdN Cd.full (some b2) = (g, s1) := ⟨_, _, rfl⟩
      obtain ⟨k, s2, e2⟩ : ∃ k s2, Cd.rdN 4 s1 = (k, s2) := ⟨_, _, rfl⟩
      have E1 := Lib.hid e1
      have E2 := Lib.hid e2
      have H1 := Lib.hid (show ∀ l, s1 = some l → l.length ≤ 1099511627776 by have q := short_rdN (m := Cd.full) H0.out; rw [e1] at q; exact q)
      have H2 := Lib.hid (show ∀ l, s2 = some l → l.length ≤ 1099511627776 by have q := short_rdN (m := 4) H1.out; rw [e2] at q; exact q)
      have k4 : k ≤ 4 := by have q := (Cd.rdN_lt 4 s1).2; rw [e2] at q; exact q
      have GU := Lib.hid (show U64 g by have q := (Cd.rdN_lt Cd.full (some b2)).1; rw [e1] at q; exact q)
      have LU := Lib.hid (show ∀ x ∈ (Su.rdL k s2).1, U64 x from Su.rdL_lt k s2)
      have TE := Lib.hid (show Su.tell (some (((70 : UInt8) :: 83 :: b2).drop 2)) = (g, (Su.rdL k s2).1, (Su.rdL k s2).2) by
        show Su.tell (some b2) = _
        unfold Su.tell
        simp only
        rw [e1]
        simp only
        rw [e2])
      have B0 := Lib.hid ((Below.refl w.heap.size w).alloc (Nat.le_refl _) (.cells #[.slice A2 (n - 2) (c - 2), .bool false] 135))
      obtain ⟨ti, hi, iz0, iz1, iz2⟩ := info_parts Tryz.infoU64
      clear e1 e2
      refine (rN_rr (mz := 18446744073709551615) R0 (by decide) H0.out (by decide)).mono ?_
      rw [full_nat, E1.out]
      rintro e w1 ⟨rfl, hr1, ht1⟩
      have R1 := Lib.hid hr1
      have B1 := Lib.hid (B0.out.trans ht1.below)
      clear hr1 ht1 R0
      go_wp2_with fail
      refine (rN_rr (mz := 4) R1.out (by decide) H1.out (by decide)).mono ?_
      rw [show (4 : Int).toNat = 4 from rfl, E2.out]
      rintro e w2 ⟨rfl, hr2, ht2⟩
      have R2 := Lib.hid hr2
      have B2 := Lib.hid (B1.out.trans ht2.below)
      clear hr2 ht2
      go_wp2_with fail
      go_loopw [8, 9] (fun s i wr => ∃ (j : Nat) (A3 : Option Addr) (c3 : Nat), j ≤ k ∧ i = .int .u64 j ∧ s = .slice A3 j c3 ∧ wr.ownsRow w.heap.size 52 1 (.slice A3 j c3) j (ncells (Su.rdL j s2).1) ∧ RS 135 w.heap.size 0 wr w.heap.size (Su.rdL j s2).2 ∧ Below w.heap.size w wr) (fun _ i _ => k - (intOf i).toNat)
      case atStart => exact ⟨0, none, 0, Nat.zero_le _, rfl, rfl, World.ownsRow_nil _ _ _ _, R2.out, B2.out⟩
      case round =>
        obtain ⟨j, A3, c3, hj, rfl, rfl, ho, hr, hb⟩ := hrel
        have O3 := Lib.hid ho
        have R3 := Lib.hid hr
        have B3 := Lib.hid hb
        have z3 := hb.size
        clear ho hr hb
        by_cases hlt : j < k
        · obtain ⟨x, s4, e4⟩ : ∃ x s4, Cd.rdN Cd.full (Su.rdL j s2).2 = (x, s4) := ⟨_, _, rfl⟩
          have E4 := Lib.hid e4
          have NX : Hid (Su.rdL (j + 1) s2 = ((Su.rdL j s2).1 ++ [x], s4)) := Lib.hid (by rw [Su.rdL_snoc, e4])
          clear e4
          go_wp2_with fail
          refine (rN_rr (mz := 18446744073709551615) R3.out (by decide) (short_rdL H2.out j) (by decide)).mono ?_
          rw [full_nat, E4.out]
          rintro e w4 ⟨rfl, hr4, ht4⟩
          have R4 := Lib.hid hr4
          have B4 := Lib.hid (B3.out.trans ht4.below)
          have O4 := Lib.hid (own_tch O3.out ht4 (by decide))
          have z4 := B4.out.size
          clear hr4 ht4
          go_wp2_with (at_builtin; refine wpList_app _ rfl _ _ 72 rfl w.heap.size 52 ti (.int .u64 0) 1 8 Tryz.underlying72 hi iz0 iz1 iz2 rfl (by decide) _ j _ rfl (O4.out.alloc _) 0 _ 1 1 (ncells [x]) 52 rfl rfl (lies_num rfl) (ncells_one _) (by unfold maxLen; omega) (by omega) (by simp; omega) ?_)
          intro v' w5 hown hgrow _
          obtain ⟨A5, k5, rfl⟩ := own_slice hown
          have T5 := Lib.hid (napp_step (O4.out.alloc _) hgrow (by simp; omega))
          have O5 := Lib.hid hown
          have R5 := Lib.hid ((R4.out.alloc (.cells #[.int .u64 (x : Int)] 52)).tch T5.out (by decide) (by decide))
          have B5 := Lib.hid ((B4.out.alloc z4 _).trans T5.out.below)
          clear hown hgrow
          go_wp2
          go_roundw
          case rel => exact ⟨j + 1, A5, k5, by omega, by go_num, rfl, by rw [NX.out, ncells_app]; exact O5.out, by rw [NX.out]; exact R5.out, B5.out⟩
          case measure => simp [intOf]; omega
        · obtain rfl : j = k := by omega
          have ll : (Su.rdL j s2).1.length = j := Su.rdL_len j s2
          obtain ⟨l, hl⟩ : ∃ l, l = (Su.rdL j s2).1 := ⟨_, rfl⟩
          obtain ⟨s3, hs3⟩ : ∃ s3, s3 = (Su.rdL j s2).2 := ⟨_, rfl⟩
          rw [← hl] at ll LU TE O3
          rw [← hs3] at TE R3
          clear hl hs3
          have LN := Lib.hid ll
          have se : Su.slotE l = 0 := by unfold Su.slotE; rw [if_neg (by omega)]
          have sb : Su.slotB g l = Su.slot g l := by unfold Su.slotB; rw [if_neg (by omega)]
          have SE := Lib.hid se
          have SB := Lib.hid sb
          have SF := Su.slot_fits (g := g) (l := l) (by omega)
          clear ll se sb
          go_wp2_with fail
          refine (refSlot_c (t := 52) (B := w.heap.size) (Lies.of_own O3.out) LN.out.symm GU.out LU.out (by omega)).mono ?_
          rw [SE.out, SB.out]
          rintro e w6 ⟨A6, n6, c6, rfl, hl6, hc6, ho6, hb6⟩
          obtain ⟨wt, hwt⟩ : ∃ wt, wt = Su.slot g l := ⟨_, rfl⟩
          rw [← hwt] at hl6 ho6 SF
          have WT := Lib.hid hwt
          subst hl6
          have W6 := Lib.hid ho6
          have B6 := Lib.hid (B3.out.trans (hb6.mono z3))
          have O6 := Lib.hid (own_below O3.out hb6)
          have bd := bad_of (R3.out.below hb6)
          have g1 := conv_at (c := c6) (lies_own (B := 0) ho6) rfl
          have B6w := Lib.hid (show Below w.heap.size w w6.drew from B6.out.drew)
          clear ho6 hb6 hwt
          cases s3 with
          | none =>
            have e : Su.unslot (70 :: 83 :: b2) = none := Su.unslot_fail (by rw [TE.out])
            have HE := Lib.hid e
            clear e
            rw [show (none : Option (List UInt8)).isNone = true from rfl] at bd
            go_wp2_with fail
            refine wp_region_held_drew (S := fun u => u.cell? ⟨w.heap.size, 1, none⟩ = some (.bool true)) (by kernel_rfl) (bd) (fun S0 => ?_)
            refine wpAnyH_take (i := 0) (v := ?_) rfl (by kernel_rfl) (by kernel_rfl) (by kernel_rfl) (fun _ _ _ h => h) (Or.inl ⟨by rfl, ?_⟩) S0 ?_
            rotate_left
            · intro u hu
              go_simp
              try rfl
            try simp only [Act.put, List.setIfInBounds_toArray, List.set_cons_zero, List.set_cons_succ, List.getElem_toArray, List.getElem_cons_zero]
            refine wpAnyH_take (i := 1) (v := ?_) rfl (by kernel_rfl) (by kernel_rfl) (by kernel_rfl) (fun _ _ _ h => h) (Or.inl ⟨by rfl, ?_⟩) S0 ?_
            rotate_left
            · intro u hu
              go_simp
              try rfl
            try simp only [Act.put, List.setIfInBounds_toArray, List.set_cons_zero, List.set_cons_succ, List.getElem_toArray, List.getElem_cons_zero, List.getElem_cons_succ]
            refine wpAnyH_take (i := 2) (v := ?_) rfl (by kernel_rfl) (by kernel_rfl) (by kernel_rfl) (fun _ _ _ h => h) (Or.inl ⟨by rfl, ?_⟩) S0 ?_
            rotate_left
            · intro u hu
              go_simp
              try rfl
            try simp only [Act.put, List.setIfInBounds_toArray, List.set_cons_zero, List.set_cons_succ, List.getElem_toArray, List.getElem_cons_zero, List.getElem_cons_succ]
            refine wpAnyH_take (i := 3) (v := ?_) rfl (by kernel_rfl) (by kernel_rfl) (by kernel_rfl) (fun _ _ _ h => h) (Or.inl ⟨by rfl, ?_⟩) S0 ?_
            rotate_left
            · intro u hu
              go_simp
              try rfl
            try simp only [Act.put, List.setIfInBounds_toArray, List.set_cons_zero, List.set_cons_succ, List.getElem_toArray, List.getElem_cons_zero, List.getElem_cons_succ]
            refine wpAnyH_take (i := 4) (v := ?_) rfl (by kernel_rfl) (by kernel_rfl) (by kernel_rfl) (fun _ _ _ h => h) (Or.inl ⟨by rfl, ?_⟩) S0 ?_
            rotate_left
            · intro u hu
              go_simp
              try rfl
            try simp only [Act.put, List.setIfInBounds_toArray, List.set_cons_zero, List.set_cons_succ, List.getElem_toArray, List.getElem_cons_zero, List.getElem_cons_succ]
            refine wpAnyH_take (i := 5) (v := undef) rfl (by kernel_rfl) (by kernel_rfl) (by kernel_rfl) (fun _ _ _ h => h) (Or.inr ⟨by rfl, rfl⟩) S0 ?_
            try simp only [Act.put, List.setIfInBounds_toArray, List.set_cons_zero, List.set_cons_succ, List.getElem_toArray, List.getElem_cons_zero, List.getElem_cons_succ]
            refine wpAnyH_take (i := 6) (v := undef) rfl (by kernel_rfl) (by kernel_rfl) (by kernel_rfl) (fun _ _ _ h => h) (Or.inr ⟨by rfl, rfl⟩) S0 ?_
            try simp only [Act.put, List.setIfInBounds_toArray, List.set_cons_zero, List.set_cons_succ, List.getElem_toArray, List.getElem_cons_zero, List.getElem_cons_succ]
            refine wpAnyH_take (i := 7) (v := undef) rfl (by kernel_rfl) (by kernel_rfl) (by kernel_rfl) (fun _ _ _ h => h) (Or.inr ⟨by rfl, rfl⟩) S0 ?_
            try simp only [Act.put, List.setIfInBounds_toArray, List.set_cons_zero, List.set_cons_succ, List.getElem_toArray, List.getElem_cons_zero, List.getElem_cons_succ]
            refine wpAnyH_take (i := 8) (v := undef) rfl (by kernel_rfl) (by kernel_rfl) (by kernel_rfl) (fun _ _ _ h => h) (Or.inr ⟨by rfl, rfl⟩) S0 ?_
            try simp only [Act.put, List.setIfInBounds_toArray, List.set_cons_zero, List.set_cons_succ, List.getElem_toArray, List.getElem_cons_zero, List.getElem_cons_succ]
            refine wpAnyH_take (i := 9) (v := undef) rfl (by kernel_rfl) (by kernel_rfl) (by kernel_rfl) (fun _ _ _ h => h) (Or.inr ⟨by rfl, rfl⟩) S0 ?_
            try simp only [Act.put, List.setIfInBounds_toArray, List.set_cons_zero, List.set_cons_succ, List.getElem_toArray, List.getElem_cons_zero, List.getElem_cons_succ]
            refine wpAnyH_take (i := 10) (v := ?_) rfl (by kernel_rfl) (by kernel_rfl) (by kernel_rfl) (fun _ _ _ h => h) (Or.inl ⟨by rfl, ?_⟩) S0 ?_
            rotate_left
            · intro u hu
              go_simp
              try rfl
            try simp only [Act.put, List.setIfInBounds_toArray, List.set_cons_zero, List.set_cons_succ, List.getElem_toArray, List.getElem_cons_zero, List.getElem_cons_succ]
            refine wpAnyH_take (i := 11) (v := ?_) rfl (by kernel_rfl) (by kernel_rfl) (by kernel_rfl) (fun _ _ _ h => h) (Or.inl ⟨by rfl, ?_⟩) S0 ?_
            rotate_left
            · intro u hu
              go_simp
              try rfl
            try simp only [Act.put, List.setIfInBounds_toArray, List.set_cons_zero, List.set_cons_succ, List.getElem_toArray, List.getElem_cons_zero, List.getElem_cons_succ]
            refine wpAnyH_take (i := 12) (v := undef) rfl (by kernel_rfl) (by kernel_rfl) (by kernel_rfl) (fun _ _ _ h => h) (Or.inr ⟨by rfl, rfl⟩) S0 ?_
            try simp only [Act.put, List.setIfInBounds_toArray, List.set_cons_zero, List.set_cons_succ, List.getElem_toArray, List.getElem_cons_zero, List.getElem_cons_succ]
            refine wpAnyH_take (i := 13) (v := undef) rfl (by kernel_rfl) (by kernel_rfl) (by kernel_rfl) (fun _ _ _ h => h) (Or.inr ⟨by rfl, rfl⟩) S0 ?_
            try simp only [Act.put, List.setIfInBounds_toArray, List.set_cons_zero, List.set_cons_succ, List.getElem_toArray, List.getElem_cons_zero, List.getElem_cons_succ]
            refine wpAnyH_take (i := 14) (v := undef) rfl (by kernel_rfl) (by kernel_rfl) (by kernel_rfl) (fun _ _ _ h => h) (Or.inr ⟨by rfl, rfl⟩) S0 ?_
            try simp only [Act.put, List.setIfInBounds_toArray, List.set_cons_zero, List.set_cons_succ, List.getElem_toArray, List.getElem_cons_zero, List.getElem_cons_succ]
            refine wpAnyH_take (i := 15) (v := undef) rfl (by kernel_rfl) (by kernel_rfl) (by kernel_rfl) (fun _ _ _ h => h) (Or.inr ⟨by rfl, rfl⟩) S0 ?_
            try simp only [Act.put, List.setIfInBounds_toArray, List.set_cons_zero, List.set_cons_succ, List.getElem_toArray, List.getElem_cons_zero, List.getElem_cons_succ]
            refine wpAnyH_take (i := 16) (v := undef) rfl (by kernel_rfl) (by kernel_rfl) (by kernel_rfl) (fun _ _ _ h => h) (Or.inr ⟨by rfl, rfl⟩) S0 ?_
            try simp only [Act.put, List.setIfInBounds_toArray, List.set_cons_zero, List.set_cons_succ, List.getElem_toArray, List.getElem_cons_zero, List.getElem_cons_succ]
            refine wpAnyH_take (i := 17) (v := undef) rfl (by kernel_rfl) (by kernel_rfl) (by kernel_rfl) (fun _ _ _ h => h) (Or.inr ⟨by rfl, rfl⟩) S0 ?_
            try simp only [Act.put, List.setIfInBounds_toArray, List.set_cons_zero, List.set_cons_succ, List.getElem_toArray, List.getElem_cons_zero, List.getElem_cons_succ]
            refine wpAnyH_take (i := 18) (v := undef) rfl (by kernel_rfl) (by kernel_rfl) (by kernel_rfl) (fun _ _ _ h => h) (Or.inr ⟨by rfl, rfl⟩) S0 ?_
            try simp only [Act.put, List.setIfInBounds_toArray, List.set_cons_zero, List.set_cons_succ, List.getElem_toArray, List.getElem_cons_zero, List.getElem_cons_succ]
            refine wpAnyH_take (i := 19) (v := undef) rfl (by kernel_rfl) (by kernel_rfl) (by kernel_rfl) (fun _ _ _ h => h) (Or.inr ⟨by rfl, rfl⟩) S0 ?_
            try simp only [Act.put, List.setIfInBounds_toArray, List.set_cons_zero, List.set_cons_succ, List.getElem_toArray, List.getElem_cons_zero, List.getElem_cons_succ]
            refine wpAnyH_take (i := 20) (v := ?_) rfl (by kernel_rfl) (by kernel_rfl) (by kernel_rfl) (fun _ _ _ h => h) (Or.inl ⟨by rfl, ?_⟩) S0 ?_
            rotate_left
            · intro u hu
              go_simp
              try rfl
            try simp only [Act.put, List.setIfInBounds_toArray, List.set_cons_zero, List.set_cons_succ, List.getElem_toArray, List.getElem_cons_zero, List.getElem_cons_succ]
            refine wpAnyH_done (by kernel_rfl) ?_ _
            clear S0
            go_wp2
            refine bodyPost_ret (v := .tuple #[.int .u64 0, .slice none 0 0, .int .i64 60]) (by simp [results, Tryz.results62, go_sem]) rfl ?_
            rw [HE.out]
            exact NErrOk.bad B6.out.drew
          | some tl =>
            rw [show (some tl).isNone = false from rfl] at bd
            by_cases hlen : wt.length ≤ n
            · have hlen2 : decide (n < wt.length) = false := by simp; omega
              obtain ⟨bb, hbb⟩ : ∃ bb, bb = (70 : UInt8) :: 83 :: b2 := ⟨_, rfl⟩
              rw [← hbb] at HL HN TE ⊢
              have B0b := Lib.hid (show bb.take 2 = [70, 83] by rw [hbb]; rfl)
              obtain ⟨tk, htk⟩ : ∃ tk, tk = bb.take wt.length := ⟨_, rfl⟩
              have ltk : tk.length = wt.length := by rw [htk, List.length_take, ← HN.out]; omega
              have HT : Lies w6.drew w.heap.size 0 (some ad) (bcells tk) := by
                have q := (((HL.out.below (Nat.le_refl _) B6.out).drew).take wt.length)
                rw [bcells_take, ← htk] at q
                exact q
              have g2 := conv_at (c := c) HT ltk.symm
              have g3 := conv_at (c := c6) (lies_own (B := 0) W6.out.drew) rfl
              have TKE := Lib.hid htk
              have IS : Hid (Su.is bb g l = ((wt == tk) && (bb.drop wt.length).all (· == 0))) := Lib.hid (by
                unfold Su.is
                rw [← WT.out, decide_eq_true (show wt.length ≤ bb.length by rw [← HN.out]; exact hlen), Bool.true_and, htk]
                congr 1
                by_cases q : wt = bb.take wt.length
                · rw [decide_eq_true q]; exact (beq_iff_eq.2 q).symm
                · rw [decide_eq_false q]; exact (beq_eq_false_iff_ne.2 q).symm)
              have w0 : 0 ≤ (wt.length : Int) := by omega
              have w1' : (wt.length : Int) ≤ (c : Int) := by omega
              have w2' : (wt.length : Int) ≤ (n : Int) := by omega
              have BBE := Lib.hid hbb
              clear g1 hbb htk ltk HT
              cases hq : (wt == tk)
              · have hq' : (wt != tk) = true := by rw [bne, hq]; rfl
                have hq2 : (!(wt == tk)) = true := by rw [hq]; rfl
                have HE := Lib.hid (Su.unslot_not (b := bb) TE.out (by rw [IS.out, hq]; rfl))
                have S1 : w6.drew.cell? ⟨w.heap.size, 1, none⟩ = some (.bool false) ∧ (convert 57 9 (.slice A6 wt.length c6)).run Tryz.prog w6.drew = .ok (.string (str wt)) w6.drew ∧ (convert 57 9 (.slice (some ad) wt.length c)).run Tryz.prog w6.drew = .ok (.string (str tk)) w6.drew := ⟨bd, g3, g2⟩
                clear g2 g3 hq
                go_wp2_with fail
                refine wp_region_held_drew (S := fun u => u.cell? ⟨w.heap.size, 1, none⟩ = some (.bool false) ∧ (convert 57 9 (.slice A6 wt.length c6)).run Tryz.prog u = .ok (.string (str wt)) u ∧ (convert 57 9 (.slice (some ad) wt.length c)).run Tryz.prog u = .ok (.string (str tk)) u) (by kernel_rfl) (S1) (fun S0 => ?_)
                refine wpAnyH_take (i := 0) (v := ?_) rfl (by kernel_rfl) (by kernel_rfl) (by kernel_rfl) (fun _ _ _ h => h) (Or.inl ⟨by rfl, ?_⟩) S0 ?_
                rotate_left
                · intro u hu
                  obtain ⟨u1, u2, u3⟩ := hu
                  go_simp
                  try rfl
                try simp only [Act.put, List.setIfInBounds_toArray, List.set_cons_zero, List.set_cons_succ, List.getElem_toArray, List.getElem_cons_zero]
                refine wpAnyH_take (i := 1) (v := ?_) rfl (by kernel_rfl) (by kernel_rfl) (by kernel_rfl) (fun _ _ _ h => h) (Or.inl ⟨by rfl, ?_⟩) S0 ?_
                rotate_left
                · intro u hu
                  obtain ⟨u1, u2, u3⟩ := hu
                  go_simp
                  try rfl
                try simp only [Act.put, List.setIfInBounds_toArray, List.set_cons_zero, List.set_cons_succ, List.getElem_toArray, List.getElem_cons_zero, List.getElem_cons_succ]
                refine wpAnyH_take (i := 2) (v := ?_) rfl (by kernel_rfl) (by kernel_rfl) (by kernel_rfl) (fun _ _ _ h => h) (Or.inl ⟨by rfl, ?_⟩) S0 ?_
                rotate_left
                · intro u hu
                  obtain ⟨u1, u2, u3⟩ := hu
                  go_simp
                  try rfl
                try simp only [Act.put, List.setIfInBounds_toArray, List.set_cons_zero, List.set_cons_succ, List.getElem_toArray, List.getElem_cons_zero, List.getElem_cons_succ]
                refine wpAnyH_take (i := 3) (v := ?_) rfl (by kernel_rfl) (by kernel_rfl) (by kernel_rfl) (fun _ _ _ h => h) (Or.inl ⟨by rfl, ?_⟩) S0 ?_
                rotate_left
                · intro u hu
                  obtain ⟨u1, u2, u3⟩ := hu
                  go_simp
                  try rfl
                try simp only [Act.put, List.setIfInBounds_toArray, List.set_cons_zero, List.set_cons_succ, List.getElem_toArray, List.getElem_cons_zero, List.getElem_cons_succ]
                refine wpAnyH_take (i := 4) (v := ?_) rfl (by kernel_rfl) (by kernel_rfl) (by kernel_rfl) (fun _ _ _ h => h) (Or.inl ⟨by rfl, ?_⟩) S0 ?_
                rotate_left
                · intro u hu
                  obtain ⟨u1, u2, u3⟩ := hu
                  go_simp
                  try rfl
                try simp only [Act.put, List.setIfInBounds_toArray, List.set_cons_zero, List.set_cons_succ, List.getElem_toArray, List.getElem_cons_zero, List.getElem_cons_succ]
                refine wpAnyH_take (i := 5) (v := ?_) rfl (by kernel_rfl) (by kernel_rfl) (by kernel_rfl) (fun _ _ _ h => h) (Or.inl ⟨by rfl, ?_⟩) S0 ?_
                rotate_left
                · intro u hu
                  obtain ⟨u1, u2, u3⟩ := hu
                  go_simp
                  try rfl
                try simp only [Act.put, List.setIfInBounds_toArray, List.set_cons_zero, List.set_cons_succ, List.getElem_toArray, List.getElem_cons_zero, List.getElem_cons_succ]
                refine wpAnyH_take (i := 6) (v := ?_) rfl (by kernel_rfl) (by kernel_rfl) (by kernel_rfl) (fun _ _ _ h => h) (Or.inl ⟨by rfl, ?_⟩) S0 ?_
                rotate_left
                · intro u hu
                  obtain ⟨u1, u2, u3⟩ := hu
                  go_simp
                  try rfl
                try simp only [Act.put, List.setIfInBounds_toArray, List.set_cons_zero, List.set_cons_succ, List.getElem_toArray, List.getElem_cons_zero, List.getElem_cons_succ]
                refine wpAnyH_take (i := 7) (v := ?_) rfl (by kernel_rfl) (by kernel_rfl) (by kernel_rfl) (fun _ _ _ h => h) (Or.inl ⟨by rfl, ?_⟩) S0 ?_
                rotate_left
                · intro u hu
                  obtain ⟨u1, u2, u3⟩ := hu
                  go_simp
                  try rfl
                try simp only [Act.put, List.setIfInBounds_toArray, List.set_cons_zero, List.set_cons_succ, List.getElem_toArray, List.getElem_cons_zero, List.getElem_cons_succ]
                refine wpAnyH_take (i := 8) (v := ?_) rfl (by kernel_rfl) (by kernel_rfl) (by kernel_rfl) (fun _ _ _ h => h) (Or.inl ⟨by rfl, ?_⟩) S0 ?_
                rotate_left
                · intro u hu
                  obtain ⟨u1, u2, u3⟩ := hu
                  go_simp
                  try rfl
                try simp only [Act.put, List.setIfInBounds_toArray, List.set_cons_zero, List.set_cons_succ, List.getElem_toArray, List.getElem_cons_zero, List.getElem_cons_succ]
                refine wpAnyH_take (i := 9) (v := ?_) rfl (by kernel_rfl) (by kernel_rfl) (by kernel_rfl) (fun _ _ _ h => h) (Or.inl ⟨by rfl, ?_⟩) S0 ?_
                rotate_left
                · intro u hu
                  obtain ⟨u1, u2, u3⟩ := hu
                  go_simp
                  try rfl
                try simp only [Act.put, List.setIfInBounds_toArray, List.set_cons_zero, List.set_cons_succ, List.getElem_toArray, List.getElem_cons_zero, List.getElem_cons_succ]
                refine wpAnyH_take (i := 10) (v := ?_) rfl (by kernel_rfl) (by kernel_rfl) (by kernel_rfl) (fun _ _ _ h => h) (Or.inl ⟨by rfl, ?_⟩) S0 ?_
                rotate_left
                · intro u hu
                  obtain ⟨u1, u2, u3⟩ := hu
                  go_simp
                  try rfl
                try simp only [Act.put, List.setIfInBounds_toArray, List.set_cons_zero, List.set_cons_succ, List.getElem_toArray, List.getElem_cons_zero, List.getElem_cons_succ]
                refine wpAnyH_take (i := 11) (v := ?_) rfl (by kernel_rfl) (by kernel_rfl) (by kernel_rfl) (fun _ _ _ h => h) (Or.inl ⟨by rfl, ?_⟩) S0 ?_
                rotate_left
                · intro u hu
                  obtain ⟨u1, u2, u3⟩ := hu
                  go_simp
                  try rfl
                try simp only [Act.put, List.setIfInBounds_toArray, List.set_cons_zero, List.set_cons_succ, List.getElem_toArray, List.getElem_cons_zero, List.getElem_cons_succ]
                refine wpAnyH_take (i := 12) (v := ?_) rfl (by kernel_rfl) (by kernel_rfl) (by kernel_rfl) (fun _ _ _ h => h) (Or.inl ⟨by rfl, ?_⟩) S0 ?_
                rotate_left
                · intro u hu
                  obtain ⟨u1, u2, u3⟩ := hu
                  go_simp
                  try rfl
                try simp only [Act.put, List.setIfInBounds_toArray, List.set_cons_zero, List.set_cons_succ, List.getElem_toArray, List.getElem_cons_zero, List.getElem_cons_succ]
                refine wpAnyH_take (i := 13) (v := ?_) rfl (by kernel_rfl) (by kernel_rfl) (by kernel_rfl) (fun _ _ _ h => h) (Or.inl ⟨by rfl, ?_⟩) S0 ?_
                rotate_left
                · intro u hu
                  obtain ⟨u1, u2, u3⟩ := hu
                  go_simp
                  try rfl
                try simp only [Act.put, List.setIfInBounds_toArray, List.set_cons_zero, List.set_cons_succ, List.getElem_toArray, List.getElem_cons_zero, List.getElem_cons_succ]
                refine wpAnyH_take (i := 14) (v := ?_) rfl (by kernel_rfl) (by kernel_rfl) (by kernel_rfl) (fun _ _ _ h => h) (Or.inl ⟨by rfl, ?_⟩) S0 ?_
                rotate_left
                · intro u hu
                  obtain ⟨u1, u2, u3⟩ := hu
                  go_simp
                  try rfl
                try simp only [Act.put, List.setIfInBounds_toArray, List.set_cons_zero, List.set_cons_succ, List.getElem_toArray, List.getElem_cons_zero, List.getElem_cons_succ]
                refine wpAnyH_take (i := 15) (v := ?_) rfl (by kernel_rfl) (by kernel_rfl) (by kernel_rfl) (fun _ _ _ h => h) (Or.inl ⟨by rfl, ?_⟩) S0 ?_
                rotate_left
                · intro u hu
                  obtain ⟨u1, u2, u3⟩ := hu
                  go_simp
                  try rfl
                try simp only [Act.put, List.setIfInBounds_toArray, List.set_cons_zero, List.set_cons_succ, List.getElem_toArray, List.getElem_cons_zero, List.getElem_cons_succ]
                refine wpAnyH_take (i := 16) (v := ?_) rfl (by kernel_rfl) (by kernel_rfl) (by kernel_rfl) (fun _ _ _ h => h) (Or.inl ⟨by rfl, ?_⟩) S0 ?_
                rotate_left
                · intro u hu
                  obtain ⟨u1, u2, u3⟩ := hu
                  go_simp
                  try rfl
                try simp only [Act.put, List.setIfInBounds_toArray, List.set_cons_zero, List.set_cons_succ, List.getElem_toArray, List.getElem_cons_zero, List.getElem_cons_succ]
                refine wpAnyH_take (i := 17) (v := ?_) rfl (by kernel_rfl) (by kernel_rfl) (by kernel_rfl) (fun _ _ _ h => h) (Or.inl ⟨by rfl, ?_⟩) S0 ?_
                rotate_left
                · intro u hu
                  obtain ⟨u1, u2, u3⟩ := hu
                  go_simp
                  try rfl
                try simp only [Act.put, List.setIfInBounds_toArray, List.set_cons_zero, List.set_cons_succ, List.getElem_toArray, List.getElem_cons_zero, List.getElem_cons_succ]
                refine wpAnyH_take (i := 18) (v := ?_) rfl (by kernel_rfl) (by kernel_rfl) (by kernel_rfl) (fun _ _ _ h => h) (Or.inl ⟨by rfl, ?_⟩) S0 ?_
                rotate_left
                · intro u hu
                  obtain ⟨u1, u2, u3⟩ := hu
                  go_simp
                  try rfl
                try simp only [Act.put, List.setIfInBounds_toArray, List.set_cons_zero, List.set_cons_succ, List.getElem_toArray, List.getElem_cons_zero, List.getElem_cons_succ]
                refine wpAnyH_take (i := 19) (v := ?_) rfl (by kernel_rfl) (by kernel_rfl) (by kernel_rfl) (fun _ _ _ h => h) (Or.inl ⟨by rfl, ?_⟩) S0 ?_
                rotate_left
                · intro u hu
                  obtain ⟨u1, u2, u3⟩ := hu
                  go_simp
                  try rfl
                try simp only [Act.put, List.setIfInBounds_toArray, List.set_cons_zero, List.set_cons_succ, List.getElem_toArray, List.getElem_cons_zero, List.getElem_cons_succ]
                refine wpAnyH_take (i := 20) (v := ?_) rfl (by kernel_rfl) (by kernel_rfl) (by kernel_rfl) (fun _ _ _ h => h) (Or.inl ⟨by rfl, ?_⟩) S0 ?_
                rotate_left
                · intro u hu
                  obtain ⟨u1, u2, u3⟩ := hu
                  go_simp
                  try rfl
                try simp only [Act.put, List.setIfInBounds_toArray, List.set_cons_zero, List.set_cons_succ, List.getElem_toArray, List.getElem_cons_zero, List.getElem_cons_succ]
                refine wpAnyH_done (by kernel_rfl) ?_ _
                clear S0
                go_wp2
                refine bodyPost_ret (v := .tuple #[.int .u64 0, .slice none 0 0, .int .i64 60]) (by simp [results, Tryz.results62, go_sem]) rfl ?_
                rw [← BBE.out, HE.out]
                exact NErrOk.bad B6.out.drew
              · have hq' : (wt != tk) = false := by rw [bne, hq]; rfl
                have hq2 : (!(wt == tk)) = false := by rw [hq]; rfl
                have IS2 : Hid (Su.is bb g l = (bb.drop wt.length).all (· == 0)) := Lib.hid (by rw [IS.out, hq, Bool.true_and])
                have S1 : w6.drew.cell? ⟨w.heap.size, 1, none⟩ = some (.bool false) ∧ (convert 57 9 (.slice A6 wt.length c6)).run Tryz.prog w6.drew = .ok (.string (str wt)) w6.drew ∧ (convert 57 9 (.slice (some ad) wt.length c)).run Tryz.prog w6.drew = .ok (.string (str tk)) w6.drew := ⟨bd, g3, g2⟩
                clear g2 g3 hq
                go_wp2_with fail
                refine wp_region_held_drew (S := fun u => u.cell? ⟨w.heap.size, 1, none⟩ = some (.bool false) ∧ (convert 57 9 (.slice A6 wt.length c6)).run Tryz.prog u = .ok (.string (str wt)) u ∧ (convert 57 9 (.slice (some ad) wt.length c)).run Tryz.prog u = .ok (.string (str tk)) u) (by kernel_rfl) (S1) (fun S0 => ?_)
                refine wpAnyH_take (i := 0) (v := ?_) rfl (by kernel_rfl) (by kernel_rfl) (by kernel_rfl) (fun _ _ _ h => h) (Or.inl ⟨by rfl, ?_⟩) S0 ?_
                rotate_left
                · intro u hu
                  obtain ⟨u1, u2, u3⟩ := hu
                  go_simp
                  try rfl
                try simp only [Act.put, List.setIfInBounds_toArray, List.set_cons_zero, List.set_cons_succ, List.getElem_toArray, List.getElem_cons_zero]
                refine wpAnyH_take (i := 1) (v := ?_) rfl (by kernel_rfl) (by kernel_rfl) (by kernel_rfl) (fun _ _ _ h => h) (Or.inl ⟨by rfl, ?_⟩) S0 ?_
                rotate_left
                · intro u hu
                  obtain ⟨u1, u2, u3⟩ := hu
                  go_simp
                  try rfl
                try simp only [Act.put, List.setIfInBounds_toArray, List.set_cons_zero, List.set_cons_succ, List.getElem_toArray, List.getElem_cons_zero, List.getElem_cons_succ]
                refine wpAnyH_take (i := 2) (v := ?_) rfl (by kernel_rfl) (by kernel_rfl) (by kernel_rfl) (fun _ _ _ h => h) (Or.inl ⟨by rfl, ?_⟩) S0 ?_
                rotate_left
                · intro u hu
                  obtain ⟨u1, u2, u3⟩ := hu
                  go_simp
                  try rfl
                try simp only [Act.put, List.setIfInBounds_toArray, List.set_cons_zero, List.set_cons_succ, List.getElem_toArray, List.getElem_cons_zero, List.getElem_cons_succ]
                refine wpAnyH_take (i := 3) (v := ?_) rfl (by kernel_rfl) (by kernel_rfl) (by kernel_rfl) (fun _ _ _ h => h) (Or.inl ⟨by rfl, ?_⟩) S0 ?_
                rotate_left
                · intro u hu
                  obtain ⟨u1, u2, u3⟩ := hu
                  go_simp
                  try rfl
                try simp only [Act.put, List.setIfInBounds_toArray, List.set_cons_zero, List.set_cons_succ, List.getElem_toArray, List.getElem_cons_zero, List.getElem_cons_succ]
                refine wpAnyH_take (i := 4) (v := ?_) rfl (by kernel_rfl) (by kernel_rfl) (by kernel_rfl) (fun _ _ _ h => h) (Or.inl ⟨by rfl, ?_⟩) S0 ?_
                rotate_left
                · intro u hu
                  obtain ⟨u1, u2, u3⟩ := hu
                  go_simp
                  try rfl
                try simp only [Act.put, List.setIfInBounds_toArray, List.set_cons_zero, List.set_cons_succ, List.getElem_toArray, List.getElem_cons_zero, List.getElem_cons_succ]
                refine wpAnyH_take (i := 5) (v := ?_) rfl (by kernel_rfl) (by kernel_rfl) (by kernel_rfl) (fun _ _ _ h => h) (Or.inl ⟨by rfl, ?_⟩) S0 ?_
                rotate_left
                · intro u hu
                  obtain ⟨u1, u2, u3⟩ := hu
                  go_simp
                  try rfl
                try simp only [Act.put, List.setIfInBounds_toArray, List.set_cons_zero, List.set_cons_succ, List.getElem_toArray, List.getElem_cons_zero, List.getElem_cons_succ]
                refine wpAnyH_take (i := 6) (v := ?_) rfl (by kernel_rfl) (by kernel_rfl) (by kernel_rfl) (fun _ _ _ h => h) (Or.inl ⟨by rfl, ?_⟩) S0 ?_
                rotate_left
                · intro u hu
                  obtain ⟨u1, u2, u3⟩ := hu
                  go_simp
                  try rfl
                try simp only [Act.put, List.setIfInBounds_toArray, List.set_cons_zero, List.set_cons_succ, List.getElem_toArray, List.getElem_cons_zero, List.getElem_cons_succ]
                refine wpAnyH_take (i := 7) (v := ?_) rfl (by kernel_rfl) (by kernel_rfl) (by kernel_rfl) (fun _ _ _ h => h) (Or.inl ⟨by rfl, ?_⟩) S0 ?_
                rotate_left
                · intro u hu
                  obtain ⟨u1, u2, u3⟩ := hu
                  go_simp
                  try rfl
                try simp only [Act.put, List.setIfInBounds_toArray, List.set_cons_zero, List.set_cons_succ, List.getElem_toArray, List.getElem_cons_zero, List.getElem_cons_succ]
                refine wpAnyH_take (i := 8) (v := ?_) rfl (by kernel_rfl) (by kernel_rfl) (by kernel_rfl) (fun _ _ _ h => h) (Or.inl ⟨by rfl, ?_⟩) S0 ?_
                rotate_left
                · intro u hu
                  obtain ⟨u1, u2, u3⟩ := hu
                  go_simp
                  try rfl
                try simp only [Act.put, List.setIfInBounds_toArray, List.set_cons_zero, List.set_cons_succ, List.getElem_toArray, List.getElem_cons_zero, List.getElem_cons_succ]
                refine wpAnyH_take (i := 9) (v := ?_) rfl (by kernel_rfl) (by kernel_rfl) (by kernel_rfl) (fun _ _ _ h => h) (Or.inl ⟨by rfl, ?_⟩) S0 ?_
                rotate_left
                · intro u hu
                  obtain ⟨u1, u2, u3⟩ := hu
                  go_simp
                  try rfl
                try simp only [Act.put, List.setIfInBounds_toArray, List.set_cons_zero, List.set_cons_succ, List.getElem_toArray, List.getElem_cons_zero, List.getElem_cons_succ]
                refine wpAnyH_take (i := 10) (v := ?_) rfl (by kernel_rfl) (by kernel_rfl) (by kernel_rfl) (fun _ _ _ h => h) (Or.inl ⟨by rfl, ?_⟩) S0 ?_
                rotate_left
                · intro u hu
                  obtain ⟨u1, u2, u3⟩ := hu
                  go_simp
                  try rfl
                try simp only [Act.put, List.setIfInBounds_toArray, List.set_cons_zero, List.set_cons_succ, List.getElem_toArray, List.getElem_cons_zero, List.getElem_cons_succ]
                refine wpAnyH_take (i := 11) (v := ?_) rfl (by kernel_rfl) (by kernel_rfl) (by kernel_rfl) (fun _ _ _ h => h) (Or.inl ⟨by rfl, ?_⟩) S0 ?_
                rotate_left
                · intro u hu
                  obtain ⟨u1, u2, u3⟩ := hu
                  go_simp
                  try rfl
                try simp only [Act.put, List.setIfInBounds_toArray, List.set_cons_zero, List.set_cons_succ, List.getElem_toArray, List.getElem_cons_zero, List.getElem_cons_succ]
                refine wpAnyH_take (i := 12) (v := ?_) rfl (by kernel_rfl) (by kernel_rfl) (by kernel_rfl) (fun _ _ _ h => h) (Or.inl ⟨by rfl, ?_⟩) S0 ?_
                rotate_left
                · intro u hu
                  obtain ⟨u1, u2, u3⟩ := hu
                  go_simp
                  try rfl
                try simp only [Act.put, List.setIfInBounds_toArray, List.set_cons_zero, List.set_cons_succ, List.getElem_toArray, List.getElem_cons_zero, List.getElem_cons_succ]
                refine wpAnyH_take (i := 13) (v := ?_) rfl (by kernel_rfl) (by kernel_rfl) (by kernel_rfl) (fun _ _ _ h => h) (Or.inl ⟨by rfl, ?_⟩) S0 ?_
                rotate_left
                · intro u hu
                  obtain ⟨u1, u2, u3⟩ := hu
                  go_simp
                  try rfl
                try simp only [Act.put, List.setIfInBounds_toArray, List.set_cons_zero, List.set_cons_succ, List.getElem_toArray, List.getElem_cons_zero, List.getElem_cons_succ]
                refine wpAnyH_take (i := 14) (v := ?_) rfl (by kernel_rfl) (by kernel_rfl) (by kernel_rfl) (fun _ _ _ h => h) (Or.inl ⟨by rfl, ?_⟩) S0 ?_
                rotate_left
                · intro u hu
                  obtain ⟨u1, u2, u3⟩ := hu
                  go_simp
                  try rfl
                try simp only [Act.put, List.setIfInBounds_toArray, List.set_cons_zero, List.set_cons_succ, List.getElem_toArray, List.getElem_cons_zero, List.getElem_cons_succ]
                refine wpAnyH_take (i := 15) (v := ?_) rfl (by kernel_rfl) (by kernel_rfl) (by kernel_rfl) (fun _ _ _ h => h) (Or.inl ⟨by rfl, ?_⟩) S0 ?_
                rotate_left
                · intro u hu
                  obtain ⟨u1, u2, u3⟩ := hu
                  go_simp
                  try rfl
                try simp only [Act.put, List.setIfInBounds_toArray, List.set_cons_zero, List.set_cons_succ, List.getElem_toArray, List.getElem_cons_zero, List.getElem_cons_succ]
                refine wpAnyH_take (i := 16) (v := ?_) rfl (by kernel_rfl) (by kernel_rfl) (by kernel_rfl) (fun _ _ _ h => h) (Or.inl ⟨by rfl, ?_⟩) S0 ?_
                rotate_left
                · intro u hu
                  obtain ⟨u1, u2, u3⟩ := hu
                  go_simp
                  try rfl
                try simp only [Act.put, List.setIfInBounds_toArray, List.set_cons_zero, List.set_cons_succ, List.getElem_toArray, List.getElem_cons_zero, List.getElem_cons_succ]
                refine wpAnyH_take (i := 17) (v := ?_) rfl (by kernel_rfl) (by kernel_rfl) (by kernel_rfl) (fun _ _ _ h => h) (Or.inl ⟨by rfl, ?_⟩) S0 ?_
                rotate_left
                · intro u hu
                  obtain ⟨u1, u2, u3⟩ := hu
                  go_simp
                  try rfl
                try simp only [Act.put, List.setIfInBounds_toArray, List.set_cons_zero, List.set_cons_succ, List.getElem_toArray, List.getElem_cons_zero, List.getElem_cons_succ]
                refine wpAnyH_take (i := 18) (v := ?_) rfl (by kernel_rfl) (by kernel_rfl) (by kernel_rfl) (fun _ _ _ h => h) (Or.inl ⟨by rfl, ?_⟩) S0 ?_
                rotate_left
                · intro u hu
                  obtain ⟨u1, u2, u3⟩ := hu
                  go_simp
                  try rfl
                try simp only [Act.put, List.setIfInBounds_toArray, List.set_cons_zero, List.set_cons_succ, List.getElem_toArray, List.getElem_cons_zero, List.getElem_cons_succ]
                refine wpAnyH_take (i := 19) (v := ?_) rfl (by kernel_rfl) (by kernel_rfl) (by kernel_rfl) (fun _ _ _ h => h) (Or.inl ⟨by rfl, ?_⟩) S0 ?_
                rotate_left
                · intro u hu
                  obtain ⟨u1, u2, u3⟩ := hu
                  go_simp
                  try rfl
                try simp only [Act.put, List.setIfInBounds_toArray, List.set_cons_zero, List.set_cons_succ, List.getElem_toArray, List.getElem_cons_zero, List.getElem_cons_succ]
                refine wpAnyH_take (i := 20) (v := ?_) rfl (by kernel_rfl) (by kernel_rfl) (by kernel_rfl) (fun _ _ _ h => h) (Or.inl ⟨by rfl, ?_⟩) S0 ?_
                rotate_left
                · intro u hu
                  obtain ⟨u1, u2, u3⟩ := hu
                  go_simp
                  try rfl
                try simp only [Act.put, List.setIfInBounds_toArray, List.set_cons_zero, List.set_cons_succ, List.getElem_toArray, List.getElem_cons_zero, List.getElem_cons_succ]
                refine wpAnyH_done (by kernel_rfl) ?_ _
                clear S0
                clear S1
                obtain ⟨A7, hA7⟩ : ∃ A7, (if c = wt.length then some ad else some (ad.add wt.length)) = A7 := ⟨_, rfl⟩
                obtain ⟨rs, hrs⟩ : ∃ rs, rs = bb.drop wt.length := ⟨_, rfl⟩
                have hR : Lies w6.drew w.heap.size 0 A7 (bcells rs) := by
                  have q := ((HL.out.below (Nat.le_refl _) B6.out).drew).cut wt.length c (by rw [bcells_len, ← HN.out]; exact hc)
                  rw [bcells_drop, ← hrs] at q
                  rw [← hA7]
                  exact q
                have lr : rs.length = n - wt.length := by rw [hrs, List.length_drop, ← HN.out]
                have LR := Lib.hid lr
                have HR7 := Lib.hid hR
                rw [← hrs] at IS2
                clear hR lr hrs
                go_wp2_with fail
                go_loop [79] (fun i => ∃ t7 : Nat, t7 ≤ n - wt.length ∧ i = .int .i64 t7 ∧ (rs.take t7).all (· == 0) = true) (fun i => n - wt.length - (intOf i).toNat)
                case atStart => exact ⟨0, Nat.zero_le _, rfl, by simp⟩
                case round =>
                  obtain ⟨t7, hj, rfl, hz⟩ := hrel
                  have HZ := Lib.hid hz
                  clear hz
                  by_cases hlt2 : t7 < n - wt.length
                  · have hlt3 : t7 < rs.length := by rw [LR.out]; exact hlt2
                    obtain ⟨ad7, rfl, c7⟩ := HR7.out.byte hlt3
                    obtain ⟨y, hy⟩ : ∃ y, y = rs[t7] := ⟨_, rfl⟩
                    rw [← hy] at c7
                    by_cases h0 : y = 0
                    · have y0 : ((y.toNat : Int) != 0) = false := by subst h0; decide
                      have NXT := Lib.hid (show (rs.take (t7 + 1)).all (· == 0) = true by
                        rw [take_next (List.getElem?_eq_getElem hlt3), List.all_append, HZ.out, ← hy, h0]; rfl)
                      clear hy h0
                      go_wp2
                      go_round
                      case rel => exact ⟨t7 + 1, by omega, by go_num, NXT.out⟩
                      case measure => simp [intOf]; omega
                    · have y0 : ((y.toNat : Int) != 0) = true := u8_ne (k := 0) (by decide) h0
                      have HE := Lib.hid (Su.unslot_not (b := bb) TE.out (by
                        rw [IS2.out, List.all_eq_false]
                        exact ⟨y, by rw [hy]; exact List.getElem_mem hlt3, by simpa using h0⟩))
                      clear hy h0
                      go_wp2
                      refine bodyPost_ret (v := .tuple #[.int .u64 0, .slice none 0 0, .int .i64 60]) (by simp [results, Tryz.results62, go_sem]) rfl ?_
                      rw [← BBE.out, HE.out]
                      exact NErrOk.bad B6.out.drew
                  · obtain rfl : t7 = n - wt.length := by omega
                    have HE := Lib.hid (Su.unslot_yes (b := bb) B0b.out TE.out (by
                      rw [IS2.out]
                      have q := HZ.out
                      rw [← LR.out, List.take_length] at q
                      exact q))
                    go_wp2
                    refine bodyPost_ret (v := .tuple #[.int .u64 (g : Int), .slice A3 j c3, .int .i64 0]) (by simp [results, Tryz.results62, go_sem]) rfl ?_
                    rw [← BBE.out, HE.out]
                    exact ⟨A3, _, c3, rfl, LN.out.symm, (own_room O6.out).2, O6.out, B6.out.drew⟩
            · have e : Su.unslot (70 :: 83 :: b2) = none := Su.unslot_not TE.out (by
                unfold Su.is
                rw [← WT.out, decide_eq_false (by rw [← HN.out]; exact hlen)]
                rfl)
              have HE := Lib.hid e
              have hlen2 : decide (n < wt.length) = true := by simp; omega
              clear e
              go_wp2_with fail
              refine wp_region_held_drew (S := fun u => u.cell? ⟨w.heap.size, 1, none⟩ = some (.bool false)) (by kernel_rfl) (bd) (fun S0 => ?_)
              refine wpAnyH_take (i := 0) (v := ?_) rfl (by kernel_rfl) (by kernel_rfl) (by kernel_rfl) (fun _ _ _ h => h) (Or.inl ⟨by rfl, ?_⟩) S0 ?_
              rotate_left
              · intro u hu
                go_simp
                try rfl
              try simp only [Act.put, List.setIfInBounds_toArray, List.set_cons_zero, List.set_cons_succ, List.getElem_toArray, List.getElem_cons_zero]
              refine wpAnyH_take (i := 1) (v := ?_) rfl (by kernel_rfl) (by kernel_rfl) (by kernel_rfl) (fun _ _ _ h => h) (Or.inl ⟨by rfl, ?_⟩) S0 ?_
              rotate_left
              · intro u hu
                go_simp
                try rfl
              try simp only [Act.put, List.setIfInBounds_toArray, List.set_cons_zero, List.set_cons_succ, List.getElem_toArray, List.getElem_cons_zero, List.getElem_cons_succ]
              refine wpAnyH_take (i := 2) (v := ?_) rfl (by kernel_rfl) (by kernel_rfl) (by kernel_rfl) (fun _ _ _ h => h) (Or.inl ⟨by rfl, ?_⟩) S0 ?_
              rotate_left
              · intro u hu
                go_simp
                try rfl
              try simp only [Act.put, List.setIfInBounds_toArray, List.set_cons_zero, List.set_cons_succ, List.getElem_toArray, List.getElem_cons_zero, List.getElem_cons_succ]
              refine wpAnyH_take (i := 3) (v := ?_) rfl (by kernel_rfl) (by kernel_rfl) (by kernel_rfl) (fun _ _ _ h => h) (Or.inl ⟨by rfl, ?_⟩) S0 ?_
              rotate_left
              · intro u hu
                go_simp
                try rfl
              try simp only [Act.put, List.setIfInBounds_toArray, List.set_cons_zero, List.set_cons_succ, List.getElem_toArray, List.getElem_cons_zero, List.getElem_cons_succ]
              refine wpAnyH_take (i := 4) (v := ?_) rfl (by kernel_rfl) (by kernel_rfl) (by kernel_rfl) (fun _ _ _ h => h) (Or.inl ⟨by rfl, ?_⟩) S0 ?_
              rotate_left
              · intro u hu
                go_simp
                try rfl
              try simp only [Act.put, List.setIfInBounds_toArray, List.set_cons_zero, List.set_cons_succ, List.getElem_toArray, List.getElem_cons_zero, List.getElem_cons_succ]
              refine wpAnyH_take (i := 5) (v := ?_) rfl (by kernel_rfl) (by kernel_rfl) (by kernel_rfl) (fun _ _ _ h => h) (Or.inl ⟨by rfl, ?_⟩) S0 ?_
              rotate_left
              · intro u hu
                go_simp
                try rfl
              try simp only [Act.put, List.setIfInBounds_toArray, List.set_cons_zero, List.set_cons_succ, List.getElem_toArray, List.getElem_cons_zero, List.getElem_cons_succ]
              refine wpAnyH_take (i := 6) (v := ?_) rfl (by kernel_rfl) (by kernel_rfl) (by kernel_rfl) (fun _ _ _ h => h) (Or.inl ⟨by rfl, ?_⟩) S0 ?_
              rotate_left
              · intro u hu
                go_simp
                try rfl
              try simp only [Act.put, List.setIfInBounds_toArray, List.set_cons_zero, List.set_cons_succ, List.getElem_toArray, List.getElem_cons_zero, List.getElem_cons_succ]
              refine wpAnyH_take (i := 7) (v := ?_) rfl (by kernel_rfl) (by kernel_rfl) (by kernel_rfl) (fun _ _ _ h => h) (Or.inl ⟨by rfl, ?_⟩) S0 ?_
              rotate_left
              · intro u hu
                go_simp
                try rfl
              try simp only [Act.put, List.setIfInBounds_toArray, List.set_cons_zero, List.set_cons_succ, List.getElem_toArray, List.getElem_cons_zero, List.getElem_cons_succ]
              refine wpAnyH_take (i := 8) (v := ?_) rfl (by kernel_rfl) (by kernel_rfl) (by kernel_rfl) (fun _ _ _ h => h) (Or.inl ⟨by rfl, ?_⟩) S0 ?_
              rotate_left
              · intro u hu
                go_simp
                try rfl
              try simp only [Act.put, List.setIfInBounds_toArray, List.set_cons_zero, List.set_cons_succ, List.getElem_toArray, List.getElem_cons_zero, List.getElem_cons_succ]
              refine wpAnyH_take (i := 9) (v := ?_) rfl (by kernel_rfl) (by kernel_rfl) (by kernel_rfl) (fun _ _ _ h => h) (Or.inl ⟨by rfl, ?_⟩) S0 ?_
              rotate_left
              · intro u hu
                go_simp
                try rfl
              try simp only [Act.put, List.setIfInBounds_toArray, List.set_cons_zero, List.set_cons_succ, List.getElem_toArray, List.getElem_cons_zero, List.getElem_cons_succ]
              refine wpAnyH_take (i := 10) (v := ?_) rfl (by kernel_rfl) (by kernel_rfl) (by kernel_rfl) (fun _ _ _ h => h) (Or.inl ⟨by rfl, ?_⟩) S0 ?_
              rotate_left
              · intro u hu
                go_simp
                try rfl
              try simp only [Act.put, List.setIfInBounds_toArray, List.set_cons_zero, List.set_cons_succ, List.getElem_toArray, List.getElem_cons_zero, List.getElem_cons_succ]
              refine wpAnyH_take (i := 11) (v := ?_) rfl (by kernel_rfl) (by kernel_rfl) (by kernel_rfl) (fun _ _ _ h => h) (Or.inl ⟨by rfl, ?_⟩) S0 ?_
              rotate_left
              · intro u hu
                go_simp
                try rfl
              try simp only [Act.put, List.setIfInBounds_toArray, List.set_cons_zero, List.set_cons_succ, List.getElem_toArray, List.getElem_cons_zero, List.getElem_cons_succ]
              refine wpAnyH_take (i := 12) (v := undef) rfl (by kernel_rfl) (by kernel_rfl) (by kernel_rfl) (fun _ _ _ h => h) (Or.inr ⟨by rfl, rfl⟩) S0 ?_
              try simp only [Act.put, List.setIfInBounds_toArray, List.set_cons_zero, List.set_cons_succ, List.getElem_toArray, List.getElem_cons_zero, List.getElem_cons_succ]
              refine wpAnyH_take (i := 13) (v := undef) rfl (by kernel_rfl) (by kernel_rfl) (by kernel_rfl) (fun _ _ _ h => h) (Or.inr ⟨by rfl, rfl⟩) S0 ?_
              try simp only [Act.put, List.setIfInBounds_toArray, List.set_cons_zero, List.set_cons_succ, List.getElem_toArray, List.getElem_cons_zero, List.getElem_cons_succ]
              refine wpAnyH_take (i := 14) (v := undef) rfl (by kernel_rfl) (by kernel_rfl) (by kernel_rfl) (fun _ _ _ h => h) (Or.inr ⟨by rfl, rfl⟩) S0 ?_
              try simp only [Act.put, List.setIfInBounds_toArray, List.set_cons_zero, List.set_cons_succ, List.getElem_toArray, List.getElem_cons_zero, List.getElem_cons_succ]
              refine wpAnyH_take (i := 15) (v := undef) rfl (by kernel_rfl) (by kernel_rfl) (by kernel_rfl) (fun _ _ _ h => h) (Or.inr ⟨by rfl, rfl⟩) S0 ?_
              try simp only [Act.put, List.setIfInBounds_toArray, List.set_cons_zero, List.set_cons_succ, List.getElem_toArray, List.getElem_cons_zero, List.getElem_cons_succ]
              refine wpAnyH_take (i := 16) (v := undef) rfl (by kernel_rfl) (by kernel_rfl) (by kernel_rfl) (fun _ _ _ h => h) (Or.inr ⟨by rfl, rfl⟩) S0 ?_
              try simp only [Act.put, List.setIfInBounds_toArray, List.set_cons_zero, List.set_cons_succ, List.getElem_toArray, List.getElem_cons_zero, List.getElem_cons_succ]
              refine wpAnyH_take (i := 17) (v := undef) rfl (by kernel_rfl) (by kernel_rfl) (by kernel_rfl) (fun _ _ _ h => h) (Or.inr ⟨by rfl, rfl⟩) S0 ?_
              try simp only [Act.put, List.setIfInBounds_toArray, List.set_cons_zero, List.set_cons_succ, List.getElem_toArray, List.getElem_cons_zero, List.getElem_cons_succ]
              refine wpAnyH_take (i := 18) (v := undef) rfl (by kernel_rfl) (by kernel_rfl) (by kernel_rfl) (fun _ _ _ h => h) (Or.inr ⟨by rfl, rfl⟩) S0 ?_
              try simp only [Act.put, List.setIfInBounds_toArray, List.set_cons_zero, List.set_cons_succ, List.getElem_toArray, List.getElem_cons_zero, List.getElem_cons_succ]
              refine wpAnyH_take (i := 19) (v := undef) rfl (by kernel_rfl) (by kernel_rfl) (by kernel_rfl) (fun _ _ _ h => h) (Or.inr ⟨by rfl, rfl⟩) S0 ?_
              try simp only [Act.put, List.setIfInBounds_toArray, List.set_cons_zero, List.set_cons_succ, List.getElem_toArray, List.getElem_cons_zero, List.getElem_cons_succ]
              refine wpAnyH_take (i := 20) (v := ?_) rfl (by kernel_rfl) (by kernel_rfl) (by kernel_rfl) (fun _ _ _ h => h) (Or.inl ⟨by rfl, ?_⟩) S0 ?_
              rotate_left
              · intro u hu
                go_simp
                try rfl
              try simp only [Act.put, List.setIfInBounds_toArray, List.set_cons_zero, List.set_cons_succ, List.getElem_toArray, List.getElem_cons_zero, List.getElem_cons_succ]
              refine wpAnyH_done (by kernel_rfl) ?_ _
              clear S0
              go_wp2
              refine bodyPost_ret (v := .tuple #[.int .u64 0, .slice none 0 0, .int .i64 60]) (by simp [results, Tryz.results62, go_sem]) rfl ?_
              rw [HE.out]
              exact NErrOk.bad B6.out.drew
    · have e : Su.unslot (x :: y :: b2) = none := Su.unslot_head (fun q => by injection q with _ q; injection q with q _; exact hy q)
      rw [e]
      have ey : ((y.toNat : Int) != 83) = true := u8_ne (k := 83) (by decide) hy
      have ex : ((x.toNat : Int) != 70) = false := by subst hx; decide
      clear e hx hy
      go_enter Tryz.func62, Tryz.ntmps62
      go_wp2
      refine bodyPost_ret (v := .tuple #[.int .u64 0, .slice none 0 0, .int .i64 60]) (by simp [results, Tryz.results62, go_sem]) rfl ?_
      exact NErrOk.bad (Below.refl _ _)
  · have e : Su.unslot (x :: y :: b2) = none := Su.unslot_head (fun q => by injection q with q _; exact hx q)
    rw [e]
    have ex : ((x.toNat : Int) != 70) = true := u8_ne (k := 70) (by decide) hx
    clear e hx cy'
    go_enter Tryz.func62, Tryz.ntmps62
    go_wp2
    refine bodyPost_ret (v := .tuple #[.int .u64 0, .slice none 0 0, .int .i64 60]) (by simp [results, Tryz.results62, go_sem]) rfl ?_
    exact NErrOk.bad (Below.refl _ _)
end Go.Proofs.YtbfkjneidabijaaGreat
