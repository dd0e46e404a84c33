/- Stage 16: the walk of DedupAll (written by wip/gen16da.py). -/
import Derived.Test.YtmcfknnfaokmlaaUj
namespace Go.Proofs.Ytmcfknnfaokmlaa
set_option maxRecDepth 100000
set_option linter.unusedSimpArgs false
section
open Go.RowKit Go.Lib Go.Shelf
set_option maxRecDepth 100000 in
set_option maxHeartbeats 4000000 in
theorem dedupAll_c {A : Option Addr} {n c k : Nat} {l : List La} {w : World} (h : AL w A l) (hn : n = l.length) (ho : ∀ x ∈ l, x.ok) (hk : k < 18446744073709551616) :
    Calls Try.prog 6 #[.slice A n c, .int .u64 (k : Int)] w fun e w' => e = .returned (.bool true) ∧ Below w.heap.size w w' := by
  have AW := Lib.hid (awake16_c w)
  have H := Lib.hid h
  have HN := Lib.hid hn
  have HO := Lib.hid ho
  have HK := Lib.hid hk
  clear h hn ho hk
  go_enter Try.func6, Try.ntmps6
  go_wp2_with fail
  refine AW.out.mono ?_
  rintro e w1 ⟨rfl, c1⟩
  have C1 := Lib.hid c1
  clear c1
  by_cases hl : 30 < n
  · have hz : (30 : Int) < (n : Int) := by omega
    have hz2 : decide ((30 : Int) < (n : Int)) = true := by simp; omega
    clear hl
    go_wp2
    go_ret
    exact ⟨rfl, C1.out⟩
  have hz : ¬ (30 : Int) < (n : Int) := by omega
  have hz2 : decide ((30 : Int) < (n : Int)) = false := by simp; omega
  have HL : Hid (n ≤ 30) := Lib.hid (by omega)
  clear hl
  have NC := Lib.hid (new16_c (c := c) (H.out.stay C1.out) HN.out (by have := HL.out; omega) HO.out)
  obtain ⟨T, hT⟩ : ∃ t, t = D16.news16 l := ⟨_, rfl⟩
  rw [← hT] at NC
  clear hT
  go_wp2_with fail
  refine NC.out.mono ?_
  rintro e w2 ⟨p, mb, rfl, hp, hm, ht, hb⟩
  have T2 := Lib.hid ht
  have TG := Lib.hid ht.g
  have C2 := Lib.hid (C1.out.trans (hb.mono C1.out.size))
  have AC := Lib.hid (lawall16_c ht (by have := HL.out; omega))
  obtain ⟨tl, htl⟩ : ∃ v, v = T.length := ⟨_, rfl⟩
  have TL : Hid (tl = T.length ∧ tl ≤ 30) := Lib.hid ⟨htl, by have := HL.out; have := ht.c; omega⟩
  clear hp hm ht hb hz hz2 NC
  go_wp2_with fail
  refine AC.out.mono ?_
  rintro e w3 ⟨A3, k3, rfl, hr3, hb3⟩
  have T3 := Lib.hid (T2.out.below hb3)
  have C3 := Lib.hid (C2.out.trans (hb3.mono C2.out.size))
  have L3 : Hid (Lies w3 0 45 A3 (acells T)) := Lib.hid (lies_own (B := 0) hr3)
  rw [← htl]
  clear hr3 hb3 htl AC
  have ht30 := TL.out.2
  go_wp2_with fail
  go_loopw [21] (fun s21 wr => ∃ (i : Nat), s21 = .int .i64 i ∧ i ≤ tl ∧ Hid (Below w3.heap.size w3 wr)) (fun s21 _ => tl - (intOf s21).toNat)
  case atStart => exact ⟨0, rfl, Nat.zero_le _, Lib.hid (Below.refl _ _)⟩
  case round =>
    obtain ⟨i, rfl, hi, BR⟩ := hrel
    by_cases hlt : i < tl
    · have hltz : (i : Int) < (tl : Int) := by omega
      obtain ⟨x, hx⟩ : ∃ x, T[i]? = some x := ⟨_, List.getElem?_eq_getElem (by have := TL.out.1; omega)⟩
      have XG := Lib.hid (TG.out.2 x (List.mem_of_getElem? hx))
      have LW : Hid (Lies wr 0 45 A3 (acells T)) := Lib.hid (L3.out.below (Nat.zero_le _) BR.out)
      obtain ⟨ad, hA⟩ : ∃ ad, A3 = some ad := by
        obtain ⟨ad, e, _⟩ := L3.out (fun q => by
          have := acells_len T
          rw [q] at this
          have := TL.out.1
          simp at *
          omega)
        exact ⟨ad, e⟩
      subst hA
      obtain ⟨q0, q1⟩ := at16 LW.out.old hx
      obtain ⟨w4, hw4⟩ : ∃ u, wr.alloc (.cells #[.int .u64 (x.who : Int), .int .u64 (x.id : Int)] 45) = u := ⟨_, rfl⟩
      obtain ⟨lb, b4, z4⟩ := new_two hw4
      have B4 : Hid (Below w3.heap.size w3 w4.drew) := Lib.hid (BR.out.trans (b4.mono BR.out.size)).drew
      have LB : Hid (w4.drew.heap[wr.heap.size]? = some (.cells #[.int .u64 (x.who : Int), .int .u64 (x.id : Int)] 45 (0, 0))) := Lib.hid lb
      have g0 : ((x.who : Int) == 0) = false := by have := XG.out.2.1; simp; omega
      have g1 : ((x.id : Int) == 0) = false := by have := XG.out.2.2; simp; omega
      have L4 : Hid (Lies w4.drew 0 45 (some ad) (acells T)) := Lib.hid (LW.out.below (Nat.zero_le _) b4).drew
      have X := Lib.hid hx
      clear lb b4 z4 hx
      rcases i with _ | j
      · have z : ((0 : Nat) : Int) = 0 := rfl
        have ha0 : ad.add (0 * 2) = ad := rfl
        rw [z] at hltz ⊢
        rw [ha0] at q0 q1
        go_wp2_with fail
        refine wp_region_held_drew (S := fun u => u.heap[wr.heap.size]? = some (.cells #[.int .u64 (x.who : Int), .int .u64 (x.id : Int)] 45 (0, 0)) ∧ True) (by kernel_rfl) (⟨LB.out, trivial⟩) (fun S0 => ?_)
        refine wpAnyH_take (i := 0) (v := ?_) rfl (by kernel_rfl) (by kernel_rfl) (by kernel_rfl) (fun _ _ _ h => h) (Or.inl ⟨by rfl, ?_⟩) S0 ?_
        rotate_left
        · intro u hu
          go_simp
          try rfl
        try simp only [Act.put, List.setIfInBounds_toArray, List.set_cons_zero, List.set_cons_succ, List.getElem_toArray, List.getElem_cons_zero, List.getElem_cons_succ]
        refine wpAnyH_take (i := 1) (v := ?_) rfl (by kernel_rfl) (by kernel_rfl) (by kernel_rfl) (fun _ _ _ h => h) (Or.inl ⟨by rfl, ?_⟩) S0 ?_
        rotate_left
        · intro u hu
          obtain ⟨y0, y1⟩ := two_cells hu.1
          go_simp
          try rfl
        try simp only [Act.put, List.setIfInBounds_toArray, List.set_cons_zero, List.set_cons_succ, List.getElem_toArray, List.getElem_cons_zero, List.getElem_cons_succ]
        refine wpAnyH_take (i := 2) (v := ?_) rfl (by kernel_rfl) (by kernel_rfl) (by kernel_rfl) (fun _ _ _ h => h) (Or.inl ⟨by rfl, ?_⟩) S0 ?_
        rotate_left
        · intro u hu
          go_simp
          try rfl
        try simp only [Act.put, List.setIfInBounds_toArray, List.set_cons_zero, List.set_cons_succ, List.getElem_toArray, List.getElem_cons_zero, List.getElem_cons_succ]
        refine wpAnyH_take (i := 3) (v := ?_) rfl (by kernel_rfl) (by kernel_rfl) (by kernel_rfl) (fun _ _ _ h => h) (Or.inl ⟨by rfl, ?_⟩) S0 ?_
        rotate_left
        · intro u hu
          go_simp
          try rfl
        try simp only [Act.put, List.setIfInBounds_toArray, List.set_cons_zero, List.set_cons_succ, List.getElem_toArray, List.getElem_cons_zero, List.getElem_cons_succ]
        refine wpAnyH_take (i := 4) (v := ?_) rfl (by kernel_rfl) (by kernel_rfl) (by kernel_rfl) (fun _ _ _ h => h) (Or.inl ⟨by rfl, ?_⟩) S0 ?_
        rotate_left
        · intro u hu
          go_simp
          try rfl
        try simp only [Act.put, List.setIfInBounds_toArray, List.set_cons_zero, List.set_cons_succ, List.getElem_toArray, List.getElem_cons_zero, List.getElem_cons_succ]
        refine wpAnyH_take (i := 5) (v := ?_) rfl (by kernel_rfl) (by kernel_rfl) (by kernel_rfl) (fun _ _ _ h => h) (Or.inl ⟨by rfl, ?_⟩) S0 ?_
        rotate_left
        · intro u hu
          obtain ⟨y0, y1⟩ := two_cells hu.1
          go_simp
          try rfl
        try simp only [Act.put, List.setIfInBounds_toArray, List.set_cons_zero, List.set_cons_succ, List.getElem_toArray, List.getElem_cons_zero, List.getElem_cons_succ]
        refine wpAnyH_take (i := 6) (v := ?_) rfl (by kernel_rfl) (by kernel_rfl) (by kernel_rfl) (fun _ _ _ h => h) (Or.inl ⟨by rfl, ?_⟩) S0 ?_
        rotate_left
        · intro u hu
          go_simp
          try rfl
        try simp only [Act.put, List.setIfInBounds_toArray, List.set_cons_zero, List.set_cons_succ, List.getElem_toArray, List.getElem_cons_zero, List.getElem_cons_succ]
        refine wpAnyH_take (i := 7) (v := ?_) rfl (by kernel_rfl) (by kernel_rfl) (by kernel_rfl) (fun _ _ _ h => h) (Or.inl ⟨by rfl, ?_⟩) S0 ?_
        rotate_left
        · intro u hu
          go_simp
          try rfl
        try simp only [Act.put, List.setIfInBounds_toArray, List.set_cons_zero, List.set_cons_succ, List.getElem_toArray, List.getElem_cons_zero, List.getElem_cons_succ]
        refine wpAnyH_take (i := 8) (v := ?_) rfl (by kernel_rfl) (by kernel_rfl) (by kernel_rfl) (fun _ _ _ h => h) (Or.inl ⟨by rfl, ?_⟩) S0 ?_
        rotate_left
        · intro u hu
          go_simp
          try rfl
        try simp only [Act.put, List.setIfInBounds_toArray, List.set_cons_zero, List.set_cons_succ, List.getElem_toArray, List.getElem_cons_zero, List.getElem_cons_succ]
        refine wpAnyH_take (i := 9) (v := ?_) rfl (by kernel_rfl) (by kernel_rfl) (by kernel_rfl) (fun _ _ _ h => h) (Or.inl ⟨by rfl, ?_⟩) S0 ?_
        rotate_left
        · intro u hu
          go_simp
          try rfl
        try simp only [Act.put, List.setIfInBounds_toArray, List.set_cons_zero, List.set_cons_succ, List.getElem_toArray, List.getElem_cons_zero, List.getElem_cons_succ]
        refine wpAnyH_take (i := 10) (v := ?_) rfl (by kernel_rfl) (by kernel_rfl) (by kernel_rfl) (fun _ _ _ h => h) (Or.inl ⟨by rfl, ?_⟩) S0 ?_
        rotate_left
        · intro u hu
          go_simp
          try rfl
        try simp only [Act.put, List.setIfInBounds_toArray, List.set_cons_zero, List.set_cons_succ, List.getElem_toArray, List.getElem_cons_zero, List.getElem_cons_succ]
        refine wpAnyH_take (i := 11) (v := ?_) rfl (by kernel_rfl) (by kernel_rfl) (by kernel_rfl) (fun _ _ _ h => h) (Or.inl ⟨by rfl, ?_⟩) S0 ?_
        rotate_left
        · intro u hu
          go_simp
          try rfl
        try simp only [Act.put, List.setIfInBounds_toArray, List.set_cons_zero, List.set_cons_succ, List.getElem_toArray, List.getElem_cons_zero, List.getElem_cons_succ]
        refine wpAnyH_take (i := 12) (v := undef) rfl (by kernel_rfl) (by kernel_rfl) (by kernel_rfl) (fun _ _ _ h => h) (Or.inr ⟨by rfl, rfl⟩) S0 ?_
        try simp only [Act.put, List.setIfInBounds_toArray, List.set_cons_zero, List.set_cons_succ, List.getElem_toArray, List.getElem_cons_zero, List.getElem_cons_succ]
        refine wpAnyH_take (i := 13) (v := undef) rfl (by kernel_rfl) (by kernel_rfl) (by kernel_rfl) (fun _ _ _ h => h) (Or.inr ⟨by rfl, rfl⟩) S0 ?_
        try simp only [Act.put, List.setIfInBounds_toArray, List.set_cons_zero, List.set_cons_succ, List.getElem_toArray, List.getElem_cons_zero, List.getElem_cons_succ]
        refine wpAnyH_take (i := 14) (v := undef) rfl (by kernel_rfl) (by kernel_rfl) (by kernel_rfl) (fun _ _ _ h => h) (Or.inr ⟨by rfl, rfl⟩) S0 ?_
        try simp only [Act.put, List.setIfInBounds_toArray, List.set_cons_zero, List.set_cons_succ, List.getElem_toArray, List.getElem_cons_zero, List.getElem_cons_succ]
        refine wpAnyH_take (i := 15) (v := undef) rfl (by kernel_rfl) (by kernel_rfl) (by kernel_rfl) (fun _ _ _ h => h) (Or.inr ⟨by rfl, rfl⟩) S0 ?_
        try simp only [Act.put, List.setIfInBounds_toArray, List.set_cons_zero, List.set_cons_succ, List.getElem_toArray, List.getElem_cons_zero, List.getElem_cons_succ]
        refine wpAnyH_take (i := 16) (v := undef) rfl (by kernel_rfl) (by kernel_rfl) (by kernel_rfl) (fun _ _ _ h => h) (Or.inr ⟨by rfl, rfl⟩) S0 ?_
        try simp only [Act.put, List.setIfInBounds_toArray, List.set_cons_zero, List.set_cons_succ, List.getElem_toArray, List.getElem_cons_zero, List.getElem_cons_succ]
        refine wpAnyH_take (i := 17) (v := undef) rfl (by kernel_rfl) (by kernel_rfl) (by kernel_rfl) (fun _ _ _ h => h) (Or.inr ⟨by rfl, rfl⟩) S0 ?_
        try simp only [Act.put, List.setIfInBounds_toArray, List.set_cons_zero, List.set_cons_succ, List.getElem_toArray, List.getElem_cons_zero, List.getElem_cons_succ]
        refine wpAnyH_take (i := 18) (v := undef) rfl (by kernel_rfl) (by kernel_rfl) (by kernel_rfl) (fun _ _ _ h => h) (Or.inr ⟨by rfl, rfl⟩) S0 ?_
        try simp only [Act.put, List.setIfInBounds_toArray, List.set_cons_zero, List.set_cons_succ, List.getElem_toArray, List.getElem_cons_zero, List.getElem_cons_succ]
        refine wpAnyH_take (i := 19) (v := undef) rfl (by kernel_rfl) (by kernel_rfl) (by kernel_rfl) (fun _ _ _ h => h) (Or.inr ⟨by rfl, rfl⟩) S0 ?_
        try simp only [Act.put, List.setIfInBounds_toArray, List.set_cons_zero, List.set_cons_succ, List.getElem_toArray, List.getElem_cons_zero, List.getElem_cons_succ]
        refine wpAnyH_take (i := 20) (v := undef) rfl (by kernel_rfl) (by kernel_rfl) (by kernel_rfl) (fun _ _ _ h => h) (Or.inr ⟨by rfl, rfl⟩) S0 ?_
        try simp only [Act.put, List.setIfInBounds_toArray, List.set_cons_zero, List.set_cons_succ, List.getElem_toArray, List.getElem_cons_zero, List.getElem_cons_succ]
        refine wpAnyH_take (i := 21) (v := ?_) rfl (by kernel_rfl) (by kernel_rfl) (by kernel_rfl) (fun _ _ _ h => h) (Or.inl ⟨by rfl, ?_⟩) S0 ?_
        rotate_left
        · intro u hu
          go_simp
          try rfl
        try simp only [Act.put, List.setIfInBounds_toArray, List.set_cons_zero, List.set_cons_succ, List.getElem_toArray, List.getElem_cons_zero, List.getElem_cons_succ]
        refine wpAnyH_take (i := 22) (v := ?_) rfl (by kernel_rfl) (by kernel_rfl) (by kernel_rfl) (fun _ _ _ h => h) (Or.inl ⟨by rfl, ?_⟩) S0 ?_
        rotate_left
        · intro u hu
          go_simp
          try rfl
        try simp only [Act.put, List.setIfInBounds_toArray, List.set_cons_zero, List.set_cons_succ, List.getElem_toArray, List.getElem_cons_zero, List.getElem_cons_succ]
        refine wpAnyH_done (by kernel_rfl) ?_ _
        clear S0
        go_wp2
        go_roundw
        case rel => exact ⟨1, by go_num, by omega, B4⟩
        case measure => simp [intOf]; omega
      · obtain ⟨y, hy⟩ : ∃ y, T[j]? = some y := ⟨_, List.getElem?_eq_getElem (by have := TL.out.1; omega)⟩
        have YC : Hid (w4.drew.cell? (ad.add (j * 2)) = some (.int .u64 (y.who : Int))) := Lib.hid (at16 L4.out.old hy).1
        have YL : y.who < x.who := by
          have q := List.pairwise_iff_getElem.1 TG.out.1 j (j + 1) (by have := TL.out.1; omega) (by have := TL.out.1; omega) (by omega)
          have e1 := List.getElem?_eq_some_iff.1 hy
          have e2 := List.getElem?_eq_some_iff.1 X.out
          rw [e1.2, e2.2] at q
          exact q
        have f1 : decide ((x.who : Int) ≤ (y.who : Int)) = false := by simp; omega
        have f2 : ¬ (x.who : Int) ≤ (y.who : Int) := by omega
        have f3 : decide (x.who ≤ y.who) = false := by simp; omega
        have hgt : decide ((0 : Int) < ((j + 1 : Nat) : Int)) = true := decide_eq_true (by omega)
        have hgt2 : (0 : Int) < ((j + 1 : Nat) : Int) := by omega
        have HJ : Hid (IntKind.i64.wrap (j : Int) = (j : Int) ∧ (j : Int) < (tl : Int)) := Lib.hid (by
          have := TL.out.2
          refine ⟨?_, by omega⟩
          simp only [IntKind.wrap, IntKind.bits, IntKind.signed]
          simp
          omega)
        clear hy YL
        go_wp2_with fail
        refine wp_region_held_drew (S := fun u => u.heap[wr.heap.size]? = some (.cells #[.int .u64 (x.who : Int), .int .u64 (x.id : Int)] 45 (0, 0)) ∧ u.cell? (ad.add (j * 2)) = some (.int .u64 (y.who : Int))) (by kernel_rfl) (⟨LB.out, YC.out⟩) (fun S0 => ?_)
        refine wpAnyH_take (i := 0) (v := ?_) rfl (by kernel_rfl) (by kernel_rfl) (by kernel_rfl) (fun _ _ _ h => h) (Or.inl ⟨by rfl, ?_⟩) S0 ?_
        rotate_left
        · intro u hu
          go_simp
          try rfl
        try simp only [Act.put, List.setIfInBounds_toArray, List.set_cons_zero, List.set_cons_succ, List.getElem_toArray, List.getElem_cons_zero, List.getElem_cons_succ]
        refine wpAnyH_take (i := 1) (v := ?_) rfl (by kernel_rfl) (by kernel_rfl) (by kernel_rfl) (fun _ _ _ h => h) (Or.inl ⟨by rfl, ?_⟩) S0 ?_
        rotate_left
        · intro u hu
          obtain ⟨y0, y1⟩ := two_cells hu.1
          go_simp
          try rfl
        try simp only [Act.put, List.setIfInBounds_toArray, List.set_cons_zero, List.set_cons_succ, List.getElem_toArray, List.getElem_cons_zero, List.getElem_cons_succ]
        refine wpAnyH_take (i := 2) (v := ?_) rfl (by kernel_rfl) (by kernel_rfl) (by kernel_rfl) (fun _ _ _ h => h) (Or.inl ⟨by rfl, ?_⟩) S0 ?_
        rotate_left
        · intro u hu
          go_simp
          try rfl
        try simp only [Act.put, List.setIfInBounds_toArray, List.set_cons_zero, List.set_cons_succ, List.getElem_toArray, List.getElem_cons_zero, List.getElem_cons_succ]
        refine wpAnyH_take (i := 3) (v := ?_) rfl (by kernel_rfl) (by kernel_rfl) (by kernel_rfl) (fun _ _ _ h => h) (Or.inl ⟨by rfl, ?_⟩) S0 ?_
        rotate_left
        · intro u hu
          go_simp
          try rfl
        try simp only [Act.put, List.setIfInBounds_toArray, List.set_cons_zero, List.set_cons_succ, List.getElem_toArray, List.getElem_cons_zero, List.getElem_cons_succ]
        refine wpAnyH_take (i := 4) (v := ?_) rfl (by kernel_rfl) (by kernel_rfl) (by kernel_rfl) (fun _ _ _ h => h) (Or.inl ⟨by rfl, ?_⟩) S0 ?_
        rotate_left
        · intro u hu
          go_simp
          try rfl
        try simp only [Act.put, List.setIfInBounds_toArray, List.set_cons_zero, List.set_cons_succ, List.getElem_toArray, List.getElem_cons_zero, List.getElem_cons_succ]
        refine wpAnyH_take (i := 5) (v := ?_) rfl (by kernel_rfl) (by kernel_rfl) (by kernel_rfl) (fun _ _ _ h => h) (Or.inl ⟨by rfl, ?_⟩) S0 ?_
        rotate_left
        · intro u hu
          obtain ⟨y0, y1⟩ := two_cells hu.1
          go_simp
          try rfl
        try simp only [Act.put, List.setIfInBounds_toArray, List.set_cons_zero, List.set_cons_succ, List.getElem_toArray, List.getElem_cons_zero, List.getElem_cons_succ]
        refine wpAnyH_take (i := 6) (v := ?_) rfl (by kernel_rfl) (by kernel_rfl) (by kernel_rfl) (fun _ _ _ h => h) (Or.inl ⟨by rfl, ?_⟩) S0 ?_
        rotate_left
        · intro u hu
          go_simp
          try rfl
        try simp only [Act.put, List.setIfInBounds_toArray, List.set_cons_zero, List.set_cons_succ, List.getElem_toArray, List.getElem_cons_zero, List.getElem_cons_succ]
        refine wpAnyH_take (i := 7) (v := ?_) rfl (by kernel_rfl) (by kernel_rfl) (by kernel_rfl) (fun _ _ _ h => h) (Or.inl ⟨by rfl, ?_⟩) S0 ?_
        rotate_left
        · intro u hu
          go_simp
          try rfl
        try simp only [Act.put, List.setIfInBounds_toArray, List.set_cons_zero, List.set_cons_succ, List.getElem_toArray, List.getElem_cons_zero, List.getElem_cons_succ]
        refine wpAnyH_take (i := 8) (v := ?_) rfl (by kernel_rfl) (by kernel_rfl) (by kernel_rfl) (fun _ _ _ h => h) (Or.inl ⟨by rfl, ?_⟩) S0 ?_
        rotate_left
        · intro u hu
          go_simp
          try rfl
        try simp only [Act.put, List.setIfInBounds_toArray, List.set_cons_zero, List.set_cons_succ, List.getElem_toArray, List.getElem_cons_zero, List.getElem_cons_succ]
        refine wpAnyH_take (i := 9) (v := ?_) rfl (by kernel_rfl) (by kernel_rfl) (by kernel_rfl) (fun _ _ _ h => h) (Or.inl ⟨by rfl, ?_⟩) S0 ?_
        rotate_left
        · intro u hu
          go_simp
          try rfl
        try simp only [Act.put, List.setIfInBounds_toArray, List.set_cons_zero, List.set_cons_succ, List.getElem_toArray, List.getElem_cons_zero, List.getElem_cons_succ]
        refine wpAnyH_take (i := 10) (v := ?_) rfl (by kernel_rfl) (by kernel_rfl) (by kernel_rfl) (fun _ _ _ h => h) (Or.inl ⟨by rfl, ?_⟩) S0 ?_
        rotate_left
        · intro u hu
          go_simp
          try rfl
        try simp only [Act.put, List.setIfInBounds_toArray, List.set_cons_zero, List.set_cons_succ, List.getElem_toArray, List.getElem_cons_zero, List.getElem_cons_succ]
        refine wpAnyH_take (i := 11) (v := ?_) rfl (by kernel_rfl) (by kernel_rfl) (by kernel_rfl) (fun _ _ _ h => h) (Or.inl ⟨by rfl, ?_⟩) S0 ?_
        rotate_left
        · intro u hu
          go_simp
          try rfl
        try simp only [Act.put, List.setIfInBounds_toArray, List.set_cons_zero, List.set_cons_succ, List.getElem_toArray, List.getElem_cons_zero, List.getElem_cons_succ]
        refine wpAnyH_take (i := 12) (v := ?_) rfl (by kernel_rfl) (by kernel_rfl) (by kernel_rfl) (fun _ _ _ h => h) (Or.inl ⟨by rfl, ?_⟩) S0 ?_
        rotate_left
        · intro u hu
          go_simp
          try rfl
        try simp only [Act.put, List.setIfInBounds_toArray, List.set_cons_zero, List.set_cons_succ, List.getElem_toArray, List.getElem_cons_zero, List.getElem_cons_succ]
        refine wpAnyH_take (i := 13) (v := ?_) rfl (by kernel_rfl) (by kernel_rfl) (by kernel_rfl) (fun _ _ _ h => h) (Or.inl ⟨by rfl, ?_⟩) S0 ?_
        rotate_left
        · intro u hu
          obtain ⟨y0, y1⟩ := two_cells hu.1
          go_simp
          try rfl
        try simp only [Act.put, List.setIfInBounds_toArray, List.set_cons_zero, List.set_cons_succ, List.getElem_toArray, List.getElem_cons_zero, List.getElem_cons_succ]
        refine wpAnyH_take (i := 14) (v := ?_) rfl (by kernel_rfl) (by kernel_rfl) (by kernel_rfl) (fun _ _ _ h => h) (Or.inl ⟨by rfl, ?_⟩) S0 ?_
        rotate_left
        · intro u hu
          go_simp
          try rfl
        try simp only [Act.put, List.setIfInBounds_toArray, List.set_cons_zero, List.set_cons_succ, List.getElem_toArray, List.getElem_cons_zero, List.getElem_cons_succ]
        refine wpAnyH_take (i := 15) (v := ?_) rfl (by kernel_rfl) (by kernel_rfl) (by kernel_rfl) (fun _ _ _ h => h) (Or.inl ⟨by rfl, ?_⟩) S0 ?_
        rotate_left
        · intro u hu
          go_simp
          try rfl
        try simp only [Act.put, List.setIfInBounds_toArray, List.set_cons_zero, List.set_cons_succ, List.getElem_toArray, List.getElem_cons_zero, List.getElem_cons_succ]
        refine wpAnyH_take (i := 16) (v := ?_) rfl (by kernel_rfl) (by kernel_rfl) (by kernel_rfl) (fun _ _ _ h => h) (Or.inl ⟨by rfl, ?_⟩) S0 ?_
        rotate_left
        · intro u hu
          obtain ⟨j0, j1⟩ := HJ.out
          go_simp
          try rfl
        try simp only [Act.put, List.setIfInBounds_toArray, List.set_cons_zero, List.set_cons_succ, List.getElem_toArray, List.getElem_cons_zero, List.getElem_cons_succ]
        refine wpAnyH_take (i := 17) (v := ?_) rfl (by kernel_rfl) (by kernel_rfl) (by kernel_rfl) (fun _ _ _ h => h) (Or.inl ⟨by rfl, ?_⟩) S0 ?_
        rotate_left
        · intro u hu
          obtain ⟨j0, j1⟩ := HJ.out
          go_simp
          try rfl
        try simp only [Act.put, List.setIfInBounds_toArray, List.set_cons_zero, List.set_cons_succ, List.getElem_toArray, List.getElem_cons_zero, List.getElem_cons_succ]
        refine wpAnyH_take (i := 18) (v := ?_) rfl (by kernel_rfl) (by kernel_rfl) (by kernel_rfl) (fun _ _ _ h => h) (Or.inl ⟨by rfl, ?_⟩) S0 ?_
        rotate_left
        · intro u hu
          go_simp
          try rfl
        try simp only [Act.put, List.setIfInBounds_toArray, List.set_cons_zero, List.set_cons_succ, List.getElem_toArray, List.getElem_cons_zero, List.getElem_cons_succ]
        refine wpAnyH_take (i := 19) (v := ?_) rfl (by kernel_rfl) (by kernel_rfl) (by kernel_rfl) (fun _ _ _ h => h) (Or.inl ⟨by rfl, ?_⟩) S0 ?_
        rotate_left
        · intro u hu
          have y2 := hu.2
          go_simp
          try rfl
        try simp only [Act.put, List.setIfInBounds_toArray, List.set_cons_zero, List.set_cons_succ, List.getElem_toArray, List.getElem_cons_zero, List.getElem_cons_succ]
        refine wpAnyH_take (i := 20) (v := ?_) rfl (by kernel_rfl) (by kernel_rfl) (by kernel_rfl) (fun _ _ _ h => h) (Or.inl ⟨by rfl, ?_⟩) S0 ?_
        rotate_left
        · intro u hu
          go_simp
          try rfl
        try simp only [Act.put, List.setIfInBounds_toArray, List.set_cons_zero, List.set_cons_succ, List.getElem_toArray, List.getElem_cons_zero, List.getElem_cons_succ]
        refine wpAnyH_take (i := 21) (v := ?_) rfl (by kernel_rfl) (by kernel_rfl) (by kernel_rfl) (fun _ _ _ h => h) (Or.inl ⟨by rfl, ?_⟩) S0 ?_
        rotate_left
        · intro u hu
          go_simp
          try rfl
        try simp only [Act.put, List.setIfInBounds_toArray, List.set_cons_zero, List.set_cons_succ, List.getElem_toArray, List.getElem_cons_zero, List.getElem_cons_succ]
        refine wpAnyH_take (i := 22) (v := ?_) rfl (by kernel_rfl) (by kernel_rfl) (by kernel_rfl) (fun _ _ _ h => h) (Or.inl ⟨by rfl, ?_⟩) S0 ?_
        rotate_left
        · intro u hu
          go_simp
          try rfl
        try simp only [Act.put, List.setIfInBounds_toArray, List.set_cons_zero, List.set_cons_succ, List.getElem_toArray, List.getElem_cons_zero, List.getElem_cons_succ]
        refine wpAnyH_done (by kernel_rfl) ?_ _
        clear S0
        go_wp2
        go_roundw
        case rel => exact ⟨j + 1 + 1, by go_num, by omega, B4⟩
        case measure => simp [intOf]; omega
    · obtain rfl : i = tl := by omega
      have hltz : ¬ ((i : Int) < (i : Int)) := by omega
      have B4 : Hid (Below w.heap.size w wr) := Lib.hid (C3.out.trans (BR.out.mono C3.out.size))
      have T4 : Hid (TB T p mb n wr) := Lib.hid (T3.out.below BR.out)
      have L4 : Hid (Lies wr 0 45 A3 (acells T)) := Lib.hid (L3.out.below (Nat.zero_le _) BR.out)
      have NC := Lib.hid (new16_c (c := k3) (l := T) (n := i) (w := wr) L4.out.old TL.out.1 (by have := TL.out.2; omega) (fun x hx => (TG.out.2 x hx).1))
      rw [D16.news_self TG.out] at NC
      go_wp2_with fail
      refine NC.out.mono ?_
      rintro e w5 ⟨p5, mb5, rfl, hp5, hm5, ht5, hb5⟩
      have T5 := Lib.hid (T4.out.below hb5)
      have U5 := Lib.hid ht5
      have L5 : Hid (Lies w5 0 45 A3 (acells T)) := Lib.hid (L4.out.below (Nat.zero_le _) hb5)
      have B5 : Hid (Below w.heap.size w w5) := Lib.hid (B4.out.trans (hb5.mono B4.out.size))
      have AC := Lib.hid (lawall16_c ht5 (by have := TL.out; omega))
      clear hp5 hm5 ht5 hb5 NC
      go_wp2_with fail
      refine AC.out.mono ?_
      rintro e w6 ⟨A6, k6, rfl, hr6, hb6⟩
      have T6 := Lib.hid (T5.out.below hb6)
      have U6 := Lib.hid (U5.out.below hb6)
      have B6 : Hid (Below w.heap.size w w6) := Lib.hid (B5.out.trans (hb6.mono B5.out.size))
      have SL := Lib.hid (refSameLasts_c (c := k6) (c2 := k3) (show AL w6 A6 T from (lies_own (B := 0) hr6).old) (show AL w6 A3 T from (L5.out.below (Nat.zero_le _) hb6).old) rfl rfl (by have := TL.out; omega))
      rw [decide_eq_true rfl, ← TL.out.1] at SL
      rw [← TL.out.1]
      clear hr6 hb6 AC
      go_wp2_with fail
      refine SL.out.mono ?_
      rintro e w7 ⟨rfl, j7, rfl⟩
      have T7 : Hid (TB T p mb n (w6.drewN j7)) := Lib.hid (T6.out.below (below_drewN (Below.refl _ _) j7))
      have U7 : Hid (TB T p5 mb5 i (w6.drewN j7)) := Lib.hid (U6.out.below (below_drewN (Below.refl _ _) j7))
      have B7 : Hid (Below w.heap.size w (w6.drewN j7)) := Lib.hid (below_drewN B6.out j7)
      have LC := Lib.hid (last16_c T7.out HK.out)
      have LU := Lib.hid (last16_c U7.out HK.out)
      obtain ⟨la, hla⟩ : ∃ v, v = D16.lastN T k := ⟨_, rfl⟩
      rw [← hla] at LC LU
      clear hla SL
      go_wp2_with fail
      refine LU.out.mono ?_
      rintro e w8 ⟨rfl, rfl⟩
      go_wp2_with fail
      refine LC.out.mono ?_
      rintro e w8 ⟨rfl, rfl⟩
      go_wp2
      go_ret
      exact ⟨ret_bool (by simp), B7.out⟩
end
end Go.Proofs.Ytmcfknnfaokmlaa
