/- Stage 16: the walk of DedupDoes (written by wip/gen16do.py). -/
import Derived.Test.YtmcfknnfaokmlaaUj
namespace Go.Proofs.Ytmcfknnfaokmlaa
set_option maxRecDepth 100000
set_option linter.unusedSimpArgs false
section
open Go.RowKit Go.Lib Go.Shelf
set_option maxRecDepth 100000 in
set_option maxHeartbeats 4000000 in
theorem dedupDoes_c {A A2 : Option Addr} {n c n2 c2 k : Nat} {l : List La} {ms : List Dd16} {w : World} (h : AL w A l) (hn : n = l.length) (ho : ∀ x ∈ l, x.ok) (h2 : DdL16 w A2 ms) (hn2 : n2 = ms.length) (ho2 : ∀ d ∈ ms, d.ok) (hk : k < 18446744073709551616) :
    Calls Try.prog 3 #[.slice A n c, .slice A2 n2 c2, .int .u64 (k : Int)] w fun e w' => e = .returned (.bool true) ∧ Below w.heap.size w w' := by
  have AW := Lib.hid (awake16_c w)
  have H := Lib.hid h
  have HN := Lib.hid hn
  have HO := Lib.hid ho
  have H2 := Lib.hid h2
  have HN2 := Lib.hid hn2
  have HO2 := Lib.hid ho2
  have HK := Lib.hid hk
  clear h hn ho h2 hn2 ho2 hk
  go_enter Try.func3, Try.ntmps3
  go_wp2_with fail
  refine AW.out.mono ?_
  rintro e w1 ⟨rfl, c1⟩
  have C1 := Lib.hid c1
  clear c1
  by_cases hl : 30 < n
  · have hz : (30 : Int) < (n : Int) := by omega
    have hz2 : decide ((30 : Int) < (n : Int)) = true := by simp; omega
    clear hl
    go_wp2
    go_ret
    exact ⟨rfl, C1.out⟩
  have hz : ¬ (30 : Int) < (n : Int) := by omega
  have hz2 : decide ((30 : Int) < (n : Int)) = false := by simp; omega
  have HL : Hid (n ≤ 30) := Lib.hid (by omega)
  clear hl
  by_cases hl : 60 < n2
  · have hy : (60 : Int) < (n2 : Int) := by omega
    have hy2 : decide ((60 : Int) < (n2 : Int)) = true := by simp; omega
    clear hl
    go_wp2
    go_ret
    exact ⟨rfl, C1.out⟩
  have hy : ¬ (60 : Int) < (n2 : Int) := by omega
  have hy2 : decide ((60 : Int) < (n2 : Int)) = false := by simp; omega
  have HL2 : Hid (n2 ≤ 60) := Lib.hid (by omega)
  clear hl
  have NC := Lib.hid (new16_c (c := c) (H.out.stay C1.out) HN.out (by have := HL.out; omega) HO.out)
  obtain ⟨T, hT⟩ : ∃ t, t = D16.news16 l := ⟨_, rfl⟩
  have HT0 := Lib.hid hT
  rw [← hT] at NC
  clear hT
  go_wp2_with fail
  refine NC.out.mono ?_
  rintro e w2 ⟨p, mb, rfl, hp, hm, ht, hb⟩
  have T2 := Lib.hid ht
  have C2 := Lib.hid (C1.out.trans (hb.mono C1.out.size))
  have PM : Hid (w.heap.size ≤ mb) := Lib.hid (Nat.le_trans C1.out.size hm)
  have XC := Lib.hid (refNew16_c (c := c) (H.out.stay C2.out) HN.out (by have := HL.out; omega) HO.out)
  rw [← HT0.out] at XC
  clear hp hm ht hb hz hz2 hy hy2 NC
  go_wp2_with fail
  refine XC.out.mono ?_
  rintro e w3 ⟨px, rfl, hpx, hd3, hb3⟩
  have T3 := Lib.hid (T2.out.below hb3)
  have D3 := Lib.hid hd3
  have NX : Hid (p ≠ px ∧ mb ≠ px) := Lib.hid (by have := T2.out.lt; omega)
  have PX : Hid (w.heap.size ≤ px) := Lib.hid (Nat.le_trans C2.out.size hpx)
  have C3 := Lib.hid (C2.out.trans (hb3.mono C2.out.size))
  clear hpx hd3 hb3 XC
  go_wp2_with fail
  go_loopw [27] (fun s27 wr => ∃ (i : Nat) (T : List La), s27 = .int .i64 i ∧ i ≤ n2 ∧ Hid (TB T p mb (n + i) wr) ∧ Hid (DT T px wr) ∧ Hid (Below w.heap.size w wr)) (fun s27 _ => n2 - (intOf s27).toNat)
  case atStart => exact ⟨0, T, rfl, Nat.zero_le _, T3, D3, C3⟩
  case round =>
    clear T2 T3 D3 HT0 C2 C3
    obtain ⟨i, T, rfl, hi, HT, HD, BR⟩ := hrel
    have TL : Hid (T.length ≤ 1000000) := Lib.hid (by have := HT.out.c; have := HL.out; have := HL2.out; omega)
    have TG := Lib.hid HT.out.g
    have LT := Lib.hid (And.intro HT.out.lt HD.out.lt)
    have hn60 := HL2.out
    by_cases hlt : i < n2
    · have hltz : (i : Int) < (n2 : Int) := by omega
      obtain ⟨ad, d, hA, hd, q0, q1, q2⟩ := (H2.out.stay BR.out).at_ (k := i) (by have := HN2.out; omega)
      subst hA
      obtain ⟨da, hda⟩ : ∃ v, v = d.ask := ⟨_, rfl⟩
      rw [← hda] at q2
      clear hda
      have DO := Lib.hid (HO2.out d (List.mem_of_getElem? hd))
      obtain ⟨er, her⟩ : ∃ v, D16.ask16 T d.who d.id = v := ⟨_, rfl⟩
      have ER := Lib.hid her
      clear hd her
      cases da
      case true =>
        obtain ⟨w4, hw4⟩ : ∃ u, wr.alloc (.cells #[.int .u64 (d.who : Int), .int .u64 (d.id : Int), .bool true] 31) = u := ⟨_, rfl⟩
        obtain ⟨lb, b4, z4⟩ := new_three16 hw4
        have LB : Hid (w4.drew.heap[wr.heap.size]? = some (.cells #[.int .u64 (d.who : Int), .int .u64 (d.id : Int), .bool true] 31 (0, 0))) := Lib.hid lb
        have B4 : Hid (Below w.heap.size w w4.drew) := Lib.hid (BR.out.trans (b4.mono BR.out.size)).drew
        have T4 : Hid (TB T p mb (n + i) w4.drew) := Lib.hid ((HT.out.below b4).same rfl rfl)
        have D4 : Hid (DT T px w4.drew) := Lib.hid (HD.out.below b4).drew
        obtain ⟨y0, y1, y2⟩ := three_cells16 lb
        have HW4 := Lib.hid hw4
        clear lb b4 z4 hw4
        have AC := Lib.hid (ask16_c T4.out DO.out.1 DO.out.2)
        have AX := Lib.hid (refAsk16_c D4.out TL.out TG.out DO.out.1 DO.out.2)
        rw [ER.out] at AC AX
        go_wp2_with fail
        rw [HW4.out]
        refine wp_region_held_drew (S := fun u => u.heap[wr.heap.size]? = some (.cells #[.int .u64 (d.who : Int), .int .u64 (d.id : Int), .bool true] 31 (0, 0))) (by kernel_rfl) (LB.out) (fun S0 => ?_)
        refine wpAnyH_take (i := 0) (v := ?_) rfl (by kernel_rfl) (by kernel_rfl) (by kernel_rfl) (fun _ _ _ h => h) (Or.inl ⟨by rfl, ?_⟩) S0 ?_
        rotate_left
        · intro u hu
          go_simp
          try rfl
        try simp only [Act.put, List.setIfInBounds_toArray, List.set_cons_zero, List.set_cons_succ, List.getElem_toArray, List.getElem_cons_zero, List.getElem_cons_succ]
        refine wpAnyH_take (i := 1) (v := ?_) rfl (by kernel_rfl) (by kernel_rfl) (by kernel_rfl) (fun _ _ _ h => h) (Or.inl ⟨by rfl, ?_⟩) S0 ?_
        rotate_left
        · intro u hu
          go_simp
          try rfl
        try simp only [Act.put, List.setIfInBounds_toArray, List.set_cons_zero, List.set_cons_succ, List.getElem_toArray, List.getElem_cons_zero, List.getElem_cons_succ]
        refine wpAnyH_take (i := 2) (v := ?_) rfl (by kernel_rfl) (by kernel_rfl) (by kernel_rfl) (fun _ _ _ h => h) (Or.inl ⟨by rfl, ?_⟩) S0 ?_
        rotate_left
        · intro u hu
          obtain ⟨y0, y1, y2⟩ := three_cells16 hu
          go_simp
          try rfl
        try simp only [Act.put, List.setIfInBounds_toArray, List.set_cons_zero, List.set_cons_succ, List.getElem_toArray, List.getElem_cons_zero, List.getElem_cons_succ]
        refine wpAnyH_take (i := 3) (v := ?_) rfl (by kernel_rfl) (by kernel_rfl) (by kernel_rfl) (fun _ _ _ h => h) (Or.inl ⟨by rfl, ?_⟩) S0 ?_
        rotate_left
        · intro u hu
          go_simp
          try rfl
        try simp only [Act.put, List.setIfInBounds_toArray, List.set_cons_zero, List.set_cons_succ, List.getElem_toArray, List.getElem_cons_zero, List.getElem_cons_succ]
        refine wpAnyH_take (i := 4) (v := ?_) rfl (by kernel_rfl) (by kernel_rfl) (by kernel_rfl) (fun _ _ _ h => h) (Or.inl ⟨by rfl, ?_⟩) S0 ?_
        rotate_left
        · intro u hu
          obtain ⟨y0, y1, y2⟩ := three_cells16 hu
          go_simp
          try rfl
        try simp only [Act.put, List.setIfInBounds_toArray, List.set_cons_zero, List.set_cons_succ, List.getElem_toArray, List.getElem_cons_zero, List.getElem_cons_succ]
        refine wpAnyH_take (i := 6) (v := ?_) rfl (by kernel_rfl) (by kernel_rfl) (by kernel_rfl) (fun _ _ _ h => h) (Or.inl ⟨by rfl, ?_⟩) S0 ?_
        rotate_left
        · intro u hu
          go_simp
          try rfl
        try simp only [Act.put, List.setIfInBounds_toArray, List.set_cons_zero, List.set_cons_succ, List.getElem_toArray, List.getElem_cons_zero, List.getElem_cons_succ]
        refine wpAnyH_take (i := 7) (v := ?_) rfl (by kernel_rfl) (by kernel_rfl) (by kernel_rfl) (fun _ _ _ h => h) (Or.inl ⟨by rfl, ?_⟩) S0 ?_
        rotate_left
        · intro u hu
          go_simp
          try rfl
        try simp only [Act.put, List.setIfInBounds_toArray, List.set_cons_zero, List.set_cons_succ, List.getElem_toArray, List.getElem_cons_zero, List.getElem_cons_succ]
        refine wpAnyH_take (i := 8) (v := ?_) rfl (by kernel_rfl) (by kernel_rfl) (by kernel_rfl) (fun _ _ _ h => h) (Or.inl ⟨by rfl, ?_⟩) S0 ?_
        rotate_left
        · intro u hu
          obtain ⟨y0, y1, y2⟩ := three_cells16 hu
          go_simp
          try rfl
        try simp only [Act.put, List.setIfInBounds_toArray, List.set_cons_zero, List.set_cons_succ, List.getElem_toArray, List.getElem_cons_zero, List.getElem_cons_succ]
        refine wpAnyH_take (i := 9) (v := ?_) rfl (by kernel_rfl) (by kernel_rfl) (by kernel_rfl) (fun _ _ _ h => h) (Or.inl ⟨by rfl, ?_⟩) S0 ?_
        rotate_left
        · intro u hu
          go_simp
          try rfl
        try simp only [Act.put, List.setIfInBounds_toArray, List.set_cons_zero, List.set_cons_succ, List.getElem_toArray, List.getElem_cons_zero, List.getElem_cons_succ]
        refine wpAnyH_take (i := 10) (v := ?_) rfl (by kernel_rfl) (by kernel_rfl) (by kernel_rfl) (fun _ _ _ h => h) (Or.inl ⟨by rfl, ?_⟩) S0 ?_
        rotate_left
        · intro u hu
          obtain ⟨y0, y1, y2⟩ := three_cells16 hu
          go_simp
          try rfl
        try simp only [Act.put, List.setIfInBounds_toArray, List.set_cons_zero, List.set_cons_succ, List.getElem_toArray, List.getElem_cons_zero, List.getElem_cons_succ]
        refine anyH_one16 (i := 5) (by kernel_rfl) rfl (fun K hK => ?_)
        go_simp
        refine AC.out.mono ?_
        rintro e v5 ⟨rfl, rfl⟩
        refine hK _ _ S0 ?_
        clear hK K
        try simp only [Act.put, List.setIfInBounds_toArray, List.set_cons_zero, List.set_cons_succ, List.getElem_toArray, List.getElem_cons_zero, List.getElem_cons_succ]
        refine anyH_one16 (i := 11) (by kernel_rfl) rfl (fun K hK => ?_)
        go_simp
        refine AX.out.mono ?_
        rintro e v11 ⟨rfl, hbv⟩
        have BV := Lib.hid hbv
        have XB : Hid (Below w.heap.size w v11) := Lib.hid (B4.out.trans (hbv.mono B4.out.size))
        have S1 := blk_keep S0 hbv
        refine hK _ _ S1 ?_
        clear hK K S0
        have S0 := S1
        clear S1
        try simp only [Act.put, List.setIfInBounds_toArray, List.set_cons_zero, List.set_cons_succ, List.getElem_toArray, List.getElem_cons_zero, List.getElem_cons_succ]
        clear hbv
        refine wpAnyH_take (i := 12) (v := ?_) rfl (by kernel_rfl) (by kernel_rfl) (by kernel_rfl) (fun _ _ _ h => h) (Or.inl ⟨by rfl, ?_⟩) S0 ?_
        rotate_left
        · intro u hu
          go_simp
          try rfl
        try simp only [Act.put, List.setIfInBounds_toArray, List.set_cons_zero, List.set_cons_succ, List.getElem_toArray, List.getElem_cons_zero, List.getElem_cons_succ]
        refine wpAnyH_done (by kernel_rfl) ?_ _
        clear S0
        go_wp2
        go_roundw
        case rel => exact ⟨i + 1, T, by go_num, by omega, Lib.hid ((T4.out.below BV.out).up (by omega)), Lib.hid (D4.out.below BV.out), XB⟩
        case measure => simp [intOf]; omega
      case false =>
        obtain ⟨w4, hw4⟩ : ∃ u, wr.alloc (.cells #[.int .u64 (d.who : Int), .int .u64 (d.id : Int), .bool false] 31) = u := ⟨_, rfl⟩
        obtain ⟨lb, b4, z4⟩ := new_three16 hw4
        have LB : Hid (w4.drew.heap[wr.heap.size]? = some (.cells #[.int .u64 (d.who : Int), .int .u64 (d.id : Int), .bool false] 31 (0, 0))) := Lib.hid lb
        have B4 : Hid (Below w.heap.size w w4.drew) := Lib.hid (BR.out.trans (b4.mono BR.out.size)).drew
        have T4 : Hid (TB T p mb (n + i) w4.drew) := Lib.hid ((HT.out.below b4).same rfl rfl)
        have D4 : Hid (DT T px w4.drew) := Lib.hid (HD.out.below b4).drew
        obtain ⟨y0, y1, y2⟩ := three_cells16 lb
        have HW4 := Lib.hid hw4
        clear lb b4 z4 hw4
        have TC := Lib.hid (take16_c (k := d.who) (i := d.id) T4.out (by have := HL.out; have := HL2.out; unfold maxLen; omega) DO.out.1 DO.out.2)
        rw [ER.out] at TC
        have TX : ∀ u, DT T px u → Hid (Calls Try.prog 13 #[.pointer (some ⟨px, 0, none⟩), .int .u64 (d.who : Int), .int .u64 (d.id : Int)] u (TakeD16 d.who d.id T px u)) := fun u hu => Lib.hid (refTake16_c hu TL.out TG.out DO.out.1 DO.out.2)
        have HTX := Lib.hid TX
        clear TX
        go_wp2_with fail
        rw [HW4.out]
        refine wp_region_held_drew (S := fun u => u.heap[wr.heap.size]? = some (.cells #[.int .u64 (d.who : Int), .int .u64 (d.id : Int), .bool false] 31 (0, 0))) (by kernel_rfl) (LB.out) (fun S0 => ?_)
        refine wpAnyH_take (i := 0) (v := ?_) rfl (by kernel_rfl) (by kernel_rfl) (by kernel_rfl) (fun _ _ _ h => h) (Or.inl ⟨by rfl, ?_⟩) S0 ?_
        rotate_left
        · intro u hu
          go_simp
          try rfl
        try simp only [Act.put, List.setIfInBounds_toArray, List.set_cons_zero, List.set_cons_succ, List.getElem_toArray, List.getElem_cons_zero, List.getElem_cons_succ]
        refine wpAnyH_take (i := 1) (v := ?_) rfl (by kernel_rfl) (by kernel_rfl) (by kernel_rfl) (fun _ _ _ h => h) (Or.inl ⟨by rfl, ?_⟩) S0 ?_
        rotate_left
        · intro u hu
          go_simp
          try rfl
        try simp only [Act.put, List.setIfInBounds_toArray, List.set_cons_zero, List.set_cons_succ, List.getElem_toArray, List.getElem_cons_zero, List.getElem_cons_succ]
        refine wpAnyH_take (i := 2) (v := ?_) rfl (by kernel_rfl) (by kernel_rfl) (by kernel_rfl) (fun _ _ _ h => h) (Or.inl ⟨by rfl, ?_⟩) S0 ?_
        rotate_left
        · intro u hu
          obtain ⟨y0, y1, y2⟩ := three_cells16 hu
          go_simp
          try rfl
        try simp only [Act.put, List.setIfInBounds_toArray, List.set_cons_zero, List.set_cons_succ, List.getElem_toArray, List.getElem_cons_zero, List.getElem_cons_succ]
        refine wpAnyH_take (i := 3) (v := ?_) rfl (by kernel_rfl) (by kernel_rfl) (by kernel_rfl) (fun _ _ _ h => h) (Or.inl ⟨by rfl, ?_⟩) S0 ?_
        rotate_left
        · intro u hu
          go_simp
          try rfl
        try simp only [Act.put, List.setIfInBounds_toArray, List.set_cons_zero, List.set_cons_succ, List.getElem_toArray, List.getElem_cons_zero, List.getElem_cons_succ]
        refine wpAnyH_take (i := 4) (v := ?_) rfl (by kernel_rfl) (by kernel_rfl) (by kernel_rfl) (fun _ _ _ h => h) (Or.inl ⟨by rfl, ?_⟩) S0 ?_
        rotate_left
        · intro u hu
          obtain ⟨y0, y1, y2⟩ := three_cells16 hu
          go_simp
          try rfl
        try simp only [Act.put, List.setIfInBounds_toArray, List.set_cons_zero, List.set_cons_succ, List.getElem_toArray, List.getElem_cons_zero, List.getElem_cons_succ]
        refine wpAnyH_take (i := 6) (v := ?_) rfl (by kernel_rfl) (by kernel_rfl) (by kernel_rfl) (fun _ _ _ h => h) (Or.inl ⟨by rfl, ?_⟩) S0 ?_
        rotate_left
        · intro u hu
          go_simp
          try rfl
        try simp only [Act.put, List.setIfInBounds_toArray, List.set_cons_zero, List.set_cons_succ, List.getElem_toArray, List.getElem_cons_zero, List.getElem_cons_succ]
        refine wpAnyH_take (i := 7) (v := ?_) rfl (by kernel_rfl) (by kernel_rfl) (by kernel_rfl) (fun _ _ _ h => h) (Or.inl ⟨by rfl, ?_⟩) S0 ?_
        rotate_left
        · intro u hu
          go_simp
          try rfl
        try simp only [Act.put, List.setIfInBounds_toArray, List.set_cons_zero, List.set_cons_succ, List.getElem_toArray, List.getElem_cons_zero, List.getElem_cons_succ]
        refine wpAnyH_take (i := 8) (v := ?_) rfl (by kernel_rfl) (by kernel_rfl) (by kernel_rfl) (fun _ _ _ h => h) (Or.inl ⟨by rfl, ?_⟩) S0 ?_
        rotate_left
        · intro u hu
          obtain ⟨y0, y1, y2⟩ := three_cells16 hu
          go_simp
          try rfl
        try simp only [Act.put, List.setIfInBounds_toArray, List.set_cons_zero, List.set_cons_succ, List.getElem_toArray, List.getElem_cons_zero, List.getElem_cons_succ]
        refine wpAnyH_take (i := 9) (v := ?_) rfl (by kernel_rfl) (by kernel_rfl) (by kernel_rfl) (fun _ _ _ h => h) (Or.inl ⟨by rfl, ?_⟩) S0 ?_
        rotate_left
        · intro u hu
          go_simp
          try rfl
        try simp only [Act.put, List.setIfInBounds_toArray, List.set_cons_zero, List.set_cons_succ, List.getElem_toArray, List.getElem_cons_zero, List.getElem_cons_succ]
        refine wpAnyH_take (i := 10) (v := ?_) rfl (by kernel_rfl) (by kernel_rfl) (by kernel_rfl) (fun _ _ _ h => h) (Or.inl ⟨by rfl, ?_⟩) S0 ?_
        rotate_left
        · intro u hu
          obtain ⟨y0, y1, y2⟩ := three_cells16 hu
          go_simp
          try rfl
        try simp only [Act.put, List.setIfInBounds_toArray, List.set_cons_zero, List.set_cons_succ, List.getElem_toArray, List.getElem_cons_zero, List.getElem_cons_succ]
        refine anyH_one16 (i := 5) (by kernel_rfl) rfl (fun K hK => ?_)
        go_simp
        refine TC.out.mono ?_
        rintro e v5 ⟨rfl, ht5, hg5⟩
        have T5 := Lib.hid ht5
        have D5 : Hid (DT T px v5) := Lib.hid (by
          obtain ⟨es, cl, qm⟩ := T4.out.m.is_map
          exact D4.out.kept qm hg5)
        have B5 : Hid (Below w.heap.size w v5) := Lib.hid (B4.out.grown hg5 B4.out.size (fun k e => by injection e with e; rw [← e]; exact PM.out))
        have S1 := (hg5.block _ (lt_of_block S0) (fun e => by injection e with e; have := LT.out; omega)).trans S0
        refine hK _ _ S1 ?_
        clear hK K S0
        have S0 := S1
        clear S1
        try simp only [Act.put, List.setIfInBounds_toArray, List.set_cons_zero, List.set_cons_succ, List.getElem_toArray, List.getElem_cons_zero, List.getElem_cons_succ]
        clear ht5 hg5
        have TX := HTX.out v5 D5.out
        refine anyH_one16 (i := 11) (by kernel_rfl) rfl (fun K hK => ?_)
        go_simp
        refine TX.out.mono ?_
        rintro e v11 ⟨he, hd7, hg7⟩
        rw [ER.out] at he
        subst he
        have T7 := Lib.hid (T5.out.kept hg7 (fun e => by injection e with e; exact NX.out.1 e) (fun e => by injection e with e; exact NX.out.2 e))
        have D7 := Lib.hid hd7
        have B7 : Hid (Below w.heap.size w v11) := Lib.hid (B5.out.grown hg7 B5.out.size (fun k e => by injection e with e; rw [← e]; exact PX.out))
        have S1 := (hg7.block _ (lt_of_block S0) (fun e => by injection e with e; have := LT.out; omega)).trans S0
        refine hK _ _ S1 ?_
        clear hK K S0
        have S0 := S1
        clear S1
        try simp only [Act.put, List.setIfInBounds_toArray, List.set_cons_zero, List.set_cons_succ, List.getElem_toArray, List.getElem_cons_zero, List.getElem_cons_succ]
        clear hd7 hg7 TX
        refine wpAnyH_take (i := 12) (v := ?_) rfl (by kernel_rfl) (by kernel_rfl) (by kernel_rfl) (fun _ _ _ h => h) (Or.inl ⟨by rfl, ?_⟩) S0 ?_
        rotate_left
        · intro u hu
          go_simp
          try rfl
        try simp only [Act.put, List.setIfInBounds_toArray, List.set_cons_zero, List.set_cons_succ, List.getElem_toArray, List.getElem_cons_zero, List.getElem_cons_succ]
        refine wpAnyH_done (by kernel_rfl) ?_ _
        clear S0
        go_wp2
        go_roundw
        case rel => exact ⟨i + 1, _, by go_num, by omega, T7, D7, B7⟩
        case measure => simp [intOf]; omega
    · obtain rfl : i = n2 := by omega
      have hltz : ¬ ((i : Int) < (i : Int)) := by omega
      obtain ⟨Ax, cx, hbx, hlx, hcx⟩ := HD.out.b
      have BX := Lib.hid hbx
      have LX := Lib.hid hlx
      have T4 : Hid (TB T p mb (n + i) wr.drew) := Lib.hid (HT.out.same rfl rfl)
      have D4 : Hid (DT T px wr.drew) := Lib.hid HD.out.drew
      have L4 : Hid (Lies wr.drew 0 45 Ax (acells T)) := Lib.hid hlx.drew
      have B4 : Hid (Below w.heap.size w wr.drew) := Lib.hid BR.out.drew
      have AC := Lib.hid (lawall16_c T4.out (by have := HL.out; have := HL2.out; omega))
      obtain ⟨tl, htl⟩ : ∃ v, v = T.length := ⟨_, rfl⟩
      have HTL := Lib.hid htl
      rw [← htl] at hbx
      have c5 := one_cell hbx
      clear hlx hcx htl
      go_wp2_with fail
      refine wp_region_held_drew (S := fun u => u.heap[px]? = some (.cells #[.slice Ax tl cx] 38 (0, 0))) (by kernel_rfl) (hbx) (fun S0 => ?_)
      refine wpAnyH_take (i := 0) (v := ?_) rfl (by kernel_rfl) (by kernel_rfl) (by kernel_rfl) (fun _ _ _ h => h) (Or.inl ⟨by rfl, ?_⟩) S0 ?_
      rotate_left
      · intro u hu
        go_simp
        try rfl
      try simp only [Act.put, List.setIfInBounds_toArray, List.set_cons_zero, List.set_cons_succ, List.getElem_toArray, List.getElem_cons_zero, List.getElem_cons_succ]
      refine wpAnyH_take (i := 2) (v := ?_) rfl (by kernel_rfl) (by kernel_rfl) (by kernel_rfl) (fun _ _ _ h => h) (Or.inl ⟨by rfl, ?_⟩) S0 ?_
      rotate_left
      · intro u hu
        go_simp
        try rfl
      try simp only [Act.put, List.setIfInBounds_toArray, List.set_cons_zero, List.set_cons_succ, List.getElem_toArray, List.getElem_cons_zero, List.getElem_cons_succ]
      refine wpAnyH_take (i := 3) (v := ?_) rfl (by kernel_rfl) (by kernel_rfl) (by kernel_rfl) (fun _ _ _ h => h) (Or.inl ⟨by rfl, ?_⟩) S0 ?_
      rotate_left
      · intro u hu
        go_simp
        try rfl
      try simp only [Act.put, List.setIfInBounds_toArray, List.set_cons_zero, List.set_cons_succ, List.getElem_toArray, List.getElem_cons_zero, List.getElem_cons_succ]
      refine wpAnyH_take (i := 4) (v := ?_) rfl (by kernel_rfl) (by kernel_rfl) (by kernel_rfl) (fun _ _ _ h => h) (Or.inl ⟨by rfl, ?_⟩) S0 ?_
      rotate_left
      · intro u hu
        go_simp
        try rfl
      try simp only [Act.put, List.setIfInBounds_toArray, List.set_cons_zero, List.set_cons_succ, List.getElem_toArray, List.getElem_cons_zero, List.getElem_cons_succ]
      refine wpAnyH_take (i := 5) (v := ?_) rfl (by kernel_rfl) (by kernel_rfl) (by kernel_rfl) (fun _ _ _ h => h) (Or.inl ⟨by rfl, ?_⟩) S0 ?_
      rotate_left
      · intro u hu
        have c6 := one_cell hu
        go_simp
        try rfl
      try simp only [Act.put, List.setIfInBounds_toArray, List.set_cons_zero, List.set_cons_succ, List.getElem_toArray, List.getElem_cons_zero, List.getElem_cons_succ]
      refine anyH_one16 (i := 1) (by kernel_rfl) rfl (fun K hK => ?_)
      go_simp
      refine AC.out.mono ?_
      rintro e v1 ⟨A1, k1, rfl, hr1, hb4⟩
      have T5 := Lib.hid (T4.out.below hb4)
      have D5 := Lib.hid (D4.out.below hb4)
      have B5 : Hid (Below w.heap.size w v1) := Lib.hid (B4.out.trans (hb4.mono B4.out.size))
      have SL := Lib.hid (refSameLasts_c (c := k1) (c2 := cx) (show AL v1 A1 T from (lies_own (B := 0) hr1).old) (show AL v1 Ax T from (L4.out.below (Nat.zero_le _) hb4).old) rfl rfl (by have := TL.out; omega))
      rw [decide_eq_true rfl, ← HTL.out] at SL
      rw [← HTL.out]
      have S1 := blk_keep S0 hb4
      refine hK _ _ S1 ?_
      clear hK K S0
      have S0 := S1
      clear S1
      try simp only [Act.put, List.setIfInBounds_toArray, List.set_cons_zero, List.set_cons_succ, List.getElem_toArray, List.getElem_cons_zero, List.getElem_cons_succ]
      clear hr1 hb4
      refine anyH_one16 (i := 6) (by kernel_rfl) rfl (fun K hK => ?_)
      go_simp
      refine SL.out.mono ?_
      rintro e v6 ⟨rfl, j7, rfl⟩
      have T7 : Hid (TB T p mb (n + i) (v1.drewN j7)) := Lib.hid (T5.out.below (below_drewN (Below.refl _ _) j7))
      have D7 : Hid (DT T px (v1.drewN j7)) := Lib.hid (D5.out.below (below_drewN (Below.refl _ _) j7))
      have B7 : Hid (Below w.heap.size w (v1.drewN j7)) := Lib.hid (below_drewN B5.out j7)
      have LC := Lib.hid (last16_c T7.out HK.out)
      have LX2 := Lib.hid (refLast16_c (k := k) D7.out TL.out)
      obtain ⟨la, hla⟩ : ∃ v, v = D16.lastN T k := ⟨_, rfl⟩
      rw [← hla] at LC LX2
      clear hla
      have S1 := blk_keep S0 (below_drewN (Below.refl _ _) j7)
      refine hK _ _ S1 ?_
      clear hK K S0
      have S0 := S1
      clear S1
      try simp only [Act.put, List.setIfInBounds_toArray, List.set_cons_zero, List.set_cons_succ, List.getElem_toArray, List.getElem_cons_zero, List.getElem_cons_succ]
      refine wpAnyH_take (i := 7) (v := ?_) rfl (by kernel_rfl) (by kernel_rfl) (by kernel_rfl) (fun _ _ _ h => h) (Or.inl ⟨by rfl, ?_⟩) S0 ?_
      rotate_left
      · intro u hu
        go_simp
        try rfl
      try simp only [Act.put, List.setIfInBounds_toArray, List.set_cons_zero, List.set_cons_succ, List.getElem_toArray, List.getElem_cons_zero, List.getElem_cons_succ]
      refine wpAnyH_take (i := 8) (v := ?_) rfl (by kernel_rfl) (by kernel_rfl) (by kernel_rfl) (fun _ _ _ h => h) (Or.inl ⟨by rfl, ?_⟩) S0 ?_
      rotate_left
      · intro u hu
        go_simp
        try rfl
      try simp only [Act.put, List.setIfInBounds_toArray, List.set_cons_zero, List.set_cons_succ, List.getElem_toArray, List.getElem_cons_zero, List.getElem_cons_succ]
      refine wpAnyH_take (i := 9) (v := ?_) rfl (by kernel_rfl) (by kernel_rfl) (by kernel_rfl) (fun _ _ _ h => h) (Or.inl ⟨by rfl, ?_⟩) S0 ?_
      rotate_left
      · intro u hu
        go_simp
        try rfl
      try simp only [Act.put, List.setIfInBounds_toArray, List.set_cons_zero, List.set_cons_succ, List.getElem_toArray, List.getElem_cons_zero, List.getElem_cons_succ]
      refine wpAnyH_take (i := 11) (v := ?_) rfl (by kernel_rfl) (by kernel_rfl) (by kernel_rfl) (fun _ _ _ h => h) (Or.inl ⟨by rfl, ?_⟩) S0 ?_
      rotate_left
      · intro u hu
        go_simp
        try rfl
      try simp only [Act.put, List.setIfInBounds_toArray, List.set_cons_zero, List.set_cons_succ, List.getElem_toArray, List.getElem_cons_zero, List.getElem_cons_succ]
      refine wpAnyH_take (i := 12) (v := ?_) rfl (by kernel_rfl) (by kernel_rfl) (by kernel_rfl) (fun _ _ _ h => h) (Or.inl ⟨by rfl, ?_⟩) S0 ?_
      rotate_left
      · intro u hu
        go_simp
        try rfl
      try simp only [Act.put, List.setIfInBounds_toArray, List.set_cons_zero, List.set_cons_succ, List.getElem_toArray, List.getElem_cons_zero, List.getElem_cons_succ]
      refine anyH_one16 (i := 10) (by kernel_rfl) rfl (fun K hK => ?_)
      go_simp
      refine LC.out.mono ?_
      rintro e v10 ⟨rfl, rfl⟩
      refine hK _ _ S0 ?_
      clear hK K
      try simp only [Act.put, List.setIfInBounds_toArray, List.set_cons_zero, List.set_cons_succ, List.getElem_toArray, List.getElem_cons_zero, List.getElem_cons_succ]
      refine anyH_one16 (i := 13) (by kernel_rfl) rfl (fun K hK => ?_)
      go_simp
      refine LX2.out.mono ?_
      rintro e v13 ⟨rfl, hb8⟩
      have B8 : Hid (Below w.heap.size w v13) := Lib.hid (B7.out.trans (hb8.mono B7.out.size))
      have S1 := blk_keep S0 hb8
      refine hK _ _ S1 ?_
      clear hK K S0
      have S0 := S1
      clear S1
      try simp only [Act.put, List.setIfInBounds_toArray, List.set_cons_zero, List.set_cons_succ, List.getElem_toArray, List.getElem_cons_zero, List.getElem_cons_succ]
      clear hb8
      refine wpAnyH_take (i := 14) (v := ?_) rfl (by kernel_rfl) (by kernel_rfl) (by kernel_rfl) (fun _ _ _ h => h) (Or.inl ⟨by rfl, ?_⟩) S0 ?_
      rotate_left
      · intro u hu
        go_simp
        try rfl
      try simp only [Act.put, List.setIfInBounds_toArray, List.set_cons_zero, List.set_cons_succ, List.getElem_toArray, List.getElem_cons_zero, List.getElem_cons_succ]
      refine wpAnyH_take (i := 15) (v := ?_) rfl (by kernel_rfl) (by kernel_rfl) (by kernel_rfl) (fun _ _ _ h => h) (Or.inl ⟨by rfl, ?_⟩) S0 ?_
      rotate_left
      · intro u hu
        go_simp
        try rfl
      try simp only [Act.put, List.setIfInBounds_toArray, List.set_cons_zero, List.set_cons_succ, List.getElem_toArray, List.getElem_cons_zero, List.getElem_cons_succ]
      refine wpAnyH_take (i := 16) (v := ?_) rfl (by kernel_rfl) (by kernel_rfl) (by kernel_rfl) (fun _ _ _ h => h) (Or.inl ⟨by rfl, ?_⟩) S0 ?_
      rotate_left
      · intro u hu
        go_simp
        try rfl
      try simp only [Act.put, List.setIfInBounds_toArray, List.set_cons_zero, List.set_cons_succ, List.getElem_toArray, List.getElem_cons_zero, List.getElem_cons_succ]
      refine wpAnyH_done (by kernel_rfl) ?_ _
      clear S0
      go_wp2
      go_ret
      exact ⟨ret_bool (by simp), B8.out⟩
end
end Go.Proofs.Ytmcfknnfaokmlaa
