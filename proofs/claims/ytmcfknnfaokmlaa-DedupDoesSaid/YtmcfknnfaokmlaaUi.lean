/- Stage 16: the document's Take and NewTable; the example (written by wip/gen16dn.py). -/
import Derived.Test.YtmcfknnfaokmlaaUh
namespace Go.Proofs.Ytmcfknnfaokmlaa
set_option maxRecDepth 100000
set_option linter.unusedSimpArgs false
section
open Go.RowKit Go.Lib Go.Shelf
theorem grown_after16 {w w1 w2 : World} {row : Option Nat} (hb : Below w.heap.size w w1) (hg : w1.grownBy w2 row) : w.grownBy w2 row := ⟨hg.os.trans hb.os, hg.tape.trans hb.tape, hg.output.trans hb.output, Nat.le_trans hb.size hg.size, fun k hk hne => (hg.block k (Nat.lt_of_lt_of_le hk hb.size) hne).trans (hb.block k hk)⟩
theorem grown_below16 {w w1 : World} {row : Option Nat} (hb : Below w.heap.size w w1) : w.grownBy w1 row := ⟨hb.os, hb.tape, hb.output, hb.size, fun k hk _ => hb.block k hk⟩
def TakeD16 (k i : Nat) (T : List La) (px : Nat) (w : World) (e : Ending) (w' : World) : Prop := e = .returned (.int .i64 (D16.ask16 T k i)) ∧ DT (D16.take16 T k i) px w' ∧ w.grownBy w' (some px)
set_option maxHeartbeats 2000000 in
theorem refTake16_c {T : List La} {px k i : Nat} {w : World} (h : DT T px w) (hs : T.length ≤ 1000000) (hg : D16.Good T) (hk : k < 18446744073709551616) (hi : i < 18446744073709551616) : Calls Try.prog 13 #[.pointer (some ⟨px, 0, none⟩), .int .u64 (k : Int), .int .u64 (i : Int)] w (TakeD16 k i T px w) := by
  have AC := Lib.hid (refAsk16_c h hs hg hk hi)
  have SC : ∀ u, Below w.heap.size w u → Hid (Calls Try.prog 19 #[.pointer (some ⟨px, 0, none⟩), .int .u64 (k : Int), .int .u64 (i : Int)] u (SetOk16 k i T px u)) := fun u hu => Lib.hid (refSet16_c (h.below hu) hs)
  have HS := Lib.hid SC
  have HH := Lib.hid h
  unfold TakeD16 D16.take16
  obtain ⟨er, her⟩ : ∃ v, D16.ask16 T k i = v := ⟨_, rfl⟩
  rw [her] at AC ⊢
  clear SC h hg her
  by_cases e0 : er = 0
  · rw [if_pos e0]
    subst e0
    go_enter Try.func13, Try.ntmps13
    go_wp2_with fail
    refine AC.out.mono ?_
    rintro e w1 ⟨rfl, hb⟩
    have HB := Lib.hid hb
    clear hb
    go_wp2_with fail
    refine (HS.out w1 HB.out).out.mono ?_
    rintro e w2 ⟨rfl, hd, hgr⟩
    have FD := Lib.hid (And.intro hd (grown_after16 HB.out hgr))
    clear hd hgr
    go_wp2
    go_ret
    exact ⟨rfl, FD.out.1, FD.out.2⟩
  · rw [if_neg e0]
    have q1 : (er == 0) = false := by simp [e0]
    clear e0
    go_enter Try.func13, Try.ntmps13
    go_wp2_with fail
    refine AC.out.mono ?_
    rintro e w1 ⟨rfl, hb⟩
    have HB := Lib.hid hb
    clear hb
    go_wp2
    go_ret
    exact ⟨rfl, HH.out.below HB.out, grown_below16 HB.out⟩
theorem buildDT16 (w : World) : (Instr.build 38 #[]).run Try.prog w = .ok (.agg #[.slice none 0 0]) w := run_build w 38 _ _ (by kernel_rfl)
def NewD16 (T : List La) (w : World) (e : Ending) (w' : World) : Prop := ∃ px, e = .returned (.pointer (some ⟨px, 0, none⟩)) ∧ w.heap.size ≤ px ∧ DT T px w' ∧ Below w.heap.size w w'
set_option maxRecDepth 100000 in
set_option maxHeartbeats 4000000 in
theorem refNew16_c {A : Option Addr} {n c : Nat} {l : List La} {w : World} (hl : AL w A l) (hn : n = l.length) (hs : n ≤ 100000) (ho : ∀ x ∈ l, x.ok) :
    Calls Try.prog 9 #[.slice A n c] w (NewD16 (D16.news16 l) w) := by
  have HN := Lib.hid hn
  have HO := Lib.hid ho
  have hbt := buildDT16 w
  obtain ⟨w1, hw1⟩ : ∃ u, w.alloc (.cells #[.slice none 0 0] 38) = u := ⟨_, rfl⟩
  have B1 : Hid (Below w.heap.size w w1) := Lib.hid (by rw [← hw1]; exact (Below.refl _ w).alloc (Nat.le_refl _) _)
  have T1 : Hid (DT [] w.heap.size w1) := Lib.hid (by
    rw [← hw1]
    exact ⟨none, 0, heap_alloc_new w _, Lies.nil, Nat.le_refl _⟩)
  have HL := Lib.hid hl
  clear hl hn ho
  go_enter Try.func9, Try.ntmps9
  go_wp2
  clear hbt
  go_loopw [10] (fun s10 wr => ∃ i : Nat, s10 = .int .i64 i ∧ i ≤ n ∧ Hid (DT (D16.news16 (l.take i)) w.heap.size wr) ∧ Hid (Below w.heap.size w wr)) (fun s10 _ => n - (intOf s10).toNat)
  case atStart => exact ⟨0, rfl, Nat.zero_le _, T1, B1⟩
  case round =>
    obtain ⟨i, rfl, hin, HT, BR⟩ := hrel
    have TLN : (D16.news16 (l.take i)).length ≤ 1000000 := by
      have := D16.news_len (l.take i)
      rw [List.length_take] at this
      omega
    obtain ⟨T, hT⟩ : ∃ t, t = D16.news16 (l.take i) := ⟨_, rfl⟩
    rw [← hT] at TLN
    have HT : Hid (DT T w.heap.size wr) := Lib.hid (by rw [hT]; exact HT.out)
    have TG : Hid (D16.Good T) := Lib.hid (by rw [hT]; exact D16.news_good fun x hx => HO.out x (List.mem_of_mem_take hx))
    by_cases hlt : i < n
    · have hltz : (i : Int) < (n : Int) := by omega
      obtain ⟨ad, x, hA, hx, q0, q1⟩ := (HL.out.stay BR.out).at_ (k := i) (by have := HN.out; omega)
      subst hA
      have X := Lib.hid hx
      have NX : Hid (D16.news16 (l.take (i + 1)) = D16.step16 T x) := Lib.hid (by rw [take_nxt hx, D16.news_snoc, ← hT])
      have XO := Lib.hid (HO.out x (List.mem_of_getElem? hx))
      obtain ⟨w2, hw2⟩ : ∃ u, wr.alloc (.cells #[.int .u64 (x.who : Int), .int .u64 (x.id : Int)] 45) = u := ⟨_, rfl⟩
      obtain ⟨lb, b2, z2⟩ := new_two hw2
      have B2 : Hid (Below w.heap.size w w2) := Lib.hid (BR.out.trans (b2.mono BR.out.size))
      have S2 : Hid (DT T w.heap.size w2.drew ∧ w2.drew.heap[wr.heap.size]? = some (.cells #[.int .u64 (x.who : Int), .int .u64 (x.id : Int)] 45 (0, 0))) := Lib.hid ⟨(HT.out.below b2).drew, lb⟩
      obtain ⟨la, hla⟩ : ∃ v, v = D16.lastN T x.who := ⟨_, rfl⟩
      have LC : ∀ u, DT T w.heap.size u → Hid (Calls Try.prog 17 #[.pointer (some ⟨w.heap.size, 0, none⟩), .int .u64 (x.who : Int)] u fun e w' => e = .returned (.int .u64 (la : Int)) ∧ Below u.heap.size u w') := fun u hu => Lib.hid (by rw [hla]; exact refLast16_c hu TLN)
      have HLC := Lib.hid LC
      have SC : ∀ u, DT T w.heap.size u → Hid (Calls Try.prog 19 #[.pointer (some ⟨w.heap.size, 0, none⟩), .int .u64 (x.who : Int), .int .u64 (x.id : Int)] u (SetOk16 x.who x.id T w.heap.size u)) := fun u hu => Lib.hid (refSet16_c hu TLN)
      have HSC := Lib.hid SC
      clear hx lb b2 z2 LC SC hT TLN
      by_cases k0 : x.who = 0
      · have NO : Hid (D16.step16 T x = T) := Lib.hid (by unfold D16.step16; rw [if_neg (fun q => q.1 k0)])
        have d0 : ((x.who : Int) != 0) = false := by rw [k0]; rfl
        have d1 : (!((x.who : Int) == 0)) = false := by rw [k0]; rfl
        clear hla k0
        go_wp2_with fail
        refine wp_region_held_drew (S := fun u => DT T w.heap.size u ∧ u.heap[wr.heap.size]? = some (.cells #[.int .u64 (x.who : Int), .int .u64 (x.id : Int)] 45 (0, 0))) (by kernel_rfl) (S2.out) (fun S0 => ?_)
        refine wpAnyH_take (i := 0) (v := ?_) rfl (by kernel_rfl) (by kernel_rfl) (by kernel_rfl) (fun _ _ _ h => h) (Or.inl ⟨by rfl, ?_⟩) S0 ?_
        rotate_left
        · intro u hu
          go_simp
          try rfl
        try simp only [Act.put, List.setIfInBounds_toArray, List.set_cons_zero, List.set_cons_succ, List.getElem_toArray, List.getElem_cons_zero, List.getElem_cons_succ]
        refine wpAnyH_take (i := 1) (v := ?_) rfl (by kernel_rfl) (by kernel_rfl) (by kernel_rfl) (fun _ _ _ h => h) (Or.inl ⟨by rfl, ?_⟩) S0 ?_
        rotate_left
        · intro u hu
          obtain ⟨y0, y1⟩ := two_cells hu.2
          go_simp
          try rfl
        try simp only [Act.put, List.setIfInBounds_toArray, List.set_cons_zero, List.set_cons_succ, List.getElem_toArray, List.getElem_cons_zero, List.getElem_cons_succ]
        refine wpAnyH_take (i := 2) (v := ?_) rfl (by kernel_rfl) (by kernel_rfl) (by kernel_rfl) (fun _ _ _ h => h) (Or.inl ⟨by rfl, ?_⟩) S0 ?_
        rotate_left
        · intro u hu
          go_simp
          try rfl
        try simp only [Act.put, List.setIfInBounds_toArray, List.set_cons_zero, List.set_cons_succ, List.getElem_toArray, List.getElem_cons_zero, List.getElem_cons_succ]
        refine wpAnyH_take (i := 3) (v := ?_) rfl (by kernel_rfl) (by kernel_rfl) (by kernel_rfl) (fun _ _ _ h => h) (Or.inl ⟨by rfl, ?_⟩) S0 ?_
        rotate_left
        · intro u hu
          go_simp
          try rfl
        try simp only [Act.put, List.setIfInBounds_toArray, List.set_cons_zero, List.set_cons_succ, List.getElem_toArray, List.getElem_cons_zero, List.getElem_cons_succ]
        refine wpAnyH_take (i := 4) (v := undef) rfl (by kernel_rfl) (by kernel_rfl) (by kernel_rfl) (fun _ _ _ h => h) (Or.inr ⟨by rfl, rfl⟩) S0 ?_
        try simp only [Act.put, List.setIfInBounds_toArray, List.set_cons_zero, List.set_cons_succ, List.getElem_toArray, List.getElem_cons_zero, List.getElem_cons_succ]
        refine wpAnyH_take (i := 5) (v := undef) rfl (by kernel_rfl) (by kernel_rfl) (by kernel_rfl) (fun _ _ _ h => h) (Or.inr ⟨by rfl, rfl⟩) S0 ?_
        try simp only [Act.put, List.setIfInBounds_toArray, List.set_cons_zero, List.set_cons_succ, List.getElem_toArray, List.getElem_cons_zero, List.getElem_cons_succ]
        refine wpAnyH_take (i := 6) (v := undef) rfl (by kernel_rfl) (by kernel_rfl) (by kernel_rfl) (fun _ _ _ h => h) (Or.inr ⟨by rfl, rfl⟩) S0 ?_
        try simp only [Act.put, List.setIfInBounds_toArray, List.set_cons_zero, List.set_cons_succ, List.getElem_toArray, List.getElem_cons_zero, List.getElem_cons_succ]
        refine wpAnyH_take (i := 7) (v := undef) rfl (by kernel_rfl) (by kernel_rfl) (by kernel_rfl) (fun _ _ _ h => h) (Or.inr ⟨by rfl, rfl⟩) S0 ?_
        try simp only [Act.put, List.setIfInBounds_toArray, List.set_cons_zero, List.set_cons_succ, List.getElem_toArray, List.getElem_cons_zero, List.getElem_cons_succ]
        refine wpAnyH_take (i := 8) (v := undef) rfl (by kernel_rfl) (by kernel_rfl) (by kernel_rfl) (fun _ _ _ h => h) (Or.inr ⟨by rfl, rfl⟩) S0 ?_
        try simp only [Act.put, List.setIfInBounds_toArray, List.set_cons_zero, List.set_cons_succ, List.getElem_toArray, List.getElem_cons_zero, List.getElem_cons_succ]
        refine wpAnyH_take (i := 9) (v := undef) rfl (by kernel_rfl) (by kernel_rfl) (by kernel_rfl) (fun _ _ _ h => h) (Or.inr ⟨by rfl, rfl⟩) S0 ?_
        try simp only [Act.put, List.setIfInBounds_toArray, List.set_cons_zero, List.set_cons_succ, List.getElem_toArray, List.getElem_cons_zero, List.getElem_cons_succ]
        refine wpAnyH_take (i := 10) (v := undef) rfl (by kernel_rfl) (by kernel_rfl) (by kernel_rfl) (fun _ _ _ h => h) (Or.inr ⟨by rfl, rfl⟩) S0 ?_
        try simp only [Act.put, List.setIfInBounds_toArray, List.set_cons_zero, List.set_cons_succ, List.getElem_toArray, List.getElem_cons_zero, List.getElem_cons_succ]
        refine wpAnyH_take (i := 11) (v := ?_) rfl (by kernel_rfl) (by kernel_rfl) (by kernel_rfl) (fun _ _ _ h => h) (Or.inl ⟨by rfl, ?_⟩) S0 ?_
        rotate_left
        · intro u hu
          go_simp
          try rfl
        try simp only [Act.put, List.setIfInBounds_toArray, List.set_cons_zero, List.set_cons_succ, List.getElem_toArray, List.getElem_cons_zero, List.getElem_cons_succ]
        refine wpAnyH_done (by kernel_rfl) ?_ _
        go_wp2
        go_roundw
        case rel => exact ⟨i + 1, by go_num, by omega, Lib.hid (by rw [NX.out, NO.out]; exact S2.out.1), Lib.hid B2.out.drew⟩
        case measure => simp [intOf]; omega
      have d0 : ((x.who : Int) != 0) = true := by simp [k0]
      have d1 : (!((x.who : Int) == 0)) = true := by simp [k0]
      by_cases h1 : la < x.id
      · have e1 : decide ((la : Int) < (x.id : Int)) = true := by simp; omega
        have e2 : (la : Int) < (x.id : Int) := by omega
        have e3 : decide (la < x.id) = true := by simp; omega
        have YES : Hid (D16.step16 T x = D16.setN x.who x.id T) := Lib.hid (by unfold D16.step16; rw [if_pos ⟨k0, by rw [← hla]; exact h1⟩])
        clear hla k0
        go_wp2_with fail
        refine wp_region_held_drew (S := fun u => DT T w.heap.size u ∧ u.heap[wr.heap.size]? = some (.cells #[.int .u64 (x.who : Int), .int .u64 (x.id : Int)] 45 (0, 0))) (by kernel_rfl) (S2.out) (fun S0 => ?_)
        refine wpAnyH_take (i := 0) (v := ?_) rfl (by kernel_rfl) (by kernel_rfl) (by kernel_rfl) (fun _ _ _ h => h) (Or.inl ⟨by rfl, ?_⟩) S0 ?_
        rotate_left
        · intro u hu
          go_simp
          try rfl
        try simp only [Act.put, List.setIfInBounds_toArray, List.set_cons_zero, List.set_cons_succ, List.getElem_toArray, List.getElem_cons_zero, List.getElem_cons_succ]
        refine wpAnyH_take (i := 1) (v := ?_) rfl (by kernel_rfl) (by kernel_rfl) (by kernel_rfl) (fun _ _ _ h => h) (Or.inl ⟨by rfl, ?_⟩) S0 ?_
        rotate_left
        · intro u hu
          obtain ⟨y0, y1⟩ := two_cells hu.2
          go_simp
          try rfl
        try simp only [Act.put, List.setIfInBounds_toArray, List.set_cons_zero, List.set_cons_succ, List.getElem_toArray, List.getElem_cons_zero, List.getElem_cons_succ]
        refine wpAnyH_take (i := 2) (v := ?_) rfl (by kernel_rfl) (by kernel_rfl) (by kernel_rfl) (fun _ _ _ h => h) (Or.inl ⟨by rfl, ?_⟩) S0 ?_
        rotate_left
        · intro u hu
          go_simp
          try rfl
        try simp only [Act.put, List.setIfInBounds_toArray, List.set_cons_zero, List.set_cons_succ, List.getElem_toArray, List.getElem_cons_zero, List.getElem_cons_succ]
        refine wpAnyH_take (i := 3) (v := ?_) rfl (by kernel_rfl) (by kernel_rfl) (by kernel_rfl) (fun _ _ _ h => h) (Or.inl ⟨by rfl, ?_⟩) S0 ?_
        rotate_left
        · intro u hu
          go_simp
          try rfl
        try simp only [Act.put, List.setIfInBounds_toArray, List.set_cons_zero, List.set_cons_succ, List.getElem_toArray, List.getElem_cons_zero, List.getElem_cons_succ]
        refine wpAnyH_take (i := 4) (v := ?_) rfl (by kernel_rfl) (by kernel_rfl) (by kernel_rfl) (fun _ _ _ h => h) (Or.inl ⟨by rfl, ?_⟩) S0 ?_
        rotate_left
        · intro u hu
          go_simp
          try rfl
        try simp only [Act.put, List.setIfInBounds_toArray, List.set_cons_zero, List.set_cons_succ, List.getElem_toArray, List.getElem_cons_zero, List.getElem_cons_succ]
        refine wpAnyH_take (i := 5) (v := ?_) rfl (by kernel_rfl) (by kernel_rfl) (by kernel_rfl) (fun _ _ _ h => h) (Or.inl ⟨by rfl, ?_⟩) S0 ?_
        rotate_left
        · intro u hu
          obtain ⟨y0, y1⟩ := two_cells hu.2
          go_simp
          try rfl
        try simp only [Act.put, List.setIfInBounds_toArray, List.set_cons_zero, List.set_cons_succ, List.getElem_toArray, List.getElem_cons_zero, List.getElem_cons_succ]
        refine wpAnyH_take (i := 6) (v := ?_) rfl (by kernel_rfl) (by kernel_rfl) (by kernel_rfl) (fun _ _ _ h => h) (Or.inl ⟨by rfl, ?_⟩) S0 ?_
        rotate_left
        · intro u hu
          go_simp
          try rfl
        try simp only [Act.put, List.setIfInBounds_toArray, List.set_cons_zero, List.set_cons_succ, List.getElem_toArray, List.getElem_cons_zero, List.getElem_cons_succ]
        refine wpAnyH_take (i := 7) (v := ?_) rfl (by kernel_rfl) (by kernel_rfl) (by kernel_rfl) (fun _ _ _ h => h) (Or.inl ⟨by rfl, ?_⟩) S0 ?_
        rotate_left
        · intro u hu
          go_simp
          try rfl
        try simp only [Act.put, List.setIfInBounds_toArray, List.set_cons_zero, List.set_cons_succ, List.getElem_toArray, List.getElem_cons_zero, List.getElem_cons_succ]
        refine wpAnyH_take (i := 8) (v := ?_) rfl (by kernel_rfl) (by kernel_rfl) (by kernel_rfl) (fun _ _ _ h => h) (Or.inl ⟨by rfl, ?_⟩) S0 ?_
        rotate_left
        · intro u hu
          obtain ⟨y0, y1⟩ := two_cells hu.2
          go_simp
          try rfl
        try simp only [Act.put, List.setIfInBounds_toArray, List.set_cons_zero, List.set_cons_succ, List.getElem_toArray, List.getElem_cons_zero, List.getElem_cons_succ]
        refine anyH_one16 (i := 9) (by kernel_rfl) rfl (fun K hK => ?_)
        go_simp
        refine (HLC.out _ S0.1).out.mono ?_
        rintro e v ⟨rfl, hbv⟩
        have S1 := And.intro (S0.1.below hbv) (blk_keep S0.2 hbv)
        have SV := Lib.hid S1
        have BV : Hid (Below w.heap.size w v) := Lib.hid ((show Below w.heap.size w w2.drew from B2.out.drew).trans (hbv.mono (show w.heap.size ≤ w2.drew.heap.size from B2.out.size)))
        refine hK _ _ S1 ?_
        clear hK K S0 hbv
        have S0 := S1
        clear S1
        try simp only [Act.put, List.setIfInBounds_toArray, List.set_cons_zero, List.set_cons_succ, List.getElem_toArray, List.getElem_cons_zero, List.getElem_cons_succ]
        refine wpAnyH_take (i := 10) (v := ?_) rfl (by kernel_rfl) (by kernel_rfl) (by kernel_rfl) (fun _ _ _ h => h) (Or.inl ⟨by rfl, ?_⟩) S0 ?_
        rotate_left
        · intro u hu
          go_simp
          try rfl
        try simp only [Act.put, List.setIfInBounds_toArray, List.set_cons_zero, List.set_cons_succ, List.getElem_toArray, List.getElem_cons_zero, List.getElem_cons_succ]
        refine wpAnyH_take (i := 11) (v := ?_) rfl (by kernel_rfl) (by kernel_rfl) (by kernel_rfl) (fun _ _ _ h => h) (Or.inl ⟨by rfl, ?_⟩) S0 ?_
        rotate_left
        · intro u hu
          go_simp
          try rfl
        try simp only [Act.put, List.setIfInBounds_toArray, List.set_cons_zero, List.set_cons_succ, List.getElem_toArray, List.getElem_cons_zero, List.getElem_cons_succ]
        refine wpAnyH_done (by kernel_rfl) ?_ _
        obtain ⟨y0, y1⟩ := two_cells SV.out.2
        clear S0
        go_wp2_with fail
        refine (HSC.out v SV.out.1).out.mono ?_
        rintro e w5 ⟨rfl, hd, hgr⟩
        have HD := Lib.hid hd
        have HG := Lib.hid hgr
        clear hd hgr
        go_wp2
        go_roundw
        case rel => exact ⟨i + 1, by go_num, by omega, Lib.hid (by rw [NX.out, YES.out]; exact HD.out), Lib.hid (BV.out.grown HG.out BV.out.size (fun k e => by cases e; exact Nat.le_refl _))⟩
        case measure => simp [intOf]; omega
      · have e1 : decide ((la : Int) < (x.id : Int)) = false := by simp; omega
        have e2 : ¬ (la : Int) < (x.id : Int) := by omega
        have e3 : decide (la < x.id) = false := by simp; omega
        have NO : Hid (D16.step16 T x = T) := Lib.hid (by unfold D16.step16; rw [if_neg (fun q => h1 (by rw [hla]; exact q.2))])
        clear hla k0
        go_wp2_with fail
        refine wp_region_held_drew (S := fun u => DT T w.heap.size u ∧ u.heap[wr.heap.size]? = some (.cells #[.int .u64 (x.who : Int), .int .u64 (x.id : Int)] 45 (0, 0))) (by kernel_rfl) (S2.out) (fun S0 => ?_)
        refine wpAnyH_take (i := 0) (v := ?_) rfl (by kernel_rfl) (by kernel_rfl) (by kernel_rfl) (fun _ _ _ h => h) (Or.inl ⟨by rfl, ?_⟩) S0 ?_
        rotate_left
        · intro u hu
          go_simp
          try rfl
        try simp only [Act.put, List.setIfInBounds_toArray, List.set_cons_zero, List.set_cons_succ, List.getElem_toArray, List.getElem_cons_zero, List.getElem_cons_succ]
        refine wpAnyH_take (i := 1) (v := ?_) rfl (by kernel_rfl) (by kernel_rfl) (by kernel_rfl) (fun _ _ _ h => h) (Or.inl ⟨by rfl, ?_⟩) S0 ?_
        rotate_left
        · intro u hu
          obtain ⟨y0, y1⟩ := two_cells hu.2
          go_simp
          try rfl
        try simp only [Act.put, List.setIfInBounds_toArray, List.set_cons_zero, List.set_cons_succ, List.getElem_toArray, List.getElem_cons_zero, List.getElem_cons_succ]
        refine wpAnyH_take (i := 2) (v := ?_) rfl (by kernel_rfl) (by kernel_rfl) (by kernel_rfl) (fun _ _ _ h => h) (Or.inl ⟨by rfl, ?_⟩) S0 ?_
        rotate_left
        · intro u hu
          go_simp
          try rfl
        try simp only [Act.put, List.setIfInBounds_toArray, List.set_cons_zero, List.set_cons_succ, List.getElem_toArray, List.getElem_cons_zero, List.getElem_cons_succ]
        refine wpAnyH_take (i := 3) (v := ?_) rfl (by kernel_rfl) (by kernel_rfl) (by kernel_rfl) (fun _ _ _ h => h) (Or.inl ⟨by rfl, ?_⟩) S0 ?_
        rotate_left
        · intro u hu
          go_simp
          try rfl
        try simp only [Act.put, List.setIfInBounds_toArray, List.set_cons_zero, List.set_cons_succ, List.getElem_toArray, List.getElem_cons_zero, List.getElem_cons_succ]
        refine wpAnyH_take (i := 4) (v := ?_) rfl (by kernel_rfl) (by kernel_rfl) (by kernel_rfl) (fun _ _ _ h => h) (Or.inl ⟨by rfl, ?_⟩) S0 ?_
        rotate_left
        · intro u hu
          go_simp
          try rfl
        try simp only [Act.put, List.setIfInBounds_toArray, List.set_cons_zero, List.set_cons_succ, List.getElem_toArray, List.getElem_cons_zero, List.getElem_cons_succ]
        refine wpAnyH_take (i := 5) (v := ?_) rfl (by kernel_rfl) (by kernel_rfl) (by kernel_rfl) (fun _ _ _ h => h) (Or.inl ⟨by rfl, ?_⟩) S0 ?_
        rotate_left
        · intro u hu
          obtain ⟨y0, y1⟩ := two_cells hu.2
          go_simp
          try rfl
        try simp only [Act.put, List.setIfInBounds_toArray, List.set_cons_zero, List.set_cons_succ, List.getElem_toArray, List.getElem_cons_zero, List.getElem_cons_succ]
        refine wpAnyH_take (i := 6) (v := ?_) rfl (by kernel_rfl) (by kernel_rfl) (by kernel_rfl) (fun _ _ _ h => h) (Or.inl ⟨by rfl, ?_⟩) S0 ?_
        rotate_left
        · intro u hu
          go_simp
          try rfl
        try simp only [Act.put, List.setIfInBounds_toArray, List.set_cons_zero, List.set_cons_succ, List.getElem_toArray, List.getElem_cons_zero, List.getElem_cons_succ]
        refine wpAnyH_take (i := 7) (v := ?_) rfl (by kernel_rfl) (by kernel_rfl) (by kernel_rfl) (fun _ _ _ h => h) (Or.inl ⟨by rfl, ?_⟩) S0 ?_
        rotate_left
        · intro u hu
          go_simp
          try rfl
        try simp only [Act.put, List.setIfInBounds_toArray, List.set_cons_zero, List.set_cons_succ, List.getElem_toArray, List.getElem_cons_zero, List.getElem_cons_succ]
        refine wpAnyH_take (i := 8) (v := ?_) rfl (by kernel_rfl) (by kernel_rfl) (by kernel_rfl) (fun _ _ _ h => h) (Or.inl ⟨by rfl, ?_⟩) S0 ?_
        rotate_left
        · intro u hu
          obtain ⟨y0, y1⟩ := two_cells hu.2
          go_simp
          try rfl
        try simp only [Act.put, List.setIfInBounds_toArray, List.set_cons_zero, List.set_cons_succ, List.getElem_toArray, List.getElem_cons_zero, List.getElem_cons_succ]
        refine anyH_one16 (i := 9) (by kernel_rfl) rfl (fun K hK => ?_)
        go_simp
        refine (HLC.out _ S0.1).out.mono ?_
        rintro e v ⟨rfl, hbv⟩
        have S1 := And.intro (S0.1.below hbv) (blk_keep S0.2 hbv)
        have SV := Lib.hid S1
        have BV : Hid (Below w.heap.size w v) := Lib.hid ((show Below w.heap.size w w2.drew from B2.out.drew).trans (hbv.mono (show w.heap.size ≤ w2.drew.heap.size from B2.out.size)))
        refine hK _ _ S1 ?_
        clear hK K S0 hbv
        have S0 := S1
        clear S1
        try simp only [Act.put, List.setIfInBounds_toArray, List.set_cons_zero, List.set_cons_succ, List.getElem_toArray, List.getElem_cons_zero, List.getElem_cons_succ]
        refine wpAnyH_take (i := 10) (v := ?_) rfl (by kernel_rfl) (by kernel_rfl) (by kernel_rfl) (fun _ _ _ h => h) (Or.inl ⟨by rfl, ?_⟩) S0 ?_
        rotate_left
        · intro u hu
          go_simp
          try rfl
        try simp only [Act.put, List.setIfInBounds_toArray, List.set_cons_zero, List.set_cons_succ, List.getElem_toArray, List.getElem_cons_zero, List.getElem_cons_succ]
        refine wpAnyH_take (i := 11) (v := ?_) rfl (by kernel_rfl) (by kernel_rfl) (by kernel_rfl) (fun _ _ _ h => h) (Or.inl ⟨by rfl, ?_⟩) S0 ?_
        rotate_left
        · intro u hu
          go_simp
          try rfl
        try simp only [Act.put, List.setIfInBounds_toArray, List.set_cons_zero, List.set_cons_succ, List.getElem_toArray, List.getElem_cons_zero, List.getElem_cons_succ]
        refine wpAnyH_done (by kernel_rfl) ?_ _
        clear S0
        go_wp2
        go_roundw
        case rel => exact ⟨i + 1, by go_num, by omega, Lib.hid (by rw [NX.out, NO.out]; exact SV.out.1), BV⟩
        case measure => simp [intOf]; omega
    · obtain rfl : i = n := by omega
      have hltz : ¬ ((i : Int) < (i : Int)) := by omega
      have U2 : Hid (DT (D16.news16 l) w.heap.size wr) := Lib.hid (by
        have q := HT.out
        rw [hT, HN.out, List.take_length] at q
        exact q)
      clear hT TLN
      go_wp2
      go_ret
      exact ⟨w.heap.size, rfl, Nat.le_refl _, U2.out, BR.out⟩
set_option maxHeartbeats 2000000 in
theorem awake16_c (w : World) : Calls Try.prog 7 #[] w fun e w' => e = .returned (.bool true) ∧ Below w.heap.size w w' := by
  have NC : Hid (Calls Try.prog 8 #[.slice none 0 0] w (NewOk16 [] 0 w)) := Lib.hid (new16_c (A := none) (n := 0) (c := 0) (l := []) (w := w) AL.nil rfl (by simp) (by intro x hx; cases hx))
  go_enter Try.func7, Try.ntmps7
  go_wp2_with fail
  refine NC.out.mono ?_
  rintro e w1 ⟨p, mb, rfl, hp, hm, ht, hb⟩
  have T1 := Lib.hid ht
  have HB := Lib.hid hb
  have PM := Lib.hid (And.intro hp hm)
  have C1 : Hid (Calls Try.prog 12 #[.pointer (some ⟨p, 0, none⟩), .int .u64 7, .int .u64 1] w1 fun e w' => e = .returned (.int .i64 0) ∧ TB [⟨7, 1⟩] p mb 1 w' ∧ w1.grownBy w' (some mb)) := Lib.hid (take16_c (k := 7) (i := 1) ht (by unfold maxLen; omega) (by omega) (by omega))
  clear ht hb hp hm
  go_wp2_with fail
  refine C1.out.mono ?_
  rintro e w2 ⟨rfl, ht, hg⟩
  have B2 : Hid (Below w.heap.size w w2) := Lib.hid (HB.out.grown hg HB.out.size (fun k e => by injection e with e; rw [← e]; exact PM.out.2))
  have C2 : Hid (Calls Try.prog 12 #[.pointer (some ⟨p, 0, none⟩), .int .u64 7, .int .u64 1] w2 fun e w' => e = .returned (.int .i64 161) ∧ TB [⟨7, 1⟩] p mb 2 w' ∧ w2.grownBy w' (some mb)) := Lib.hid (take16_c (k := 7) (i := 1) ht (by unfold maxLen; omega) (by omega) (by omega))
  clear ht hg
  go_wp2_with fail
  refine C2.out.mono ?_
  rintro e w3 ⟨rfl, ht, hg⟩
  have B3 : Hid (Below w.heap.size w w3) := Lib.hid (B2.out.grown hg B2.out.size (fun k e => by injection e with e; rw [← e]; exact PM.out.2))
  have C3 : Hid (Calls Try.prog 12 #[.pointer (some ⟨p, 0, none⟩), .int .u64 7, .int .u64 3] w3 fun e w' => e = .returned (.int .i64 160) ∧ TB [⟨7, 1⟩] p mb 3 w' ∧ w3.grownBy w' (some mb)) := Lib.hid (take16_c (k := 7) (i := 3) ht (by unfold maxLen; omega) (by omega) (by omega))
  clear ht hg
  go_wp2_with fail
  refine C3.out.mono ?_
  rintro e w4 ⟨rfl, ht, hg⟩
  have B4 : Hid (Below w.heap.size w w4) := Lib.hid (B3.out.grown hg B3.out.size (fun k e => by injection e with e; rw [← e]; exact PM.out.2))
  clear ht hg
  go_wp2
  go_ret
  exact ⟨ret_bool (by simp), B4.out⟩
end
end Go.Proofs.Ytmcfknnfaokmlaa
