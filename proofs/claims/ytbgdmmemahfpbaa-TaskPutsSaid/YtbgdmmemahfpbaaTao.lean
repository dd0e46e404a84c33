/- Stage 9: the walk of TaskPuts (written by wip/gen9pt.py behind wip/XTao.head). -/
import Derived.Test.YtbgdmmemahfpbaaTal
import Derived.Test.YtbgdmmemahfpbaaTan
namespace Go.Proofs.Ytbgdmmemahfpbaa
open Go.RowKit Go.Lib Go.Sort
set_option maxRecDepth 100000

theorem T9.rdF_under (s : Option (List UInt8)) (N x : Nat) (hx : Fl.wd ((Cd.rdW 8 s).1 : Int) = x) (h : x < N) (h0 : 0 < N) : (Cd.rdF s).1 < N := by
  unfold Cd.rdF
  rw [hx]
  generalize (Cd.rdW 8 s).2 = o
  generalize Fl.fit ((Cd.rdW 8 s).1 : Int) = f
  cases o with
  | none => exact h0
  | some t =>
    cases f with
    | true => exact h
    | false => exact h0
theorem T9.rdF_lt (s : Option (List UInt8)) : (Cd.rdF s).1 < 18446744073709551616 := by
  have h : (Cd.rdW 8 s).1 < 18446744073709551616 := Cd.rdW_lt 8 s
  exact T9.rdF_under s _ _ rfl (Fl.wd_lt ((Cd.rdW 8 s).1 : Int) (Int.natCast_nonneg _) (by omega)) (by omega)
theorem T9.rdTk_ok (s : Option (List UInt8)) : (T9.rdTk s).1.ok := ⟨(Cd.rdN_lt _ _).1, (Cd.rdN_lt _ _).1, T9.rdF_lt _, T9.rdF_lt _⟩
theorem T9.rdSt_ok (s : Option (List UInt8)) : (T9.rdSt s).1.ok := ⟨many_all (fun _ => (Cd.rdN_lt _ _).1) _ _, many_all T9.rdTk_ok _ _⟩
theorem T9.of_ok (b : List UInt8) : (T9.of b).1.ok := by
  unfold T9.of
  split
  · exact T9.rdSt_ok _
  · exact ⟨by simp, by simp⟩
theorem T9.of_short (b : List UInt8) : (T9.of b).1.short := by
  unfold T9.of
  split
  · exact rd_short (Cd.rdN_lt 60 _).2 (Cd.rdN_lt 60 _).2
  · exact ⟨by simp, by simp, by decide, by decide⟩

set_option linter.unusedSimpArgs false in
set_option maxHeartbeats 4000000 in
set_option maxRecDepth 100000 in
theorem taskPuts_c {s : MSt} {A : Option Addr} {n c : Nat} {b : List UInt8} {w : World} (hs : SM s w) (ks : s.st.ok) (fs : s.far) (hL : Lies w w.heap.size 0 A (bcells b)) (hn : n = b.length) (hc : n ≤ c) :
    Calls Try.prog 5 #[s.val, .slice A n c] w fun e w' => e = .returned (.bool true) ∧ Below w.heap.size w w' := by
  obtain ⟨w1, hw1⟩ : ∃ u, w.alloc (.cells #[.slice s.A s.ls.length s.c, .slice s.A2 s.ms.length s.c2] 25) = u := ⟨_, rfl⟩
  obtain ⟨pb1, b1, z1⟩ := new_two hw1
  have B1 : Hid (Below w.heap.size w w1) := Lib.hid b1
  have S1 : Hid (SBox s w.heap.size w1) := Lib.hid ⟨pb1, hs.stay b1⟩
  have KS := Lib.hid ks
  have FS := Lib.hid fs
  have HL := Lib.hid hL
  have HN := Lib.hid hn
  have HC := Lib.hid hc
  have AW := Lib.hid (awake9_c w1)
  unfold MSt.val
  clear hs ks fs pb1 b1 z1 hL hn hc
  go_enter Try.func5, Try.ntmps5
  go_wp2_with fail
  refine AW.out.mono ?_
  rintro e w2 ⟨rfl, h2⟩
  have S2 := Lib.hid (S1.out.stay h2)
  have B2 := Lib.hid (B1.out.trans (h2.mono B1.out.size))
  clear h2
  obtain ⟨x0, x1⟩ := S2.out.cells
  have LS := Lib.hid (light9_c (c := s.c) (c2 := s.c2) S2.out.s.l S2.out.s.k rfl rfl FS.out)
  go_wp2_with fail
  refine LS.out.mono ?_
  rintro e w3 ⟨bb, rfl, hb, h3⟩
  have S3 := Lib.hid (S2.out.stay h3)
  have B3 := Lib.hid (B2.out.trans (h3.mono B2.out.size))
  clear h3 x0 x1
  cases bb with
  | false =>
    clear hb
    go_wp2_with fail
    go_ret
    exact ⟨rfl, B3.out⟩
  | true =>
    have LTS := Lib.hid (hb rfl)
    clear hb
    by_cases hl : 2000 < n
    · have hlz : (2000 : Int) < (n : Int) := by omega
      go_wp2_with fail
      go_ret
      exact ⟨rfl, B3.out⟩
    · have hlz : ¬ ((2000 : Int) < (n : Int)) := by omega
      have OF := Lib.hid (of9_c (c := c) (HL.out.below (Nat.le_refl _) B3.out) HN.out (by omega) B3.out.size)
      go_wp2_with fail
      refine OF.out.mono ?_
      rintro e w4 ⟨x, rfl, hx, hxs, h4⟩
      unfold MSt.val
      have HX := Lib.hid hxs
      have B4 := Lib.hid (B3.out.trans (h4.mono B3.out.size))
      have S4 := Lib.hid (S3.out.stay h4)
      obtain ⟨w5, hw5⟩ : ∃ u, w4.alloc (.cells #[.slice x.A x.ls.length x.c, .slice x.A2 x.ms.length x.c2] 25) = u := ⟨_, rfl⟩
      obtain ⟨pb5, b5, z5⟩ := new_two hw5
      have B5 := Lib.hid (B4.out.trans (b5.mono B4.out.size))
      have S5 := Lib.hid (S4.out.stay b5)
      have X5 : Hid (SBox x w4.heap.size w5) := Lib.hid ⟨pb5, hx.stay b5⟩
      have RF := Lib.hid (refOf9_c (c := c) (HL.out.below (Nat.le_refl _) B5.out) HN.out HC.out (by omega) B5.out.size)
      obtain ⟨e1, he1⟩ : ∃ v, v = (T9.of b).2 := ⟨_, rfl⟩
      rw [← he1]
      have E1 := Lib.hid he1
      clear hx hxs h4 pb5 b5 z5 he1
      go_wp2_with fail
      refine RF.out.mono ?_
      rintro e w7 ⟨y, he, hy, hys, h7⟩
      unfold MSt.val at he
      rw [← E1.out] at he
      subst he
      have HY := Lib.hid hys
      obtain ⟨w8, hw8⟩ : ∃ u, w7.alloc (.cells #[.slice y.A y.ls.length y.c, .slice y.A2 y.ms.length y.c2] 25) = u := ⟨_, rfl⟩
      obtain ⟨pb8, b8, z8⟩ := new_two hw8
      have h8 := Lib.hid (h7.trans (b8.mono h7.size))
      have S8 := Lib.hid (S5.out.stay h8.out)
      have X8 := Lib.hid (X5.out.stay h8.out)
      have Y8 : Hid (SBox y w7.heap.size w8) := Lib.hid ⟨pb8, hy.stay b8⟩
      have B8 := Lib.hid (B5.out.trans (h8.out.mono B5.out.size))
      have XS : Hid x.st.short := Lib.hid (by rw [HX.out]; exact T9.of_short b)
      have YS : Hid y.st.short := Lib.hid (by rw [HY.out]; exact T9.of_short b)
      have XO : Hid x.st.ok := Lib.hid (by rw [HX.out]; exact T9.of_ok b)
      have YO : Hid y.st.ok := Lib.hid (by rw [HY.out]; exact T9.of_ok b)
      have sb : (str (T9.bts ⟨s.ls, tks s.ms⟩) == str (T9.bts ⟨s.ls, tks s.ms⟩)) = true := (Go.MapKept.bytes_beq _ _).2 rfl
      have lb : (e1 == e1) = true := beq_self_eq_true _
      clear h7 hy hys pb8 b8 z8 hl hlz
      go_wp2_with fail
      refine wp_region_held_drew (S := fun u => Below w8.heap.size w8 u) (by kernel_rfl) ((Below.refl _ _).drew) (fun S0 => ?_)
      refine wpAnyH_take (i := 0) (v := ?_) rfl (by kernel_rfl) (by kernel_rfl) (by kernel_rfl) (fun _ _ _ h => h) (Or.inl ⟨by rfl, ?_⟩) S0 ?_
      rotate_left
      · intro u hu
        obtain ⟨x0, x1⟩ := (S8.out.stay hu).cells
        go_simp
        try rfl
      try simp only [Act.put, List.setIfInBounds_toArray, List.set_cons_zero, List.set_cons_succ, List.getElem_toArray, List.getElem_cons_zero, List.getElem_cons_succ]
      refine wpAnyH_take (i := 3) (v := ?_) rfl (by kernel_rfl) (by kernel_rfl) (by kernel_rfl) (fun _ _ _ h => h) (Or.inl ⟨by rfl, ?_⟩) S0 ?_
      rotate_left
      · intro u hu
        obtain ⟨x0, x1⟩ := (S8.out.stay hu).cells
        go_simp
        try rfl
      try simp only [Act.put, List.setIfInBounds_toArray, List.set_cons_zero, List.set_cons_succ, List.getElem_toArray, List.getElem_cons_zero, List.getElem_cons_succ]
      refine anyH_one9 (i := 1) (by kernel_rfl) rfl (fun K hK => ?_)
      go_simp
      refine (put_c (S8.out.stay S0).s.l (S8.out.stay S0).s.k rfl rfl LTS.out KS.out).mono ?_
      rintro e wb ⟨Ab, nb, cb, rfl, ob, hb⟩
      obtain ⟨rfl, _⟩ := own_room ob
      have LB := Lib.hid (lies_own (B := 0) ob)
      have BB := Lib.hid (S0.trans (hb.mono S0.size))
      have S1 := BB.out
      clear ob hb
      refine hK _ _ S1 ?_
      clear hK K S0
      have S0 := S1
      clear S1
      try simp only [Act.put, List.setIfInBounds_toArray, List.set_cons_zero, List.set_cons_succ, List.getElem_toArray, List.getElem_cons_zero, List.getElem_cons_succ]
      refine held_imp (S' := fun u => Below wb.heap.size wb u) (fun u hu => BB.out.trans (hu.mono BB.out.size)) _ _ _ _ ?_
      have S1 := Below.refl wb.heap.size wb
      clear S0
      have S0 := S1
      clear S1
      refine wpAnyH_take (i := 2) (v := ?_) rfl (by kernel_rfl) (by kernel_rfl) (by kernel_rfl) (fun _ _ _ h => h) (Or.inl ⟨by rfl, ?_⟩) S0 ?_
      rotate_left
      · intro u hu
        have cv := conv_at (c := cb) (LB.out.below (Nat.zero_le _) hu) rfl
        go_simp
        try rfl
      try simp only [Act.put, List.setIfInBounds_toArray, List.set_cons_zero, List.set_cons_succ, List.getElem_toArray, List.getElem_cons_zero, List.getElem_cons_succ]
      refine anyH_one9 (i := 4) (by kernel_rfl) rfl (fun K hK => ?_)
      go_simp
      refine (refPut_c (S8.out.stay (BB.out.trans (S0.mono BB.out.size))).s.l (S8.out.stay (BB.out.trans (S0.mono BB.out.size))).s.k rfl rfl LTS.out KS.out).mono ?_
      rintro e wc ⟨Ac, nc, cc, rfl, oc, hc⟩
      obtain ⟨rfl, _⟩ := own_room oc
      have LC := Lib.hid (lies_own (B := 0) oc)
      have BC := Lib.hid (S0.trans (hc.mono S0.size))
      have S1 := BC.out
      clear oc hc
      refine hK _ _ S1 ?_
      clear hK K S0
      have S0 := S1
      clear S1
      try simp only [Act.put, List.setIfInBounds_toArray, List.set_cons_zero, List.set_cons_succ, List.getElem_toArray, List.getElem_cons_zero, List.getElem_cons_succ]
      refine held_imp (S' := fun u => Below wc.heap.size wc u) (fun u hu => BC.out.trans (hu.mono BC.out.size)) _ _ _ _ ?_
      have S1 := Below.refl wc.heap.size wc
      clear S0
      have S0 := S1
      clear S1
      refine wpAnyH_take (i := 5) (v := ?_) rfl (by kernel_rfl) (by kernel_rfl) (by kernel_rfl) (fun _ _ _ h => h) (Or.inl ⟨by rfl, ?_⟩) S0 ?_
      rotate_left
      · intro u hu
        have cv := conv_at (c := cc) (LC.out.below (Nat.zero_le _) hu) rfl
        go_simp
        try rfl
      try simp only [Act.put, List.setIfInBounds_toArray, List.set_cons_zero, List.set_cons_succ, List.getElem_toArray, List.getElem_cons_zero, List.getElem_cons_succ]
      refine wpAnyH_take (i := 6) (v := ?_) rfl (by kernel_rfl) (by kernel_rfl) (by kernel_rfl) (fun _ _ _ h => h) (Or.inl ⟨by rfl, ?_⟩) S0 ?_
      rotate_left
      · intro u hu
        go_simp
        try rfl
      try simp only [Act.put, List.setIfInBounds_toArray, List.set_cons_zero, List.set_cons_succ, List.getElem_toArray, List.getElem_cons_zero, List.getElem_cons_succ]
      refine wpAnyH_take (i := 7) (v := ?_) rfl (by kernel_rfl) (by kernel_rfl) (by kernel_rfl) (fun _ _ _ h => h) (Or.inl ⟨by rfl, ?_⟩) S0 ?_
      rotate_left
      · intro u hu
        go_simp
        try rfl
      try simp only [Act.put, List.setIfInBounds_toArray, List.set_cons_zero, List.set_cons_succ, List.getElem_toArray, List.getElem_cons_zero, List.getElem_cons_succ]
      refine wpAnyH_take (i := 8) (v := ?_) rfl (by kernel_rfl) (by kernel_rfl) (by kernel_rfl) (fun _ _ _ h => h) (Or.inl ⟨by rfl, ?_⟩) S0 ?_
      rotate_left
      · intro u hu
        obtain ⟨y0, y1⟩ := (X8.out.stay (BB.out.trans ((BC.out.trans (hu.mono BC.out.size)).mono BB.out.size))).cells
        go_simp
        try rfl
      try simp only [Act.put, List.setIfInBounds_toArray, List.set_cons_zero, List.set_cons_succ, List.getElem_toArray, List.getElem_cons_zero, List.getElem_cons_succ]
      refine wpAnyH_take (i := 9) (v := ?_) rfl (by kernel_rfl) (by kernel_rfl) (by kernel_rfl) (fun _ _ _ h => h) (Or.inl ⟨by rfl, ?_⟩) S0 ?_
      rotate_left
      · intro u hu
        obtain ⟨y0, y1⟩ := (Y8.out.stay (BB.out.trans ((BC.out.trans (hu.mono BC.out.size)).mono BB.out.size))).cells
        go_simp
        try rfl
      try simp only [Act.put, List.setIfInBounds_toArray, List.set_cons_zero, List.set_cons_succ, List.getElem_toArray, List.getElem_cons_zero, List.getElem_cons_succ]
      refine anyH_one9 (i := 10) (by kernel_rfl) rfl (fun K hK => ?_)
      go_simp
      refine (refSameSt_c (X8.out.stay (BB.out.trans ((BC.out.trans (S0.mono BC.out.size)).mono BB.out.size))).s (Y8.out.stay (BB.out.trans ((BC.out.trans (S0.mono BC.out.size)).mono BB.out.size))).s XS.out YS.out XO.out YO.out).mono ?_
      rintro e wd ⟨he, hd⟩
      rw [HX.out, HY.out, T9.same_refl] at he
      subst he
      have S1 := S0.trans (hd.mono S0.size)
      have BD := Lib.hid (BB.out.trans ((BC.out.trans (S1.mono BC.out.size)).mono BB.out.size))
      clear hd
      refine hK _ _ S1 ?_
      clear hK K S0
      have S0 := S1
      clear S1
      try simp only [Act.put, List.setIfInBounds_toArray, List.set_cons_zero, List.set_cons_succ, List.getElem_toArray, List.getElem_cons_zero, List.getElem_cons_succ]
      refine wpAnyH_take (i := 11) (v := ?_) rfl (by kernel_rfl) (by kernel_rfl) (by kernel_rfl) (fun _ _ _ h => h) (Or.inl ⟨by rfl, ?_⟩) S0 ?_
      rotate_left
      · intro u hu
        go_simp
        try rfl
      try simp only [Act.put, List.setIfInBounds_toArray, List.set_cons_zero, List.set_cons_succ, List.getElem_toArray, List.getElem_cons_zero, List.getElem_cons_succ]
      refine wpAnyH_take (i := 12) (v := ?_) rfl (by kernel_rfl) (by kernel_rfl) (by kernel_rfl) (fun _ _ _ h => h) (Or.inl ⟨by rfl, ?_⟩) S0 ?_
      rotate_left
      · intro u hu
        go_simp
        try rfl
      try simp only [Act.put, List.setIfInBounds_toArray, List.set_cons_zero, List.set_cons_succ, List.getElem_toArray, List.getElem_cons_zero, List.getElem_cons_succ]
      refine wpAnyH_take (i := 13) (v := ?_) rfl (by kernel_rfl) (by kernel_rfl) (by kernel_rfl) (fun _ _ _ h => h) (Or.inl ⟨by rfl, ?_⟩) S0 ?_
      rotate_left
      · intro u hu
        go_simp
        try rfl
      try simp only [Act.put, List.setIfInBounds_toArray, List.set_cons_zero, List.set_cons_succ, List.getElem_toArray, List.getElem_cons_zero, List.getElem_cons_succ]
      refine wpAnyH_take (i := 14) (v := ?_) rfl (by kernel_rfl) (by kernel_rfl) (by kernel_rfl) (fun _ _ _ h => h) (Or.inl ⟨by rfl, ?_⟩) S0 ?_
      rotate_left
      · intro u hu
        go_simp
        try rfl
      try simp only [Act.put, List.setIfInBounds_toArray, List.set_cons_zero, List.set_cons_succ, List.getElem_toArray, List.getElem_cons_zero, List.getElem_cons_succ]
      refine wpAnyH_take (i := 15) (v := ?_) rfl (by kernel_rfl) (by kernel_rfl) (by kernel_rfl) (fun _ _ _ h => h) (Or.inl ⟨by rfl, ?_⟩) S0 ?_
      rotate_left
      · intro u hu
        go_simp
        try rfl
      try simp only [Act.put, List.setIfInBounds_toArray, List.set_cons_zero, List.set_cons_succ, List.getElem_toArray, List.getElem_cons_zero, List.getElem_cons_succ]
      refine wpAnyH_take (i := 16) (v := ?_) rfl (by kernel_rfl) (by kernel_rfl) (by kernel_rfl) (fun _ _ _ h => h) (Or.inl ⟨by rfl, ?_⟩) S0 ?_
      rotate_left
      · intro u hu
        go_simp
        try rfl
      try simp only [Act.put, List.setIfInBounds_toArray, List.set_cons_zero, List.set_cons_succ, List.getElem_toArray, List.getElem_cons_zero, List.getElem_cons_succ]
      refine wpAnyH_take (i := 17) (v := ?_) rfl (by kernel_rfl) (by kernel_rfl) (by kernel_rfl) (fun _ _ _ h => h) (Or.inl ⟨by rfl, ?_⟩) S0 ?_
      rotate_left
      · intro u hu
        go_simp
        try rfl
      try simp only [Act.put, List.setIfInBounds_toArray, List.set_cons_zero, List.set_cons_succ, List.getElem_toArray, List.getElem_cons_zero, List.getElem_cons_succ]
      refine wpAnyH_done (by kernel_rfl) ?_ _
      clear S0
      go_wp2
      go_ret
      exact ⟨rfl, B8.out.trans (BD.out.mono B8.out.size)⟩
end Go.Proofs.Ytbgdmmemahfpbaa
