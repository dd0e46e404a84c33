/- Stage 9: the walk of TaskBack (written by wip/gen9bk.py behind wip/XTak.head). -/
import Derived.Test.YtbgdmmemahfpbaaTaj
import Derived.Deep.RegionHeld3
namespace Go.Proofs.Ytbgdmmemahfpbaa
open Go.RowKit Go.Lib Go.Sort
set_option maxRecDepth 100000

section
variable {P : Program} {ops : Array Oper} {Q : Exit → Act → World → Prop} {md : Region.Mode} {S S' : World → Prop}
theorem held_imp (hi : ∀ u, S' u → S u) : ∀ (f : Nat) (ls : Array Bool) (a : Act) (w : World), wpAnyH P md ops Q S' f ls a w → wpAnyH P md ops Q S f ls a w
  | 0, _, _, _, h => h
  | f + 1, _, _, _, h => ⟨h.1, fun i hx => wpOp_mono (fun a' w' q => ⟨hi _ q.1, held_imp hi f _ a' w' q.2⟩) (h.2 i hx)⟩
theorem anyH_one9 {i : Nat} {oi : Oper} {f : Nat} {ls : Array Bool} {a : Act} {w : World} (hr : Region.ready md ops ls = [i]) (hi : ops[i]? = some oi)
    (h : ∀ K : Act → World → Prop, (∀ b u, S u → wpAnyH P md ops Q S f (ls.setIfInBounds i true) b u → K b u) → if Region.wanted oi (yielded ops a.tmps) = true then Oper.wp P oi a w K Q else K (a.put oi.dst undef) w) : wpAnyH P md ops Q S (f + 1) ls a w := by
  refine ⟨fun e => absurd e (by rw [hr]; simp), fun j hj => ?_⟩
  rw [hr, List.mem_singleton] at hj
  subst hj
  exact wpOp_step hi (fun K hK => h K (fun b u q1 q2 => hK b u ⟨q1, q2⟩))
end
theorem beq_dec9 (l o : List UInt8) : (l == o) = decide (l = o) := by
  rw [Bool.eq_iff_iff]
  simp
theorem str_beq9 (l o : List UInt8) : (str l == str o) = decide (l = o) := by
  by_cases h : l = o
  · subst h
    rw [decide_eq_true rfl]
    exact (Go.MapKept.bytes_beq _ _).2 rfl
  · rw [decide_eq_false h]
    cases q : str l == str o with
    | false => rfl
    | true => exact absurd (by have z := (Go.MapKept.bytes_beq _ _).1 q; have z2 := congrArg (fun b => b.data.toList) z; simpa [str] using z2) h
theorem T9.bts_le {s : T9.St} (h : s.light) : (T9.bts s).length ≤ 100000 := by
  have a := T9.flat_le (f := T9.encLi) (c := 118) (l := s.lists) fun l hl => T9.encLi_le (h.name l hl)
  have b := T9.flat_le (f := T9.encTk) (c := 1100) (l := s.tasks) fun t ht => T9.encTk_le (h.title t ht) (h.few t ht) (h.tag t ht)
  have c := num_len s.lists.length
  have d := num_len s.tasks.length
  have e := h.nl
  have f := h.nt
  unfold T9.bts
  simp only [List.length_append]
  omega

set_option linter.unusedSimpArgs false in
set_option maxHeartbeats 4000000 in
set_option maxRecDepth 100000 in
theorem taskBack_c {s o : MSt} {w : World} (hs : SM s w) (ho : SM o w) (ks : s.st.ok) (ko : o.st.ok) (fs : s.far) (fo : o.far) :
    Calls Try.prog 6 #[s.val, o.val] w fun e w' => e = .returned (.bool true) ∧ Below w.heap.size w w' := by
  obtain ⟨w0, hw0⟩ : ∃ u, w.alloc (.cells #[.slice s.A s.ls.length s.c, .slice s.A2 s.ms.length s.c2] 25) = u := ⟨_, rfl⟩
  obtain ⟨pb0, b0, z0⟩ := new_two hw0
  obtain ⟨w1, hw1⟩ : ∃ u, w0.alloc (.cells #[.slice o.A o.ls.length o.c, .slice o.A2 o.ms.length o.c2] 25) = u := ⟨_, rfl⟩
  obtain ⟨pb1, b1, z1⟩ := new_two hw1
  rw [z0] at pb1
  have B1 : Hid (Below w.heap.size w w1) := Lib.hid (b0.trans (b1.mono (by omega)))
  have S1 : Hid (SBox s w.heap.size w1) := Lib.hid ⟨blk_keep pb0 b1, hs.stay B1.out⟩
  have O1 : Hid (SBox o (w.heap.size + 1) w1) := Lib.hid ⟨pb1, ho.stay B1.out⟩
  have KS := Lib.hid ks
  have KO := Lib.hid ko
  have FS := Lib.hid fs
  have FO := Lib.hid fo
  have AW := Lib.hid (awake9_c w1)
  unfold MSt.val
  clear hs ho ks ko fs fo pb0 pb1 b0 b1 z1
  go_enter Try.func6, Try.ntmps6
  go_wp2_with fail
  refine AW.out.mono ?_
  rintro e w2 ⟨rfl, h2⟩
  have S2 := Lib.hid (S1.out.stay h2)
  have O2 := Lib.hid (O1.out.stay h2)
  have B2 := Lib.hid (B1.out.trans (h2.mono B1.out.size))
  clear h2
  obtain ⟨x0, x1⟩ := S2.out.cells
  have LS := Lib.hid (light9_c (c := s.c) (c2 := s.c2) S2.out.s.l S2.out.s.k rfl rfl FS.out)
  go_wp2_with fail
  refine LS.out.mono ?_
  rintro e w3 ⟨b, rfl, hb, h3⟩
  have S3 := Lib.hid (S2.out.stay h3)
  have O3 := Lib.hid (O2.out.stay h3)
  have B3 := Lib.hid (B2.out.trans (h3.mono B2.out.size))
  clear h3 x0 x1
  cases b with
  | false =>
    clear hb
    go_wp2_with fail
    go_ret
    exact ⟨rfl, B3.out⟩
  | true =>
    have LTS := Lib.hid (hb rfl)
    clear hb
    obtain ⟨x0, x1⟩ := O3.out.cells
    have LO := Lib.hid (light9_c (c := o.c) (c2 := o.c2) O3.out.s.l O3.out.s.k rfl rfl FO.out)
    go_wp2_with fail
    refine LO.out.mono ?_
    rintro e w4 ⟨b, rfl, hb, h4⟩
    have S4 := Lib.hid (S3.out.stay h4)
    have O4 := Lib.hid (O3.out.stay h4)
    have B4 := Lib.hid (B3.out.trans (h4.mono B3.out.size))
    clear h4 x0 x1
    cases b with
    | false =>
      clear hb
      go_wp2_with fail
      go_ret
      exact ⟨rfl, B4.out⟩
    | true =>
      have LTO := Lib.hid (hb rfl)
      clear hb
      obtain ⟨x0, x1⟩ := S4.out.cells
      have RC := Lib.hid (right_c (c := s.c) (c2 := s.c2) S4.out.s.l S4.out.s.k rfl rfl LTS.out.short ⟨S4.out.s.lc, S4.out.s.kc⟩)
      go_wp2_with fail
      refine RC.out.mono ?_
      rintro e w5 ⟨rfl, h5⟩
      have S5 := Lib.hid (S4.out.stay h5)
      have O5 := Lib.hid (O4.out.stay h5)
      have B5 := Lib.hid (B4.out.trans (h5.mono B4.out.size))
      clear h5 x0 x1
      obtain ⟨r, hr⟩ : ∃ r, T9.rightE ⟨s.ls, tks s.ms⟩ = r := ⟨_, rfl⟩
      rw [hr]
      by_cases h0 : r = 0
      case neg =>
        have r1 : (r == 0) = false := by simpa using h0
        have r2 : (r != 0) = true := by simpa using h0
        have r3 : decide (r = 0) = false := by simpa using h0
        clear hr
        go_wp2_with fail
        go_ret
        exact ⟨rfl, B5.out⟩
      subst h0
      have HR := Lib.hid (show T9.rightE s.st = 0 from hr)
      clear hr
      obtain ⟨x0, x1⟩ := S5.out.cells
      have PC := Lib.hid (put_c (c := s.c) (c2 := s.c2) S5.out.s.l S5.out.s.k rfl rfl LTS.out KS.out)
      go_wp2_with fail
      refine PC.out.mono ?_
      rintro e w6 ⟨A6, n6, c6, rfl, ho6, h6⟩
      obtain ⟨rfl, _⟩ := own_room ho6
      have S6 := Lib.hid (S5.out.stay h6)
      have O6 := Lib.hid (O5.out.stay h6)
      have B6 := Lib.hid (B5.out.trans (h6.mono B5.out.size))
      have OF := Lib.hid (of9_c (c := c6) (lies_own (B := 0) ho6) rfl (Nat.le_trans (T9.bts_le LTS.out) (by decide)) (Nat.zero_le _))
      clear h6 ho6 x0 x1
      go_wp2_with fail
      refine OF.out.mono ?_
      rintro e w7 ⟨m, he, hm, hst, h7⟩
      rw [show (T9.of (T9.bts ⟨s.ls, tks s.ms⟩)) = (s.st, 0) from T9.of_back KS.out HR.out] at he hst
      unfold MSt.val at he
      subst he
      have HST := Lib.hid (show m.st = s.st from hst)
      obtain ⟨w8, hw8⟩ : ∃ u, w7.alloc (.cells #[.slice m.A m.ls.length m.c, .slice m.A2 m.ms.length m.c2] 25) = u := ⟨_, rfl⟩
      obtain ⟨tb, b8, z8⟩ := new_two hw8
      have h8 := Lib.hid (h7.trans (b8.mono h7.size))
      have S8 := Lib.hid (S6.out.stay h8.out)
      have O8 := Lib.hid (O6.out.stay h8.out)
      have B8 := Lib.hid (B6.out.trans (h8.out.mono B6.out.size))
      have M8 : Hid (SBox m w7.heap.size w8) := Lib.hid ⟨tb, hm.stay b8⟩
      clear h7 hm hst tb b8 z8
      obtain ⟨x0, x1⟩ := S8.out.cells
      obtain ⟨y0, y1⟩ := M8.out.cells
      have SAME := Lib.hid (refSameSt_c (a := m) (b := s) M8.out.s S8.out.s (by rw [HST.out]; exact LTS.out.short) LTS.out.short (by rw [HST.out]; exact KS.out) KS.out)
      go_wp2_with fail
      refine SAME.out.mono ?_
      rintro e wx ⟨he, hx⟩
      rw [HST.out, T9.same_refl] at he
      subst he
      clear x0 x1 y0 y1
      have S9 := Lib.hid (S8.out.stay hx)
      have O9 := Lib.hid (O8.out.stay hx)
      have B9 := Lib.hid (B8.out.trans (hx.mono B8.out.size))
      clear hx S8 O8 B8 h8
      obtain ⟨w8, hwx⟩ : ∃ u, u = wx := ⟨_, rfl⟩
      subst hwx
      have S8 := S9
      have O8 := O9
      have B8 := B9
      clear S9 O9 B9
      obtain ⟨r, hr⟩ : ∃ r, T9.rightE ⟨o.ls, tks o.ms⟩ = r := ⟨_, rfl⟩
      by_cases h0 : r = 0
      case neg =>
        have r1 : (r == 0) = false := by simpa using h0
        have r2 : (r != 0) = true := by simpa using h0
        have r3 : decide (r = 0) = false := by simpa using h0
        have RO := Lib.hid hr
        clear hr h0
        go_wp2_with fail
        refine wp_region_held_drew (S := fun u => Below w8.heap.size w8 u) (by kernel_rfl) ((Below.refl _ _).drew) (fun S0 => ?_)
        refine wpAnyH_take (i := 0) (v := ?_) rfl (by kernel_rfl) (by kernel_rfl) (by kernel_rfl) (fun _ _ _ h => h) (Or.inl ⟨by rfl, ?_⟩) S0 ?_
        rotate_left
        · intro u hu
          obtain ⟨y0, y1⟩ := (O8.out.stay hu).cells
          go_simp
          try rfl
        try simp only [Act.put, List.setIfInBounds_toArray, List.set_cons_zero, List.set_cons_succ, List.getElem_toArray, List.getElem_cons_zero, List.getElem_cons_succ]
        refine anyH_one9 (i := 1) (by kernel_rfl) rfl (fun K hK => ?_)
        go_simp
        refine (right_c (O8.out.stay S0).s.l (O8.out.stay S0).s.k rfl rfl LTO.out.short ⟨(O8.out.stay S0).s.lc, (O8.out.stay S0).s.kc⟩).mono ?_
        rintro e wa ⟨rfl, ha⟩
        rw [RO.out]
        have S1 := S0.trans (ha.mono S0.size)
        have BD := Lib.hid (B8.out.trans (S1.mono B8.out.size))
        clear ha
        refine hK _ _ S1 ?_
        clear hK K S0
        have S0 := S1
        clear S1
        try simp only [Act.put, List.setIfInBounds_toArray, List.set_cons_zero, List.set_cons_succ, List.getElem_toArray, List.getElem_cons_zero, List.getElem_cons_succ]
        refine wpAnyH_take (i := 2) (v := ?_) rfl (by kernel_rfl) (by kernel_rfl) (by kernel_rfl) (fun _ _ _ h => h) (Or.inl ⟨by rfl, ?_⟩) S0 ?_
        rotate_left
        · intro u hu
          go_simp
          try rfl
        try simp only [Act.put, List.setIfInBounds_toArray, List.set_cons_zero, List.set_cons_succ, List.getElem_toArray, List.getElem_cons_zero, List.getElem_cons_succ]
        refine wpAnyH_take (i := 3) (v := ?_) rfl (by kernel_rfl) (by kernel_rfl) (by kernel_rfl) (fun _ _ _ h => h) (Or.inl ⟨by rfl, ?_⟩) S0 ?_
        rotate_left
        · intro u hu
          go_simp
          try rfl
        try simp only [Act.put, List.setIfInBounds_toArray, List.set_cons_zero, List.set_cons_succ, List.getElem_toArray, List.getElem_cons_zero, List.getElem_cons_succ]
        refine wpAnyH_take (i := 4) (v := undef) rfl (by kernel_rfl) (by kernel_rfl) (by kernel_rfl) (fun _ _ _ h => h) (Or.inr ⟨by rfl, rfl⟩) S0 ?_
        try simp only [Act.put, List.setIfInBounds_toArray, List.set_cons_zero, List.set_cons_succ, List.getElem_toArray, List.getElem_cons_zero, List.getElem_cons_succ]
        refine wpAnyH_take (i := 5) (v := undef) rfl (by kernel_rfl) (by kernel_rfl) (by kernel_rfl) (fun _ _ _ h => h) (Or.inr ⟨by rfl, rfl⟩) S0 ?_
        try simp only [Act.put, List.setIfInBounds_toArray, List.set_cons_zero, List.set_cons_succ, List.getElem_toArray, List.getElem_cons_zero, List.getElem_cons_succ]
        refine wpAnyH_take (i := 6) (v := undef) rfl (by kernel_rfl) (by kernel_rfl) (by kernel_rfl) (fun _ _ _ h => h) (Or.inr ⟨by rfl, rfl⟩) S0 ?_
        try simp only [Act.put, List.setIfInBounds_toArray, List.set_cons_zero, List.set_cons_succ, List.getElem_toArray, List.getElem_cons_zero, List.getElem_cons_succ]
        refine wpAnyH_take (i := 7) (v := undef) rfl (by kernel_rfl) (by kernel_rfl) (by kernel_rfl) (fun _ _ _ h => h) (Or.inr ⟨by rfl, rfl⟩) S0 ?_
        try simp only [Act.put, List.setIfInBounds_toArray, List.set_cons_zero, List.set_cons_succ, List.getElem_toArray, List.getElem_cons_zero, List.getElem_cons_succ]
        refine wpAnyH_take (i := 8) (v := undef) rfl (by kernel_rfl) (by kernel_rfl) (by kernel_rfl) (fun _ _ _ h => h) (Or.inr ⟨by rfl, rfl⟩) S0 ?_
        try simp only [Act.put, List.setIfInBounds_toArray, List.set_cons_zero, List.set_cons_succ, List.getElem_toArray, List.getElem_cons_zero, List.getElem_cons_succ]
        refine wpAnyH_take (i := 9) (v := undef) rfl (by kernel_rfl) (by kernel_rfl) (by kernel_rfl) (fun _ _ _ h => h) (Or.inr ⟨by rfl, rfl⟩) S0 ?_
        try simp only [Act.put, List.setIfInBounds_toArray, List.set_cons_zero, List.set_cons_succ, List.getElem_toArray, List.getElem_cons_zero, List.getElem_cons_succ]
        refine wpAnyH_take (i := 10) (v := undef) rfl (by kernel_rfl) (by kernel_rfl) (by kernel_rfl) (fun _ _ _ h => h) (Or.inr ⟨by rfl, rfl⟩) S0 ?_
        try simp only [Act.put, List.setIfInBounds_toArray, List.set_cons_zero, List.set_cons_succ, List.getElem_toArray, List.getElem_cons_zero, List.getElem_cons_succ]
        refine wpAnyH_take (i := 11) (v := undef) rfl (by kernel_rfl) (by kernel_rfl) (by kernel_rfl) (fun _ _ _ h => h) (Or.inr ⟨by rfl, rfl⟩) S0 ?_
        try simp only [Act.put, List.setIfInBounds_toArray, List.set_cons_zero, List.set_cons_succ, List.getElem_toArray, List.getElem_cons_zero, List.getElem_cons_succ]
        refine wpAnyH_take (i := 12) (v := undef) rfl (by kernel_rfl) (by kernel_rfl) (by kernel_rfl) (fun _ _ _ h => h) (Or.inr ⟨by rfl, rfl⟩) S0 ?_
        try simp only [Act.put, List.setIfInBounds_toArray, List.set_cons_zero, List.set_cons_succ, List.getElem_toArray, List.getElem_cons_zero, List.getElem_cons_succ]
        refine wpAnyH_take (i := 13) (v := undef) rfl (by kernel_rfl) (by kernel_rfl) (by kernel_rfl) (fun _ _ _ h => h) (Or.inr ⟨by rfl, rfl⟩) S0 ?_
        try simp only [Act.put, List.setIfInBounds_toArray, List.set_cons_zero, List.set_cons_succ, List.getElem_toArray, List.getElem_cons_zero, List.getElem_cons_succ]
        refine wpAnyH_take (i := 14) (v := undef) rfl (by kernel_rfl) (by kernel_rfl) (by kernel_rfl) (fun _ _ _ h => h) (Or.inr ⟨by rfl, rfl⟩) S0 ?_
        try simp only [Act.put, List.setIfInBounds_toArray, List.set_cons_zero, List.set_cons_succ, List.getElem_toArray, List.getElem_cons_zero, List.getElem_cons_succ]
        refine wpAnyH_take (i := 15) (v := ?_) rfl (by kernel_rfl) (by kernel_rfl) (by kernel_rfl) (fun _ _ _ h => h) (Or.inl ⟨by rfl, ?_⟩) S0 ?_
        rotate_left
        · intro u hu
          go_simp
          try rfl
        try simp only [Act.put, List.setIfInBounds_toArray, List.set_cons_zero, List.set_cons_succ, List.getElem_toArray, List.getElem_cons_zero, List.getElem_cons_succ]
        refine wpAnyH_take (i := 16) (v := ?_) rfl (by kernel_rfl) (by kernel_rfl) (by kernel_rfl) (fun _ _ _ h => h) (Or.inl ⟨by rfl, ?_⟩) S0 ?_
        rotate_left
        · intro u hu
          go_simp
          try rfl
        try simp only [Act.put, List.setIfInBounds_toArray, List.set_cons_zero, List.set_cons_succ, List.getElem_toArray, List.getElem_cons_zero, List.getElem_cons_succ]
        refine wpAnyH_done (by kernel_rfl) ?_ _
        clear S0
        go_wp2
        go_ret
        exact ⟨rfl, BD.out⟩
      subst h0
      have RO := Lib.hid hr
      obtain ⟨v, hv⟩ : ∃ v, T9.same s.st o.st = v := ⟨_, rfl⟩
      have HV := Lib.hid hv
      have sbo : (str (T9.bts ⟨s.ls, tks s.ms⟩) == str (T9.bts ⟨o.ls, tks o.ms⟩)) = v := by
        rw [str_beq9, ← hv]
        exact T9.bts_iff KS.out KO.out HR.out hr
      have sb2 : (T9.bts ⟨s.ls, tks s.ms⟩ == T9.bts ⟨o.ls, tks o.ms⟩) = v := by
        rw [← hv, ← T9.bts_iff KS.out KO.out HR.out hr]
        exact beq_dec9 _ _
      have lb : (v == v) = true := beq_self_eq_true _
      clear hr hv
      go_wp2_with fail
      refine wp_region_held_drew (S := fun u => Below w8.heap.size w8 u) (by kernel_rfl) ((Below.refl _ _).drew) (fun S0 => ?_)
      refine wpAnyH_take (i := 0) (v := ?_) rfl (by kernel_rfl) (by kernel_rfl) (by kernel_rfl) (fun _ _ _ h => h) (Or.inl ⟨by rfl, ?_⟩) S0 ?_
      rotate_left
      · intro u hu
        obtain ⟨y0, y1⟩ := (O8.out.stay hu).cells
        go_simp
        try rfl
      try simp only [Act.put, List.setIfInBounds_toArray, List.set_cons_zero, List.set_cons_succ, List.getElem_toArray, List.getElem_cons_zero, List.getElem_cons_succ]
      refine anyH_one9 (i := 1) (by kernel_rfl) rfl (fun K hK => ?_)
      go_simp
      refine (right_c (O8.out.stay S0).s.l (O8.out.stay S0).s.k rfl rfl LTO.out.short ⟨(O8.out.stay S0).s.lc, (O8.out.stay S0).s.kc⟩).mono ?_
      rintro e wa ⟨rfl, ha⟩
      rw [RO.out]
      have S1 := S0.trans (ha.mono S0.size)
      have BD := Lib.hid (B8.out.trans (S1.mono B8.out.size))
      clear ha
      refine hK _ _ S1 ?_
      clear hK K S0
      have S0 := S1
      clear S1
      try simp only [Act.put, List.setIfInBounds_toArray, List.set_cons_zero, List.set_cons_succ, List.getElem_toArray, List.getElem_cons_zero, List.getElem_cons_succ]
      refine wpAnyH_take (i := 2) (v := ?_) rfl (by kernel_rfl) (by kernel_rfl) (by kernel_rfl) (fun _ _ _ h => h) (Or.inl ⟨by rfl, ?_⟩) S0 ?_
      rotate_left
      · intro u hu
        go_simp
        try rfl
      try simp only [Act.put, List.setIfInBounds_toArray, List.set_cons_zero, List.set_cons_succ, List.getElem_toArray, List.getElem_cons_zero, List.getElem_cons_succ]
      refine wpAnyH_take (i := 3) (v := ?_) rfl (by kernel_rfl) (by kernel_rfl) (by kernel_rfl) (fun _ _ _ h => h) (Or.inl ⟨by rfl, ?_⟩) S0 ?_
      rotate_left
      · intro u hu
        go_simp
        try rfl
      try simp only [Act.put, List.setIfInBounds_toArray, List.set_cons_zero, List.set_cons_succ, List.getElem_toArray, List.getElem_cons_zero, List.getElem_cons_succ]
      refine wpAnyH_take (i := 4) (v := ?_) rfl (by kernel_rfl) (by kernel_rfl) (by kernel_rfl) (fun _ _ _ h => h) (Or.inl ⟨by rfl, ?_⟩) S0 ?_
      rotate_left
      · intro u hu
        obtain ⟨x0, x1⟩ := (S8.out.stay hu).cells
        go_simp
        try rfl
      try simp only [Act.put, List.setIfInBounds_toArray, List.set_cons_zero, List.set_cons_succ, List.getElem_toArray, List.getElem_cons_zero, List.getElem_cons_succ]
      refine wpAnyH_take (i := 7) (v := ?_) rfl (by kernel_rfl) (by kernel_rfl) (by kernel_rfl) (fun _ _ _ h => h) (Or.inl ⟨by rfl, ?_⟩) S0 ?_
      rotate_left
      · intro u hu
        obtain ⟨y0, y1⟩ := (O8.out.stay hu).cells
        go_simp
        try rfl
      try simp only [Act.put, List.setIfInBounds_toArray, List.set_cons_zero, List.set_cons_succ, List.getElem_toArray, List.getElem_cons_zero, List.getElem_cons_succ]
      refine wpAnyH_take (i := 11) (v := ?_) rfl (by kernel_rfl) (by kernel_rfl) (by kernel_rfl) (fun _ _ _ h => h) (Or.inl ⟨by rfl, ?_⟩) S0 ?_
      rotate_left
      · intro u hu
        obtain ⟨x0, x1⟩ := (S8.out.stay hu).cells
        go_simp
        try rfl
      try simp only [Act.put, List.setIfInBounds_toArray, List.set_cons_zero, List.set_cons_succ, List.getElem_toArray, List.getElem_cons_zero, List.getElem_cons_succ]
      refine wpAnyH_take (i := 12) (v := ?_) rfl (by kernel_rfl) (by kernel_rfl) (by kernel_rfl) (fun _ _ _ h => h) (Or.inl ⟨by rfl, ?_⟩) S0 ?_
      rotate_left
      · intro u hu
        obtain ⟨y0, y1⟩ := (O8.out.stay hu).cells
        go_simp
        try rfl
      try simp only [Act.put, List.setIfInBounds_toArray, List.set_cons_zero, List.set_cons_succ, List.getElem_toArray, List.getElem_cons_zero, List.getElem_cons_succ]
      refine anyH_one9 (i := 5) (by kernel_rfl) rfl (fun K hK => ?_)
      go_simp
      refine (put_c (S8.out.stay S0).s.l (S8.out.stay S0).s.k rfl rfl LTS.out KS.out).mono ?_
      rintro e wb ⟨Ab, nb, cb, rfl, ob, hb⟩
      obtain ⟨rfl, _⟩ := own_room ob
      have LB := Lib.hid (lies_own (B := 0) ob)
      have BB := Lib.hid (S0.trans (hb.mono S0.size))
      have S1 := BB.out
      clear ob hb
      refine hK _ _ S1 ?_
      clear hK K S0
      have S0 := S1
      clear S1
      try simp only [Act.put, List.setIfInBounds_toArray, List.set_cons_zero, List.set_cons_succ, List.getElem_toArray, List.getElem_cons_zero, List.getElem_cons_succ]
      refine held_imp (S' := fun u => Below wb.heap.size wb u) (fun u hu => BB.out.trans (hu.mono BB.out.size)) _ _ _ _ ?_
      have S1 := Below.refl wb.heap.size wb
      clear S0
      have S0 := S1
      clear S1
      refine wpAnyH_take (i := 6) (v := ?_) rfl (by kernel_rfl) (by kernel_rfl) (by kernel_rfl) (fun _ _ _ h => h) (Or.inl ⟨by rfl, ?_⟩) S0 ?_
      rotate_left
      · intro u hu
        have cv := conv_at (c := cb) (LB.out.below (Nat.zero_le _) hu) rfl
        go_simp
        try rfl
      try simp only [Act.put, List.setIfInBounds_toArray, List.set_cons_zero, List.set_cons_succ, List.getElem_toArray, List.getElem_cons_zero, List.getElem_cons_succ]
      refine anyH_one9 (i := 8) (by kernel_rfl) rfl (fun K hK => ?_)
      go_simp
      refine (put_c (O8.out.stay (BB.out.trans (S0.mono BB.out.size))).s.l (O8.out.stay (BB.out.trans (S0.mono BB.out.size))).s.k rfl rfl LTO.out KO.out).mono ?_
      rintro e wc ⟨Ac, nc, cc, rfl, oc, hc⟩
      obtain ⟨rfl, _⟩ := own_room oc
      have LC := Lib.hid (lies_own (B := 0) oc)
      have BC := Lib.hid (S0.trans (hc.mono S0.size))
      have S1 := BC.out
      clear oc hc
      refine hK _ _ S1 ?_
      clear hK K S0
      have S0 := S1
      clear S1
      try simp only [Act.put, List.setIfInBounds_toArray, List.set_cons_zero, List.set_cons_succ, List.getElem_toArray, List.getElem_cons_zero, List.getElem_cons_succ]
      refine held_imp (S' := fun u => Below wc.heap.size wc u) (fun u hu => BC.out.trans (hu.mono BC.out.size)) _ _ _ _ ?_
      have S1 := Below.refl wc.heap.size wc
      clear S0
      have S0 := S1
      clear S1
      refine wpAnyH_take (i := 9) (v := ?_) rfl (by kernel_rfl) (by kernel_rfl) (by kernel_rfl) (fun _ _ _ h => h) (Or.inl ⟨by rfl, ?_⟩) S0 ?_
      rotate_left
      · intro u hu
        have cv := conv_at (c := cc) (LC.out.below (Nat.zero_le _) hu) rfl
        go_simp
        try rfl
      try simp only [Act.put, List.setIfInBounds_toArray, List.set_cons_zero, List.set_cons_succ, List.getElem_toArray, List.getElem_cons_zero, List.getElem_cons_succ]
      refine wpAnyH_take (i := 10) (v := ?_) rfl (by kernel_rfl) (by kernel_rfl) (by kernel_rfl) (fun _ _ _ h => h) (Or.inl ⟨by rfl, ?_⟩) S0 ?_
      rotate_left
      · intro u hu
        go_simp
        try rfl
      try simp only [Act.put, List.setIfInBounds_toArray, List.set_cons_zero, List.set_cons_succ, List.getElem_toArray, List.getElem_cons_zero, List.getElem_cons_succ]
      refine anyH_one9 (i := 13) (by kernel_rfl) rfl (fun K hK => ?_)
      go_simp
      refine (refSameSt_c (S8.out.stay (BB.out.trans ((BC.out.trans (S0.mono BC.out.size)).mono BB.out.size))).s (O8.out.stay (BB.out.trans ((BC.out.trans (S0.mono BC.out.size)).mono BB.out.size))).s LTS.out.short LTO.out.short KS.out KO.out).mono ?_
      rintro e wd ⟨rfl, hd⟩
      rw [HV.out]
      have S1 := S0.trans (hd.mono S0.size)
      have BD := Lib.hid (B8.out.trans ((BB.out.trans ((BC.out.trans (S1.mono BC.out.size)).mono BB.out.size)).mono B8.out.size))
      clear hd
      refine hK _ _ S1 ?_
      clear hK K S0
      have S0 := S1
      clear S1
      try simp only [Act.put, List.setIfInBounds_toArray, List.set_cons_zero, List.set_cons_succ, List.getElem_toArray, List.getElem_cons_zero, List.getElem_cons_succ]
      refine wpAnyH_take (i := 14) (v := ?_) rfl (by kernel_rfl) (by kernel_rfl) (by kernel_rfl) (fun _ _ _ h => h) (Or.inl ⟨by rfl, ?_⟩) S0 ?_
      rotate_left
      · intro u hu
        go_simp
        try rfl
      try simp only [Act.put, List.setIfInBounds_toArray, List.set_cons_zero, List.set_cons_succ, List.getElem_toArray, List.getElem_cons_zero, List.getElem_cons_succ]
      refine wpAnyH_take (i := 15) (v := ?_) rfl (by kernel_rfl) (by kernel_rfl) (by kernel_rfl) (fun _ _ _ h => h) (Or.inl ⟨by rfl, ?_⟩) S0 ?_
      rotate_left
      · intro u hu
        go_simp
        try rfl
      try simp only [Act.put, List.setIfInBounds_toArray, List.set_cons_zero, List.set_cons_succ, List.getElem_toArray, List.getElem_cons_zero, List.getElem_cons_succ]
      refine wpAnyH_take (i := 16) (v := ?_) rfl (by kernel_rfl) (by kernel_rfl) (by kernel_rfl) (fun _ _ _ h => h) (Or.inl ⟨by rfl, ?_⟩) S0 ?_
      rotate_left
      · intro u hu
        go_simp
        try rfl
      try simp only [Act.put, List.setIfInBounds_toArray, List.set_cons_zero, List.set_cons_succ, List.getElem_toArray, List.getElem_cons_zero, List.getElem_cons_succ]
      refine wpAnyH_done (by kernel_rfl) ?_ _
      clear S0
      go_wp2
      go_ret
      exact ⟨rfl, BD.out⟩
end Go.Proofs.Ytbgdmmemahfpbaa
