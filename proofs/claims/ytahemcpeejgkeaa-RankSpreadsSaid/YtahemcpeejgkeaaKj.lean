/- Stage 10: the walk of RankSpreads. -/
import Derived.Test.YtahemcpeejgkeaaKi
import Derived.Deep.RegionHeld3
namespace Go.Proofs.Ytahemcpeejgkeaa
open Go.Shelf Go.RowKit Go.Lib Go.Sort
set_option maxRecDepth 100000

section
variable {P : Program} {ops : Array Oper} {Q : Exit → Act → World → Prop} {md : Region.Mode} {S S' : World → Prop}
theorem anyH_one10 {i : Nat} {oi : Oper} {f : Nat} {ls : Array Bool} {a : Act} {w : World} (hr : Region.ready md ops ls = [i]) (hi : ops[i]? = some oi)
    (h : ∀ K : Act → World → Prop, (∀ b u, S u → wpAnyH P md ops Q S f (ls.setIfInBounds i true) b u → K b u) → if Region.wanted oi (yielded ops a.tmps) = true then Oper.wp P oi a w K Q else K (a.put oi.dst undef) w) : wpAnyH P md ops Q S (f + 1) ls a w := by
  refine ⟨fun e => absurd e (by rw [hr]; simp), fun j hj => ?_⟩
  rw [hr, List.mem_singleton] at hj
  subst hj
  exact wpOp_step hi (fun K hK => h K (fun b u q1 q2 => hK b u ⟨q1, q2⟩))
end
theorem spr_light {s : T9.St} (h : s.light) (l : List T9.Tk) : (⟨s.lists, s.tasks.map (T9.spr l)⟩ : T9.St).light := by
  have q : ∀ t ∈ s.tasks.map (T9.spr l), ∃ u ∈ s.tasks, t.title = u.title ∧ t.tags = u.tags := fun t ht => by
    obtain ⟨u, hu, rfl⟩ := List.mem_map.1 ht
    refine ⟨u, hu, ?_⟩
    unfold T9.spr
    split <;> exact ⟨rfl, rfl⟩
  refine ⟨h.nl, by simpa using h.nt, h.name, ?_, ?_, ?_⟩
  · intro t ht
    obtain ⟨u, hu, e, _⟩ := q t ht
    rw [e]; exact h.title u hu
  · intro t ht
    obtain ⟨u, hu, _, e⟩ := q t ht
    rw [e]; exact h.few u hu
  · intro t ht
    obtain ⟨u, hu, _, e⟩ := q t ht
    rw [e]; exact h.tag u hu
theorem spr_rankok {ts : List T9.Tk} (h : ∀ t ∈ ts, t.rank < 18446744073709551616) {l : List T9.Tk} (hl : l.length ≤ 60) : ∀ t ∈ ts.map (T9.spr l), t.rank < 18446744073709551616 := fun t ht => by
  obtain ⟨u, hu, rfl⟩ := List.mem_map.1 ht
  unfold T9.spr
  split
  · rename_i j hj
    obtain ⟨y, hy, _⟩ := T9.plc_some hj
    have := (List.getElem?_eq_some_iff.1 hy).1
    exact (Fl.flo_ok (j + 1) (by omega)).1
  · exact h u hu

set_option linter.unusedSimpArgs false in
set_option maxHeartbeats 4000000 in
set_option maxRecDepth 100000 in
theorem rankSpreads_c {s : MSt} {list after : Nat} {w : World} (hs : SM s w) (ks : s.st.ok) (fs : s.far) :
    Calls Try.prog 3 #[s.val, .int .u64 (list : Int), .int .u64 (after : Int)] w fun e w' => e = .returned (.bool true) ∧ Below w.heap.size w w' := by
  obtain ⟨w1, hw1⟩ : ∃ u, w.alloc (.cells #[.slice s.A s.ls.length s.c, .slice s.A2 s.ms.length s.c2] 25) = u := ⟨_, rfl⟩
  obtain ⟨pb1, b1, z1⟩ := new_two hw1
  have B1 : Hid (Below w.heap.size w w1) := Lib.hid b1
  have S1 : Hid (SBox s w.heap.size w1) := Lib.hid ⟨pb1, hs.stay b1⟩
  have KS := Lib.hid ks
  have FS := Lib.hid fs
  have AW := Lib.hid (awake10_c w1)
  unfold MSt.val
  clear hs ks fs pb1 b1 z1
  go_enter Try.func3, Try.ntmps3
  go_wp2_with fail
  refine AW.out.mono ?_
  rintro e w2 ⟨rfl, h2⟩
  have S2 := Lib.hid (S1.out.stay h2)
  have B2 := Lib.hid (B1.out.trans (h2.mono B1.out.size))
  clear h2
  obtain ⟨x0, x1⟩ := S2.out.cells
  have LS := Lib.hid (light9_c (c := s.c) (c2 := s.c2) S2.out.s.l S2.out.s.k rfl rfl FS.out)
  go_wp2_with fail
  refine LS.out.mono ?_
  rintro e w3 ⟨bb, rfl, hb, h3⟩
  have S3 := Lib.hid (S2.out.stay h3)
  have B3 := Lib.hid (B2.out.trans (h3.mono B2.out.size))
  clear h3 x0 x1
  cases bb with
  | false =>
    clear hb
    go_wp2_with fail
    go_ret
    exact ⟨rfl, B3.out⟩
  | true =>
    have LTS := Lib.hid (hb rfl)
    clear hb
    obtain ⟨x0, x1⟩ := S3.out.cells
    have few : s.ls.length ≤ 25 ∧ s.ms.length ≤ 70 := ⟨LTS.out.nl, by have := LTS.out.nt; rw [tks_len] at this; exact this⟩
    have FEW := Lib.hid few
    have TG : Hid (∀ m ∈ s.ms, m.t.tags.length ≤ 8) := Lib.hid fun m hm => LTS.out.few m.t (List.mem_map.2 ⟨m, hm, rfl⟩)
    clear few
    have RC := Lib.hid (right_c S3.out.s.l S3.out.s.k rfl rfl LTS.out.short ⟨S3.out.s.lc, S3.out.s.kc⟩)
    obtain ⟨r, hr⟩ : ∃ r, T9.rightE ⟨s.ls, tks s.ms⟩ = r := ⟨_, rfl⟩
    rw [hr] at RC
    by_cases r0 : r = 0
    · subst r0
      have R0 := Lib.hid hr
      clear hr
      go_wp2_with fail
      refine RC.out.mono ?_
      rintro e w4 ⟨rfl, h4⟩
      have S4 := Lib.hid (S3.out.stay h4)
      have B4 := Lib.hid (B3.out.trans (h4.mono B3.out.size))
      clear h4 x0 x1
      obtain ⟨x0, x1⟩ := S4.out.cells
      have SC := Lib.hid (spread_c (c := s.c) (c2 := s.c2) S4.out.s.l S4.out.s.k rfl rfl (by have := FEW.out; omega) (by have := FEW.out; omega) (fun m hm => by have := TG.out m hm; omega) (fun m hm => (KS.out.2 _ (List.mem_map.2 ⟨m, hm, rfl⟩)).2.2.1) list)
      go_wp2_with fail
      refine SC.out.mono ?_
      rintro e w7 ⟨m, l, rfl, hm, h7, ol, hst⟩
      rw [T9.canon_right R0.out] at ol hst
      dsimp only at ol hst
      have ll : l.length ≤ 60 := by
        rw [ol.perm.length_eq]
        exact Nat.le_trans (List.length_filter_le _ _) (T9.rightE_parts R0.out).2.1
      have UL : Hid (T9.Uni l) := Lib.hid (((T9.right_uni R0.out).filter _).perm ol.perm)
      have LLEN := Lib.hid ll
      unfold MSt.val
      have ML : Hid m.st.light := Lib.hid (by rw [hst]; exact spr_light LTS.out l)
      have MRI : Hid (T9.rightE ⟨m.ls, tks m.ms⟩ = 0) := Lib.hid (by
        have e : (⟨m.ls, tks m.ms⟩ : T9.St) = m.st := rfl
        rw [e, hst]
        exact T9.spread_right R0.out ll)
      have MF : Hid (m.ls.length ≤ 25 ∧ m.ms.length ≤ 70) := Lib.hid ⟨ML.out.nl, by have := ML.out.nt; unfold MSt.st at this; rw [tks_len] at this; exact this⟩
      have MT : Hid (∀ q ∈ m.ms, q.t.tags.length ≤ 8) := Lib.hid fun q hq => ML.out.few q.t (List.mem_map.2 ⟨q, hq, rfl⟩)
      have MM : Hid (tks m.ms = (tks s.ms).map (T9.spr l)) := Lib.hid (congrArg T9.St.tasks hst)
      have MR : Hid (∀ q ∈ m.ms, q.t.rank < 18446744073709551616) := Lib.hid fun q hq => by
        have z : q.t ∈ tks m.ms := List.mem_map.2 ⟨q, hq, rfl⟩
        rw [MM.out] at z
        exact spr_rankok (fun t ht => (KS.out.2 t ht).2.2.1) ll _ z
      obtain ⟨w8, hw8⟩ : ∃ u, w7.alloc (.cells #[.slice m.A m.ls.length m.c, .slice m.A2 m.ms.length m.c2] 25) = u := ⟨_, rfl⟩
      obtain ⟨pb8, b8, z8⟩ := new_two hw8
      have h8 := Lib.hid (h7.trans (b8.mono h7.size))
      have S8 := Lib.hid (S4.out.stay h8.out)
      have M8 : Hid (SBox m w7.heap.size w8) := Lib.hid ⟨pb8, hm.stay b8⟩
      have B8 := Lib.hid (B4.out.trans (h8.out.mono B4.out.size))
      clear h7 hm hst pb8 b8 z8 x0 x1 ll
      go_wp2_with fail
      refine wp_region_held_drew (S := fun u => Below w8.heap.size w8 u) (by kernel_rfl) ((Below.refl _ _).drew) (fun S0 => ?_)
      refine wpAnyH_take (i := 0) (v := ?_) rfl (by kernel_rfl) (by kernel_rfl) (by kernel_rfl) (fun _ _ _ h => h) (Or.inl ⟨by rfl, ?_⟩) S0 ?_
      rotate_left
      · intro u hu
        obtain ⟨x0, x1⟩ := (S8.out.stay hu).cells
        go_simp
        try rfl
      try simp only [Act.put, List.setIfInBounds_toArray, List.set_cons_zero, List.set_cons_succ, List.getElem_toArray, List.getElem_cons_zero, List.getElem_cons_succ]
      refine wpAnyH_take (i := 1) (v := ?_) rfl (by kernel_rfl) (by kernel_rfl) (by kernel_rfl) (fun _ _ _ h => h) (Or.inl ⟨by rfl, ?_⟩) S0 ?_
      rotate_left
      · intro u hu
        go_simp
        try rfl
      try simp only [Act.put, List.setIfInBounds_toArray, List.set_cons_zero, List.set_cons_succ, List.getElem_toArray, List.getElem_cons_zero, List.getElem_cons_succ]
      refine wpAnyH_take (i := 3) (v := ?_) rfl (by kernel_rfl) (by kernel_rfl) (by kernel_rfl) (fun _ _ _ h => h) (Or.inl ⟨by rfl, ?_⟩) S0 ?_
      rotate_left
      · intro u hu
        obtain ⟨y0, y1⟩ := (M8.out.stay hu).cells
        go_simp
        try rfl
      try simp only [Act.put, List.setIfInBounds_toArray, List.set_cons_zero, List.set_cons_succ, List.getElem_toArray, List.getElem_cons_zero, List.getElem_cons_succ]
      refine wpAnyH_take (i := 4) (v := ?_) rfl (by kernel_rfl) (by kernel_rfl) (by kernel_rfl) (fun _ _ _ h => h) (Or.inl ⟨by rfl, ?_⟩) S0 ?_
      rotate_left
      · intro u hu
        go_simp
        try rfl
      try simp only [Act.put, List.setIfInBounds_toArray, List.set_cons_zero, List.set_cons_succ, List.getElem_toArray, List.getElem_cons_zero, List.getElem_cons_succ]
      refine anyH_one10 (i := 2) (by kernel_rfl) rfl (fun K hK => ?_)
      go_simp
      refine (order_c (A := s.A) (n1 := s.ls.length) (c := s.c) (c2 := s.c2) (S8.out.stay S0).s.k rfl (by have := FEW.out; omega) (fun m hm => by have := TG.out m hm; omega) (fun m hm => (KS.out.2 _ (List.mem_map.2 ⟨m, hm, rfl⟩)).2.2.1) list).mono ?_
      rintro e wa ⟨A3, c3, xs, rfl, hk3, hc3, ho3, h3, _, _⟩
      have LX : Hid (tks xs = l) := Lib.hid (ho3.is (T9.right_uni R0.out) (ol.str (T9.right_uni R0.out)) ol.perm)
      have KX := Lib.hid hk3
      obtain ⟨n3, hn3⟩ : ∃ n, n = xs.length := ⟨_, rfl⟩
      have N3 := Lib.hid hn3
      rw [← hn3]
      have SA := Lib.hid (S0.trans (h3.mono S0.size))
      have S1 := SA.out
      clear hk3 hc3 ho3 h3 hn3
      refine hK _ _ S1 ?_
      clear hK K S0
      have S0 := S1
      clear S1
      try simp only [Act.put, List.setIfInBounds_toArray, List.set_cons_zero, List.set_cons_succ, List.getElem_toArray, List.getElem_cons_zero, List.getElem_cons_succ]
      refine anyH_one10 (i := 5) (by kernel_rfl) rfl (fun K hK => ?_)
      go_simp
      refine (order_c (A := m.A) (n1 := m.ls.length) (c := m.c) (c2 := m.c2) (M8.out.stay S0).s.k rfl (by have := MF.out; omega) (fun q hq => by have := MT.out q hq; omega) (fun q hq => MR.out q hq) list).mono ?_
      rintro e wb ⟨A4, c4, ys, rfl, hk4, hc4, ho4, h4, _, _⟩
      have LY : Hid (tks ys = l.map (T9.spr l)) := Lib.hid (T9.spread_order R0.out ol (by rw [MM.out] at ho4; exact ho4))
      have ly : ys.length = n3 := by rw [N3.out, ← tks_len, LY.out, List.length_map, ← LX.out, tks_len]
      rw [ly]
      have LL9 := Lib.hid ly
      have KY := Lib.hid hk4
      have H4 := Lib.hid h4
      have SB := Lib.hid (S0.trans (h4.mono S0.size))
      have S1 := SB.out
      clear hk4 hc4 ho4 h4 ly
      refine hK _ _ S1 ?_
      clear hK K S0
      have S0 := S1
      clear S1
      try simp only [Act.put, List.setIfInBounds_toArray, List.set_cons_zero, List.set_cons_succ, List.getElem_toArray, List.getElem_cons_zero, List.getElem_cons_succ]
      refine wpAnyH_take (i := 6) (v := ?_) rfl (by kernel_rfl) (by kernel_rfl) (by kernel_rfl) (fun _ _ _ h => h) (Or.inl ⟨by rfl, ?_⟩) S0 ?_
      rotate_left
      · intro u hu
        go_simp
        try rfl
      try simp only [Act.put, List.setIfInBounds_toArray, List.set_cons_zero, List.set_cons_succ, List.getElem_toArray, List.getElem_cons_zero, List.getElem_cons_succ]
      refine wpAnyH_take (i := 7) (v := ?_) rfl (by kernel_rfl) (by kernel_rfl) (by kernel_rfl) (fun _ _ _ h => h) (Or.inl ⟨by rfl, ?_⟩) S0 ?_
      rotate_left
      · intro u hu
        go_simp
        try rfl
      try simp only [Act.put, List.setIfInBounds_toArray, List.set_cons_zero, List.set_cons_succ, List.getElem_toArray, List.getElem_cons_zero, List.getElem_cons_succ]
      refine wpAnyH_done (by kernel_rfl) ?_ _
      clear S0
      have BB := Lib.hid (B8.out.trans (SB.out.mono B8.out.size))
      have KX2 := Lib.hid (KX.out.stay H4.out)
      have M9 := Lib.hid (M8.out.stay SB.out)
      obtain ⟨y0, y1⟩ := M9.out.cells
      have RC2 := Lib.hid (right_c M9.out.s.l M9.out.s.k rfl rfl ML.out.short ⟨M9.out.s.lc, M9.out.s.kc⟩)
      rw [MRI.out] at RC2
      have nn : ((n3 : Int) != (n3 : Int)) = false := by simp
      have OL := Lib.hid ol
      have n3b : n3 ≤ 1000000 := by
        rw [N3.out, ← tks_len, LX.out]
        have := LLEN.out
        omega
      clear ol
      go_wp2_with fail
      refine RC2.out.mono ?_
      rintro e wc ⟨rfl, h5⟩
      have BC := Lib.hid (BB.out.trans (h5.mono BB.out.size))
      have KX3 := Lib.hid (KX2.out.stay h5)
      have KY3 := Lib.hid (KY.out.stay h5)
      have MC := Lib.hid (M9.out.stay h5)
      clear h5 y0 y1 nn
      go_wp2_with fail
      go_loopw [44] (fun s44 wr => ∃ i : Nat, s44 = .int .i64 i ∧ i ≤ n3 ∧ Aside (Below wc.heap.size wc wr)) (fun s44 _ => n3 - (intOf s44).toNat)
      case atStart => exact ⟨0, rfl, Nat.zero_le _, Below.refl _ _⟩
      case round =>
        obtain ⟨i, rfl, hi, hB⟩ := hrel
        have BR := Lib.hid hB.out
        clear hB
        by_cases hlt : i < n3
        · have hltz : (i : Int) < (n3 : Int) := by omega
          have i0z : (0 : Int) ≤ (i : Int) := by omega
          obtain ⟨ad, p, hA, hx, _, r0, r1, r2, r3, r4, r5, r6⟩ := (KX3.out.stay BR.out).at_ (k := i) (by have := N3.out; omega)
          obtain ⟨ad2, q, hA2, hy, _, q0, q1, q2, q3, q4, q5, q6⟩ := (KY3.out.stay BR.out).at_ (k := i) (by have := LL9.out; omega)
          have e : q.t.id = p.t.id := by
            have e1 := tks_at hx
            have e2 := tks_at hy
            rw [LX.out] at e1
            rw [LY.out, List.getElem?_map, e1] at e2
            injection e2 with e2
            rw [← e2, T9.spr_id]
          subst hA
          subst hA2
          rw [e] at q0
          have nn : ((p.t.id : Int) != (p.t.id : Int)) = false := by simp
          clear hx hy r1 r2 r3 r4 r5 r6 q1 q2 q3 q4 q5 q6 e
          go_wp2_with fail
          go_region
          go_wp2
          go_roundw
          case rel => exact ⟨i + 1, by go_num, by omega, BR.out.drew⟩
          case measure => simp [intOf]; omega
        · obtain rfl : i = n3 := by omega
          have hltz : ¬ ((i : Int) < (i : Int)) := by omega
          have MD := Lib.hid (MC.out.stay BR.out)
          have BT := Lib.hid (between_c (c := m.c) (c2 := m.c2) MD.out.s.l MD.out.s.k rfl rfl (by have := MF.out; omega) (by have := MF.out; omega) (fun q hq => by have := MT.out q hq; omega) (fun q hq => MR.out q hq) list after)
          obtain ⟨y0, y1⟩ := MD.out.cells
          have BD := Lib.hid (BC.out.trans (BR.out.mono BC.out.size))
          go_wp2_with fail
          refine BT.out.mono ?_
          rintro e wd ⟨f, er, rfl, h6, _, hb⟩
          have hne : er ≠ 100 := by
            rcases hb with ⟨_, q⟩ | ⟨l2, ho, q⟩
            · rw [q]; decide
            · have e2 := T9.spread_order R0.out OL.out (by rw [MM.out] at ho; exact ho)
              have z := T9.btw_spread UL.out LLEN.out true after
              rw [e2] at q
              rw [q] at z
              exact z
          have hnz : (er != 100) = true := by simpa using hne
          have BE := Lib.hid (BD.out.trans (h6.mono BD.out.size))
          clear hb h6 y0 y1 hne
          go_wp2_with fail
          go_ret
          exact ⟨ret_bool (by first | rfl | assumption | simp [hnz]), BE.out⟩
    · have rz : (r != 0) = true := by simp [r0]
      have rz2 : (r == 0) = false := by simp [r0]
      clear hr
      go_wp2_with fail
      refine RC.out.mono ?_
      rintro e w4 ⟨rfl, h4⟩
      have B4 := Lib.hid (B3.out.trans (h4.mono B3.out.size))
      clear h4
      go_wp2_with fail
      go_ret
      exact ⟨rfl, B4.out⟩
end Go.Proofs.Ytahemcpeejgkeaa
