/- Stage 8: the law StoreRecords, walked. -/
import Derived.Test.YtpnfpeeijghamaaGreatEs
import Derived.Test.YtpnfpeeijghamaaGreatEr
import Derived.Test.YtpnfpeeijghamaaGreatEx
import Derived.Deep.RegionHeld3
namespace Go.Proofs.YtpnfpeeijghamaaGreat
open Go.RowKit Go.Shelf
set_option maxRecDepth 100000

section
variable {P : Program} {ops : Array Oper} {Q : Exit → Act → World → Prop} {md : Region.Mode} {S : World → Prop}
theorem held_any : ∀ (f : Nat) (ls : Array Bool) (a : Act) (w : World), wpAny P md ops Q f ls a w → wpAnyH P md ops Q (fun _ => True) f ls a w
  | 0, _, _, _, h => h
  | f + 1, _, _, _, h => ⟨h.1, fun i hi => wpOp_mono (fun a' w' q => ⟨trivial, held_any f _ a' w' q⟩) (h.2 i hi)⟩
theorem any_one {i : Nat} {oi : Oper} {f : Nat} {ls : Array Bool} {a : Act} {w : World} (hr : Region.ready md ops ls = [i]) (hi : ops[i]? = some oi)
    (h : ∀ K : Act → World → Prop, (∀ b u, wpAny P md ops Q f (ls.setIfInBounds i true) b u → K b u) → if Region.wanted oi (yielded ops a.tmps) = true then Oper.wp P oi a w K Q else K (a.put oi.dst undef) w) : wpAny P md ops Q (f + 1) ls a w := by
  refine ⟨fun e => absurd e (by rw [hr]; simp), fun j hj => ?_⟩
  rw [hr, List.mem_singleton] at hj
  subst hj
  exact wpOp_step hi (fun K hK => h K hK)
theorem anyH_one {i : Nat} {oi : Oper} {f : Nat} {ls : Array Bool} {a : Act} {w : World} (hr : Region.ready md ops ls = [i]) (hi : ops[i]? = some oi)
    (h : ∀ K : Act → World → Prop, (∀ b u, S u → wpAnyH P md ops Q S f (ls.setIfInBounds i true) b u → K b u) → if Region.wanted oi (yielded ops a.tmps) = true then Oper.wp P oi a w K Q else K (a.put oi.dst undef) w) : wpAnyH P md ops Q S (f + 1) ls a w := by
  refine ⟨fun e => absurd e (by rw [hr]; simp), fun j hj => ?_⟩
  rw [hr, List.mem_singleton] at hj
  subst hj
  exact wpOp_step hi (fun K hK => h K (fun b u q1 q2 => hK b u ⟨q1, q2⟩))
end

set_option maxHeartbeats 16000000 in
set_option maxRecDepth 100000 in
theorem storeRecords_c {A1 A2 : Option Addr} {c1 c2 : Nat} {ms : List MPu} {b : List UInt8} (all : Bool) {w : World} (h1 : UL w w.heap.size 0 0 A1 ms) (hk1 : ∀ m ∈ ms, m.p.k.length ≤ maxLen ∧ m.p.v.length ≤ maxLen) (hs1 : ms.length ≤ maxLen) (h2 : Lies w w.heap.size 0 A2 (bcells b)) (hc2 : b.length ≤ c2) (hs2 : b.length ≤ maxLen) :
    Calls Tryz.prog 3 #[.bool all, .slice A1 ms.length c1, .slice A2 b.length c2] w fun e w' => e = .returned (.bool true) ∧ Below w.heap.size w w' := by
  have H1 := Lib.hid h1
  have HK1 := Lib.hid hk1
  have HS1 := Lib.hid hs1
  have H2 := Lib.hid h2
  have HC2 := Lib.hid hc2
  obtain ⟨n1, en1⟩ : ∃ n, n = ms.length := ⟨_, rfl⟩
  obtain ⟨n2, en2⟩ : ∃ n, n = b.length := ⟨_, rfl⟩
  rw [← en1] at hs1 ⊢
  rw [← en2] at hs2 ⊢
  have N1 := Lib.hid en1
  have N2 := Lib.hid en2
  unfold maxLen at hs1 hs2
  obtain ⟨i0, hi, iz0, iz1, iz2⟩ := info_parts Tryz.infoPut
  clear h1 hk1 h2 hc2 en1 en2
  go_enter Tryz.func3, Tryz.ntmps3
  go_wp2_with fail
  refine (awake8 w).mono ?_
  rintro e w1 ⟨rfl, hb1⟩
  have B1 := Lib.hid hb1
  have z1 := hb1.size
  clear hb1
  have U1 := Lib.hid (H1.out.below (Nat.le_refl _) B1.out)
  go_wp2_with fail
  refine (few8_c U1.out z1 N1.out (by rw [N1.out]; exact HS1.out) HK1.out).mono ?_
  rintro e w2 ⟨⟨bb, rfl, hfew⟩, hb2⟩
  have B2 := Lib.hid (B1.out.trans (hb2.mono z1))
  have FM := Lib.hid hfew
  have z2 := hb2.size
  clear hb2 hfew
  cases bb with
  | false =>
    go_wp2
    go_ret
    exact ⟨rfl, B2.out⟩
  | true =>
  have FM8 := Lib.hid (FM.out.1 rfl)
  by_cases q3 : 500 < n2
  · have q3' : (500 : Int) < (n2 : Int) := by omega
    go_wp2
    go_ret
    exact ⟨rfl, B2.out⟩
  have q3' : ¬ (500 : Int) < (n2 : Int) := by omega
  have n28 := Lib.hid (show n2 ≤ 500 by omega)
  have n18 := Lib.hid (show n1 ≤ 8 by have := FM8.out.1; rw [pus_len, ← N1.out] at this; exact this)
  obtain ⟨ev, av, pv, hof⟩ : ∃ ev av pv, St.of b = (ev, av, pv) := ⟨_, _, _, rfl⟩
  have PVL := Lib.hid (show pv.length ≤ 4096 by have z := St.of_sml (b := b); rw [hof] at z; exact z.2)
  have HOF := Lib.hid hof
  have KL := Lib.hid (show ∀ m ∈ ms, m.p.k.length < 128 ∧ m.p.v.length ≤ 60000 from fun m hm => by have := FM8.out.2 m.p (List.mem_map.2 ⟨m, hm, rfl⟩); omega)
  clear hof hs1 hs2 q3
  go_wp2_with fail
  refine (stOf_c (c := c2) (H2.out.below (Nat.le_refl _) B2.out) B2.out.size N2.out (by have := N2.out; have := n28.out; omega)).mono ?_
  rintro e w3 ⟨m3, A3, c3, rfl, hu3, hp3, hb3⟩
  rw [HOF.out] at hp3 ⊢
  dsimp only at hp3 ⊢
  have U3 := Lib.hid hu3
  have P3 := Lib.hid hp3
  have B3 := Lib.hid (B2.out.trans (hb3.mono B2.out.size))
  have z3 := hb3.size
  clear hu3 hp3 hb3
  go_wp2_with fail
  refine (unrecord_c (H2.out.below (Nat.le_refl _) B3.out) B3.out.size N2.out HC2.out (by have := N2.out; have := n28.out; omega)).mono ?_
  rintro e w4 ⟨m4, A4, c4, rfl, hu4, hp4, hb4⟩
  rw [HOF.out] at hp4 ⊢
  dsimp only at hp4 ⊢
  have U4 := Lib.hid hu4
  have P4 := Lib.hid hp4
  have U34 := Lib.hid ((U3.out.below (Nat.zero_le _) hb4))
  have B4 := Lib.hid (B3.out.trans (hb4.mono B3.out.size))
  have z4 := hb4.size
  obtain ⟨br, hbr⟩ : ∃ br, St.bts all (pus ms) = br := ⟨_, rfl⟩
  have BRL := Lib.hid (show br.length ≤ 1900 by rw [← hbr]; exact FM8.out.len all)
  have OFB := Lib.hid (show St.of br = (0, all, (pus ms).map St.Pu.own) by rw [← hbr]; exact St.of_bts all (pus ms) (by have := FM8.out.1; omega) (fun p hp => by have := FM8.out.2 p hp; omega))
  have RC := Lib.hid (fun (u : World) (hb : Below w.heap.size w u) => record_c (all := all) (c := c1) (H1.out.below (Nat.le_refl _) hb) N1.out (by rw [← N1.out]; have := n18.out; omega) KL.out)
  have RR := Lib.hid (fun (u : World) (hb : Below w.heap.size w u) => recordR_c (all := all) (c := c1) (H1.out.below (Nat.le_refl _) hb) N1.out (by rw [← N1.out]; have := n18.out; omega) KL.out)
  rw [hbr] at RC RR
  clear hu4 hp4 hb4 hbr
  go_wp2_with fail
  refine (RC.out w4 B4.out).mono ?_
  rintro e w5 ⟨A5, n5, c5, rfl, ho5, hb5⟩
  obtain ⟨rfl, hc5⟩ := own_room ho5
  have L5 := Lib.hid (lies_own (B := 0) ho5)
  have B5 := Lib.hid (B4.out.trans (hb5.mono B4.out.size))
  have B45 := Lib.hid hb5
  have z5 := hb5.size
  clear ho5 hb5
  go_wp2_with fail
  refine (stOf_c (c := c5) L5.out (Nat.zero_le _) rfl (by have := BRL.out; omega)).mono ?_
  rintro e w6 ⟨m6, A6, c6, rfl, hu6, hp6, hb6⟩
  rw [OFB.out] at hp6 ⊢
  dsimp only at hp6 ⊢
  have U6 := Lib.hid hu6
  have P6 := Lib.hid hp6
  have B6 := Lib.hid (B5.out.trans (hb6.mono B5.out.size))
  have B46 := Lib.hid (B45.out.trans (hb6.mono z5))
  have z6 := B46.out.size
  clear hu6 hp6 hb6
  go_wp2_with fail
  go_loopw [51, 16] (fun i v wr => ∃ (k : Nat) (A7 : Option Addr) (n7 c7 : Nat) (m7 : List MPu), k ≤ n1 ∧ i = .int .i64 (k : Int) ∧ v = .slice A7 n7 c7 ∧ n7 = m7.length ∧ m7.length = k ∧ pus m7 = (pus (ms.take k)).map St.Pu.own ∧ wr.ownsRow w6.heap.size 33 3 (.slice A7 n7 c7) m7.length (pcells m7) ∧ (∀ m ∈ m7, m.fine w w.heap.size 0) ∧ Below w6.heap.size w6 wr) (fun i _ _ => n1 - (intOf i).toNat)
  case atStart => exact ⟨0, none, 0, 0, [], Nat.zero_le _, rfl, rfl, rfl, rfl, rfl, World.ownsRow_nil _ _ _ _, by simp, Below.refl _ _⟩
  case round =>
    obtain ⟨k, A7, n7, c7, m7, hk, rfl, rfl, hn7, hm7, hp7, ho7, hq7, hb7⟩ := hrel
    have hzr := hb7.size
    have N7 := Lib.hid hn7
    have O7 := Lib.hid ho7
    have P7 := Lib.hid hp7
    have Q7 := Lib.hid hq7
    have B67 := Lib.hid hb7
    have B7 := Lib.hid (B6.out.trans (hb7.mono B6.out.size))
    have K7 := Lib.hid hm7
    have nn := n18.out
    clear hn7 ho7 hp7 hq7 hb7 hm7
    by_cases hlt : k < n1
    · obtain ⟨ad, m, rfl, hm, hfine, d0, d1, d2⟩ := (H1.out.below (Nat.le_refl _) B7.out).at_ (k := k) (by rw [← N1.out]; exact hlt)
      have HM := Lib.hid hm
      have FW := Lib.hid (H1.out.2 m (List.mem_of_getElem? hm))
      obtain ⟨gb, hgb⟩ : ∃ gb, m.p.g = gb := ⟨_, rfl⟩
      rw [hgb] at d2
      have HGB := Lib.hid hgb
      clear hgb hm hfine
      cases gb with
      | true =>
        have OW := Lib.hid ((O7.out.alloc (.cells #[.string (str m.p.k), .slice none 0 0, .bool true] 33)).alloc (.cells #[.string (str m.p.k), .slice none 0 0, .bool true] 33))
        have M8 := Lib.hid (lies_newput (wr.alloc (.cells #[.string (str m.p.k), .slice none 0 0, .bool true] 33)) ⟨⟨m.p.k, [], true⟩, none, 0⟩ (g := wr.heap.size + 1) (by simp))
        go_wp2_with (at_builtin; refine wpList_app _ rfl _ _ 22 rfl w6.heap.size 33 i0 _ 3 48 Tryz.underlying22 hi iz0 iz1 iz2 rfl (by decide) _ m7.length (pcells m7) rfl OW.out 0 _ 1 1 (MPu.cells ⟨⟨m.p.k, [], true⟩, none, 0⟩) 33 rfl rfl M8.out (pcell_one _) (by unfold maxLen; have := K7.out; omega) (by have := K7.out; omega) (by simp; omega) ?_)
        intro v' w9 hown' hgrow _
        obtain ⟨A9, k9, rfl⟩ := own_slice hown'
        have T9 := Lib.hid (grown_tch (B := w6.heap.size) (ts := [33]) OW.out hgrow (Nat.le_refl _) (by simp; omega) (by simp))
        have O9 := Lib.hid hown'
        clear hown' hgrow
        go_wp2
        go_roundw
        case rel =>
          refine ⟨k + 1, A9, _, k9, m7 ++ [⟨⟨m.p.k, [], true⟩, none, 0⟩], by omega, by go_num, rfl, by simp, by rw [List.length_append, K7.out]; rfl, ?_, ?_, fun x hx => ?_, ?_⟩
          · rw [pus_snoc, P7.out, take_next HM.out, pus_snoc, List.map_append]
            show _ ++ [_] = _ ++ [_]
            rw [show St.Pu.own m.p = ⟨m.p.k, [], true⟩ by unfold St.Pu.own St.Pu.w; rw [HGB.out]; rfl]
          · rw [pcells_snoc, List.length_append]
            exact O9.out
          · rw [List.mem_append, List.mem_singleton] at hx
            rcases hx with hx | rfl
            · exact Q7.out x hx
            · exact ⟨Lies.nil, Nat.le_refl _⟩
          · exact B67.out.trans (((Below.refl w6.heap.size wr).alloc hzr _ |>.alloc (by simp; omega) _).trans T9.out.below)
        case measure => simp [intOf]; omega
      | false =>
        have OW := Lib.hid ((O7.out.alloc (.cells #[.string (str m.p.k), .slice m.A m.p.v.length m.c, .bool false] 33)).alloc (.cells #[.string (str m.p.k), .slice m.A m.p.v.length m.c, .bool false] 33))
        have M8 := Lib.hid (lies_newput (wr.alloc (.cells #[.string (str m.p.k), .slice m.A m.p.v.length m.c, .bool false] 33)) ⟨⟨m.p.k, m.p.v, false⟩, m.A, m.c⟩ (g := wr.heap.size + 1) (by simp))
        go_wp2_with (at_builtin; refine wpList_app _ rfl _ _ 22 rfl w6.heap.size 33 i0 _ 3 48 Tryz.underlying22 hi iz0 iz1 iz2 rfl (by decide) _ m7.length (pcells m7) rfl OW.out 0 _ 1 1 (MPu.cells ⟨⟨m.p.k, m.p.v, false⟩, m.A, m.c⟩) 33 rfl rfl M8.out (pcell_one _) (by unfold maxLen; have := K7.out; omega) (by have := K7.out; omega) (by simp; omega) ?_)
        intro v' w9 hown' hgrow _
        obtain ⟨A9, k9, rfl⟩ := own_slice hown'
        have T9 := Lib.hid (grown_tch (B := w6.heap.size) (ts := [33]) OW.out hgrow (Nat.le_refl _) (by simp; omega) (by simp))
        have O9 := Lib.hid hown'
        clear hown' hgrow
        go_wp2
        go_roundw
        case rel =>
          refine ⟨k + 1, A9, _, k9, m7 ++ [⟨⟨m.p.k, m.p.v, false⟩, m.A, m.c⟩], by omega, by go_num, rfl, by simp, by rw [List.length_append, K7.out]; rfl, ?_, ?_, fun x hx => ?_, ?_⟩
          · rw [pus_snoc, P7.out, take_next HM.out, pus_snoc, List.map_append]
            show _ ++ [_] = _ ++ [_]
            rw [show St.Pu.own m.p = ⟨m.p.k, m.p.v, false⟩ by unfold St.Pu.own St.Pu.w; rw [HGB.out]; rfl]
          · rw [pcells_snoc, List.length_append]
            exact O9.out
          · rw [List.mem_append, List.mem_singleton] at hx
            rcases hx with hx | rfl
            · exact Q7.out x hx
            · exact FW.out
          · exact B67.out.trans (((Below.refl w6.heap.size wr).alloc hzr _ |>.alloc (by simp; omega) _).trans T9.out.below)
        case measure => simp [intOf]; omega
    · obtain rfl : k = n1 := by omega
      have tk : ms.take k = ms := List.take_of_length_le (by rw [← N1.out]; exact Nat.le_refl _)
      have P7' := Lib.hid (show pus m7 = (pus ms).map St.Pu.own by have z := P7.out; rw [tk] at z; exact z)
      have U7 : Hid (UL wr wr.heap.size 0 0 A7 m7) := Lib.hid ⟨(lies_own (B := 0) O7.out).old, fun m hm => by
        have z := (Q7.out m hm).below (Nat.le_refl _) B7.out
        exact ⟨z.1.more B7.out.size, z.2⟩⟩
      have U6r := Lib.hid (U6.out.below (Nat.zero_le _) B67.out)
      have B4r := Lib.hid (B46.out.trans (B67.out.mono z6))
      have SP1 := Lib.hid (fun (u : World) (hb : Below w4.heap.size w4 u) => by
        have z := samePuts_c (w := u) (c := c3) (c2 := c4) (U34.out.below (Nat.zero_le _) hb) (U4.out.below (Nat.zero_le _) hb) rfl rfl (by have e := congrArg List.length P3.out; rw [pus_len] at e; have := PVL.out; omega)
        rw [decide_eq_true (P3.out.trans P4.out.symm)] at z
        exact z)
      have SP2 := Lib.hid (fun (u : World) (hb : Below wr.heap.size wr u) => by
        have z := samePuts_c (w := u) (c := c6) (c2 := c7) (U6r.out.below (Nat.zero_le _) hb) (U7.out.below (Nat.le_refl _) hb) rfl N7.out (by have e := congrArg List.length P6.out; rw [pus_len, List.length_map, pus_len, ← N1.out] at e; omega)
        rw [decide_eq_true (P6.out.trans P7'.out.symm)] at z
        exact z)
      have WS := Lib.hid (show Below w.heap.size w wr.drew from B7.out.drew)
      have W4S := Lib.hid (show Below w4.heap.size w4 wr.drew from B4r.out.drew)
      have WRS := Lib.hid (show Below wr.heap.size wr wr.drew from (Below.refl _ _).drew)
      have sb := str_beq br
      have lb : (br == br) = true := beq_self_eq_true _
      clear tk nn hk hlt q3'
      go_wp2_with fail
      refine wp_region_held_drew (S := fun _ => True) (by kernel_rfl) trivial (fun S0 => ?_)
      refine wpAnyH_take (i := 0) (v := ?_) rfl (by kernel_rfl) (by kernel_rfl) (by kernel_rfl) (fun _ _ _ h => h) (Or.inl ⟨by rfl, ?_⟩) S0 ?_
      rotate_left
      · intro u hu
        go_simp
        try rfl
      try simp only [Act.put, List.setIfInBounds_toArray, List.set_cons_zero, List.set_cons_succ, List.getElem_toArray, List.getElem_cons_zero]
      refine wpAnyH_take (i := 1) (v := ?_) rfl (by kernel_rfl) (by kernel_rfl) (by kernel_rfl) (fun _ _ _ h => h) (Or.inl ⟨by rfl, ?_⟩) S0 ?_
      rotate_left
      · intro u hu
        go_simp
        try rfl
      try simp only [Act.put, List.setIfInBounds_toArray, List.set_cons_zero, List.set_cons_succ, List.getElem_toArray, List.getElem_cons_zero, List.getElem_cons_succ]
      refine wpAnyH_take (i := 4) (v := ?_) rfl (by kernel_rfl) (by kernel_rfl) (by kernel_rfl) (fun _ _ _ h => h) (Or.inl ⟨by rfl, ?_⟩) S0 ?_
      rotate_left
      · intro u hu
        go_simp
        try rfl
      try simp only [Act.put, List.setIfInBounds_toArray, List.set_cons_zero, List.set_cons_succ, List.getElem_toArray, List.getElem_cons_zero, List.getElem_cons_succ]
      refine wpAnyH_take (i := 5) (v := ?_) rfl (by kernel_rfl) (by kernel_rfl) (by kernel_rfl) (fun _ _ _ h => h) (Or.inl ⟨by rfl, ?_⟩) S0 ?_
      rotate_left
      · intro u hu
        go_simp
        try rfl
      try simp only [Act.put, List.setIfInBounds_toArray, List.set_cons_zero, List.set_cons_succ, List.getElem_toArray, List.getElem_cons_zero, List.getElem_cons_succ]
      refine held_any _ _ _ _ ?_
      clear S0
      refine any_one (i := 2) (by kernel_rfl) rfl (fun K hK => ?_)
      go_simp
      refine (RC.out _ WS.out).mono ?_
      rintro e wa ⟨Aa, na, ca, rfl, hoa, hba⟩
      obtain ⟨rfl, _⟩ := own_room hoa
      have S0 := conv_at (c := ca) (lies_own (B := 0) hoa) rfl
      have LA := Lib.hid (lies_own (B := 0) hoa)
      have Ba := Lib.hid (WS.out.trans (hba.mono WS.out.size))
      have B4a := Lib.hid (W4S.out.trans (hba.mono W4S.out.size))
      have Bra := Lib.hid (WRS.out.trans (hba.mono WRS.out.size))
      clear hoa hba
      refine hK _ _ ?_
      clear hK K
      try simp only [Act.put, List.setIfInBounds_toArray, List.set_cons_zero, List.set_cons_succ, List.getElem_toArray, List.getElem_cons_zero, List.getElem_cons_succ]
      refine wpAny_of_held (S := fun u => (convert 23 9 (.slice Aa br.length ca)).run Tryz.prog u = .ok (.string (str br)) u) _ _ _ _ ?_
      refine wpAnyH_take (i := 3) (v := ?_) rfl (by kernel_rfl) (by kernel_rfl) (by kernel_rfl) (fun _ _ _ h => h) (Or.inl ⟨by rfl, ?_⟩) S0 ?_
      rotate_left
      · intro u hu
        go_simp
        try rfl
      try simp only [Act.put, List.setIfInBounds_toArray, List.set_cons_zero, List.set_cons_succ, List.getElem_toArray, List.getElem_cons_zero, List.getElem_cons_succ]
      refine anyH_one (i := 6) (by kernel_rfl) rfl (fun K hK => ?_)
      go_simp
      refine (RR.out _ Ba.out).mono ?_
      rintro e wb ⟨Ab, nb, cb, rfl, hob, hbb⟩
      obtain ⟨rfl, _⟩ := own_room hob
      have cvb := conv_at (c := cb) (lies_own (B := 0) hob) rfl
      have LB := Lib.hid (LA.out.below (Nat.zero_le _) hbb)
      have S0 := conv_at (c := ca) LB.out rfl
      have Bb := Lib.hid (Ba.out.trans (hbb.mono Ba.out.size))
      have B4b := Lib.hid (B4a.out.trans (hbb.mono B4a.out.size))
      have Brb := Lib.hid (Bra.out.trans (hbb.mono Bra.out.size))
      clear hob hbb
      refine hK _ _ S0 ?_
      clear hK K
      try simp only [Act.put, List.setIfInBounds_toArray, List.set_cons_zero, List.set_cons_succ, List.getElem_toArray, List.getElem_cons_zero, List.getElem_cons_succ]
      refine anyH_one (i := 7) (by kernel_rfl) rfl (fun K hK => ?_)
      go_simp
      refine hK _ _ S0 ?_
      clear hK K cvb
      try simp only [Act.put, List.setIfInBounds_toArray, List.set_cons_zero, List.set_cons_succ, List.getElem_toArray, List.getElem_cons_zero, List.getElem_cons_succ]
      refine wpAnyH_take (i := 8) (v := ?_) rfl (by kernel_rfl) (by kernel_rfl) (by kernel_rfl) (fun _ _ _ h => h) (Or.inl ⟨by rfl, ?_⟩) S0 ?_
      rotate_left
      · intro u hu
        go_simp
        try rfl
      try simp only [Act.put, List.setIfInBounds_toArray, List.set_cons_zero, List.set_cons_succ, List.getElem_toArray, List.getElem_cons_zero, List.getElem_cons_succ]
      refine wpAnyH_take (i := 9) (v := ?_) rfl (by kernel_rfl) (by kernel_rfl) (by kernel_rfl) (fun _ _ _ h => h) (Or.inl ⟨by rfl, ?_⟩) S0 ?_
      rotate_left
      · intro u hu
        go_simp
        try rfl
      try simp only [Act.put, List.setIfInBounds_toArray, List.set_cons_zero, List.set_cons_succ, List.getElem_toArray, List.getElem_cons_zero, List.getElem_cons_succ]
      refine wpAnyH_take (i := 10) (v := ?_) rfl (by kernel_rfl) (by kernel_rfl) (by kernel_rfl) (fun _ _ _ h => h) (Or.inl ⟨by rfl, ?_⟩) S0 ?_
      rotate_left
      · intro u hu
        go_simp
        try rfl
      try simp only [Act.put, List.setIfInBounds_toArray, List.set_cons_zero, List.set_cons_succ, List.getElem_toArray, List.getElem_cons_zero, List.getElem_cons_succ]
      refine wpAnyH_take (i := 11) (v := ?_) rfl (by kernel_rfl) (by kernel_rfl) (by kernel_rfl) (fun _ _ _ h => h) (Or.inl ⟨by rfl, ?_⟩) S0 ?_
      rotate_left
      · intro u hu
        go_simp
        try rfl
      try simp only [Act.put, List.setIfInBounds_toArray, List.set_cons_zero, List.set_cons_succ, List.getElem_toArray, List.getElem_cons_zero, List.getElem_cons_succ]
      refine wpAnyH_take (i := 12) (v := ?_) rfl (by kernel_rfl) (by kernel_rfl) (by kernel_rfl) (fun _ _ _ h => h) (Or.inl ⟨by rfl, ?_⟩) S0 ?_
      rotate_left
      · intro u hu
        go_simp
        try rfl
      try simp only [Act.put, List.setIfInBounds_toArray, List.set_cons_zero, List.set_cons_succ, List.getElem_toArray, List.getElem_cons_zero, List.getElem_cons_succ]
      refine wpAnyH_take (i := 13) (v := ?_) rfl (by kernel_rfl) (by kernel_rfl) (by kernel_rfl) (fun _ _ _ h => h) (Or.inl ⟨by rfl, ?_⟩) S0 ?_
      rotate_left
      · intro u hu
        go_simp
        try rfl
      try simp only [Act.put, List.setIfInBounds_toArray, List.set_cons_zero, List.set_cons_succ, List.getElem_toArray, List.getElem_cons_zero, List.getElem_cons_succ]
      refine wpAnyH_take (i := 14) (v := ?_) rfl (by kernel_rfl) (by kernel_rfl) (by kernel_rfl) (fun _ _ _ h => h) (Or.inl ⟨by rfl, ?_⟩) S0 ?_
      rotate_left
      · intro u hu
        go_simp
        try rfl
      try simp only [Act.put, List.setIfInBounds_toArray, List.set_cons_zero, List.set_cons_succ, List.getElem_toArray, List.getElem_cons_zero, List.getElem_cons_succ]
      refine wpAnyH_take (i := 15) (v := ?_) rfl (by kernel_rfl) (by kernel_rfl) (by kernel_rfl) (fun _ _ _ h => h) (Or.inl ⟨by rfl, ?_⟩) S0 ?_
      rotate_left
      · intro u hu
        go_simp
        try rfl
      try simp only [Act.put, List.setIfInBounds_toArray, List.set_cons_zero, List.set_cons_succ, List.getElem_toArray, List.getElem_cons_zero, List.getElem_cons_succ]
      refine wpAnyH_take (i := 16) (v := ?_) rfl (by kernel_rfl) (by kernel_rfl) (by kernel_rfl) (fun _ _ _ h => h) (Or.inl ⟨by rfl, ?_⟩) S0 ?_
      rotate_left
      · intro u hu
        go_simp
        try rfl
      try simp only [Act.put, List.setIfInBounds_toArray, List.set_cons_zero, List.set_cons_succ, List.getElem_toArray, List.getElem_cons_zero, List.getElem_cons_succ]
      refine anyH_one (i := 17) (by kernel_rfl) rfl (fun K hK => ?_)
      go_simp
      refine (SP1.out _ B4b.out).mono ?_
      rintro e wc ⟨rfl, j1, rfl⟩
      have S0 := conv_at (c := ca) (LB.out.drewN j1) rfl
      refine hK _ _ S0 ?_
      clear hK K
      try simp only [Act.put, List.setIfInBounds_toArray, List.set_cons_zero, List.set_cons_succ, List.getElem_toArray, List.getElem_cons_zero, List.getElem_cons_succ]
      refine wpAnyH_take (i := 18) (v := ?_) rfl (by kernel_rfl) (by kernel_rfl) (by kernel_rfl) (fun _ _ _ h => h) (Or.inl ⟨by rfl, ?_⟩) S0 ?_
      rotate_left
      · intro u hu
        go_simp
        try rfl
      try simp only [Act.put, List.setIfInBounds_toArray, List.set_cons_zero, List.set_cons_succ, List.getElem_toArray, List.getElem_cons_zero, List.getElem_cons_succ]
      refine wpAnyH_take (i := 19) (v := ?_) rfl (by kernel_rfl) (by kernel_rfl) (by kernel_rfl) (fun _ _ _ h => h) (Or.inl ⟨by rfl, ?_⟩) S0 ?_
      rotate_left
      · intro u hu
        go_simp
        try rfl
      try simp only [Act.put, List.setIfInBounds_toArray, List.set_cons_zero, List.set_cons_succ, List.getElem_toArray, List.getElem_cons_zero, List.getElem_cons_succ]
      refine wpAnyH_take (i := 20) (v := ?_) rfl (by kernel_rfl) (by kernel_rfl) (by kernel_rfl) (fun _ _ _ h => h) (Or.inl ⟨by rfl, ?_⟩) S0 ?_
      rotate_left
      · intro u hu
        go_simp
        try rfl
      try simp only [Act.put, List.setIfInBounds_toArray, List.set_cons_zero, List.set_cons_succ, List.getElem_toArray, List.getElem_cons_zero, List.getElem_cons_succ]
      refine wpAnyH_take (i := 21) (v := ?_) rfl (by kernel_rfl) (by kernel_rfl) (by kernel_rfl) (fun _ _ _ h => h) (Or.inl ⟨by rfl, ?_⟩) S0 ?_
      rotate_left
      · intro u hu
        go_simp
        try rfl
      try simp only [Act.put, List.setIfInBounds_toArray, List.set_cons_zero, List.set_cons_succ, List.getElem_toArray, List.getElem_cons_zero, List.getElem_cons_succ]
      refine wpAnyH_take (i := 22) (v := ?_) rfl (by kernel_rfl) (by kernel_rfl) (by kernel_rfl) (fun _ _ _ h => h) (Or.inl ⟨by rfl, ?_⟩) S0 ?_
      rotate_left
      · intro u hu
        go_simp
        try rfl
      try simp only [Act.put, List.setIfInBounds_toArray, List.set_cons_zero, List.set_cons_succ, List.getElem_toArray, List.getElem_cons_zero, List.getElem_cons_succ]
      refine wpAnyH_take (i := 23) (v := ?_) rfl (by kernel_rfl) (by kernel_rfl) (by kernel_rfl) (fun _ _ _ h => h) (Or.inl ⟨by rfl, ?_⟩) S0 ?_
      rotate_left
      · intro u hu
        go_simp
        try rfl
      try simp only [Act.put, List.setIfInBounds_toArray, List.set_cons_zero, List.set_cons_succ, List.getElem_toArray, List.getElem_cons_zero, List.getElem_cons_succ]
      refine wpAnyH_take (i := 24) (v := ?_) rfl (by kernel_rfl) (by kernel_rfl) (by kernel_rfl) (fun _ _ _ h => h) (Or.inl ⟨by rfl, ?_⟩) S0 ?_
      rotate_left
      · intro u hu
        go_simp
        try rfl
      try simp only [Act.put, List.setIfInBounds_toArray, List.set_cons_zero, List.set_cons_succ, List.getElem_toArray, List.getElem_cons_zero, List.getElem_cons_succ]
      refine wpAnyH_take (i := 25) (v := ?_) rfl (by kernel_rfl) (by kernel_rfl) (by kernel_rfl) (fun _ _ _ h => h) (Or.inl ⟨by rfl, ?_⟩) S0 ?_
      rotate_left
      · intro u hu
        go_simp
        try rfl
      try simp only [Act.put, List.setIfInBounds_toArray, List.set_cons_zero, List.set_cons_succ, List.getElem_toArray, List.getElem_cons_zero, List.getElem_cons_succ]
      refine wpAnyH_take (i := 26) (v := ?_) rfl (by kernel_rfl) (by kernel_rfl) (by kernel_rfl) (fun _ _ _ h => h) (Or.inl ⟨by rfl, ?_⟩) S0 ?_
      rotate_left
      · intro u hu
        go_simp
        try rfl
      try simp only [Act.put, List.setIfInBounds_toArray, List.set_cons_zero, List.set_cons_succ, List.getElem_toArray, List.getElem_cons_zero, List.getElem_cons_succ]
      refine wpAnyH_take (i := 27) (v := ?_) rfl (by kernel_rfl) (by kernel_rfl) (by kernel_rfl) (fun _ _ _ h => h) (Or.inl ⟨by rfl, ?_⟩) S0 ?_
      rotate_left
      · intro u hu
        go_simp
        try rfl
      try simp only [Act.put, List.setIfInBounds_toArray, List.set_cons_zero, List.set_cons_succ, List.getElem_toArray, List.getElem_cons_zero, List.getElem_cons_succ]
      refine wpAnyH_take (i := 28) (v := ?_) rfl (by kernel_rfl) (by kernel_rfl) (by kernel_rfl) (fun _ _ _ h => h) (Or.inl ⟨by rfl, ?_⟩) S0 ?_
      rotate_left
      · intro u hu
        go_simp
        try rfl
      try simp only [Act.put, List.setIfInBounds_toArray, List.set_cons_zero, List.set_cons_succ, List.getElem_toArray, List.getElem_cons_zero, List.getElem_cons_succ]
      refine wpAnyH_take (i := 29) (v := ?_) rfl (by kernel_rfl) (by kernel_rfl) (by kernel_rfl) (fun _ _ _ h => h) (Or.inl ⟨by rfl, ?_⟩) S0 ?_
      rotate_left
      · intro u hu
        go_simp
        try rfl
      try simp only [Act.put, List.setIfInBounds_toArray, List.set_cons_zero, List.set_cons_succ, List.getElem_toArray, List.getElem_cons_zero, List.getElem_cons_succ]
      refine wpAnyH_take (i := 30) (v := ?_) rfl (by kernel_rfl) (by kernel_rfl) (by kernel_rfl) (fun _ _ _ h => h) (Or.inl ⟨by rfl, ?_⟩) S0 ?_
      rotate_left
      · intro u hu
        go_simp
        try rfl
      try simp only [Act.put, List.setIfInBounds_toArray, List.set_cons_zero, List.set_cons_succ, List.getElem_toArray, List.getElem_cons_zero, List.getElem_cons_succ]
      refine wpAnyH_take (i := 31) (v := ?_) rfl (by kernel_rfl) (by kernel_rfl) (by kernel_rfl) (fun _ _ _ h => h) (Or.inl ⟨by rfl, ?_⟩) S0 ?_
      rotate_left
      · intro u hu
        go_simp
        try rfl
      try simp only [Act.put, List.setIfInBounds_toArray, List.set_cons_zero, List.set_cons_succ, List.getElem_toArray, List.getElem_cons_zero, List.getElem_cons_succ]
      refine anyH_one (i := 32) (by kernel_rfl) rfl (fun K hK => ?_)
      go_simp
      refine (SP2.out _ (below_drewN Brb.out j1)).mono ?_
      rintro e wd ⟨rfl, j2, rfl⟩
      have S0 := conv_at (c := ca) ((LB.out.drewN j1).drewN j2) rfl
      refine hK _ _ S0 ?_
      clear hK K
      try simp only [Act.put, List.setIfInBounds_toArray, List.set_cons_zero, List.set_cons_succ, List.getElem_toArray, List.getElem_cons_zero, List.getElem_cons_succ]
      refine wpAnyH_take (i := 33) (v := ?_) rfl (by kernel_rfl) (by kernel_rfl) (by kernel_rfl) (fun _ _ _ h => h) (Or.inl ⟨by rfl, ?_⟩) S0 ?_
      rotate_left
      · intro u hu
        go_simp
        try rfl
      try simp only [Act.put, List.setIfInBounds_toArray, List.set_cons_zero, List.set_cons_succ, List.getElem_toArray, List.getElem_cons_zero, List.getElem_cons_succ]
      refine wpAnyH_take (i := 34) (v := ?_) rfl (by kernel_rfl) (by kernel_rfl) (by kernel_rfl) (fun _ _ _ h => h) (Or.inl ⟨by rfl, ?_⟩) S0 ?_
      rotate_left
      · intro u hu
        go_simp
        try rfl
      try simp only [Act.put, List.setIfInBounds_toArray, List.set_cons_zero, List.set_cons_succ, List.getElem_toArray, List.getElem_cons_zero, List.getElem_cons_succ]
      refine wpAnyH_take (i := 35) (v := ?_) rfl (by kernel_rfl) (by kernel_rfl) (by kernel_rfl) (fun _ _ _ h => h) (Or.inl ⟨by rfl, ?_⟩) S0 ?_
      rotate_left
      · intro u hu
        go_simp
        try rfl
      try simp only [Act.put, List.setIfInBounds_toArray, List.set_cons_zero, List.set_cons_succ, List.getElem_toArray, List.getElem_cons_zero, List.getElem_cons_succ]
      refine wpAnyH_take (i := 36) (v := ?_) rfl (by kernel_rfl) (by kernel_rfl) (by kernel_rfl) (fun _ _ _ h => h) (Or.inl ⟨by rfl, ?_⟩) S0 ?_
      rotate_left
      · intro u hu
        go_simp
        try rfl
      try simp only [Act.put, List.setIfInBounds_toArray, List.set_cons_zero, List.set_cons_succ, List.getElem_toArray, List.getElem_cons_zero, List.getElem_cons_succ]
      refine wpAnyH_take (i := 37) (v := ?_) rfl (by kernel_rfl) (by kernel_rfl) (by kernel_rfl) (fun _ _ _ h => h) (Or.inl ⟨by rfl, ?_⟩) S0 ?_
      rotate_left
      · intro u hu
        go_simp
        try rfl
      try simp only [Act.put, List.setIfInBounds_toArray, List.set_cons_zero, List.set_cons_succ, List.getElem_toArray, List.getElem_cons_zero, List.getElem_cons_succ]
      refine wpAnyH_take (i := 38) (v := ?_) rfl (by kernel_rfl) (by kernel_rfl) (by kernel_rfl) (fun _ _ _ h => h) (Or.inl ⟨by rfl, ?_⟩) S0 ?_
      rotate_left
      · intro u hu
        go_simp
        try rfl
      try simp only [Act.put, List.setIfInBounds_toArray, List.set_cons_zero, List.set_cons_succ, List.getElem_toArray, List.getElem_cons_zero, List.getElem_cons_succ]
      refine wpAnyH_done (by kernel_rfl) ?_ _
      go_wp2
      go_ret
      exact ⟨rfl, below_drewN (below_drewN Bb.out j1) j2⟩
end Go.Proofs.YtpnfpeeijghamaaGreat
