/- Contracts of the document's own Disk: Clone. -/
import Derived.Test.YtogobeinckgjmaaDj
namespace Go.Proofs.Ytogobeinckgjmaa
open Go.RowKit

theorem set_mid {α : Type} {l r : List α} {j : Nat} {x : α} (hx : l[j]? = some x) (hr : j < r.length) : (l.take j ++ r.drop j).set j x = l.take (j + 1) ++ r.drop (j + 1) := by
  have hj : j < l.length := (List.getElem?_eq_some_iff.1 hx).1
  have hl : (l.take j).length = j := by rw [List.length_take]; omega
  rw [List.set_append_right _ _ (by omega), hl, Nat.sub_self, List.drop_eq_getElem_cons hr, List.set_cons_zero, List.take_add_one, hx]
  simp

set_option maxHeartbeats 4000000 in
theorem refClone_c {w : World} {F : Nat → Prop} {p : Nat} {d : Dk.D} (h : RD w F p d) (hd : d.ok) :
    Calls Try.prog 26 #[.pointer (some ⟨p, 0, none⟩)] w (NewOk (Dk.clone d) w) := by
  obtain ⟨tu, hu, iu0, iu1, iu2⟩ := info_parts Try.infoU8
  have hf := hd.few
  obtain ⟨AS, AC, AB, cS, cC, cB, ms, cs, r, e1, e2⟩ := h
  have c0 := r.fields.1
  have hml : ms.length = d.s.length := by rw [← e1, txs_len]
  have NW := Lib.hid (show Dk.new (ms.length : Int) = Dk.fresh ms.length from new_len (by omega))
  have hm : (ms.length : Int) ≤ 9223372036854775807 := by omega
  have R := Lib.hid r
  have E1 := Lib.hid e1
  have HMS := Lib.hid hml
  have plt := lt_of_block r.cell
  have HF := Lib.hid (show ms.length ≤ 4096 by omega)
  clear r e1 e2 hd hf hml
  go_enter Try.func26, Try.ntmps26
  go_wp2_with fail
  refine (refNewDisk_c _ _ hm).mono ?_
  rw [NW.out]
  rintro e w1 ⟨q, rfl, hq, hb1⟩
  obtain ⟨AS1, AC1, AB1, cS1, cC1, cB1, ms1, cs1, r1, e3, e4⟩ := hq
  have c1 := (hb1.cell (p := ⟨p, 0, none⟩) plt).trans c0
  have HB1 := Lib.hid hb1
  have R1 := Lib.hid r1
  have E3 := Lib.hid e3
  have E4 := Lib.hid e4
  have M1 : Hid (ms1.length = ms.length) := Lib.hid (by rw [← txs_len ms1, e3]; simp [Dk.fresh])
  clear hb1 r1 e3 e4 c0 hm
  go_wp2_with fail
  go_loopw [16] (fun i wr => ∃ (j : Nat) (mj : List MTx), j ≤ ms.length ∧ i = .int .i64 j ∧ mj.length = ms.length ∧ RS5 wr (fun k => w.heap.size ≤ k) q AS1 AC1 AB1 cS1 cC1 cB1 mj cs1 (Dk.fresh ms.length).bad (Dk.fresh ms.length).left (Dk.fresh ms.length).dead ∧ txs mj = d.s.take j ++ (Dk.fresh ms.length).s.drop j ∧ Below w.heap.size w wr) (fun i _ => ms.length - (intOf i).toNat)
  case atStart => exact ⟨0, ms1, Nat.zero_le _, rfl, M1.out, R1.out, E3.out, HB1.out⟩
  case round =>
    obtain ⟨j, mj, hj, rfl, hml, hr, htx, hbw⟩ := hrel
    have RJ := Lib.hid hr
    have HT := Lib.hid htx
    have HB := Lib.hid hbw
    have HML := Lib.hid hml
    have hz := hbw.size
    clear hr htx hbw hml c1
    by_cases hlt : j < ms.length
    · have hlj : j < mj.length := by rw [HML.out]; exact hlt
      have RO := R.out.below HB.out
      obtain ⟨gd, rfl, _, _, hcd, _⟩ := own_at RO.s (by omega)
      obtain ⟨mo, hmo⟩ : ∃ mo, ms[j]? = some mo := ⟨_, List.getElem?_eq_getElem hlt⟩
      have s0 := RO.fields.1
      have s1 := hcd j mo.cell (by rw [tcells, List.getElem?_map, hmo]; rfl)
      obtain ⟨g, rfl, _, hglt, hcg, hfg⟩ := own_at RJ.out.s (by omega)
      obtain ⟨mn, hmn⟩ : ∃ mn, mj[j]? = some mn := ⟨_, List.getElem?_eq_getElem hlj⟩
      have s2 := RJ.out.fields.1
      have g0 := hcg j mn.cell (by rw [tcells, List.getElem?_map, hmn]; rfl)
      have gf := hfg j
      unfold MTx.cell at s1 g0
      have HMO := Lib.hid hmo
      have HH := Lib.hid (RO.held mo (List.mem_of_getElem? hmo))
      have L64 := Lib.hid HH.out.2.2
      have plr : p < wr.heap.size := by omega
      have glr : gd < wr.heap.size := World.block_lt_of_cell? _ _ s1
      have qlr : q < wr.heap.size := lt_of_block RJ.out.cell
      have j0 : (0 : Int) ≤ (j : Int) := by omega
      have j1 : (j : Int) < (ms.length : Int) := by omega
      have j2 : (j : Int) < (mj.length : Int) := by omega
      clear RO hcd hmo hcg hfg hmn
      go_wp2_with fail
      -- REGION
      refine Any.begin (S := fun u => u.cell? ⟨p, 0, none⟩ = some (.slice (some ⟨gd, 0, none⟩) ms.length cS) ∧ u.cell? ⟨gd, j, none⟩ = some (.slice mo.A mo.b.length mo.c) ∧ u.cell? ⟨q, 0, none⟩ = some (.slice (some ⟨g, 0, none⟩) mj.length cS1)) (st := 14) (by kernel_rfl) ?_
      have S0 : wr.drew.cell? ⟨p, 0, none⟩ = some (.slice (some ⟨gd, 0, none⟩) ms.length cS) ∧ wr.drew.cell? ⟨gd, j, none⟩ = some (.slice mo.A mo.b.length mo.c) ∧ wr.drew.cell? ⟨q, 0, none⟩ = some (.slice (some ⟨g, 0, none⟩) mj.length cS1) := ⟨s0, s1, s2⟩
      refine Any.take (st := 14) (i := 0) (v := ?_) rfl (by kernel_rfl) (by kernel_rfl) (by kernel_rfl) rfl (by kernel_rfl) (fun _ _ _ h => h) (Or.inl ⟨by rfl, ?_⟩) (by assumption) ?_
      rotate_left
      · intro u hu
        obtain ⟨u0, u1, u2⟩ := hu
        go_simp
        try rfl
      try simp only [Act.put, List.setIfInBounds_toArray, List.set_cons_zero, List.set_cons_succ, List.getElem_toArray, List.getElem_cons_zero]
      refine Any.take (st := 14) (i := 1) (v := ?_) rfl (by kernel_rfl) (by kernel_rfl) (by kernel_rfl) rfl (by kernel_rfl) (fun _ _ _ h => h) (Or.inl ⟨by rfl, ?_⟩) (by assumption) ?_
      rotate_left
      · intro u hu
        obtain ⟨u0, u1, u2⟩ := hu
        go_simp
        try rfl
      try simp only [Act.put, List.setIfInBounds_toArray, List.set_cons_zero, List.set_cons_succ, List.getElem_toArray, List.getElem_cons_zero, List.getElem_cons_succ]
      refine Any.take (st := 14) (i := 2) (v := ?_) rfl (by kernel_rfl) (by kernel_rfl) (by kernel_rfl) rfl (by kernel_rfl) (fun _ _ _ h => h) (Or.inl ⟨by rfl, ?_⟩) (by assumption) ?_
      rotate_left
      · intro u hu
        obtain ⟨u0, u1, u2⟩ := hu
        go_simp
        try rfl
      try simp only [Act.put, List.setIfInBounds_toArray, List.set_cons_zero, List.set_cons_succ, List.getElem_toArray, List.getElem_cons_zero, List.getElem_cons_succ]
      refine Any.take (st := 14) (i := 3) (v := ?_) rfl (by kernel_rfl) (by kernel_rfl) (by kernel_rfl) rfl (by kernel_rfl) (fun _ _ _ h => h) (Or.inl ⟨by rfl, ?_⟩) (by assumption) ?_
      rotate_left
      · intro u hu
        obtain ⟨u0, u1, u2⟩ := hu
        go_simp
        try rfl
      try simp only [Act.put, List.setIfInBounds_toArray, List.set_cons_zero, List.set_cons_succ, List.getElem_toArray, List.getElem_cons_zero, List.getElem_cons_succ]
      refine Any.take (st := 14) (i := 4) (v := ?_) rfl (by kernel_rfl) (by kernel_rfl) (by kernel_rfl) rfl (by kernel_rfl) (fun _ _ _ h => h) (Or.inl ⟨by rfl, ?_⟩) (by assumption) ?_
      rotate_left
      · intro u hu
        obtain ⟨u0, u1, u2⟩ := hu
        go_simp
        try rfl
      try simp only [Act.put, List.setIfInBounds_toArray, List.set_cons_zero, List.set_cons_succ, List.getElem_toArray, List.getElem_cons_zero, List.getElem_cons_succ]
      refine Any.take (st := 14) (i := 5) (v := ?_) rfl (by kernel_rfl) (by kernel_rfl) (by kernel_rfl) rfl (by kernel_rfl) (fun _ _ _ h => h) (Or.inl ⟨by rfl, ?_⟩) (by assumption) ?_
      rotate_left
      · intro u hu
        obtain ⟨u0, u1, u2⟩ := hu
        go_simp
        try rfl
      try simp only [Act.put, List.setIfInBounds_toArray, List.set_cons_zero, List.set_cons_succ, List.getElem_toArray, List.getElem_cons_zero, List.getElem_cons_succ]
      refine Any.take (st := 14) (i := 6) (v := ?_) rfl (by kernel_rfl) (by kernel_rfl) (by kernel_rfl) rfl (by kernel_rfl) (fun _ _ _ h => h) (Or.inl ⟨by rfl, ?_⟩) (by assumption) ?_
      rotate_left
      · intro u hu
        obtain ⟨u0, u1, u2⟩ := hu
        go_simp
        try rfl
      try simp only [Act.put, List.setIfInBounds_toArray, List.set_cons_zero, List.set_cons_succ, List.getElem_toArray, List.getElem_cons_zero, List.getElem_cons_succ]
      refine Any.take (st := 14) (i := 7) (v := ?_) rfl (by kernel_rfl) (by kernel_rfl) (by kernel_rfl) rfl (by kernel_rfl) (fun _ _ _ h => h) (Or.inl ⟨by rfl, ?_⟩) (by assumption) ?_
      rotate_left
      · intro u hu
        obtain ⟨u0, u1, u2⟩ := hu
        go_simp
        try rfl
      try simp only [Act.put, List.setIfInBounds_toArray, List.set_cons_zero, List.set_cons_succ, List.getElem_toArray, List.getElem_cons_zero, List.getElem_cons_succ]
      refine Any.take (st := 14) (i := 8) (v := ?_) rfl (by kernel_rfl) (by kernel_rfl) (by kernel_rfl) rfl (by kernel_rfl) (fun _ _ _ h => h) (Or.inl ⟨by rfl, ?_⟩) (by assumption) ?_
      rotate_left
      · intro u hu
        obtain ⟨u0, u1, u2⟩ := hu
        go_simp
        try rfl
      try simp only [Act.put, List.setIfInBounds_toArray, List.set_cons_zero, List.set_cons_succ, List.getElem_toArray, List.getElem_cons_zero, List.getElem_cons_succ]
      refine Any.take (st := 14) (i := 9) (v := ?_) rfl (by kernel_rfl) (by kernel_rfl) (by kernel_rfl) rfl (by kernel_rfl) (fun _ _ _ h => h) (Or.inl ⟨by rfl, ?_⟩) (by assumption) ?_
      rotate_left
      · intro u hu
        obtain ⟨u0, u1, u2⟩ := hu
        go_simp
        try rfl
      try simp only [Act.put, List.setIfInBounds_toArray, List.set_cons_zero, List.set_cons_succ, List.getElem_toArray, List.getElem_cons_zero, List.getElem_cons_succ]
      refine Any.take (st := 14) (i := 10) (v := ?_) rfl (by kernel_rfl) (by kernel_rfl) (by kernel_rfl) rfl (by kernel_rfl) (fun _ _ _ h => h) (Or.inl ⟨by rfl, ?_⟩) (by assumption) ?_
      rotate_left
      · intro u hu
        obtain ⟨u0, u1, u2⟩ := hu
        go_simp
        try rfl
      try simp only [Act.put, List.setIfInBounds_toArray, List.set_cons_zero, List.set_cons_succ, List.getElem_toArray, List.getElem_cons_zero, List.getElem_cons_succ]
      refine Any.take (st := 14) (i := 11) (v := ?_) rfl (by kernel_rfl) (by kernel_rfl) (by kernel_rfl) rfl (by kernel_rfl) (fun _ _ _ h => h) (Or.inl ⟨by rfl, ?_⟩) (by assumption) ?_
      rotate_left
      · intro u hu
        obtain ⟨u0, u1, u2⟩ := hu
        go_simp
        try rfl
      try simp only [Act.put, List.setIfInBounds_toArray, List.set_cons_zero, List.set_cons_succ, List.getElem_toArray, List.getElem_cons_zero, List.getElem_cons_succ]
      refine Any.one (i := 12) (by kernel_rfl) rfl (fun K hK => ?_)
      refine step_own rfl _ _ 29 rfl w.heap.size 5 tu (.int .u8 0) 1 1 Try.underlying29 hu iu0 iu1 iu2 rfl (by decide) _ 0 [] rfl (World.ownsRow_nil _ _ _ _) 0 mo.A mo.b.length mo.c (bcells mo.b) 5 rfl (by rw [bcells_len]; omega) (by exact HH.out.1.1) (bcells_one _) (by unfold maxLen; have := L64.out; omega) (by have := L64.out; omega) (by exact hz) ?_
      intro v2 w2 hown2 hgrow2 _
      rw [Nat.zero_add, List.nil_append] at hown2
      obtain ⟨A2, k2, rfl⟩ := own_slice hown2
      have b2 : Below wr.heap.size wr w2 := (Below.refl wr.heap.size wr).drew.grown hgrow2 (Nat.le_refl _) (fun k e => by cases e)
      have t0 := (b2.cell (p := ⟨p, 0, none⟩) plr).trans s0
      have t1 := (b2.cell (p := ⟨gd, j, none⟩) glr).trans s1
      have t2 := (b2.cell (p := ⟨q, 0, none⟩) qlr).trans s2
      have t3 := (b2.cell (p := ⟨g, j, none⟩) hglt).trans g0
      have t4 := (b2.frozen (p := ⟨g, j, none⟩) hglt).trans gf
      refine hK _ _ (fun _ => ⟨t0, t1, t2⟩) ?_
      clear hK K hgrow2
      try simp only [Act.put, List.setIfInBounds_toArray, List.set_cons_zero, List.set_cons_succ, List.getElem_toArray, List.getElem_cons_zero, List.getElem_cons_succ]
      refine Any.one (i := 13) (by kernel_rfl) rfl (fun K hK => ?_)
      go_simp
      refine hK _ _ (fun _ => ⟨t0, t1, t2⟩) ?_
      clear hK K
      try simp only [Act.put, List.setIfInBounds_toArray, List.set_cons_zero, List.set_cons_succ, List.getElem_toArray, List.getElem_cons_zero, List.getElem_cons_succ]
      refine Any.one (i := 14) (by kernel_rfl) rfl (fun K hK => ?_)
      go_simp
      refine hK _ _ (fun q => absurd rfl q) ?_
      clear hK K
      try simp only [Act.put, List.setIfInBounds_toArray, List.set_cons_zero, List.set_cons_succ, List.getElem_toArray, List.getElem_cons_zero, List.getElem_cons_succ]
      refine Any.done (by kernel_rfl) ?_
      have O2 := Lib.hid hown2
      have sF := RJ.out.sF _ rfl
      have j3 : j < 4096 := by have := HF.out; omega
      have B2 := Lib.hid b2
      clear hown2 b2 t0 t1 t2 t3 t4 S0 s0 s1 s2 g0 gf
      go_wp2
      go_roundw
      case rel =>
        have hh : Held w2 (fun k => w.heap.size ≤ k) ⟨mo.b, A2, k2⟩ := ⟨⟨lies_own (B := 0) (own_less O2.out (Nat.zero_le _)), (own_room O2.out).2⟩, InF.of_own O2.out (fun _ h => h), L64.out⟩
        refine ⟨j + 1, mj.set j ⟨mo.b, A2, k2⟩, by omega, by go_num, by rw [List.length_set]; exact HML.out, (RJ.out.below B2.out).setS j hh, ?_, (HB.out.trans (B2.out.mono hz)).setCell (p := ⟨g, j, none⟩) sF _⟩
        rw [txs, List.map_set, ← txs, HT.out]
        refine set_mid ?_ (by simpa [Dk.fresh] using hlt)
        rw [← E1.out, txs, List.getElem?_map, HMO.out]
        rfl
      case measure => simp [intOf]; omega
    · obtain rfl : j = ms.length := by omega
      go_wp2
      go_ret
      have e : Dk.clone d = { Dk.fresh ms.length with s := d.s } := by unfold Dk.clone; rw [HMS.out]
      have t : txs mj = d.s := by
        rw [HT.out, List.take_of_length_le (by rw [HMS.out]; exact Nat.le_refl _), List.drop_eq_nil_of_le (by simp [Dk.fresh]), List.append_nil]
      rw [e]
      exact ⟨q, rfl, ⟨AS1, AC1, AB1, cS1, cC1, cB1, mj, cs1, RJ.out, t, E4.out⟩, HB.out⟩
end Go.Proofs.Ytogobeinckgjmaa
