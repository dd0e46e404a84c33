/- Stage 16: the code's Copy (written by wip/gen16cq.py). -/
import Derived.Test.YtmcfknnfaokmlaaUf
namespace Go.Proofs.Ytmcfknnfaokmlaa
set_option maxRecDepth 100000
set_option linter.unusedSimpArgs false
section
open Go.RowKit Go.Lib Go.Shelf
attribute [local go_sem] Oper.semAt_some
/-- Between two rounds of Copy: the copy's pointer in its box, the copy of what has come. -/
structure CopyI16 (w : World) (Z cb p2 mb2 : Nat) (pre : List La) (W : World) : Prop where
  c : W.heap[cb]? = some (.cells #[.pointer (some ⟨p2, 0, none⟩)] 26 (0, 0))
  t : TB pre p2 mb2 pre.length W
  l : Below w.heap.size w W
  z : cb < Z ∧ p2 < Z ∧ mb2 < Z ∧ w.heap.size ≤ Z ∧ w.heap.size ≤ p2 ∧ w.heap.size ≤ mb2 ∧ w.heap.size ≤ cb
theorem CopyI16.far {w W W' : World} {Z cb p2 mb2 : Nat} {pre : List La} (h : CopyI16 w Z cb p2 mb2 pre W) {B : Nat} (hb : Below B W W') (hB : Z ≤ B) : CopyI16 w Z cb p2 mb2 pre W' := by
  have z := h.z
  exact ⟨(hb.block _ (by omega)).trans h.c, h.t.same (hb.block _ (by omega)) (hb.block _ (by omega)), h.l.trans (hb.mono (by omega)), h.z⟩
theorem CopyI16.below {w W W' : World} {Z cb p2 mb2 : Nat} {pre : List La} (h : CopyI16 w Z cb p2 mb2 pre W) (hb : Below W.heap.size W W') : CopyI16 w Z cb p2 mb2 pre W' :=
  ⟨blk_keep h.c hb, h.t.below hb, h.l.trans (hb.mono h.l.size), h.z⟩
def CopyOk16 (T : List La) (w : World) (e : Ending) (w' : World) : Prop := ∃ p mb, e = .returned (.pointer (some ⟨p, 0, none⟩)) ∧ w.heap.size ≤ p ∧ w.heap.size ≤ mb ∧ TB T p mb T.length w' ∧ Below w.heap.size w w'
set_option maxRecDepth 100000 in
set_option maxHeartbeats 4000000 in
theorem copy16_c {T : List La} {p mb n : Nat} {w : World} (h : TB T p mb n w) (hn : n ≤ 1000000) :
    Calls Try.prog 18 #[.pointer (some ⟨p, 0, none⟩)] w (CopyOk16 T w) := by
  have MC := Lib.hid (made16_c h)
  have NC : Hid (Calls Try.prog 8 #[.slice none 0 0] w (NewOk16 [] 0 w)) := Lib.hid (new16_c (A := none) (n := 0) (c := 0) (l := []) (w := w) AL.nil rfl (by simp) (by intro x hx; cases hx))
  have AC : ∀ u, Below w.heap.size w u → Hid (Calls Try.prog 21 #[.pointer (some ⟨p, 0, none⟩)] u (AllOk16 T u)) := fun u hu => Lib.hid (all16_c (h.below hu) hn)
  have HA := Lib.hid AC
  have HG := Lib.hid h.g
  have LT : T.length ≤ 1000000 := Nat.le_trans h.c hn
  clear h AC
  refine calls_of_marks14 Try.func18 rfl ?_
  simp only [Try.ntmps18, List.size_toArray, List.length_cons, List.length_nil, Nat.reduceAdd, Nat.reduceSub, Array.replicate_succ, Array.replicate_zero, List.push_toArray, List.append_toArray, List.nil_append, List.cons_append]
  go_wp2_with (go_at_call 20; refine MC.out.mono ?_; rintro e w' ⟨rfl, rfl⟩)
  refine NC.out.mono ?_
  rintro e w1 ⟨p2, mb2, rfl, hp2, hm2, ht1, hb1⟩
  obtain ⟨w2, hw2⟩ : ∃ u, w1.alloc (.cells #[.pointer (some ⟨p2, 0, none⟩)] 26) = u := ⟨_, rfl⟩
  have b2 : Below w1.heap.size w1 w2 := by rw [← hw2]; exact (Below.refl _ w1).alloc (Nat.le_refl _) _
  have k2 : w2.heap[w1.heap.size]? = some (.cells #[.pointer (some ⟨p2, 0, none⟩)] 26 (0, 0)) := by rw [← hw2]; exact heap_alloc_new w1 _
  have B2 : Hid (Below w.heap.size w w2) := Lib.hid (hb1.trans (b2.mono hb1.size))
  have ht1' : TB [] p2 mb2 0 w1 := ht1
  have I2 : Hid (CopyI16 w w2.heap.size w1.heap.size p2 mb2 [] w2) := Lib.hid ⟨k2, ht1'.below b2, B2.out, lt_of_block k2, by have := ht1'.lt; have := b2.size; omega, by have := ht1'.lt; have := b2.size; omega, B2.out.size, hp2, hm2, hb1.size⟩
  clear hp2 hm2 ht1 ht1' hb1 b2 k2
  go_wp2_with fail
  refine (HA.out w2 B2.out).out.mono ?_
  rintro e w3 ⟨g, A, c, rfl, hg, hgl, hrow, hb⟩
  have B3 : Hid (Below w.heap.size w w3) := Lib.hid (B2.out.trans (hb.mono B2.out.size))
  have I3 : Hid (CopyI16 w w3.heap.size w1.heap.size p2 mb2 [] w3) := Lib.hid (by
    have q := I2.out.below hb
    have := hb.size
    have z := q.z
    exact ⟨q.c, q.t, q.l, by omega, by omega, by omega, by omega, z.2.2.2.2⟩)
  have KR : Hid (∀ k, (Value.slice A T.length c).ownBlock = some k → k < w3.heap.size ∧ k ≠ mb2) := Lib.hid fun k hk => by
    obtain ⟨h1, cs, fr, h2⟩ := own_row hrow k hk
    have := lt_of_block h2
    have := I2.out.z
    exact ⟨by omega, by omega⟩
  have SG : Hid (∀ W, Below w3.heap.size w3 W → W.heap.size = w3.heap.size + 2 → Seq14 (9 - 1) Try.prog 25 #[.pointer (some ⟨g, 0, none⟩)] (fun x : La => #[.agg #[.int .u64 (x.who : Int), .int .u64 (x.id : Int)]]) St16 (fun _ => But16 mb2 w3.heap.size) (fun _ _ _ => True) (fun _ _ _ => True) (fun xs => xs = T) (fun pre => ∃ r, pre ++ r = T) T.length W) := Lib.hid (fun W hW _ => values16_g (blk_keep hg hW) (own_below hrow hW) KR.out LT)
  clear hg hgl hrow hb
  go_wp2_with fail
  refine (wpIn_wide (n := 9)).1 ?_
  refine' range14 (α := La) (n := 9) (by decide) (gf := 25) rfl (enters_of Try.func25 (by kernel_rfl) rfl) SG.out (fun _ => rfl) (fun h => h.1.mono h.2) (fun h k => h.trans k) (fun o _ => But16.put o (by omega)) (fun _ _ => trivial) (fun _ _ _ => trivial)
    (CopyI16 w w3.heap.size w1.heap.size p2 mb2) (fun _ _ => False) (fun _ _ _ h hT => h.far hT.below (Nat.le_refl _)) (fun _ _ _ h _ => h) (fun _ _ _ h hT => h.below hT.1) (fun _ _ _ h _ => h) I3.out (fun x b => { tmps := #[.pointer (some ⟨p, 0, none⟩), undef, .pointer none, .pointer (some ⟨w1.heap.size, 0, none⟩), .pointer (some ⟨b, 0, none⟩), .pointer (some ⟨p, 0, none⟩), .bool true, .bool false, .pointer (some ⟨p2, 0, none⟩), .pointer (some ⟨p, 0, none⟩), .func (.func 25) #[] #[.pointer (some ⟨g, 0, none⟩)], .agg #[.int .u64 (x.who : Int), .int .u64 (x.id : Int)], undef, undef, undef, undef, undef, undef, undef, undef, undef], defers := [] })
    (fun pre x b W => CopyI16 w w3.heap.size w1.heap.size p2 mb2 pre W ∧ W.heap[b]? = some (.cells #[.int .u64 (x.who : Int), .int .u64 (x.id : Int)] 45 (0, 0)) ∧ w3.heap.size ≤ b) (fun pre x b A A' h hT => ⟨h.1.far hT.below (Nat.le_refl _), hT.blk h.2.1 (by simp), h.2.2⟩) ?assign ?body ?done ?stop
  case assign =>
    rintro pre x W hI _ hpn hzW
    obtain ⟨b, hb⟩ : ∃ b, W.heap.size = b := ⟨_, rfl⟩
    obtain ⟨W1, hW1⟩ : ∃ u, W.alloc (.cells #[.int .u64 (x.who : Int), .int .u64 (x.id : Int)] 45) = u := ⟨_, rfl⟩
    obtain ⟨xb, bx, zx⟩ := new_two hW1
    have I1 := Lib.hid (hI.below bx)
    rw [hb] at xb
    have XB := Lib.hid xb
    have BX := Lib.hid bx
    have HZ := Lib.hid hzW
    have HB := Lib.hid hb
    clear xb bx zx hI hb
    gi_wp2
    rw [HB.out]
    exact ⟨⟨BX.out.block _ HZ.out, BX.out.block _ (by have := HZ.out; omega)⟩, But16.of_below BX.out (by have := HZ.out; omega), b, rfl, I1.out, XB.out, by have := HZ.out; have := HB.out; omega⟩
  case body =>
    rintro pre x b W ⟨hI, hb, hbz⟩ hpn ⟨rr, hrr⟩ hz hn1 hn2
    have HI := Lib.hid hI
    have HB := Lib.hid hb
    have BZ := Lib.hid hbz
    have PN := Lib.hid hpn
    have GX : Hid ((∀ y ∈ pre, y.who < x.who) ∧ x.ok ∧ x.who ≠ 0 ∧ x.id ≠ 0) := Lib.hid (by
      have hg : D16.Good ((pre ++ [x]) ++ rr) := by rw [hrr]; exact HG.out
      have hm : x ∈ (pre ++ [x]) ++ rr := List.mem_append.2 (.inl (List.mem_append.2 (.inr (List.mem_singleton.2 rfl))))
      have q := (List.pairwise_append.1 hg.1).1
      exact ⟨fun y hy => (List.pairwise_append.1 q).2.2 y hy x (List.mem_singleton.2 rfl), hg.2 x hm⟩)
    have N1 := Lib.hid hn1
    have N2 := Lib.hid hn2
    have HZ := Lib.hid hz
    clear hI hb hbz hrr hn1 hn2 hpn hz
    gi_wp2_with fail
    refine region_round14 (S := fun u => u.heap[w1.heap.size]? = some (.cells #[.pointer (some ⟨p2, 0, none⟩)] 26 (0, 0)) ∧ u.heap[p2]? = some (.cells #[.map (some mb2)] 49 (0, 0)) ∧ u.heap[b]? = some (.cells #[.int .u64 (x.who : Int), .int .u64 (x.id : Int)] 45 (0, 0))) (by kernel_rfl) (by kernel_rfl) (by rintro ⟨_, _, h⟩; exact h) ?_
    have T0 : TB pre p2 mb2 pre.length W.drew := HI.out.t.same rfl rfl
    have S0 := And.intro (show W.drew.heap[w1.heap.size]? = some (.cells #[.pointer (some ⟨p2, 0, none⟩)] 26 (0, 0)) from HI.out.c) (And.intro (show W.drew.heap[p2]? = some (.cells #[.map (some mb2)] 49 (0, 0)) from HI.out.t.b) (show W.drew.heap[b]? = some (.cells #[.int .u64 (x.who : Int), .int .u64 (x.id : Int)] 45 (0, 0)) from HB.out))
    refine wpAnyH_take (i := 0) (v := ?_) rfl (by kernel_rfl) (by kernel_rfl) (by kernel_rfl) (fun _ _ _ h => h) (Or.inl ⟨by rfl, ?_⟩) S0 ?_
    rotate_left
    · intro u hu
      have y2 := cell14 hu.1
      go_simp
      try rfl
    try simp only [Act.put, List.setIfInBounds_toArray, List.set_cons_zero, List.set_cons_succ, List.getElem_toArray, List.getElem_cons_zero, List.getElem_cons_succ]
    refine wpAnyH_take (i := 1) (v := ?_) rfl (by kernel_rfl) (by kernel_rfl) (by kernel_rfl) (fun _ _ _ h => h) (Or.inl ⟨by rfl, ?_⟩) S0 ?_
    rotate_left
    · intro u hu
      go_simp
      try rfl
    try simp only [Act.put, List.setIfInBounds_toArray, List.set_cons_zero, List.set_cons_succ, List.getElem_toArray, List.getElem_cons_zero, List.getElem_cons_succ]
    refine wpAnyH_take (i := 2) (v := ?_) rfl (by kernel_rfl) (by kernel_rfl) (by kernel_rfl) (fun _ _ _ h => h) (Or.inl ⟨by rfl, ?_⟩) S0 ?_
    rotate_left
    · intro u hu
      go_simp
      try rfl
    try simp only [Act.put, List.setIfInBounds_toArray, List.set_cons_zero, List.set_cons_succ, List.getElem_toArray, List.getElem_cons_zero, List.getElem_cons_succ]
    refine wpAnyH_take (i := 3) (v := ?_) rfl (by kernel_rfl) (by kernel_rfl) (by kernel_rfl) (fun _ _ _ h => h) (Or.inl ⟨by rfl, ?_⟩) S0 ?_
    rotate_left
    · intro u hu
      have y2 := cell14 hu.2.1
      go_simp
      try rfl
    try simp only [Act.put, List.setIfInBounds_toArray, List.set_cons_zero, List.set_cons_succ, List.getElem_toArray, List.getElem_cons_zero, List.getElem_cons_succ]
    refine wpAnyH_take (i := 4) (v := ?_) rfl (by kernel_rfl) (by kernel_rfl) (by kernel_rfl) (fun _ _ _ h => h) (Or.inl ⟨by rfl, ?_⟩) S0 ?_
    rotate_left
    · intro u hu
      go_simp
      try rfl
    try simp only [Act.put, List.setIfInBounds_toArray, List.set_cons_zero, List.set_cons_succ, List.getElem_toArray, List.getElem_cons_zero, List.getElem_cons_succ]
    refine wpAnyH_take (i := 5) (v := ?_) rfl (by kernel_rfl) (by kernel_rfl) (by kernel_rfl) (fun _ _ _ h => h) (Or.inl ⟨by rfl, ?_⟩) S0 ?_
    rotate_left
    · intro u hu
      obtain ⟨y0, y1⟩ := two_cells hu.2.2
      go_simp
      try rfl
    try simp only [Act.put, List.setIfInBounds_toArray, List.set_cons_zero, List.set_cons_succ, List.getElem_toArray, List.getElem_cons_zero, List.getElem_cons_succ]
    refine wpAnyH_take (i := 6) (v := ?_) rfl (by kernel_rfl) (by kernel_rfl) (by kernel_rfl) (fun _ _ _ h => h) (Or.inl ⟨by rfl, ?_⟩) S0 ?_
    rotate_left
    · intro u hu
      go_simp
      try rfl
    try simp only [Act.put, List.setIfInBounds_toArray, List.set_cons_zero, List.set_cons_succ, List.getElem_toArray, List.getElem_cons_zero, List.getElem_cons_succ]
    refine wpAnyH_take (i := 7) (v := ?_) rfl (by kernel_rfl) (by kernel_rfl) (by kernel_rfl) (fun _ _ _ h => h) (Or.inl ⟨by rfl, ?_⟩) S0 ?_
    rotate_left
    · intro u hu
      obtain ⟨y0, y1⟩ := two_cells hu.2.2
      go_simp
      try rfl
    try simp only [Act.put, List.setIfInBounds_toArray, List.set_cons_zero, List.set_cons_succ, List.getElem_toArray, List.getElem_cons_zero, List.getElem_cons_succ]
    refine anyH_one16 (i := 8) (by kernel_rfl) rfl (fun K hK => ?_)
    obtain ⟨v2, hput, U6, hg6⟩ := T0.put (by have := PN.out; unfold maxLen; omega) GX.out.2.1.1 GX.out.2.1.2 GX.out.2.2.1 GX.out.2.2.2
    refine step_mapUpdate rfl _ _ _ 47 rfl rfl rfl rfl hput ?_
    have ncb : w1.heap.size ≠ mb2 := fun e => by
      obtain ⟨es, cl, q⟩ := HI.out.t.m.is_map
      have := HI.out.c
      rw [e, q] at this
      cases this
    have S1 := And.intro ((hg6.block w1.heap.size (lt_of_block S0.1) (fun q => by injection q with q; exact ncb q)).trans S0.1) (And.intro U6.b ((hg6.block b (lt_of_block S0.2.2) (fun q => by injection q with q; have := HI.out.z; have := BZ.out; omega)).trans S0.2.2))
    have FIN : Hid (But16 mb2 w3.heap.size W v2 ∧ CopyI16 w w3.heap.size w1.heap.size p2 mb2 (pre ++ [x]) v2 ∧ v2.heap[w3.heap.size + 1]? = W.heap[w3.heap.size + 1]? ∧ v2.heap[w3.heap.size]? = W.heap[w3.heap.size]?) := Lib.hid (by
      have z := HI.out.z
      have e : D16.setN x.who x.id pre = pre ++ [x] := D16.set_end _ _ GX.out.1
      rw [e] at U6
      have k : But16 mb2 w3.heap.size W.drew v2 := But16.grown hg6 (fun k hk => .inl (by injection hk with hk; exact hk.symm)) (by have := HZ.out; show _ ≤ W.heap.size; omega)
      have el : (pre ++ [x]).length = pre.length + 1 := by simp
      refine ⟨⟨k.os, k.tape, k.output, k.size, k.block⟩, ⟨S1.1, by rw [el]; exact U6, ?_, z⟩, hg6.block _ (by show _ < W.heap.size; exact HZ.out) (fun q => by injection q with q; omega), hg6.block _ (by have := HZ.out; show _ < W.heap.size; omega) (fun q => by injection q with q; omega)⟩
      exact HI.out.l.trans ⟨hg6.os, hg6.tape, hg6.output, hg6.size, fun k hk => hg6.block k (by have := HI.out.l.size; show _ < W.heap.size; omega) (fun q => by injection q with q; omega)⟩)
    refine hK _ _ S1 ?_
    clear S0 hput S1 U6 hg6 hK K T0
    try simp only [Act.put, List.setIfInBounds_toArray, List.set_cons_zero, List.set_cons_succ, List.getElem_toArray, List.getElem_cons_zero, List.getElem_cons_succ]
    refine wpAnyH_done (by kernel_rfl) ?_ _
    exact ⟨⟨FIN.out.2.2.1, FIN.out.2.2.2⟩, FIN.out.1, FIN.out.2.1⟩
  case done =>
    rintro xs W rfl hI hD
    have c3 := cell14 hI.c
    have HI := Lib.hid hI
    have HD := Lib.hid hD
    clear hI hD
    go_wp2
    have TF : Below w3.heap.size W (W.putObj w3.heap.size (.deferred none)) := (tch_shut14 (B := w3.heap.size) _ HD.out (Nat.le_refl _)).below
    have IF := HI.out.far TF (Nat.le_refl _)
    refine ⟨by simp, .inl ⟨_, _, rfl, run_takeDeferred HD.out, ?_⟩⟩
    exact ⟨_, results_tmp rfl _ _ _, p2, mb2, rfl, IF.z.2.2.2.2.1, IF.z.2.2.2.2.2.1, IF.t, IF.l⟩
  case stop =>
    rintro pre W _ h _
    exact h.elim
theorem copy16_nil (w : World) : Calls Try.prog 18 #[.pointer none] w fun e w' => e = .returned (.pointer none) ∧ w = w' := by
  have MC := Lib.hid (made16_nil w)
  refine calls_of_marks14 Try.func18 rfl ?_
  simp only [Try.ntmps18, List.size_toArray, List.length_cons, List.length_nil, Nat.reduceAdd, Nat.reduceSub, Array.replicate_succ, Array.replicate_zero, List.push_toArray, List.append_toArray, List.nil_append, List.cons_append]
  go_wp2_with (go_at_call 20; refine MC.out.mono ?_; rintro e w' ⟨rfl, rfl⟩)
  exact ⟨_, results_tmp rfl _ _ _, rfl, rfl⟩
end
end Go.Proofs.Ytmcfknnfaokmlaa
