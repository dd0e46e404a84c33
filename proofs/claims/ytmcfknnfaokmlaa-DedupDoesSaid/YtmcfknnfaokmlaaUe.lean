/- Stage 16: the code's All (written by wip/gen16al.py). -/
import Derived.Test.YtmcfknnfaokmlaaUd
import Derived.Test.YtmcfknnfaokmlaaHi
namespace Go.Proofs.Ytmcfknnfaokmlaa
set_option maxRecDepth 100000
set_option linter.unusedSimpArgs false
section
open Go.RowKit Go.Shelf Go.Maps Go.Lib Go.Sort
set_option maxRecDepth 100000 in
set_option maxHeartbeats 1000000 in
theorem keysN16_g {n Bm mb nn : Nat} {f : Nat → Option Value} {w : World} {fr : Nat × Nat} (hn : 1 ≤ n) (hm : w.heap[Bm]? = some (.cells #[.map (some mb)] 47 fr)) (hU : UM w mb nn f) :
    SeqGives Fence.wide n Try.prog 28 #[.pointer (some ⟨Bm, 0, none⟩)] encU (AllN f) nn w := by
  intro l J W hW hJ hY h0
  have cm := qcell ((hW.block Bm (lt_of_block hm)).trans hm)
  obtain ⟨D, own, hhas, _⟩ := (hU.below hW hU.lt).out
  have sz := own.size_le
  refine callsIn_of_wp Try.func28 rfl trivial ?_ rfl
  simp only [Try.ntmps28, List.size_toArray, List.length_cons, List.length_nil, Nat.reduceAdd, Nat.reduceSub, Array.replicate_succ, Array.replicate_zero, List.push_toArray, List.append_toArray, List.nil_append, List.cons_append]
  gi_wp2_with (first
    | (gi_at_range; refine wpListIn_range_own _ rfl _ 47 rfl 24 24 u64K Try.underlying47 _ mb nn D rfl own ?_; intro w0 hrg0 hg0 hs0)
    | gi_in)
  go_frame
  gi_loopw [3] (fun _ wr => ∃ (left : Lit → Bool) (cnt : Nat) (ss : List Nat), wr.ranges Try.prog 24 anyV mb W.heap.size nn D left cnt ∧ ss.length + cnt ≤ Maps.size D ∧ (ss.Nodup ∧ ∀ x, x ∈ ss ↔ (Maps.has D (nkey x) = true ∧ left (nkey x) = false)) ∧ J ss wr)
    (fun _ wr => wr.rangeLeft mb W.heap.size)
  case atStart => exact ⟨_, _, [], hrg0, by simp, ⟨List.nodup_nil, fun x => by cases Maps.has D (nkey x) <;> simp⟩, hJ [] W w0 none h0 hg0 (fun r e => by cases e)⟩
  case round =>
    obtain ⟨left, cnt, ss, hrg, hcs, ⟨hnd, hin⟩, hJs⟩ := hrel
    gi_wp2_with (first
      | (gi_at_next; refine wpListIn_next_ranges _ rfl _ rfl 24 u64K anyV encU id (fun key kl hk => by obtain ⟨x, hx, _⟩ := nkey_of hk; exact ⟨x, hx⟩) (fun v _ _ => ⟨v, rfl⟩) mb W.heap.size nn _ _ _ rfl hrg ?_ ?_)
      | gi_in)
    · intro _ hl0
      gi_wp2
      go_end0
      exact ⟨⟨_, rfl⟩, ss, ⟨hnd, fun x => by rw [hin x, hhas, hl0]; simp⟩, hJs⟩
    · intro x c kl yd yp w2 cnt2 hkey hlk hv hat hrg2 hlt hg2 hs2 hen
      obtain ⟨x', ex, rfl, _⟩ := nkey_of hkey
      obtain rfl : x = x' := by unfold encU at ex; injection ex with _ ex; omega
      have hhx : Maps.has D (nkey x) = true := has_true_of_atKey hat
      have hnew : x ∉ ss := fun hx => by have := ((hin x).1 hx).2; rw [hlk] at this; cases this
      obtain ⟨fn, tmps, assign, body, hy, hR⟩ := hY ss x w2 (hJ ss wr w2 (some W.heap.size) hJs hg2 (fun r e => by cases e; exact ⟨Nat.le_refl _, hrg.iter_walk⟩)) (by omega)
      clear hs2
      gi_wp2
      refine hR.mono ?_
      rintro e W3 ⟨rfl, hJ3, hk3⟩
      gi_wp2
      have hrg3 := hrg2.of_walks hk3
      go_roundw
      case rel =>
        refine ⟨_, cnt2, ss ++ [x], hrg3, by simp; omega, ⟨List.nodup_append.2 ⟨hnd, by simp, fun a ha b hb => by rw [List.mem_singleton] at hb; subst hb; exact fun e => hnew (e ▸ ha)⟩, fun z => ?_⟩, hJ3⟩
        by_cases hz : z = x
        · subst hz
          simp [hhx, WideAt.sameKey_self (nkey_lit z)]
        · simp [hin z, hz, Maps.sameKey_ne (fun q => hz (nkey_inj.1 q))]
      case measure => rw [hrg3.left_eq, hrg.left_eq]; exact hlt
theorem keysN16_c (mb : Option Nat) (w : World) : Calls Try.prog 24 #[.map mb] w fun e w' => e = .returned (.func (.func 28) #[] #[.pointer (some ⟨w.heap.size, 0, none⟩)]) ∧ w.alloc (.cells #[.map mb] 47) = w' := by
  go_enter Try.func24, Try.ntmps24
  go_wp2
  go_ret
  exact ⟨rfl, rfl⟩

end
section
open Go.RowKit Go.Lib Go.Shelf
theorem values16_c (A : Option Addr) (n c : Nat) (w : World) : Calls Try.prog 22 #[.slice A n c] w fun e w' => e = .returned (.func (.func 25) #[] #[.pointer (some ⟨w.heap.size, 0, none⟩)]) ∧ w.alloc (.cells #[.slice A n c] 22) = w' := by
  go_enter Try.func22, Try.ntmps22
  go_wp2
  go_ret
  exact ⟨rfl, rfl⟩
/-- What All told: a function that goes through a row of its own. -/
def AllOk16 (T : List La) (w : World) (e : Ending) (w' : World) : Prop := ∃ (g : Nat) (A : Option Addr) (c : Nat), e = .returned (.func (.func 25) #[] #[.pointer (some ⟨g, 0, none⟩)]) ∧ w'.heap[g]? = some (.cells #[.slice A T.length c] 22 (0, 0)) ∧ w.heap.size ≤ g ∧ w'.ownsRow w.heap.size 45 2 (.slice A T.length c) T.length (acells T) ∧ Below w.heap.size w w'
theorem mk_lasts16 (k : Nat) (hk : k ≤ 1000000) : ∃ Z : Array Value, Z.size = k * 2 ∧ ∀ w : World, (Instr.makeSlice 22 (.int .i64 0) (.int .i64 (k : Int))).run Try.prog w = .ok (.slice (some ⟨w.heap.size, 0, none⟩) 0 k) (w.alloc (.cells Z 45)) := by
  obtain ⟨ti, hi, iz0, iz1, iz2⟩ := info_parts Try.infoLa15
  refine ⟨madeCells (Value.agg #[.int .u64 0, .int .u64 0]).cells (k * 2), ?_, fun w => ?_⟩
  · simp [madeCells]
  · have q := run_make (P := Try.prog) w 22 45 ti _ Try.underlying22 hi iz0 .i64 .i64 0 k (by omega) (by omega) (by rw [iz2]; omega) (by omega)
    rw [q, Int.toNat_natCast, iz1]
    rfl
theorem buildLa16 (a b : Int) (w : World) : (Instr.build 45 #[(0, .int .u64 a), (1, .int .u64 b)]).run Try.prog w = .ok (.agg #[.int .u64 a, .int .u64 b]) w := run_build w 45 _ _ (by kernel_rfl)
theorem getmap16 (T : List La) (hT : D16.Good T) {k : Nat} {x : La} (hk : T[k]? = some x) : D16.lastN T x.who = x.id := by
  unfold D16.lastN
  rw [hT.find (List.mem_of_getElem? hk)]
  rfl
set_option maxRecDepth 100000 in
set_option maxHeartbeats 4000000 in
theorem all16_c {T : List La} {p mb n : Nat} {w : World} (h : TB T p mb n w) (hn : n ≤ 1000000) : Calls Try.prog 21 #[.pointer (some ⟨p, 0, none⟩)] w (AllOk16 T w) := by
  have MC := Lib.hid (made16_c h)
  have c0 := one_cell h.b
  obtain ⟨k, hk, hlen⟩ : ∃ k : Nat, k ≤ n ∧ ∀ ty, (Builtin.len_ #[47] ty #[.map (some mb)]).run Try.prog w = .ok (.int .i64 (k : Int)) w := by
    obtain ⟨D, h1, _⟩ := h.m.out
    exact ⟨_, h1.size_le, fun ty => h1.len Try.underlying47 ty⟩
  obtain ⟨Z, hZ, hmk⟩ := mk_lasts16 k (by omega)
  obtain ⟨w1, hw1⟩ : ∃ u, w.alloc (.cells Z 45) = u := ⟨_, rfl⟩
  have b1 : Below w.heap.size w w1 := by rw [← hw1]; exact (Below.refl _ w).alloc (Nat.le_refl _) _
  have z1 : w1.heap.size = w.heap.size + 1 := by rw [← hw1]; simp
  have made := World.ownsRow_made (base := w.heap.size) (e := 45) (size := 2) w Z k (Nat.le_refl _) (by unfold maxLen; omega) hZ
  rw [hw1] at made
  have T1 := Lib.hid (h.below b1)
  obtain ⟨w2, hw2⟩ : ∃ u, w1.alloc (.cells #[.map (some mb)] 47) = u := ⟨_, rfl⟩
  have b2 : Below w1.heap.size w1 w2 := by rw [← hw2]; exact (Below.refl _ w1).alloc (Nat.le_refl _) _
  have k2 : w2.heap[w1.heap.size]? = some (.cells #[.map (some mb)] 47 (0, 0)) := by rw [← hw2]; exact heap_alloc_new w1 _
  have KC := Lib.hid (keysN16_c (some mb) w1)
  rw [hw2] at KC
  have SC := Lib.hid (sortedU_c (nn := n) (by omega) (enters_of Try.func28 (by kernel_rfl) rfl) (keysN16_g (n := 2) (by decide) k2 (h.below (b1.trans (b2.mono (by omega)))).m))
  have O2 := Lib.hid (own_below made b2)
  have B2 : Hid (Below w.heap.size w w2) := Lib.hid (b1.trans (b2.mono (by omega)))
  have G := Lib.hid h.g
  have HC := Lib.hid h.c
  have h2 := hmk w
  rw [hw1] at h2
  have HT := Lib.hid h
  have c1 := one_cell T1.out.b
  clear h b1 made b2 k2 hZ hmk z1
  go_enter Try.func21, Try.ntmps21
  go_wp2_with (first
    | (go_at_call 20; refine MC.out.mono ?_; rintro e w' ⟨rfl, rfl⟩)
    | (go_at_call 24; refine KC.out.mono ?_; rintro e w' ⟨rfl, rfl⟩)
    | (go_at_call 23; refine SC.out.mono ?_; rintro e w3 ⟨A3, c3, ss, rfl, hss, hr3, hb3⟩; have HR3 := Lib.hid hr3; have HB3 := Lib.hid hb3; have HS := Lib.hid (D16.keys_are G.out hss.1 hss.2); have LS : Hid (ss.length = T.length) := Lib.hid (by rw [HS.out, List.length_map]); have hst : ss.length ≤ 1000000 := (by have := LS.out; have := HC.out; omega); clear hr3 hb3 hss))
  have O3 := Lib.hid (own_below O2.out HB3.out)
  have B3 : Hid (Below w.heap.size w w3) := Lib.hid (B2.out.trans (HB3.out.mono B2.out.size))
  have L3 : Hid (Lies w3 0 24 A3 (ss.map encU)) := Lib.hid (lies_own (B := 0) HR3.out)
  obtain ⟨ai0, ahi, az0, az1, az2⟩ := info_parts Try.infoLa15
  clear h2 c1 KC SC
  go_loopw [3, 23] (fun s3 s23 wr => ∃ (i : Nat) (A : Option Addr) (c : Nat), s3 = .slice A i c ∧ s23 = .int .i64 i ∧ i ≤ ss.length ∧ Aside (wr.ownsRow w.heap.size 45 2 (.slice A i c) i (acells (T.take i))) ∧ Aside (Tch w.heap.size [45] w3 wr)) (fun _ s23 _ => ss.length - (intOf s23).toNat)
  case atStart => exact ⟨0, some ⟨w.heap.size, 0, none⟩, k, rfl, rfl, Nat.zero_le _, O3.out, Tch.refl _ _ _⟩
  case round =>
    obtain ⟨i, A, c, rfl, rfl, hi, hO, hTc⟩ := hrel
    have OO := Lib.hid hO.out
    have TC := Lib.hid hTc.out
    have BW : Hid (Below w.heap.size w wr) := Lib.hid (B3.out.trans TC.out.below)
    clear hO hTc
    by_cases hlt : i < ss.length
    · have hltz : (i : Int) < (ss.length : Int) := by omega
      obtain ⟨x, hx⟩ : ∃ x, T[i]? = some x := ⟨_, List.getElem?_eq_getElem (by have := LS.out; omega)⟩
      have hxs : (ss.map encU)[i]? = some (.int .u64 (x.who : Int)) := by
        rw [HS.out, List.getElem?_map, List.getElem?_map, hx]; rfl
      obtain ⟨ad, e0, _, hcell⟩ := (L3.out.tch (TC.out.mono (Nat.zero_le _)) (by decide)) (by
        intro q
        rw [q] at hxs
        simp at hxs)
      subst e0
      have r0 := hcell i _ hxs
      have r1 : wr.cell? (ad.add (i * 1)) = some (.int .u64 (x.who : Int)) := by rw [Nat.mul_one]; exact r0
      have TW := HT.out.below BW.out
      have c2 := one_cell TW.b
      have XO := (G.out.2 x (List.mem_of_getElem? hx)).1
      have hlk : (Instr.lookup 47 (.map (some mb)) (.int .u64 (x.who : Int)) false).run Try.prog wr = .ok (.int .u64 (x.id : Int)) wr := by
        have q := TW.look XO.1
        rw [getmap16 T G.out hx] at q
        exact q
      have hbl := buildLa16 (x.who : Int) (x.id : Int)
      have hbs := buildSlA15 x.who x.id wr
      have X := Lib.hid hx
      have TL : (T.take i).length = i := by rw [List.length_take]; have := LS.out; omega
      have OA : Hid ((wr.alloc (.cells #[.int .u64 (x.who : Int), .int .u64 (x.id : Int)] 45)).ownsRow w.heap.size 45 2 (.slice A i c) i (acells (T.take i))) := Lib.hid (OO.out.alloc _)
      have LE : Hid (Lies (wr.alloc (.cells #[.int .u64 (x.who : Int), .int .u64 (x.id : Int)] 45)) 0 45 (some ⟨wr.heap.size, 0, none⟩) (encA x)) := Lib.hid (Lies.of_blk (heap_alloc_new wr _))
      have zW := BW.out.size
      clear hx hxs hcell TW XO
      go_wp2_with (at_builtin; refine wpList_app _ rfl _ _ 22 rfl w.heap.size 45 ai0 _ 2 16 Try.underlying22 ahi az0 az1 az2 rfl (by decide) _ i (acells (T.take i)) rfl OA.out 0 _ 1 1 (encA x) 45 rfl rfl LE.out (encA_one _) (by unfold maxLen; omega) (by omega) (by simp; omega) ?_)
      intro v6 w6 hown6 hgrow6 hor6
      obtain ⟨A6, k6, rfl⟩ := own_slice hown6
      have T6 := Lib.hid ((TC.out.alloc zW (.cells #[.int .u64 (x.who : Int), .int .u64 (x.id : Int)] 45)).trans (grown_tch OA.out hgrow6 (Nat.le_refl _) (by simp; omega) (by simp)))
      have O6 := Lib.hid hown6
      clear hown6 hgrow6 hor6 hbs hbl hlk r0 r1 c2
      go_wp2
      go_roundw
      case rel => exact ⟨i + 1, A6, k6, rfl, by go_num, by omega, by rw [take_nxt X.out, acells_snoc]; exact O6.out, T6.out⟩
      case measure => simp [intOf]; omega
    · obtain rfl : i = ss.length := by omega
      have hltz : ¬ ((ss.length : Int) < (ss.length : Int)) := by omega
      have O7 : Hid (wr.ownsRow w.heap.size 45 2 (.slice A T.length c) T.length (acells T)) := Lib.hid (by
        have q := OO.out
        rw [LS.out, List.take_length] at q
        exact q)
      have VC := Lib.hid (values16_c A ss.length c wr)
      obtain ⟨ln, hln⟩ : ∃ v, v = ss.length := ⟨_, rfl⟩
      have LN : Hid (ln = T.length) := Lib.hid (hln.trans LS.out)
      rw [← hln] at VC hltz ⊢
      clear hst hi hln
      go_wp2_with (go_at_call 22; refine VC.out.mono ?_; rintro e w' ⟨rfl, rfl⟩)
      go_ret
      exact ⟨wr.heap.size, A, c, rfl, by rw [← LN.out]; exact heap_alloc_new wr _, BW.out.size, O7.out.alloc _, BW.out.alloc BW.out.size _⟩
theorem all16_nil (w : World) : Calls Try.prog 21 #[.pointer none] w (AllOk16 [] w) := by
  have MC := Lib.hid (made16_nil w)
  have VC := Lib.hid (values16_c none 0 0 w)
  go_enter Try.func21, Try.ntmps21
  go_wp2_with (first
    | (go_at_call 20; refine MC.out.mono ?_; rintro e w' ⟨rfl, rfl⟩)
    | (go_at_call 22; refine VC.out.mono ?_; rintro e w' ⟨rfl, rfl⟩))
  go_ret
  exact ⟨w.heap.size, none, 0, rfl, heap_alloc_new w _, Nat.le_refl _, World.ownsRow_nil _ _ _ _, (Below.refl _ w).alloc (Nat.le_refl _) _⟩
end
end Go.Proofs.Ytmcfknnfaokmlaa
