/- Stage 10: rank.Order. -/
import Derived.Test.YtjaaehbllkbiaaaGreatKc
import Derived.Test.YtjaaehbllkbiaaaGreatTz
namespace Go.Proofs.YtjaaehbllkbiaaaGreat
open Go.Shelf Go.RowKit Go.Lib Go.Sort
set_option maxRecDepth 100000

/-- Where a task's tags lie: in blocks of strings. -/
def MTk.fineS (m : MTk) (w : World) : Prop := Lies w 0 9 m.A (gcells m.t.tags) ∧ m.t.tags.length ≤ m.c
theorem MTk.fineS.fine {m : MTk} {w : World} (h : m.fineS w) : m.fine w := ⟨h.1.old, h.2⟩
theorem MTk.fineS.stay {m : MTk} {w w' : World} (h : m.fineS w) (hb : Below w.heap.size w w') : m.fineS w' := ⟨h.1.below (Nat.zero_le _) hb, h.2⟩
theorem MTk.fineS.tch {m : MTk} {w w' : World} {B : Nat} {ts : List TypeId} (h : m.fineS w) (hT : Tch B ts w w') (hs : 9 ∉ ts) : m.fineS w' :=
  ⟨h.1.keep fun b hb => by
    rcases hb with q | ⟨cs, fr, q⟩
    · omega
    · rw [hT.blk q hs, q], h.2⟩
/-- The tasks of the list in order: a row of the call's own, tags of its own. -/
def OrdOk (ts : List T9.Tk) (list : Nat) (w : World) (e : Ending) (w' : World) : Prop :=
  ∃ A c ms, e = .returned (.slice A ms.length c) ∧ KL w' A ms ∧ ms.length ≤ c ∧ T9.Ordd ts list (tks ms) ∧ Below w.heap.size w w' ∧ (ms = [] ∨ ∃ g, A = some ⟨g, 0, none⟩ ∧ w.heap.size ≤ g) ∧ ∀ m ∈ ms, m.fineS w'

theorem buildSlK10 (m : MTk) (w : World) : (Instr.buildSlice 23 1 #[(0, .agg (encK m).toArray)]).run Tryz.prog w = .ok (.slice (some ⟨w.heap.size, 0, none⟩) 1 1) (w.alloc (.cells (encK m).toArray 45)) := by
  obtain ⟨i0, hi, hz0, hz1, hz2⟩ := info_parts Tryz.infoTk9
  exact run_buildSlice_one w 23 45 (encK m).toArray i0 _ Tryz.underlying23 hi hz0 hz1 (by show 0 < 7; omega) (by show 7 ≤ _; omega)
theorem tkcells_R {ms : List MTk} (h : ∀ m ∈ ms, m.t.rank < 18446744073709551616) : ms.flatMap encR = tkcells ms := by
  unfold tkcells
  induction ms with
  | nil => rfl
  | cons m ms ih =>
    rw [List.flatMap_cons, List.flatMap_cons, ih fun x hx => h x (List.mem_cons_of_mem _ hx)]
    unfold encR
    rw [rkM_id (h m List.mem_cons_self)]
theorem tks_srt {W : List MTk} (h : Sr.Srt (ltOf cfR) W) : Sr.Srt T9.ltR (tks W) := by
  rw [ltOf_R] at h
  exact List.pairwise_map.2 h
theorem tks_stb {D W : List MTk} (h : Sr.Stb (ltOf cfR) D W) : Sr.Stb T9.ltR (tks D) (tks W) := fun k => by
  rw [ltOf_R] at h
  have q := congrArg (List.map (·.t)) (h ⟨k, none, 0⟩)
  have e : ∀ l : List MTk, (tks l).filter (Sr.eqv T9.ltR k) = (l.filter (Sr.eqv (fun x y : MTk => T9.ltR x.t y.t) ⟨k, none, 0⟩)).map (·.t) := fun l => by
    unfold tks
    rw [List.filter_map]
    rfl
  rw [e, e]
  exact q

set_option linter.unusedSimpArgs false in
set_option maxHeartbeats 4000000 in
set_option maxRecDepth 100000 in
theorem order_c {A A2 : Option Addr} {n1 n2 c c2 : Nat} {ms : List MTk} {w : World} (hk : KL w A2 ms) (e2 : n2 = ms.length) (hs : n2 ≤ 1000000) (hsh : ∀ m ∈ ms, m.t.tags.length ≤ 1000000) (hr : ∀ m ∈ ms, m.t.rank < 18446744073709551616) (list : Nat) :
    Calls Tryz.prog 87 #[.agg #[.slice A n1 c, .slice A2 n2 c2], .int .u64 (list : Int)] w (OrdOk (tks ms) list w) := by
  have E2 := Lib.hid e2
  have SH := Lib.hid hsh
  have HR := Lib.hid hr
  obtain ⟨w1, hw1⟩ : ∃ u, w.alloc (.cells #[.slice A n1 c, .slice A2 n2 c2] 25) = u := ⟨_, rfl⟩
  obtain ⟨pb, b1, z1⟩ := new_two hw1
  have B1 := Lib.hid b1
  have HK := Lib.hid (hk.stay b1)
  have Z1 := Lib.hid z1
  obtain ⟨p0, p1⟩ := two_cells pb
  clear hk e2 hsh hr pb b1 z1
  go_enter Tryz.func87, Tryz.ntmps87
  go_wp2_with fail
  go_loopw [5, 11] (fun s5 s11 wr => ∃ (i k : Nat) (A3 : Option Addr) (c3 : Nat) (xs : List MTk), s11 = .int .i64 i ∧ i ≤ n2 ∧ s5 = .slice A3 k c3 ∧ k ≤ i ∧ Aside (wr.ownsRow w1.heap.size 45 7 (.slice A3 k c3) k (tkcells xs)) ∧ Aside (Below w1.heap.size w1 wr) ∧ Hid (xs.length = k ∧ tks xs = T9.inList (tks (ms.take i)) list ∧ (∀ m ∈ xs, m.fineS wr) ∧ (∀ m ∈ xs, m.t.rank < 18446744073709551616))) (fun _ s11 _ => n2 - (intOf s11).toNat)
  case atStart => exact ⟨0, 0, none, 0, [], rfl, Nat.zero_le _, rfl, Nat.le_refl _, World.ownsRow_nil _ _ _ _, Below.refl _ _, Lib.hid ⟨rfl, rfl, by simp, by simp⟩⟩
  case round =>
    obtain ⟨i, k, A3, c3, xs, rfl, hi, rfl, hki, hO, hB, HI⟩ := hrel
    have OW := Lib.hid hO.out
    have BR := Lib.hid hB.out
    clear hO hB
    by_cases hlt : i < n2
    · have hltz : (i : Int) < (n2 : Int) := by omega
      obtain ⟨ad, ⟨tk, A4, c4⟩, hA, hx, hf, r0, r1, r2, r3, r4, r5, r6⟩ := (HK.out.stay BR.out).at_ (k := i) (by have := E2.out; omega)
      subst hA
      have X := Lib.hid hx
      have FI := Lib.hid hf
      dsimp only at r0 r1 r2 r3 r4 r5 r6
      obtain ⟨w2, hw2⟩ : ∃ u, wr.alloc (.cells #[.int .u64 (tk.id : Int), .int .u64 (tk.list : Int), .string (str tk.title), .bool tk.done, .float .f64 tk.rank, .float .f64 tk.est, .slice A4 tk.tags.length c4] 45) = u := ⟨_, rfl⟩
      obtain ⟨lb, b2, z2⟩ := new_seven hw2
      have B2 := Lib.hid b2
      have Z2 := Lib.hid z2
      have LB := Lib.hid lb
      obtain ⟨l0, l1, l2, l3, l4, l5, l6⟩ := seven_cells lb
      have TKI : Hid (tks (ms.take (i + 1)) = tks (ms.take i) ++ [tk]) := Lib.hid (by rw [take_nxt X.out, tks_snoc])
      clear hx hf lb b2 z2
      by_cases he : tk.list = list
      · have hez : ((tk.list : Int) == (list : Int)) = true := by simp [he]
        have FL : Hid (T9.inList (tks (ms.take (i + 1))) list = T9.inList (tks (ms.take i)) list ++ [tk]) := Lib.hid (by
          rw [TKI.out]
          unfold T9.inList
          rw [List.filter_append]
          simp [he])
        have RK : Hid (tk.rank < 18446744073709551616) := Lib.hid (HR.out _ (List.mem_of_getElem? X.out))
        have CL := Lib.hid (cloneS10_c (c := c4) (FI.out.stay B2.out).gl rfl (by have := SH.out _ (List.mem_of_getElem? X.out); simp at this; show tk.tags.length ≤ 1000000000; omega))
        clear he
        dsimp only at CL
        go_wp2_with fail
        refine CL.out.mono ?_
        rintro e w3 ⟨A5, c5, rfl, hl5, hc5, hb3⟩
        have HL5 := Lib.hid hl5
        have HC5 := Lib.hid hc5
        have HB3 := Lib.hid hb3
        have lb3 := (hb3.block wr.heap.size (by have := Z2.out; omega)).trans LB.out
        have g6 := (seven_cells lb3).2.2.2.2.2.2
        have gf6 := blk_free lb3 6
        have lb4 := (blk_set lb3 6 (.slice A5 tk.tags.length c5)).trans (show _ = some (.cells #[.int .u64 (tk.id : Int), .int .u64 (tk.list : Int), .string (str tk.title), .bool tk.done, .float .f64 tk.rank, .float .f64 tk.est, .slice A5 tk.tags.length c5] 45 (0, 0)) from rfl)
        have Y3 : Hid (Ty w3 wr.heap.size 45) := Lib.hid ⟨_, _, lb3⟩
        obtain ⟨w4, hw4⟩ : ∃ u, w3.setCell ⟨wr.heap.size, 6, none⟩ (.slice A5 tk.tags.length c5) = u := ⟨_, rfl⟩
        rw [hw4] at lb4
        have B4 : Hid (Below wr.heap.size wr w4) := Lib.hid (by
          rw [← hw4]
          exact (B2.out.trans (HB3.out.mono (by have := Z2.out; omega))).setCell (Nat.le_refl _) _)
        have L5 : Hid (Lies w4 0 9 A5 (gcells tk.tags)) := Lib.hid (by
          rw [← hw4]
          exact HL5.out.tch (ts := [45]) ((Tch.refl 0 _ w3).setTy (p := ⟨wr.heap.size, 6, none⟩) Y3.out (by simp) (Nat.zero_le _) _) (by decide))
        obtain ⟨l0, l1, l2, l3, l4, l5, l6⟩ := seven_cells lb4
        have hbs := buildSlK10 ⟨tk, A5, c5⟩ w4
        unfold encK at hbs
        dsimp only at hbs
        have OW4 := Lib.hid (own_below OW.out B4.out)
        have OWE := Lib.hid (OW4.out.alloc (.cells #[.int .u64 (tk.id : Int), .int .u64 (tk.list : Int), .string (str tk.title), .bool tk.done, .float .f64 tk.rank, .float .f64 tk.est, .slice A5 tk.tags.length c5] 45))
        have LE : Hid (Lies (w4.alloc (.cells #[.int .u64 (tk.id : Int), .int .u64 (tk.list : Int), .string (str tk.title), .bool tk.done, .float .f64 tk.rank, .float .f64 tk.est, .slice A5 tk.tags.length c5] 45)) 0 45 (some ⟨w4.heap.size, 0, none⟩) (encK ⟨tk, A5, c5⟩)) := Lib.hid (Lies.of_blk (heap_alloc_new w4 _))
        have zz : w1.heap.size ≤ w4.heap.size := Nat.le_trans BR.out.size B4.out.size
        have ZZ := Lib.hid zz
        obtain ⟨ti0, thi, tz0, tz1, tz2⟩ := info_parts Tryz.infoTk9
        clear hl5 hc5 hb3 lb3 lb4
        go_wp2_with (at_builtin; refine wpList_app _ rfl _ _ 23 rfl w1.heap.size 45 ti0 _ 7 80 Tryz.underlying23 thi tz0 tz1 tz2 rfl (by decide) _ k (tkcells xs) rfl OWE.out 0 _ 1 1 (encK ⟨tk, A5, c5⟩) 45 rfl rfl LE.out (encK_one _) (by unfold maxLen; omega) (by omega) (by simp; omega) ?_)
        intro v6 w6 hown6 hgrow6 hor6
        obtain ⟨A6, k6, rfl⟩ := own_slice hown6
        have T6 : Hid (Tch w1.heap.size [45] w4 w6) := Lib.hid (((Tch.refl w1.heap.size [45] w4).alloc ZZ.out (.cells #[.int .u64 (tk.id : Int), .int .u64 (tk.list : Int), .string (str tk.title), .bool tk.done, .float .f64 tk.rank, .float .f64 tk.est, .slice A5 tk.tags.length c5] 45)).trans (grown_tch (B := w1.heap.size) (ts := [45]) OWE.out hgrow6 (Nat.le_refl _) (by have := ZZ.out; simp; omega) (by simp)))
        have HO6 := Lib.hid hown6
        clear hown6 hgrow6 hor6 hbs l0 l1 l2 l3 l4 l5 l6 zz
        go_wp2
        go_roundw
        case rel =>
          refine ⟨i + 1, k + 1, A6, k6, xs ++ [⟨tk, A5, c5⟩], by go_num, by omega, rfl, by omega, ?_, (BR.out.trans (B4.out.mono BR.out.size)).trans T6.out.below, Lib.hid ⟨by rw [List.length_append, HI.out.1]; rfl, by rw [tks_snoc, HI.out.2.1, FL.out], fun m hm => ?_, fun m hm => ?_⟩⟩
          · rw [tkcells_snoc]; exact HO6.out
          · rcases List.mem_append.1 hm with q | q
            · exact ((HI.out.2.2.1 m q).stay B4.out).tch T6.out (by decide)
            · simp only [List.mem_cons, List.not_mem_nil, or_false] at q
              subst q
              exact MTk.fineS.tch (m := ⟨tk, A5, c5⟩) ⟨L5.out, HC5.out⟩ T6.out (by decide)
          · rcases List.mem_append.1 hm with q | q
            · exact HI.out.2.2.2 m q
            · simp only [List.mem_cons, List.not_mem_nil, or_false] at q
              subst q
              exact RK.out
        case measure => simp [intOf]; omega
      · have hez : ((tk.list : Int) == (list : Int)) = false := by simp; omega
        have FL : Hid (T9.inList (tks (ms.take (i + 1))) list = T9.inList (tks (ms.take i)) list) := Lib.hid (by
          rw [TKI.out]
          unfold T9.inList
          rw [List.filter_append]
          simp [he])
        clear he
        go_wp2
        go_roundw
        case rel => exact ⟨i + 1, k, A3, c3, xs, by go_num, by omega, rfl, by omega, own_below OW.out B2.out, BR.out.trans (B2.out.mono BR.out.size), Lib.hid ⟨HI.out.1, by rw [HI.out.2.1, FL.out], fun m hm => (HI.out.2.2.1 m hm).stay B2.out, HI.out.2.2.2⟩⟩
        case measure => simp [intOf]; omega
    · obtain rfl : i = n2 := by omega
      have hltz : ¬ ((i : Int) < (i : Int)) := by omega
      have XT : Hid (tks xs = T9.inList (tks ms) list) := Lib.hid (by rw [HI.out.2.1, E2.out, List.take_length])
      have BW : Hid (Below w.heap.size w wr) := Lib.hid (B1.out.trans (BR.out.mono B1.out.size))
      by_cases h0 : k = 0
      · subst h0
        have hnil : xs = [] := List.length_eq_zero_iff.1 HI.out.1
        have HN := Lib.hid hnil
        clear hnil
        go_wp2_with (go_at_call 103; refine (sort0M_c _ _ _ _).mono ?_; rintro e w2 ⟨rfl, rfl⟩)
        go_wp2
        go_ret
        exact ⟨A3, c3, [], rfl, KL.nil, Nat.zero_le _, ⟨Sr.Srt.nil, by rw [← XT.out, HN.out]; exact Sr.Stb.refl _⟩, BW.out, .inl rfl, by simp⟩
      · obtain ⟨g, hg, hBg⟩ := own_at_any OW.out (by omega)
        subst hg
        have hown := OW.out
        have gl := hown.lt g rfl
        have GL9 := Lib.hid gl
        obtain ⟨_, gcs, gfr, hgb⟩ := own_row hown g rfl
        have GB := Lib.hid hgb
        have HR5 := HI.out.2.2.2
        have hown2 : wr.ownsRow w1.heap.size 45 7 (.slice (some ⟨g, 0, none⟩) k c3) k (xs.toArray.toList.flatMap encR) := by
          rw [tkcells_R HR5]
          exact hown
        have R : RowK encR 7 wr g 0 xs.toArray := rowK_own (d := xs.toArray) encR_len encR_one (by decide) rfl hown2
        have S0 : SWK encR 7 wr g 0 xs.toArray wr := SWK.start R.hH
        have RR := Lib.hid R
        have HCS := Lib.hid (sortR_c (cap := c3) R S0 (fun args w => Tryz.call120 args w) (cb := #[]) (fun m os dk _ x y => cmpR_w x y _) (by simp; have := HI.out.1; omega) k (by simp; exact HI.out.1.symm))
        clear hown hown2 R S0 gl hBg hgb HR5
        go_wp2_with (go_at_call 103; refine HCS.out.mono ?_; rintro e w2 ⟨rfl, dk, W, hs2, hd2, hl2, hw2, hsr, hst⟩)
        have S2 := Lib.hid hs2
        have SR := Lib.hid (And.intro hd2 (And.intro hl2 (And.intro hw2 (And.intro hsr hst))))
        clear hs2 hd2 hl2 hw2 hsr hst
        go_wp2
        go_ret
        obtain ⟨hd2, hl2, hw2, hsr, hst⟩ := SR.out
        have hWl : W.length = k := by rw [hw2]; exact HI.out.1
        have hWm : ∀ m ∈ W, m ∈ xs := fun m hm => Sr.Stb.mem woRM hst hm
        have hlw : dk.toList = W := by rw [hl2]; simp
        have fin : ∀ m ∈ W, m.fineS w2 := fun m hm => by
          have f := HI.out.2.2.1 m (hWm m hm)
          refine ⟨f.1.keep fun b hb => ?_, f.2⟩
          rcases hb with q | ⟨cs, fr, q⟩
          · omega
          · exact swk_keep S2.out b (lt_of_block q) (blk_ne q GB.out (by decide))
        refine ⟨some ⟨g, 0, none⟩, c3, W, (by rw [hWl]; rfl), ⟨?_, fun m hm => (fin m hm).fine⟩, by rw [hWl]; exact (own_room OW.out).2, ⟨tks_srt hsr, ?_⟩, ?_, .inr ⟨g, rfl, by have := GL9.out.1; have := B1.out.size; omega⟩, fin⟩
        · rw [← tkcells_R (fun m hm => HI.out.2.2.2 m (hWm m hm))]
          exact swk_lies S2.out RR.out hd2 (by rw [hlw, List.take_length]) (SWK.lt S2.out GL9.out.2)
        · rw [← XT.out]
          exact tks_stb hst
        · exact BW.out.trans (swk_below S2.out (by have := GL9.out.1; have := BW.out.size; have := B1.out.size; omega) GL9.out.2)
end Go.Proofs.YtjaaehbllkbiaaaGreat
