import Derived.Test.YtnhpkcphgdkdiaaGreatZ42
import Derived.Test.YtnhpkcphgdkdiaaGreatZ43
namespace Go.Proofs.YtnhpkcphgdkdiaaGreat
set_option linter.unusedSimpArgs false
set_option maxRecDepth 100000
section
set_option linter.unusedSimpArgs false
section
open Go.RowKit Go.Lib Go.Shelf
set_option maxHeartbeats 1000000 in
theorem cloneK12_c {A : Option Addr} {n c : Nat} {ms : List MTk} {w : World} (h : KL w A ms) (hn : n = ms.length) (hs : n ≤ 1000000) :
  Calls Tryz.prog 51 #[.slice A n c] w fun e w' => ∃ A2 c2, e = .returned (.slice A2 n c2) ∧ w'.ownsRow w.heap.size 38 7 (.slice A2 n c2) n (tkcells ms) ∧ Below w.heap.size w w' := by
 obtain ⟨i0, hi, hz0, hz1, hz2⟩ := info_parts Tryz.infoTk9
 have q := fun (w : World) a n c n' c' => Lib.run_eql_slice_nil (P := Tryz.prog) w 23 38 a n c n' c' Tryz.underlying23
 have HL := hid h
 have HN := hid hn
 clear h hn
 rcases A with _ | ad
 ·have h0 : n = 0 := by
   rcases Nat.eq_zero_or_pos n with q | q
   ·exact q
   ·obtain ⟨ad, m, e, _⟩ := HL.out.at_ (k := 0) (by have := HN.out; omega)
    cases e
  subst h0
  have e : ms = [] := List.length_eq_zero_iff.1 HN.out.symm
  subst e
  go_enter Tryz.func51, Tryz.ntmps51
  go_wp2
  go_ret
  exact ⟨_, 0, rfl, World.ownsRow_nil _ _ _ _, Below.refl _ _⟩
 ·have ho : (w.alloc (.cells #[] 38)).ownsRow w.heap.size 38 7 (.slice (some ⟨w.heap.size, 0, none⟩) 0 0) 0 [] := World.ownsRow_made w #[] 0 (Nat.le_refl _) (by unfold maxLen; omega) rfl
  have HO := hid ho
  clear ho
  go_enter Tryz.func51, Tryz.ntmps51
  go_wp2_with (at_builtin; refine wpList_app _ rfl _ _ 23 rfl w.heap.size 38 i0 _ 7 80 Tryz.underlying23 hi hz0 hz1 hz2 rfl (by decide) _ 0 [] rfl HO.out (w.alloc (.cells #[] 38)).heap.size _ n c (tkcells ms) 0 rfl (by rw [tkcells_len, HN.out]) (Lies.stay HL.out.1 ((Below.refl _ _).alloc (Nat.le_refl _) _)) (tkcells_one _) (by unfold maxLen; omega) (by omega) (by simp) ?_)
  intro v' w1 hown' hgrow _
  obtain ⟨A2, k2, rfl⟩ := own_slice hown'
  have T1 := app_below HO.out hgrow
  have ho2 : w1.ownsRow w.heap.size 38 7 (.slice A2 n k2) n (tkcells ms) := by simpa using hown'
  have HO2 := hid ho2
  have HT := hid T1
  clear hown' ho2 T1 hgrow
  go_wp2
  go_ret
  refine ⟨A2, k2, by simp, HO2.out, HT.out⟩
theorem own_tags {w : World} {B g n c k : Nat} {ms : List MTk} {mk : MTk} {A : Option Addr} {c' : Nat} (h : w.ownsRow B 38 7 (.slice (some ⟨g, 0, none⟩) n c) n (tkcells ms)) (hn : ms.length = n) (hm : ms[k]? = some mk) (hk : k < n) :
  (w.setCell ⟨g, k * 7 + 6, none⟩ (.slice A mk.t.tags.length c')).ownsRow B 38 7 (.slice (some ⟨g, 0, none⟩) n c) n (tkcells (ms.set k ⟨mk.t, A, c'⟩)) := by
 rw [← tkcells_put hm (by decide : 6 < 7) (v := .slice A mk.t.tags.length c') rfl]
 exact own_setCells (vs := [.slice A mk.t.tags.length c']) h (by rw [tkcells_len, hn]; simp; omega)
theorem own_blk12 {w : World} {B g n c : Nat} {xs : List Value} {t : TypeId} {size : Nat} (h : w.ownsRow B t size (.slice (some ⟨g, 0, none⟩) n c) n xs) : ∃ cur, w.heap[g]? = some (.cells cur t (0, 0)) := by
 rcases h.2 with ⟨q, _⟩ | ⟨g2, cap, cur, hv, _, hgb, _⟩
 ·cases q
 ·injection hv with hv _ _
  injection hv with hv
  injection hv with hv _ _
  subst hv
  exact ⟨cur, hgb⟩
theorem tks_set12 {qs : List MTk} {i : Nat} {m m' : MTk} (h : qs[i]? = some m) (e : m'.t = m.t) : tks (qs.set i m') = tks qs := by
 unfold tks
 apply List.ext_getElem?
 intro j
 rw [List.getElem?_map, List.getElem?_map, List.getElem?_set]
 by_cases q : i = j
 ·subst q
  rw [h]
  obtain ⟨q1, _⟩ := List.getElem?_eq_some_iff.1 h
  simp [q1, e]
 ·simp [q]
def OwnOk (ts : List T9.Tk) (w : World) (e : Ending) (w' : World) : Prop := ∃ A c qs, e = .returned (.slice A qs.length c) ∧ tks qs = ts ∧ Lies w' 0 38 A (tkcells qs) ∧ (∀ q ∈ qs, Lies w' 0 9 q.A (gcells q.t.tags) ∧ q.t.tags.length ≤ q.c) ∧ qs.length ≤ c ∧ Below w.heap.size w w'
set_option maxHeartbeats 4000000 in
theorem own12_c {A : Option Addr} {n c : Nat} {ms : List MTk} {w : World} (h : KL w A ms) (hn : n = ms.length) (hs : n ≤ 1000) (hg : ∀ m ∈ ms, m.t.tags.length ≤ 1000) : Calls Tryz.prog 21 #[.slice A n c] w (OwnOk (tks ms) w) := by
 have CC := hid (cloneK12_c (c := c) h hn (by omega))
 have HK := hid h
 have HN := hid hn
 have HG := hid hg
 clear h hn hg
 go_enter Tryz.func21, Tryz.ntmps21
 go_wp2_with (go_at_call 51; refine CC.out.mono ?_; rintro e w1 ⟨A2, c2, rfl, ho1, hb1⟩; have O1 := hid ho1; have B1 := hid hb1; clear ho1 hb1)
 go_loopw [9] (fun s9 wr => ∃ (i : Nat) (qs : List MTk), s9 = .int .i64 i ∧ i ≤ n ∧ Hid (qs.length = n ∧ tks qs = tks ms ∧ qs.drop i = ms.drop i ∧ ∀ j q, j < i → qs[j]? = some q → Lies wr 0 9 q.A (gcells q.t.tags) ∧ q.t.tags.length ≤ q.c) ∧ Hid (wr.ownsRow w.heap.size 38 7 (.slice A2 n c2) n (tkcells qs)) ∧ Hid (Below w.heap.size w wr)) (fun s9 _ => n - (intOf s9).toNat)
 case atStart => exact ⟨0, ms, rfl, Nat.zero_le _, hid ⟨HN.out.symm, rfl, rfl, fun j q hj => absurd hj (Nat.not_lt_zero _)⟩, O1, B1⟩
 case round =>
  obtain ⟨i, qs, rfl, hin, HQ, OR, BR⟩ := hrel
  by_cases hlt : i < n
  ·have hltz : (i : Int) < (n : Int) := by omega
   obtain ⟨g, hA, hgB⟩ := own_at_any OR.out (by omega)
   subst hA
   obtain ⟨⟨tk, A4, c4⟩, hm⟩ : ∃ m, qs[i]? = some m := ⟨_, List.getElem?_eq_getElem (by have := HQ.out.1; omega)⟩
   have hm2 : ms[i]? = some ⟨tk, A4, c4⟩ := by
    have e := congrArg (·[0]?) HQ.out.2.2.1
    simp only [List.getElem?_drop, Nat.add_zero] at e
    rw [← e]; exact hm
   have HM := hid hm
   have FI : Hid ((⟨tk, A4, c4⟩ : MTk).fine w) := hid (HK.out.2 _ (List.mem_of_getElem? hm2))
   have TG : Hid (tk.tags.length ≤ 1000) := hid (HG.out _ (List.mem_of_getElem? hm2))
   have oc := fun (j : Nat) (v : Value) (hj : (encK ⟨tk, A4, c4⟩)[j]? = some v) => own_cellAt OR.out (cel_range (fun x _ => encK_len x) hm j v hj)
   have r0 : wr.cell? ⟨g, i * 7, none⟩ = some (.int .u64 (tk.id : Int)) := by simpa using oc 0 _ rfl
   have r1 := oc 1 _ rfl
   have r2 := oc 2 _ rfl
   have r3 := oc 3 _ rfl
   have r4 := oc 4 _ rfl
   have r5 := oc 5 _ rfl
   have r6 := oc 6 _ rfl
   obtain ⟨w2, hw2⟩ : ∃ u, wr.alloc (.cells #[.int .u64 (tk.id : Int), .int .u64 (tk.list : Int), .string (str tk.title), .bool tk.done, .float .f64 tk.rank, .float .f64 tk.est, .slice A4 tk.tags.length c4] 38) = u := ⟨_, rfl⟩
   obtain ⟨lb, b2, z2⟩ := new_seven hw2
   have B2 := hid b2
   have CT := hid (cloneS10_c (n := tk.tags.length) (c := c4) (FI.out.stay (BR.out.trans (b2.mono BR.out.size))).1 rfl (by have := TG.out; omega))
   obtain ⟨l0, l1, l2, l3, l4, l5, l6⟩ := seven_cells lb
   have k0 : 0 ≤ (i : Int) := by omega
   clear oc hm hm2 lb b2
   go_wp2_with (go_at_call 52; refine CT.out.mono ?_; rintro e w3 ⟨A5, c5, rfl, h5, hc5, hb3⟩; have B3 := hid hb3; have H5 := hid h5; have C5 := hid hc5; have O3 := hid (own_below (own_below OR.out B2.out) hb3); obtain ⟨cur3, hg3⟩ := own_blk12 O3.out; have fz := blk_free hg3 (i * 7 + 6); have r6' := own_cellAt O3.out (cel_range (fun x _ => encK_len x) HM.out 6 _ rfl); have GB3 := hid hg3; clear h5 hc5 hb3 hg3)
   obtain ⟨w4, hw4⟩ : ∃ u, w3.setCell ⟨g, i * 7 + 6, none⟩ (.slice A5 tk.tags.length c5) = u := ⟨_, rfl⟩
   try rw [hw4]
   have T4 : Tch w.heap.size [38] w3 w4 := by rw [← hw4]; exact (Tch.refl _ _ _).setCell (p := ⟨g, i * 7 + 6, none⟩) GB3.out (by simp) hgB _
   have O4 : Hid (w4.ownsRow w.heap.size 38 7 (.slice (some ⟨g, 0, none⟩) n c2) n (tkcells (qs.set i ⟨tk, A5, c5⟩))) := hid (by rw [← hw4]; exact own_tags O3.out HQ.out.1 HM.out hlt)
   have T4' := hid T4
   clear T4 hw4 fz r6'
   go_roundw
   case rel =>
    have BB := BR.out.trans ((B2.out.trans (B3.out.mono B2.out.size)).mono BR.out.size)
    refine ⟨i + 1, qs.set i ⟨tk, A5, c5⟩, by go_num, by omega, hid ⟨by rw [List.length_set]; exact HQ.out.1, (tks_set12 (m' := ⟨tk, A5, c5⟩) HM.out rfl).trans HQ.out.2.1, ?_, ?_⟩, O4, hid (BB.trans (T4'.out.below))⟩
    ·rw [List.drop_set_of_lt (by omega), ← List.drop_drop, ← List.drop_drop, HQ.out.2.2.1]
    ·intro j q hj hq
     by_cases e : j = i
     ·subst e
      rw [List.getElem?_set_self (by have := HQ.out.1; omega)] at hq
      injection hq with hq
      subst hq
      exact ⟨H5.out.tch (T4'.out.mono (Nat.zero_le _)) (by decide), C5.out⟩
     ·rw [List.getElem?_set_ne (fun z => e z.symm)] at hq
      obtain ⟨q1, q2⟩ := HQ.out.2.2.2 j q (by omega) hq
      exact ⟨(q1.tch (Tch.of_below (B := 0) (B2.out.trans (B3.out.mono B2.out.size)) (Nat.zero_le _) []) (by simp)).tch (T4'.out.mono (Nat.zero_le _)) (by decide), q2⟩
   case measure => simp [intOf]; omega
  ·obtain rfl : i = n := by omega
   have hltz : ¬ ((i : Int) < (i : Int)) := by omega
   go_wp2
   go_ret
   refine ⟨A2, c2, qs, by rw [HQ.out.1]; rfl, HQ.out.2.1, lies_own (B := 0) OR.out, fun q hq => ?_, by rw [HQ.out.1]; exact own_room3 OR.out, BR.out⟩
   obtain ⟨j, hj, e⟩ := List.getElem_of_mem hq
   exact HQ.out.2.2.2 j q (by have := HQ.out.1; omega) (by rw [List.getElem?_eq_getElem hj, e])
end
end
end Go.Proofs.YtnhpkcphgdkdiaaGreat
