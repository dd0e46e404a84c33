/- Contract of the document's own Parts. -/
import Derived.Test.YtobdaiiojclfkaaRs
import Derived.Test.YtobdaiiojclfkaaPs
namespace Go.Proofs.Ytobdaiiojclfkaa
open Go.RowKit

theorem lies_part1 (w : World) (m : MPt) {g : Nat} (hg : g = w.heap.size := by simp) : Lies (w.alloc (.cells m.cells.toArray 39)) 0 39 (some ⟨g, 0, none⟩) m.cells := by
  subst hg
  exact Lies.of_blk (heap_alloc_new w _)
theorem rdPs_rest {ks : List Int} {b : List UInt8} (hs : b.length ≤ 1099511627776) : ∀ l, (Cd.rdPs ks (some b)).2 = some l → l.length ≤ 1099511627776 := fun l h => by
  have := rest_le h
  omega

set_option maxHeartbeats 8000000 in
set_option maxRecDepth 100000 in
theorem refParts_c {A Ak : Option Addr} {n c nk ck : Nat} {b : List UInt8} {ks : List Int} {w : World} {B : Nat} {tb tk : TypeId} (hL : Lies w B tb A (bcells b)) (hn : n = b.length) (hc : b.length ≤ c) (hK : Lies w B tk Ak (ks.map (Value.int .i64))) (hnk : nk = ks.length)
    (hs : b.length ≤ 1099511627776) (hks : ks.length ≤ 1000000000) :
    Calls Try.prog 10 #[.slice A n c, .slice Ak nk ck] w (PartsOk ks b w) := by
  have HL := Lib.hid (hL.old (t' := 0))
  have HK := Lib.hid (hK.old (t' := 0))
  clear hL hK
  subst hn
  subst hnk
  obtain ⟨i0, hi, iz0, iz1, iz2⟩ := info_parts Try.infoPart
  have hr0 : RS 47 w.heap.size 0 (w.alloc (.cells #[.slice A b.length c, .bool false] 47)) w.heap.size (some b) := ⟨Nat.le_refl _, A, c, hc, heap_alloc_new w _, HL.out.alloc (Nat.le_refl _) _⟩
  have HR0 := Lib.hid hr0
  have HB0 := Lib.hid ((Below.refl w.heap.size w).alloc (Nat.le_refl _) (.cells #[.slice A b.length c, .bool false] 47))
  clear hr0
  go_enter Try.func10, Try.ntmps10
  go_wp2_with fail
  go_loopw [7, 16] (fun l i wr => ∃ (k : Nat) (A1 : Option Addr) (n1 c1 : Nat) (ms : List MPt), k ≤ ks.length ∧ i = .int .i64 k ∧ l = .slice A1 n1 c1 ∧ wr.ownsRow w.heap.size 39 6 (.slice A1 n1 c1) ms.length (flat ms) ∧
      (∀ m ∈ ms, wr.ownsRow w.heap.size 5 1 (.slice m.A m.pt.b.length m.c) m.pt.b.length (bcells m.pt.b)) ∧ pts ms = (Cd.rdPs (ks.take k) (some b)).1 ∧ RS 47 w.heap.size 0 wr w.heap.size (Cd.rdPs (ks.take k) (some b)).2 ∧ Below w.heap.size w wr)
    (fun _ i _ => ks.length - (intOf i).toNat)
  case atStart => exact ⟨0, none, 0, 0, [], by omega, rfl, rfl, World.ownsRow_nil _ _ _ _, by simp, rfl, HR0.out, HB0.out⟩
  case round =>
    obtain ⟨k, A1, n1, c1, ms, hk, rfl, rfl, ho, hall, hp, hr, hb⟩ := hrel
    obtain ⟨rfl, _⟩ := own_room ho
    have hml : ms.length = k := by
      have := congrArg List.length hp
      rw [Cd.rdPs_len, List.length_take, Nat.min_eq_left hk] at this
      simpa [pts] using this
    have HSL := Lib.hid (rdPs_rest (ks := ks.take k) hs)
    obtain ⟨s, hsq⟩ : ∃ s, (Cd.rdPs (ks.take k) (some b)).2 = s := ⟨_, rfl⟩
    rw [hsq] at hr HSL
    have HSQ := Lib.hid hsq
    have ML := Lib.hid hml
    have HO := Lib.hid ho
    have HA := Lib.hid hall
    have HP := Lib.hid hp
    have HR := Lib.hid hr
    have HB := Lib.hid hb
    have hbs := hb.size
    clear ho hall hp hsq hr hb hml
    by_cases hlt : k < ks.length
    · obtain ⟨ad, x, rfl, hx, d0⟩ := (HK.out.below (Nat.le_refl _) HB.out).int hlt
      have HX := Lib.hid hx
      clear hx
      have hsn := Cd.rdPs_snoc (ks.take k) x (some b)
      rw [← take_next HX.out, HSQ.out] at hsn
      have HSN := Lib.hid hsn
      clear hsn
      by_cases hk1 : x = 1
      · subst hk1
        have E1 : Hid (Cd.rdP 1 s = ({ Cd.blank 1 with n := ((Cd.rdN Cd.full s).1 : Int) }, (Cd.rdN Cd.full s).2)) := rfl
        go_wp2_with fail
        refine (rN_rr (mz := 18446744073709551615) (HR.out.alloc _) (by decide) HSL.out (by omega)).mono ?_
        rw [full_nat]
        rintro e w' ⟨rfl, hr, hT⟩
        have y0 := hT.blk (heap_alloc_new wr _) (by decide)
        obtain ⟨a0, a1, a2, a3, a4, a5⟩ := six y0
        have f1 := blk_free y0
        have hz1 := hT.size
        simp at hz1
        have T1 := (Tch.refl w.heap.size [39] w').setCell (p := ⟨wr.heap.size, 1, none⟩) y0 (by simp) hbs (.int .u64 ((Cd.rdN Cd.full s).1 : Int))
        have OW := Lib.hid (ownsRow_setCell_other (own_tch (HO.out.alloc _) hT (by decide)) (a := ⟨wr.heap.size, 1, none⟩) (fun e => Nat.lt_irrefl _ (HO.out.lt _ e).2) (.int .u64 ((Cd.rdN Cd.full s).1 : Int)))
        have HR1 := Lib.hid (hr.tch T1 (by decide) (by decide))
        have HT1 := Lib.hid T1
        have HT := Lib.hid hT
        clear hT hr T1 y0
        go_wp2_with (at_builtin; refine wpList_app _ rfl _ _ 22 rfl w.heap.size 39 i0 _ 6 64 Try.underlying22 hi iz0 iz1 iz2 rfl (by decide) _ ms.length (flat ms) rfl (OW.out.alloc _) 0 _ 1 1 (⟨{ Cd.blank 1 with n := ((Cd.rdN Cd.full s).1 : Int) }, none, 0⟩ : MPt).cells 39 rfl rfl (lies_part1 _ (⟨{ Cd.blank 1 with n := ((Cd.rdN Cd.full s).1 : Int) }, none, 0⟩ : MPt)) (cells_one (⟨{ Cd.blank 1 with n := ((Cd.rdN Cd.full s).1 : Int) }, none, 0⟩ : MPt)) (by unfold maxLen; have := ML.out; omega) (by have := ML.out; omega) (by simp; omega) ?_)
        intro v' w2 hown' hgrow _
        obtain ⟨A2, k2, rfl⟩ := own_slice hown'
        have T2 := grown_tch (B := w.heap.size) (ts := [39]) (OW.out.alloc _) hgrow (Nat.le_refl _) (by simp; omega) (by decide)
        have HT2 := Lib.hid T2
        have O2 := Lib.hid hown'
        clear hown' hgrow T2
        go_wp2
        go_roundw
        case rel =>
          refine ⟨k + 1, A2, _, k2, ms ++ [(⟨{ Cd.blank 1 with n := ((Cd.rdN Cd.full s).1 : Int) }, none, 0⟩ : MPt)], by omega, by go_num, rfl, ?_, ?_, ?_, ?_, ?_⟩
          · rw [flat_snoc, List.length_append]; exact O2.out
          · intro q hq
            rw [List.mem_append, List.mem_singleton] at hq
            refine own_tch ((own_tch (?_ : w'.ownsRow _ _ _ _ _ _) HT1.out (by decide)).alloc _) HT2.out (by decide)
            rcases hq with hq | rfl
            · exact own_tch ((HA.out q hq).alloc _) HT.out (by decide)
            · exact World.ownsRow_nil _ _ _ _
          · rw [HSN.out]
            show pts (ms ++ [(⟨{ Cd.blank 1 with n := ((Cd.rdN Cd.full s).1 : Int) }, none, 0⟩ : MPt)]) = (Cd.rdPs (ks.take k) (some b)).1 ++ [(Cd.rdP 1 s).1]
            rw [← HP.out, E1.out]; simp [pts]
          · rw [HSN.out]
            show RS _ _ _ _ _ (Cd.rdP 1 s).2
            rw [E1.out]
            exact (HR1.out.alloc _).tch HT2.out (by decide) (by decide)
          · exact ((((HB.out.alloc hbs _).trans HT.out.below).trans HT1.out.below).alloc (by simp; omega) _).trans HT2.out.below
        case measure => simp [intOf]; omega
      by_cases hk2 : x = 2
      · subst hk2
        have E1 : Hid (Cd.rdP 2 s = ({ Cd.blank 2 with i := (Cd.rdI s).1 }, (Cd.rdI s).2)) := rfl
        go_wp2_with fail
        refine (rI_rr (HR.out.alloc _) (by decide) HSL.out).mono ?_
        rintro e w' ⟨rfl, hr, hT⟩
        have y0 := hT.blk (heap_alloc_new wr _) (by decide)
        obtain ⟨a0, a1, a2, a3, a4, a5⟩ := six y0
        have f1 := blk_free y0
        have hz1 := hT.size
        simp at hz1
        have T1 := (Tch.refl w.heap.size [39] w').setCell (p := ⟨wr.heap.size, 2, none⟩) y0 (by simp) hbs (.int .i64 (Cd.rdI s).1)
        have OW := Lib.hid (ownsRow_setCell_other (own_tch (HO.out.alloc _) hT (by decide)) (a := ⟨wr.heap.size, 2, none⟩) (fun e => Nat.lt_irrefl _ (HO.out.lt _ e).2) (.int .i64 (Cd.rdI s).1))
        have HR1 := Lib.hid (hr.tch T1 (by decide) (by decide))
        have HT1 := Lib.hid T1
        have HT := Lib.hid hT
        clear hT hr T1 y0
        go_wp2_with (at_builtin; refine wpList_app _ rfl _ _ 22 rfl w.heap.size 39 i0 _ 6 64 Try.underlying22 hi iz0 iz1 iz2 rfl (by decide) _ ms.length (flat ms) rfl (OW.out.alloc _) 0 _ 1 1 (⟨{ Cd.blank 2 with i := (Cd.rdI s).1 }, none, 0⟩ : MPt).cells 39 rfl rfl (lies_part1 _ (⟨{ Cd.blank 2 with i := (Cd.rdI s).1 }, none, 0⟩ : MPt)) (cells_one (⟨{ Cd.blank 2 with i := (Cd.rdI s).1 }, none, 0⟩ : MPt)) (by unfold maxLen; have := ML.out; omega) (by have := ML.out; omega) (by simp; omega) ?_)
        intro v' w2 hown' hgrow _
        obtain ⟨A2, k2, rfl⟩ := own_slice hown'
        have T2 := grown_tch (B := w.heap.size) (ts := [39]) (OW.out.alloc _) hgrow (Nat.le_refl _) (by simp; omega) (by decide)
        have HT2 := Lib.hid T2
        have O2 := Lib.hid hown'
        clear hown' hgrow T2
        go_wp2
        go_roundw
        case rel =>
          refine ⟨k + 1, A2, _, k2, ms ++ [(⟨{ Cd.blank 2 with i := (Cd.rdI s).1 }, none, 0⟩ : MPt)], by omega, by go_num, rfl, ?_, ?_, ?_, ?_, ?_⟩
          · rw [flat_snoc, List.length_append]; exact O2.out
          · intro q hq
            rw [List.mem_append, List.mem_singleton] at hq
            refine own_tch ((own_tch (?_ : w'.ownsRow _ _ _ _ _ _) HT1.out (by decide)).alloc _) HT2.out (by decide)
            rcases hq with hq | rfl
            · exact own_tch ((HA.out q hq).alloc _) HT.out (by decide)
            · exact World.ownsRow_nil _ _ _ _
          · rw [HSN.out]
            show pts (ms ++ [(⟨{ Cd.blank 2 with i := (Cd.rdI s).1 }, none, 0⟩ : MPt)]) = (Cd.rdPs (ks.take k) (some b)).1 ++ [(Cd.rdP 2 s).1]
            rw [← HP.out, E1.out]; simp [pts]
          · rw [HSN.out]
            show RS _ _ _ _ _ (Cd.rdP 2 s).2
            rw [E1.out]
            exact (HR1.out.alloc _).tch HT2.out (by decide) (by decide)
          · exact ((((HB.out.alloc hbs _).trans HT.out.below).trans HT1.out.below).alloc (by simp; omega) _).trans HT2.out.below
        case measure => simp [intOf]; omega
      by_cases hk3 : x = 3
      · subst hk3
        have E1 : Hid (Cd.rdP 3 s = ({ Cd.blank 3 with f := (Cd.rdF s).1 }, (Cd.rdF s).2)) := rfl
        go_wp2_with fail
        refine (rF_rr (HR.out.alloc _) (by decide) HSL.out).mono ?_
        rintro e w' ⟨rfl, hr, hT⟩
        have y0 := hT.blk (heap_alloc_new wr _) (by decide)
        obtain ⟨a0, a1, a2, a3, a4, a5⟩ := six y0
        have f1 := blk_free y0
        have hz1 := hT.size
        simp at hz1
        have T1 := (Tch.refl w.heap.size [39] w').setCell (p := ⟨wr.heap.size, 3, none⟩) y0 (by simp) hbs (.float .f64 (Cd.rdF s).1)
        have OW := Lib.hid (ownsRow_setCell_other (own_tch (HO.out.alloc _) hT (by decide)) (a := ⟨wr.heap.size, 3, none⟩) (fun e => Nat.lt_irrefl _ (HO.out.lt _ e).2) (.float .f64 (Cd.rdF s).1))
        have HR1 := Lib.hid (hr.tch T1 (by decide) (by decide))
        have HT1 := Lib.hid T1
        have HT := Lib.hid hT
        clear hT hr T1 y0
        go_wp2_with (at_builtin; refine wpList_app _ rfl _ _ 22 rfl w.heap.size 39 i0 _ 6 64 Try.underlying22 hi iz0 iz1 iz2 rfl (by decide) _ ms.length (flat ms) rfl (OW.out.alloc _) 0 _ 1 1 (⟨{ Cd.blank 3 with f := (Cd.rdF s).1 }, none, 0⟩ : MPt).cells 39 rfl rfl (lies_part1 _ (⟨{ Cd.blank 3 with f := (Cd.rdF s).1 }, none, 0⟩ : MPt)) (cells_one (⟨{ Cd.blank 3 with f := (Cd.rdF s).1 }, none, 0⟩ : MPt)) (by unfold maxLen; have := ML.out; omega) (by have := ML.out; omega) (by simp; omega) ?_)
        intro v' w2 hown' hgrow _
        obtain ⟨A2, k2, rfl⟩ := own_slice hown'
        have T2 := grown_tch (B := w.heap.size) (ts := [39]) (OW.out.alloc _) hgrow (Nat.le_refl _) (by simp; omega) (by decide)
        have HT2 := Lib.hid T2
        have O2 := Lib.hid hown'
        clear hown' hgrow T2
        go_wp2
        go_roundw
        case rel =>
          refine ⟨k + 1, A2, _, k2, ms ++ [(⟨{ Cd.blank 3 with f := (Cd.rdF s).1 }, none, 0⟩ : MPt)], by omega, by go_num, rfl, ?_, ?_, ?_, ?_, ?_⟩
          · rw [flat_snoc, List.length_append]; exact O2.out
          · intro q hq
            rw [List.mem_append, List.mem_singleton] at hq
            refine own_tch ((own_tch (?_ : w'.ownsRow _ _ _ _ _ _) HT1.out (by decide)).alloc _) HT2.out (by decide)
            rcases hq with hq | rfl
            · exact own_tch ((HA.out q hq).alloc _) HT.out (by decide)
            · exact World.ownsRow_nil _ _ _ _
          · rw [HSN.out]
            show pts (ms ++ [(⟨{ Cd.blank 3 with f := (Cd.rdF s).1 }, none, 0⟩ : MPt)]) = (Cd.rdPs (ks.take k) (some b)).1 ++ [(Cd.rdP 3 s).1]
            rw [← HP.out, E1.out]; simp [pts]
          · rw [HSN.out]
            show RS _ _ _ _ _ (Cd.rdP 3 s).2
            rw [E1.out]
            exact (HR1.out.alloc _).tch HT2.out (by decide) (by decide)
          · exact ((((HB.out.alloc hbs _).trans HT.out.below).trans HT1.out.below).alloc (by simp; omega) _).trans HT2.out.below
        case measure => simp [intOf]; omega
      by_cases hk4 : x = 4
      · subst hk4
        have E1 : Hid (Cd.rdP 4 s = ({ Cd.blank 4 with b := (Cd.rdB 65536 s).1 }, (Cd.rdB 65536 s).2)) := rfl
        go_wp2_with fail
        refine (rB_rr (mz := 65536) (HR.out.alloc _) (by decide) HSL.out (by omega) (by omega)).mono ?_
        rw [show (65536 : Int).toNat = 65536 from rfl]
        rintro e w' ⟨Ab, nb, cb, rfl, hob, hr, hT⟩
        obtain ⟨hnb, _⟩ := own_room hob
        subst hnb
        have HOb := Lib.hid (own_less hob (b := w.heap.size) (by simp; omega))
        clear hob
        have y0 := hT.blk (heap_alloc_new wr _) (by decide)
        obtain ⟨a0, a1, a2, a3, a4, a5⟩ := six y0
        have f1 := blk_free y0
        have hz1 := hT.size
        simp at hz1
        have T1 := (Tch.refl w.heap.size [39] w').setCell (p := ⟨wr.heap.size, 4, none⟩) y0 (by simp) hbs (.slice Ab (Cd.rdB 65536 s).1.length cb)
        have OW := Lib.hid (ownsRow_setCell_other (own_tch (HO.out.alloc _) hT (by decide)) (a := ⟨wr.heap.size, 4, none⟩) (fun e => Nat.lt_irrefl _ (HO.out.lt _ e).2) (.slice Ab (Cd.rdB 65536 s).1.length cb))
        have HR1 := Lib.hid (hr.tch T1 (by decide) (by decide))
        have HT1 := Lib.hid T1
        have HT := Lib.hid hT
        clear hT hr T1 y0
        go_wp2_with (at_builtin; refine wpList_app _ rfl _ _ 22 rfl w.heap.size 39 i0 _ 6 64 Try.underlying22 hi iz0 iz1 iz2 rfl (by decide) _ ms.length (flat ms) rfl (OW.out.alloc _) 0 _ 1 1 (⟨{ Cd.blank 4 with b := (Cd.rdB 65536 s).1 }, Ab, cb⟩ : MPt).cells 39 rfl rfl (lies_part1 _ (⟨{ Cd.blank 4 with b := (Cd.rdB 65536 s).1 }, Ab, cb⟩ : MPt)) (cells_one (⟨{ Cd.blank 4 with b := (Cd.rdB 65536 s).1 }, Ab, cb⟩ : MPt)) (by unfold maxLen; have := ML.out; omega) (by have := ML.out; omega) (by simp; omega) ?_)
        intro v' w2 hown' hgrow _
        obtain ⟨A2, k2, rfl⟩ := own_slice hown'
        have T2 := grown_tch (B := w.heap.size) (ts := [39]) (OW.out.alloc _) hgrow (Nat.le_refl _) (by simp; omega) (by decide)
        have HT2 := Lib.hid T2
        have O2 := Lib.hid hown'
        clear hown' hgrow T2
        go_wp2
        go_roundw
        case rel =>
          refine ⟨k + 1, A2, _, k2, ms ++ [(⟨{ Cd.blank 4 with b := (Cd.rdB 65536 s).1 }, Ab, cb⟩ : MPt)], by omega, by go_num, rfl, ?_, ?_, ?_, ?_, ?_⟩
          · rw [flat_snoc, List.length_append]; exact O2.out
          · intro q hq
            rw [List.mem_append, List.mem_singleton] at hq
            refine own_tch ((own_tch (?_ : w'.ownsRow _ _ _ _ _ _) HT1.out (by decide)).alloc _) HT2.out (by decide)
            rcases hq with hq | rfl
            · exact own_tch ((HA.out q hq).alloc _) HT.out (by decide)
            · exact HOb.out
          · rw [HSN.out]
            show pts (ms ++ [(⟨{ Cd.blank 4 with b := (Cd.rdB 65536 s).1 }, Ab, cb⟩ : MPt)]) = (Cd.rdPs (ks.take k) (some b)).1 ++ [(Cd.rdP 4 s).1]
            rw [← HP.out, E1.out]; simp [pts]
          · rw [HSN.out]
            show RS _ _ _ _ _ (Cd.rdP 4 s).2
            rw [E1.out]
            exact (HR1.out.alloc _).tch HT2.out (by decide) (by decide)
          · exact ((((HB.out.alloc hbs _).trans HT.out.below).trans HT1.out.below).alloc (by simp; omega) _).trans HT2.out.below
        case measure => simp [intOf]; omega
      by_cases hk5 : x = 5
      · subst hk5
        have E1 : Hid (Cd.rdP 5 s = ({ Cd.blank 5 with is := (Cd.rdG s).1 }, (Cd.rdG s).2)) := rfl
        go_wp2_with fail
        refine (rG_rr (HR.out.alloc _) (by decide) HSL.out).mono ?_
        rintro e w' ⟨rfl, hr, hT⟩
        have y0 := hT.blk (heap_alloc_new wr _) (by decide)
        obtain ⟨a0, a1, a2, a3, a4, a5⟩ := six y0
        have f1 := blk_free y0
        have hz1 := hT.size
        simp at hz1
        have T1 := (Tch.refl w.heap.size [39] w').setCell (p := ⟨wr.heap.size, 5, none⟩) y0 (by simp) hbs (.bool (Cd.rdG s).1)
        have OW := Lib.hid (ownsRow_setCell_other (own_tch (HO.out.alloc _) hT (by decide)) (a := ⟨wr.heap.size, 5, none⟩) (fun e => Nat.lt_irrefl _ (HO.out.lt _ e).2) (.bool (Cd.rdG s).1))
        have HR1 := Lib.hid (hr.tch T1 (by decide) (by decide))
        have HT1 := Lib.hid T1
        have HT := Lib.hid hT
        clear hT hr T1 y0
        go_wp2_with (at_builtin; refine wpList_app _ rfl _ _ 22 rfl w.heap.size 39 i0 _ 6 64 Try.underlying22 hi iz0 iz1 iz2 rfl (by decide) _ ms.length (flat ms) rfl (OW.out.alloc _) 0 _ 1 1 (⟨{ Cd.blank 5 with is := (Cd.rdG s).1 }, none, 0⟩ : MPt).cells 39 rfl rfl (lies_part1 _ (⟨{ Cd.blank 5 with is := (Cd.rdG s).1 }, none, 0⟩ : MPt)) (cells_one (⟨{ Cd.blank 5 with is := (Cd.rdG s).1 }, none, 0⟩ : MPt)) (by unfold maxLen; have := ML.out; omega) (by have := ML.out; omega) (by simp; omega) ?_)
        intro v' w2 hown' hgrow _
        obtain ⟨A2, k2, rfl⟩ := own_slice hown'
        have T2 := grown_tch (B := w.heap.size) (ts := [39]) (OW.out.alloc _) hgrow (Nat.le_refl _) (by simp; omega) (by decide)
        have HT2 := Lib.hid T2
        have O2 := Lib.hid hown'
        clear hown' hgrow T2
        go_wp2
        go_roundw
        case rel =>
          refine ⟨k + 1, A2, _, k2, ms ++ [(⟨{ Cd.blank 5 with is := (Cd.rdG s).1 }, none, 0⟩ : MPt)], by omega, by go_num, rfl, ?_, ?_, ?_, ?_, ?_⟩
          · rw [flat_snoc, List.length_append]; exact O2.out
          · intro q hq
            rw [List.mem_append, List.mem_singleton] at hq
            refine own_tch ((own_tch (?_ : w'.ownsRow _ _ _ _ _ _) HT1.out (by decide)).alloc _) HT2.out (by decide)
            rcases hq with hq | rfl
            · exact own_tch ((HA.out q hq).alloc _) HT.out (by decide)
            · exact World.ownsRow_nil _ _ _ _
          · rw [HSN.out]
            show pts (ms ++ [(⟨{ Cd.blank 5 with is := (Cd.rdG s).1 }, none, 0⟩ : MPt)]) = (Cd.rdPs (ks.take k) (some b)).1 ++ [(Cd.rdP 5 s).1]
            rw [← HP.out, E1.out]; simp [pts]
          · rw [HSN.out]
            show RS _ _ _ _ _ (Cd.rdP 5 s).2
            rw [E1.out]
            exact (HR1.out.alloc _).tch HT2.out (by decide) (by decide)
          · exact ((((HB.out.alloc hbs _).trans HT.out.below).trans HT1.out.below).alloc (by simp; omega) _).trans HT2.out.below
        case measure => simp [intOf]; omega
      · have e6 : Cd.rdP x s = (Cd.blank x, none) := by unfold Cd.rdP; simp [hk1, hk2, hk3, hk4, hk5]
        have hbad : (Cd.rdPs ks (some b)).2 ≠ some [] := by
          have q : (Cd.rdPs (ks.take (k + 1)) (some b)).2 = none := by rw [HSN.out]; exact congrArg Prod.snd e6
          have q2 := Cd.rdPs_fail (js := ks.drop (k + 1)) q
          rw [List.take_append_drop] at q2
          rw [q2]; simp
        have BAD := Lib.hid (parts_bad hbad)
        clear e6 hbad
        go_wp2
        go_ret2
        exact ⟨[], none, 0, by rw [BAD.out.2]; rfl, PL.nil, by rw [BAD.out.1]; rfl, HB.out.alloc hbs _⟩
    · obtain rfl : k = ks.length := by omega
      have hp := HP.out
      have he := HSQ.out
      rw [List.take_length] at hp he
      by_cases hs2 : s = some []
      · subst hs2
        have G := Lib.hid (parts_good he)
        have HP2 := Lib.hid hp
        clear he hp
        go_wp2_with (go_at_call 31; refine (end_rr HR.out).mono ?_; rintro e w' ⟨rfl, rfl⟩)
        go_ret2
        exact ⟨ms, A1, c1, by rw [G.out.2]; rfl, ⟨Lies.of_own HO.out, fun m hm => ⟨Lies.of_own (HA.out m hm), (own_room (HA.out m hm)).2⟩⟩, by rw [G.out.1]; exact HP2.out, HB.out⟩
      · have G := Lib.hid (parts_bad (ks := ks) (b := b) (by rw [he]; exact hs2))
        have e20 : endOf s = 20 := by
          match s, hs2 with
          | none, _ => rfl
          | some [], h => exact absurd rfl h
          | some (_ :: _), _ => rfl
        have E20 := Lib.hid e20
        have n1 : (endOf s != 0) = true := by rw [e20]; rfl
        have n2 : (endOf s == 0) = false := by rw [e20]; rfl
        clear he hp hs2 e20
        go_wp2_with (go_at_call 31; refine (end_rr HR.out).mono ?_; rintro e w' ⟨rfl, rfl⟩)
        go_ret2
        exact ⟨[], none, 0, by rw [G.out.2]; rfl, PL.nil, by rw [G.out.1]; rfl, HB.out⟩
end Go.Proofs.Ytobdaiiojclfkaa
