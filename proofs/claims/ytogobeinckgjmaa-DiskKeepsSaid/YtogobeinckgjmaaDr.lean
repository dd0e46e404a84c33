/- Contracts of the document's own Disk: Fault, Read. -/
import Derived.Test.YtogobeinckgjmaaDn
namespace Go.Proofs.Ytogobeinckgjmaa
open Go.RowKit

theorem wr_at {w : World} {B : Nat} {t : TypeId} {A : Option Addr} {l : List MWr} (h : Lies w B t A (wcells l)) {k : Nat} (hk : k < l.length) : ∃ ad x, A = some ad ∧ l[k]? = some x ∧
    w.cell? (ad.add (k * 2)) = some (.int .i64 (x.i : Int)) ∧ w.cell? ⟨(ad.add (k * 2)).block, (ad.add (k * 2)).off + 1, none⟩ = some (.slice x.m.A x.m.b.length x.m.c) := by
  have hx : l[k]? = some l[k] := List.getElem?_eq_getElem hk
  obtain ⟨ad, e, _, hc⟩ := h (fun q => by
    have := wcells_len l
    rw [q] at this
    simp at this
    omega)
  have c : ∀ j u, j < 2 → (l[k]).cells[j]? = some u → w.cell? ((ad.add (k * 2)).add j) = some u := fun j u hj hu => by
    rw [addr_add]
    exact hc _ _ ((wcells_at hx hj).trans hu)
  exact ⟨ad, l[k], e, hx, c 0 _ (by omega) rfl, c 1 _ (by omega) rfl⟩
theorem bools_set (l : List Bool) (j : Nat) (x : Bool) : (l.map Value.bool).set j (.bool x) = (l.set j x).map Value.bool := by rw [List.map_set]

set_option maxHeartbeats 1000000 in
theorem refFault_c {w : World} {F : Nat → Prop} {p : Nat} {d : Dk.D} (h : RD w F p d) (hd : d.ok) (i : Int) (on : Bool) :
    Calls Try.prog 22 #[.pointer (some ⟨p, 0, none⟩), .int .i64 i, .bool on] w (DiskOk0 F p (Dk.fault d i on) w) := by
  have H := Lib.hid h
  obtain ⟨AS, AC, AB, cS, cC, cB, ms, cs, r, e1, e2⟩ := h
  obtain ⟨_, _, c2, _, _, _⟩ := r.fields
  have R := Lib.hid r
  have E1 := Lib.hid e1
  have E2 := Lib.hid e2
  have hb := hd.bads
  have hf := hd.few
  clear r e1 e2 hd
  cases hh : Dk.has d i
  · have he : Dk.fault d i on = d := by unfold Dk.fault; rw [if_neg (by rw [hh]; simp)]
    have HE := Lib.hid he
    have HH := Lib.hid hh
    clear he hh hb
    go_enter Try.func22, Try.ntmps22
    go_wp2_with fail
    refine (refHas_c H.out i).mono ?_
    rw [HH.out]
    rintro e w1 ⟨rfl, rfl⟩
    go_wp2
    go_end0
    rw [HE.out]
    exact ⟨rfl, H.out.mono up_self, But.refl _ _ _⟩
  · obtain ⟨h0, h1⟩ := Dk.has_iff.1 hh
    obtain ⟨k, rfl⟩ := Int.eq_ofNat_of_zero_le h0
    have he : Dk.fault d (k : Int) on = { d with bad := d.bad.set k on } := by unfold Dk.fault; rw [if_pos hh]; rfl
    have hk : k < d.bad.length := by omega
    obtain ⟨g, rfl, _, _, hcell, hfrz⟩ := own_at R.out.b (by omega)
    have cg := hcell k (.bool d.bad[k]) (by rw [List.getElem?_map, List.getElem?_eq_getElem hk]; rfl)
    have fg := hfrz k
    have hki : (k : Int) < (d.bad.length : Int) := by omega
    have fg2 := R.out.bF _ rfl
    obtain ⟨_, bcs, bfr, hgb⟩ := own_row R.out.b g rfl
    have HGB := Lib.hid hgb
    have HE := Lib.hid he
    have HH := Lib.hid hh
    have KL := Lib.hid (show d.bad.length = (d.bad.set k on).length by rw [List.length_set])
    clear he hh hb hcell hfrz hgb h1 hf
    go_enter Try.func22, Try.ntmps22
    go_wp2_with fail
    refine (refHas_c H.out k).mono ?_
    rw [HH.out]
    rintro e w1 ⟨rfl, rfl⟩
    go_wp2
    go_end0
    rw [HE.out]
    have st := (R.out.b.stored k (.bool on)).1
    rw [bools_set] at st
    have off : ∀ j, j ≠ g → (w.setCell ⟨g, k, none⟩ (.bool on)).heap[j]? = w.heap[j]? := fun _ q => Below.heap_setCell _ _ _ _ q
    refine ⟨rfl, ⟨AS, AC, some ⟨g, 0, none⟩, cS, cC, cB, ms, cs, ⟨Or.inl R.out.fp, ?_, own_off R.out.s HGB.out (by decide) off, R.out.sF.mono up_self, fun m hm => ((R.out.held m hm).off HGB.out (by decide) off).mono up_self, own_off R.out.c HGB.out (by decide) off, R.out.cF.mono up_self, fun x hx => ((R.out.heldC x hx).off HGB.out (by decide) off).mono up_self, ?_, R.out.bF.mono up_self⟩, E1.out, E2.out⟩, (But.refl _ _ _).setCell (Or.inl fg2) _⟩
    · have := blk_far R.out.cell (p := ⟨g, k, none⟩) (blk_ne R.out.cell HGB.out (by decide)) (.bool on)
      rw [this]
      simp
    · show (w.setCell ⟨g, k, none⟩ (.bool on)).ownsRow 0 _ 1 (.slice (some ⟨g, 0, none⟩) (d.bad.set k on).length cB) (d.bad.set k on).length _
      rw [← KL.out]
      exact st

theorem seen_snoc (s : List UInt8) (i : Nat) (c : List (Nat × List UInt8)) (x : Nat × List UInt8) : Dk.seen s i (c ++ [x]) = if x.1 = i then x.2 else Dk.seen s i c := by
  unfold Dk.seen
  rw [List.foldl_append]
  rfl

theorem Held.below {w w' : World} {F : Nat → Prop} {m : MTx} (h : Held w F m) (hb : Below w.heap.size w w') : Held w' F m := ⟨⟨h.1.1.below (Nat.zero_le _) hb, h.1.2⟩, h.2⟩

set_option maxHeartbeats 2000000 in
theorem refRead_c {w : World} {F : Nat → Prop} {p : Nat} {d : Dk.D} (h : RD w F p d) (hd : d.ok) (hcl : d.cache.length ≤ 1000000000) (i : Int) :
    Calls Try.prog 14 #[.pointer (some ⟨p, 0, none⟩), .int .i64 i] w (BErrOk w.heap.size (Dk.read d i).2 (Dk.read d i).1 w) := by
  have H := Lib.hid h
  obtain ⟨AS, AC, AB, cS, cC, cB, ms, cs, r, e1, e2⟩ := h
  obtain ⟨c0, c1, c2, _, c4, _⟩ := r.fields
  have R := Lib.hid r
  have E1 := Lib.hid e1
  have E2 := Lib.hid e2
  have hb := hd.bads
  have hf := hd.few
  have HD := Lib.hid hd
  have hcn : cs.length ≤ 1000000000 := by rw [← wrs_len cs, e2]; exact hcl
  have hmn : ms.length = d.s.length := by rw [← txs_len ms, e1]
  clear r e1 e2 hd hcl
  obtain ⟨ti, hi, iz0, iz1, iz2⟩ := info_parts Try.infoU8
  cases hdd : d.dead
  · cases hh : Dk.has d i
    · have he : Dk.read d i = ([], 1) := by unfold Dk.read; rw [if_neg (by rw [hdd]; simp), if_pos hh]
      rw [he]
      rw [hdd] at c4
      have HH := Lib.hid hh
      clear he hh hdd hb hmn c0 c1 c2
      go_enter Try.func14, Try.ntmps14
      go_wp2_with fail
      refine (refHas_c H.out i).mono ?_
      rw [HH.out]
      rintro e w1 ⟨rfl, rfl⟩
      go_wp2
      go_ret2
      exact BErrOk.bad (Below.refl _ _)
    · obtain ⟨h0, h1⟩ := Dk.has_iff.1 hh
      obtain ⟨k, rfl⟩ := Int.eq_ofNat_of_zero_le h0
      have hk : k < d.bad.length := by omega
      obtain ⟨g, rfl, _, _, hcell, _⟩ := own_at R.out.b (by omega)
      have cg := hcell k (.bool d.bad[k]) (by rw [List.getElem?_map, List.getElem?_eq_getElem hk]; rfl)
      have hki : (k : Int) < (d.bad.length : Int) := by omega
      rw [hdd] at c4
      have HH := Lib.hid hh
      cases hbk : d.bad[k]
      · have he : Dk.read d (k : Int) = (Dk.look d k, 0) := by
          unfold Dk.read
          rw [if_neg (by rw [hdd]; simp), if_neg (by rw [hh]; simp), if_neg]
          · rfl
          · rw [Int.toNat_natCast, List.getD_eq_getElem?_getD, List.getElem?_eq_getElem hk, hbk]; simp
        rw [he]
        rw [hbk] at cg
        have hkm : k < ms.length := by omega
        obtain ⟨gs, rfl, _, _, hcs, _⟩ := own_at R.out.s (by omega)
        obtain ⟨m0, hm0⟩ : ∃ m0, ms[k]? = some m0 := ⟨_, List.getElem?_eq_getElem hkm⟩
        have cs0 := hcs k m0.cell (by rw [tcells, List.getElem?_map, hm0]; rfl)
        unfold MTx.cell at cs0
        have hkm' : (k : Int) < (ms.length : Int) := by omega
        have hs0 : d.s.getD k [] = m0.b := by
          rw [List.getD_eq_getElem?_getD, ← E1.out, txs, List.getElem?_map, hm0]; rfl
        have HS0 := Lib.hid hs0
        have HM0 := Lib.hid (R.out.held m0 (List.mem_of_getElem? hm0))
        have HC := Lib.hid (Lies.of_own (B := 0) R.out.c)
        clear he hh hdd hb hmn hcell hbk hcs hm0 hs0 h1 hk
        go_enter Try.func14, Try.ntmps14
        go_wp2_with fail
        refine (refHas_c H.out k).mono ?_
        rw [HH.out]
        rintro e w1 ⟨rfl, rfl⟩
        go_wp2_with fail
        clear c0 c1 c2 c4 cg cs0
        go_loopw [6, 36] (fun b i wr => ∃ (j : Nat) (m : MTx), j ≤ cs.length ∧ i = .int .i64 j ∧ b = .slice m.A m.b.length m.c ∧ Held wr F m ∧ m.b = Dk.seen m0.b k (wrs (cs.take j)) ∧ Below w.heap.size w wr) (fun _ i _ => cs.length - (intOf i).toNat)
        case atStart => exact ⟨0, m0, Nat.zero_le _, rfl, rfl, HM0.out, rfl, Below.refl _ _⟩
        case round =>
          obtain ⟨j, m, hj, rfl, rfl, hm, hmb, hbw⟩ := hrel
          have HM := Lib.hid hm
          have HMB := Lib.hid hmb
          have HB := Lib.hid hbw
          have hz := hbw.size
          clear hm hmb hbw
          by_cases hlt : j < cs.length
          · obtain ⟨ad, x, rfl, hx, d0, d1⟩ := wr_at (HC.out.below (Nat.zero_le _) HB.out) hlt
            have HX := Lib.hid hx
            have HXM := Lib.hid ((R.out.heldC x (List.mem_of_getElem? hx)).below HB.out)
            clear hx
            have keep : ∀ {q : MTx} (o : Obj), Held wr F q → Held (wr.alloc o) F q := fun o hq => hq.below ((Below.refl _ _).alloc (Nat.le_refl _) o)
            cases hq : ((x.i : Int) == (k : Int))
            · go_wp2
              go_roundw
              case rel =>
                refine ⟨j + 1, m, by omega, by go_num, rfl, keep _ HM.out, ?_, HB.out.alloc hz _⟩
                have nq : ¬ x.i = k := fun e => by rw [e] at hq; simp at hq
                rw [take_next HX.out, wrs_snoc, seen_snoc, if_neg nq]
                exact HMB.out
              case measure => simp [intOf]; omega
            · go_wp2
              go_roundw
              case rel =>
                refine ⟨j + 1, x.m, by omega, by go_num, rfl, keep _ HXM.out, ?_, HB.out.alloc hz _⟩
                rw [take_next HX.out, wrs_snoc, seen_snoc, if_pos (by have := eq_of_beq hq; omega)]
              case measure => simp [intOf]; omega
          · obtain rfl : j = cs.length := by omega
            have hmb := HMB.out
            rw [List.take_length, E2.out, ← HS0.out] at hmb
            have HMB2 : Hid (m.b = Dk.look d k) := hmb
            have L64 := Lib.hid HM.out.2.2
            clear hmb
            go_wp2_with (at_builtin; refine wpList_app _ rfl _ _ 29 rfl w.heap.size 5 ti (.int .u8 0) 1 1 Try.underlying29 hi iz0 iz1 iz2 rfl (by decide) _ 0 [] rfl (World.ownsRow_nil _ _ _ _) 0 m.A m.b.length m.c (bcells m.b) 5 rfl (by rw [bcells_len]; omega) HM.out.1.1 (bcells_one _) (by unfold maxLen; have := L64.out; omega) (by have := L64.out; omega) hz ?_)
            intro v' w2 hown hgrow _
            obtain ⟨A1, k1, rfl⟩ := own_slice hown
            have HB2 := Lib.hid (HB.out.trans (app_below0 (B := w.heap.size) (World.ownsRow_nil _ _ 5 1) hgrow hz))
            have O1 := Lib.hid hown
            clear hown hgrow
            go_wp2
            go_ret2
            refine ⟨A1, _, k1, rfl, by rw [← HMB2.out], (own_room O1.out).2, ?_, HB2.out⟩
            rw [← HMB2.out]
            exact O1.out
      · have he : Dk.read d (k : Int) = ([], 52) := by
          unfold Dk.read
          rw [if_neg (by rw [hdd]; simp), if_neg (by rw [hh]; simp), if_pos]
          rw [Int.toNat_natCast, List.getD_eq_getElem?_getD, List.getElem?_eq_getElem hk, hbk]; simp
        rw [he]
        rw [hbk] at cg
        clear he hh hdd hb hmn hcell hbk h1 hk
        go_enter Try.func14, Try.ntmps14
        go_wp2_with fail
        refine (refHas_c H.out k).mono ?_
        rw [HH.out]
        rintro e w1 ⟨rfl, rfl⟩
        go_wp2
        go_ret2
        exact BErrOk.bad (Below.refl _ _)
  · have he : Dk.read d i = ([], 50) := by unfold Dk.read; rw [if_pos hdd]
    rw [he]
    rw [hdd] at c4
    clear he hdd hb hmn c0 c1 c2
    go_enter Try.func14, Try.ntmps14
    go_wp2
    go_ret2
    exact BErrOk.bad (Below.refl _ _)
end Go.Proofs.Ytogobeinckgjmaa
