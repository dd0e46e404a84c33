/- Contracts of the document's own Disk: Fault, Read. Contracts of the document's own Disk: Flush, Crash. Contract of the document's own Disk: Crash. -/
import Derived.Test.YtbfkjneidabijaaGreatDm
namespace Go.Proofs.YtbfkjneidabijaaGreat
open Go.RowKit
set_option maxRecDepth 100000

theorem wr_at {w : World} {B : Nat} {t : TypeId} {A : Option Addr} {l : List MWr} (h : Lies w B t A (wcells l)) {k : Nat} (hk : k < l.length) : ∃ ad x, A = some ad ∧ l[k]? = some x ∧
    w.cell? (ad.add (k * 2)) = some (.int .i64 (x.i : Int)) ∧ w.cell? ⟨(ad.add (k * 2)).block, (ad.add (k * 2)).off + 1, none⟩ = some (.slice x.m.A x.m.b.length x.m.c) := by
  have hx : l[k]? = some l[k] := List.getElem?_eq_getElem hk
  obtain ⟨ad, e, _, hc⟩ := h (fun q => by
    have := wcells_len l
    rw [q] at this
    simp at this
    omega)
  have c : ∀ j u, j < 2 → (l[k]).cells[j]? = some u → w.cell? ((ad.add (k * 2)).add j) = some u := fun j u hj hu => by
    rw [addr_add]
    exact hc _ _ ((wcells_at hx hj).trans hu)
  exact ⟨ad, l[k], e, hx, c 0 _ (by omega) rfl, c 1 _ (by omega) rfl⟩
theorem bools_set (l : List Bool) (j : Nat) (x : Bool) : (l.map Value.bool).set j (.bool x) = (l.set j x).map Value.bool := by rw [List.map_set]

set_option maxHeartbeats 1000000 in
theorem refFault_c {w : World} {F : Nat → Prop} {p : Nat} {d : Dk.D} (h : RD w F p d) (hd : d.ok) (i : Int) (on : Bool) :
    Calls Tryz.prog 31 #[.pointer (some ⟨p, 0, none⟩), .int .i64 i, .bool on] w (DiskOk0 F p (Dk.fault d i on) w) := by
  have H := Lib.hid h
  obtain ⟨AS, AC, AB, cS, cC, cB, ms, cs, r, e1, e2⟩ := h
  obtain ⟨_, _, c2, _, _, _⟩ := r.fields
  have R := Lib.hid r
  have E1 := Lib.hid e1
  have E2 := Lib.hid e2
  have hb := hd.bads
  have hf := hd.few
  clear r e1 e2 hd
  cases hh : Dk.has d i
  · have he : Dk.fault d i on = d := by unfold Dk.fault; rw [if_neg (by rw [hh]; simp)]
    have HE := Lib.hid he
    have HH := Lib.hid hh
    clear he hh hb
    go_enter Tryz.func31, Tryz.ntmps31
    go_wp2_with fail
    refine (refHas_c H.out i).mono ?_
    rw [HH.out]
    rintro e w1 ⟨rfl, rfl⟩
    go_wp2
    go_end0
    rw [HE.out]
    exact ⟨rfl, H.out.mono up_self, But.refl _ _ _⟩
  · obtain ⟨h0, h1⟩ := Dk.has_iff.1 hh
    obtain ⟨k, rfl⟩ := Int.eq_ofNat_of_zero_le h0
    have he : Dk.fault d (k : Int) on = { d with bad := d.bad.set k on } := by unfold Dk.fault; rw [if_pos hh]; rfl
    have hk : k < d.bad.length := by omega
    obtain ⟨g, rfl, _, _, hcell, hfrz⟩ := own_at R.out.b (by omega)
    have cg := hcell k (.bool d.bad[k]) (by rw [List.getElem?_map, List.getElem?_eq_getElem hk]; rfl)
    have fg := hfrz k
    have hki : (k : Int) < (d.bad.length : Int) := by omega
    have fg2 := R.out.bF _ rfl
    obtain ⟨_, bcs, bfr, hgb⟩ := own_row R.out.b g rfl
    have HGB := Lib.hid hgb
    have HE := Lib.hid he
    have HH := Lib.hid hh
    have KL := Lib.hid (show d.bad.length = (d.bad.set k on).length by rw [List.length_set])
    clear he hh hb hcell hfrz hgb h1 hf
    go_enter Tryz.func31, Tryz.ntmps31
    go_wp2_with fail
    refine (refHas_c H.out k).mono ?_
    rw [HH.out]
    rintro e w1 ⟨rfl, rfl⟩
    go_wp2
    go_end0
    rw [HE.out]
    have st := (R.out.b.stored k (.bool on)).1
    rw [bools_set] at st
    have off : ∀ j, j ≠ g → (w.setCell ⟨g, k, none⟩ (.bool on)).heap[j]? = w.heap[j]? := fun _ q => Below.heap_setCell _ _ _ _ q
    refine ⟨rfl, ⟨AS, AC, some ⟨g, 0, none⟩, cS, cC, cB, ms, cs, ⟨Or.inl R.out.fp, ?_, own_off R.out.s HGB.out (by decide) off, R.out.sF.mono up_self, fun m hm => ((R.out.held m hm).off HGB.out (by decide) off).mono up_self, own_off R.out.c HGB.out (by decide) off, R.out.cF.mono up_self, fun x hx => ((R.out.heldC x hx).off HGB.out (by decide) off).mono up_self, ?_, R.out.bF.mono up_self⟩, E1.out, E2.out⟩, (But.refl _ _ _).setCell (Or.inl fg2) _⟩
    · have := blk_far R.out.cell (p := ⟨g, k, none⟩) (blk_ne R.out.cell HGB.out (by decide)) (.bool on)
      rw [this]
      simp
    · show (w.setCell ⟨g, k, none⟩ (.bool on)).ownsRow 0 _ 1 (.slice (some ⟨g, 0, none⟩) (d.bad.set k on).length cB) (d.bad.set k on).length _
      rw [← KL.out]
      exact st

theorem seen_snoc (s : List UInt8) (i : Nat) (c : List (Nat × List UInt8)) (x : Nat × List UInt8) : Dk.seen s i (c ++ [x]) = if x.1 = i then x.2 else Dk.seen s i c := by
  unfold Dk.seen
  rw [List.foldl_append]
  rfl

theorem Held.below {w w' : World} {F : Nat → Prop} {m : MTx} (h : Held w F m) (hb : Below w.heap.size w w') : Held w' F m := ⟨⟨h.1.1.below (Nat.zero_le _) hb, h.1.2⟩, h.2⟩

set_option maxHeartbeats 2000000 in
theorem refRead_c {w : World} {F : Nat → Prop} {p : Nat} {d : Dk.D} (h : RD w F p d) (hd : d.ok) (hcl : d.cache.length ≤ 1000000000) (i : Int) :
    Calls Tryz.prog 40 #[.pointer (some ⟨p, 0, none⟩), .int .i64 i] w (BErrOk w.heap.size (Dk.read d i).2 (Dk.read d i).1 w) := by
  have H := Lib.hid h
  obtain ⟨AS, AC, AB, cS, cC, cB, ms, cs, r, e1, e2⟩ := h
  obtain ⟨c0, c1, c2, _, c4, _⟩ := r.fields
  have R := Lib.hid r
  have E1 := Lib.hid e1
  have E2 := Lib.hid e2
  have hb := hd.bads
  have hf := hd.few
  have HD := Lib.hid hd
  have hcn : cs.length ≤ 1000000000 := by rw [← wrs_len cs, e2]; exact hcl
  have hmn : ms.length = d.s.length := by rw [← txs_len ms, e1]
  clear r e1 e2 hd hcl
  obtain ⟨ti, hi, iz0, iz1, iz2⟩ := info_parts Tryz.infoU8
  cases hdd : d.dead
  · cases hh : Dk.has d i
    · have he : Dk.read d i = ([], 1) := by unfold Dk.read; rw [if_neg (by rw [hdd]; simp), if_pos hh]
      rw [he]
      rw [hdd] at c4
      have HH := Lib.hid hh
      clear he hh hdd hb hmn c0 c1 c2
      go_enter Tryz.func40, Tryz.ntmps40
      go_wp2_with fail
      refine (refHas_c H.out i).mono ?_
      rw [HH.out]
      rintro e w1 ⟨rfl, rfl⟩
      go_wp2
      go_ret2
      exact BErrOk.bad (Below.refl _ _)
    · obtain ⟨h0, h1⟩ := Dk.has_iff.1 hh
      obtain ⟨k, rfl⟩ := Int.eq_ofNat_of_zero_le h0
      have hk : k < d.bad.length := by omega
      obtain ⟨g, rfl, _, _, hcell, _⟩ := own_at R.out.b (by omega)
      have cg := hcell k (.bool d.bad[k]) (by rw [List.getElem?_map, List.getElem?_eq_getElem hk]; rfl)
      have hki : (k : Int) < (d.bad.length : Int) := by omega
      rw [hdd] at c4
      have HH := Lib.hid hh
      cases hbk : d.bad[k]
      · have he : Dk.read d (k : Int) = (Dk.look d k, 0) := by
          unfold Dk.read
          rw [if_neg (by rw [hdd]; simp), if_neg (by rw [hh]; simp), if_neg]
          · rfl
          · rw [Int.toNat_natCast, List.getD_eq_getElem?_getD, List.getElem?_eq_getElem hk, hbk]; simp
        rw [he]
        rw [hbk] at cg
        have hkm : k < ms.length := by omega
        obtain ⟨gs, rfl, _, _, hcs, _⟩ := own_at R.out.s (by omega)
        obtain ⟨m0, hm0⟩ : ∃ m0, ms[k]? = some m0 := ⟨_, List.getElem?_eq_getElem hkm⟩
        have cs0 := hcs k m0.cell (by rw [tcells, List.getElem?_map, hm0]; rfl)
        unfold MTx.cell at cs0
        have hkm' : (k : Int) < (ms.length : Int) := by omega
        have hs0 : d.s.getD k [] = m0.b := by
          rw [List.getD_eq_getElem?_getD, ← E1.out, txs, List.getElem?_map, hm0]; rfl
        have HS0 := Lib.hid hs0
        have HM0 := Lib.hid (R.out.held m0 (List.mem_of_getElem? hm0))
        have HC := Lib.hid (Lies.of_own (B := 0) R.out.c)
        clear he hh hdd hb hmn hcell hbk hcs hm0 hs0 h1 hk
        go_enter Tryz.func40, Tryz.ntmps40
        go_wp2_with fail
        refine (refHas_c H.out k).mono ?_
        rw [HH.out]
        rintro e w1 ⟨rfl, rfl⟩
        go_wp2_with fail
        clear c0 c1 c2 c4 cg cs0
        go_loopw [6, 36] (fun b i wr => ∃ (j : Nat) (m : MTx), j ≤ cs.length ∧ i = .int .i64 j ∧ b = .slice m.A m.b.length m.c ∧ Held wr F m ∧ m.b = Dk.seen m0.b k (wrs (cs.take j)) ∧ Below w.heap.size w wr) (fun _ i _ => cs.length - (intOf i).toNat)
        case atStart => exact ⟨0, m0, Nat.zero_le _, rfl, rfl, HM0.out, rfl, Below.refl _ _⟩
        case round =>
          obtain ⟨j, m, hj, rfl, rfl, hm, hmb, hbw⟩ := hrel
          have HM := Lib.hid hm
          have HMB := Lib.hid hmb
          have HB := Lib.hid hbw
          have hz := hbw.size
          clear hm hmb hbw
          by_cases hlt : j < cs.length
          · obtain ⟨ad, x, rfl, hx, d0, d1⟩ := wr_at (HC.out.below (Nat.zero_le _) HB.out) hlt
            have HX := Lib.hid hx
            have HXM := Lib.hid ((R.out.heldC x (List.mem_of_getElem? hx)).below HB.out)
            clear hx
            have keep : ∀ {q : MTx} (o : Obj), Held wr F q → Held (wr.alloc o) F q := fun o hq => hq.below ((Below.refl _ _).alloc (Nat.le_refl _) o)
            cases hq : ((x.i : Int) == (k : Int))
            · go_wp2
              go_roundw
              case rel =>
                refine ⟨j + 1, m, by omega, by go_num, rfl, keep _ HM.out, ?_, HB.out.alloc hz _⟩
                have nq : ¬ x.i = k := fun e => by rw [e] at hq; simp at hq
                rw [take_next HX.out, wrs_snoc, seen_snoc, if_neg nq]
                exact HMB.out
              case measure => simp [intOf]; omega
            · go_wp2
              go_roundw
              case rel =>
                refine ⟨j + 1, x.m, by omega, by go_num, rfl, keep _ HXM.out, ?_, HB.out.alloc hz _⟩
                rw [take_next HX.out, wrs_snoc, seen_snoc, if_pos (by have := eq_of_beq hq; omega)]
              case measure => simp [intOf]; omega
          · obtain rfl : j = cs.length := by omega
            have hmb := HMB.out
            rw [List.take_length, E2.out, ← HS0.out] at hmb
            have HMB2 : Hid (m.b = Dk.look d k) := hmb
            have L64 := Lib.hid HM.out.2.2
            clear hmb
            go_wp2_with (at_builtin; refine wpList_app _ rfl _ _ 57 rfl w.heap.size 5 ti (.int .u8 0) 1 1 Tryz.underlying57 hi iz0 iz1 iz2 rfl (by decide) _ 0 [] rfl (World.ownsRow_nil _ _ _ _) 0 m.A m.b.length m.c (bcells m.b) 5 rfl (by rw [bcells_len]; omega) HM.out.1.1 (bcells_one _) (by unfold maxLen; have := L64.out; omega) (by have := L64.out; omega) hz ?_)
            intro v' w2 hown hgrow _
            obtain ⟨A1, k1, rfl⟩ := own_slice hown
            have HB2 := Lib.hid (HB.out.trans (app_below0 (B := w.heap.size) (World.ownsRow_nil _ _ 5 1) hgrow hz))
            have O1 := Lib.hid hown
            clear hown hgrow
            go_wp2
            go_ret2
            refine ⟨A1, _, k1, rfl, by rw [← HMB2.out], (own_room O1.out).2, ?_, HB2.out⟩
            rw [← HMB2.out]
            exact O1.out
      · have he : Dk.read d (k : Int) = ([], 52) := by
          unfold Dk.read
          rw [if_neg (by rw [hdd]; simp), if_neg (by rw [hh]; simp), if_pos]
          rw [Int.toNat_natCast, List.getD_eq_getElem?_getD, List.getElem?_eq_getElem hk, hbk]; simp
        rw [he]
        rw [hbk] at cg
        clear he hh hdd hb hmn hcell hbk h1 hk
        go_enter Tryz.func40, Tryz.ntmps40
        go_wp2_with fail
        refine (refHas_c H.out k).mono ?_
        rw [HH.out]
        rintro e w1 ⟨rfl, rfl⟩
        go_wp2
        go_ret2
        exact BErrOk.bad (Below.refl _ _)
  · have he : Dk.read d i = ([], 50) := by unfold Dk.read; rw [if_pos hdd]
    rw [he]
    rw [hdd] at c4
    clear he hdd hb hmn c0 c1 c2
    go_enter Tryz.func40, Tryz.ntmps40
    go_wp2
    go_ret2
    exact BErrOk.bad (Below.refl _ _)

namespace Dk
theorem keepAll_snoc (s : List (List UInt8)) (c : List (Nat × List UInt8)) (x : Nat × List UInt8) : keepAll s (c ++ [x]) = (keepAll s c).set x.1 x.2 := by
  unfold keepAll
  rw [List.foldl_append]
  rfl
theorem keepSome_snoc (s : List (List UInt8)) (c : List (Nat × List UInt8)) (ks : List Bool) (x : Nat × List UInt8) : keepSome s (c ++ [x]) ks = if ks.getD c.length false = true then (keepSome s c ks).set x.1 x.2 else keepSome s c ks := by
  induction c generalizing s ks with
  | nil =>
    cases ks with
    | nil => rfl
    | cons k ks => cases k <;> cases ks <;> rfl
  | cons y c ih =>
    cases ks with
    | nil => simp [keepSome]
    | cons k ks =>
      have q := ih (if k = true then s.set y.1 y.2 else s) ks
      rw [List.cons_append]
      show keepSome (if k = true then s.set y.1 y.2 else s) (c ++ [x]) ks = _
      rw [q]
      simp [keepSome]
end Dk

section
variable {w w' : World} {F : Nat → Prop} {p : Nat} {AS AC AB : Option Addr} {cS cC cB : Nat} {ms : List MTx} {cs : List MWr} {bad : List Bool} {left : Int} {dead : Bool}
theorem RS5.below (h : RS5 w F p AS AC AB cS cC cB ms cs bad left dead) (hb : Below w.heap.size w w') : RS5 w' F p AS AC AB cS cC cB ms cs bad left dead :=
  (h.cap.keep (fun k hk => hb.block k hk.2)).mono (fun _ hk => hk.1)
/-- A sector anew. -/
theorem RS5.setS {g : Nat} (h : RS5 w F p (some ⟨g, 0, none⟩) AC AB cS cC cB ms cs bad left dead) (i : Nat) {m : MTx} (hm : Held w F m) : RS5 (w.setCell ⟨g, i, none⟩ m.cell) F p (some ⟨g, 0, none⟩) AC AB cS cC cB (ms.set i m) cs bad left dead := by
  obtain ⟨_, scs, sfr, hg⟩ := own_row h.s g rfl
  have off : ∀ j, j ≠ g → (w.setCell ⟨g, i, none⟩ m.cell).heap[j]? = w.heap[j]? := fun _ q => Below.heap_setCell _ _ _ _ q
  have st := (h.s.stored i m.cell).1
  refine ⟨h.fp, ?_, ?_, h.sF, ?_, own_off h.c hg (by decide) off, h.cF, fun x hx => (h.heldC x hx).off hg (by decide) off, own_off h.b hg (by decide) off, h.bF⟩
  · rw [List.length_set]
    exact (off p (blk_ne h.cell hg (by decide))).trans h.cell
  · rw [List.length_set, show tcells (ms.set i m) = (tcells ms).set i m.cell by rw [tcells, List.map_set]; rfl]
    exact st
  · intro q hq
    rcases List.mem_or_eq_of_mem_set hq with hq | rfl
    · exact (h.held q hq).off hg (by decide) off
    · exact hm.off hg (by decide) off
theorem Lies.but {B B0 : Nat} {t : TypeId} {A : Option Addr} {xs : List Value} (h : Lies w B t A xs) (hi : xs ≠ [] → InF (fun k => ¬ F k ∧ k < B0) A) (hb : But F B0 w w') : Lies w' B t A xs := fun hx => by
  obtain ⟨ad, rfl, hbl, hc⟩ := h hx
  obtain ⟨q1, q2⟩ := hi hx ad rfl
  have q := hb.block ad.block q2 q1
  exact ⟨ad, rfl, hbl.imp id (fun ⟨cs, fr, r⟩ => ⟨cs, fr, q.trans r⟩), fun j u hu => (World.cell?_of_block (by rw [addr_block]; exact q)).trans (hc j u hu)⟩
end

set_option maxHeartbeats 4000000 in
theorem refFlush_c {w : World} {F : Nat → Prop} {p : Nat} {d : Dk.D} (h : RD w F p d) (hd : d.ok) (hl : d.left ≤ 9223372036854775807) (hcl : d.cache.length ≤ 1000000000) :
    Calls Tryz.prog 76 #[.pointer (some ⟨p, 0, none⟩)] w (DiskOk F p (Dk.flush d).1 (Dk.flush d).2 w) := by
  have H := Lib.hid h
  have HD := Lib.hid hd
  have HL := Lib.hid hl
  clear h hd hl
  by_cases ha : (Dk.act d).1 = 0
  · have he : Dk.flush d = (0, { (Dk.act d).2 with s := Dk.keepAll d.s d.cache, cache := [] }) := by unfold Dk.flush; rw [if_pos ha]
    have HE := Lib.hid he
    have HA := Lib.hid ha
    clear he ha
    go_enter Tryz.func76, Tryz.ntmps76
    go_wp2_with fail
    refine (refAct_c H.out HD.out HL.out).mono ?_
    rw [HA.out]
    rintro e w1 ⟨rfl, hr1, hb1⟩
    obtain ⟨AS, AC, AB, cS, cC, cB, ms, cs, r, e1, e2⟩ := hr1
    rw [Dk.act_s] at e1
    rw [Dk.act_cache] at e2
    have c1 := r.fields.2.1
    have R := Lib.hid r
    have E1 := Lib.hid e1
    have E2 := Lib.hid e2
    have HB1 := Lib.hid hb1
    have hcn : cs.length ≤ 1000000000 := by rw [← wrs_len cs, e2]; exact hcl
    have AT : Hid (∀ x ∈ cs, x.i < ms.length) := by
      refine Lib.hid fun x hx => ?_
      have q := (HD.out.at_ (x.i, x.m.b) (by rw [← e2]; exact List.mem_map.2 ⟨x, hx, rfl⟩)).1
      rwa [← e1, txs_len] at q
    clear r e1 e2 hb1 hcl
    go_wp2_with fail
    clear c1
    go_loopw [16] (fun i wr => ∃ (j : Nat) (mj : List MTx), j ≤ cs.length ∧ i = .int .i64 j ∧ mj.length = ms.length ∧ RS5 wr (Up F w.heap.size) p AS AC AB cS cC cB mj cs (Dk.act d).2.bad (Dk.act d).2.left (Dk.act d).2.dead ∧ txs mj = Dk.keepAll d.s (wrs (cs.take j)) ∧ But F w.heap.size w wr) (fun i _ => cs.length - (intOf i).toNat)
    case atStart => exact ⟨0, ms, Nat.zero_le _, rfl, rfl, R.out, E1.out, HB1.out⟩
    case round =>
      obtain ⟨j, mj, hj, rfl, hml, hr, hmj, hbw⟩ := hrel
      have RJ := Lib.hid hr
      have HMJ := Lib.hid hmj
      have HB := Lib.hid hbw
      have HML := Lib.hid hml
      have hz := hbw.size
      have fp := hr.fp
      clear hr hmj hbw hml
      by_cases hlt : j < cs.length
      · obtain ⟨ad, x, rfl, hx, d0, d1⟩ := wr_at (Lies.of_own (B := 0) RJ.out.c) hlt
        have HX := Lib.hid hx
        have hxi := AT.out x (List.mem_of_getElem? hx)
        have hxm := RJ.out.heldC x (List.mem_of_getElem? hx)
        have HXM := Lib.hid hxm
        rw [← HML.out] at hxi
        obtain ⟨g, rfl, _, hglt, hcg, hfg⟩ := own_at RJ.out.s (by omega)
        have plt : p < wr.heap.size := lt_of_block RJ.out.cell
        have p0 : ∀ o, (wr.alloc o).cell? ⟨p, 0, none⟩ = some (.slice (some ⟨g, 0, none⟩) mj.length cS) := fun o => ((Below.refl wr.heap.size wr).alloc (Nat.le_refl _) o |>.cell (p := ⟨p, 0, none⟩) plt).trans RJ.out.fields.1
        obtain ⟨m1, hm1⟩ : ∃ m1, mj[x.i]? = some m1 := ⟨_, List.getElem?_eq_getElem hxi⟩
        have g0 : ∀ o, (wr.alloc o).cell? ⟨g, x.i, none⟩ = some (.slice m1.A m1.b.length m1.c) := fun o => ((Below.refl wr.heap.size wr).alloc (Nat.le_refl _) o |>.cell (p := ⟨g, x.i, none⟩) hglt).trans (hcg x.i m1.cell (by rw [tcells, List.getElem?_map, hm1]; rfl))
        have gf : ∀ o, (wr.alloc o).frozen? ⟨g, x.i, none⟩ = false := fun o => ((Below.refl wr.heap.size wr).alloc (Nat.le_refl _) o |>.frozen (p := ⟨g, x.i, none⟩) hglt).trans (hfg x.i)
        have x0 : (0 : Int) ≤ (x.i : Int) := by omega
        have x1 : (x.i : Int) < (mj.length : Int) := by omega
        have sF := RJ.out.sF _ rfl
        clear hx hcg hfg hm1 hxm
        go_wp2_with fail
        go_region
        clear p0 g0 gf
        go_wp2
        go_roundw
        case rel =>
          have rs := RJ.out.setS x.i HXM.out
          have ra := rs.below ((Below.refl _ _).alloc (Nat.le_refl _) (.cells #[.int .i64 (x.i : Int), .slice x.m.A x.m.b.length x.m.c] 96))
          refine ⟨j + 1, mj.set x.i x.m, by omega, by go_num, by rw [List.length_set]; exact HML.out, ra.keep (fun _ _ => rfl), ?_, ((HB.out.setCell (p := ⟨g, x.i, none⟩) sF _).alloc (by simpa [World.setCell] using hz) _).drew⟩
          rw [take_next HX.out, wrs_snoc, Dk.keepAll_snoc, ← HMJ.out, txs, List.map_set]
          rfl
        case measure => simp [intOf]; omega
      · obtain rfl : j = cs.length := by omega
        have hmj := HMJ.out
        rw [List.take_length, E2.out] at hmj
        have HMJ2 := Lib.hid hmj
        have f1 := RJ.out.fields.2.1
        have z1 := RJ.out.fields.2.2.2.2.2 1
        clear hmj
        go_wp2
        go_ret
        rw [HE.out]
        refine ⟨rfl, ⟨AS, none, AB, cS, 0, cB, mj, [], RS5.drop RJ.out ?_ set_off, HMJ2.out, rfl⟩, HB.out.setCell fp _⟩
        rw [blk_set RJ.out.cell]; rfl
  · have he : Dk.flush d = Dk.act d := by unfold Dk.flush; rw [if_neg ha]
    have HE := Lib.hid he
    have hq : ((Dk.act d).1 == 0) = false := by simpa using ha
    have hq2 : ((Dk.act d).1 != 0) = true := by rw [bne, hq]; rfl
    clear he ha
    go_enter Tryz.func76, Tryz.ntmps76
    go_wp2_with fail
    refine (refAct_c H.out HD.out HL.out).mono ?_
    rintro e w1 ⟨rfl, hr1, hb1⟩
    have R1 := Lib.hid hr1
    have B1 := Lib.hid hb1
    clear hr1 hb1
    go_wp2
    go_ret
    rw [HE.out]
    exact ⟨rfl, R1.out, B1.out⟩

theorem crash_snoc {s : List (List UInt8)} {c : List (Nat × List UInt8)} {ks : List Bool} {x : Nat × List UInt8} {j : Nat} {v : Bool} (hj : c.length = j) (hk : ks.getD j false = v) : Dk.keepSome s (c ++ [x]) ks = if v = true then (Dk.keepSome s c ks).set x.1 x.2 else Dk.keepSome s c ks := by
  rw [Dk.keepSome_snoc, hj, hk]

set_option maxHeartbeats 4000000 in
theorem refCrash_c {w : World} {F : Nat → Prop} {p : Nat} {d : Dk.D} {AK : Option Addr} {nK cK : Nat} {ks : List Bool} {BK : Nat} {tK : TypeId} (h : RD w F p d) (hd : d.ok) (hcl : d.cache.length ≤ 1000000000) (hK : Lies w BK tK AK (ks.map Value.bool)) (hKF : ks.map Value.bool ≠ [] → InF (fun k => ¬ F k ∧ k < w.heap.size) AK) (hn : nK = ks.length) (hns : nK ≤ 1000000000) :
    Calls Tryz.prog 22 #[.pointer (some ⟨p, 0, none⟩), .slice AK nK cK] w (DiskOk0 F p (Dk.crash d ks) w) := by
  obtain ⟨AS, AC, AB, cS, cC, cB, ms, cs, r, e1, e2⟩ := h
  have c1 := r.fields.2.1
  have R := Lib.hid r
  have E1 := Lib.hid e1
  have E2 := Lib.hid e2
  have HK := Lib.hid hK
  have HKF := Lib.hid hKF
  have HN := Lib.hid hn
  have hcn : cs.length ≤ 1000000000 := by rw [← wrs_len cs, e2]; exact hcl
  have AT : Hid (∀ x ∈ cs, x.i < ms.length) := by
    refine Lib.hid fun x hx => ?_
    have q := (hd.at_ (x.i, x.m.b) (by rw [← e2]; exact List.mem_map.2 ⟨x, hx, rfl⟩)).1
    rwa [← e1, txs_len] at q
  clear r e1 e2 hcl hK hKF hn hd
  go_enter Tryz.func22, Tryz.ntmps22
  go_wp2_with fail
  clear c1
  go_loopw [11] (fun i wr => ∃ (j : Nat) (mj : List MTx), j ≤ cs.length ∧ i = .int .i64 j ∧ mj.length = ms.length ∧ RS5 wr (Up F w.heap.size) p AS AC AB cS cC cB mj cs d.bad d.left d.dead ∧ txs mj = Dk.keepSome d.s (wrs (cs.take j)) ks ∧ But F w.heap.size w wr) (fun i _ => cs.length - (intOf i).toNat)
  case atStart => exact ⟨0, ms, Nat.zero_le _, rfl, rfl, R.out.mono up_self, by rw [E1.out]; cases ks <;> rfl, But.refl _ _ _⟩
  case round =>
    obtain ⟨j, mj, hj, rfl, hml, hr, hmj, hbw⟩ := hrel
    have RJ := Lib.hid hr
    have HMJ := Lib.hid hmj
    have HB := Lib.hid hbw
    have HML := Lib.hid hml
    have hz := hbw.size
    have fp := hr.fp
    clear hr hmj hbw hml
    by_cases hlt : j < cs.length
    · obtain ⟨ad, x, rfl, hx, d0, d1⟩ := wr_at (Lies.of_own (B := 0) RJ.out.c) hlt
      have HX := Lib.hid hx
      have hxi := AT.out x (List.mem_of_getElem? hx)
      have HXM := Lib.hid (RJ.out.heldC x (List.mem_of_getElem? hx))
      have TL1 : Hid ((wrs (cs.take j)).length = j) := by
        refine Lib.hid ?_
        rw [wrs_len, List.length_take]; omega
      rw [← HML.out] at hxi
      clear hx
      cases hv : ks.getD j false
      · have STEP : Hid (txs mj = Dk.keepSome d.s (wrs (cs.take (j + 1))) ks) := by
          refine Lib.hid ?_
          rw [take_next HX.out, wrs_snoc, crash_snoc TL1.out hv, if_neg (by simp)]
          exact HMJ.out
        by_cases hjk : j < nK
        · have hjl : j < ks.length := by rw [← HN.out]; exact hjk
          obtain ⟨adk, rfl, hck⟩ := (HK.out.but HKF.out HB.out).at_ (k := j) (by simpa using hjl)
          have hck2 : wr.cell? (adk.add j) = some (.bool false) := by
            rw [hck, List.getElem_map]
            rw [List.getD_eq_getElem?_getD, List.getElem?_eq_getElem hjl] at hv
            exact congrArg (fun z => some (Value.bool z)) hv
          have hck3 : ∀ o, (wr.alloc o).cell? (adk.add j) = some (.bool false) := fun o => ((Below.refl wr.heap.size wr).alloc (Nat.le_refl _) o |>.cell (World.block_lt_of_cell? _ _ hck2)).trans hck2
          have hjk' : (j : Int) < (nK : Int) := by omega
          have j0 : (0 : Int) ≤ (j : Int) := by omega
          clear hck hck2 hv
          go_wp2
          go_roundw
          case rel => exact ⟨j + 1, mj, by omega, by go_num, HML.out, RJ.out.below ((Below.refl _ _).alloc (Nat.le_refl _) _), STEP.out, HB.out.alloc hz _⟩
          case measure => simp [intOf]; omega
        · have hjk' : (nK : Int) ≤ (j : Int) := by omega
          clear hv
          go_wp2
          go_roundw
          case rel => exact ⟨j + 1, mj, by omega, by go_num, HML.out, RJ.out.below ((Below.refl _ _).alloc (Nat.le_refl _) _), STEP.out, HB.out.alloc hz _⟩
          case measure => simp [intOf]; omega
      · have hjl : j < ks.length := by
          rcases Nat.lt_or_ge j ks.length with q | q
          · exact q
          · rw [List.getD_eq_getElem?_getD, List.getElem?_eq_none q] at hv; cases hv
        have hjk : j < nK := by rw [HN.out]; exact hjl
        obtain ⟨adk, rfl, hck⟩ := (HK.out.but HKF.out HB.out).at_ (k := j) (by simpa using hjl)
        have hck2 : wr.cell? (adk.add j) = some (.bool true) := by
          rw [hck, List.getElem_map]
          have hv2 := hv
          rw [List.getD_eq_getElem?_getD, List.getElem?_eq_getElem hjl] at hv2
          exact congrArg (fun z => some (Value.bool z)) hv2
        have hck3 : ∀ o, (wr.alloc o).cell? (adk.add j) = some (.bool true) := fun o => ((Below.refl wr.heap.size wr).alloc (Nat.le_refl _) o |>.cell (World.block_lt_of_cell? _ _ hck2)).trans hck2
        have hjk' : (j : Int) < (nK : Int) := by omega
        have j0 : (0 : Int) ≤ (j : Int) := by omega
        have HV := Lib.hid hv
        clear hck hck2 hv
        obtain ⟨g, rfl, _, hglt, hcg, hfg⟩ := own_at RJ.out.s (by omega)
        have plt : p < wr.heap.size := lt_of_block RJ.out.cell
        have p0 : ∀ o, (wr.alloc o).cell? ⟨p, 0, none⟩ = some (.slice (some ⟨g, 0, none⟩) mj.length cS) := fun o => ((Below.refl wr.heap.size wr).alloc (Nat.le_refl _) o |>.cell (p := ⟨p, 0, none⟩) plt).trans RJ.out.fields.1
        obtain ⟨m1, hm1⟩ : ∃ m1, mj[x.i]? = some m1 := ⟨_, List.getElem?_eq_getElem hxi⟩
        have g0 : ∀ o, (wr.alloc o).cell? ⟨g, x.i, none⟩ = some (.slice m1.A m1.b.length m1.c) := fun o => ((Below.refl wr.heap.size wr).alloc (Nat.le_refl _) o |>.cell (p := ⟨g, x.i, none⟩) hglt).trans (hcg x.i m1.cell (by rw [tcells, List.getElem?_map, hm1]; rfl))
        have gf : ∀ o, (wr.alloc o).frozen? ⟨g, x.i, none⟩ = false := fun o => ((Below.refl wr.heap.size wr).alloc (Nat.le_refl _) o |>.frozen (p := ⟨g, x.i, none⟩) hglt).trans (hfg x.i)
        have x0 : (0 : Int) ≤ (x.i : Int) := by omega
        have x1 : (x.i : Int) < (mj.length : Int) := by omega
        have sF := RJ.out.sF _ rfl
        clear hcg hfg hm1
        go_wp2_with fail
        go_region
        clear p0 g0 gf hck3
        go_wp2
        go_roundw
        case rel =>
          have rs := RJ.out.setS x.i HXM.out
          have ra := rs.below ((Below.refl _ _).alloc (Nat.le_refl _) (.cells #[.int .i64 (x.i : Int), .slice x.m.A x.m.b.length x.m.c] 96))
          refine ⟨j + 1, mj.set x.i x.m, by omega, by go_num, by rw [List.length_set]; exact HML.out, ra.keep (fun _ _ => rfl), ?_, ((HB.out.setCell (p := ⟨g, x.i, none⟩) sF _).alloc (by simpa [World.setCell] using hz) _).drew⟩
          rw [take_next HX.out, wrs_snoc, crash_snoc TL1.out HV.out, if_pos rfl, ← HMJ.out, txs, List.map_set]
          rfl
        case measure => simp [intOf]; omega
    · obtain rfl : j = cs.length := by omega
      have hmj := HMJ.out
      rw [List.take_length, E2.out] at hmj
      have HMJ2 := Lib.hid hmj
      have fd := RJ.out.fields
      have f1 := fd.2.1
      have f3 := fd.2.2.2.1
      have f4 := fd.2.2.2.2.1
      have z1 := fd.2.2.2.2.2 1
      have z3 := fd.2.2.2.2.2 3
      have z4 := fd.2.2.2.2.2 4
      clear hmj fd
      go_wp2
      go_end0
      refine ⟨rfl, ⟨AS, none, AB, cS, 0, cB, mj, [], RS5.drop RJ.out ?_ ?_, HMJ2.out, rfl⟩, ((HB.out.setCell fp _).setCell fp _).setCell fp _⟩
      · rw [blk_set (blk_set (blk_set RJ.out.cell 1 _) 4 _)]; rfl
      · exact fun k hk => (set_off k hk).trans ((set_off k hk).trans (set_off k hk))
end Go.Proofs.YtbfkjneidabijaaGreat
