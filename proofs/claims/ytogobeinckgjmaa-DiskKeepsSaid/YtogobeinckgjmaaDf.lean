/- Contracts of the document's own Disk: Flush, Crash. -/
import Derived.Test.YtogobeinckgjmaaDr
namespace Go.Proofs.Ytogobeinckgjmaa
open Go.RowKit

namespace Dk
theorem keepAll_snoc (s : List (List UInt8)) (c : List (Nat × List UInt8)) (x : Nat × List UInt8) : keepAll s (c ++ [x]) = (keepAll s c).set x.1 x.2 := by
  unfold keepAll
  rw [List.foldl_append]
  rfl
theorem keepSome_snoc (s : List (List UInt8)) (c : List (Nat × List UInt8)) (ks : List Bool) (x : Nat × List UInt8) : keepSome s (c ++ [x]) ks = if ks.getD c.length false = true then (keepSome s c ks).set x.1 x.2 else keepSome s c ks := by
  induction c generalizing s ks with
  | nil =>
    cases ks with
    | nil => rfl
    | cons k ks => cases k <;> cases ks <;> rfl
  | cons y c ih =>
    cases ks with
    | nil => simp [keepSome]
    | cons k ks =>
      have q := ih (if k = true then s.set y.1 y.2 else s) ks
      rw [List.cons_append]
      show keepSome (if k = true then s.set y.1 y.2 else s) (c ++ [x]) ks = _
      rw [q]
      simp [keepSome]
end Dk

section
variable {w w' : World} {F : Nat → Prop} {p : Nat} {AS AC AB : Option Addr} {cS cC cB : Nat} {ms : List MTx} {cs : List MWr} {bad : List Bool} {left : Int} {dead : Bool}
theorem RS5.below (h : RS5 w F p AS AC AB cS cC cB ms cs bad left dead) (hb : Below w.heap.size w w') : RS5 w' F p AS AC AB cS cC cB ms cs bad left dead :=
  (h.cap.keep (fun k hk => hb.block k hk.2)).mono (fun _ hk => hk.1)
/-- A sector anew. -/
theorem RS5.setS {g : Nat} (h : RS5 w F p (some ⟨g, 0, none⟩) AC AB cS cC cB ms cs bad left dead) (i : Nat) {m : MTx} (hm : Held w F m) : RS5 (w.setCell ⟨g, i, none⟩ m.cell) F p (some ⟨g, 0, none⟩) AC AB cS cC cB (ms.set i m) cs bad left dead := by
  obtain ⟨_, scs, sfr, hg⟩ := own_row h.s g rfl
  have off : ∀ j, j ≠ g → (w.setCell ⟨g, i, none⟩ m.cell).heap[j]? = w.heap[j]? := fun _ q => Below.heap_setCell _ _ _ _ q
  have st := (h.s.stored i m.cell).1
  refine ⟨h.fp, ?_, ?_, h.sF, ?_, own_off h.c hg (by decide) off, h.cF, fun x hx => (h.heldC x hx).off hg (by decide) off, own_off h.b hg (by decide) off, h.bF⟩
  · rw [List.length_set]
    exact (off p (blk_ne h.cell hg (by decide))).trans h.cell
  · rw [List.length_set, show tcells (ms.set i m) = (tcells ms).set i m.cell by rw [tcells, List.map_set]; rfl]
    exact st
  · intro q hq
    rcases List.mem_or_eq_of_mem_set hq with hq | rfl
    · exact (h.held q hq).off hg (by decide) off
    · exact hm.off hg (by decide) off
theorem Lies.but {B B0 : Nat} {t : TypeId} {A : Option Addr} {xs : List Value} (h : Lies w B t A xs) (hi : xs ≠ [] → InF (fun k => ¬ F k ∧ k < B0) A) (hb : But F B0 w w') : Lies w' B t A xs := fun hx => by
  obtain ⟨ad, rfl, hbl, hc⟩ := h hx
  obtain ⟨q1, q2⟩ := hi hx ad rfl
  have q := hb.block ad.block q2 q1
  exact ⟨ad, rfl, hbl.imp id (fun ⟨cs, fr, r⟩ => ⟨cs, fr, q.trans r⟩), fun j u hu => (World.cell?_of_block (by rw [addr_block]; exact q)).trans (hc j u hu)⟩
end

set_option maxHeartbeats 4000000 in
theorem refFlush_c {w : World} {F : Nat → Prop} {p : Nat} {d : Dk.D} (h : RD w F p d) (hd : d.ok) (hl : d.left ≤ 9223372036854775807) (hcl : d.cache.length ≤ 1000000000) :
    Calls Try.prog 16 #[.pointer (some ⟨p, 0, none⟩)] w (DiskOk F p (Dk.flush d).1 (Dk.flush d).2 w) := by
  have H := Lib.hid h
  have HD := Lib.hid hd
  have HL := Lib.hid hl
  clear h hd hl
  by_cases ha : (Dk.act d).1 = 0
  · have he : Dk.flush d = (0, { (Dk.act d).2 with s := Dk.keepAll d.s d.cache, cache := [] }) := by unfold Dk.flush; rw [if_pos ha]
    have HE := Lib.hid he
    have HA := Lib.hid ha
    clear he ha
    go_enter Try.func16, Try.ntmps16
    go_wp2_with fail
    refine (refAct_c H.out HD.out HL.out).mono ?_
    rw [HA.out]
    rintro e w1 ⟨rfl, hr1, hb1⟩
    obtain ⟨AS, AC, AB, cS, cC, cB, ms, cs, r, e1, e2⟩ := hr1
    rw [Dk.act_s] at e1
    rw [Dk.act_cache] at e2
    have c1 := r.fields.2.1
    have R := Lib.hid r
    have E1 := Lib.hid e1
    have E2 := Lib.hid e2
    have HB1 := Lib.hid hb1
    have hcn : cs.length ≤ 1000000000 := by rw [← wrs_len cs, e2]; exact hcl
    have AT : Hid (∀ x ∈ cs, x.i < ms.length) := by
      refine Lib.hid fun x hx => ?_
      have q := (HD.out.at_ (x.i, x.m.b) (by rw [← e2]; exact List.mem_map.2 ⟨x, hx, rfl⟩)).1
      rwa [← e1, txs_len] at q
    clear r e1 e2 hb1 hcl
    go_wp2_with fail
    clear c1
    go_loopw [16] (fun i wr => ∃ (j : Nat) (mj : List MTx), j ≤ cs.length ∧ i = .int .i64 j ∧ mj.length = ms.length ∧ RS5 wr (Up F w.heap.size) p AS AC AB cS cC cB mj cs (Dk.act d).2.bad (Dk.act d).2.left (Dk.act d).2.dead ∧ txs mj = Dk.keepAll d.s (wrs (cs.take j)) ∧ But F w.heap.size w wr) (fun i _ => cs.length - (intOf i).toNat)
    case atStart => exact ⟨0, ms, Nat.zero_le _, rfl, rfl, R.out, E1.out, HB1.out⟩
    case round =>
      obtain ⟨j, mj, hj, rfl, hml, hr, hmj, hbw⟩ := hrel
      have RJ := Lib.hid hr
      have HMJ := Lib.hid hmj
      have HB := Lib.hid hbw
      have HML := Lib.hid hml
      have hz := hbw.size
      have fp := hr.fp
      clear hr hmj hbw hml
      by_cases hlt : j < cs.length
      · obtain ⟨ad, x, rfl, hx, d0, d1⟩ := wr_at (Lies.of_own (B := 0) RJ.out.c) hlt
        have HX := Lib.hid hx
        have hxi := AT.out x (List.mem_of_getElem? hx)
        have hxm := RJ.out.heldC x (List.mem_of_getElem? hx)
        have HXM := Lib.hid hxm
        rw [← HML.out] at hxi
        obtain ⟨g, rfl, _, hglt, hcg, hfg⟩ := own_at RJ.out.s (by omega)
        have plt : p < wr.heap.size := lt_of_block RJ.out.cell
        have p0 : ∀ o, (wr.alloc o).cell? ⟨p, 0, none⟩ = some (.slice (some ⟨g, 0, none⟩) mj.length cS) := fun o => ((Below.refl wr.heap.size wr).alloc (Nat.le_refl _) o |>.cell (p := ⟨p, 0, none⟩) plt).trans RJ.out.fields.1
        obtain ⟨m1, hm1⟩ : ∃ m1, mj[x.i]? = some m1 := ⟨_, List.getElem?_eq_getElem hxi⟩
        have g0 : ∀ o, (wr.alloc o).cell? ⟨g, x.i, none⟩ = some (.slice m1.A m1.b.length m1.c) := fun o => ((Below.refl wr.heap.size wr).alloc (Nat.le_refl _) o |>.cell (p := ⟨g, x.i, none⟩) hglt).trans (hcg x.i m1.cell (by rw [tcells, List.getElem?_map, hm1]; rfl))
        have gf : ∀ o, (wr.alloc o).frozen? ⟨g, x.i, none⟩ = false := fun o => ((Below.refl wr.heap.size wr).alloc (Nat.le_refl _) o |>.frozen (p := ⟨g, x.i, none⟩) hglt).trans (hfg x.i)
        have x0 : (0 : Int) ≤ (x.i : Int) := by omega
        have x1 : (x.i : Int) < (mj.length : Int) := by omega
        have sF := RJ.out.sF _ rfl
        clear hx hcg hfg hm1 hxm
        go_wp2_with fail
        go_region
        clear p0 g0 gf
        go_wp2
        go_roundw
        case rel =>
          have rs := RJ.out.setS x.i HXM.out
          have ra := rs.below ((Below.refl _ _).alloc (Nat.le_refl _) (.cells #[.int .i64 (x.i : Int), .slice x.m.A x.m.b.length x.m.c] 67))
          refine ⟨j + 1, mj.set x.i x.m, by omega, by go_num, by rw [List.length_set]; exact HML.out, ra.keep (fun _ _ => rfl), ?_, ((HB.out.setCell (p := ⟨g, x.i, none⟩) sF _).alloc (by simpa [World.setCell] using hz) _).drew⟩
          rw [take_next HX.out, wrs_snoc, Dk.keepAll_snoc, ← HMJ.out, txs, List.map_set]
          rfl
        case measure => simp [intOf]; omega
      · obtain rfl : j = cs.length := by omega
        have hmj := HMJ.out
        rw [List.take_length, E2.out] at hmj
        have HMJ2 := Lib.hid hmj
        have f1 := RJ.out.fields.2.1
        have z1 := RJ.out.fields.2.2.2.2.2 1
        clear hmj
        go_wp2
        go_ret
        rw [HE.out]
        refine ⟨rfl, ⟨AS, none, AB, cS, 0, cB, mj, [], RS5.drop RJ.out ?_ set_off, HMJ2.out, rfl⟩, HB.out.setCell fp _⟩
        rw [blk_set RJ.out.cell]; rfl
  · have he : Dk.flush d = Dk.act d := by unfold Dk.flush; rw [if_neg ha]
    have HE := Lib.hid he
    have hq : ((Dk.act d).1 == 0) = false := by simpa using ha
    have hq2 : ((Dk.act d).1 != 0) = true := by rw [bne, hq]; rfl
    clear he ha
    go_enter Try.func16, Try.ntmps16
    go_wp2_with fail
    refine (refAct_c H.out HD.out HL.out).mono ?_
    rintro e w1 ⟨rfl, hr1, hb1⟩
    have R1 := Lib.hid hr1
    have B1 := Lib.hid hb1
    clear hr1 hb1
    go_wp2
    go_ret
    rw [HE.out]
    exact ⟨rfl, R1.out, B1.out⟩
end Go.Proofs.Ytogobeinckgjmaa
