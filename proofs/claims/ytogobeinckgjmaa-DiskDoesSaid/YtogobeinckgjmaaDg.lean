/- Contract of the document's own Disk: Crash. -/
import Derived.Test.YtogobeinckgjmaaDf
namespace Go.Proofs.Ytogobeinckgjmaa
open Go.RowKit

theorem crash_snoc {s : List (List UInt8)} {c : List (Nat × List UInt8)} {ks : List Bool} {x : Nat × List UInt8} {j : Nat} {v : Bool} (hj : c.length = j) (hk : ks.getD j false = v) : Dk.keepSome s (c ++ [x]) ks = if v = true then (Dk.keepSome s c ks).set x.1 x.2 else Dk.keepSome s c ks := by
  rw [Dk.keepSome_snoc, hj, hk]

set_option maxHeartbeats 4000000 in
theorem refCrash_c {w : World} {F : Nat → Prop} {p : Nat} {d : Dk.D} {AK : Option Addr} {nK cK : Nat} {ks : List Bool} {BK : Nat} {tK : TypeId} (h : RD w F p d) (hd : d.ok) (hcl : d.cache.length ≤ 1000000000) (hK : Lies w BK tK AK (ks.map Value.bool)) (hKF : ks.map Value.bool ≠ [] → InF (fun k => ¬ F k ∧ k < w.heap.size) AK) (hn : nK = ks.length) (hns : nK ≤ 1000000000) :
    Calls Try.prog 20 #[.pointer (some ⟨p, 0, none⟩), .slice AK nK cK] w (DiskOk0 F p (Dk.crash d ks) w) := by
  obtain ⟨AS, AC, AB, cS, cC, cB, ms, cs, r, e1, e2⟩ := h
  have c1 := r.fields.2.1
  have R := Lib.hid r
  have E1 := Lib.hid e1
  have E2 := Lib.hid e2
  have HK := Lib.hid hK
  have HKF := Lib.hid hKF
  have HN := Lib.hid hn
  have hcn : cs.length ≤ 1000000000 := by rw [← wrs_len cs, e2]; exact hcl
  have AT : Hid (∀ x ∈ cs, x.i < ms.length) := by
    refine Lib.hid fun x hx => ?_
    have q := (hd.at_ (x.i, x.m.b) (by rw [← e2]; exact List.mem_map.2 ⟨x, hx, rfl⟩)).1
    rwa [← e1, txs_len] at q
  clear r e1 e2 hcl hK hKF hn hd
  go_enter Try.func20, Try.ntmps20
  go_wp2_with fail
  clear c1
  go_loopw [11] (fun i wr => ∃ (j : Nat) (mj : List MTx), j ≤ cs.length ∧ i = .int .i64 j ∧ mj.length = ms.length ∧ RS5 wr (Up F w.heap.size) p AS AC AB cS cC cB mj cs d.bad d.left d.dead ∧ txs mj = Dk.keepSome d.s (wrs (cs.take j)) ks ∧ But F w.heap.size w wr) (fun i _ => cs.length - (intOf i).toNat)
  case atStart => exact ⟨0, ms, Nat.zero_le _, rfl, rfl, R.out.mono up_self, by rw [E1.out]; cases ks <;> rfl, But.refl _ _ _⟩
  case round =>
    obtain ⟨j, mj, hj, rfl, hml, hr, hmj, hbw⟩ := hrel
    have RJ := Lib.hid hr
    have HMJ := Lib.hid hmj
    have HB := Lib.hid hbw
    have HML := Lib.hid hml
    have hz := hbw.size
    have fp := hr.fp
    clear hr hmj hbw hml
    by_cases hlt : j < cs.length
    · obtain ⟨ad, x, rfl, hx, d0, d1⟩ := wr_at (Lies.of_own (B := 0) RJ.out.c) hlt
      have HX := Lib.hid hx
      have hxi := AT.out x (List.mem_of_getElem? hx)
      have HXM := Lib.hid (RJ.out.heldC x (List.mem_of_getElem? hx))
      have TL1 : Hid ((wrs (cs.take j)).length = j) := by
        refine Lib.hid ?_
        rw [wrs_len, List.length_take]; omega
      rw [← HML.out] at hxi
      clear hx
      cases hv : ks.getD j false
      · have STEP : Hid (txs mj = Dk.keepSome d.s (wrs (cs.take (j + 1))) ks) := by
          refine Lib.hid ?_
          rw [take_next HX.out, wrs_snoc, crash_snoc TL1.out hv, if_neg (by simp)]
          exact HMJ.out
        by_cases hjk : j < nK
        · have hjl : j < ks.length := by rw [← HN.out]; exact hjk
          obtain ⟨adk, rfl, hck⟩ := (HK.out.but HKF.out HB.out).at_ (k := j) (by simpa using hjl)
          have hck2 : wr.cell? (adk.add j) = some (.bool false) := by
            rw [hck, List.getElem_map]
            rw [List.getD_eq_getElem?_getD, List.getElem?_eq_getElem hjl] at hv
            exact congrArg (fun z => some (Value.bool z)) hv
          have hck3 : ∀ o, (wr.alloc o).cell? (adk.add j) = some (.bool false) := fun o => ((Below.refl wr.heap.size wr).alloc (Nat.le_refl _) o |>.cell (World.block_lt_of_cell? _ _ hck2)).trans hck2
          have hjk' : (j : Int) < (nK : Int) := by omega
          have j0 : (0 : Int) ≤ (j : Int) := by omega
          clear hck hck2 hv
          go_wp2
          go_roundw
          case rel => exact ⟨j + 1, mj, by omega, by go_num, HML.out, RJ.out.below ((Below.refl _ _).alloc (Nat.le_refl _) _), STEP.out, HB.out.alloc hz _⟩
          case measure => simp [intOf]; omega
        · have hjk' : (nK : Int) ≤ (j : Int) := by omega
          clear hv
          go_wp2
          go_roundw
          case rel => exact ⟨j + 1, mj, by omega, by go_num, HML.out, RJ.out.below ((Below.refl _ _).alloc (Nat.le_refl _) _), STEP.out, HB.out.alloc hz _⟩
          case measure => simp [intOf]; omega
      · have hjl : j < ks.length := by
          rcases Nat.lt_or_ge j ks.length with q | q
          · exact q
          · rw [List.getD_eq_getElem?_getD, List.getElem?_eq_none q] at hv; cases hv
        have hjk : j < nK := by rw [HN.out]; exact hjl
        obtain ⟨adk, rfl, hck⟩ := (HK.out.but HKF.out HB.out).at_ (k := j) (by simpa using hjl)
        have hck2 : wr.cell? (adk.add j) = some (.bool true) := by
          rw [hck, List.getElem_map]
          have hv2 := hv
          rw [List.getD_eq_getElem?_getD, List.getElem?_eq_getElem hjl] at hv2
          exact congrArg (fun z => some (Value.bool z)) hv2
        have hck3 : ∀ o, (wr.alloc o).cell? (adk.add j) = some (.bool true) := fun o => ((Below.refl wr.heap.size wr).alloc (Nat.le_refl _) o |>.cell (World.block_lt_of_cell? _ _ hck2)).trans hck2
        have hjk' : (j : Int) < (nK : Int) := by omega
        have j0 : (0 : Int) ≤ (j : Int) := by omega
        have HV := Lib.hid hv
        clear hck hck2 hv
        obtain ⟨g, rfl, _, hglt, hcg, hfg⟩ := own_at RJ.out.s (by omega)
        have plt : p < wr.heap.size := lt_of_block RJ.out.cell
        have p0 : ∀ o, (wr.alloc o).cell? ⟨p, 0, none⟩ = some (.slice (some ⟨g, 0, none⟩) mj.length cS) := fun o => ((Below.refl wr.heap.size wr).alloc (Nat.le_refl _) o |>.cell (p := ⟨p, 0, none⟩) plt).trans RJ.out.fields.1
        obtain ⟨m1, hm1⟩ : ∃ m1, mj[x.i]? = some m1 := ⟨_, List.getElem?_eq_getElem hxi⟩
        have g0 : ∀ o, (wr.alloc o).cell? ⟨g, x.i, none⟩ = some (.slice m1.A m1.b.length m1.c) := fun o => ((Below.refl wr.heap.size wr).alloc (Nat.le_refl _) o |>.cell (p := ⟨g, x.i, none⟩) hglt).trans (hcg x.i m1.cell (by rw [tcells, List.getElem?_map, hm1]; rfl))
        have gf : ∀ o, (wr.alloc o).frozen? ⟨g, x.i, none⟩ = false := fun o => ((Below.refl wr.heap.size wr).alloc (Nat.le_refl _) o |>.frozen (p := ⟨g, x.i, none⟩) hglt).trans (hfg x.i)
        have x0 : (0 : Int) ≤ (x.i : Int) := by omega
        have x1 : (x.i : Int) < (mj.length : Int) := by omega
        have sF := RJ.out.sF _ rfl
        clear hcg hfg hm1
        go_wp2_with fail
        go_region
        clear p0 g0 gf hck3
        go_wp2
        go_roundw
        case rel =>
          have rs := RJ.out.setS x.i HXM.out
          have ra := rs.below ((Below.refl _ _).alloc (Nat.le_refl _) (.cells #[.int .i64 (x.i : Int), .slice x.m.A x.m.b.length x.m.c] 67))
          refine ⟨j + 1, mj.set x.i x.m, by omega, by go_num, by rw [List.length_set]; exact HML.out, ra.keep (fun _ _ => rfl), ?_, ((HB.out.setCell (p := ⟨g, x.i, none⟩) sF _).alloc (by simpa [World.setCell] using hz) _).drew⟩
          rw [take_next HX.out, wrs_snoc, crash_snoc TL1.out HV.out, if_pos rfl, ← HMJ.out, txs, List.map_set]
          rfl
        case measure => simp [intOf]; omega
    · obtain rfl : j = cs.length := by omega
      have hmj := HMJ.out
      rw [List.take_length, E2.out] at hmj
      have HMJ2 := Lib.hid hmj
      have fd := RJ.out.fields
      have f1 := fd.2.1
      have f3 := fd.2.2.2.1
      have f4 := fd.2.2.2.2.1
      have z1 := fd.2.2.2.2.2 1
      have z3 := fd.2.2.2.2.2 3
      have z4 := fd.2.2.2.2.2 4
      clear hmj fd
      go_wp2
      go_end0
      refine ⟨rfl, ⟨AS, none, AB, cS, 0, cB, mj, [], RS5.drop RJ.out ?_ ?_, HMJ2.out, rfl⟩, ((HB.out.setCell fp _).setCell fp _).setCell fp _⟩
      · rw [blk_set (blk_set (blk_set RJ.out.cell 1 _) 4 _)]; rfl
      · exact fun k hk => (set_off k hk).trans ((set_off k hk).trans (set_off k hk))
end Go.Proofs.Ytogobeinckgjmaa
