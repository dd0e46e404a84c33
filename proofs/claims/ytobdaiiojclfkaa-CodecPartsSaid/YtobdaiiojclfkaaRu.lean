/- Contract of the document's own PutParts. -/
import Derived.Test.YtobdaiiojclfkaaPu
import Derived.Test.YtobdaiiojclfkaaRw
namespace Go.Proofs.Ytobdaiiojclfkaa
open Go.RowKit

set_option maxHeartbeats 4000000 in
set_option maxRecDepth 100000 in
theorem refPut_c {A : Option Addr} {c n : Nat} {ms : List MPt} {w : World} {B : Nat} {tp tb : TypeId} (h : PL w B tp tb A ms) (hn : n = ms.length) (hk : ∀ m ∈ ms, m.pt.ok) (hs : (Cd.encs (pts ms)).length + 9 ≤ 100000000000) (hm : ms.length ≤ 100000000000) :
    Calls Try.prog 12 #[.slice A n c] w (BytesOk w.heap.size (Cd.encs (pts ms)) w) := by
  have HP := Lib.hid (h.old (tp' := 0) (tb' := 0))
  have HK := Lib.hid hk
  have HS := Lib.hid hs
  clear h hk hs
  subst hn
  go_enter Try.func12, Try.ntmps12
  go_wp2_with fail
  go_loopw [3, 8] (fun b i wr => ∃ (k : Nat) (A1 : Option Addr) (m1 c1 : Nat), k ≤ ms.length ∧ i = .int .i64 k ∧ b = .slice A1 m1 c1 ∧ wr.ownsRow w.heap.size 5 1 (.slice A1 m1 c1) (Cd.encs (pts (ms.take k))).length (bcells (Cd.encs (pts (ms.take k)))) ∧ Below w.heap.size w wr) (fun _ i _ => ms.length - (intOf i).toNat)
  case atStart => exact ⟨0, none, 0, 0, by omega, rfl, rfl, World.ownsRow_nil _ _ _ _, Below.refl _ _⟩
  case round =>
    obtain ⟨k, A1, m1, c1, hk, rfl, rfl, ho, hb⟩ := hrel
    have HW := Lib.hid ho
    clear ho
    by_cases hlt : k < ms.length
    · obtain ⟨ad, m, rfl, hm', hfine, d0, d1, d2, d3, d4, d5⟩ := (HP.out.below (Nat.le_refl _) hb).at_ hlt
      have HM := Lib.hid hm'
      have HF := Lib.hid hfine
      have HO := Lib.hid (HK.out m (List.mem_of_getElem? hm'))
      have EL := Lib.hid (encs_part hm')
      have hbs := hb.size
      have HB := Lib.hid hb
      clear hm' hfine hb
      by_cases hk1 : m.pt.kind = 1
      · rw [hk1] at d0
        have E : Hid (Cd.enc m.pt = Cd.num m.pt.n.toNat) := by unfold Hid Cd.enc; simp [hk1]
        have EL2 := EL.out
        rw [E.out] at EL2
        have HS2 := HS.out
        clear hk1
        go_wp2_with fail
        refine (rN_c (HW.out.alloc _) (by simp; omega) HO.out.n0 HO.out.n1 (by omega)).mono ?_
        rintro e w' ⟨A2, m2, k2, rfl, ho2, t2⟩
        have HT := Lib.hid t2
        have HO2 := Lib.hid ho2
        clear t2 ho2
        go_wp2
        go_roundw
        case rel => exact ⟨k + 1, A2, m2, k2, by omega, by go_num, rfl, by rw [take_next HM.out, encs_snoc, E.out]; exact HO2.out, (HB.out.alloc HB.out.size _).trans HT.out.below⟩
        case measure => simp [intOf]; omega
      by_cases hk2 : m.pt.kind = 2
      · rw [hk2] at d0
        have E : Hid (Cd.enc m.pt = Cd.num (Cd.zig m.pt.i)) := by unfold Hid Cd.enc; simp [hk2]
        have EL2 := EL.out
        rw [E.out] at EL2
        have HS2 := HS.out
        clear hk2
        go_wp2_with fail
        refine (rI_c (HW.out.alloc _) (by simp; omega) HO.out.i0 HO.out.i1 (by omega)).mono ?_
        rintro e w' ⟨A2, m2, k2, rfl, ho2, t2⟩
        have HT := Lib.hid t2
        have HO2 := Lib.hid ho2
        clear t2 ho2
        go_wp2
        go_roundw
        case rel => exact ⟨k + 1, A2, m2, k2, by omega, by go_num, rfl, by rw [take_next HM.out, encs_snoc, E.out]; exact HO2.out, (HB.out.alloc HB.out.size _).trans HT.out.below⟩
        case measure => simp [intOf]; omega
      by_cases hk3 : m.pt.kind = 3
      · rw [hk3] at d0
        have E : Hid (Cd.enc m.pt = Cd.fix (Fl.key m.pt.f).toNat 8) := by unfold Hid Cd.enc; simp [hk3]
        have EL2 := EL.out
        rw [E.out] at EL2
        have HS2 := HS.out
        clear hk3
        go_wp2_with fail
        refine (rF_c (HW.out.alloc _) (by simp; omega) HO.out.f1 (by omega)).mono ?_
        rintro e w' ⟨A2, m2, k2, rfl, ho2, t2⟩
        have HT := Lib.hid t2
        have HO2 := Lib.hid ho2
        clear t2 ho2
        go_wp2
        go_roundw
        case rel => exact ⟨k + 1, A2, m2, k2, by omega, by go_num, rfl, by rw [take_next HM.out, encs_snoc, E.out]; exact HO2.out, (HB.out.alloc HB.out.size _).trans HT.out.below⟩
        case measure => simp [intOf]; omega
      by_cases hk4 : m.pt.kind = 4
      · rw [hk4] at d0
        have E : Hid (Cd.enc m.pt = Cd.num m.pt.b.length ++ m.pt.b) := by unfold Hid Cd.enc; simp [hk4]
        have EL2 := EL.out
        rw [E.out] at EL2
        simp only [List.length_append] at EL2
        have HS2 := HS.out
        clear hk4
        go_wp2_with fail
        refine (rB_c (HW.out.alloc _) (by simp; omega) (HF.out.1.alloc HB.out.size _) (by decide) rfl (by omega)).mono ?_
        rintro e w' ⟨A2, m2, k2, rfl, ho2, t2⟩
        have HT := Lib.hid t2
        have HO2 := Lib.hid ho2
        clear t2 ho2
        go_wp2
        go_roundw
        case rel => exact ⟨k + 1, A2, m2, k2, by omega, by go_num, rfl, by rw [take_next HM.out, encs_snoc, E.out]; exact HO2.out, (HB.out.alloc HB.out.size _).trans HT.out.below⟩
        case measure => simp [intOf]; omega
      by_cases hk5 : m.pt.kind = 5
      · rw [hk5] at d0
        have E : Hid (Cd.enc m.pt = [if m.pt.is = true then 1 else 0]) := by unfold Hid Cd.enc; simp [hk5]
        have EL2 := EL.out
        rw [E.out] at EL2
        have HS2 := HS.out
        clear hk5
        go_wp2_with fail
        refine (rG_c (HW.out.alloc _) (by simp; omega) (by omega)).mono ?_
        rintro e w' ⟨A2, m2, k2, rfl, ho2, t2⟩
        have HT := Lib.hid t2
        have HO2 := Lib.hid ho2
        clear t2 ho2
        go_wp2
        go_roundw
        case rel => exact ⟨k + 1, A2, m2, k2, by omega, by go_num, rfl, by rw [take_next HM.out, encs_snoc, E.out]; exact HO2.out, (HB.out.alloc HB.out.size _).trans HT.out.below⟩
        case measure => simp [intOf]; omega
      · have E : Hid (Cd.enc m.pt = []) := by unfold Hid Cd.enc; simp [hk1, hk2, hk3, hk4, hk5]
        go_wp2
        go_roundw
        case rel => exact ⟨k + 1, A1, m1, c1, by omega, by go_num, rfl, by rw [take_next HM.out, encs_snoc, E.out, List.append_nil]; exact HW.out.alloc _, HB.out.alloc HB.out.size _⟩
        case measure => simp [intOf]; omega
    · obtain rfl : k = ms.length := by omega
      have ho := HW.out
      rw [List.take_length] at ho
      have HO := Lib.hid ho
      clear ho
      go_wp2
      go_ret
      exact ⟨A1, m1, c1, rfl, HO.out, hb⟩
end Go.Proofs.Ytobdaiiojclfkaa
