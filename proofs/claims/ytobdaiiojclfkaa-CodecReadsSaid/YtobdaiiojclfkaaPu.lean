/- Contract of codec.Put. -/
import Derived.Test.YtobdaiiojclfkaaPt
namespace Go.Proofs.Ytobdaiiojclfkaa
open Go.RowKit

/-- It returned bytes of its own, and left all older memory alone. -/
def BytesOk (B : Nat) (l : List UInt8) (w : World) (e : Ending) (w' : World) : Prop :=
  ∃ A n c, e = .returned (.slice A n c) ∧ w'.ownsRow B 5 1 (.slice A n c) l.length (bcells l) ∧ Below B w w'

theorem encs_snoc (ms : List MPt) (m : MPt) : Cd.encs (pts (ms ++ [m])) = Cd.encs (pts ms) ++ Cd.enc m.pt := by simp [Cd.encs, pts]
theorem encs_part {ms : List MPt} {k : Nat} {m : MPt} (h : ms[k]? = some m) : (Cd.encs (pts (ms.take k))).length + (Cd.enc m.pt).length ≤ (Cd.encs (pts ms)).length := by
  have e : ms = ms.take k ++ ([m] ++ ms.drop (k + 1)) := by
    rw [← List.append_assoc, ← take_next h, List.take_append_drop]
  conv => rhs; rw [e]
  simp only [Cd.encs, pts, List.map_append, List.flatMap_append, List.length_append, List.map_cons, List.map_nil, List.flatMap_cons, List.flatMap_nil]
  simp

set_option maxHeartbeats 4000000 in
set_option maxRecDepth 100000 in
theorem put_c {A : Option Addr} {c n : Nat} {ms : List MPt} {w : World} {B : Nat} {tp tb : TypeId} (h : PL w B tp tb A ms) (hn : n = ms.length) (hk : ∀ m ∈ ms, m.pt.ok) (hs : (Cd.encs (pts ms)).length + 9 ≤ 100000000000) (hm : ms.length ≤ 100000000000) :
    Calls Try.prog 11 #[.slice A n c] w (BytesOk w.heap.size (Cd.encs (pts ms)) w) := by
  have HP := Lib.hid (h.old (tp' := 0) (tb' := 0))
  have HK := Lib.hid hk
  have HS := Lib.hid hs
  clear h hk hs
  subst hn
  have hw0 : WS w.heap.size (w.alloc (.cells #[.slice none 0 0] 59)) w.heap.size [] := ⟨Nat.le_refl _, none, 0, heap_alloc_new w _, World.ownsRow_nil _ _ _ _⟩
  have HW := Lib.hid hw0
  clear hw0
  go_enter Try.func11, Try.ntmps11
  go_wp2_with fail
  go_loopw [10] (fun i wr => ∃ k : Nat, k ≤ ms.length ∧ i = .int .i64 k ∧ WS w.heap.size wr w.heap.size (Cd.encs (pts (ms.take k))) ∧ Below w.heap.size w wr) (fun i _ => ms.length - (intOf i).toNat)
  case atStart => exact ⟨0, by omega, rfl, by simpa [pts, Cd.encs] using HW.out, (Below.refl _ _).alloc (Nat.le_refl _) _⟩
  case round =>
    obtain ⟨k, hk, rfl, hws, hb⟩ := hrel
    by_cases hlt : k < ms.length
    · obtain ⟨ad, m, rfl, hm', hfine, d0, d1, d2, d3, d4, d5⟩ := (HP.out.below (Nat.le_refl _) hb).at_ hlt
      have HM := Lib.hid hm'
      have HF := Lib.hid hfine
      have HO := Lib.hid (HK.out m (List.mem_of_getElem? hm'))
      have EL := Lib.hid (encs_part hm')
      have HB := Lib.hid hb
      clear hm' hfine hb
      by_cases hk1 : m.pt.kind = 1
      · rw [hk1] at d0
        have E : Hid (Cd.enc m.pt = Cd.num m.pt.n.toNat) := by unfold Hid Cd.enc; simp [hk1]
        have EL2 := EL.out
        rw [E.out] at EL2
        have HS2 := HS.out
        clear hk1
        go_wp2_with fail
        refine (wN1_c m.pt.n.toNat (by simp) (hws.alloc _) (by have := HO.out.n0; omega) (by have := HO.out.n0; have := HO.out.n1; omega) (by omega)).mono ?_
        rintro e w' ⟨rfl, hw2, t2⟩
        have HT := Lib.hid t2
        clear t2
        go_wp2
        go_roundw
        case rel => exact ⟨k + 1, by omega, by go_num, by rw [take_next HM.out, encs_snoc, E.out]; exact hw2, (HB.out.alloc HB.out.size _).trans HT.out.below⟩
        case measure => simp [intOf]; omega
      by_cases hk2 : m.pt.kind = 2
      · rw [hk2] at d0
        have E : Hid (Cd.enc m.pt = Cd.num (Cd.zig m.pt.i)) := by unfold Hid Cd.enc; simp [hk2]
        have EL2 := EL.out
        rw [E.out] at EL2
        have HS2 := HS.out
        clear hk2
        go_wp2_with fail
        refine (wI_c (hws.alloc _) HO.out.i0 HO.out.i1 (by omega)).mono ?_
        rintro e w' ⟨rfl, hw2, t2⟩
        have HT := Lib.hid t2
        clear t2
        go_wp2
        go_roundw
        case rel => exact ⟨k + 1, by omega, by go_num, by rw [take_next HM.out, encs_snoc, E.out]; exact hw2, (HB.out.alloc HB.out.size _).trans HT.out.below⟩
        case measure => simp [intOf]; omega
      by_cases hk3 : m.pt.kind = 3
      · rw [hk3] at d0
        have E : Hid (Cd.enc m.pt = Cd.fix (Fl.key m.pt.f).toNat 8) := by unfold Hid Cd.enc; simp [hk3]
        have EL2 := EL.out
        rw [E.out] at EL2
        have HS2 := HS.out
        clear hk3
        go_wp2_with fail
        refine (wF_c (hws.alloc _) HO.out.f1 (by omega)).mono ?_
        rintro e w' ⟨rfl, hw2, t2⟩
        have HT := Lib.hid t2
        clear t2
        go_wp2
        go_roundw
        case rel => exact ⟨k + 1, by omega, by go_num, by rw [take_next HM.out, encs_snoc, E.out]; exact hw2, (HB.out.alloc HB.out.size _).trans HT.out.below⟩
        case measure => simp [intOf]; omega
      by_cases hk4 : m.pt.kind = 4
      · rw [hk4] at d0
        have E : Hid (Cd.enc m.pt = Cd.num m.pt.b.length ++ m.pt.b) := by unfold Hid Cd.enc; simp [hk4]
        have EL2 := EL.out
        rw [E.out] at EL2
        simp only [List.length_append] at EL2
        have HS2 := HS.out
        clear hk4
        go_wp2_with fail
        refine (wB_c (hws.alloc _) (HF.out.1.alloc HB.out.size _) rfl (by omega)).mono ?_
        rintro e w' ⟨rfl, hw2, t2⟩
        have HT := Lib.hid t2
        clear t2
        go_wp2
        go_roundw
        case rel => exact ⟨k + 1, by omega, by go_num, by rw [take_next HM.out, encs_snoc, E.out]; exact hw2, (HB.out.alloc HB.out.size _).trans HT.out.below⟩
        case measure => simp [intOf]; omega
      by_cases hk5 : m.pt.kind = 5
      · rw [hk5] at d0
        have E : Hid (Cd.enc m.pt = [if m.pt.is = true then 1 else 0]) := by unfold Hid Cd.enc; simp [hk5]
        have EL2 := EL.out
        rw [E.out] at EL2
        have HS2 := HS.out
        clear hk5
        go_wp2_with fail
        refine (wG_c (hws.alloc _) (by omega)).mono ?_
        rintro e w' ⟨rfl, hw2, t2⟩
        have HT := Lib.hid t2
        clear t2
        go_wp2
        go_roundw
        case rel => exact ⟨k + 1, by omega, by go_num, by rw [take_next HM.out, encs_snoc, E.out]; exact hw2, (HB.out.alloc HB.out.size _).trans HT.out.below⟩
        case measure => simp [intOf]; omega
      · have E : Hid (Cd.enc m.pt = []) := by unfold Hid Cd.enc; simp [hk1, hk2, hk3, hk4, hk5]
        go_wp2
        go_roundw
        case rel => exact ⟨k + 1, by omega, by go_num, by rw [take_next HM.out, encs_snoc, E.out, List.append_nil]; exact hws.alloc _, HB.out.alloc HB.out.size _⟩
        case measure => simp [intOf]; omega
    · obtain rfl : k = ms.length := by omega
      rw [List.take_length] at hws
      obtain ⟨hB2, A2, c2, hp, hown⟩ := hws
      have q1 := cell_of_one hp
      have HO := Lib.hid hown
      clear hown
      go_wp2
      go_ret
      exact ⟨A2, _, c2, rfl, HO.out, hb⟩
end Go.Proofs.Ytobdaiiojclfkaa
