/- Contracts of the law's own known, own and kinds. -/
import Derived.Test.YtobdaiiojclfkaaPs
import Derived.Test.YtobdaiiojclfkaaFc
namespace Go.Proofs.Ytobdaiiojclfkaa
open Go.RowKit

def knownB (l : List Cd.Pt) : Bool := l.all fun p => decide (1 ≤ p.kind) && decide (p.kind ≤ 5)

set_option maxHeartbeats 1000000 in
theorem known_c {A : Option Addr} {c n : Nat} {ms : List MPt} {w : World} {B : Nat} {tp tb : TypeId} (h : PL w B tp tb A ms) (hn : n = ms.length) (hs : n ≤ 1000000000000) :
    Calls Try.prog 14 #[.slice A n c] w fun e w' => e = .returned (.bool (knownB (pts ms))) ∧ Below w.heap.size w w' := by
  have HP := Lib.hid (h.old (tp' := 0) (tb' := 0))
  clear h
  subst hn
  go_enter Try.func14, Try.ntmps14
  go_wp2_with fail
  go_loopw [7] (fun i wr => ∃ k : Nat, k ≤ ms.length ∧ i = .int .i64 k ∧ knownB (pts (ms.take k)) = true ∧ Below w.heap.size w wr) (fun i _ => ms.length - (intOf i).toNat)
  case atStart => exact ⟨0, by omega, rfl, rfl, Below.refl _ _⟩
  case round =>
    obtain ⟨k, hk, rfl, hall, hb⟩ := hrel
    have HA := Lib.hid hall
    clear hall
    by_cases hlt : k < ms.length
    · obtain ⟨ad, m, rfl, hm, _, d0, d1, d2, d3, d4, d5⟩ := (HP.out.below (Nat.le_refl _) hb).at_ hlt
      have HM := Lib.hid hm
      have HB := Lib.hid (hb.alloc hb.size (.cells m.cells.toArray 39))
      clear hm
      by_cases hl : 1 ≤ m.pt.kind ∧ m.pt.kind ≤ 5
      · obtain ⟨l1, l2⟩ := hl
        go_wp2
        go_roundw
        case rel =>
          refine ⟨k + 1, by omega, by go_num, ?_, HB.out⟩
          rw [take_next HM.out]
          have := HA.out
          unfold knownB pts at this ⊢
          rw [List.map_append, List.all_append, this]
          simp [l1, l2]
        case measure => simp [intOf]; omega
      · have hno : knownB (pts ms) = false := by
          unfold knownB pts
          rw [List.all_eq_false]
          exact ⟨m.pt, List.mem_map.2 ⟨m, List.mem_of_getElem? HM.out, rfl⟩, by simp; omega⟩
        have HN := Lib.hid hno
        clear hno
        by_cases l1 : m.pt.kind < 1
        · clear hl
          go_wp2
          go_ret
          exact ⟨ret_bool HN.out.symm, HB.out⟩
        · have l2 : 5 < m.pt.kind := by omega
          clear hl
          go_wp2
          go_ret
          exact ⟨ret_bool HN.out.symm, HB.out⟩
    · obtain rfl : k = ms.length := by omega
      have ha := HA.out
      rw [List.take_length] at ha
      have HF := Lib.hid ha
      clear ha
      go_wp2
      go_ret
      exact ⟨ret_bool HF.out.symm, hb⟩

theorem Try.infoInt : (Try.prog.info? 3).map (fun i => (i.zero, i.size, i.bytes)) = some (some (.int .i64 0), 1, 8) := by kernel_rfl
theorem lies_int (w : World) (x : Int) {o : Obj} {g : Nat} (hg : g = w.heap.size + 1 := by simp) : Lies ((w.alloc o).alloc (.cells #[.int .i64 x] 3)) 0 3 (some ⟨g, 0, none⟩) [.int .i64 x] := by
  subst hg
  exact Lies.of_blk (heap_alloc2_new w _ _)
def KindsOk (ks : List Int) (w : World) (e : Ending) (w' : World) : Prop :=
  ∃ A n c, e = .returned (.slice A n c) ∧ w'.ownsRow w.heap.size 3 1 (.slice A n c) ks.length (ks.map (Value.int .i64)) ∧ Below w.heap.size w w'

set_option maxHeartbeats 1000000 in
theorem kinds_c {A : Option Addr} {c n : Nat} {ms : List MPt} {w : World} {B : Nat} {tp tb : TypeId} (h : PL w B tp tb A ms) (hn : n = ms.length) (hs : n ≤ 1000000000) :
    Calls Try.prog 16 #[.slice A n c] w (KindsOk ((pts ms).map (·.kind)) w) := by
  have HP := Lib.hid (h.old (tp' := 0) (tb' := 0))
  clear h
  subst hn
  obtain ⟨i0, hi, iz0, iz1, iz2⟩ := info_parts Try.infoInt
  go_enter Try.func16, Try.ntmps16
  go_wp2_with fail
  go_loopw [3, 8] (fun l i wr => ∃ (k : Nat) (A1 : Option Addr) (c1 : Nat), k ≤ ms.length ∧ i = .int .i64 k ∧ l = .slice A1 k c1 ∧ wr.ownsRow w.heap.size 3 1 (.slice A1 k c1) k (((pts (ms.take k)).map (·.kind)).map (Value.int .i64)) ∧ Below w.heap.size w wr) (fun _ i _ => ms.length - (intOf i).toNat)
  case atStart => exact ⟨0, none, 0, by omega, rfl, rfl, World.ownsRow_nil _ _ _ _, Below.refl _ _⟩
  case round =>
    obtain ⟨k, A1, c1, hk, rfl, rfl, ho, hb⟩ := hrel
    have HO := Lib.hid ho
    clear ho
    by_cases hlt : k < ms.length
    · obtain ⟨ad, m, rfl, hm, _, d0, d1, d2, d3, d4, d5⟩ := (HP.out.below (Nat.le_refl _) hb).at_ hlt
      have HM := Lib.hid hm
      have hbs := hb.size
      have HB := Lib.hid hb
      clear hm hb
      go_wp2_with (at_builtin; refine wpList_app _ rfl _ _ 24 rfl w.heap.size 3 i0 _ 1 8 Try.underlying24 hi iz0 iz1 iz2 rfl (by decide) _ k (((pts (ms.take k)).map (·.kind)).map (Value.int .i64)) rfl ((HO.out.alloc _).alloc _) 0 _ 1 1 [.int .i64 m.pt.kind] 3 rfl rfl (lies_int wr m.pt.kind) (by intro u hu; simp at hu; subst hu; rfl) (by unfold maxLen; omega) (by omega) (by simp; omega) ?_)
      intro v' w2 hown' hgrow _
      obtain ⟨A2, k2, rfl⟩ := own_slice hown'
      have T2 := app_below0 ((HO.out.alloc _).alloc _) hgrow (by simp; omega)
      have HT2 := Lib.hid T2
      have O2 := Lib.hid hown'
      clear hown' hgrow T2
      go_wp2
      go_roundw
      case rel =>
        refine ⟨k + 1, A2, k2, by omega, by go_num, rfl, ?_, ((HB.out.alloc hbs _).alloc (by simp; omega) _).trans HT2.out⟩
        have e : ((pts (ms.take (k + 1))).map (·.kind)).map (Value.int .i64) = ((pts (ms.take k)).map (·.kind)).map (Value.int .i64) ++ [Value.int .i64 m.pt.kind] := by
          rw [take_next HM.out]; simp [pts]
        rw [e, List.map_map]
        exact O2.out
      case measure => simp [intOf]; omega
    · obtain rfl : k = ms.length := by omega
      have ho := HO.out
      rw [List.take_length] at ho
      have HO2 := Lib.hid ho
      have hl : ms.length = ((pts ms).map (·.kind)).length := by simp [pts]
      have HLn := Lib.hid hl
      clear ho hl
      go_wp2
      go_ret
      exact ⟨A1, _, c1, rfl, by rw [← HLn.out]; exact HO2.out, hb⟩
end Go.Proofs.Ytobdaiiojclfkaa
