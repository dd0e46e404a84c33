import Derived.Test.YtnhpkcphgdkdiaaGreatZ47
namespace Go.Proofs.YtnhpkcphgdkdiaaGreat
set_option linter.unusedSimpArgs false
set_option maxRecDepth 100000
section
set_option linter.unusedSimpArgs false
section
open Go.RowKit Go.Lib Go.Shelf Go.Maps
set_option maxHeartbeats 4000000 in
theorem cpyWL_c {w : World} {m1 m2 n1 n2 : Nat} {f1 f2 : Nat → Option Value} (h1 : UM w m1 n1 f1) (h2 : UM w m2 n2 f2) (hne : m1 ≠ m2) (hv : ∀ k v, f2 k = some v → ∃ (b : Bool) (i : Nat) (s : List UInt8), v = .agg #[.bool b, .int .u64 (i : Int), .string (str s)]) (hn : n1 + n2 ≤ 1000000) :
  Calls Tryz.prog 24 #[.map (some m1), .map (some m2)] w fun e w' => e = .returned (.tuple #[]) ∧ UM w' m1 (n1 + n2) (overN f2 f1) ∧ Bt m1 w w' := by
 obtain ⟨D, own, hhas, hval⟩ := h2.out
 have sz := own.size_le
 have H1 := hid h1
 have HV := hid hv
 have HH := hid hhas
 have HW := hid hval
 have L1 := hid h1.lt
 have L2 := hid own.lt
 clear h1 h2 hv hhas hval
 go_enter Tryz.func24, Tryz.ntmps24
 go_wp2_with (first | (at_range; refine wpList_range_own _ rfl _ 61 rfl 30 _ u64K Tryz.underlying61 anyV m2 n2 D rfl own ?_; intro w0 hrg0 hg0 hs0) | fail)
 go_frame
 go_loopw [] (fun wr => ∃ (left : Lit → Bool) (cnt m : Nat), wr.ranges Tryz.prog 30 anyV m2 w.heap.size n2 D left cnt ∧ m + cnt ≤ n1 + n2 ∧ Hid (UM wr m1 m (partN f2 f1 left)) ∧ Hid (Bt m1 w wr))
  (fun wr => wr.rangeLeft m2 w.heap.size)
 case atStart => exact ⟨_, _, n1, hrg0, by omega, hid (by rw [part_start HH.out]; exact H1.out.kept hg0 (by simp)), hid ((Bt.refl _ _).grown hg0 (fun k e => by cases e))⟩
 case round =>
  obtain ⟨left, cnt, m, hrg, hm, HU, BT⟩ := hrel
  go_wp2_with (first | (at_next; refine wpList_next_ranges _ rfl _ rfl 30 u64K anyV encU id (fun key kl hk => by obtain ⟨x, hx, _⟩ := nkey_of hk; exact ⟨x, hx⟩) (fun v _ _ => ⟨v, rfl⟩) m2 w.heap.size n2 D _ _ rfl hrg ?_ ?_) | fail)
  ·intro _ hl0
   go_wp2
   go_end0
   exact ⟨rfl, by rw [← part_end hl0]; exact HU.out.up (by omega), BT.out⟩
  ·intro x c kl yd yp w2 cnt2 hkey hlk hv hat hrg2 hlt hg2 hs2 hen
   obtain ⟨x', ex, rfl, hx64⟩ := nkey_of hkey
   obtain rfl : x = x' := by unfold encU at ex; injection ex with _ ex; omega
   have hf : f2 x = some c := by
    have q := HH.out x
    rw [has_true_of_atKey hat] at q
    obtain ⟨v, hv2⟩ := Option.isSome_iff_exists.1 q.symm
    have r := (HW.out x v hv2 (.held v)).symm.trans (hat _)
    have y := anyV_inv hv
    injection y with y _
    rw [y] at r
    injection r with r
    rw [hv2, r]
   obtain ⟨b, i, s, rfl⟩ := HV.out x c hf
   have HFx := hid hf
   have U2 := hid (HU.out.kept hg2 (fun q => by injection q with q; have := L1.out; omega))
   have BT2 := hid (BT.out.grown hg2 (fun k e => by cases e; exact Nat.le_refl _))
   obtain ⟨w3, hw3⟩ : ∃ u, w2.alloc (.cells #[.bool b, .int .u64 (i : Int), .string (str s)] 65) = u := ⟨_, rfl⟩
   obtain ⟨lb, b3, z3⟩ := new_3w hw3
   have hrg3 := hrg2.alloc (.cells #[.bool b, .int .u64 (i : Int), .string (str s)] 65)
   rw [hw3] at hrg3
   have U3 := hid (U2.out.below b3 U2.out.lt)
   have BT3 := hid (BT2.out.stay b3)
   obtain ⟨w4, hput, hU4, hg4⟩ := U3.out.put Tryz.underlying61 (by unfold maxLen; omega) hx64 (.agg #[.bool b, .int .u64 (i : Int), .string (str s)])
   have hrg4 := hrg3.kept hg4 (fun q => by injection q with q; exact hne q.symm) (fun q => by injection q with q; have := L1.out; omega)
   obtain ⟨l0, l1, l2⟩ := cells_3w lb
   have U4 := hid hU4
   have G4 := hid hg4
   have PS := hid (part_step (f1 := f1) (left := left) hf)
   clear hat hkey hf hs2 lb b3 hU4 hg4 hrg3 hv
   unfold encU at hen hput
   go_wp2_with fail
   go_roundw
   case rel => exact ⟨_, cnt2, m + 1, hrg4, by omega, hid (by rw [PS.out]; exact U4.out), hid (BT3.out.grown2 G4.out)⟩
   case measure => rw [hrg4.left_eq, hrg.left_eq]; exact hlt
set_option maxHeartbeats 4000000 in
theorem cpyWK_c {w : World} {m1 m2 n1 n2 : Nat} {f1 f2 : Nat → Option Value} (h1 : UM w m1 n1 f1) (h2 : UM w m2 n2 f2) (hne : m1 ≠ m2) (hv : ∀ k v, f2 k = some v → ∃ (b : Bool) (i l : Nat) (s : List UInt8) (d : Bool) (r e : Nat) (A9 : Option Addr) (n9 c9 : Nat), v = .agg #[.bool b, .int .u64 (i : Int), .int .u64 (l : Int), .string (str s), .bool d, .float .f64 r, .float .f64 e, .slice A9 n9 c9]) (hn : n1 + n2 ≤ 1000000) :
  Calls Tryz.prog 26 #[.map (some m1), .map (some m2)] w fun e w' => e = .returned (.tuple #[]) ∧ UM w' m1 (n1 + n2) (overN f2 f1) ∧ Bt m1 w w' := by
 obtain ⟨D, own, hhas, hval⟩ := h2.out
 have sz := own.size_le
 have H1 := hid h1
 have HV := hid hv
 have HH := hid hhas
 have HW := hid hval
 have L1 := hid h1.lt
 have L2 := hid own.lt
 clear h1 h2 hv hhas hval
 go_enter Tryz.func26, Tryz.ntmps26
 go_wp2_with (first | (at_range; refine wpList_range_own _ rfl _ 66 rfl 30 _ u64K Tryz.underlying66 anyV m2 n2 D rfl own ?_; intro w0 hrg0 hg0 hs0) | fail)
 go_frame
 go_loopw [] (fun wr => ∃ (left : Lit → Bool) (cnt m : Nat), wr.ranges Tryz.prog 30 anyV m2 w.heap.size n2 D left cnt ∧ m + cnt ≤ n1 + n2 ∧ Hid (UM wr m1 m (partN f2 f1 left)) ∧ Hid (Bt m1 w wr))
  (fun wr => wr.rangeLeft m2 w.heap.size)
 case atStart => exact ⟨_, _, n1, hrg0, by omega, hid (by rw [part_start HH.out]; exact H1.out.kept hg0 (by simp)), hid ((Bt.refl _ _).grown hg0 (fun k e => by cases e))⟩
 case round =>
  obtain ⟨left, cnt, m, hrg, hm, HU, BT⟩ := hrel
  go_wp2_with (first | (at_next; refine wpList_next_ranges _ rfl _ rfl 30 u64K anyV encU id (fun key kl hk => by obtain ⟨x, hx, _⟩ := nkey_of hk; exact ⟨x, hx⟩) (fun v _ _ => ⟨v, rfl⟩) m2 w.heap.size n2 D _ _ rfl hrg ?_ ?_) | fail)
  ·intro _ hl0
   go_wp2
   go_end0
   exact ⟨rfl, by rw [← part_end hl0]; exact HU.out.up (by omega), BT.out⟩
  ·intro x c kl yd yp w2 cnt2 hkey hlk hv hat hrg2 hlt hg2 hs2 hen
   obtain ⟨x', ex, rfl, hx64⟩ := nkey_of hkey
   obtain rfl : x = x' := by unfold encU at ex; injection ex with _ ex; omega
   have hf : f2 x = some c := by
    have q := HH.out x
    rw [has_true_of_atKey hat] at q
    obtain ⟨v, hv2⟩ := Option.isSome_iff_exists.1 q.symm
    have r := (HW.out x v hv2 (.held v)).symm.trans (hat _)
    have y := anyV_inv hv
    injection y with y _
    rw [y] at r
    injection r with r
    rw [hv2, r]
   obtain ⟨b, i, l, s, d, r, e, A9, n9, c9, rfl⟩ := HV.out x c hf
   have HFx := hid hf
   have U2 := hid (HU.out.kept hg2 (fun q => by injection q with q; have := L1.out; omega))
   have BT2 := hid (BT.out.grown hg2 (fun k e => by cases e; exact Nat.le_refl _))
   obtain ⟨w3, hw3⟩ : ∃ u, w2.alloc (.cells #[.bool b, .int .u64 (i : Int), .int .u64 (l : Int), .string (str s), .bool d, .float .f64 r, .float .f64 e, .slice A9 n9 c9] 70) = u := ⟨_, rfl⟩
   obtain ⟨lb, b3, z3⟩ := new_8w hw3
   have hrg3 := hrg2.alloc (.cells #[.bool b, .int .u64 (i : Int), .int .u64 (l : Int), .string (str s), .bool d, .float .f64 r, .float .f64 e, .slice A9 n9 c9] 70)
   rw [hw3] at hrg3
   have U3 := hid (U2.out.below b3 U2.out.lt)
   have BT3 := hid (BT2.out.stay b3)
   obtain ⟨w4, hput, hU4, hg4⟩ := U3.out.put Tryz.underlying66 (by unfold maxLen; omega) hx64 (.agg #[.bool b, .int .u64 (i : Int), .int .u64 (l : Int), .string (str s), .bool d, .float .f64 r, .float .f64 e, .slice A9 n9 c9])
   have hrg4 := hrg3.kept hg4 (fun q => by injection q with q; exact hne q.symm) (fun q => by injection q with q; have := L1.out; omega)
   obtain ⟨l0, l1, l2, l3, l4, l5, l6, l7⟩ := cells_8w lb
   have U4 := hid hU4
   have G4 := hid hg4
   have PS := hid (part_step (f1 := f1) (left := left) hf)
   clear hat hkey hf hs2 lb b3 hU4 hg4 hrg3 hv
   unfold encU at hen hput
   go_wp2_with fail
   go_roundw
   case rel => exact ⟨_, cnt2, m + 1, hrg4, by omega, hid (by rw [PS.out]; exact U4.out), hid (BT3.out.grown2 G4.out)⟩
   case measure => rw [hrg4.left_eq, hrg.left_eq]; exact hlt
end
end
end Go.Proofs.YtnhpkcphgdkdiaaGreat
