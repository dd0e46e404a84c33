import Derived.Test.YtnhpkcphgdkdiaaGreatZ40
import Derived.Maps.RangeWalk
namespace Go.Proofs.YtnhpkcphgdkdiaaGreat
set_option linter.unusedSimpArgs false
set_option maxRecDepth 100000
section
set_option linter.unusedSimpArgs false
section
open Go.RowKit Go.Lib Go.Shelf Go.Maps
def overN (f2 f1 : Nat → Option Value) (k : Nat) : Option Value := if (f2 k).isSome then f2 k else f1 k
def partN (f2 f1 : Nat → Option Value) (left : Lit → Bool) (k : Nat) : Option Value := if (f2 k).isSome && !left (nkey k) then f2 k else f1 k
theorem part_start {D : DataW Value} {f2 f1 : Nat → Option Value} (h : ∀ k, Maps.has D (nkey k) = (f2 k).isSome) : partN f2 f1 (Maps.has D) = f1 := by
 funext k
 unfold partN
 rw [h k]
 cases (f2 k).isSome <;> simp
theorem part_end {f2 f1 : Nat → Option Value} {left : Lit → Bool} (h : ∀ kl, left kl = false) : partN f2 f1 left = overN f2 f1 := by
 funext k
 unfold partN overN
 rw [h]
 simp
theorem part_step {f2 f1 : Nat → Option Value} {left : Lit → Bool} {x : Nat} {v : Value} (h : f2 x = some v) : partN f2 f1 (fun z => left z && !z.sameKey (nkey x)) = fun j => if j = x then some v else partN f2 f1 left j := by
 funext j
 unfold partN
 by_cases e : j = x
 ·subst e
  simp [h, WideAt.sameKey_self (nkey_lit j)]
 ·have q : (nkey j).sameKey (nkey x) = false := Maps.sameKey_ne (fun q => e (nkey_inj.1 q))
  simp [e, q]
theorem Bt.grown2 {g : Nat} {v u u' : World} (h : Bt g v u) (hg : u.grownBy u' (some g)) : Bt g v u' :=
 ⟨hg.os.trans h.os, hg.tape.trans h.tape, hg.output.trans h.output, Nat.le_trans h.size hg.size, fun k hk hn => (hg.block k (Nat.lt_of_lt_of_le hk h.size) (fun e => by injection e with e; exact hn e)).trans (h.block k hk hn)⟩
set_option maxHeartbeats 4000000 in
theorem cpyL_c {w : World} {m1 m2 n1 n2 : Nat} {f1 f2 : Nat → Option Value} (h1 : UM w m1 n1 f1) (h2 : UM w m2 n2 f2) (hne : m1 ≠ m2) (hv : ∀ k v, f2 k = some v → ∃ l, v = vL l) (hn : n1 + n2 ≤ 1000000) :
  Calls Tryz.prog 46 #[.map (some m1), .map (some m2)] w fun e w' => e = .returned (.tuple #[]) ∧ UM w' m1 (n1 + n2) (overN f2 f1) ∧ Bt m1 w w' := by
 obtain ⟨D, own, hhas, hval⟩ := h2.out
 have sz := own.size_le
 have H1 := hid h1
 have HV := hid hv
 have HH := hid hhas
 have HW := hid hval
 have L1 := hid h1.lt
 have L2 := hid own.lt
 clear h1 h2 hv hhas hval
 go_enter Tryz.func46, Tryz.ntmps46
 go_wp2_with (first | (at_range; refine wpList_range_own _ rfl _ 89 rfl 30 _ u64K Tryz.underlying89 anyV m2 n2 D rfl own ?_; intro w0 hrg0 hg0 hs0) | fail)
 go_frame
 go_loopw [] (fun wr => ∃ (left : Lit → Bool) (cnt m : Nat), wr.ranges Tryz.prog 30 anyV m2 w.heap.size n2 D left cnt ∧ m + cnt ≤ n1 + n2 ∧ Hid (UM wr m1 m (partN f2 f1 left)) ∧ Hid (Bt m1 w wr))
  (fun wr => wr.rangeLeft m2 w.heap.size)
 case atStart => exact ⟨_, _, n1, hrg0, by omega, hid (by rw [part_start HH.out]; exact H1.out.kept hg0 (by simp)), hid ((Bt.refl _ _).grown hg0 (fun k e => by cases e))⟩
 case round =>
  obtain ⟨left, cnt, m, hrg, hm, HU, BT⟩ := hrel
  go_wp2_with (first | (at_next; refine wpList_next_ranges _ rfl _ rfl 30 u64K anyV encU id (fun key kl hk => by obtain ⟨x, hx, _⟩ := nkey_of hk; exact ⟨x, hx⟩) (fun v _ _ => ⟨v, rfl⟩) m2 w.heap.size n2 D _ _ rfl hrg ?_ ?_) | fail)
  ·intro _ hl0
   go_wp2
   go_end0
   exact ⟨rfl, by rw [← part_end hl0]; exact HU.out.up (by omega), BT.out⟩
  ·intro x c kl yd yp w2 cnt2 hkey hlk hv hat hrg2 hlt hg2 hs2 hen
   obtain ⟨x', ex, rfl, hx64⟩ := nkey_of hkey
   obtain rfl : x = x' := by unfold encU at ex; injection ex with _ ex; omega
   have hf : f2 x = some c := by
    have q := HH.out x
    rw [has_true_of_atKey hat] at q
    obtain ⟨v, hv2⟩ := Option.isSome_iff_exists.1 q.symm
    have r := (HW.out x v hv2 (.held v)).symm.trans (hat _)
    have y := anyV_inv hv
    injection y with y _
    rw [y] at r
    injection r with r
    rw [hv2, r]
   obtain ⟨l, rfl⟩ := HV.out x c hf
   have HFx := hid hf
   have U2 := hid (HU.out.kept hg2 (fun q => by injection q with q; have := L1.out; omega))
   have BT2 := hid (BT.out.grown hg2 (fun k e => by cases e; exact Nat.le_refl _))
   obtain ⟨w3, hw3⟩ : ∃ u, w2.alloc (.cells #[.int .u64 (l.id : Int), .string (str l.name)] 32) = u := ⟨_, rfl⟩
   obtain ⟨lb, b3, z3⟩ := new_two hw3
   have hrg3 := hrg2.alloc (.cells #[.int .u64 (l.id : Int), .string (str l.name)] 32)
   rw [hw3] at hrg3
   have U3 := hid (U2.out.below b3 U2.out.lt)
   have BT3 := hid (BT2.out.stay b3)
   obtain ⟨w4, hput, hU4, hg4⟩ := U3.out.put Tryz.underlying89 (by unfold maxLen; omega) hx64 (vL l)
   have hrg4 := hrg3.kept hg4 (fun q => by injection q with q; exact hne q.symm) (fun q => by injection q with q; have := L1.out; omega)
   obtain ⟨l0, l1⟩ := two_cells lb
   have U4 := hid hU4
   have G4 := hid hg4
   have PS := hid (part_step (f1 := f1) (left := left) hf)
   clear hat hkey hf hs2 lb b3 hU4 hg4 hrg3 hv
   unfold vL encL at hen hput
   unfold encU at hen hput
   go_wp2_with fail
   go_roundw
   case rel => exact ⟨_, cnt2, m + 1, hrg4, by omega, hid (by rw [PS.out]; exact U4.out), hid (BT3.out.grown2 G4.out)⟩
   case measure => rw [hrg4.left_eq, hrg.left_eq]; exact hlt
set_option maxHeartbeats 4000000 in
theorem cpyK_c {w : World} {m1 m2 n1 n2 : Nat} {f1 f2 : Nat → Option Value} (h1 : UM w m1 n1 f1) (h2 : UM w m2 n2 f2) (hne : m1 ≠ m2) (hv : ∀ k v, f2 k = some v → ∃ l, v = vK l) (hn : n1 + n2 ≤ 1000000) :
  Calls Tryz.prog 49 #[.map (some m1), .map (some m2)] w fun e w' => e = .returned (.tuple #[]) ∧ UM w' m1 (n1 + n2) (overN f2 f1) ∧ Bt m1 w w' := by
 obtain ⟨D, own, hhas, hval⟩ := h2.out
 have sz := own.size_le
 have H1 := hid h1
 have HV := hid hv
 have HH := hid hhas
 have HW := hid hval
 have L1 := hid h1.lt
 have L2 := hid own.lt
 clear h1 h2 hv hhas hval
 go_enter Tryz.func49, Tryz.ntmps49
 go_wp2_with (first | (at_range; refine wpList_range_own _ rfl _ 93 rfl 30 _ u64K Tryz.underlying93 anyV m2 n2 D rfl own ?_; intro w0 hrg0 hg0 hs0) | fail)
 go_frame
 go_loopw [] (fun wr => ∃ (left : Lit → Bool) (cnt m : Nat), wr.ranges Tryz.prog 30 anyV m2 w.heap.size n2 D left cnt ∧ m + cnt ≤ n1 + n2 ∧ Hid (UM wr m1 m (partN f2 f1 left)) ∧ Hid (Bt m1 w wr))
  (fun wr => wr.rangeLeft m2 w.heap.size)
 case atStart => exact ⟨_, _, n1, hrg0, by omega, hid (by rw [part_start HH.out]; exact H1.out.kept hg0 (by simp)), hid ((Bt.refl _ _).grown hg0 (fun k e => by cases e))⟩
 case round =>
  obtain ⟨left, cnt, m, hrg, hm, HU, BT⟩ := hrel
  go_wp2_with (first | (at_next; refine wpList_next_ranges _ rfl _ rfl 30 u64K anyV encU id (fun key kl hk => by obtain ⟨x, hx, _⟩ := nkey_of hk; exact ⟨x, hx⟩) (fun v _ _ => ⟨v, rfl⟩) m2 w.heap.size n2 D _ _ rfl hrg ?_ ?_) | fail)
  ·intro _ hl0
   go_wp2
   go_end0
   exact ⟨rfl, by rw [← part_end hl0]; exact HU.out.up (by omega), BT.out⟩
  ·intro x c kl yd yp w2 cnt2 hkey hlk hv hat hrg2 hlt hg2 hs2 hen
   obtain ⟨x', ex, rfl, hx64⟩ := nkey_of hkey
   obtain rfl : x = x' := by unfold encU at ex; injection ex with _ ex; omega
   have hf : f2 x = some c := by
    have q := HH.out x
    rw [has_true_of_atKey hat] at q
    obtain ⟨v, hv2⟩ := Option.isSome_iff_exists.1 q.symm
    have r := (HW.out x v hv2 (.held v)).symm.trans (hat _)
    have y := anyV_inv hv
    injection y with y _
    rw [y] at r
    injection r with r
    rw [hv2, r]
   obtain ⟨⟨tk, A4, c4⟩, rfl⟩ := HV.out x c hf
   have HFx := hid hf
   have U2 := hid (HU.out.kept hg2 (fun q => by injection q with q; have := L1.out; omega))
   have BT2 := hid (BT.out.grown hg2 (fun k e => by cases e; exact Nat.le_refl _))
   obtain ⟨w3, hw3⟩ : ∃ u, w2.alloc (.cells #[.int .u64 (tk.id : Int), .int .u64 (tk.list : Int), .string (str tk.title), .bool tk.done, .float .f64 tk.rank, .float .f64 tk.est, .slice A4 tk.tags.length c4] 38) = u := ⟨_, rfl⟩
   obtain ⟨lb, b3, z3⟩ := new_seven hw3
   have hrg3 := hrg2.alloc (.cells #[.int .u64 (tk.id : Int), .int .u64 (tk.list : Int), .string (str tk.title), .bool tk.done, .float .f64 tk.rank, .float .f64 tk.est, .slice A4 tk.tags.length c4] 38)
   rw [hw3] at hrg3
   have U3 := hid (U2.out.below b3 U2.out.lt)
   have BT3 := hid (BT2.out.stay b3)
   obtain ⟨w4, hput, hU4, hg4⟩ := U3.out.put Tryz.underlying93 (by unfold maxLen; omega) hx64 (vK (⟨tk, A4, c4⟩ : MTk))
   have hrg4 := hrg3.kept hg4 (fun q => by injection q with q; exact hne q.symm) (fun q => by injection q with q; have := L1.out; omega)
   obtain ⟨l0, l1, l2, l3, l4, l5, l6⟩ := seven_cells lb
   have U4 := hid hU4
   have G4 := hid hg4
   have PS := hid (part_step (f1 := f1) (left := left) hf)
   clear hat hkey hf hs2 lb b3 hU4 hg4 hrg3 hv
   unfold vK encK at hen hput
   unfold encU at hen hput
   go_wp2_with fail
   go_roundw
   case rel => exact ⟨_, cnt2, m + 1, hrg4, by omega, hid (by rw [PS.out]; exact U4.out), hid (BT3.out.grown2 G4.out)⟩
   case measure => rw [hrg4.left_eq, hrg.left_eq]; exact hlt
end
end
end Go.Proofs.YtnhpkcphgdkdiaaGreat
