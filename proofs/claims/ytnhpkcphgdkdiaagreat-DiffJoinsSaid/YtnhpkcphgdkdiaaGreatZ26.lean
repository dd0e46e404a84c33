import Derived.Test.YtnhpkcphgdkdiaaGreatZ20
import Derived.Test.YtnhpkcphgdkdiaaGreatZ21
import Derived.Test.YtnhpkcphgdkdiaaGreatZ22
import Derived.Test.YtnhpkcphgdkdiaaGreatZ23
import Derived.Test.YtnhpkcphgdkdiaaGreatZ24
import Derived.Test.YtnhpkcphgdkdiaaGreatZ25
namespace Go.Proofs.YtnhpkcphgdkdiaaGreat
set_option linter.unusedSimpArgs false
set_option maxRecDepth 100000
section
open Go.Shelf Go.RowKit Go.Lib Go.Sort
def cmpI (a b : Nat) : Int := if a < b then -1 else if b < a then 1 else 0
def cmpS (a b : List UInt8) : Int := if a < b then -1 else if b < a then 1 else 0
def cfL (a b : T9.Li) : Int := cmpI a.id b.id
def cfM (a b : MTk) : Int := cmpI a.t.id b.t.id
theorem cmpI_neg (a b : Nat) : decide (cmpI a b < 0) = decide (a < b) := by
 unfold cmpI
 by_cases h : a < b
 ·simp [h]
 ·by_cases k : b < a
  ·simp [h, k]
  ·simp [h, k]
theorem cmpS_neg (a b : List UInt8) : decide (cmpS a b < 0) = decide (a < b) := by
 unfold cmpS
 by_cases h : a < b
 ·simp [h]
 ·by_cases k : b < a
  ·simp [h, k]
  ·simp [h, k]
theorem ltOf_L : ltOf cfL = T9.ltL := by funext a b; exact cmpI_neg a.id b.id
theorem ltOf_M : ltOf cfM = ltM := by funext a b; exact cmpI_neg a.t.id b.t.id
theorem ltOf_S : ltOf cmpS = T9.ltS := by funext a b; exact cmpS_neg a b
theorem isNaNU_c (a : Int) (w : World) : Calls Tryz.prog 93 #[.int .u64 a] w fun e w' => e = .returned (.bool false) ∧ w = w' := by
 go_enter Tryz.func93, Tryz.ntmps93
 go_wp2
 go_ret
 exact ⟨ret_bool (by simp), rfl⟩
theorem isNaNS_c (a : ByteArray) (w : World) : Calls Tryz.prog 96 #[.string a] w fun e w' => e = .returned (.bool false) ∧ w = w' := by
 go_enter Tryz.func96, Tryz.ntmps96
 go_wp2
 go_ret
 exact ⟨ret_bool (by simp), rfl⟩
set_option maxHeartbeats 400000 in
theorem cmpU_c (a b : Nat) (w : World) : Calls Tryz.prog 63 #[.int .u64 (a : Int), .int .u64 (b : Int)] w fun e w' => e = .returned (.int .i64 (cmpI a b)) ∧ w = w' := by
 unfold cmpI
 by_cases h : a < b
 ·have hz : (a : Int) < (b : Int) := by omega
  go_enter Tryz.func63, Tryz.ntmps63
  go_wp2_with (go_at_call 93; refine (isNaNU_c _ _).mono ?_; rintro e w' ⟨rfl, rfl⟩)
  go_ret
  exact ⟨by simp, rfl⟩
 ·have hz : ¬ (a : Int) < (b : Int) := by omega
  by_cases k : b < a
  ·have kz : (b : Int) < (a : Int) := by omega
   go_enter Tryz.func63, Tryz.ntmps63
   go_wp2_with (go_at_call 93; refine (isNaNU_c _ _).mono ?_; rintro e w' ⟨rfl, rfl⟩)
   go_ret
   exact ⟨by simp, rfl⟩
  ·have kz : ¬ (b : Int) < (a : Int) := by omega
   go_enter Tryz.func63, Tryz.ntmps63
   go_wp2_with (go_at_call 93; refine (isNaNU_c _ _).mono ?_; rintro e w' ⟨rfl, rfl⟩)
   go_ret
   exact ⟨by simp, rfl⟩
theorem less_yes {a b : List UInt8} (h : a < b) : Op.bytesLess a b = true := by rw [Go.Proofs.bytesLess_eq]; exact decide_eq_true h
theorem less_no {a b : List UInt8} (h : ¬ a < b) : Op.bytesLess a b = false := by rw [Go.Proofs.bytesLess_eq]; exact decide_eq_false h
set_option maxHeartbeats 400000 in
theorem cmpStr_c (a b : List UInt8) (w : World) : Calls Tryz.prog 74 #[.string (str a), .string (str b)] w fun e w' => e = .returned (.int .i64 (cmpS a b)) ∧ w = w' := by
 by_cases h : a < b
 ·have hb := less_yes h
  rw [show cmpS a b = -1 by unfold cmpS; rw [if_pos h]]
  clear h
  go_enter Tryz.func74, Tryz.ntmps74
  go_wp2_with (go_at_call 96; refine (isNaNS_c _ _).mono ?_; rintro e w' ⟨rfl, rfl⟩)
  go_ret
  exact ⟨rfl, rfl⟩
 ·have hb := less_no h
  by_cases k : b < a
  ·have hne : (a == b) = false := by
    rw [beq_eq_false_iff_ne]
    rintro rfl
    exact h k
   have hne2 : (!(a == b)) = true := by rw [hne]; rfl
   rw [show cmpS a b = 1 by unfold cmpS; rw [if_neg h, if_pos k]]
   clear h k
   go_enter Tryz.func74, Tryz.ntmps74
   go_wp2_with (go_at_call 96; refine (isNaNS_c _ _).mono ?_; rintro e w' ⟨rfl, rfl⟩)
   go_ret
   exact ⟨rfl, rfl⟩
  ·have he : (a == b) = true := by
    rw [beq_iff_eq]
    rcases List.le_iff_lt_or_eq.1 (List.not_lt.1 h) with r | r
    ·exact absurd r k
    ·exact r.symm
   have he2 : (!(a == b)) = false := by rw [he]; rfl
   rw [show cmpS a b = 0 by unfold cmpS; rw [if_neg h, if_neg k]]
   clear h k
   go_enter Tryz.func74, Tryz.ntmps74
   go_wp2_with (go_at_call 96; refine (isNaNS_c _ _).mono ?_; rintro e w' ⟨rfl, rfl⟩)
   go_ret
   exact ⟨rfl, rfl⟩
theorem mixed9 : Tryz.prog.follows .mixedOrders = true := by kernel_rfl
theorem drewN_zero (w : World) : w.drewN 0 = w := rfl
theorem keyL_c (x : T9.Li) (w : World) : Calls Tryz.prog 39 #[.agg (encL x).toArray] w fun e w' => e = .returned (.int .u64 (x.id : Int)) ∧ ∃ q os', w' = grow (w.drewN q) os' := by
 unfold encL
 go_enter Tryz.func39, Tryz.ntmps39
 go_wp2
 go_ret
 exact ⟨rfl, 0, #[_], by rw [drewN_zero, ← alloc_eq_grow]⟩
theorem keyM_c (x : MTk) (w : World) : Calls Tryz.prog 41 #[.agg (encK x).toArray] w fun e w' => e = .returned (.int .u64 (x.t.id : Int)) ∧ ∃ q os', w' = grow (w.drewN q) os' := by
 unfold encK
 go_enter Tryz.func41, Tryz.ntmps41
 go_wp2
 go_ret
 exact ⟨rfl, 0, #[_], by rw [drewN_zero, ← alloc_eq_grow]⟩
theorem keyS_c (x : List UInt8) (w : World) : Calls Tryz.prog 43 #[encS x] w fun e w' => e = .returned (.string (str x)) ∧ ∃ q os', w' = grow (w.drewN q) os' := by
 unfold encS
 go_enter Tryz.func43, Tryz.ntmps43
 go_wp2
 go_ret
 exact ⟨rfl, 0, #[], by rw [drewN_zero, grow_empty]⟩
theorem quiet_same {P : Program} {f : FuncId} {args : Array Value} {w : World} {v : Value} (h : Calls P f args w fun e w' => e = .returned v ∧ w = w') : Calls P f args w fun e w' => e = .returned v ∧ ∃ q os', w' = grow (w.drewN q) os' :=
 h.mono fun e w' ⟨he, hw⟩ => ⟨he, 0, #[], by rw [grow_empty, drewN_zero, hw]⟩
theorem grow_two (W : World) (o1 o2 : Obj) (q : Nat) (os : Array Obj) : grow (((W.alloc o1).alloc o2).drewN q) os = grow (W.drewN q) (#[o1, o2] ++ os) := by
 rw [alloc_eq_grow, alloc_eq_grow, grow_grow]
 show grow (grow (W.drewN q) _) os = _
 rw [grow_grow]
 rfl
theorem bx_cell {α : Type} {enc : α → List Value} {k : Nat} {w : World} {blk off m : Nat} {dk : Array α} {os : Array Obj} [Inhabited α] {bx : Nat} {v : Value} (h : w.cell? ⟨bx, 0, none⟩ = some v) (hne : bx ≠ blk) (hlt : bx < w.heap.size) : (sortWorldK enc k w blk off m dk os).cell? ⟨bx, 0, none⟩ = some v := by
 unfold sortWorldK
 rw [cell?_grow _ _ _ (by rw [size_putRowK]; exact hlt), cell?_putRowK_other enc k _ blk off dk _ hne]
 exact h
theorem bx_cell1 {α : Type} {enc : α → Value} {w : World} {blk off m : Nat} {dk : Array α} {os : Array Obj} [Inhabited α] {bx : Nat} {v : Value} (h : w.cell? ⟨bx, 0, none⟩ = some v) (hne : bx ≠ blk) (hlt : bx < w.heap.size) : (sortWorld enc w blk off m dk os).cell? ⟨bx, 0, none⟩ = some v := by
 unfold sortWorld
 rw [cell?_grow _ _ _ (by simpa [putRow, mapBlock] using hlt), cell?_putRow_other enc _ blk off dk _ (.inl hne)]
 exact h
theorem eqvL_id (x y : T9.Li) : Sr.eqv T9.ltL x y = ((x.id : Int) == (y.id : Int)) := by
 rw [Bool.eq_iff_iff]
 simp [Sr.eqv, T9.ltL]
 omega
theorem eqvM_id (x y : MTk) : Sr.eqv ltM x y = ((x.t.id : Int) == (y.t.id : Int)) := by
 rw [Bool.eq_iff_iff]
 simp [Sr.eqv, ltM, T9.ltK]
 omega
theorem eqvS_eq (x y : List UInt8) : Sr.eqv T9.ltS x y = (x == y) := by
 rw [Bool.eq_iff_iff]
 simp only [Sr.eqv, T9.ltS, Bool.and_eq_true, Bool.not_eq_true', decide_eq_false_iff_not, beq_iff_eq]
 constructor
 ·rintro ⟨h, k⟩
  rcases List.le_iff_lt_or_eq.1 (List.not_lt.1 h) with r | r
  ·exact absurd r k
  ·exact r.symm
 ·rintro rfl
  exact ⟨List.lt_irrefl _, List.lt_irrefl _⟩
set_option maxHeartbeats 1000000 in
theorem cmpL_w {bx : Nat} (x y : T9.Li) (W : World) (hb : W.cell? ⟨bx, 0, none⟩ = some (.func (.func 39) #[] #[])) (hlt : bx < W.heap.size) :
  Calls Tryz.prog 62 #[.agg (encL x).toArray, .agg (encL y).toArray, .pointer (some ⟨bx, 0, none⟩)] W fun e w' => e = .returned (.int .i64 (cfL x y)) ∧ ∃ q os', w' = grow (W.drewN q) os' := by
 obtain ⟨wB, hwB⟩ : ∃ u, (W.alloc (.cells (encL x).toArray 32)).alloc (.cells (encL y).toArray 32) = u := ⟨_, rfl⟩
 have sB : wB.heap.size = W.heap.size + 2 := by rw [← hwB]; simp
 have GB : Hid (∀ q os, grow (wB.drewN q) os = grow (W.drewN q) (#[.cells (encL x).toArray 32, .cells (encL y).toArray 32] ++ os)) := hid fun q os => by rw [← hwB]; exact grow_two W _ _ q os
 have cb : ∀ n os, (grow (wB.drewN n) os).cell? ⟨bx, 0, none⟩ = some (.func (.func 39) #[] #[]) := fun n os => cell_grown (by show bx < wB.heap.size; omega) (by
  have b2 : Below W.heap.size W wB := by rw [← hwB]; exact ((Below.refl _ W).alloc (Nat.le_refl _) _).alloc (by simp) _
  exact (b2.cell (p := ⟨bx, 0, none⟩) hlt).trans hb) n os
 have lx : ∀ n os, ∀ j (h : j < (encL x).length), (grow (wB.drewN n) os).cell? ⟨W.heap.size, j, none⟩ = some ((encL x)[j]) := fun n os j h => cell_grown (by show W.heap.size < wB.heap.size; omega) (by
  have k : wB.heap[W.heap.size]? = some (.cells (encL x).toArray 32 (0, 0)) := by rw [← hwB]; exact blk_alloc (heap_alloc_new W _) _
  rw [cell_of_row wB W.heap.size j _ _ _ k]
  simp [h]) n os
 have ly : ∀ n os, ∀ j (h : j < (encL y).length), (grow (wB.drewN n) os).cell? ⟨W.heap.size + 1, j, none⟩ = some ((encL y)[j]) := fun n os j h => cell_grown (by show W.heap.size + 1 < wB.heap.size; omega) (by
  have k : wB.heap[W.heap.size + 1]? = some (.cells (encL y).toArray 32 (0, 0)) := by
   rw [← hwB]
   have := heap_alloc_new (W.alloc (.cells (encL x).toArray 32)) (.cells (encL y).toArray 32)
   rwa [World.size_alloc] at this
  rw [cell_of_row wB (W.heap.size + 1) j _ _ _ k]
  simp [h]) n os
 have x0 := fun n os => lx n os 0 (by rw [encL_len]; decide)
 have y0 := fun n os => ly n os 0 (by rw [encL_len]; decide)
 have x1 := fun n os => lx n os 1 (by rw [encL_len]; decide)
 have y1 := fun n os => ly n os 1 (by rw [encL_len]; decide)
 clear lx ly hb sB
 unfold encL at x0 y0 x1 y1 hwB ⊢
 simp only [List.getElem_cons_zero, List.getElem_cons_succ] at x0 y0 x1 y1
 go_enter Tryz.func62, Tryz.ntmps62
 go_wp2_with fail
 clear hwB
 have mixed := mixed9
 go_quiet_grown (first | (go_at_call 39; first | exact Calls.grown_of (keyL_c x _) | exact Calls.grown_of (keyL_c y _)) | (go_at_call 63; refine Calls.grown_of (quiet_same (cmpU_c _ _ _))))
 go_wp2
 go_ret
 refine ⟨rfl, nq, _, GB.out nq osq⟩
set_option maxHeartbeats 1000000 in
theorem eqL_w {bx : Nat} (x y : T9.Li) (W : World) (hb : W.cell? ⟨bx, 0, none⟩ = some (.func (.func 39) #[] #[])) (hlt : bx < W.heap.size) :
  Calls Tryz.prog 65 #[.agg (encL x).toArray, .agg (encL y).toArray, .pointer (some ⟨bx, 0, none⟩)] W fun e w' => e = .returned (.bool (Sr.eqv T9.ltL x y)) ∧ ∃ q os', w' = grow (W.drewN q) os' := by
 obtain ⟨wB, hwB⟩ : ∃ u, (W.alloc (.cells (encL x).toArray 32)).alloc (.cells (encL y).toArray 32) = u := ⟨_, rfl⟩
 have sB : wB.heap.size = W.heap.size + 2 := by rw [← hwB]; simp
 have GB : Hid (∀ q os, grow (wB.drewN q) os = grow (W.drewN q) (#[.cells (encL x).toArray 32, .cells (encL y).toArray 32] ++ os)) := hid fun q os => by rw [← hwB]; exact grow_two W _ _ q os
 have cb : ∀ n os, (grow (wB.drewN n) os).cell? ⟨bx, 0, none⟩ = some (.func (.func 39) #[] #[]) := fun n os => cell_grown (by show bx < wB.heap.size; omega) (by
  have b2 : Below W.heap.size W wB := by rw [← hwB]; exact ((Below.refl _ W).alloc (Nat.le_refl _) _).alloc (by simp) _
  exact (b2.cell (p := ⟨bx, 0, none⟩) hlt).trans hb) n os
 have lx : ∀ n os, ∀ j (h : j < (encL x).length), (grow (wB.drewN n) os).cell? ⟨W.heap.size, j, none⟩ = some ((encL x)[j]) := fun n os j h => cell_grown (by show W.heap.size < wB.heap.size; omega) (by
  have k : wB.heap[W.heap.size]? = some (.cells (encL x).toArray 32 (0, 0)) := by rw [← hwB]; exact blk_alloc (heap_alloc_new W _) _
  rw [cell_of_row wB W.heap.size j _ _ _ k]
  simp [h]) n os
 have ly : ∀ n os, ∀ j (h : j < (encL y).length), (grow (wB.drewN n) os).cell? ⟨W.heap.size + 1, j, none⟩ = some ((encL y)[j]) := fun n os j h => cell_grown (by show W.heap.size + 1 < wB.heap.size; omega) (by
  have k : wB.heap[W.heap.size + 1]? = some (.cells (encL y).toArray 32 (0, 0)) := by
   rw [← hwB]
   have := heap_alloc_new (W.alloc (.cells (encL x).toArray 32)) (.cells (encL y).toArray 32)
   rwa [World.size_alloc] at this
  rw [cell_of_row wB (W.heap.size + 1) j _ _ _ k]
  simp [h]) n os
 have x0 := fun n os => lx n os 0 (by rw [encL_len]; decide)
 have y0 := fun n os => ly n os 0 (by rw [encL_len]; decide)
 have x1 := fun n os => lx n os 1 (by rw [encL_len]; decide)
 have y1 := fun n os => ly n os 1 (by rw [encL_len]; decide)
 clear lx ly hb sB
 unfold encL at x0 y0 x1 y1 hwB ⊢
 simp only [List.getElem_cons_zero, List.getElem_cons_succ] at x0 y0 x1 y1
 go_enter Tryz.func65, Tryz.ntmps65
 go_wp2_with fail
 clear hwB
 have mixed := mixed9
 go_quiet_grown (first | (go_at_call 39; first | exact Calls.grown_of (keyL_c x _) | exact Calls.grown_of (keyL_c y _)))
 go_wp2
 go_ret
 refine ⟨ret_bool (eqvL_id x y).symm, nq, _, GB.out nq osq⟩
end
end Go.Proofs.YtnhpkcphgdkdiaaGreat
