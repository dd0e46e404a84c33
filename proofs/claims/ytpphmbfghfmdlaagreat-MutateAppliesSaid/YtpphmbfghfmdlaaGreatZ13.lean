import Derived.Test.YtpphmbfghfmdlaaGreatZ7
import Derived.Test.YtpphmbfghfmdlaaGreatZ8
import Derived.Test.YtpphmbfghfmdlaaGreatZ9
import Derived.Test.YtpphmbfghfmdlaaGreatZ10
import Derived.Test.YtpphmbfghfmdlaaGreatZ11
import Derived.Test.YtpphmbfghfmdlaaGreatZ12
namespace Go.Proofs.YtpphmbfghfmdlaaGreat
set_option maxRecDepth 100000
section
open Go.Shelf Go.RowKit Go.Lib Go.Sort
def eT (a b : Nat) : Int := if a < b then -1 else if b < a then 1 else 0
def jm (a b : List UInt8) : Int := if a < b then -1 else if b < a then 1 else 0
def cfL (a b : T9.Li) : Int := eT a.id b.id
def cfM (a b : MTk) : Int := eT a.t.id b.t.id
theorem lY (a b : Nat) : decide (eT a b < 0) = decide (a < b) := by
 unfold eT
 by_cases h : a < b
 ·simp [h]
 ·by_cases k : b < a
  ·simp [h, k]
  ·simp [h, k]
theorem xm (a b : List UInt8) : decide (jm a b < 0) = decide (a < b) := by
 unfold jm
 by_cases h : a < b
 ·simp [h]
 ·by_cases k : b < a
  ·simp [h, k]
  ·simp [h, k]
theorem rX : ltOf cfL = T9.ltL := by funext a b; exact lY a.id b.id
theorem sF : ltOf cfM = ltM := by funext a b; exact lY a.t.id b.t.id
theorem r9 : ltOf jm = T9.ltS := by funext a b; exact xm a b
theorem lH (a : Int) (w : World) : Calls Tryz.prog 159 #[.int .u64 a] w fun e w' => e = .returned (.bool false) ∧ w = w' := by
 go_enter Tryz.func159, Tryz.ntmps159
 go_wp2
 go_ret
 exact ⟨aR (by simp), rfl⟩
theorem iM (a : ByteArray) (w : World) : Calls Tryz.prog 171 #[.string a] w fun e w' => e = .returned (.bool false) ∧ w = w' := by
 go_enter Tryz.func171, Tryz.ntmps171
 go_wp2
 go_ret
 exact ⟨aR (by simp), rfl⟩
set_option maxHeartbeats 400000 in
theorem kG (a b : Nat) (w : World) : Calls Tryz.prog 116 #[.int .u64 (a : Int), .int .u64 (b : Int)] w fun e w' => e = .returned (.int .i64 (eT a b)) ∧ w = w' := by
 unfold eT
 by_cases h : a < b
 ·have hz : (a : Int) < (b : Int) := by omega
  go_enter Tryz.func116, Tryz.ntmps116
  go_wp2_with (go_at_call 159; refine (lH _ _).mono ?_; rintro e w' ⟨rfl, rfl⟩)
  go_ret
  exact ⟨by simp, rfl⟩
 ·have hz : ¬ (a : Int) < (b : Int) := by omega
  by_cases k : b < a
  ·have kz : (b : Int) < (a : Int) := by omega
   go_enter Tryz.func116, Tryz.ntmps116
   go_wp2_with (go_at_call 159; refine (lH _ _).mono ?_; rintro e w' ⟨rfl, rfl⟩)
   go_ret
   exact ⟨by simp, rfl⟩
  ·have kz : ¬ (b : Int) < (a : Int) := by omega
   go_enter Tryz.func116, Tryz.ntmps116
   go_wp2_with (go_at_call 159; refine (lH _ _).mono ?_; rintro e w' ⟨rfl, rfl⟩)
   go_ret
   exact ⟨by simp, rfl⟩
theorem jK {a b : List UInt8} (h : a < b) : Op.bytesLess a b = true := by rw [Go.Proofs.bytesLess_eq]; exact decide_eq_true h
theorem jP {a b : List UInt8} (h : ¬ a < b) : Op.bytesLess a b = false := by rw [Go.Proofs.bytesLess_eq]; exact decide_eq_false h
set_option maxHeartbeats 400000 in
theorem yn (a b : List UInt8) (w : World) : Calls Tryz.prog 143 #[.string (str a), .string (str b)] w fun e w' => e = .returned (.int .i64 (jm a b)) ∧ w = w' := by
 by_cases h : a < b
 ·have hb := jK h
  rw [show jm a b = -1 by unfold jm; rw [if_pos h]]
  clear h
  go_enter Tryz.func143, Tryz.ntmps143
  go_wp2_with (go_at_call 171; refine (iM _ _).mono ?_; rintro e w' ⟨rfl, rfl⟩)
  go_ret
  exact ⟨rfl, rfl⟩
 ·have hb := jP h
  by_cases k : b < a
  ·have hne : (a == b) = false := by
    rw [beq_eq_false_iff_ne]
    rintro rfl
    exact h k
   have hne2 : (!(a == b)) = true := by rw [hne]; rfl
   rw [show jm a b = 1 by unfold jm; rw [if_neg h, if_pos k]]
   clear h k
   go_enter Tryz.func143, Tryz.ntmps143
   go_wp2_with (go_at_call 171; refine (iM _ _).mono ?_; rintro e w' ⟨rfl, rfl⟩)
   go_ret
   exact ⟨rfl, rfl⟩
  ·have he : (a == b) = true := by
    rw [beq_iff_eq]
    rcases List.le_iff_lt_or_eq.1 (List.not_lt.1 h) with r | r
    ·exact absurd r k
    ·exact r.symm
   have he2 : (!(a == b)) = false := by rw [he]; rfl
   rw [show jm a b = 0 by unfold jm; rw [if_neg h, if_neg k]]
   clear h k
   go_enter Tryz.func143, Tryz.ntmps143
   go_wp2_with (go_at_call 171; refine (iM _ _).mono ?_; rintro e w' ⟨rfl, rfl⟩)
   go_ret
   exact ⟨rfl, rfl⟩
theorem fI : Tryz.prog.follows .mixedOrders = true := by kernel_rfl
theorem drewN_zero (w : World) : w.drewN 0 = w := rfl
theorem oH (x : T9.Li) (w : World) : Calls Tryz.prog 80 #[.agg (aV x).toArray] w fun e w' => e = .returned (.int .u64 (x.id : Int)) ∧ ∃ q os', w' = grow (w.drewN q) os' := by
 unfold aV
 go_enter Tryz.func80, Tryz.ntmps80
 go_wp2
 go_ret
 exact ⟨rfl, 0, #[_], by rw [drewN_zero, ← alloc_eq_grow]⟩
theorem nU (x : MTk) (w : World) : Calls Tryz.prog 82 #[.agg (ax x).toArray] w fun e w' => e = .returned (.int .u64 (x.t.id : Int)) ∧ ∃ q os', w' = grow (w.drewN q) os' := by
 unfold ax
 go_enter Tryz.func82, Tryz.ntmps82
 go_wp2
 go_ret
 exact ⟨rfl, 0, #[_], by rw [drewN_zero, ← alloc_eq_grow]⟩
theorem oU (x : List UInt8) (w : World) : Calls Tryz.prog 84 #[encS x] w fun e w' => e = .returned (.string (str x)) ∧ ∃ q os', w' = grow (w.drewN q) os' := by
 unfold encS
 go_enter Tryz.func84, Tryz.ntmps84
 go_wp2
 go_ret
 exact ⟨rfl, 0, #[], by rw [drewN_zero, grow_empty]⟩
theorem jD {P : Program} {f : FuncId} {args : Array Value} {w : World} {v : Value} (h : Calls P f args w fun e w' => e = .returned v ∧ w = w') : Calls P f args w fun e w' => e = .returned v ∧ ∃ q os', w' = grow (w.drewN q) os' :=
 h.mono fun e w' ⟨he, hw⟩ => ⟨he, 0, #[], by rw [grow_empty, drewN_zero, hw]⟩
theorem iJ (W : World) (o1 o2 : Obj) (q : Nat) (os : Array Obj) : grow (((W.alloc o1).alloc o2).drewN q) os = grow (W.drewN q) (#[o1, o2] ++ os) := by
 rw [alloc_eq_grow, alloc_eq_grow, grow_grow]
 show grow (grow (W.drewN q) _) os = _
 rw [grow_grow]
 rfl
theorem lh {α : Type} {enc : α → List Value} {k : Nat} {w : World} {blk off m : Nat} {dk : Array α} {os : Array Obj} [Inhabited α] {bx : Nat} {v : Value} (h : w.cell? ⟨bx, 0, none⟩ = some v) (hne : bx ≠ blk) (hlt : bx < w.heap.size) : (sortWorldK enc k w blk off m dk os).cell? ⟨bx, 0, none⟩ = some v := by
 unfold sortWorldK
 rw [cell?_grow _ _ _ (by rw [size_putRowK]; exact hlt), cell?_putRowK_other enc k _ blk off dk _ hne]
 exact h
theorem q8 {α : Type} {enc : α → Value} {w : World} {blk off m : Nat} {dk : Array α} {os : Array Obj} [Inhabited α] {bx : Nat} {v : Value} (h : w.cell? ⟨bx, 0, none⟩ = some v) (hne : bx ≠ blk) (hlt : bx < w.heap.size) : (sortWorld enc w blk off m dk os).cell? ⟨bx, 0, none⟩ = some v := by
 unfold sortWorld
 rw [cell?_grow _ _ _ (by simpa [putRow, mapBlock] using hlt), cell?_putRow_other enc _ blk off dk _ (.inl hne)]
 exact h
theorem eqvL_id (x y : T9.Li) : Sr.eqv T9.ltL x y = ((x.id : Int) == (y.id : Int)) := by
 rw [Bool.eq_iff_iff]
 simp [Sr.eqv, T9.ltL]
 omega
theorem eqvM_id (x y : MTk) : Sr.eqv ltM x y = ((x.t.id : Int) == (y.t.id : Int)) := by
 rw [Bool.eq_iff_iff]
 simp [Sr.eqv, ltM, T9.ltK]
 omega
theorem eqvS_eq (x y : List UInt8) : Sr.eqv T9.ltS x y = (x == y) := by
 rw [Bool.eq_iff_iff]
 simp only [Sr.eqv, T9.ltS, Bool.and_eq_true, Bool.not_eq_true', decide_eq_false_iff_not, beq_iff_eq]
 constructor
 ·rintro ⟨h, k⟩
  rcases List.le_iff_lt_or_eq.1 (List.not_lt.1 h) with r | r
  ·exact absurd r k
  ·exact r.symm
 ·rintro rfl
  exact ⟨List.lt_irrefl _, List.lt_irrefl _⟩
set_option maxHeartbeats 1000000 in
theorem cmpL_w {bx : Nat} (x y : T9.Li) (W : World) (hb : W.cell? ⟨bx, 0, none⟩ = some (.func (.func 80) #[] #[])) (hlt : bx < W.heap.size) :
  Calls Tryz.prog 132 #[.agg (aV x).toArray, .agg (aV y).toArray, .pointer (some ⟨bx, 0, none⟩)] W fun e w' => e = .returned (.int .i64 (cfL x y)) ∧ ∃ q os', w' = grow (W.drewN q) os' := by
 obtain ⟨wB, hwB⟩ : ∃ u, (W.alloc (.cells (aV x).toArray 51)).alloc (.cells (aV y).toArray 51) = u := ⟨_, rfl⟩
 have sB : wB.heap.size = W.heap.size + 2 := by rw [← hwB]; simp
 have GB : Hid (∀ q os, grow (wB.drewN q) os = grow (W.drewN q) (#[.cells (aV x).toArray 51, .cells (aV y).toArray 51] ++ os)) := hid fun q os => by rw [← hwB]; exact iJ W _ _ q os
 have cb : ∀ n os, (grow (wB.drewN n) os).cell? ⟨bx, 0, none⟩ = some (.func (.func 80) #[] #[]) := fun n os => cell_grown (by show bx < wB.heap.size; omega) (by
  have b2 : Below W.heap.size W wB := by rw [← hwB]; exact ((Below.refl _ W).alloc (Nat.le_refl _) _).alloc (by simp) _
  exact (b2.cell (p := ⟨bx, 0, none⟩) hlt).trans hb) n os
 have lx : ∀ n os, ∀ j (h : j < (aV x).length), (grow (wB.drewN n) os).cell? ⟨W.heap.size, j, none⟩ = some ((aV x)[j]) := fun n os j h => cell_grown (by show W.heap.size < wB.heap.size; omega) (by
  have k : wB.heap[W.heap.size]? = some (.cells (aV x).toArray 51 (0, 0)) := by rw [← hwB]; exact bn (heap_alloc_new W _) _
  rw [cell_of_row wB W.heap.size j _ _ _ k]
  simp [h]) n os
 have ly : ∀ n os, ∀ j (h : j < (aV y).length), (grow (wB.drewN n) os).cell? ⟨W.heap.size + 1, j, none⟩ = some ((aV y)[j]) := fun n os j h => cell_grown (by show W.heap.size + 1 < wB.heap.size; omega) (by
  have k : wB.heap[W.heap.size + 1]? = some (.cells (aV y).toArray 51 (0, 0)) := by
   rw [← hwB]
   have := heap_alloc_new (W.alloc (.cells (aV x).toArray 51)) (.cells (aV y).toArray 51)
   rwa [World.size_alloc] at this
  rw [cell_of_row wB (W.heap.size + 1) j _ _ _ k]
  simp [h]) n os
 have x0 := fun n os => lx n os 0 (by rw [dR]; decide)
 have y0 := fun n os => ly n os 0 (by rw [dR]; decide)
 have x1 := fun n os => lx n os 1 (by rw [dR]; decide)
 have y1 := fun n os => ly n os 1 (by rw [dR]; decide)
 clear lx ly hb sB
 unfold aV at x0 y0 x1 y1 hwB ⊢
 simp only [List.getElem_cons_zero, List.getElem_cons_succ] at x0 y0 x1 y1
 go_enter Tryz.func132, Tryz.ntmps132
 go_wp2_with fail
 clear hwB
 have mixed := fI
 go_quiet_grown (first | (go_at_call 80; first | exact Calls.grown_of (oH x _) | exact Calls.grown_of (oH y _)) | (go_at_call 116; refine Calls.grown_of (jD (kG _ _ _))))
 go_wp2
 go_ret
 refine ⟨rfl, nq, _, GB.out nq osq⟩
set_option maxHeartbeats 1000000 in
theorem eqL_w {bx : Nat} (x y : T9.Li) (W : World) (hb : W.cell? ⟨bx, 0, none⟩ = some (.func (.func 80) #[] #[])) (hlt : bx < W.heap.size) :
  Calls Tryz.prog 134 #[.agg (aV x).toArray, .agg (aV y).toArray, .pointer (some ⟨bx, 0, none⟩)] W fun e w' => e = .returned (.bool (Sr.eqv T9.ltL x y)) ∧ ∃ q os', w' = grow (W.drewN q) os' := by
 obtain ⟨wB, hwB⟩ : ∃ u, (W.alloc (.cells (aV x).toArray 51)).alloc (.cells (aV y).toArray 51) = u := ⟨_, rfl⟩
 have sB : wB.heap.size = W.heap.size + 2 := by rw [← hwB]; simp
 have GB : Hid (∀ q os, grow (wB.drewN q) os = grow (W.drewN q) (#[.cells (aV x).toArray 51, .cells (aV y).toArray 51] ++ os)) := hid fun q os => by rw [← hwB]; exact iJ W _ _ q os
 have cb : ∀ n os, (grow (wB.drewN n) os).cell? ⟨bx, 0, none⟩ = some (.func (.func 80) #[] #[]) := fun n os => cell_grown (by show bx < wB.heap.size; omega) (by
  have b2 : Below W.heap.size W wB := by rw [← hwB]; exact ((Below.refl _ W).alloc (Nat.le_refl _) _).alloc (by simp) _
  exact (b2.cell (p := ⟨bx, 0, none⟩) hlt).trans hb) n os
 have lx : ∀ n os, ∀ j (h : j < (aV x).length), (grow (wB.drewN n) os).cell? ⟨W.heap.size, j, none⟩ = some ((aV x)[j]) := fun n os j h => cell_grown (by show W.heap.size < wB.heap.size; omega) (by
  have k : wB.heap[W.heap.size]? = some (.cells (aV x).toArray 51 (0, 0)) := by rw [← hwB]; exact bn (heap_alloc_new W _) _
  rw [cell_of_row wB W.heap.size j _ _ _ k]
  simp [h]) n os
 have ly : ∀ n os, ∀ j (h : j < (aV y).length), (grow (wB.drewN n) os).cell? ⟨W.heap.size + 1, j, none⟩ = some ((aV y)[j]) := fun n os j h => cell_grown (by show W.heap.size + 1 < wB.heap.size; omega) (by
  have k : wB.heap[W.heap.size + 1]? = some (.cells (aV y).toArray 51 (0, 0)) := by
   rw [← hwB]
   have := heap_alloc_new (W.alloc (.cells (aV x).toArray 51)) (.cells (aV y).toArray 51)
   rwa [World.size_alloc] at this
  rw [cell_of_row wB (W.heap.size + 1) j _ _ _ k]
  simp [h]) n os
 have x0 := fun n os => lx n os 0 (by rw [dR]; decide)
 have y0 := fun n os => ly n os 0 (by rw [dR]; decide)
 have x1 := fun n os => lx n os 1 (by rw [dR]; decide)
 have y1 := fun n os => ly n os 1 (by rw [dR]; decide)
 clear lx ly hb sB
 unfold aV at x0 y0 x1 y1 hwB ⊢
 simp only [List.getElem_cons_zero, List.getElem_cons_succ] at x0 y0 x1 y1
 go_enter Tryz.func134, Tryz.ntmps134
 go_wp2_with fail
 clear hwB
 have mixed := fI
 go_quiet_grown (first | (go_at_call 80; first | exact Calls.grown_of (oH x _) | exact Calls.grown_of (oH y _)))
 go_wp2
 go_ret
 refine ⟨aR (eqvL_id x y).symm, nq, _, GB.out nq osq⟩
end
end Go.Proofs.YtpphmbfghfmdlaaGreat
