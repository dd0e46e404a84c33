/- Stage 9: cmp.Compare, the functions that are handed to the sort and to CompactFunc: their contracts in whatever world the row passes through. -/
import Derived.Test.YtnhpkcphgdkdiaaTp
import Derived.Test.YtnhpkcphgdkdiaaTo
import Derived.Test.YtnhpkcphgdkdiaaTd
import Derived.Test.YtnhpkcphgdkdiaaTg
import Derived.Test.YtnhpkcphgdkdiaaTj
import Derived.Test.YtnhpkcphgdkdiaaTl
namespace Go.Proofs.Ytnhpkcphgdkdiaa
open Go.Shelf Go.RowKit Go.Lib Go.Sort
set_option maxRecDepth 100000

def cmpI (a b : Nat) : Int := if a < b then -1 else if b < a then 1 else 0
def cmpS (a b : List UInt8) : Int := if a < b then -1 else if b < a then 1 else 0
def cfL (a b : T9.Li) : Int := cmpI a.id b.id
def cfM (a b : MTk) : Int := cmpI a.t.id b.t.id
theorem cmpI_neg (a b : Nat) : decide (cmpI a b < 0) = decide (a < b) := by
  unfold cmpI
  by_cases h : a < b
  · simp [h]
  · by_cases k : b < a
    · simp [h, k]
    · simp [h, k]
theorem cmpS_neg (a b : List UInt8) : decide (cmpS a b < 0) = decide (a < b) := by
  unfold cmpS
  by_cases h : a < b
  · simp [h]
  · by_cases k : b < a
    · simp [h, k]
    · simp [h, k]
theorem ltOf_L : ltOf cfL = T9.ltL := by funext a b; exact cmpI_neg a.id b.id
theorem ltOf_M : ltOf cfM = ltM := by funext a b; exact cmpI_neg a.t.id b.t.id
theorem ltOf_S : ltOf cmpS = T9.ltS := by funext a b; exact cmpS_neg a b

theorem isNaNU_c (a : Int) (w : World) : Calls Try.prog 58 #[.int .u64 a] w fun e w' => e = .returned (.bool false) ∧ w = w' := by
  go_enter Try.func58, Try.ntmps58
  go_wp2
  go_ret
  exact ⟨ret_bool (by simp), rfl⟩
theorem isNaNS_c (a : ByteArray) (w : World) : Calls Try.prog 59 #[.string a] w fun e w' => e = .returned (.bool false) ∧ w = w' := by
  go_enter Try.func59, Try.ntmps59
  go_wp2
  go_ret
  exact ⟨ret_bool (by simp), rfl⟩
set_option maxHeartbeats 400000 in
theorem cmpU_c (a b : Nat) (w : World) : Calls Try.prog 36 #[.int .u64 (a : Int), .int .u64 (b : Int)] w fun e w' => e = .returned (.int .i64 (cmpI a b)) ∧ w = w' := by
  unfold cmpI
  by_cases h : a < b
  · have hz : (a : Int) < (b : Int) := by omega
    go_enter Try.func36, Try.ntmps36
    go_wp2_with (go_at_call 58; refine (isNaNU_c _ _).mono ?_; rintro e w' ⟨rfl, rfl⟩)
    go_ret
    exact ⟨by simp, rfl⟩
  · have hz : ¬ (a : Int) < (b : Int) := by omega
    by_cases k : b < a
    · have kz : (b : Int) < (a : Int) := by omega
      go_enter Try.func36, Try.ntmps36
      go_wp2_with (go_at_call 58; refine (isNaNU_c _ _).mono ?_; rintro e w' ⟨rfl, rfl⟩)
      go_ret
      exact ⟨by simp, rfl⟩
    · have kz : ¬ (b : Int) < (a : Int) := by omega
      go_enter Try.func36, Try.ntmps36
      go_wp2_with (go_at_call 58; refine (isNaNU_c _ _).mono ?_; rintro e w' ⟨rfl, rfl⟩)
      go_ret
      exact ⟨by simp, rfl⟩
theorem less_yes {a b : List UInt8} (h : a < b) : Op.bytesLess a b = true := by rw [Go.Proofs.bytesLess_eq]; exact decide_eq_true h
theorem less_no {a b : List UInt8} (h : ¬ a < b) : Op.bytesLess a b = false := by rw [Go.Proofs.bytesLess_eq]; exact decide_eq_false h
set_option maxHeartbeats 400000 in
theorem cmpStr_c (a b : List UInt8) (w : World) : Calls Try.prog 38 #[.string (str a), .string (str b)] w fun e w' => e = .returned (.int .i64 (cmpS a b)) ∧ w = w' := by
  by_cases h : a < b
  · have hb := less_yes h
    rw [show cmpS a b = -1 by unfold cmpS; rw [if_pos h]]
    clear h
    go_enter Try.func38, Try.ntmps38
    go_wp2_with (go_at_call 59; refine (isNaNS_c _ _).mono ?_; rintro e w' ⟨rfl, rfl⟩)
    go_ret
    exact ⟨rfl, rfl⟩
  · have hb := less_no h
    by_cases k : b < a
    · have hne : (a == b) = false := by
        rw [beq_eq_false_iff_ne]
        rintro rfl
        exact h k
      have hne2 : (!(a == b)) = true := by rw [hne]; rfl
      rw [show cmpS a b = 1 by unfold cmpS; rw [if_neg h, if_pos k]]
      clear h k
      go_enter Try.func38, Try.ntmps38
      go_wp2_with (go_at_call 59; refine (isNaNS_c _ _).mono ?_; rintro e w' ⟨rfl, rfl⟩)
      go_ret
      exact ⟨rfl, rfl⟩
    · have he : (a == b) = true := by
        rw [beq_iff_eq]
        rcases List.le_iff_lt_or_eq.1 (List.not_lt.1 h) with r | r
        · exact absurd r k
        · exact r.symm
      have he2 : (!(a == b)) = false := by rw [he]; rfl
      rw [show cmpS a b = 0 by unfold cmpS; rw [if_neg h, if_neg k]]
      clear h k
      go_enter Try.func38, Try.ntmps38
      go_wp2_with (go_at_call 59; refine (isNaNS_c _ _).mono ?_; rintro e w' ⟨rfl, rfl⟩)
      go_ret
      exact ⟨rfl, rfl⟩

/-! the keys -/
theorem mixed9 : Try.prog.follows .mixedOrders = true := by kernel_rfl
theorem drewN_zero (w : World) : w.drewN 0 = w := rfl
theorem quiet_same {P : Program} {f : FuncId} {args : Array Value} {w : World} {v : Value} (h : Calls P f args w fun e w' => e = .returned v ∧ w = w') : Calls P f args w fun e w' => e = .returned v ∧ ∃ q os', w' = grow (w.drewN q) os' :=
  h.mono fun e w' ⟨he, hw⟩ => ⟨he, 0, #[], by rw [grow_empty, drewN_zero, hw]⟩
theorem grow_two (W : World) (o1 o2 : Obj) (q : Nat) (os : Array Obj) : grow (((W.alloc o1).alloc o2).drewN q) os = grow (W.drewN q) (#[o1, o2] ++ os) := by
  rw [alloc_eq_grow, alloc_eq_grow, grow_grow]
  show grow (grow (W.drewN q) _) os = _
  rw [grow_grow]
  rfl
theorem bx_cell {α : Type} {enc : α → List Value} {k : Nat} {w : World} {blk off m : Nat} {dk : Array α} {os : Array Obj} [Inhabited α] {bx : Nat} {v : Value} (h : w.cell? ⟨bx, 0, none⟩ = some v) (hne : bx ≠ blk) (hlt : bx < w.heap.size) : (sortWorldK enc k w blk off m dk os).cell? ⟨bx, 0, none⟩ = some v := by
  unfold sortWorldK
  rw [cell?_grow _ _ _ (by rw [size_putRowK]; exact hlt), cell?_putRowK_other enc k _ blk off dk _ hne]
  exact h
theorem bx_cell1 {α : Type} {enc : α → Value} {w : World} {blk off m : Nat} {dk : Array α} {os : Array Obj} [Inhabited α] {bx : Nat} {v : Value} (h : w.cell? ⟨bx, 0, none⟩ = some v) (hne : bx ≠ blk) (hlt : bx < w.heap.size) : (sortWorld enc w blk off m dk os).cell? ⟨bx, 0, none⟩ = some v := by
  unfold sortWorld
  rw [cell?_grow _ _ _ (by simpa [putRow, mapBlock] using hlt), cell?_putRow_other enc _ blk off dk _ (.inl hne)]
  exact h

theorem eqvL_id (x y : T9.Li) : Sr.eqv T9.ltL x y = ((x.id : Int) == (y.id : Int)) := by
  rw [Bool.eq_iff_iff]
  simp [Sr.eqv, T9.ltL]
  omega
theorem eqvM_id (x y : MTk) : Sr.eqv ltM x y = ((x.t.id : Int) == (y.t.id : Int)) := by
  rw [Bool.eq_iff_iff]
  simp [Sr.eqv, ltM, T9.ltK]
  omega
theorem eqvS_eq (x y : List UInt8) : Sr.eqv T9.ltS x y = (x == y) := by
  rw [Bool.eq_iff_iff]
  simp only [Sr.eqv, T9.ltS, Bool.and_eq_true, Bool.not_eq_true', decide_eq_false_iff_not, beq_iff_eq]
  constructor
  · rintro ⟨h, k⟩
    rcases List.le_iff_lt_or_eq.1 (List.not_lt.1 h) with r | r
    · exact absurd r k
    · exact r.symm
  · rintro rfl
    exact ⟨List.lt_irrefl _, List.lt_irrefl _⟩

end Go.Proofs.Ytnhpkcphgdkdiaa
