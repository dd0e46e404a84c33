/- Contracts of flt.Sum, Least, Most and of the document's own, over any list of float64 words: NaNs passed over, from left to right; what an addition that comes to a NaN leaves open is taken away by Canon. -/
import Derived.Test.YtnhpkcphgdkdiaaFo
import Derived.LoopN
import Derived.Deep.Draws
namespace Go.Proofs.Ytnhpkcphgdkdiaa
open Go.RowKit
set_option maxRecDepth 100000

namespace Fl
/-- A sum of two words; none: it comes to a NaN. -/
def addO (o : Option Nat) (x : Nat) : Option Nat := o.bind fun t => floatBits .add .f64 t x
/-- What the first k words come to. -/
def sumO (B : Nat → Nat) : Nat → Option Nat
  | 0 => some 0
  | k + 1 => if isN (B k) = true then sumO B k else addO (sumO B k) (B k)
/-- A word that stands for what a sum came to. -/
def Rel (o : Option Nat) (t : Nat) : Prop := (∃ r, o = some r ∧ t = r) ∨ (o = none ∧ isN t = true)
def canonO (o : Option Nat) : Nat := match o with | some r => canon r | none => nanW
theorem Rel.canon {o : Option Nat} {t : Nat} (h : Rel o t) : Fl.canon t = canonO o := by
  rcases h with ⟨r, rfl, rfl⟩ | ⟨rfl, h⟩
  · rfl
  · exact canon_nan h
theorem add_nan {t : Nat} (h : isN t = true) (x : Nat) : floatBits .add .f64 t x = none := by
  obtain ⟨n, u, e⟩ := read_nan FloatKind.f64.format t dbl_le (by rw [dbl_inf, dbl_sw]; exact of_decide_eq_true h)
  show FloatKind.f64.format.add t x = none
  unfold Ieee.Format.add
  rw [e]; rfl
theorem Rel.some {o : Option Nat} {t x r : Nat} (h : Rel o t) (e : floatBits .add .f64 t x = some r) : Rel (addO o x) r := by
  rcases h with ⟨q, rfl, rfl⟩ | ⟨rfl, h⟩
  · exact Or.inl ⟨r, e, rfl⟩
  · rw [add_nan h] at e; cases e
theorem Rel.none {o : Option Nat} {t x r : Nat} (h : Rel o t) (e : floatBits .add .f64 t x = none) (hr : isN r = true) : Rel (addO o x) r := by
  rcases h with ⟨q, rfl, rfl⟩ | ⟨rfl, h⟩
  · exact Or.inr ⟨e, hr⟩
  · exact Or.inr ⟨rfl, hr⟩
/-- The NaN that the machine picks. -/
def nanOf (w : World) (t x : Nat) : Nat := (Question.nanBits .f64 t x).cut (w.tape w.drawn (.nanBits .f64 t x))
theorem isN_nanOf (w : World) (t x : Nat) : isN (nanOf w t x) = true := by
  unfold nanOf
  generalize w.tape w.drawn (.nanBits .f64 t x) = q
  refine decide_eq_true ?_
  rw [inf_eq, two63_eq]
  have e : (Question.nanBits .f64 t x).cut q = (q % 2) * 2 ^ 63 + 0x7ff0000000000000 + 1 + (q / 2) % (2 ^ 52 - 1) := rfl
  rw [e]
  have hv : (q / 2) % (2 ^ 52 - 1) < 2 ^ 52 - 1 := Nat.mod_lt _ (by decide)
  generalize (q / 2) % (2 ^ 52 - 1) = v at *
  generalize q % 2 = u at *
  show 9218868437227405312 < (u * 9223372036854775808 + 9218868437227405312 + 1 + v) % 9223372036854775808
  have hv' : v < 4503599627370495 := hv
  omega
theorem sumO_nan {B : Nat → Nat} {k : Nat} (h : isN (B k) = true) : sumO B (k + 1) = sumO B k := by rw [sumO, if_pos h]
theorem sumO_num {B : Nat → Nat} {k : Nat} (h : isN (B k) = false) : sumO B (k + 1) = addO (sumO B k) (B k) := by rw [sumO, if_neg (by simp [h])]
end Fl

@[go_sem] theorem cls_ne (b : Nat) : (Fl.cls b != 0) = !Fl.isN b := by rw [bne, Fl.cls_zero_iff]

theorem run_add_some {t x r : Nat} (e : floatBits .add .f64 t x = some r) (w : World) : (binOp .add 29 (.float .f64 t) (.float .f64 x)).run Try.prog w = .ok (.float .f64 r) w :=
  run_float_arith w .add 29 .f64 t x r e
theorem run_add_none {t x : Nat} (e : floatBits .add .f64 t x = none) (w : World) : (binOp .add 29 (.float .f64 t) (.float .f64 x)).run Try.prog w = .ok (.float .f64 (Fl.nanOf w t x)) w.drew := by
  have h : FloatKind.f64.format.add t x = none := e
  simp [binOp, Op.floatArith, h, Question.forced, Fl.nanOf]

set_option maxHeartbeats 1000000 in
theorem sum_c (b off len cap : Nat) (B : Nat → Nat) (w : World) (hlen : len ≤ 9223372036854775807) (hc : ∀ j, j < len → w.cell? ⟨b, off + j, none⟩ = some (.float .f64 (B j))) :
    Calls Try.prog 27 #[.slice (some ⟨b, off, none⟩) len cap] w fun e w' => e = .returned (.float .f64 (Fl.canonO (Fl.sumO B len))) ∧ ∃ n, w' = w.drewN n := by
  go_enter Try.func27, Try.ntmps27
  go_wp2_with fail
  go_loopw [3, 8] (fun s i wr => ∃ (k n t : Nat), k ≤ len ∧ i = .int .i64 k ∧ s = .float .f64 t ∧ Fl.Rel (Fl.sumO B k) t ∧ wr = w.drewN n) (fun _ i _ => len - (intOf i).toNat)
  case atStart => exact ⟨0, 0, 0, Nat.zero_le _, rfl, rfl, Or.inl ⟨0, rfl, rfl⟩, rfl⟩
  case round =>
    obtain ⟨k, n, t, hk, rfl, rfl, hr, rfl⟩ := hrel
    have R := Lib.hid hr
    clear hr
    by_cases hlt : k < len
    · have hcell := hc k hlt
      have H := Lib.hid hc
      clear hc
      cases hn : Fl.isN (B k)
      · have S := Lib.hid (Fl.sumO_num hn)
        cases ha : floatBits .add .f64 t (B k) with
        | some r =>
          have hrun := run_add_some ha
          have T := Lib.hid (R.out.some ha)
          clear ha
          go_wp2_with (first
        | (go_at_call 26; refine (class_c _ _).mono ?_; rintro e w' ⟨rfl, rfl⟩)
        | (go_at_call 44; refine (canon_c _ _).mono ?_; rintro e w' ⟨rfl, rfl⟩))
          go_roundw
          case rel => exact ⟨k + 1, n, r, by omega, by go_num, rfl, by rw [S.out]; exact T.out, rfl⟩
          case measure => simp [intOf]; omega
        | none =>
          have hrun := run_add_none ha
          have T := Lib.hid (fun q (hq : Fl.isN q = true) => R.out.none ha hq)
          clear ha
          go_wp2_with (first
        | (go_at_call 26; refine (class_c _ _).mono ?_; rintro e w' ⟨rfl, rfl⟩)
        | (go_at_call 44; refine (canon_c _ _).mono ?_; rintro e w' ⟨rfl, rfl⟩))
          go_roundw
          case rel => exact ⟨k + 1, n + 1, _, by omega, by go_num, rfl, by rw [S.out]; exact T.out _ (Fl.isN_nanOf _ _ _), rfl⟩
          case measure => simp [intOf]; omega
      · have S := Lib.hid (Fl.sumO_nan hn)
        go_wp2_with (first
        | (go_at_call 26; refine (class_c _ _).mono ?_; rintro e w' ⟨rfl, rfl⟩)
        | (go_at_call 44; refine (canon_c _ _).mono ?_; rintro e w' ⟨rfl, rfl⟩))
        go_roundw
        case rel => exact ⟨k + 1, n, t, by omega, by go_num, rfl, by rw [S.out]; exact R.out, rfl⟩
        case measure => simp [intOf]; omega
    · obtain rfl : k = len := by omega
      have H := Lib.hid hc
      clear hc
      go_wp2_with (first
        | (go_at_call 26; refine (class_c _ _).mono ?_; rintro e w' ⟨rfl, rfl⟩)
        | (go_at_call 44; refine (canon_c _ _).mono ?_; rintro e w' ⟨rfl, rfl⟩))
      go_ret
      exact ⟨ret_f64 R.out.canon, n, rfl⟩

set_option maxHeartbeats 1000000 in
theorem sum_empty (a : Option Addr) (cap : Nat) (B : Nat → Nat) (w : World) :
    Calls Try.prog 27 #[.slice a 0 cap] w fun e w' => e = .returned (.float .f64 (Fl.canonO (Fl.sumO B 0))) ∧ ∃ n, w' = w.drewN n := by
  go_enter Try.func27, Try.ntmps27
  go_wp2_with fail
  refine wp_loop_rounds 1 ?_
  rw [rounds_succ]
  go_wp2_with (first
        | (go_at_call 26; refine (class_c _ _).mono ?_; rintro e w' ⟨rfl, rfl⟩)
        | (go_at_call 44; refine (canon_c _ _).mono ?_; rintro e w' ⟨rfl, rfl⟩))
  go_ret
  exact ⟨rfl, 0, rfl⟩

namespace Fl
/-- Whether x is ahead of y: below it, or above it. -/
def ahead (up : Bool) (x y : Nat) : Bool := if up = true then lt y x else lt x y
/-- The one of the first k words that no other is ahead of, NaNs passed over. -/
def best (up : Bool) (B : Nat → Nat) : Nat → Nat
  | 0 => nanW
  | k + 1 => if isN (B k) = true then best up B k else if isN (best up B k) = true ∨ ahead up (B k) (best up B k) = true then B k else best up B k
theorem best_skip {up : Bool} {B : Nat → Nat} {k : Nat} (h : isN (B k) = true) : best up B (k + 1) = best up B k := by rw [best, if_pos h]
theorem best_first {up : Bool} {B : Nat → Nat} {k : Nat} (h : isN (B k) = false) (h2 : isN (best up B k) = true) : best up B (k + 1) = B k := by rw [best, if_neg (by simp [h]), if_pos (Or.inl h2)]
theorem best_take {up : Bool} {B : Nat → Nat} {k : Nat} (h : isN (B k) = false) (h3 : ahead up (B k) (best up B k) = true) : best up B (k + 1) = B k := by rw [best, if_neg (by simp [h]), if_pos (Or.inr h3)]
theorem best_leave {up : Bool} {B : Nat → Nat} {k : Nat} (h : isN (B k) = false) (h2 : isN (best up B k) = false) (h3 : ahead up (B k) (best up B k) = false) : best up B (k + 1) = best up B k := by
  rw [best, if_neg (by simp [h]), if_neg (by rw [h2, h3]; simp)]
theorem best_lt (up : Bool) {B : Nat → Nat} (h : ∀ j, B j < 18446744073709551616) (k : Nat) : best up B k < 18446744073709551616 := by
  induction k with
  | zero => show nanW < 18446744073709551616; decide +kernel
  | succ k ih =>
    rw [best]; split
    · exact ih
    · split
      · exact h k
      · exact ih
theorem lt_num {a b : Nat} (ha : isN a = false) (hb : isN b = false) : ltB a b = lt a b := by
  rw [ltB_yes ha hb, Bool.eq_iff_iff, decide_eq_true_iff, lt_true, pl_num ha, pl_num hb]
end Fl

set_option maxHeartbeats 400000 in
theorem more_c (a b : Nat) (w : World) (ha : a < 18446744073709551616) (hb : b < 18446744073709551616) :
    Calls Try.prog 47 #[.float .f64 a, .float .f64 b] w fun e w' => e = .returned (.bool (Fl.lt b a)) ∧ w = w' := by
  go_enter Try.func47, Try.ntmps47
  go_wp2_with (go_at_call 46; refine (less_c _ _ _ (by assumption) (by assumption)).mono ?_; rintro e w' ⟨rfl, rfl⟩)
  go_ret
  exact ⟨rfl, rfl⟩

set_option maxHeartbeats 400000 in
theorem nan_c (w : World) :
    Calls Try.prog 63 #[] w fun e w' => e = .returned (.float .f64 Fl.nanW) ∧ w = w' := by
  go_enter Try.func63, Try.ntmps63
  go_wp2_with fail
  go_ret
  exact ⟨rfl, rfl⟩

set_option maxHeartbeats 1000000 in
theorem foreLess_c (b off len cap : Nat) (B : Nat → Nat) (w : World) (hlen : len ≤ 9223372036854775807) (hB : ∀ j, B j < 18446744073709551616) (hc : ∀ j, j < len → w.cell? ⟨b, off + j, none⟩ = some (.float .f64 (B j))) :
    Calls Try.prog 45 #[.func (.func 46) #[] #[], .slice (some ⟨b, off, none⟩) len cap] w fun e w' => e = .returned (.float .f64 (Fl.canon (Fl.best false B len))) ∧ w = w' := by
  have HB := Lib.hid hB
  clear hB
  go_enter Try.func45, Try.ntmps45
  go_wp2_with (first
        | (go_at_call 63; refine (nan_c _).mono ?_; rintro e w' ⟨rfl, rfl⟩)
        | (go_at_call 26; refine (class_c _ _).mono ?_; rintro e w' ⟨rfl, rfl⟩)
        | (go_at_call 46; refine (less_c _ _ _ (by assumption) (by assumption)).mono ?_; rintro e w' ⟨rfl, rfl⟩)
        | (go_at_call 44; refine (canon_c _ _).mono ?_; rintro e w' ⟨rfl, rfl⟩))
  go_loop [5, 11] (fun s i => ∃ (k : Nat), k ≤ len ∧ i = .int .i64 k ∧ s = .float .f64 (Fl.best false B k)) (fun _ i => len - (intOf i).toNat)
  case atStart => exact ⟨0, Nat.zero_le _, rfl, rfl⟩
  case round =>
    obtain ⟨k, hk, rfl, rfl⟩ := hrel
    by_cases hlt : k < len
    · have hcell := hc k hlt
      have H := Lib.hid hc
      clear hc
      have b1 := HB.out k
      have b2 := Fl.best_lt false HB.out k
      cases hn : Fl.isN (B k)
      · cases hm : Fl.isN (Fl.best false B k)
        · cases ha : Fl.ahead false (B k) (Fl.best false B k)
          · have S := Lib.hid (Fl.best_leave hn hm ha)
            have l1 : Fl.lt (B k) (Fl.best false B k) = false := ha
            clear ha
            go_wp2_with (first
        | (go_at_call 63; refine (nan_c _).mono ?_; rintro e w' ⟨rfl, rfl⟩)
        | (go_at_call 26; refine (class_c _ _).mono ?_; rintro e w' ⟨rfl, rfl⟩)
        | (go_at_call 46; refine (less_c _ _ _ (by assumption) (by assumption)).mono ?_; rintro e w' ⟨rfl, rfl⟩)
        | (go_at_call 44; refine (canon_c _ _).mono ?_; rintro e w' ⟨rfl, rfl⟩))
            go_round
            case rel => exact ⟨k + 1, by omega, by go_num, by rw [S.out]⟩
            case measure => simp [intOf]; omega
          · have S := Lib.hid (Fl.best_take hn ha)
            have l1 : Fl.lt (B k) (Fl.best false B k) = true := ha
            clear ha
            go_wp2_with (first
        | (go_at_call 63; refine (nan_c _).mono ?_; rintro e w' ⟨rfl, rfl⟩)
        | (go_at_call 26; refine (class_c _ _).mono ?_; rintro e w' ⟨rfl, rfl⟩)
        | (go_at_call 46; refine (less_c _ _ _ (by assumption) (by assumption)).mono ?_; rintro e w' ⟨rfl, rfl⟩)
        | (go_at_call 44; refine (canon_c _ _).mono ?_; rintro e w' ⟨rfl, rfl⟩))
            go_round
            case rel => exact ⟨k + 1, by omega, by go_num, by rw [S.out]⟩
            case measure => simp [intOf]; omega
        · have S := Lib.hid (Fl.best_first hn hm)
          go_wp2_with (first
        | (go_at_call 63; refine (nan_c _).mono ?_; rintro e w' ⟨rfl, rfl⟩)
        | (go_at_call 26; refine (class_c _ _).mono ?_; rintro e w' ⟨rfl, rfl⟩)
        | (go_at_call 46; refine (less_c _ _ _ (by assumption) (by assumption)).mono ?_; rintro e w' ⟨rfl, rfl⟩)
        | (go_at_call 44; refine (canon_c _ _).mono ?_; rintro e w' ⟨rfl, rfl⟩))
          go_round
          case rel => exact ⟨k + 1, by omega, by go_num, by rw [S.out]⟩
          case measure => simp [intOf]; omega
      · have S := Lib.hid (Fl.best_skip (up := false) hn)
        cases hm : Fl.isN (Fl.best false B k)
        all_goals
          go_wp2_with (first
        | (go_at_call 63; refine (nan_c _).mono ?_; rintro e w' ⟨rfl, rfl⟩)
        | (go_at_call 26; refine (class_c _ _).mono ?_; rintro e w' ⟨rfl, rfl⟩)
        | (go_at_call 46; refine (less_c _ _ _ (by assumption) (by assumption)).mono ?_; rintro e w' ⟨rfl, rfl⟩)
        | (go_at_call 44; refine (canon_c _ _).mono ?_; rintro e w' ⟨rfl, rfl⟩))
          go_round
          case rel => exact ⟨k + 1, by omega, by go_num, by rw [S.out]⟩
          case measure => simp [intOf]; omega
    · obtain rfl : k = len := by omega
      have H := Lib.hid hc
      clear hc
      go_wp2_with (first
        | (go_at_call 63; refine (nan_c _).mono ?_; rintro e w' ⟨rfl, rfl⟩)
        | (go_at_call 26; refine (class_c _ _).mono ?_; rintro e w' ⟨rfl, rfl⟩)
        | (go_at_call 46; refine (less_c _ _ _ (by assumption) (by assumption)).mono ?_; rintro e w' ⟨rfl, rfl⟩)
        | (go_at_call 44; refine (canon_c _ _).mono ?_; rintro e w' ⟨rfl, rfl⟩))
      go_ret
      exact ⟨rfl, rfl⟩

set_option maxHeartbeats 1000000 in
theorem foreLess_empty (a : Option Addr) (cap : Nat) (B : Nat → Nat) (w : World) :
    Calls Try.prog 45 #[.func (.func 46) #[] #[], .slice a 0 cap] w fun e w' => e = .returned (.float .f64 (Fl.canon (Fl.best false B 0))) ∧ w = w' := by
  go_enter Try.func45, Try.ntmps45
  go_wp2_with (first
        | (go_at_call 63; refine (nan_c _).mono ?_; rintro e w' ⟨rfl, rfl⟩)
        | (go_at_call 26; refine (class_c _ _).mono ?_; rintro e w' ⟨rfl, rfl⟩)
        | (go_at_call 46; refine (less_c _ _ _ (by assumption) (by assumption)).mono ?_; rintro e w' ⟨rfl, rfl⟩)
        | (go_at_call 44; refine (canon_c _ _).mono ?_; rintro e w' ⟨rfl, rfl⟩))
  refine wp_loop_rounds 1 ?_
  rw [rounds_succ]
  go_wp2_with (first
        | (go_at_call 63; refine (nan_c _).mono ?_; rintro e w' ⟨rfl, rfl⟩)
        | (go_at_call 26; refine (class_c _ _).mono ?_; rintro e w' ⟨rfl, rfl⟩)
        | (go_at_call 46; refine (less_c _ _ _ (by assumption) (by assumption)).mono ?_; rintro e w' ⟨rfl, rfl⟩)
        | (go_at_call 44; refine (canon_c _ _).mono ?_; rintro e w' ⟨rfl, rfl⟩))
  go_ret
  exact ⟨rfl, rfl⟩

set_option maxHeartbeats 1000000 in
theorem foreMore_c (b off len cap : Nat) (B : Nat → Nat) (w : World) (hlen : len ≤ 9223372036854775807) (hB : ∀ j, B j < 18446744073709551616) (hc : ∀ j, j < len → w.cell? ⟨b, off + j, none⟩ = some (.float .f64 (B j))) :
    Calls Try.prog 45 #[.func (.func 47) #[] #[], .slice (some ⟨b, off, none⟩) len cap] w fun e w' => e = .returned (.float .f64 (Fl.canon (Fl.best true B len))) ∧ w = w' := by
  have HB := Lib.hid hB
  clear hB
  go_enter Try.func45, Try.ntmps45
  go_wp2_with (first
        | (go_at_call 63; refine (nan_c _).mono ?_; rintro e w' ⟨rfl, rfl⟩)
        | (go_at_call 26; refine (class_c _ _).mono ?_; rintro e w' ⟨rfl, rfl⟩)
        | (go_at_call 47; refine (more_c _ _ _ (by assumption) (by assumption)).mono ?_; rintro e w' ⟨rfl, rfl⟩)
        | (go_at_call 44; refine (canon_c _ _).mono ?_; rintro e w' ⟨rfl, rfl⟩))
  go_loop [5, 11] (fun s i => ∃ (k : Nat), k ≤ len ∧ i = .int .i64 k ∧ s = .float .f64 (Fl.best true B k)) (fun _ i => len - (intOf i).toNat)
  case atStart => exact ⟨0, Nat.zero_le _, rfl, rfl⟩
  case round =>
    obtain ⟨k, hk, rfl, rfl⟩ := hrel
    by_cases hlt : k < len
    · have hcell := hc k hlt
      have H := Lib.hid hc
      clear hc
      have b1 := HB.out k
      have b2 := Fl.best_lt true HB.out k
      cases hn : Fl.isN (B k)
      · cases hm : Fl.isN (Fl.best true B k)
        · cases ha : Fl.ahead true (B k) (Fl.best true B k)
          · have S := Lib.hid (Fl.best_leave hn hm ha)
            have l1 : Fl.lt (Fl.best true B k) (B k) = false := ha
            clear ha
            go_wp2_with (first
        | (go_at_call 63; refine (nan_c _).mono ?_; rintro e w' ⟨rfl, rfl⟩)
        | (go_at_call 26; refine (class_c _ _).mono ?_; rintro e w' ⟨rfl, rfl⟩)
        | (go_at_call 47; refine (more_c _ _ _ (by assumption) (by assumption)).mono ?_; rintro e w' ⟨rfl, rfl⟩)
        | (go_at_call 44; refine (canon_c _ _).mono ?_; rintro e w' ⟨rfl, rfl⟩))
            go_round
            case rel => exact ⟨k + 1, by omega, by go_num, by rw [S.out]⟩
            case measure => simp [intOf]; omega
          · have S := Lib.hid (Fl.best_take hn ha)
            have l1 : Fl.lt (Fl.best true B k) (B k) = true := ha
            clear ha
            go_wp2_with (first
        | (go_at_call 63; refine (nan_c _).mono ?_; rintro e w' ⟨rfl, rfl⟩)
        | (go_at_call 26; refine (class_c _ _).mono ?_; rintro e w' ⟨rfl, rfl⟩)
        | (go_at_call 47; refine (more_c _ _ _ (by assumption) (by assumption)).mono ?_; rintro e w' ⟨rfl, rfl⟩)
        | (go_at_call 44; refine (canon_c _ _).mono ?_; rintro e w' ⟨rfl, rfl⟩))
            go_round
            case rel => exact ⟨k + 1, by omega, by go_num, by rw [S.out]⟩
            case measure => simp [intOf]; omega
        · have S := Lib.hid (Fl.best_first hn hm)
          go_wp2_with (first
        | (go_at_call 63; refine (nan_c _).mono ?_; rintro e w' ⟨rfl, rfl⟩)
        | (go_at_call 26; refine (class_c _ _).mono ?_; rintro e w' ⟨rfl, rfl⟩)
        | (go_at_call 47; refine (more_c _ _ _ (by assumption) (by assumption)).mono ?_; rintro e w' ⟨rfl, rfl⟩)
        | (go_at_call 44; refine (canon_c _ _).mono ?_; rintro e w' ⟨rfl, rfl⟩))
          go_round
          case rel => exact ⟨k + 1, by omega, by go_num, by rw [S.out]⟩
          case measure => simp [intOf]; omega
      · have S := Lib.hid (Fl.best_skip (up := true) hn)
        cases hm : Fl.isN (Fl.best true B k)
        all_goals
          go_wp2_with (first
        | (go_at_call 63; refine (nan_c _).mono ?_; rintro e w' ⟨rfl, rfl⟩)
        | (go_at_call 26; refine (class_c _ _).mono ?_; rintro e w' ⟨rfl, rfl⟩)
        | (go_at_call 47; refine (more_c _ _ _ (by assumption) (by assumption)).mono ?_; rintro e w' ⟨rfl, rfl⟩)
        | (go_at_call 44; refine (canon_c _ _).mono ?_; rintro e w' ⟨rfl, rfl⟩))
          go_round
          case rel => exact ⟨k + 1, by omega, by go_num, by rw [S.out]⟩
          case measure => simp [intOf]; omega
    · obtain rfl : k = len := by omega
      have H := Lib.hid hc
      clear hc
      go_wp2_with (first
        | (go_at_call 63; refine (nan_c _).mono ?_; rintro e w' ⟨rfl, rfl⟩)
        | (go_at_call 26; refine (class_c _ _).mono ?_; rintro e w' ⟨rfl, rfl⟩)
        | (go_at_call 47; refine (more_c _ _ _ (by assumption) (by assumption)).mono ?_; rintro e w' ⟨rfl, rfl⟩)
        | (go_at_call 44; refine (canon_c _ _).mono ?_; rintro e w' ⟨rfl, rfl⟩))
      go_ret
      exact ⟨rfl, rfl⟩

set_option maxHeartbeats 1000000 in
theorem foreMore_empty (a : Option Addr) (cap : Nat) (B : Nat → Nat) (w : World) :
    Calls Try.prog 45 #[.func (.func 47) #[] #[], .slice a 0 cap] w fun e w' => e = .returned (.float .f64 (Fl.canon (Fl.best true B 0))) ∧ w = w' := by
  go_enter Try.func45, Try.ntmps45
  go_wp2_with (first
        | (go_at_call 63; refine (nan_c _).mono ?_; rintro e w' ⟨rfl, rfl⟩)
        | (go_at_call 26; refine (class_c _ _).mono ?_; rintro e w' ⟨rfl, rfl⟩)
        | (go_at_call 47; refine (more_c _ _ _ (by assumption) (by assumption)).mono ?_; rintro e w' ⟨rfl, rfl⟩)
        | (go_at_call 44; refine (canon_c _ _).mono ?_; rintro e w' ⟨rfl, rfl⟩))
  refine wp_loop_rounds 1 ?_
  rw [rounds_succ]
  go_wp2_with (first
        | (go_at_call 63; refine (nan_c _).mono ?_; rintro e w' ⟨rfl, rfl⟩)
        | (go_at_call 26; refine (class_c _ _).mono ?_; rintro e w' ⟨rfl, rfl⟩)
        | (go_at_call 47; refine (more_c _ _ _ (by assumption) (by assumption)).mono ?_; rintro e w' ⟨rfl, rfl⟩)
        | (go_at_call 44; refine (canon_c _ _).mono ?_; rintro e w' ⟨rfl, rfl⟩))
  go_ret
  exact ⟨rfl, rfl⟩

set_option maxHeartbeats 400000 in
theorem least_c (b off len cap : Nat) (B : Nat → Nat) (w : World) (hlen : len ≤ 9223372036854775807) (hB : ∀ j, B j < 18446744073709551616) (hc : ∀ j, j < len → w.cell? ⟨b, off + j, none⟩ = some (.float .f64 (B j))) :
    Calls Try.prog 28 #[.slice (some ⟨b, off, none⟩) len cap] w fun e w' => e = .returned (.float .f64 (Fl.canon (Fl.best false B len))) ∧ w = w' := by
  have C := Lib.hid (foreLess_c b off len cap B w hlen hB hc)
  clear hB hc
  go_enter Try.func28, Try.ntmps28
  go_wp2_with fail
  refine C.out.mono ?_
  rintro e w' ⟨rfl, rfl⟩
  go_wp2_with fail
  go_ret
  exact ⟨rfl, rfl⟩

set_option maxHeartbeats 400000 in
theorem least_empty (a : Option Addr) (cap : Nat) (B : Nat → Nat) (w : World) :
    Calls Try.prog 28 #[.slice a 0 cap] w fun e w' => e = .returned (.float .f64 (Fl.canon (Fl.best false B 0))) ∧ w = w' := by
  go_enter Try.func28, Try.ntmps28
  go_wp2_with fail
  refine (foreLess_empty a cap B w).mono ?_
  rintro e w' ⟨rfl, rfl⟩
  go_wp2_with fail
  go_ret
  exact ⟨rfl, rfl⟩

set_option maxHeartbeats 400000 in
theorem most_c (b off len cap : Nat) (B : Nat → Nat) (w : World) (hlen : len ≤ 9223372036854775807) (hB : ∀ j, B j < 18446744073709551616) (hc : ∀ j, j < len → w.cell? ⟨b, off + j, none⟩ = some (.float .f64 (B j))) :
    Calls Try.prog 29 #[.slice (some ⟨b, off, none⟩) len cap] w fun e w' => e = .returned (.float .f64 (Fl.canon (Fl.best true B len))) ∧ w = w' := by
  have C := Lib.hid (foreMore_c b off len cap B w hlen hB hc)
  clear hB hc
  go_enter Try.func29, Try.ntmps29
  go_wp2_with fail
  refine C.out.mono ?_
  rintro e w' ⟨rfl, rfl⟩
  go_wp2_with fail
  go_ret
  exact ⟨rfl, rfl⟩

set_option maxHeartbeats 400000 in
theorem most_empty (a : Option Addr) (cap : Nat) (B : Nat → Nat) (w : World) :
    Calls Try.prog 29 #[.slice a 0 cap] w fun e w' => e = .returned (.float .f64 (Fl.canon (Fl.best true B 0))) ∧ w = w' := by
  go_enter Try.func29, Try.ntmps29
  go_wp2_with fail
  refine (foreMore_empty a cap B w).mono ?_
  rintro e w' ⟨rfl, rfl⟩
  go_wp2_with fail
  go_ret
  exact ⟨rfl, rfl⟩

end Go.Proofs.Ytnhpkcphgdkdiaa
