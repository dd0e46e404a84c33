import GoSem.Core.Float
import GoSem.Op.Unary
namespace Go.Proofs.YtnhpkcphgdkdiaaGreat
set_option linter.unusedSimpArgs false
set_option maxRecDepth 100000
section
namespace Fl
def V (B r : Nat) : Nat := if r < B then r else (B + r % B) * 2 ^ (r / B - 1)
theorem V_zero (B : Nat) (hB : 0 < B) : V B 0 = 0 := by simp [V, hB]
theorem V_succ (B : Nat) (hB : 0 < B) (r : Nat) : V B r < V B (r + 1) := by
 unfold V
 by_cases h1 : r + 1 < B
 ·rw [if_pos (by omega), if_pos h1]; omega
 ·rw [if_neg h1]
  by_cases h2 : r < B
  ·have e : r + 1 = B := by omega
   rw [if_pos h2, e, Nat.mod_self, Nat.div_self hB]
   simp; omega
  ·rw [if_neg h2]
   have hq : 1 ≤ r / B := (Nat.le_div_iff_mul_le hB).2 (by omega)
   have hlt := Nat.mod_lt r hB
   have hdm := Nat.div_add_mod r B
   by_cases h3 : r % B + 1 = B
   ·have e : r + 1 = B * (r / B + 1) := by rw [Nat.mul_add]; omega
    have e1 : (r + 1) % B = 0 := by rw [e, Nat.mul_mod_right]
    have e2 : (r + 1) / B = r / B + 1 := by rw [e, Nat.mul_div_cancel_left _ hB]
    rw [e1, e2]
    obtain ⟨q, hq'⟩ : ∃ q, r / B = q + 1 := ⟨r / B - 1, by omega⟩
    rw [hq']
    have : q + 1 + 1 - 1 = q + 1 := by omega
    rw [this, Nat.add_sub_cancel, Nat.pow_succ, Nat.add_zero]
    have hp : 0 < 2 ^ q := Nat.two_pow_pos q
    calc (B + r % B) * 2 ^ q < (B * 2) * 2 ^ q := Nat.mul_lt_mul_of_pos_right (by omega) hp
     _ = B * (2 ^ q * 2) := by rw [Nat.mul_assoc, Nat.mul_comm 2]
   ·have e : r + 1 = r % B + 1 + B * (r / B) := by omega
    have e1 : (r + 1) % B = r % B + 1 := by rw [e, Nat.add_mul_mod_self_left, Nat.mod_eq_of_lt (by omega)]
    have e2 : (r + 1) / B = r / B := by rw [e, Nat.add_mul_div_left _ _ hB, Nat.div_eq_of_lt (by omega), Nat.zero_add]
    rw [e1, e2]
    exact Nat.mul_lt_mul_of_pos_right (by omega) (Nat.two_pow_pos _)
theorem V_lt (B : Nat) (hB : 0 < B) {r s : Nat} (h : r < s) : V B r < V B s := by
 induction s with
 | zero => omega
 | succ s ih =>
  by_cases e : r = s
  ·subst e; exact V_succ B hB r
  ·exact Nat.lt_trans (ih (by omega)) (V_succ B hB s)
theorem V_lt_iff (B : Nat) (hB : 0 < B) (r s : Nat) : V B r < V B s ↔ r < s := by
 constructor
 ·intro h
  rcases Nat.lt_trichotomy r s with h1 | h1 | h1
  ·exact h1
  ·subst h1; omega
  ·have := V_lt B hB h1; omega
 ·exact V_lt B hB
theorem V_eq_iff (B : Nat) (hB : 0 < B) (r s : Nat) : V B r = V B s ↔ r = s := by
 constructor
 ·intro h
  rcases Nat.lt_trichotomy r s with h1 | h1 | h1
  ·have := V_lt B hB h1; omega
  ·exact h1
  ·have := V_lt B hB h1; omega
 ·intro h; rw [h]
def sg (neg : Bool) (n : Nat) : Int := if neg then -(n : Int) else n
theorem cmp_congr {x y x' y' : Int} (h1 : x < y ↔ x' < y') (h2 : x = y ↔ x' = y') : compare x y = compare x' y' := by
 show compareOfLessAndEq x y = compareOfLessAndEq x' y'
 unfold compareOfLessAndEq
 by_cases a : x < y
 ·rw [if_pos a, if_pos (h1.1 a)]
 ·rw [if_neg a, if_neg (fun h => a (h1.2 h))]
  by_cases b : x = y
  ·rw [if_pos b, if_pos (h2.1 b)]
  ·rw [if_neg b, if_neg (fun h => b (h2.2 h))]
theorem cmp_sg (B : Nat) (hB : 0 < B) (s t : Bool) (r q : Nat) : compare (sg s (V B r)) (sg t (V B q)) = compare (sg s r) (sg t q) := by
 have h0 := V_zero B hB
 have hr : V B r = 0 ↔ r = 0 := by have := V_eq_iff B hB r 0; rw [h0] at this; exact this
 have hq : V B q = 0 ↔ q = 0 := by have := V_eq_iff B hB q 0; rw [h0] at this; exact this
 have h1 := V_lt_iff B hB r q
 have h2 := V_lt_iff B hB q r
 have h3 := V_eq_iff B hB r q
 apply cmp_congr <;> cases s <;> cases t <;> simp only [sg, if_true, Bool.false_eq_true, if_false] <;> omega
theorem signed_mul (s : Bool) (m u k : Nat) : Ieee.signed s m u * ((2 ^ k : Nat) : Int) = sg s (m * 2 ^ (u + k)) := by
 unfold Ieee.signed sg
 rw [Nat.shiftLeft_eq, Nat.pow_add, ← Nat.mul_assoc]
 cases s
 ·simp only [Bool.false_eq_true, if_false]; rw [← Int.natCast_mul]
 ·simp only [if_true]; rw [Int.neg_mul, ← Int.natCast_mul]
theorem order_numbers (B : Nat) (hB : 0 < B) (lp : Int) (s t : Bool) (m n r q : Nat) (i j : Int) (hi : lp ≤ i) (hj : lp ≤ j)
  (hm : m * 2 ^ (i - lp).toNat = V B r) (hn : n * 2 ^ (j - lp).toNat = V B q) :
  (Ieee.Datum.number s m i).order (.number t n j) = some (compare (sg s r) (sg t q)) := by
 show some (compare (Ieee.signed s m (i - min i j).toNat) (Ieee.signed t n (j - min i j).toNat)) = _
 congr 1
 rw [← cmp_sg B hB s t r q, ← hm, ← hn]
 have e1 : (i - lp).toNat = (i - min i j).toNat + (min i j - lp).toNat := by omega
 have e2 : (j - lp).toNat = (j - min i j).toNat + (min i j - lp).toNat := by omega
 rw [e1, e2, ← signed_mul, ← signed_mul]
 have hp : (0 : Int) < ((2 ^ (min i j - lp).toNat : Nat) : Int) := by
  have := Nat.two_pow_pos (min i j - lp).toNat; omega
 exact cmp_congr ⟨fun h => Int.mul_lt_mul_of_pos_right h hp, fun h => Int.lt_of_mul_lt_mul_right h (Int.le_of_lt hp)⟩
  ⟨fun h => by rw [h], fun h => Int.eq_of_mul_eq_mul_right (by omega) h⟩
theorem read_number (f : Ieee.Format) (w : Nat) (h : w % f.signWeight < f.infRung) :
  ∃ m i, f.read w = .number (w / f.signWeight % 2 == 1) m i ∧ f.leastPlace ≤ i ∧ m * 2 ^ (i - f.leastPlace).toNat = V f.binade (w % f.signWeight) := by
 unfold Ieee.Format.read V
 by_cases h1 : w % f.signWeight < f.binade
 ·refine ⟨w % f.signWeight, f.leastPlace, ?_, Int.le_refl _, ?_⟩
  ·simp only [if_pos h1]
  ·rw [if_pos h1, Int.sub_self]; simp
 ·refine ⟨f.binade + w % f.signWeight % f.binade, f.leastPlace + ((w % f.signWeight / f.binade - 1 : Nat) : Int), ?_, by omega, ?_⟩
  ·simp only [if_neg h1, if_pos h]
  ·rw [if_neg h1]; congr 2; omega
theorem read_inf (f : Ieee.Format) (w : Nat) (hb : f.binade ≤ f.infRung) (h : w % f.signWeight = f.infRung) : f.read w = .infinity (w / f.signWeight % 2 == 1) := by
 unfold Ieee.Format.read
 simp only [h, if_neg (Nat.not_lt.2 hb), if_neg (Nat.lt_irrefl _), if_true]
theorem read_nan (f : Ieee.Format) (w : Nat) (hb : f.binade ≤ f.infRung) (h : f.infRung < w % f.signWeight) : ∃ n t, f.read w = .nan n t := by
 unfold Ieee.Format.read
 refine ⟨w / f.signWeight % 2 == 1, w % f.signWeight - f.infRung, ?_⟩
 simp only [if_neg (show ¬ w % f.signWeight < f.binade by omega), if_neg (show ¬ w % f.signWeight < f.infRung by omega), if_neg (show ¬ w % f.signWeight = f.infRung by omega)]
theorem order_nan_left (f : Ieee.Format) (a b : Nat) (hb : f.binade ≤ f.infRung) (h : f.infRung < a % f.signWeight) : f.order a b = none := by
 unfold Ieee.Format.order
 obtain ⟨n, t, e⟩ := read_nan f a hb h
 rw [e]; rfl
theorem order_nan_right (f : Ieee.Format) (a b : Nat) (hb : f.binade ≤ f.infRung) (h : f.infRung < b % f.signWeight) : f.order a b = none := by
 unfold Ieee.Format.order
 obtain ⟨n, t, e⟩ := read_nan f b hb h
 rw [e]
 cases f.read a <;> rfl
theorem order_words (f : Ieee.Format) (a b : Nat) (hB : 0 < f.binade) (hb : f.binade ≤ f.infRung) (ha : a % f.signWeight ≤ f.infRung) (hc : b % f.signWeight ≤ f.infRung) :
  f.order a b = some (compare (sg (a / f.signWeight % 2 == 1) (a % f.signWeight)) (sg (b / f.signWeight % 2 == 1) (b % f.signWeight))) := by
 unfold Ieee.Format.order
 rcases Nat.lt_or_eq_of_le ha with h1 | h1 <;> rcases Nat.lt_or_eq_of_le hc with h2 | h2
 ·obtain ⟨m, i, e1, e2, e3⟩ := read_number f a h1
  obtain ⟨n, j, e4, e5, e6⟩ := read_number f b h2
  rw [e1, e4]
  exact order_numbers f.binade hB f.leastPlace _ _ m n _ _ i j e2 e5 e3 e6
 ·obtain ⟨m, i, e1, e2, e3⟩ := read_number f a h1
  rw [e1, read_inf f b hb h2]
  generalize (a / f.signWeight % 2 == 1) = s
  generalize (b / f.signWeight % 2 == 1) = t
  show some (if t then Ordering.gt else .lt) = _
  congr 1
  show _ = compareOfLessAndEq _ _
  unfold compareOfLessAndEq
  rw [h2]
  cases s <;> cases t <;> simp only [sg, if_true, Bool.false_eq_true, if_false]
  ·rw [if_pos (by omega)]
  ·rw [if_neg (by omega), if_neg (by omega)]
  ·rw [if_pos (by omega)]
  ·rw [if_neg (by omega), if_neg (by omega)]
 ·obtain ⟨n, j, e4, e5, e6⟩ := read_number f b h2
  rw [e4, read_inf f a hb h1]
  generalize (a / f.signWeight % 2 == 1) = s
  generalize (b / f.signWeight % 2 == 1) = t
  show some (if s then Ordering.lt else .gt) = _
  congr 1
  show _ = compareOfLessAndEq _ _
  unfold compareOfLessAndEq
  rw [h1]
  cases s <;> cases t <;> simp only [sg, if_true, Bool.false_eq_true, if_false]
  ·rw [if_neg (by omega), if_neg (by omega)]
  ·rw [if_neg (by omega), if_neg (by omega)]
  ·rw [if_pos (by omega)]
  ·rw [if_pos (by omega)]
 ·rw [read_inf f a hb h1, read_inf f b hb h2]
  generalize (a / f.signWeight % 2 == 1) = s
  generalize (b / f.signWeight % 2 == 1) = t
  show some (compare t.toNat s.toNat) = _
  congr 1
  rw [h1, h2]
  have hp : 0 < f.infRung := by omega
  show _ = compareOfLessAndEq _ _
  unfold compareOfLessAndEq
  cases s <;> cases t <;> simp only [sg, if_true, Bool.false_eq_true, if_false, Bool.toNat_true, Bool.toNat_false]
  ·rw [if_neg (by omega)]; rfl
  ·rw [if_neg (by omega), if_neg (by omega)]; rfl
  ·rw [if_pos (by omega)]; rfl
  ·rw [if_neg (by omega)]; rfl
def inf : Nat := 9218868437227405312
def two63 : Nat := 9223372036854775808
def nanW : Nat := 9221120237041090561
theorem inf_eq : inf = 9218868437227405312 := rfl
theorem two63_eq : two63 = 9223372036854775808 := rfl
theorem nanW_eq : nanW = 9221120237041090561 := rfl
theorem dbl_inf : FloatKind.f64.format.infRung = inf := by decide +kernel
theorem dbl_sw : FloatKind.f64.format.signWeight = two63 := by decide +kernel
theorem dbl_binade : 0 < FloatKind.f64.format.binade := Nat.two_pow_pos _
theorem dbl_le : FloatKind.f64.format.binade ≤ FloatKind.f64.format.infRung := by decide +kernel
def I (b : Nat) : Int := b
def W (n : Int) : Nat := n.toNat
theorem I_eq (b : Nat) : I b = b := rfl
def isN (b : Nat) : Bool := decide (inf < b % two63)
def sv (b : Nat) : Int := if b / two63 % 2 = 1 then -((b % two63 : Nat) : Int) else ((b % two63 : Nat) : Int)
theorem sv_eq (b : Nat) : sv b = sg (b / two63 % 2 == 1) (b % two63) := by
 unfold sv sg
 by_cases h : b / two63 % 2 = 1
 ·rw [if_pos h, if_pos (by simp [h])]
 ·rw [if_neg h, if_neg (by simp [h])]
theorem order_none_left {a : Nat} (h : isN a = true) (b : Nat) : FloatKind.f64.format.order a b = none :=
 order_nan_left _ a b dbl_le (by rw [dbl_inf, dbl_sw]; exact of_decide_eq_true h)
theorem order_none_right (a : Nat) {b : Nat} (h : isN b = true) : FloatKind.f64.format.order a b = none :=
 order_nan_right _ a b dbl_le (by rw [dbl_inf, dbl_sw]; exact of_decide_eq_true h)
theorem order_some {a b : Nat} (ha : isN a = false) (hb : isN b = false) : FloatKind.f64.format.order a b = some (compare (sv a) (sv b)) := by
 have h1 : ¬ inf < a % two63 := of_decide_eq_false ha
 have h2 : ¬ inf < b % two63 := of_decide_eq_false hb
 rw [order_words _ a b dbl_binade dbl_le (by rw [dbl_inf, dbl_sw]; omega) (by rw [dbl_inf, dbl_sw]; omega), dbl_sw, sv_eq, sv_eq]
theorem cmp_lt (x y : Int) : (some (compare x y) == some Ordering.lt) = decide (x < y) := by
 show (some (compareOfLessAndEq x y) == some Ordering.lt) = _
 unfold compareOfLessAndEq
 by_cases h : x < y
 ·rw [if_pos h]; simp [h]
 ·rw [if_neg h]
  by_cases e : x = y
  ·rw [if_pos e]; simp [h]
  ·rw [if_neg e]; simp [h]
theorem cmp_eq (x y : Int) : (some (compare x y) == some Ordering.eq) = decide (x = y) := by
 show (some (compareOfLessAndEq x y) == some Ordering.eq) = _
 unfold compareOfLessAndEq
 by_cases h : x < y
 ·rw [if_pos h]; simp; omega
 ·rw [if_neg h]
  by_cases e : x = y
  ·rw [if_pos e]; simp [e]
  ·rw [if_neg e]; simp [e]
theorem cmp_gt (x y : Int) : (some (compare x y) == some Ordering.gt) = decide (y < x) := by
 show (some (compareOfLessAndEq x y) == some Ordering.gt) = _
 unfold compareOfLessAndEq
 by_cases h : x < y
 ·rw [if_pos h]; simp; omega
 ·rw [if_neg h]
  by_cases e : x = y
  ·rw [if_pos e]; simp; omega
  ·rw [if_neg e]; simp; omega
def ltB (a b : Nat) : Bool := !isN a && !isN b && decide (sv a < sv b)
def eqB (a b : Nat) : Bool := !isN a && !isN b && decide (sv a = sv b)
theorem order_lt (a b : Nat) : (FloatKind.f64.format.order a b == some .lt) = ltB a b := by
 unfold ltB
 cases ha : isN a
 ·cases hb : isN b
  ·rw [order_some ha hb, cmp_lt]; simp
  ·rw [order_none_right a hb]; rfl
 ·rw [order_none_left ha]; rfl
theorem order_eq (a b : Nat) : (FloatKind.f64.format.order a b == some .eq) = eqB a b := by
 unfold eqB
 cases ha : isN a
 ·cases hb : isN b
  ·rw [order_some ha hb, cmp_eq]; simp
  ·rw [order_none_right a hb]; rfl
 ·rw [order_none_left ha]; rfl
theorem order_ne (a b : Nat) : (FloatKind.f64.format.order a b != some .eq) = !eqB a b := by
 rw [← order_eq]; rfl
theorem order_gt (a b : Nat) : (FloatKind.f64.format.order a b == some .gt) = ltB b a := by
 unfold ltB
 cases ha : isN a
 ·cases hb : isN b
  ·rw [order_some ha hb, cmp_gt]; simp
  ·rw [order_none_right a hb]; rfl
 ·rw [order_none_left ha]; cases isN b <;> rfl
theorem eqB_self (a : Nat) : eqB a a = !isN a := by unfold eqB; cases isN a <;> simp
def cls (b : Nat) : Int := if isN b = true then 0 else if sv b = -inf then 1 else if sv b < 0 then 2 else if sv b = 0 then 3 else if sv b < inf then 4 else 5
def canon (b : Nat) : Nat := if isN b = true then nanW else if sv b = 0 then 0 else b
def key (b : Nat) : Int := if isN b = true then 0 else if sv b < 0 then two63 - 1 + sv b else two63 + sv b
theorem sv_bound {b : Nat} (h : isN b = false) : -(inf : Int) ≤ sv b ∧ sv b ≤ inf := by
 have h1 : ¬ inf < b % two63 := of_decide_eq_false h
 unfold sv; split <;> omega
theorem xor_mod (b : Nat) : (b ^^^ 2 ^ 63) % 2 ^ 63 = b % 2 ^ 63 := by
 rw [Nat.xor_mod_two_pow, Nat.mod_self, Nat.xor_zero]
theorem xor_div (b : Nat) : (b ^^^ 2 ^ 63) / 2 ^ 63 % 2 = 1 - b / 2 ^ 63 % 2 := by
 rw [Nat.xor_div_two_pow, Nat.div_self (Nat.two_pow_pos _)]
 have h := Nat.xor_mod_two_pow (a := b / 2 ^ 63) (b := 1) (n := 1)
 rw [Nat.pow_one] at h
 rw [h]
 have := Nat.mod_lt (b / 2 ^ 63) (show 0 < 2 by omega)
 have e : b / 2 ^ 63 % 2 = 0 ∨ b / 2 ^ 63 % 2 = 1 := by omega
 rcases e with e | e <;> rw [e] <;> rfl
theorem two63_pow : two63 = 2 ^ 63 := by decide +kernel
theorem isN_neg (b : Nat) : isN (Op.negFloat .f64 b) = isN b := by
 unfold isN
 have e : Op.negFloat .f64 b = b ^^^ 2 ^ 63 := rfl
 rw [e, two63_pow, xor_mod]
theorem sv_neg (b : Nat) : sv (Op.negFloat .f64 b) = - sv b := by
 unfold sv
 have e : Op.negFloat .f64 b = b ^^^ 2 ^ 63 := rfl
 rw [e, two63_pow, xor_mod, xor_div]
 have := Nat.mod_lt (b / 2 ^ 63) (show 0 < 2 by omega)
 have e : b / 2 ^ 63 % 2 = 0 ∨ b / 2 ^ 63 % 2 = 1 := by omega
 rcases e with e | e <;> rw [e] <;> simp
theorem sv_pos {b : Nat} (h : b < two63) : sv b = b := by
 unfold sv; rw [if_neg (by rw [Nat.div_eq_of_lt h]; omega), Nat.mod_eq_of_lt h]
theorem sv_min {b : Nat} (h : two63 ≤ b) (h2 : b < 2 * two63) : sv b = two63 - b := by
 unfold two63 at *; unfold sv; rw [if_pos (by unfold two63; omega)]; unfold two63; omega
theorem isN_pos {b : Nat} (h : b < two63) : isN b = decide (inf < b) := by
 unfold isN; rw [Nat.mod_eq_of_lt h]
theorem isN_min {b : Nat} (h : two63 ≤ b) (h2 : b < 2 * two63) : isN b = decide (inf < b - two63) := by
 have e : b % two63 = b - two63 := by unfold two63 at *; omega
 unfold isN; rw [e]
theorem ltB_yes {a b : Nat} (ha : isN a = false) (hb : isN b = false) : ltB a b = decide (sv a < sv b) := by unfold ltB; rw [ha, hb]; simp
theorem eqB_yes {a b : Nat} (ha : isN a = false) (hb : isN b = false) : eqB a b = decide (sv a = sv b) := by unfold eqB; rw [ha, hb]; simp
theorem ltB_nan_left {a : Nat} (ha : isN a = true) (b : Nat) : ltB a b = false := by unfold ltB; rw [ha]; simp
theorem ltB_nan_right (a : Nat) {b : Nat} (hb : isN b = true) : ltB a b = false := by unfold ltB; rw [hb]; simp
theorem sv_zero : sv 0 = 0 := by rw [sv_pos (by unfold two63; omega)]; rfl
theorem isN_zero : isN 0 = false := by rw [isN_pos (by unfold two63; omega)]; rfl
theorem isN_max : isN 9218868437227405311 = false := by decide +kernel
theorem isN_low : isN 18442240474082181119 = false := by decide +kernel
theorem sv_max : sv 9218868437227405311 = inf - 1 := by decide +kernel
theorem sv_low : sv 18442240474082181119 = -(inf : Int) + 1 := by decide +kernel
def infP (b : Nat) : Bool := !isN b && decide (sv b = inf)
def infM (b : Nat) : Bool := !isN b && decide (sv b = -(inf : Int))
theorem ltB_max (b : Nat) : ltB 9218868437227405311 b = infP b := by
 unfold infP
 cases h : isN b
 ·rw [ltB_yes isN_max h, sv_max]
  have := sv_bound h
  simp only [Bool.not_false, Bool.true_and, decide_eq_decide]; omega
 ·rw [ltB_nan_right _ h]; rfl
theorem ltB_max_neg (b : Nat) : ltB 9218868437227405311 (Op.negFloat .f64 b) = infM b := by
 unfold infM
 cases h : isN b
 ·rw [ltB_yes isN_max (by rw [isN_neg, h]), sv_max, sv_neg]
  have := sv_bound h
  simp only [Bool.not_false, Bool.true_and, decide_eq_decide]; omega
 ·rw [ltB_nan_right _ (by rw [isN_neg, h])]; rfl
theorem ltB_low (b : Nat) : ltB b 18442240474082181119 = infM b := by
 unfold infM
 cases h : isN b
 ·rw [ltB_yes h isN_low, sv_low]
  have := sv_bound h
  simp only [Bool.not_false, Bool.true_and, decide_eq_decide]; omega
 ·rw [ltB_nan_left h]; rfl
theorem ltB_zero_right {b : Nat} (h : isN b = false) : ltB b 0 = decide (sv b < 0) := by rw [ltB_yes h isN_zero, sv_zero]
theorem ltB_zero_left {b : Nat} (h : isN b = false) : ltB 0 b = decide (0 < sv b) := by rw [ltB_yes isN_zero h, sv_zero]
theorem eqB_zero {b : Nat} (h : isN b = false) : eqB b 0 = decide (sv b = 0) := by rw [eqB_yes h isN_zero, sv_zero]
theorem cls_nan {b : Nat} (h : isN b = true) : cls b = 0 := by unfold cls; rw [if_pos h]
theorem cls_below {b : Nat} (h : infM b = true) : cls b = 1 := by
 unfold infM at h; simp at h; unfold cls; rw [if_neg (by simp [h.1]), if_pos h.2]
theorem cls_above {b : Nat} (h : infP b = true) : cls b = 5 := by
 unfold infP at h; simp at h
 have hp : (0 : Int) < inf := by decide +kernel
 unfold cls; rw [if_neg (by simp [h.1]), if_neg (by omega), if_neg (by omega), if_neg (by omega), if_neg (by omega)]
theorem cls_minus {b : Nat} (h0 : isN b = false) (h1 : infM b = false) (h : ltB b 0 = true) : cls b = 2 := by
 rw [ltB_zero_right h0] at h
 unfold infM at h1; simp [h0] at h1 h
 unfold cls; rw [if_neg (by simp [h0]), if_neg h1, if_pos h]
theorem cls_nought {b : Nat} (h0 : isN b = false) (h1 : ltB b 0 = false) (h : ltB 0 b = false) : cls b = 3 := by
 rw [ltB_zero_right h0] at h1
 rw [ltB_zero_left h0] at h
 simp at h1 h
 have hp : (0 : Int) < inf := by decide +kernel
 unfold cls; rw [if_neg (by simp [h0]), if_neg (by omega), if_neg (by omega), if_pos (by omega)]
theorem cls_plus {b : Nat} (h0 : isN b = false) (h1 : infP b = false) (h : 0 < sv b) : cls b = 4 := by
 have bd := sv_bound h0
 unfold infP at h1; simp [h0] at h1
 unfold cls; rw [if_neg (by simp [h0]), if_neg (by omega), if_neg (by omega), if_neg (by omega), if_pos (by omega)]
theorem pos_of {b : Nat} (h0 : isN b = false) (h : ltB 0 b = true) : 0 < sv b := by
 rw [ltB_zero_left h0] at h; simpa using h
theorem cls_zero_iff (b : Nat) : (cls b == 0) = isN b := by
 unfold cls
 cases isN b
 ·simp; repeat' split
  all_goals decide
 ·simp
theorem cls_three {b : Nat} (h0 : isN b = false) : (cls b == 3) = decide (sv b = 0) := by
 have hp : (0 : Int) < inf := by decide +kernel
 unfold cls
 rw [h0]
 by_cases h : sv b = 0
 ·simp [h]; omega
 ·simp [h]; repeat' split
  all_goals decide
theorem canon_nan {b : Nat} (h : isN b = true) : canon b = nanW := by unfold canon; rw [if_pos h]
theorem canon_zero {b : Nat} (h0 : isN b = false) (h : sv b = 0) : canon b = 0 := by unfold canon; rw [if_neg (by simp [h0]), if_pos h]
theorem canon_self {b : Nat} (h0 : isN b = false) (h : ¬ sv b = 0) : canon b = b := by unfold canon; rw [if_neg (by simp [h0]), if_neg h]
theorem canon_lt {b : Nat} (h : b < 18446744073709551616) : canon b < 18446744073709551616 := by
 unfold canon; split
 ·decide +kernel
 ·split <;> omega
theorem isN_nanW : isN nanW = true := by decide +kernel
theorem canon_canon (b : Nat) : canon (canon b) = canon b := by
 cases h : isN b
 ·by_cases e : sv b = 0
  ·rw [canon_zero h e, canon_zero isN_zero sv_zero]
  ·rw [canon_self h e, canon_self h e]
 ·rw [canon_nan h, canon_nan isN_nanW]
theorem canon_ge {b : Nat} (hb : b < 18446744073709551616) (h : isN b = false) (hs : 0 ≤ sv b) : I (canon b) = sv b := by
 unfold I
 by_cases e : sv b = 0
 ·rw [canon_zero h e, e]; rfl
 ·rw [canon_self h e]
  by_cases l : b < two63
  ·rw [sv_pos l]
  ·have := sv_min (b := b) (by omega) (by unfold two63; omega); omega
theorem canon_neg {b : Nat} (hb : b < 18446744073709551616) (h : isN b = false) (hs : sv b < 0) : I (canon b) = two63 - sv b := by
 unfold I
 rw [canon_self h (by omega)]
 by_cases l : b < two63
 ·have := sv_pos l; omega
 ·have := sv_min (b := b) (by omega) (by unfold two63; omega); omega
theorem key_nan {b : Nat} (h : isN b = true) : key b = 0 := by unfold key; rw [if_pos h]
theorem key_ge {b : Nat} (h : isN b = false) (hs : 0 ≤ sv b) : key b = two63 + sv b := by
 unfold key; rw [if_neg (by simp [h]), if_neg (by omega)]
theorem key_neg {b : Nat} (h : isN b = false) (hs : sv b < 0) : key b = two63 - 1 + sv b := by
 unfold key; rw [if_neg (by simp [h]), if_pos hs]
theorem wrap_u64 (n : Int) : IntKind.u64.wrap n = n % 18446744073709551616 := by simp [IntKind.wrap, IntKind.bits, IntKind.signed]
theorem canon_low {b : Nat} (hb : b < 18446744073709551616) (h : isN b = false) (hs : 0 ≤ sv b) : decide (I (canon b) < 9223372036854775808) = true := by
 have := canon_ge hb h hs; have := sv_bound h; have := inf_eq; simp; omega
theorem canon_high {b : Nat} (hb : b < 18446744073709551616) (h : isN b = false) (hs : ¬ 0 ≤ sv b) : decide (I (canon b) < 9223372036854775808) = false := by
 have := canon_neg hb h (by omega); have := two63_eq; simp; omega
theorem canon_low' {b : Nat} (hb : b < 18446744073709551616) (h : isN b = false) (hs : 0 ≤ sv b) : (I (canon b) / 9223372036854775808 == 0) = true := by
 have := canon_ge hb h hs; have := sv_bound h; have := inf_eq; simp; omega
theorem canon_high' {b : Nat} (hb : b < 18446744073709551616) (h : isN b = false) (hs : ¬ 0 ≤ sv b) : (I (canon b) / 9223372036854775808 == 0) = false := by
 have := canon_neg hb h (by omega); have := two63_eq; simp; omega
theorem key_end_ge {b : Nat} (hb : b < 18446744073709551616) (h : isN b = false) (hs : 0 ≤ sv b) : IntKind.u64.wrap (I (canon b) + 9223372036854775808) = key b := by
 have := canon_ge hb h hs; have := sv_bound h; have := inf_eq; have := two63_eq
 rw [key_ge h hs, wrap_u64]; omega
theorem key_end_neg {b : Nat} (hb : b < 18446744073709551616) (h : isN b = false) (hs : ¬ 0 ≤ sv b) : IntKind.u64.wrap (18446744073709551615 - I (canon b)) = key b := by
 have := canon_neg hb h (by omega); have := sv_bound h; have := inf_eq; have := two63_eq
 rw [key_neg h (by omega), wrap_u64]; omega
theorem key_bound (b : Nat) : 0 ≤ key b ∧ key b < 18446744073709551616 := by
 cases h : isN b
 ·have := sv_bound h; have := inf_eq; have := two63_eq
  by_cases hs : 0 ≤ sv b
  ·rw [key_ge h hs]; omega
  ·rw [key_neg h (by omega)]; omega
 ·rw [key_nan h]; omega
def pl (b : Nat) : Int := if isN b = true then -(inf : Int) - 1 else sv b
def lt (a b : Nat) : Bool := decide (key a < key b)
def same (a b : Nat) : Bool := key a == key b
theorem pl_nan {b : Nat} (h : isN b = true) : pl b = -(inf : Int) - 1 := by unfold pl; rw [if_pos h]
theorem pl_num {b : Nat} (h : isN b = false) : pl b = sv b := by unfold pl; rw [if_neg (by simp [h])]
theorem pl_bound (b : Nat) : -(inf : Int) - 1 ≤ pl b ∧ pl b ≤ inf := by
 cases h : isN b
 ·rw [pl_num h]; have := sv_bound h; omega
 ·rw [pl_nan h]; omega
def kp (p : Int) : Int := if p = -(inf : Int) - 1 then 0 else if p < 0 then two63 - 1 + p else two63 + p
theorem key_pl (b : Nat) : key b = kp (pl b) := by
 cases h : isN b
 ·have := sv_bound h
  rw [pl_num h]; unfold kp; rw [if_neg (by omega)]
  by_cases hs : 0 ≤ sv b
  ·rw [key_ge h hs, if_neg (by omega)]
  ·rw [key_neg h (by omega), if_pos (by omega)]
 ·rw [key_nan h, pl_nan h]; unfold kp; rw [if_pos rfl]
theorem kp_lt {p q : Int} (hp : -(inf : Int) - 1 ≤ p) (hq : -(inf : Int) - 1 ≤ q) : kp p < kp q ↔ p < q := by
 have := inf_eq; have := two63_eq
 unfold kp
 by_cases a1 : p = -(inf : Int) - 1 <;> by_cases a2 : p < 0 <;> by_cases b1 : q = -(inf : Int) - 1 <;> by_cases b2 : q < 0 <;> simp only [a1, a2, b1, b2, if_true, if_false] <;> omega
theorem key_lt (a b : Nat) : key a < key b ↔ pl a < pl b := by
 rw [key_pl, key_pl]; exact kp_lt (pl_bound a).1 (pl_bound b).1
theorem lt_true {a b : Nat} : lt a b = true ↔ pl a < pl b := by unfold lt; rw [decide_eq_true_iff, key_lt]
theorem lt_false {a b : Nat} : lt a b = false ↔ pl b ≤ pl a := by unfold lt; rw [decide_eq_false_iff_not, key_lt]; omega
end Fl
end
end Go.Proofs.YtnhpkcphgdkdiaaGreat
