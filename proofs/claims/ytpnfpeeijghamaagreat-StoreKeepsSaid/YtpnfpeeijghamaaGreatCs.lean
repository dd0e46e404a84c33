/- Check sums (CRC-32/MPEG-2), of plain numbers: the document's Step, bit by bit in another way, in pieces, and one bit turned. Nothing of the program. Contracts of crc.Step, crc.More, crc.Sum, and of the document's own Step and Sum32. -/
import Derived.Below
import Derived.Test.YtpnfpeeijghamaaGreatRet
import Derived.Test.YtpnfpeeijghamaaGreatMem
import Derived.Test.YtpnfpeeijghamaaGreatRows
import Derived.Deep.Slices
import Derived.Laws.ShiftsVarLaws
import Derived.Laws.BitsAllLaws
namespace Go.Proofs.YtpnfpeeijghamaaGreat
set_option maxRecDepth 100000

section
namespace Crc

/-- The polynomial 04c11db7. -/
def pol : Nat := 79764919
/-- Shifted up by one bit, and, if the highest bit was 1, xored with the polynomial. -/
def tick (c : Nat) : Nat := if c / 2147483648 = 1 then (c * 2 % 4294967296) ^^^ pol else c * 2 % 4294967296
def ticks : Nat → Nat → Nat
  | 0, c => c
  | n + 1, c => ticks n (tick c)
def step (c x : Nat) : Nat := ticks 8 (c ^^^ (x * 16777216))
def more (c : Nat) (l : List UInt8) : Nat := l.foldl (fun c x => step c x.toNat) c
def sum (l : List UInt8) : Nat := more 4294967295 l

theorem tick_lt (c : Nat) : tick c < 4294967296 := by
  unfold tick
  split
  · exact Nat.xor_lt_two_pow (n := 32) (Nat.mod_lt _ (by decide)) (by decide)
  · exact Nat.mod_lt _ (by decide)
theorem ticks_lt {n c : Nat} (h : c < 4294967296) : ticks n c < 4294967296 := by
  induction n generalizing c with
  | zero => exact h
  | succ n ih => exact ih (tick_lt c)
theorem ticks_succ (n c : Nat) : ticks (n + 1) c = tick (ticks n c) := by
  induction n generalizing c with
  | zero => rfl
  | succ n ih => rw [ticks, ih]; rfl
theorem into_lt {c x : Nat} (h : c < 4294967296) (hx : x < 256) : c ^^^ (x * 16777216) < 4294967296 :=
  Nat.xor_lt_two_pow (n := 32) h (by omega)
theorem step_lt {c x : Nat} (h : c < 4294967296) (hx : x < 256) : step c x < 4294967296 := ticks_lt (into_lt h hx)
theorem more_lt {c : Nat} (h : c < 4294967296) (l : List UInt8) : more c l < 4294967296 := by
  induction l generalizing c with
  | nil => exact h
  | cons x l ih => exact ih (step_lt h x.toNat_lt)
theorem more_app (c : Nat) (a b : List UInt8) : more c (a ++ b) = more (more c a) b := by simp [more, List.foldl_append]
theorem more_snoc (c : Nat) (a : List UInt8) (x : UInt8) : more c (a ++ [x]) = step (more c a) x.toNat := by simp [more]

theorem xor_parity (a : Nat) (h : a % 2 = 0) : (a ^^^ pol) % 2 = 1 := by
  have e : (a ^^^ pol) % 2 = (a % 2) ^^^ (pol % 2) := Nat.xor_mod_two_pow (n := 1)
  rw [e, h]
  decide
theorem xor_cancel {a b k : Nat} (h : a ^^^ k = b ^^^ k) : a = b := by
  have := congrArg (· ^^^ k) h
  simpa [Nat.xor_assoc] using this
/-- Nothing is lost by a shift. -/
theorem tick_inj {a b : Nat} (ha : a < 4294967296) (hb : b < 4294967296) (h : tick a = tick b) : a = b := by
  unfold tick at h
  have pa : (a * 2 % 4294967296) % 2 = 0 := by omega
  have pb : (b * 2 % 4294967296) % 2 = 0 := by omega
  have qa := xor_parity _ pa
  have qb := xor_parity _ pb
  split at h
  · split at h
    · have := xor_cancel h
      omega
    · rw [h] at qa; omega
  · split at h
    · rw [← h] at qb; omega
    · omega
theorem ticks_inj {n a b : Nat} (ha : a < 4294967296) (hb : b < 4294967296) (h : ticks n a = ticks n b) : a = b := by
  induction n generalizing a b with
  | zero => exact h
  | succ n ih => exact tick_inj ha hb (ih (tick_lt a) (tick_lt b) h)
theorem step_inj {a b x : Nat} (ha : a < 4294967296) (hb : b < 4294967296) (hx : x < 256) (h : step a x = step b x) : a = b :=
  xor_cancel (ticks_inj (into_lt ha hx) (into_lt hb hx) h)
theorem step_byte {c x y : Nat} (hc : c < 4294967296) (hx : x < 256) (hy : y < 256) (h : step c x = step c y) : x = y := by
  have e := ticks_inj (into_lt hc hx) (into_lt hc hy) h
  rw [Nat.xor_comm c, Nat.xor_comm c] at e
  have := xor_cancel e
  omega
theorem more_inj {a b : Nat} (ha : a < 4294967296) (hb : b < 4294967296) (l : List UInt8) (h : more a l = more b l) : a = b := by
  induction l generalizing a b with
  | nil => exact h
  | cons x l ih => exact step_inj ha hb x.toNat_lt (ih (step_lt ha x.toNat_lt) (step_lt hb x.toNat_lt) h)
/-- Texts that are unlike in one byte alone have unlike sums. -/
theorem one_byte {c : Nat} (hc : c < 4294967296) (l r : List UInt8) {x y : UInt8} (h : x ≠ y) : more c (l ++ x :: r) ≠ more c (l ++ y :: r) := by
  intro e
  rw [more_app, more_app] at e
  have hl := more_lt hc l
  have e2 : step (more c l) x.toNat = step (more c l) y.toNat := more_inj (step_lt hl x.toNat_lt) (step_lt hl y.toNat_lt) r e
  exact h (UInt8.toNat_inj.1 (step_byte hl x.toNat_lt y.toNat_lt e2))

/-- The document's own way: the byte's bits one by one, the highest first. -/
def bit (c x i : Nat) : Nat := (x / 2 ^ i % 2) ^^^ (c / 2147483648)
def push (c x i : Nat) : Nat := if bit c x i = 1 then (c * 2 % 4294967296) ^^^ pol else c * 2 % 4294967296
def pushes (c x : Nat) : Nat → Nat
  | 0 => c
  | n + 1 => push (pushes c x n) x (7 - n)

theorem top (c : Nat) (h : c < 4294967296) : c / 2147483648 = (c.testBit 31).toNat := by
  rw [Nat.testBit_eq_decide_div_mod_eq]
  have : c / 2 ^ 31 = c / 2147483648 := rfl
  rw [this]
  by_cases q : c / 2147483648 % 2 = 1
  · simp [q]; omega
  · simp [q]; omega
theorem twice_xor (a b : Nat) : (a ^^^ b) * 2 % 4294967296 = (a * 2 % 4294967296) ^^^ (b * 2 % 4294967296) := by
  have e : ∀ n : Nat, n * 2 % 4294967296 = (n <<< 1) % 2 ^ 32 := fun n => by rw [Nat.shiftLeft_eq]
  rw [e, e, e, Nat.shiftLeft_xor_distrib, Nat.xor_mod_two_pow]
/-- What is left of the byte, on top of the sum. -/
def rest (x n : Nat) : Nat := x * 2 ^ (24 + n) % 4294967296
theorem rest_lt (x n : Nat) : rest x n < 4294967296 := Nat.mod_lt _ (by decide)
theorem rest_next (x n : Nat) : rest x (n + 1) = rest x n * 2 % 4294967296 := by
  unfold rest
  rw [show 24 + (n + 1) = (24 + n) + 1 by omega, Nat.pow_succ, ← Nat.mul_assoc]
  omega
theorem rest_top {x n : Nat} (hn : n < 8) : rest x n / 2147483648 = x / 2 ^ (7 - n) % 2 := by
  unfold rest
  have hn' : n = 0 ∨ n = 1 ∨ n = 2 ∨ n = 3 ∨ n = 4 ∨ n = 5 ∨ n = 6 ∨ n = 7 := by omega
  rcases hn' with rfl | rfl | rfl | rfl | rfl | rfl | rfl | rfl <;> simp <;> omega
theorem rest_end {x : Nat} : rest x 8 = 0 := by
  unfold rest
  simp
theorem xor_top (a b : Nat) : (a ^^^ b) / 2147483648 = (a / 2147483648) ^^^ (b / 2147483648) := by
  have : ∀ n : Nat, n / 2147483648 = n >>> 31 := fun n => by rw [Nat.shiftRight_eq_div_pow]
  rw [this, this, this, Nat.shiftRight_xor_distrib]
theorem pushes_eq {c x : Nat} (hc : c < 4294967296) (hx : x < 256) : ∀ n, n ≤ 8 → pushes c x n ^^^ rest x n = ticks n (c ^^^ (x * 16777216)) ∧ pushes c x n < 4294967296
  | 0, _ => by
    have e : rest x 0 = x * 16777216 := by unfold rest; simp; omega
    exact ⟨by rw [e]; rfl, hc⟩
  | n + 1, hn => by
    obtain ⟨ih, lt⟩ := pushes_eq hc hx n (by omega)
    have hlt2 : push (pushes c x n) x (7 - n) < 4294967296 := by
      unfold push
      split
      · exact Nat.xor_lt_two_pow (n := 32) (Nat.mod_lt _ (by decide)) (by decide)
      · exact Nat.mod_lt _ (by decide)
    refine ⟨?_, hlt2⟩
    have hb : bit (pushes c x n) x (7 - n) = (ticks n (c ^^^ (x * 16777216))) / 2147483648 := by
      rw [← ih, xor_top, rest_top (by omega)]
      unfold bit
      rw [Nat.xor_comm]
    rw [ticks_succ, rest_next]
    show push (pushes c x n) x (7 - n) ^^^ _ = tick _
    unfold push tick
    rw [hb]
    have tw : ticks n (c ^^^ x * 16777216) * 2 % 4294967296 = (pushes c x n * 2 % 4294967296) ^^^ (rest x n * 2 % 4294967296) := by rw [← ih, twice_xor]
    rw [tw]
    split
    · rw [Nat.xor_assoc, Nat.xor_assoc, Nat.xor_comm pol]
    · rfl
theorem pushes_step {c x : Nat} (hc : c < 4294967296) (hx : x < 256) : pushes c x 8 = step c x := by
  have q := (pushes_eq hc hx 8 (by omega)).1
  rw [rest_end, Nat.xor_zero] at q
  exact q
theorem example9 : sum [49, 50, 51, 52, 53, 54, 55, 56, 57] = 58124007 := by decide +kernel
theorem turned (x j : Nat) : x ^^^ 2 ^ j ≠ x := by
  intro h
  have e : x ^^^ (x ^^^ 2 ^ j) = x ^^^ x := congrArg (x ^^^ ·) h
  rw [← Nat.xor_assoc, Nat.xor_self, Nat.zero_xor] at e
  have := Nat.pow_pos (n := j) (show 0 < 2 by decide)
  omega
theorem turned_lt {x j : Nat} (hx : x < 256) (hj : j < 8) : x ^^^ 2 ^ j < 256 := Nat.xor_lt_two_pow (n := 8) hx (Nat.pow_lt_pow_right (by decide) hj)
/-- A text of which one bit is turned has another sum. -/
theorem one_bit {a : List UInt8} {i j : Nat} {x : UInt8} (hx : a[i]? = some x) (hj : j < 8) : sum a ≠ sum (a.set i (UInt8.ofNat (x.toNat ^^^ 2 ^ j))) := by
  have hi : i < a.length := by
    rcases Nat.lt_or_ge i a.length with q | q
    · exact q
    · rw [List.getElem?_eq_none q] at hx; cases hx
  have ex : a[i] = x := by rw [List.getElem?_eq_getElem hi] at hx; injection hx
  have e1 : a = a.take i ++ x :: a.drop (i + 1) := by
    rw [← ex, ← List.drop_eq_getElem_cons hi, List.take_append_drop]
  have e2 : a.set i (UInt8.ofNat (x.toNat ^^^ 2 ^ j)) = a.take i ++ UInt8.ofNat (x.toNat ^^^ 2 ^ j) :: a.drop (i + 1) := List.set_eq_take_append_cons_drop ▸ if_pos hi
  have ne : x ≠ UInt8.ofNat (x.toNat ^^^ 2 ^ j) := by
    intro e
    have := congrArg UInt8.toNat e
    rw [UInt8.toNat_ofNat', Nat.mod_eq_of_lt (turned_lt x.toNat_lt hj)] at this
    exact turned x.toNat j this.symm
  intro e
  rw [e2] at e
  unfold sum at e
  rw [show more 4294967295 a = more 4294967295 (a.take i ++ x :: a.drop (i + 1)) from congrArg _ e1] at e
  exact one_byte (by decide) _ _ ne e
end Crc
end

section
open Go.RowKit

namespace Crc
theorem top_and (t : Nat) (ht : t < 4294967296) : bits .and .u32 (t : Int) 2147483648 = ((t / 2147483648 * 2147483648 : Nat) : Int) := by
  have e := u32_and_nat t 2147483648 ht (by decide)
  rw [nat_bit31, show t / 2147483648 % 2 = t / 2147483648 by omega] at e
  exact e
theorem top_yes {t : Nat} (ht : t < 4294967296) (h : (bits .and .u32 (t : Int) 2147483648 != 0) = true) : bits .xor .u32 ((t : Int) * 2 % 4294967296) 79764919 = (tick t : Int) := by
  rw [top_and t ht] at h
  have h1 : t / 2147483648 = 1 := by
    have : t / 2147483648 ≠ 0 := by
      intro e
      rw [e] at h
      simp at h
    omega
  have e := u32_xor_nat (t * 2 % 4294967296) 79764919 (by omega) (by decide)
  unfold tick
  rw [if_pos h1]
  exact e
theorem top_no {t : Nat} (ht : t < 4294967296) (h : (bits .and .u32 (t : Int) 2147483648 != 0) = false) : (t : Int) * 2 % 4294967296 = (tick t : Int) := by
  rw [top_and t ht] at h
  have h1 : ¬ t / 2147483648 = 1 := by
    intro e
    rw [e] at h
    simp at h
  unfold tick
  rw [if_neg h1]
  rfl
theorem bit_of {c x k : Nat} (hc : c < 4294967296) (hx : x < 256) :
    bits .xor .u32 (bits .and .u32 ((x : Int) / 2 ^ (7 - k) % 4294967296) 1) ((c : Int) / 2147483648) = (bit c x (7 - k) : Int) := by
  have l : x / 2 ^ (7 - k) ≤ x := Nat.div_le_self _ _
  have e0 : (x : Int) / 2 ^ (7 - k) % 4294967296 = ((x / 2 ^ (7 - k) : Nat) : Int) := by
    have q : (x : Int) / 2 ^ (7 - k) = ((x / 2 ^ (7 - k) : Nat) : Int) := by simp
    rw [q]
    generalize x / 2 ^ (7 - k) = y at *
    omega
  have e1 := u32_and_nat (x / 2 ^ (7 - k)) 1 (by omega) (by decide)
  rw [nat_mask1] at e1
  have e2 := u32_xor_nat (x / 2 ^ (7 - k) % 2) (c / 2147483648) (by omega) (by omega)
  rw [e0]
  exact (congrArg (fun z => bits .xor .u32 z ((c : Int) / 2147483648)) e1).trans e2
theorem push_yes {c x k : Nat} (hc : c < 4294967296) (hx : x < 256)
    (h : (bits .xor .u32 (bits .and .u32 ((x : Int) / 2 ^ (7 - k) % 4294967296) 1) ((c : Int) / 2147483648) == 1) = true) : bits .xor .u32 ((c : Int) * 2 % 4294967296) 79764919 = (push c x (7 - k) : Int) := by
  rw [bit_of hc hx] at h
  have h1 : bit c x (7 - k) = 1 := by simp at h; omega
  have e := u32_xor_nat (c * 2 % 4294967296) 79764919 (by omega) (by decide)
  unfold push
  rw [if_pos h1]
  exact e
theorem push_no {c x k : Nat} (hc : c < 4294967296) (hx : x < 256)
    (h : (bits .xor .u32 (bits .and .u32 ((x : Int) / 2 ^ (7 - k) % 4294967296) 1) ((c : Int) / 2147483648) == 1) = false) : (c : Int) * 2 % 4294967296 = (push c x (7 - k) : Int) := by
  rw [bit_of hc hx] at h
  have h1 : ¬ bit c x (7 - k) = 1 := by simp at h; omega
  unfold push
  rw [if_neg h1]
  rfl
theorem pushes_lt {c x k : Nat} (hc : c < 4294967296) (hx : x < 256) (hk : k ≤ 8) : pushes c x k < 4294967296 := (pushes_eq hc hx k hk).2
end Crc

set_option maxHeartbeats 1000000 in
theorem crcStep_c (c x : Nat) (w : World) (hc : c < 4294967296) (hx : x < 256) :
    Calls Tryz.prog 139 #[.int .u32 c, .int .u8 x] w fun e w' => e = .returned (.int .u32 (Crc.step c x : Int)) ∧ w = w' := by
  have h0 := Crc.into_lt hc hx
  go_enter Tryz.func139, Tryz.ntmps139
  go_wp2_with fail
  go_loop [0, 11] (fun v i => ∃ k : Nat, k ≤ 8 ∧ i = .int .i64 k ∧ v = .int .u32 (Crc.ticks k (c ^^^ (x * 16777216)) : Nat)) (fun _ i => 8 - (intOf i).toNat)
  case atStart => exact ⟨0, by omega, rfl, val_u32 (by have e := u32_xor_nat c (x * 16777216) hc (by omega); exact e)⟩
  case round =>
    obtain ⟨k, hk, rfl, rfl⟩ := hrel
    have ht := Crc.ticks_lt (n := k) h0
    by_cases h : k < 8
    · go_wp2
      all_goals go_round
      case rel => exact ⟨k + 1, by omega, by go_num, val_u32 (by rw [Crc.ticks_succ]; exact Crc.top_yes ht (by assumption))⟩
      case measure => simp [intOf]; omega
      case rel => exact ⟨k + 1, by omega, by go_num, val_u32 (by rw [Crc.ticks_succ]; exact Crc.top_no ht (by assumption))⟩
      case measure => simp [intOf]; omega
    · obtain rfl : k = 8 := by omega
      go_wp2
      go_ret
      exact ⟨rfl, rfl⟩

/-- A list of bytes, gone through. -/
theorem take_more (c : Nat) (l : List UInt8) (k : Nat) (h : k < l.length) : Crc.more c (l.take (k + 1)) = Crc.step (Crc.more c (l.take k)) l[k].toNat := by
  rw [take_next (List.getElem?_eq_getElem h), Crc.more_snoc]

set_option maxHeartbeats 1000000 in
theorem crcMore_c (c : Nat) (A : Option Addr) (n cap : Nat) (l : List UInt8) (w : World) {B : Nat} {t : TypeId} (hc : c < 4294967296) (hL : Lies w B t A (bcells l)) (hn : n = l.length) (hs : n ≤ 9223372036854775807) :
    Calls Tryz.prog 132 #[.int .u32 c, .slice A n cap] w fun e w' => e = .returned (.int .u32 (Crc.more c l : Int)) ∧ w = w' := by
  have HL := Lib.hid hL
  have HN := Lib.hid hn
  clear hL hn
  go_enter Tryz.func132, Tryz.ntmps132
  go_wp2_with fail
  go_loop [0, 9] (fun v i => ∃ k : Nat, k ≤ n ∧ i = .int .i64 k ∧ v = .int .u32 (Crc.more c (l.take k) : Nat)) (fun _ i => n - (intOf i).toNat)
  case atStart => exact ⟨0, Nat.zero_le _, rfl, rfl⟩
  case round =>
    obtain ⟨k, hk, rfl, rfl⟩ := hrel
    have ht := Crc.more_lt hc (l.take k)
    by_cases h : k < n
    · have hk' : k < l.length := by rw [← HN.out]; exact h
      obtain ⟨ad, rfl, hcell⟩ := HL.out.byte hk'
      have bl := l[k].toNat_lt
      go_wp2_with (go_at_call 139; refine (crcStep_c _ _ _ (by assumption) (by assumption)).mono ?_; rintro e w' ⟨rfl, rfl⟩)
      go_round
      case rel => exact ⟨k + 1, by omega, by go_num, by rw [take_more c l k hk']⟩
      case measure => simp [intOf]; omega
    · obtain rfl : k = n := by omega
      go_wp2
      go_ret
      exact ⟨ret_u32 (by rw [HN.out, List.take_length]), rfl⟩

set_option maxHeartbeats 1000000 in
theorem crcSum_c (A : Option Addr) (n cap : Nat) (l : List UInt8) (w : World) {B : Nat} {t : TypeId} (hL : Lies w B t A (bcells l)) (hn : n = l.length) (hs : n ≤ 9223372036854775807) :
    Calls Tryz.prog 116 #[.slice A n cap] w fun e w' => e = .returned (.int .u32 (Crc.sum l : Int)) ∧ w = w' := by
  have HL := Lib.hid hL
  have HN := Lib.hid hn
  clear hL hn
  go_enter Tryz.func116, Tryz.ntmps116
  go_wp2_with (go_at_call 132; refine (crcMore_c 4294967295 _ _ _ l _ (by decide) HL.out HN.out hs).mono ?_; rintro e w' ⟨rfl, rfl⟩)
  go_ret
  exact ⟨rfl, rfl⟩

end
end Go.Proofs.YtpnfpeeijghamaaGreat
