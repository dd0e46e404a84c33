/- Contracts of crc.Step, crc.More, crc.Sum, and of the document's own Step and Sum32. -/
import Derived.Test.YtbfkjneidabijaaGreatCc
import Derived.Test.YtbfkjneidabijaaGreatRet
import Derived.Test.YtbfkjneidabijaaGreatMem
import Derived.Test.YtbfkjneidabijaaGreatRows
import Derived.Deep.Slices
import Derived.Laws.ShiftsVarLaws
import Derived.Laws.BitsAllLaws
namespace Go.Proofs.YtbfkjneidabijaaGreat
open Go.RowKit
set_option maxRecDepth 100000

namespace Crc
theorem top_and (t : Nat) (ht : t < 4294967296) : bits .and .u32 (t : Int) 2147483648 = ((t / 2147483648 * 2147483648 : Nat) : Int) := by
  have e := u32_and_nat t 2147483648 ht (by decide)
  rw [nat_bit31, show t / 2147483648 % 2 = t / 2147483648 by omega] at e
  exact e
theorem top_yes {t : Nat} (ht : t < 4294967296) (h : (bits .and .u32 (t : Int) 2147483648 != 0) = true) : bits .xor .u32 ((t : Int) * 2 % 4294967296) 79764919 = (tick t : Int) := by
  rw [top_and t ht] at h
  have h1 : t / 2147483648 = 1 := by
    have : t / 2147483648 ≠ 0 := by
      intro e
      rw [e] at h
      simp at h
    omega
  have e := u32_xor_nat (t * 2 % 4294967296) 79764919 (by omega) (by decide)
  unfold tick
  rw [if_pos h1]
  exact e
theorem top_no {t : Nat} (ht : t < 4294967296) (h : (bits .and .u32 (t : Int) 2147483648 != 0) = false) : (t : Int) * 2 % 4294967296 = (tick t : Int) := by
  rw [top_and t ht] at h
  have h1 : ¬ t / 2147483648 = 1 := by
    intro e
    rw [e] at h
    simp at h
  unfold tick
  rw [if_neg h1]
  rfl
theorem bit_of {c x k : Nat} (hc : c < 4294967296) (hx : x < 256) :
    bits .xor .u32 (bits .and .u32 ((x : Int) / 2 ^ (7 - k) % 4294967296) 1) ((c : Int) / 2147483648) = (bit c x (7 - k) : Int) := by
  have l : x / 2 ^ (7 - k) ≤ x := Nat.div_le_self _ _
  have e0 : (x : Int) / 2 ^ (7 - k) % 4294967296 = ((x / 2 ^ (7 - k) : Nat) : Int) := by
    have q : (x : Int) / 2 ^ (7 - k) = ((x / 2 ^ (7 - k) : Nat) : Int) := by simp
    rw [q]
    generalize x / 2 ^ (7 - k) = y at *
    omega
  have e1 := u32_and_nat (x / 2 ^ (7 - k)) 1 (by omega) (by decide)
  rw [nat_mask1] at e1
  have e2 := u32_xor_nat (x / 2 ^ (7 - k) % 2) (c / 2147483648) (by omega) (by omega)
  rw [e0]
  exact (congrArg (fun z => bits .xor .u32 z ((c : Int) / 2147483648)) e1).trans e2
theorem push_yes {c x k : Nat} (hc : c < 4294967296) (hx : x < 256)
    (h : (bits .xor .u32 (bits .and .u32 ((x : Int) / 2 ^ (7 - k) % 4294967296) 1) ((c : Int) / 2147483648) == 1) = true) : bits .xor .u32 ((c : Int) * 2 % 4294967296) 79764919 = (push c x (7 - k) : Int) := by
  rw [bit_of hc hx] at h
  have h1 : bit c x (7 - k) = 1 := by simp at h; omega
  have e := u32_xor_nat (c * 2 % 4294967296) 79764919 (by omega) (by decide)
  unfold push
  rw [if_pos h1]
  exact e
theorem push_no {c x k : Nat} (hc : c < 4294967296) (hx : x < 256)
    (h : (bits .xor .u32 (bits .and .u32 ((x : Int) / 2 ^ (7 - k) % 4294967296) 1) ((c : Int) / 2147483648) == 1) = false) : (c : Int) * 2 % 4294967296 = (push c x (7 - k) : Int) := by
  rw [bit_of hc hx] at h
  have h1 : ¬ bit c x (7 - k) = 1 := by simp at h; omega
  unfold push
  rw [if_neg h1]
  rfl
theorem pushes_lt {c x k : Nat} (hc : c < 4294967296) (hx : x < 256) (hk : k ≤ 8) : pushes c x k < 4294967296 := (pushes_eq hc hx k hk).2
end Crc

set_option maxHeartbeats 1000000 in
theorem crcStep_c (c x : Nat) (w : World) (hc : c < 4294967296) (hx : x < 256) :
    Calls Tryz.prog 109 #[.int .u32 c, .int .u8 x] w fun e w' => e = .returned (.int .u32 (Crc.step c x : Int)) ∧ w = w' := by
  have h0 := Crc.into_lt hc hx
  go_enter Tryz.func109, Tryz.ntmps109
  go_wp2_with fail
  go_loop [0, 11] (fun v i => ∃ k : Nat, k ≤ 8 ∧ i = .int .i64 k ∧ v = .int .u32 (Crc.ticks k (c ^^^ (x * 16777216)) : Nat)) (fun _ i => 8 - (intOf i).toNat)
  case atStart => exact ⟨0, by omega, rfl, val_u32 (by have e := u32_xor_nat c (x * 16777216) hc (by omega); exact e)⟩
  case round =>
    obtain ⟨k, hk, rfl, rfl⟩ := hrel
    have ht := Crc.ticks_lt (n := k) h0
    by_cases h : k < 8
    · go_wp2
      all_goals go_round
      case rel => exact ⟨k + 1, by omega, by go_num, val_u32 (by rw [Crc.ticks_succ]; exact Crc.top_yes ht (by assumption))⟩
      case measure => simp [intOf]; omega
      case rel => exact ⟨k + 1, by omega, by go_num, val_u32 (by rw [Crc.ticks_succ]; exact Crc.top_no ht (by assumption))⟩
      case measure => simp [intOf]; omega
    · obtain rfl : k = 8 := by omega
      go_wp2
      go_ret
      exact ⟨rfl, rfl⟩

set_option maxHeartbeats 1000000 in
theorem refStep32_c (c x : Nat) (w : World) (hc : c < 4294967296) (hx : x < 256) :
    Calls Tryz.prog 101 #[.int .u32 c, .int .u8 x] w fun e w' => e = .returned (.int .u32 (Crc.step c x : Int)) ∧ w = w' := by
  go_enter Tryz.func101, Tryz.ntmps101
  go_wp2_with fail
  go_loop [0, 5] (fun v i => ∃ k : Nat, k ≤ 8 ∧ i = .int .i64 (7 - (k : Int)) ∧ v = .int .u32 (Crc.pushes c x k : Nat)) (fun _ i => (intOf i + 1).toNat)
  case atStart => exact ⟨0, by omega, rfl, rfl⟩
  case round =>
    obtain ⟨k, hk, rfl, rfl⟩ := hrel
    have ht := Crc.pushes_lt hc hx hk
    by_cases h : k < 8
    · go_wp2
      all_goals go_round
      case rel => exact ⟨k + 1, by omega, by go_num, val_u32 (by exact Crc.push_yes ht hx (by assumption))⟩
      case measure => simp [intOf]; omega
      case rel => exact ⟨k + 1, by omega, by go_num, val_u32 (by exact Crc.push_no ht hx (by assumption))⟩
      case measure => simp [intOf]; omega
    · obtain rfl : k = 8 := by omega
      have E := Lib.hid (Crc.pushes_step hc hx)
      go_wp2
      go_ret
      exact ⟨ret_u32 (by rw [E.out]), rfl⟩

/-- A list of bytes, gone through. -/
theorem take_more (c : Nat) (l : List UInt8) (k : Nat) (h : k < l.length) : Crc.more c (l.take (k + 1)) = Crc.step (Crc.more c (l.take k)) l[k].toNat := by
  rw [take_next (List.getElem?_eq_getElem h), Crc.more_snoc]

set_option maxHeartbeats 1000000 in
theorem crcMore_c (c : Nat) (A : Option Addr) (n cap : Nat) (l : List UInt8) (w : World) {B : Nat} {t : TypeId} (hc : c < 4294967296) (hL : Lies w B t A (bcells l)) (hn : n = l.length) (hs : n ≤ 9223372036854775807) :
    Calls Tryz.prog 105 #[.int .u32 c, .slice A n cap] w fun e w' => e = .returned (.int .u32 (Crc.more c l : Int)) ∧ w = w' := by
  have HL := Lib.hid hL
  have HN := Lib.hid hn
  clear hL hn
  go_enter Tryz.func105, Tryz.ntmps105
  go_wp2_with fail
  go_loop [0, 9] (fun v i => ∃ k : Nat, k ≤ n ∧ i = .int .i64 k ∧ v = .int .u32 (Crc.more c (l.take k) : Nat)) (fun _ i => n - (intOf i).toNat)
  case atStart => exact ⟨0, Nat.zero_le _, rfl, rfl⟩
  case round =>
    obtain ⟨k, hk, rfl, rfl⟩ := hrel
    have ht := Crc.more_lt hc (l.take k)
    by_cases h : k < n
    · have hk' : k < l.length := by rw [← HN.out]; exact h
      obtain ⟨ad, rfl, hcell⟩ := HL.out.byte hk'
      have bl := l[k].toNat_lt
      go_wp2_with (go_at_call 109; refine (crcStep_c _ _ _ (by assumption) (by assumption)).mono ?_; rintro e w' ⟨rfl, rfl⟩)
      go_round
      case rel => exact ⟨k + 1, by omega, by go_num, by rw [take_more c l k hk']⟩
      case measure => simp [intOf]; omega
    · obtain rfl : k = n := by omega
      go_wp2
      go_ret
      exact ⟨ret_u32 (by rw [HN.out, List.take_length]), rfl⟩

set_option maxHeartbeats 1000000 in
theorem crcSum_c (A : Option Addr) (n cap : Nat) (l : List UInt8) (w : World) {B : Nat} {t : TypeId} (hL : Lies w B t A (bcells l)) (hn : n = l.length) (hs : n ≤ 9223372036854775807) :
    Calls Tryz.prog 89 #[.slice A n cap] w fun e w' => e = .returned (.int .u32 (Crc.sum l : Int)) ∧ w = w' := by
  have HL := Lib.hid hL
  have HN := Lib.hid hn
  clear hL hn
  go_enter Tryz.func89, Tryz.ntmps89
  go_wp2_with (go_at_call 105; refine (crcMore_c 4294967295 _ _ _ l _ (by decide) HL.out HN.out hs).mono ?_; rintro e w' ⟨rfl, rfl⟩)
  go_ret
  exact ⟨rfl, rfl⟩

set_option maxHeartbeats 1000000 in
theorem refSum32_c (A : Option Addr) (n cap : Nat) (l : List UInt8) (w : World) {B : Nat} {t : TypeId} (hL : Lies w B t A (bcells l)) (hn : n = l.length) (hs : n ≤ 9223372036854775807) :
    Calls Tryz.prog 84 #[.slice A n cap] w fun e w' => e = .returned (.int .u32 (Crc.sum l : Int)) ∧ w = w' := by
  have HL := Lib.hid hL
  have HN := Lib.hid hn
  clear hL hn
  go_enter Tryz.func84, Tryz.ntmps84
  go_wp2_with fail
  go_loop [3, 8] (fun v i => ∃ k : Nat, k ≤ n ∧ i = .int .i64 k ∧ v = .int .u32 (Crc.more 4294967295 (l.take k) : Nat)) (fun _ i => n - (intOf i).toNat)
  case atStart => exact ⟨0, Nat.zero_le _, rfl, rfl⟩
  case round =>
    obtain ⟨k, hk, rfl, rfl⟩ := hrel
    have ht := Crc.more_lt (c := 4294967295) (by decide) (l.take k)
    by_cases h : k < n
    · have hk' : k < l.length := by rw [← HN.out]; exact h
      obtain ⟨ad, rfl, hcell⟩ := HL.out.byte hk'
      have bl := l[k].toNat_lt
      go_wp2_with (go_at_call 101; refine (refStep32_c _ _ _ (by assumption) (by assumption)).mono ?_; rintro e w' ⟨rfl, rfl⟩)
      go_round
      case rel => exact ⟨k + 1, by omega, by go_num, by rw [take_more 4294967295 l k hk']⟩
      case measure => simp [intOf]; omega
    · obtain rfl : k = n := by omega
      go_wp2
      go_ret
      exact ⟨ret_u32 (by rw [HN.out, List.take_length]; rfl), rfl⟩
end Go.Proofs.YtbfkjneidabijaaGreat
