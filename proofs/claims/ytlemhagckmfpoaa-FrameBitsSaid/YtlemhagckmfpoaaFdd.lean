/- The law FrameBits: a frame of which one bit is turned is none. Every input, no condition: the walk. -/
import Derived.Test.YtlemhagckmfpoaaFq
namespace Go.Proofs.Ytlemhagckmfpoaa
open Go.RowKit

theorem Fr.bit_only {b : List UInt8} {i j : Nat} {x : UInt8} (hx : (Fr.frame b)[i]? = some x) (hj : j < 8) : Fr.onlyErr ((Fr.frame b).set i (UInt8.ofNat (x.toNat ^^^ 2 ^ j))) = 40 ∧ Fr.onlyB ((Fr.frame b).set i (UInt8.ofNat (x.toNat ^^^ 2 ^ j))) = [] := by
  cases hu : Fr.unf ((Fr.frame b).set i (UInt8.ofNat (x.toNat ^^^ 2 ^ j))) with
  | none => exact Fr.only_none hu
  | some d => exact Fr.only_long hu (Fr.bit hx hj hu)
theorem turn_val4 (x : UInt8) {r : Nat} (hr : r < 8) : bits .xor .u8 (x.toNat : Int) (2 ^ r % 256) = ((UInt8.ofNat (x.toNat ^^^ 2 ^ r)).toNat : Int) := by
  have bl := x.toNat_lt
  have h1 := Crc.turned_lt bl hr
  have h2 : (2 : Nat) ^ r < 256 := Nat.pow_lt_pow_right (a := 2) (by decide) hr
  have e0 : ((2 : Int) ^ r % 256) = ((2 ^ r : Nat) : Int) := by
    have q : ((2 : Int) ^ r) = ((2 ^ r : Nat) : Int) := by simp
    rw [q]
    generalize 2 ^ r = y at *
    omega
  rw [e0, u8_xor_nat x.toNat (2 ^ r) bl h2, UInt8.toNat_ofNat', Nat.mod_eq_of_lt h1]
theorem set_bcell4 (l : List UInt8) (q : Nat) (y : UInt8) : (bcells l).set q (.int .u8 (y.toNat : Int)) = bcells (l.set q y) := by
  unfold bcells
  rw [List.map_set]
  rfl

set_option maxHeartbeats 4000000 in
set_option maxRecDepth 100000 in
theorem frameBits_c {A : Option Addr} {n cap : Nat} {b : List UInt8} {i : Int} {w : World} (h0 : Lies w w.heap.size 0 A (bcells b)) (hn : n = b.length) (i0 : -9223372036854775808 ≤ i) (i1 : i < 9223372036854775808) :
    Calls Try.prog 6 #[.slice A n cap, .int .i64 i] w fun e w' => e = .returned (.bool true) ∧ Below w.heap.size w w' := by
  have H0 := Lib.hid h0
  have HN := Lib.hid hn
  clear h0 hn
  by_cases big : 300 < n
  · go_enter Try.func6, Try.ntmps6
    go_wp2_with (go_at_call 7; refine (awake4_c _).mono ?_; rintro e w1 ⟨rfl, hb1⟩; have HB1 := Lib.hid hb1; clear hb1)
    go_ret
    exact ⟨rfl, HB1.out⟩
  · have b0 : n ≤ 300 := by omega
    have I0 := Lib.hid i0
    have I1 := Lib.hid i1
    by_cases big2 : i < 0 ∨ 8 * (7 + (n : Int)) ≤ i
    · rcases big2 with big2 | big2
      all_goals
        clear i0 i1
        go_enter Try.func6, Try.ntmps6
        go_wp2_with (go_at_call 7; refine (awake4_c _).mono ?_; rintro e w1 ⟨rfl, hb1⟩; have HB1 := Lib.hid hb1; have hz1 := hb1.size; clear hb1)
        refine (fput_ok (H0.out.below (Nat.le_refl _) HB1.out) HN.out (by omega)).mono ?_
        rintro e w2 ⟨Ax, nx, cx, rfl, hnx, _, _, hb2⟩
        rw [Fr.frame_len, ← HN.out] at hnx
        have HB2 := Lib.hid (HB1.out.trans (hb2.mono hz1))
        subst hnx
        clear hb2
        go_wp2
      all_goals first
        | (go_ret; exact ⟨rfl, HB2.out⟩)
        | (exfalso; omega)
    · obtain ⟨k, rfl⟩ := Int.eq_ofNat_of_zero_le (show 0 ≤ i by omega)
      have b1 : (k : Int) < 8 * (7 + (n : Int)) := by omega
      have k0 : (0 : Int) ≤ (k : Int) := by omega
      clear big big2 i0 i1 I0 I1
      go_enter Try.func6, Try.ntmps6
      go_wp2_with (go_at_call 7; refine (awake4_c _).mono ?_; rintro e w1 ⟨rfl, hb1⟩; have HB1 := Lib.hid hb1; have hz1 := hb1.size; clear hb1)
      refine (fput_ok (H0.out.below (Nat.le_refl _) HB1.out) HN.out (by omega)).mono ?_
      rintro e w2 ⟨Ax, nx, cx, rfl, hnx, hcx, hox, hb2⟩
      rw [Fr.frame_len, ← HN.out] at hnx
      subst hnx
      have HB2 := Lib.hid (HB1.out.trans (hb2.mono hz1))
      obtain ⟨g, rfl, hbg, hglt, hcells, hfrzs⟩ := own_at hox (by omega)
      have hq : ((k / 8 : Nat) : Int) < ((7 + n : Nat) : Int) := by omega
      have hql : k / 8 < (Fr.frame b).length := by rw [Fr.frame_len, ← HN.out]; omega
      have d1 : (k : Int) / 8 = ((k / 8 : Nat) : Int) := by omega
      have d2 : (k : Int) % 8 = ((k % 8 : Nat) : Int) := by omega
      have d3 : (k : Int).tmod 8 = ((k % 8 : Nat) : Int) := by rw [Int.tmod_eq_emod_of_nonneg (by omega)]; exact d2
      have hr' : k % 8 < 8 := Nat.mod_lt _ (by decide)
      have hr : ((k % 8 : Nat) : Int) < 8 := by omega
      obtain ⟨x, hx⟩ : ∃ x, (Fr.frame b)[k / 8]? = some x := ⟨_, List.getElem?_eq_getElem hql⟩
      have hcell := hcells (k / 8) (.int .u8 (x.toNat : Int)) (by rw [bcells, List.getElem?_map, hx]; rfl)
      have hfrz := hfrzs (k / 8)
      have O1 := Lib.hid hox
      have HX := Lib.hid hx
      have HC := Lib.hid hcx
      have HG := Lib.hid (show w.heap.size ≤ g by omega)
      have bl := x.toNat_lt
      clear hcells hfrzs hox hx hb2 hql hcx
      generalize k / 8 = q at *
      generalize k % 8 = r at *
      have wq : IntKind.i64.wrap (q : Int) = q := IntWalk.i64_in _ (by omega)
      have wr : IntKind.i64.wrap (r : Int) = r := IntWalk.i64_in _ (by omega)
      have q7 : (q : Int) < 7 + (n : Int) := by omega
      go_wp2_with fail
      go_region
      clear d1 d2 d3 wq wr
      have tv := turn_val4 x hr'
      have bo := Fr.bit_only HX.out hr'
      generalize UInt8.ofNat (x.toNat ^^^ 2 ^ r) = y at tv bo
      have HB3 := Lib.hid ((HB2.out.setCell (p := ⟨g, q, none⟩) HG.out (.int .u8 (bits .xor .u8 (x.toNat : Int) (2 ^ r % 256)))).drew)
      have ob := lies_own (B := 0) (O1.out.stored q (.int .u8 (bits .xor .u8 (x.toNat : Int) (2 ^ r % 256)))).1
      rw [tv, set_bcell4] at ob
      rw [tv] at HB3
      have OB := Lib.hid ob
      have BO := Lib.hid bo
      have HL := Lib.hid (show 7 + n = ((Fr.frame b).set q y).length by rw [List.length_set, Fr.frame_len, HN.out])
      have hz3 := HB3.out.size
      clear ob hcell hfrz bo
      rw [tv]
      clear tv
      go_wp2_with fail
      refine (fonly_c (l := (Fr.frame b).set q y) (B := 0) (t := 5) OB.out.drew HL.out HC.out (by omega)).mono ?_
      rw [BO.out.1, BO.out.2]
      rintro e w4 ⟨A4, n4, c4, rfl, _, _, _, hb4⟩
      have HB4 := Lib.hid (HB3.out.trans (hb4.mono hz3))
      clear hb4
      go_wp2
      go_ret
      exact ⟨rfl, HB4.out⟩
end Go.Proofs.Ytlemhagckmfpoaa
