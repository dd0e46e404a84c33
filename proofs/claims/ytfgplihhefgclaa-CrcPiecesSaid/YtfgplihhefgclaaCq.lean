/- The laws of crc: the sum by definition, in pieces, of a text of which one bit is turned: the walks. -/
import Derived.Test.YtfgplihhefgclaaCs
import Derived.RegionTactic
import Derived.IntWalk
import Derived.Lib.SlBytesConst
namespace Go.Proofs.Ytfgplihhefgclaa
open Go.RowKit

theorem Try.infoByte : (Try.prog.info? 5).map (fun i => (i.zero, i.size, i.bytes)) = some (some (.int .u8 0), 1, 1) := by kernel_rfl

set_option maxHeartbeats 1000000 in
theorem awake3_c (w : World) :
    Calls Try.prog 6 #[] w fun e w' => e = .returned (.bool true) ∧ Below w.heap.size w w' := by
  have hL := Lies.of_blk (B := 0) (heap_alloc_new w (.cells (bcells [49, 50, 51, 52, 53, 54, 55, 56, 57]).toArray 5 (9, 10)))
  have HL := Lib.hid hL
  clear hL
  have E := Lib.hid Crc.example9
  have kc := fun (w : World) (C : Array Value) (n c : Nat) => Lib.run_convert_bytes_const (P := Try.prog) w 23 5 C n c Try.underlying23 Try.underlying5
  go_enter Try.func6, Try.ntmps6
  go_wp2_with (go_at_call 9; refine (crcSum_c _ _ _ [49, 50, 51, 52, 53, 54, 55, 56, 57] _ HL.out rfl (by decide)).mono ?_; rintro e w' ⟨rfl, rfl⟩)
  go_ret
  exact ⟨ret_bool (by rw [E.out]; rfl), (Below.refl _ _).alloc (Nat.le_refl _) _⟩

set_option maxHeartbeats 2000000 in
theorem crcSums_c (c x : Nat) (A : Option Addr) (n cap : Nat) (l : List UInt8) (w : World) (hc : c < 4294967296) (hx : x < 256) (h0 : Lies w w.heap.size 0 A (bcells l)) (hn : n = l.length) :
    Calls Try.prog 3 #[.int .u32 c, .int .u8 x, .slice A n cap] w fun e w' => e = .returned (.bool true) ∧ Below w.heap.size w w' := by
  have H0 := Lib.hid h0
  have HN := Lib.hid hn
  clear h0 hn
  by_cases big : 500 < n
  · go_enter Try.func3, Try.ntmps3
    go_wp2_with (go_at_call 6; refine (awake3_c _).mono ?_; rintro e w1 ⟨rfl, hb1⟩; have HB1 := Lib.hid hb1; clear hb1)
    go_ret
    exact ⟨rfl, HB1.out⟩
  · go_enter Try.func3, Try.ntmps3
    go_wp2_with (go_at_call 6; refine (awake3_c _).mono ?_; rintro e w1 ⟨rfl, hb1⟩; have HB1 := Lib.hid hb1; clear hb1)
    refine (crcStep_c _ _ _ hc hx).mono ?_
    rintro e w' ⟨rfl, rfl⟩
    go_wp2_with (first
      | (go_at_call 8; refine (refStep32_c _ _ _ hc hx).mono ?_; rintro e w' ⟨rfl, rfl⟩)
      | (go_at_call 9; refine (crcSum_c _ _ _ l _ (H0.out.below (Nat.le_refl _) HB1.out) HN.out (by omega)).mono ?_; rintro e w' ⟨rfl, rfl⟩)
      | (go_at_call 10; refine (refSum32_c _ _ _ l _ (H0.out.below (Nat.le_refl _) HB1.out) HN.out (by omega)).mono ?_; rintro e w' ⟨rfl, rfl⟩))
    go_ret
    exact ⟨rfl, HB1.out⟩

set_option maxHeartbeats 2000000 in
theorem crcPieces_c (c : Nat) (A A2 : Option Addr) (n cap n2 cap2 : Nat) (l m : List UInt8) (w : World) (hc : c < 4294967296) (h0 : Lies w w.heap.size 0 A (bcells l)) (hn : n = l.length) (h2 : Lies w w.heap.size 0 A2 (bcells m)) (hn2 : n2 = m.length) :
    Calls Try.prog 4 #[.int .u32 c, .slice A n cap, .slice A2 n2 cap2] w fun e w' => e = .returned (.bool true) ∧ Below w.heap.size w w' := by
  have H0 := Lib.hid h0
  have HN := Lib.hid hn
  have H2 := Lib.hid h2
  have HN2 := Lib.hid hn2
  clear h0 hn h2 hn2
  obtain ⟨ti, hi, iz0, iz1, iz2⟩ := info_parts Try.infoByte
  by_cases big : 500 < n ∨ 500 < n2
  · rcases big with big | big
    all_goals
      go_enter Try.func4, Try.ntmps4
      go_wp2_with (go_at_call 6; refine (awake3_c _).mono ?_; rintro e w1 ⟨rfl, hb1⟩; have HB1 := Lib.hid hb1; clear hb1)
    all_goals first
      | (go_ret; exact ⟨rfl, HB1.out⟩)
      | (exfalso; omega)
  · have b0 : n ≤ 500 := by omega
    have b1 : n2 ≤ 500 := by omega
    clear big
    go_enter Try.func4, Try.ntmps4
    go_wp2_with (go_at_call 6; refine (awake3_c _).mono ?_; rintro e w1 ⟨rfl, hb1⟩; have HB1 := Lib.hid hb1; have hz := hb1.size; clear hb1)
    refine (crcMore_c c _ _ _ l _ hc (H0.out.below (Nat.le_refl _) HB1.out) HN.out (by omega)).mono ?_
    rintro e w' ⟨rfl, rfl⟩
    have hm := Crc.more_lt hc l
    go_wp2_with fail
    refine (crcMore_c _ _ _ _ m _ hm (H2.out.below (Nat.le_refl _) HB1.out) HN2.out (by omega)).mono ?_
    rintro e w' ⟨rfl, rfl⟩
    go_wp2_with (at_builtin; refine wpList_app _ rfl _ _ 23 rfl w.heap.size 5 ti (.int .u8 0) 1 1 Try.underlying23 hi iz0 iz1 iz2 rfl (by decide) _ 0 [] rfl (World.ownsRow_nil _ _ _ _) w.heap.size A n cap (bcells l) 0 rfl (by rw [bcells_len, HN.out]; omega) (H0.out.below (Nat.le_refl _) HB1.out) (bcells_one _) (by unfold maxLen; omega) (by omega) hz ?_)
    intro v' w2 hown hgrow _
    obtain ⟨A1, k1, rfl⟩ := own_slice hown
    have HB2 := Lib.hid (HB1.out.trans (app_below0 (B := w.heap.size) (World.ownsRow_nil _ _ 5 1) hgrow hz))
    have hz2 := HB2.out.size
    have O1 := Lib.hid hown
    clear hown hgrow
    go_wp2_with (at_builtin; refine wpList_app _ rfl _ _ 23 rfl w.heap.size 5 ti (.int .u8 0) 1 1 Try.underlying23 hi iz0 iz1 iz2 rfl (by decide) _ n (bcells l) rfl O1.out w.heap.size A2 n2 cap2 (bcells m) 0 rfl (by rw [bcells_len, HN2.out]; omega) (H2.out.below (Nat.le_refl _) HB2.out) (bcells_one _) (by unfold maxLen; omega) (by omega) hz2 ?_)
    intro v' w3 hown hgrow _
    obtain ⟨A2', k2, rfl⟩ := own_slice hown
    have HB3 := Lib.hid (HB2.out.trans (app_below0 (B := w.heap.size) O1.out hgrow hz2))
    have O2 := Lib.hid hown
    clear hown hgrow
    have ol := O2.out
    rw [← bcells_app] at ol
    have OL := Lib.hid (Lies.of_own (B := 0) ol)
    clear ol
    go_wp2_with fail
    refine (crcMore_c c _ _ _ (l ++ m) _ hc OL.out (by rw [List.length_append, ← HN.out, ← HN2.out]) (by omega)).mono ?_
    rintro e w' ⟨rfl, rfl⟩
    have E := Lib.hid (Crc.more_app c l m)
    go_wp2
    go_ret
    exact ⟨ret_bool (by rw [E.out]; simp), HB3.out⟩

theorem turn_val (x : UInt8) {r : Nat} (hr : r < 8) : bits .xor .u8 (x.toNat : Int) (2 ^ r % 256) = ((UInt8.ofNat (x.toNat ^^^ 2 ^ r)).toNat : Int) := by
  have bl := x.toNat_lt
  have h1 := Crc.turned_lt bl hr
  have h2 : (2 : Nat) ^ r < 256 := Nat.pow_lt_pow_right (a := 2) (by decide) hr
  have e0 : ((2 : Int) ^ r % 256) = ((2 ^ r : Nat) : Int) := by
    have q : ((2 : Int) ^ r) = ((2 ^ r : Nat) : Int) := by simp
    rw [q]
    generalize 2 ^ r = y at *
    omega
  rw [e0, u8_xor_nat x.toNat (2 ^ r) bl h2, UInt8.toNat_ofNat', Nat.mod_eq_of_lt h1]
theorem set_bcell (l : List UInt8) (q : Nat) (y : UInt8) : (bcells l).set q (.int .u8 (y.toNat : Int)) = bcells (l.set q y) := by
  unfold bcells
  rw [List.map_set]
  rfl

set_option maxHeartbeats 2000000 in
set_option maxRecDepth 100000 in
theorem crcBits_c (A : Option Addr) (n cap : Nat) (l : List UInt8) (i : Int) (w : World) (h0 : Lies w w.heap.size 0 A (bcells l)) (hn : n = l.length) (i0 : -9223372036854775808 ≤ i) (i1 : i < 9223372036854775808) :
    Calls Try.prog 5 #[.slice A n cap, .int .i64 i] w fun e w' => e = .returned (.bool true) ∧ Below w.heap.size w w' := by
  have H0 := Lib.hid h0
  have HN := Lib.hid hn
  clear h0 hn
  obtain ⟨ti, hi, iz0, iz1, iz2⟩ := info_parts Try.infoByte
  by_cases big : 500 < n ∨ i < 0 ∨ 8 * (n : Int) ≤ i
  · rcases big with big | big | big
    all_goals
      go_enter Try.func5, Try.ntmps5
      go_wp2_with (go_at_call 6; refine (awake3_c _).mono ?_; rintro e w1 ⟨rfl, hb1⟩; have HB1 := Lib.hid hb1; clear hb1)
    all_goals first
      | (go_ret; exact ⟨rfl, HB1.out⟩)
      | (exfalso; omega)
  · obtain ⟨k, rfl⟩ := Int.eq_ofNat_of_zero_le (show 0 ≤ i by omega)
    have b0 : n ≤ 500 := by omega
    have b1 : (k : Int) < 8 * (n : Int) := by omega
    clear big i0 i1
    go_enter Try.func5, Try.ntmps5
    go_wp2_with (first | (go_at_call 6; refine (awake3_c _).mono ?_; rintro e w1 ⟨rfl, hb1⟩; have HB1 := Lib.hid hb1; have hz := hb1.size; clear hb1) | (at_builtin; refine wpList_app _ rfl _ _ 23 rfl w.heap.size 5 ti (.int .u8 0) 1 1 Try.underlying23 hi iz0 iz1 iz2 rfl (by decide) _ 0 [] rfl (World.ownsRow_nil _ _ _ _) w.heap.size A n cap (bcells l) 0 rfl (by rw [bcells_len, HN.out]; omega) (H0.out.below (Nat.le_refl _) HB1.out) (bcells_one _) (by unfold maxLen; omega) (by omega) hz ?_))
    intro v' w2 hown hgrow _
    obtain ⟨A1, k1, rfl⟩ := own_slice hown
    have hn0 : 0 < n := by omega
    obtain ⟨g, cp, hv, hbg, hglt⟩ := hown.form hn0
    injection hv with hv1 hv2 hv3
    subst hv1
    have hq : ((k / 8 : Nat) : Int) < n := by omega
    have hq0 : k / 8 < l.length := by rw [← HN.out]; omega
    have d1 : (k : Int) / 8 = ((k / 8 : Nat) : Int) := by omega
    have d2 : (k : Int) % 8 = ((k % 8 : Nat) : Int) := by omega
    have hr : ((k % 8 : Nat) : Int) < 8 := by omega
    have hcell := hown.cellAt (k / 8) (by omega)
    have hfrz := hown.frozenAt (k / 8)
    obtain ⟨x, hx⟩ : ∃ x, l[k / 8]? = some x := ⟨_, List.getElem?_eq_getElem hq0⟩
    have e1 : (bcells l)[k / 8]? = some (.int .u8 (x.toNat : Int)) := by
      rw [bcells, List.getElem?_map, hx]
      rfl
    rw [e1] at hcell
    have O1 := Lib.hid hown
    have HB2 := Lib.hid (HB1.out.trans (app_below0 (B := w.heap.size) (World.ownsRow_nil _ _ 5 1) hgrow hz))
    have HX := Lib.hid hx
    have bl := x.toNat_lt
    clear e1 hown hgrow hv2 hv3 hq0 hx
    generalize k / 8 = q at *
    have d3 : (k : Int).tmod 8 = ((k % 8 : Nat) : Int) := by rw [Int.tmod_eq_emod_of_nonneg (by omega)]; exact d2
    have hr' : k % 8 < 8 := Nat.mod_lt _ (by decide)
    generalize k % 8 = r at *
    have wq : IntKind.i64.wrap (q : Int) = q := IntWalk.i64_in _ (by omega)
    have wr : IntKind.i64.wrap (r : Int) = r := IntWalk.i64_in _ (by omega)
    go_wp2_with fail
    go_region
    clear d1 d2 d3 wq wr
    have tv := turn_val x hr'
    have ne := Crc.one_bit HX.out hr'
    generalize UInt8.ofNat (x.toNat ^^^ 2 ^ r) = y at tv ne
    have NE := Lib.hid ne
    clear ne
    have HB3 := Lib.hid ((HB2.out.setCell (p := ⟨g, q, none⟩) hbg (.int .u8 (bits .xor .u8 (x.toNat : Int) (2 ^ r % 256)))).drew)
    have ob := Lies.of_own (B := 0) (O1.out.stored q (.int .u8 (bits .xor .u8 (x.toNat : Int) (2 ^ r % 256)))).1
    rw [tv, set_bcell] at ob
    have OB := Lib.hid ob
    rw [tv] at HB3
    clear ob hcell hfrz
    rw [tv]
    clear tv
    have hl : n = (l.set q y).length := by rw [List.length_set]; exact HN.out
    have HL := Lib.hid hl
    clear hl
    go_wp2_with fail
    refine (crcSum_c _ _ _ l _ (H0.out.below (Nat.le_refl _) HB3.out) HN.out (by omega)).mono ?_
    rintro e w' ⟨rfl, rfl⟩
    go_wp2_with fail
    refine (crcSum_c _ _ _ (l.set q y) _ (B := 0) (t := 5) OB.out.drew HL.out (by omega)).mono ?_
    rintro e w' ⟨rfl, rfl⟩
    go_wp2
    go_ret
    exact ⟨ret_bool (by have := NE.out; simp; omega), HB3.out⟩
end Go.Proofs.Ytfgplihhefgclaa
