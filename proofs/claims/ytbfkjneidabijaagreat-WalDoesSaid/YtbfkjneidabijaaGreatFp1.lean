/- Contracts of frame.sum, bytes.Clone, bytes.Equal, frame.size, frame.Put. -/
import Derived.Test.YtbfkjneidabijaaGreatFr
import Derived.Deep.RegionHeld3
import Derived.IntWalk
import Derived.WalkSpells
namespace Go.Proofs.YtbfkjneidabijaaGreat
open Go.RowKit
set_option maxRecDepth 100000

theorem i64_or_nat (a b : Nat) (ha : a < 9223372036854775808) (hb : b < 9223372036854775808) : bits .or .i64 (a : Int) (b : Int) = ((a ||| b : Nat) : Int) := by
  have hx : a ||| b < 2 ^ 63 := Nat.or_lt_two_pow (by omega) (by omega)
  show IntKind.i64.wrap ((BitVec.ofInt 64 (a : Int) ||| BitVec.ofInt 64 (b : Int)).toNat : Int) = _
  rw [BitVec.toNat_or, BitVec.ofInt_natCast, BitVec.ofInt_natCast, BitVec.toNat_ofNat, BitVec.toNat_ofNat, Nat.mod_eq_of_lt (by omega), Nat.mod_eq_of_lt (by omega)]
  exact IntWalk.i64_in _ (by omega)
theorem or_two (x y : UInt8) : bits .or .i64 ((x.toNat : Int) * 256) (y.toNat : Int) = (x.toNat : Int) * 256 + (y.toNat : Int) := by
  have hx := x.toNat_lt
  have hy := y.toNat_lt
  have e := i64_or_nat (x.toNat * 256) y.toNat (by omega) (by omega)
  have q := Nat.two_pow_add_eq_or_of_lt (i := 8) (b := y.toNat) hy x.toNat
  rw [show 2 ^ 8 * x.toNat = x.toNat * 256 by omega] at q
  rw [← q] at e
  exact e

/-- Cells that were laid just now, as a row of bytes. -/
theorem row_cells {w : World} {B k : Nat} {cs : Array Value} {l : List UInt8} (hB : B ≤ w.heap.size) (h : cs.toList = bcells l) (hk : l.length = k) (hl : k ≤ maxLen) :
    (w.alloc (.cells cs 5)).ownsRow B 5 1 (.slice (some ⟨w.heap.size, 0, none⟩) k k) l.length (bcells l) := by
  have hs : cs.size = k * 1 := by rw [Nat.mul_one, ← Array.length_toList, h, bcells_len, hk]
  have q := World.ownsRow_lit (base := B) (e := 5) (size := 1) w cs k hB hl hs
  rw [h] at q
  rw [hk]
  exact q
theorem sum_cells {s : Nat} (h : s < 4294967296) : [Value.int .u8 ((s : Int) / 16777216), .int .u8 ((s : Int) / 65536 % 256), .int .u8 ((s : Int) / 256 % 256), .int .u8 ((s : Int) % 256)] = bcells (Cd.fix s 4) := by
  have e : Cd.fix s 4 = [Cd.byt s 3, Cd.byt s 2, Cd.byt s 1, Cd.byt s 0] := rfl
  rw [e]
  have h3 : (s : Int) / 16777216 = (s : Int) / 16777216 % 256 := by omega
  rw [h3]
  simp only [bcells, bcell, List.map_cons, List.map_nil, Cd.byt_nat]
  simp

set_option maxHeartbeats 2000000 in
theorem fsum_c {A : Option Addr} {n c : Nat} {l : List UInt8} {w : World} {B : Nat} {t : TypeId} (hL : Lies w B t A (bcells l)) (hn : n = l.length) (hs : n ≤ 1000000000) :
    Calls Tryz.prog 85 #[.slice A n c] w (BytesOk w.heap.size (Cd.fix (Crc.sum l) 4) w) := by
  have HL := Lib.hid hL
  have HN := Lib.hid hn
  have sl := Fr.sum_lt l
  clear hL hn
  go_enter Tryz.func85, Tryz.ntmps85
  go_wp2_with fail
  refine (crcSum_c _ _ _ l _ HL.out HN.out (by omega)).mono ?_
  rintro e w1 ⟨rfl, rfl⟩
  go_wp2
  go_ret
  exact ⟨_, 4, 4, rfl, row_cells (Nat.le_refl _) (sum_cells sl) rfl (by decide), (Below.refl _ _).alloc (Nat.le_refl _) _⟩

set_option maxHeartbeats 1000000 in
theorem equal_c {A A2 : Option Addr} {n c n2 c2 : Nat} {l m : List UInt8} {w : World} {B B2 : Nat} {t t2 : TypeId} (h : Lies w B t A (bcells l)) (h2 : Lies w B2 t2 A2 (bcells m)) (hn : n = l.length) (hn2 : n2 = m.length) :
    Calls Tryz.prog 97 #[.slice A n c, .slice A2 n2 c2] w fun e w' => e = .returned (.bool (l == m)) ∧ w = w' := by
  have c1 := conv_at (c := c) h hn
  have c3 := conv_at (c := c2) h2 hn2
  clear h h2 hn hn2
  go_enter Tryz.func97, Tryz.ntmps97
  go_wp2
  go_ret
  exact ⟨rfl, rfl⟩

set_option maxHeartbeats 2000000 in
theorem bclone_c {ad : Addr} {n c : Nat} {l : List UInt8} {w : World} {B : Nat} {t : TypeId} (hL : Lies w B t (some ad) (bcells l)) (hn : n = l.length) (hs : n ≤ 1000000000) :
    Calls Tryz.prog 81 #[.slice (some ad) n c] w (BytesOk w.heap.size l w) := by
  have HL := Lib.hid (hL.old (t' := 0))
  have HN := Lib.hid hn
  clear hL hn
  obtain ⟨ti, hi, iz0, iz1, iz2⟩ := info_parts Tryz.infoU8
  have lit := World.ownsRow_lit (base := w.heap.size) (e := 5) (size := 1) w #[] 0 (Nat.le_refl _) (by decide) rfl
  have LIT := Lib.hid lit
  clear lit
  have hq := fun W : World => Lib.run_eql_slice_nil (P := Tryz.prog) W 57 5 (some ad) n c 0 0 Tryz.underlying57
  go_enter Tryz.func81, Tryz.ntmps81
  go_wp2_with (at_builtin; refine wpList_app _ rfl _ _ 57 rfl w.heap.size 5 ti (.int .u8 0) 1 1 Tryz.underlying57 hi iz0 iz1 iz2 rfl (by decide) _ 0 [] rfl LIT.out w.heap.size (some ad) n c (bcells l) 0 rfl (by rw [bcells_len, HN.out]; omega) (HL.out.alloc (Nat.le_refl _) _) (bcells_one _) (by unfold maxLen; omega) (by omega) (by simp) ?_)
  intro v' w2 hown hgrow _
  obtain ⟨A2, k2, rfl⟩ := own_slice hown
  have T2 := Lib.hid (((Tch.refl w.heap.size [5] w).alloc (Nat.le_refl _) _).trans (app_step LIT.out hgrow (by simp)))
  have O2 := Lib.hid hown
  clear hown hgrow
  go_wp2
  go_ret
  exact ⟨A2, _, k2, rfl, by rw [← HN.out]; exact O2.out, T2.out.below⟩
theorem mk_room (k : Nat) (hk : k ≤ 1000000000) {z : Int} (hz : z = (k : Int)) (w : World) : (Instr.makeSlice 57 (.int .i64 0) (.int .i64 z)).run Tryz.prog w = .ok (.slice (some ⟨w.heap.size, 0, none⟩) 0 k) (w.alloc (.cells (bcells (List.replicate k 0)).toArray 5)) := by
  subst hz
  obtain ⟨ti, hi, iz0, iz1, iz2⟩ := info_parts Tryz.infoU8
  have q := run_make (P := Tryz.prog) w 57 5 ti _ Tryz.underlying57 hi iz0 .i64 .i64 0 k (by omega) (by omega) (by rw [iz2]; omega) (by omega)
  rw [q, Int.toNat_natCast, iz1, Nat.mul_one]
  congr 3
  apply Array.toList_inj.1
  have e := toList_madeCells_one (.int .u8 0) k
  rw [show (Value.int .u8 0).cells = #[.int .u8 0] from rfl, e]
  simp [bcells, bcell]
theorem lies3 {w : World} {a b c : UInt8} {x y z : Int} (hx : x = (a.toNat : Int)) (hy : y = (b.toNat : Int)) (hz : z = (c.toNat : Int)) {g : Nat} (hg : g = w.heap.size) : Lies (w.alloc (.cells #[.int .u8 x, .int .u8 y, .int .u8 z] 5)) 0 5 (some ⟨g, 0, none⟩) (bcells [a, b, c]) := by
  subst hx; subst hy; subst hz; subst hg
  exact Lies.of_blk (heap_alloc_new w _)

set_option maxHeartbeats 4000000 in
theorem fput_ok {A : Option Addr} {n c : Nat} {b : List UInt8} {w : World} {B : Nat} {t : TypeId} (hL : Lies w B t A (bcells b)) (hn : n = b.length) (hs : n ≤ 60000) :
    Calls Tryz.prog 67 #[.slice A n c] w (BErrOk w.heap.size 0 (Fr.frame b) w) := by
  have HL := Lib.hid (hL.old (t' := 0))
  have HN := Lib.hid hn
  clear hL hn
  obtain ⟨ti, hi, iz0, iz1, iz2⟩ := info_parts Tryz.infoU8
  have hmk := mk_room (n + 7) (by omega) (z := 3 + (n : Int) + 4) (by omega)
  have made := World.ownsRow_made (base := w.heap.size) (e := 5) (size := 1) w (bcells (List.replicate (n + 7) 0)).toArray (n + 7) (Nat.le_refl _) (by unfold maxLen; omega) (by simp [bcells])
  have MADE := Lib.hid made
  have TM := Lib.hid ((Tch.refl w.heap.size [5] w).alloc (Nat.le_refl _) (.cells (bcells (List.replicate (n + 7) 0)).toArray 5))
  have HX1 := Lib.hid (show (n : Int) / 256 = ((Cd.byt n 1).toNat : Int) by rw [Cd.byt_nat]; omega)
  have HX2 := Lib.hid (show (n : Int) % 256 = ((Cd.byt n 0).toNat : Int) by rw [Cd.byt_nat]; omega)
  clear made
  go_enter Tryz.func67, Tryz.ntmps67
  go_wp2_with (at_builtin; refine wpList_app _ rfl _ _ 57 rfl w.heap.size 5 ti (.int .u8 0) 1 1 Tryz.underlying57 hi iz0 iz1 iz2 rfl (by decide) _ 0 [] rfl (MADE.out.alloc _) 0 _ 3 3 (bcells [165, Cd.byt n 1, Cd.byt n 0]) 5 rfl rfl (lies3 (a := 165) (b := Cd.byt n 1) (c := Cd.byt n 0) rfl HX1.out HX2.out (by simp)) (bcells_one _) (by unfold maxLen; omega) (by omega) (by simp; omega) ?_)
  intro v' w2 hown hgrow _
  obtain ⟨A2, k2, rfl⟩ := own_slice hown
  have T2 := Lib.hid ((TM.out.alloc (by simp) _).trans (app_step (MADE.out.alloc _) hgrow (by simp; omega)))
  have O2 := Lib.hid hown
  have hz2 := T2.out.size
  clear hown hgrow
  go_wp2_with (at_builtin; refine wpList_app _ rfl _ _ 57 rfl w.heap.size 5 ti (.int .u8 0) 1 1 Tryz.underlying57 hi iz0 iz1 iz2 rfl (by decide) _ 3 _ rfl O2.out w.heap.size A n c (bcells b) 0 rfl (by rw [bcells_len, HN.out]; omega) (HL.out.below (Nat.le_refl _) T2.out.below) (bcells_one _) (by unfold maxLen; omega) (by omega) hz2 ?_)
  intro v' w3 hown hgrow _
  obtain ⟨A3, k3, rfl⟩ := own_slice hown
  have T3 := Lib.hid (T2.out.trans (app_step O2.out hgrow hz2))
  have hz3 := T3.out.size
  have er : bcells [165, Cd.byt n 1, Cd.byt n 0] ++ bcells b = bcells (165 :: Fr.inner b) := by
    rw [← bcells_app]
    unfold Fr.inner
    rw [← HN.out, Fr.fix2]
    rfl
  rw [er] at hown
  have il : (165 :: Fr.inner b).length = 3 + n := by rw [List.length_cons, Fr.inner_len, HN.out]; omega
  obtain ⟨_, hk3⟩ := own_room hown
  obtain ⟨g, rfl, _, _, _, _⟩ := own_at hown (by omega)
  have hin : Lies w3 0 5 (some ⟨g, 1, none⟩) (bcells (Fr.inner b)) := by
    have q := (lies_own (B := 0) hown).cut 1 k3 (by rw [bcells_len, il]; exact hk3)
    rw [if_neg (by omega), bcells_drop] at q
    exact q
  have HI := Lib.hid hin
  have O3 := Lib.hid hown
  have IL := Lib.hid (show (Fr.inner b).length = 2 + n by rw [Fr.inner_len, HN.out]; omega)
  have k31 : ¬ k3 = 1 := by omega
  have n31 : 3 + n - 1 = 2 + n := by omega
  have k1 : (1 : Int) ≤ 3 + (n : Int) := by omega
  clear hown hgrow er il hin hmk
  go_wp2_with fail
  refine (fsum_c (c := k3 - 1) HI.out IL.out.symm (by omega)).mono ?_
  rintro e w4 ⟨A4, n4, c4, rfl, ho4, hb4⟩
  have T4 := Lib.hid (T3.out.below.trans (hb4.mono hz3))
  have O34 := Lib.hid (own_below O3.out hb4)
  have hz4 := T4.out.size
  have ho4' : w4.ownsRow w3.heap.size 5 1 (.slice A4 n4 c4) 4 (bcells (Cd.fix (Crc.sum (Fr.inner b)) 4)) := ho4
  obtain ⟨rfl, hc4⟩ := own_room ho4'
  have O4 := Lib.hid ho4'
  clear hb4 ho4 ho4' n31
  go_wp2_with (at_builtin; refine wpList_app _ rfl _ _ 57 rfl w.heap.size 5 ti (.int .u8 0) 1 1 Tryz.underlying57 hi iz0 iz1 iz2 rfl (by decide) _ (3 + n) _ rfl O34.out 0 A4 4 c4 (bcells (Cd.fix (Crc.sum (Fr.inner b)) 4)) 5 rfl rfl (lies_own O4.out) (bcells_one _) (by unfold maxLen; omega) (by omega) hz4 ?_)
  intro v' w5 hown hgrow _
  obtain ⟨A5, k5, rfl⟩ := own_slice hown
  have T5 := Lib.hid (T4.out.trans (app_step O34.out hgrow hz4).below)
  have O5 := Lib.hid hown
  have ef : bcells (165 :: Fr.inner b) ++ bcells (Cd.fix (Crc.sum (Fr.inner b)) 4) = bcells (Fr.frame b) := by
    rw [← bcells_app]; rfl
  have EF := Lib.hid ef
  clear hown hgrow ef
  go_wp2
  go_ret2
  have q := O5.out
  rw [EF.out] at q
  exact ⟨A5, _, k5, rfl, by rw [Fr.frame_len, ← HN.out]; omega, (own_room q).2, q, T5.out⟩

set_option maxHeartbeats 1000000 in
theorem fput_long {A : Option Addr} {n c : Nat} {w : World} (hn : 60000 < n) (hs : n ≤ 1000000000) :
    Calls Tryz.prog 67 #[.slice A n c] w (BErrOk w.heap.size 2 [] w) := by
  go_enter Tryz.func67, Tryz.ntmps67
  go_wp2
  go_ret2
  exact BErrOk.bad (Below.refl _ _)
end Go.Proofs.YtbfkjneidabijaaGreat
