/- Contracts of frame.sum, bytes.Clone, bytes.Equal, frame.size, frame.Put. -/
import Derived.Test.YthddpenpmjonkaaFu
import Derived.Deep.RegionHeld3
import Derived.IntWalk
import Derived.WalkSpells
namespace Go.Proofs.Ythddpenpmjonkaa
open Go.RowKit
set_option maxRecDepth 100000

theorem i64_or_nat (a b : Nat) (ha : a < 9223372036854775808) (hb : b < 9223372036854775808) : bits .or .i64 (a : Int) (b : Int) = ((a ||| b : Nat) : Int) := by
  have hx : a ||| b < 2 ^ 63 := Nat.or_lt_two_pow (by omega) (by omega)
  show IntKind.i64.wrap ((BitVec.ofInt 64 (a : Int) ||| BitVec.ofInt 64 (b : Int)).toNat : Int) = _
  rw [BitVec.toNat_or, BitVec.ofInt_natCast, BitVec.ofInt_natCast, BitVec.toNat_ofNat, BitVec.toNat_ofNat, Nat.mod_eq_of_lt (by omega), Nat.mod_eq_of_lt (by omega)]
  exact IntWalk.i64_in _ (by omega)
theorem or_two (x y : UInt8) : bits .or .i64 ((x.toNat : Int) * 256) (y.toNat : Int) = (x.toNat : Int) * 256 + (y.toNat : Int) := by
  have hx := x.toNat_lt
  have hy := y.toNat_lt
  have e := i64_or_nat (x.toNat * 256) y.toNat (by omega) (by omega)
  have q := Nat.two_pow_add_eq_or_of_lt (i := 8) (b := y.toNat) hy x.toNat
  rw [show 2 ^ 8 * x.toNat = x.toNat * 256 by omega] at q
  rw [← q] at e
  exact e

/-- Cells that were laid just now, as a row of bytes. -/
theorem row_cells {w : World} {B k : Nat} {cs : Array Value} {l : List UInt8} (hB : B ≤ w.heap.size) (h : cs.toList = bcells l) (hk : l.length = k) (hl : k ≤ maxLen) :
    (w.alloc (.cells cs 5)).ownsRow B 5 1 (.slice (some ⟨w.heap.size, 0, none⟩) k k) l.length (bcells l) := by
  have hs : cs.size = k * 1 := by rw [Nat.mul_one, ← Array.length_toList, h, bcells_len, hk]
  have q := World.ownsRow_lit (base := B) (e := 5) (size := 1) w cs k hB hl hs
  rw [h] at q
  rw [hk]
  exact q
theorem sum_cells {s : Nat} (h : s < 4294967296) : [Value.int .u8 ((s : Int) / 16777216), .int .u8 ((s : Int) / 65536 % 256), .int .u8 ((s : Int) / 256 % 256), .int .u8 ((s : Int) % 256)] = bcells (Cd.fix s 4) := by
  have e : Cd.fix s 4 = [Cd.byt s 3, Cd.byt s 2, Cd.byt s 1, Cd.byt s 0] := rfl
  rw [e]
  have h3 : (s : Int) / 16777216 = (s : Int) / 16777216 % 256 := by omega
  rw [h3]
  simp only [bcells, bcell, List.map_cons, List.map_nil, Cd.byt_nat]
  simp

set_option maxHeartbeats 1000000 in
theorem equal_c {A A2 : Option Addr} {n c n2 c2 : Nat} {l m : List UInt8} {w : World} {B B2 : Nat} {t t2 : TypeId} (h : Lies w B t A (bcells l)) (h2 : Lies w B2 t2 A2 (bcells m)) (hn : n = l.length) (hn2 : n2 = m.length) :
    Calls Try.prog 65 #[.slice A n c, .slice A2 n2 c2] w fun e w' => e = .returned (.bool (l == m)) ∧ w = w' := by
  have c1 := conv_at (c := c) h hn
  have c3 := conv_at (c := c2) h2 hn2
  clear h h2 hn hn2
  go_enter Try.func65, Try.ntmps65
  go_wp2
  go_ret
  exact ⟨rfl, rfl⟩

set_option maxHeartbeats 2000000 in
theorem bclone_c {ad : Addr} {n c : Nat} {l : List UInt8} {w : World} {B : Nat} {t : TypeId} (hL : Lies w B t (some ad) (bcells l)) (hn : n = l.length) (hs : n ≤ 1000000000) :
    Calls Try.prog 48 #[.slice (some ad) n c] w (BytesOk w.heap.size l w) := by
  have HL := Lib.hid (hL.old (t' := 0))
  have HN := Lib.hid hn
  clear hL hn
  obtain ⟨ti, hi, iz0, iz1, iz2⟩ := info_parts Try.infoU8
  have lit := World.ownsRow_lit (base := w.heap.size) (e := 5) (size := 1) w #[] 0 (Nat.le_refl _) (by decide) rfl
  have LIT := Lib.hid lit
  clear lit
  have hq := fun W : World => Lib.run_eql_slice_nil (P := Try.prog) W 24 5 (some ad) n c 0 0 Try.underlying24
  go_enter Try.func48, Try.ntmps48
  go_wp2_with (at_builtin; refine wpList_app _ rfl _ _ 24 rfl w.heap.size 5 ti (.int .u8 0) 1 1 Try.underlying24 hi iz0 iz1 iz2 rfl (by decide) _ 0 [] rfl LIT.out w.heap.size (some ad) n c (bcells l) 0 rfl (by rw [bcells_len, HN.out]; omega) (HL.out.alloc (Nat.le_refl _) _) (bcells_one _) (by unfold maxLen; omega) (by omega) (by simp) ?_)
  intro v' w2 hown hgrow _
  obtain ⟨A2, k2, rfl⟩ := own_slice hown
  have T2 := Lib.hid (((Tch.refl w.heap.size [5] w).alloc (Nat.le_refl _) _).trans (app_step LIT.out hgrow (by simp)))
  have O2 := Lib.hid hown
  clear hown hgrow
  go_wp2
  go_ret
  exact ⟨A2, _, k2, rfl, by rw [← HN.out]; exact O2.out, T2.out.below⟩
theorem mk_room (k : Nat) (hk : k ≤ 1000000000) {z : Int} (hz : z = (k : Int)) (w : World) : (Instr.makeSlice 24 (.int .i64 0) (.int .i64 z)).run Try.prog w = .ok (.slice (some ⟨w.heap.size, 0, none⟩) 0 k) (w.alloc (.cells (bcells (List.replicate k 0)).toArray 5)) := by
  subst hz
  obtain ⟨ti, hi, iz0, iz1, iz2⟩ := info_parts Try.infoU8
  have q := run_make (P := Try.prog) w 24 5 ti _ Try.underlying24 hi iz0 .i64 .i64 0 k (by omega) (by omega) (by rw [iz2]; omega) (by omega)
  rw [q, Int.toNat_natCast, iz1, Nat.mul_one]
  congr 3
  apply Array.toList_inj.1
  have e := toList_madeCells_one (.int .u8 0) k
  rw [show (Value.int .u8 0).cells = #[.int .u8 0] from rfl, e]
  simp [bcells, bcell]
theorem lies3 {w : World} {a b c : UInt8} {x y z : Int} (hx : x = (a.toNat : Int)) (hy : y = (b.toNat : Int)) (hz : z = (c.toNat : Int)) {g : Nat} (hg : g = w.heap.size) : Lies (w.alloc (.cells #[.int .u8 x, .int .u8 y, .int .u8 z] 5)) 0 5 (some ⟨g, 0, none⟩) (bcells [a, b, c]) := by
  subst hx; subst hy; subst hz; subst hg
  exact Lies.of_blk (heap_alloc_new w _)