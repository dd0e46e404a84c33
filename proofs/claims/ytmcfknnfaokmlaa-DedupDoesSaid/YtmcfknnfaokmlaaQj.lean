/- slices.Sort at uint64 over this program: any numbers come in order (written by wip/gen12ke.py). -/
import Derived.Test.YtmcfknnfaokmlaaQi
import Derived.Shelf.SlSortCmp.Xorshift
import Derived.Shelf.Small.Bits
import Derived.Sort.OwnSorted
namespace Go.Proofs.Ytmcfknnfaokmlaa
set_option maxRecDepth 100000
section
open Go.Shelf Go.RowKit Go.Lib Go.Sort

def encU (n : Nat) : Value := .int .u64 (n : Int)
def ltU (a b : Nat) : Bool := decide (a < b)
theorem encU_one : OneCell encU := fun _ => rfl
theorem swoU : SWO ltU := ⟨fun x => by simp [ltU], fun x y z h k => by simp [ltU] at *; omega, fun x y z h k => by simp [ltU] at *; omega⟩
theorem soU : SoU Try.prog where
  mixed := by kernel_rfl
  fless := Try.func38
  eless := fun args w => Try.call38 args w
  fnan := Try.func48
  enan := fun args w => Try.call48 args w
  fins := Try.func32
  eins := fun args w => Try.call32 args w
  fheap := Try.func33
  eheap := fun args w => Try.call33 args w
  fsift := Try.func43
  esift := fun args w => Try.call43 args w
  frev := Try.func36
  erev := fun args w => Try.call36 args w
  fpiv := Try.func35
  epiv := fun args w => Try.call35 args w
  fbrk := Try.func34
  ebrk := fun args w => Try.call34 args w
  fpar := Try.func37
  epar := fun args w => Try.call37 args w
  fpeq := Try.func39
  epeq := fun args w => Try.call39 args w
  fprt := Try.func40
  eprt := fun args w => Try.call40 args w
  fpdq := Try.func30
  epdq := fun args w => Try.call30 args w
  fmed := Try.func47
  emed := fun args w => Try.call47 args w
  fmad := Try.func46
  emad := fun args w => Try.call46 args w
  ford := Try.func49
  eord := fun args w => Try.call49 args w
  fnp2 := Try.func44
  enp2 := fun args w => Try.call44 args w
  fxn := Try.func45
  exn := fun args w => Try.call45 args w
  flen := Try.func31
  elen := fun args w => Try.call31 args w
  u0 := Try.underlying0
  a0 := Try.isAgg0
  z0 := Try.sizeOf0
  v0 := Try.zeroValue0
  u3 := Try.underlying3
  a3 := Try.isAgg3
  z3 := Try.sizeOf3
  v3 := Try.zeroValue3
  u4 := Try.underlying4
  a4 := Try.isAgg4
  z4 := Try.sizeOf4
  v4 := Try.zeroValue4
  u2 := Try.underlying55
  a2 := Try.isAgg55
  z2 := Try.sizeOf55
  v2 := Try.zeroValue55
  u6 := Try.underlying24
  a6 := Try.isAgg24
  z6 := Try.sizeOf24
  v6 := Try.zeroValue24
  u7 := Try.underlying83
  a7 := Try.isAgg83
  z7 := Try.sizeOf83
  v7 := Try.zeroValue83
  u8 := Try.underlying66
  a8 := Try.isAgg66
  z8 := Try.sizeOf66
  v8 := Try.zeroValue66
  u9 := Try.underlying79
  a9 := Try.isAgg79
  z9 := Try.sizeOf79
  v9 := Try.zeroValue79
  u10 := Try.underlying85
  a10 := Try.isAgg85
  z10 := Try.sizeOf85
  v10 := Try.zeroValue85
  u11 := Try.underlying68
  a11 := Try.isAgg68
  z11 := Try.sizeOf68
  v11 := Try.zeroValue68

theorem nanU_c (x : Int) (w : World) : Calls Try.prog 48 #[.int .u64 x] w fun e w' => e = .returned (.bool false) ∧ w = w' := by
  go_enter Try.func48, Try.ntmps48
  go_wp2
  go_ret
  exact ⟨rfl, rfl⟩
set_option maxHeartbeats 4000000 in
theorem lessU : LessU Try.prog encU ltU := fun x y w => by
  have mixed := soU.mixed
  have e1 : (decide ((x : Int) < (y : Int))) = ltU x y := by simp [ltU]
  unfold encU
  go_enter Try.func38, Try.ntmps38
  go_wp2_with (first | (go_at_call 48; refine (nanU_c _ _).mono ?_; rintro e w' ⟨rfl, rfl⟩))
  go_wp2
  go_ret
  exact ⟨by simp [ltU], 0, #[], (grow_empty _).symm⟩
def renU : Go.Shelf.Ren := ⟨fun | 15 => 31 | 28 => 41 | 29 => 42 | 47 => 44 | 48 => 45 | n => n, fun | 0 => 0 | 3 => 3 | 4 => 4 | 5 => 5 | 9 => 9 | 39 => 66 | 53 => 77 | 55 => 24 | 66 => 79 | 76 => 85 | n => n, fun | n => n⟩
theorem laysN : Go.Proofs.SlLaysF0.n47 Try.prog renU where
  mixed := by kernel_rfl
  f15 := Try.func31.trans (congrArg some (by kernel_rfl))
  f28 := Try.func41.trans (congrArg some (by kernel_rfl))
  f29 := Try.func42.trans (congrArg some (by kernel_rfl))
  f47 := Try.func44.trans (congrArg some (by kernel_rfl))
  t3 := Try.underlying3
  a3 := Try.isAgg3
  z3 := Try.sizeOf3
  v3 := Try.zeroValue3
  t4 := Try.underlying4
  a4 := Try.isAgg4
  z4 := Try.sizeOf4
  v4 := Try.zeroValue4
  t5 := Try.underlying5
  a5 := Try.isAgg5
  z5 := Try.sizeOf5
  v5 := Try.zeroValue5
  t9 := Try.underlying9
  a9 := Try.isAgg9
  z9 := Try.sizeOf9
  v9 := Try.zeroValue9
  t39 := Try.underlying66
  a39 := Try.isAgg66
  z39 := Try.sizeOf66
  v39 := Try.zeroValue66
  t53 := Try.underlying77
  a53 := Try.isAgg77
  z53 := Try.sizeOf77
  v53 := Try.zeroValue77
  t55 := Try.underlying24
  a55 := Try.isAgg24
  z55 := Try.sizeOf24
  v55 := Try.zeroValue24
theorem laysX : Go.Proofs.SlLaysF0.n48 Try.prog renU where
  mixed := by kernel_rfl
  f48 := Try.func45.trans (congrArg some (by kernel_rfl))
  t0 := Try.underlying0
  a0 := Try.isAgg0
  z0 := Try.sizeOf0
  v0 := Try.zeroValue0
  t39 := Try.underlying66
  a39 := Try.isAgg66
  z39 := Try.sizeOf66
  v39 := Try.zeroValue66
  t55 := Try.underlying24
  a55 := Try.isAgg24
  z55 := Try.sizeOf24
  v55 := Try.zeroValue24
  t66 := Try.underlying79
  a66 := Try.isAgg79
  z66 := Try.sizeOf79
  v66 := Try.zeroValue79
  t76 := Try.underlying85
  a76 := Try.isAgg85
  z76 := Try.sizeOf85
  v76 := Try.zeroValue85
theorem npU : NpU Try.prog := fun n hn w => AnyF.nextPowerOfTwo laysN n hn w
theorem xnU : XnU Try.prog := fun rb ro X hX w hc hf => AnyF.xorshift_Next laysX rb ro X hX w hc hf
theorem lenU (n : Nat) (hn : n < 4611686018427387904) (w : World) : Calls Try.prog 31 #[.int .u64 (n : Int)] w fun e w' => e = .returned (.int .i64 (Lib.bitLen n : Nat)) ∧ w' = w := by
  have h := Any.bits_Len (SlLaysF0.n15.bits (P := Try.prog) (ρ := renU) { laysN with }) (n : Int) w (by omega) (by omega)
  rwa [Int.toNat_natCast] at h
set_option maxRecDepth 100000 in
set_option maxHeartbeats 2000000 in
theorem sortU_c {blk cap : Nat} {d : Array Nat} {w : World} (hH : Holds encU w blk 0 d) (hblk : blk < w.heap.size) (hsz : d.size < 4611686018427387904) :
    Calls Try.prog 27 #[.slice (some ⟨blk, 0, none⟩) d.size cap] w fun e w' => e = .returned (.tuple #[]) ∧ SW encU w blk 0 (pdq ltU d 0 d.size (Lib.bitLen d.size) true true) w' := by
  have hlim : Lib.bitLen d.size < 4611686018427387904 := Nat.lt_of_le_of_lt (Lib.bitLen_le d.size 62 (by omega) (by omega)) (by omega)
  have hp := Lib.hid (pdqU (cap := cap) soU lessU npU xnU swoU ⟨encU_one, hH, hblk⟩ (d.size + 1) 0 d.size (Lib.bitLen d.size) d w (by omega) rfl (SW.start hH) (Nat.zero_le _) (Nat.le_refl _) hsz hlim (Or.inl rfl))
  have hl := Lib.hid (lenU d.size hsz w)
  have wr : IntKind.u64.wrap (d.size : Int) = d.size := by simp [IntKind.wrap, IntKind.bits, IntKind.signed]; omega
  clear hH
  go_enter Try.func27, Try.ntmps27
  go_wp2_with (first | (go_at_call 31; refine hl.out.mono ?_; rintro e w' ⟨rfl, rfl⟩) | (go_at_call 30; refine hp.out.mono ?_; rintro e w' ⟨rfl, hS⟩))
  go_end0
  exact ⟨rfl, hS⟩
/-- What the row holds behind it: the same numbers, in order. -/
theorem pdqU_sorted (l : List Nat) : (pdq ltU l.toArray 0 l.length (Lib.bitLen l.length) true true).toList = l.mergeSort (fun x y => decide (x ≤ y)) := by
  obtain ⟨hp, hs⟩ := pdq_sorts ltU swoU l.toArray 0 l.toArray.size (Lib.bitLen l.length) true true (Nat.zero_le _) (Nat.le_refl _) (Or.inl rfl)
  have e := sorted_unique_holds (lt := ltU) swoU (fun x y h k => by simp [ltU] at *; omega) _ _ hp hs
  simp only [List.size_toArray] at e
  rw [e]
  congr 1
  funext x y
  rw [Bool.eq_iff_iff]; simp [ltU]
end
end Go.Proofs.Ytmcfknnfaokmlaa
