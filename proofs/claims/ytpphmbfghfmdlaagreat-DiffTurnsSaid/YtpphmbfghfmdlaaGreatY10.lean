import Derived.Test.YtpphmbfghfmdlaaGreatY9
import Derived.Shelf.SlSortCmp.Xorshift
import Derived.Shelf.Small.Bits
import Derived.Sort.OwnSorted
namespace Go.Proofs.YtpphmbfghfmdlaaGreat
set_option linter.unusedSimpArgs false
set_option maxRecDepth 100000
section
section
open Go.Shelf Go.RowKit Go.Lib Go.Sort
def encU (n : Nat) : Value := .int .u64 (n : Int)
def ltU (a b : Nat) : Bool := decide (a < b)
theorem encU_one : OneCell encU := fun _ => rfl
theorem swoU : SWO ltU := ⟨fun x => by simp [ltU], fun x y z h k => by simp [ltU] at *; omega, fun x y z h k => by simp [ltU] at *; omega⟩
theorem soU : SoU Tryz.prog where
 mixed := by kernel_rfl
 fless := Tryz.func204
 eless := fun args w => Tryz.call204 args w
 fnan := Tryz.func159
 enan := fun args w => Tryz.call159 args w
 fins := Tryz.func198
 eins := fun args w => Tryz.call198 args w
 fheap := Tryz.func199
 eheap := fun args w => Tryz.call199 args w
 fsift := Tryz.func212
 esift := fun args w => Tryz.call212 args w
 frev := Tryz.func202
 erev := fun args w => Tryz.call202 args w
 fpiv := Tryz.func201
 epiv := fun args w => Tryz.call201 args w
 fbrk := Tryz.func200
 ebrk := fun args w => Tryz.call200 args w
 fpar := Tryz.func203
 epar := fun args w => Tryz.call203 args w
 fpeq := Tryz.func205
 epeq := fun args w => Tryz.call205 args w
 fprt := Tryz.func206
 eprt := fun args w => Tryz.call206 args w
 fpdq := Tryz.func192
 epdq := fun args w => Tryz.call192 args w
 fmed := Tryz.func216
 emed := fun args w => Tryz.call216 args w
 fmad := Tryz.func215
 emad := fun args w => Tryz.call215 args w
 ford := Tryz.func217
 eord := fun args w => Tryz.call217 args w
 fnp2 := Tryz.func213
 enp2 := fun args w => Tryz.call213 args w
 fxn := Tryz.func214
 exn := fun args w => Tryz.call214 args w
 flen := Tryz.func193
 elen := fun args w => Tryz.call193 args w
 u0 := Tryz.underlying0
 a0 := Tryz.isAgg0
 z0 := Tryz.sizeOf0
 v0 := Tryz.zeroValue0
 u3 := Tryz.underlying3
 a3 := Tryz.isAgg3
 z3 := Tryz.sizeOf3
 v3 := Tryz.zeroValue3
 u4 := Tryz.underlying4
 a4 := Tryz.isAgg4
 z4 := Tryz.sizeOf4
 v4 := Tryz.zeroValue4
 u2 := Tryz.underlying42
 a2 := Tryz.isAgg42
 z2 := Tryz.sizeOf42
 v2 := Tryz.zeroValue42
 u6 := Tryz.underlying26
 a6 := Tryz.isAgg26
 z6 := Tryz.sizeOf26
 v6 := Tryz.zeroValue26
 u7 := Tryz.underlying210
 a7 := Tryz.isAgg210
 z7 := Tryz.sizeOf210
 v7 := Tryz.zeroValue210
 u8 := Tryz.underlying176
 a8 := Tryz.isAgg176
 z8 := Tryz.sizeOf176
 v8 := Tryz.zeroValue176
 u9 := Tryz.underlying206
 a9 := Tryz.isAgg206
 z9 := Tryz.sizeOf206
 v9 := Tryz.zeroValue206
 u10 := Tryz.underlying212
 a10 := Tryz.isAgg212
 z10 := Tryz.sizeOf212
 v10 := Tryz.zeroValue212
 u11 := Tryz.underlying196
 a11 := Tryz.isAgg196
 z11 := Tryz.sizeOf196
 v11 := Tryz.zeroValue196
theorem nanU_c (x : Int) (w : World) : Calls Tryz.prog 159 #[.int .u64 x] w fun e w' => e = .returned (.bool false) ∧ w = w' := by
 go_enter Tryz.func159, Tryz.ntmps159
 go_wp2
 go_ret
 exact ⟨rfl, rfl⟩
set_option maxHeartbeats 4000000 in
theorem lessU : LessU Tryz.prog encU ltU := fun x y w => by
 have mixed := soU.mixed
 have e1 : (decide ((x : Int) < (y : Int))) = ltU x y := by simp [ltU]
 unfold encU
 go_enter Tryz.func204, Tryz.ntmps204
 go_wp2_with (first | (go_at_call 159; refine (nanU_c _ _).mono ?_; rintro e w' ⟨rfl, rfl⟩))
 go_wp2
 go_ret
 exact ⟨by simp [ltU], 0, #[], (grow_empty _).symm⟩
def renU : Go.Shelf.Ren := ⟨fun | 15 => 193 | 28 => 207 | 29 => 208 | 47 => 213 | 48 => 214 | n => n, fun | 0 => 0 | 3 => 3 | 4 => 4 | 5 => 5 | 9 => 9 | 39 => 176 | 53 => 204 | 55 => 26 | 66 => 206 | 76 => 212 | n => n, fun | n => n⟩
theorem laysN : Go.Proofs.SlLaysF0.n47 Tryz.prog renU where
 mixed := by kernel_rfl
 f15 := Tryz.func193.trans (congrArg some (by kernel_rfl))
 f28 := Tryz.func207.trans (congrArg some (by kernel_rfl))
 f29 := Tryz.func208.trans (congrArg some (by kernel_rfl))
 f47 := Tryz.func213.trans (congrArg some (by kernel_rfl))
 t3 := Tryz.underlying3
 a3 := Tryz.isAgg3
 z3 := Tryz.sizeOf3
 v3 := Tryz.zeroValue3
 t4 := Tryz.underlying4
 a4 := Tryz.isAgg4
 z4 := Tryz.sizeOf4
 v4 := Tryz.zeroValue4
 t5 := Tryz.underlying5
 a5 := Tryz.isAgg5
 z5 := Tryz.sizeOf5
 v5 := Tryz.zeroValue5
 t9 := Tryz.underlying9
 a9 := Tryz.isAgg9
 z9 := Tryz.sizeOf9
 v9 := Tryz.zeroValue9
 t39 := Tryz.underlying176
 a39 := Tryz.isAgg176
 z39 := Tryz.sizeOf176
 v39 := Tryz.zeroValue176
 t53 := Tryz.underlying204
 a53 := Tryz.isAgg204
 z53 := Tryz.sizeOf204
 v53 := Tryz.zeroValue204
 t55 := Tryz.underlying26
 a55 := Tryz.isAgg26
 z55 := Tryz.sizeOf26
 v55 := Tryz.zeroValue26
theorem laysX : Go.Proofs.SlLaysF0.n48 Tryz.prog renU where
 mixed := by kernel_rfl
 f48 := Tryz.func214.trans (congrArg some (by kernel_rfl))
 t0 := Tryz.underlying0
 a0 := Tryz.isAgg0
 z0 := Tryz.sizeOf0
 v0 := Tryz.zeroValue0
 t39 := Tryz.underlying176
 a39 := Tryz.isAgg176
 z39 := Tryz.sizeOf176
 v39 := Tryz.zeroValue176
 t55 := Tryz.underlying26
 a55 := Tryz.isAgg26
 z55 := Tryz.sizeOf26
 v55 := Tryz.zeroValue26
 t66 := Tryz.underlying206
 a66 := Tryz.isAgg206
 z66 := Tryz.sizeOf206
 v66 := Tryz.zeroValue206
 t76 := Tryz.underlying212
 a76 := Tryz.isAgg212
 z76 := Tryz.sizeOf212
 v76 := Tryz.zeroValue212
theorem npU : NpU Tryz.prog := fun n hn w => AnyF.nextPowerOfTwo laysN n hn w
theorem xnU : XnU Tryz.prog := fun rb ro X hX w hc hf => AnyF.xorshift_Next laysX rb ro X hX w hc hf
theorem lenU (n : Nat) (hn : n < 4611686018427387904) (w : World) : Calls Tryz.prog 193 #[.int .u64 (n : Int)] w fun e w' => e = .returned (.int .i64 (Lib.bitLen n : Nat)) ∧ w' = w := by
 have h := Any.bits_Len (SlLaysF0.n15.bits (P := Tryz.prog) (ρ := renU) { laysN with }) (n : Int) w (by omega) (by omega)
 rwa [Int.toNat_natCast] at h
set_option maxHeartbeats 2000000 in
theorem sortU_c {blk cap : Nat} {d : Array Nat} {w : World} (hH : Holds encU w blk 0 d) (hblk : blk < w.heap.size) (hsz : d.size < 4611686018427387904) :
  Calls Tryz.prog 174 #[.slice (some ⟨blk, 0, none⟩) d.size cap] w fun e w' => e = .returned (.tuple #[]) ∧ SW encU w blk 0 (pdq ltU d 0 d.size (Lib.bitLen d.size) true true) w' := by
 have hlim : Lib.bitLen d.size < 4611686018427387904 := Nat.lt_of_le_of_lt (Lib.bitLen_le d.size 62 (by omega) (by omega)) (by omega)
 have hp := hid (pdqU (cap := cap) soU lessU npU xnU swoU ⟨encU_one, hH, hblk⟩ (d.size + 1) 0 d.size (Lib.bitLen d.size) d w (by omega) rfl (SW.start hH) (Nat.zero_le _) (Nat.le_refl _) hsz hlim (Or.inl rfl))
 have hl := hid (lenU d.size hsz w)
 have wr : IntKind.u64.wrap (d.size : Int) = d.size := by simp [IntKind.wrap, IntKind.bits, IntKind.signed]; omega
 clear hH
 go_enter Tryz.func174, Tryz.ntmps174
 go_wp2_with (first | (go_at_call 193; refine hl.out.mono ?_; rintro e w' ⟨rfl, rfl⟩) | (go_at_call 192; refine hp.out.mono ?_; rintro e w' ⟨rfl, hS⟩))
 go_end0
 exact ⟨rfl, hS⟩
theorem pdqU_sorted (l : List Nat) : (pdq ltU l.toArray 0 l.length (Lib.bitLen l.length) true true).toList = l.mergeSort (fun x y => decide (x ≤ y)) := by
 obtain ⟨hp, hs⟩ := pdq_sorts ltU swoU l.toArray 0 l.toArray.size (Lib.bitLen l.length) true true (Nat.zero_le _) (Nat.le_refl _) (Or.inl rfl)
 have e := sorted_unique_holds (lt := ltU) swoU (fun x y h k => by simp [ltU] at *; omega) _ _ hp hs
 simp only [List.size_toArray] at e
 rw [e]
 congr 1
 funext x y
 rw [Bool.eq_iff_iff]; simp [ltU]
end
end
end Go.Proofs.YtpphmbfghfmdlaaGreat
