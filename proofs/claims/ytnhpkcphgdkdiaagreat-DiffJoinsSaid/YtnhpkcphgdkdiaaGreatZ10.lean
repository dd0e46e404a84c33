import Derived.Test.YtnhpkcphgdkdiaaGreatZ9
import Derived.Shelf.SlSortCmp.Xorshift
import Derived.Shelf.Small.Bits
import Derived.Sort.OwnSorted
namespace Go.Proofs.YtnhpkcphgdkdiaaGreat
set_option linter.unusedSimpArgs false
set_option maxRecDepth 100000
section
section
open Go.Shelf Go.RowKit Go.Lib Go.Sort
def encU (n : Nat) : Value := .int .u64 (n : Int)
def ltU (a b : Nat) : Bool := decide (a < b)
theorem encU_one : OneCell encU := fun _ => rfl
theorem swoU : SWO ltU := ⟨fun x => by simp [ltU], fun x y z h k => by simp [ltU] at *; omega, fun x y z h k => by simp [ltU] at *; omega⟩
theorem soU : SoU Tryz.prog where
 mixed := by kernel_rfl
 fless := Tryz.func128
 eless := fun args w => Tryz.call128 args w
 fnan := Tryz.func93
 enan := fun args w => Tryz.call93 args w
 fins := Tryz.func122
 eins := fun args w => Tryz.call122 args w
 fheap := Tryz.func123
 eheap := fun args w => Tryz.call123 args w
 fsift := Tryz.func136
 esift := fun args w => Tryz.call136 args w
 frev := Tryz.func126
 erev := fun args w => Tryz.call126 args w
 fpiv := Tryz.func125
 epiv := fun args w => Tryz.call125 args w
 fbrk := Tryz.func124
 ebrk := fun args w => Tryz.call124 args w
 fpar := Tryz.func127
 epar := fun args w => Tryz.call127 args w
 fpeq := Tryz.func129
 epeq := fun args w => Tryz.call129 args w
 fprt := Tryz.func130
 eprt := fun args w => Tryz.call130 args w
 fpdq := Tryz.func114
 epdq := fun args w => Tryz.call114 args w
 fmed := Tryz.func140
 emed := fun args w => Tryz.call140 args w
 fmad := Tryz.func139
 emad := fun args w => Tryz.call139 args w
 ford := Tryz.func141
 eord := fun args w => Tryz.call141 args w
 fnp2 := Tryz.func137
 enp2 := fun args w => Tryz.call137 args w
 fxn := Tryz.func138
 exn := fun args w => Tryz.call138 args w
 flen := Tryz.func115
 elen := fun args w => Tryz.call115 args w
 u0 := Tryz.underlying0
 a0 := Tryz.isAgg0
 z0 := Tryz.sizeOf0
 v0 := Tryz.zeroValue0
 u3 := Tryz.underlying3
 a3 := Tryz.isAgg3
 z3 := Tryz.sizeOf3
 v3 := Tryz.zeroValue3
 u4 := Tryz.underlying4
 a4 := Tryz.isAgg4
 z4 := Tryz.sizeOf4
 v4 := Tryz.zeroValue4
 u2 := Tryz.underlying43
 a2 := Tryz.isAgg43
 z2 := Tryz.sizeOf43
 v2 := Tryz.zeroValue43
 u6 := Tryz.underlying30
 a6 := Tryz.isAgg30
 z6 := Tryz.sizeOf30
 v6 := Tryz.zeroValue30
 u7 := Tryz.underlying158
 a7 := Tryz.isAgg158
 z7 := Tryz.sizeOf158
 v7 := Tryz.zeroValue158
 u8 := Tryz.underlying141
 a8 := Tryz.isAgg141
 z8 := Tryz.sizeOf141
 v8 := Tryz.zeroValue141
 u9 := Tryz.underlying154
 a9 := Tryz.isAgg154
 z9 := Tryz.sizeOf154
 v9 := Tryz.zeroValue154
 u10 := Tryz.underlying160
 a10 := Tryz.isAgg160
 z10 := Tryz.sizeOf160
 v10 := Tryz.zeroValue160
 u11 := Tryz.underlying143
 a11 := Tryz.isAgg143
 z11 := Tryz.sizeOf143
 v11 := Tryz.zeroValue143
theorem nanU_c (x : Int) (w : World) : Calls Tryz.prog 93 #[.int .u64 x] w fun e w' => e = .returned (.bool false) ∧ w = w' := by
 go_enter Tryz.func93, Tryz.ntmps93
 go_wp2
 go_ret
 exact ⟨rfl, rfl⟩
set_option maxHeartbeats 4000000 in
theorem lessU : LessU Tryz.prog encU ltU := fun x y w => by
 have mixed := soU.mixed
 have e1 : (decide ((x : Int) < (y : Int))) = ltU x y := by simp [ltU]
 unfold encU
 go_enter Tryz.func128, Tryz.ntmps128
 go_wp2_with (first | (go_at_call 93; refine (nanU_c _ _).mono ?_; rintro e w' ⟨rfl, rfl⟩))
 go_wp2
 go_ret
 exact ⟨by simp [ltU], 0, #[], (grow_empty _).symm⟩
def renU : Go.Shelf.Ren := ⟨fun | 15 => 115 | 28 => 131 | 29 => 132 | 47 => 137 | 48 => 138 | n => n, fun | 0 => 0 | 3 => 3 | 4 => 4 | 5 => 5 | 9 => 9 | 39 => 141 | 53 => 152 | 55 => 30 | 66 => 154 | 76 => 160 | n => n, fun | n => n⟩
theorem laysN : Go.Proofs.SlLaysF0.n47 Tryz.prog renU where
 mixed := by kernel_rfl
 f15 := Tryz.func115.trans (congrArg some (by kernel_rfl))
 f28 := Tryz.func131.trans (congrArg some (by kernel_rfl))
 f29 := Tryz.func132.trans (congrArg some (by kernel_rfl))
 f47 := Tryz.func137.trans (congrArg some (by kernel_rfl))
 t3 := Tryz.underlying3
 a3 := Tryz.isAgg3
 z3 := Tryz.sizeOf3
 v3 := Tryz.zeroValue3
 t4 := Tryz.underlying4
 a4 := Tryz.isAgg4
 z4 := Tryz.sizeOf4
 v4 := Tryz.zeroValue4
 t5 := Tryz.underlying5
 a5 := Tryz.isAgg5
 z5 := Tryz.sizeOf5
 v5 := Tryz.zeroValue5
 t9 := Tryz.underlying9
 a9 := Tryz.isAgg9
 z9 := Tryz.sizeOf9
 v9 := Tryz.zeroValue9
 t39 := Tryz.underlying141
 a39 := Tryz.isAgg141
 z39 := Tryz.sizeOf141
 v39 := Tryz.zeroValue141
 t53 := Tryz.underlying152
 a53 := Tryz.isAgg152
 z53 := Tryz.sizeOf152
 v53 := Tryz.zeroValue152
 t55 := Tryz.underlying30
 a55 := Tryz.isAgg30
 z55 := Tryz.sizeOf30
 v55 := Tryz.zeroValue30
theorem laysX : Go.Proofs.SlLaysF0.n48 Tryz.prog renU where
 mixed := by kernel_rfl
 f48 := Tryz.func138.trans (congrArg some (by kernel_rfl))
 t0 := Tryz.underlying0
 a0 := Tryz.isAgg0
 z0 := Tryz.sizeOf0
 v0 := Tryz.zeroValue0
 t39 := Tryz.underlying141
 a39 := Tryz.isAgg141
 z39 := Tryz.sizeOf141
 v39 := Tryz.zeroValue141
 t55 := Tryz.underlying30
 a55 := Tryz.isAgg30
 z55 := Tryz.sizeOf30
 v55 := Tryz.zeroValue30
 t66 := Tryz.underlying154
 a66 := Tryz.isAgg154
 z66 := Tryz.sizeOf154
 v66 := Tryz.zeroValue154
 t76 := Tryz.underlying160
 a76 := Tryz.isAgg160
 z76 := Tryz.sizeOf160
 v76 := Tryz.zeroValue160
theorem npU : NpU Tryz.prog := fun n hn w => AnyF.nextPowerOfTwo laysN n hn w
theorem xnU : XnU Tryz.prog := fun rb ro X hX w hc hf => AnyF.xorshift_Next laysX rb ro X hX w hc hf
theorem lenU (n : Nat) (hn : n < 4611686018427387904) (w : World) : Calls Tryz.prog 115 #[.int .u64 (n : Int)] w fun e w' => e = .returned (.int .i64 (Lib.bitLen n : Nat)) ∧ w' = w := by
 have h := Any.bits_Len (SlLaysF0.n15.bits (P := Tryz.prog) (ρ := renU) { laysN with }) (n : Int) w (by omega) (by omega)
 rwa [Int.toNat_natCast] at h
set_option maxHeartbeats 2000000 in
theorem sortU_c {blk cap : Nat} {d : Array Nat} {w : World} (hH : Holds encU w blk 0 d) (hblk : blk < w.heap.size) (hsz : d.size < 4611686018427387904) :
  Calls Tryz.prog 98 #[.slice (some ⟨blk, 0, none⟩) d.size cap] w fun e w' => e = .returned (.tuple #[]) ∧ SW encU w blk 0 (pdq ltU d 0 d.size (Lib.bitLen d.size) true true) w' := by
 have hlim : Lib.bitLen d.size < 4611686018427387904 := Nat.lt_of_le_of_lt (Lib.bitLen_le d.size 62 (by omega) (by omega)) (by omega)
 have hp := hid (pdqU (cap := cap) soU lessU npU xnU swoU ⟨encU_one, hH, hblk⟩ (d.size + 1) 0 d.size (Lib.bitLen d.size) d w (by omega) rfl (SW.start hH) (Nat.zero_le _) (Nat.le_refl _) hsz hlim (Or.inl rfl))
 have hl := hid (lenU d.size hsz w)
 have wr : IntKind.u64.wrap (d.size : Int) = d.size := by simp [IntKind.wrap, IntKind.bits, IntKind.signed]; omega
 clear hH
 go_enter Tryz.func98, Tryz.ntmps98
 go_wp2_with (first | (go_at_call 115; refine hl.out.mono ?_; rintro e w' ⟨rfl, rfl⟩) | (go_at_call 114; refine hp.out.mono ?_; rintro e w' ⟨rfl, hS⟩))
 go_end0
 exact ⟨rfl, hS⟩
theorem pdqU_sorted (l : List Nat) : (pdq ltU l.toArray 0 l.length (Lib.bitLen l.length) true true).toList = l.mergeSort (fun x y => decide (x ≤ y)) := by
 obtain ⟨hp, hs⟩ := pdq_sorts ltU swoU l.toArray 0 l.toArray.size (Lib.bitLen l.length) true true (Nat.zero_le _) (Nat.le_refl _) (Or.inl rfl)
 have e := sorted_unique_holds (lt := ltU) swoU (fun x y h k => by simp [ltU] at *; omega) _ _ hp hs
 simp only [List.size_toArray] at e
 rw [e]
 congr 1
 funext x y
 rw [Bool.eq_iff_iff]; simp [ltU]
end
end
end Go.Proofs.YtnhpkcphgdkdiaaGreat
