import Derived.Test.YtnhpkcphgdkdiaaGreatZ26
import Derived.Test.YtnhpkcphgdkdiaaGreatZ22
import Derived.Test.YtnhpkcphgdkdiaaGreatZ23
import Derived.Test.YtnhpkcphgdkdiaaGreatZ29
namespace Go.Proofs.YtnhpkcphgdkdiaaGreat
set_option linter.unusedSimpArgs false
set_option maxRecDepth 100000
section
section
open Go.Shelf Go.RowKit Go.Lib Go.Sort
set_option maxHeartbeats 1000000 in
theorem cmpM_w {bx : Nat} (x y : MTk) (W : World) (hb : W.cell? ⟨bx, 0, none⟩ = some (.func (.func 41) #[] #[])) (hlt : bx < W.heap.size) :
  Calls Tryz.prog 68 #[.agg (encK x).toArray, .agg (encK y).toArray, .pointer (some ⟨bx, 0, none⟩)] W fun e w' => e = .returned (.int .i64 (cfM x y)) ∧ ∃ q os', w' = grow (W.drewN q) os' := by
 obtain ⟨wB, hwB⟩ : ∃ u, (W.alloc (.cells (encK x).toArray 38)).alloc (.cells (encK y).toArray 38) = u := ⟨_, rfl⟩
 have sB : wB.heap.size = W.heap.size + 2 := by rw [← hwB]; simp
 have GB : Hid (∀ q os, grow (wB.drewN q) os = grow (W.drewN q) (#[.cells (encK x).toArray 38, .cells (encK y).toArray 38] ++ os)) := hid fun q os => by rw [← hwB]; exact grow_two W _ _ q os
 have cb : ∀ n os, (grow (wB.drewN n) os).cell? ⟨bx, 0, none⟩ = some (.func (.func 41) #[] #[]) := fun n os => cell_grown (by show bx < wB.heap.size; omega) (by
  have b2 : Below W.heap.size W wB := by rw [← hwB]; exact ((Below.refl _ W).alloc (Nat.le_refl _) _).alloc (by simp) _
  exact (b2.cell (p := ⟨bx, 0, none⟩) hlt).trans hb) n os
 have lx : ∀ n os, ∀ j (h : j < (encK x).length), (grow (wB.drewN n) os).cell? ⟨W.heap.size, j, none⟩ = some ((encK x)[j]) := fun n os j h => cell_grown (by show W.heap.size < wB.heap.size; omega) (by
  have k : wB.heap[W.heap.size]? = some (.cells (encK x).toArray 38 (0, 0)) := by rw [← hwB]; exact blk_alloc (heap_alloc_new W _) _
  rw [cell_of_row wB W.heap.size j _ _ _ k]
  simp [h]) n os
 have ly : ∀ n os, ∀ j (h : j < (encK y).length), (grow (wB.drewN n) os).cell? ⟨W.heap.size + 1, j, none⟩ = some ((encK y)[j]) := fun n os j h => cell_grown (by show W.heap.size + 1 < wB.heap.size; omega) (by
  have k : wB.heap[W.heap.size + 1]? = some (.cells (encK y).toArray 38 (0, 0)) := by
   rw [← hwB]
   have := heap_alloc_new (W.alloc (.cells (encK x).toArray 38)) (.cells (encK y).toArray 38)
   rwa [World.size_alloc] at this
  rw [cell_of_row wB (W.heap.size + 1) j _ _ _ k]
  simp [h]) n os
 have x0 := fun n os => lx n os 0 (by rw [encK_len]; decide)
 have y0 := fun n os => ly n os 0 (by rw [encK_len]; decide)
 have x1 := fun n os => lx n os 1 (by rw [encK_len]; decide)
 have y1 := fun n os => ly n os 1 (by rw [encK_len]; decide)
 have x2 := fun n os => lx n os 2 (by rw [encK_len]; decide)
 have y2 := fun n os => ly n os 2 (by rw [encK_len]; decide)
 have x3 := fun n os => lx n os 3 (by rw [encK_len]; decide)
 have y3 := fun n os => ly n os 3 (by rw [encK_len]; decide)
 have x4 := fun n os => lx n os 4 (by rw [encK_len]; decide)
 have y4 := fun n os => ly n os 4 (by rw [encK_len]; decide)
 have x5 := fun n os => lx n os 5 (by rw [encK_len]; decide)
 have y5 := fun n os => ly n os 5 (by rw [encK_len]; decide)
 have x6 := fun n os => lx n os 6 (by rw [encK_len]; decide)
 have y6 := fun n os => ly n os 6 (by rw [encK_len]; decide)
 clear lx ly hb sB
 unfold encK at x0 y0 x1 y1 x2 y2 x3 y3 x4 y4 x5 y5 x6 y6 hwB ⊢
 simp only [List.getElem_cons_zero, List.getElem_cons_succ] at x0 y0 x1 y1 x2 y2 x3 y3 x4 y4 x5 y5 x6 y6
 go_enter Tryz.func68, Tryz.ntmps68
 go_wp2_with fail
 clear hwB
 have mixed := mixed9
 go_quiet_grown (first | (go_at_call 41; first | exact Calls.grown_of (keyM_c x _) | exact Calls.grown_of (keyM_c y _)) | (go_at_call 63; refine Calls.grown_of (quiet_same (cmpU_c _ _ _))))
 go_wp2
 go_ret
 refine ⟨rfl, nq, _, GB.out nq osq⟩
set_option maxHeartbeats 1000000 in
theorem eqM_w {bx : Nat} (x y : MTk) (W : World) (hb : W.cell? ⟨bx, 0, none⟩ = some (.func (.func 41) #[] #[])) (hlt : bx < W.heap.size) :
  Calls Tryz.prog 70 #[.agg (encK x).toArray, .agg (encK y).toArray, .pointer (some ⟨bx, 0, none⟩)] W fun e w' => e = .returned (.bool (Sr.eqv ltM x y)) ∧ ∃ q os', w' = grow (W.drewN q) os' := by
 obtain ⟨wB, hwB⟩ : ∃ u, (W.alloc (.cells (encK x).toArray 38)).alloc (.cells (encK y).toArray 38) = u := ⟨_, rfl⟩
 have sB : wB.heap.size = W.heap.size + 2 := by rw [← hwB]; simp
 have GB : Hid (∀ q os, grow (wB.drewN q) os = grow (W.drewN q) (#[.cells (encK x).toArray 38, .cells (encK y).toArray 38] ++ os)) := hid fun q os => by rw [← hwB]; exact grow_two W _ _ q os
 have cb : ∀ n os, (grow (wB.drewN n) os).cell? ⟨bx, 0, none⟩ = some (.func (.func 41) #[] #[]) := fun n os => cell_grown (by show bx < wB.heap.size; omega) (by
  have b2 : Below W.heap.size W wB := by rw [← hwB]; exact ((Below.refl _ W).alloc (Nat.le_refl _) _).alloc (by simp) _
  exact (b2.cell (p := ⟨bx, 0, none⟩) hlt).trans hb) n os
 have lx : ∀ n os, ∀ j (h : j < (encK x).length), (grow (wB.drewN n) os).cell? ⟨W.heap.size, j, none⟩ = some ((encK x)[j]) := fun n os j h => cell_grown (by show W.heap.size < wB.heap.size; omega) (by
  have k : wB.heap[W.heap.size]? = some (.cells (encK x).toArray 38 (0, 0)) := by rw [← hwB]; exact blk_alloc (heap_alloc_new W _) _
  rw [cell_of_row wB W.heap.size j _ _ _ k]
  simp [h]) n os
 have ly : ∀ n os, ∀ j (h : j < (encK y).length), (grow (wB.drewN n) os).cell? ⟨W.heap.size + 1, j, none⟩ = some ((encK y)[j]) := fun n os j h => cell_grown (by show W.heap.size + 1 < wB.heap.size; omega) (by
  have k : wB.heap[W.heap.size + 1]? = some (.cells (encK y).toArray 38 (0, 0)) := by
   rw [← hwB]
   have := heap_alloc_new (W.alloc (.cells (encK x).toArray 38)) (.cells (encK y).toArray 38)
   rwa [World.size_alloc] at this
  rw [cell_of_row wB (W.heap.size + 1) j _ _ _ k]
  simp [h]) n os
 have x0 := fun n os => lx n os 0 (by rw [encK_len]; decide)
 have y0 := fun n os => ly n os 0 (by rw [encK_len]; decide)
 have x1 := fun n os => lx n os 1 (by rw [encK_len]; decide)
 have y1 := fun n os => ly n os 1 (by rw [encK_len]; decide)
 have x2 := fun n os => lx n os 2 (by rw [encK_len]; decide)
 have y2 := fun n os => ly n os 2 (by rw [encK_len]; decide)
 have x3 := fun n os => lx n os 3 (by rw [encK_len]; decide)
 have y3 := fun n os => ly n os 3 (by rw [encK_len]; decide)
 have x4 := fun n os => lx n os 4 (by rw [encK_len]; decide)
 have y4 := fun n os => ly n os 4 (by rw [encK_len]; decide)
 have x5 := fun n os => lx n os 5 (by rw [encK_len]; decide)
 have y5 := fun n os => ly n os 5 (by rw [encK_len]; decide)
 have x6 := fun n os => lx n os 6 (by rw [encK_len]; decide)
 have y6 := fun n os => ly n os 6 (by rw [encK_len]; decide)
 clear lx ly hb sB
 unfold encK at x0 y0 x1 y1 x2 y2 x3 y3 x4 y4 x5 y5 x6 y6 hwB ⊢
 simp only [List.getElem_cons_zero, List.getElem_cons_succ] at x0 y0 x1 y1 x2 y2 x3 y3 x4 y4 x5 y5 x6 y6
 go_enter Tryz.func70, Tryz.ntmps70
 go_wp2_with fail
 clear hwB
 have mixed := mixed9
 go_quiet_grown (first | (go_at_call 41; first | exact Calls.grown_of (keyM_c x _) | exact Calls.grown_of (keyM_c y _)))
 go_wp2
 go_ret
 refine ⟨ret_bool (eqvM_id x y).symm, nq, _, GB.out nq osq⟩
set_option maxHeartbeats 1000000 in
theorem cmpS_w {bx : Nat} (x y : List UInt8) (W : World) (hb : W.cell? ⟨bx, 0, none⟩ = some (.func (.func 43) #[] #[])) (hlt : bx < W.heap.size) :
  Calls Tryz.prog 73 #[encS x, encS y, .pointer (some ⟨bx, 0, none⟩)] W fun e w' => e = .returned (.int .i64 (cmpS x y)) ∧ ∃ q os', w' = grow (W.drewN q) os' := by
 have cb : ∀ n os, (grow (W.drewN n) os).cell? ⟨bx, 0, none⟩ = some (.func (.func 43) #[] #[]) := fun n os => cell_grown (by show bx < W.heap.size; omega) hb n os
 clear hb
 unfold encS
 go_enter Tryz.func73, Tryz.ntmps73
 go_wp2_with fail
 have mixed := mixed9
 go_quiet_grown (first | (go_at_call 43; first | exact Calls.grown_of (keyS_c x _) | exact Calls.grown_of (keyS_c y _)) | (go_at_call 74; refine Calls.grown_of (quiet_same (cmpStr_c _ _ _))))
 go_wp2
 go_ret
 exact ⟨rfl, nq, osq, rfl⟩
set_option maxHeartbeats 1000000 in
theorem eqS_w {bx : Nat} (x y : List UInt8) (W : World) (hb : W.cell? ⟨bx, 0, none⟩ = some (.func (.func 43) #[] #[])) (hlt : bx < W.heap.size) :
  Calls Tryz.prog 76 #[encS x, encS y, .pointer (some ⟨bx, 0, none⟩)] W fun e w' => e = .returned (.bool (Sr.eqv T9.ltS x y)) ∧ ∃ q os', w' = grow (W.drewN q) os' := by
 have cb : ∀ n os, (grow (W.drewN n) os).cell? ⟨bx, 0, none⟩ = some (.func (.func 43) #[] #[]) := fun n os => cell_grown (by show bx < W.heap.size; omega) hb n os
 clear hb
 unfold encS
 go_enter Tryz.func76, Tryz.ntmps76
 go_wp2_with fail
 have mixed := mixed9
 go_quiet_grown (first | (go_at_call 43; first | exact Calls.grown_of (keyS_c x _) | exact Calls.grown_of (keyS_c y _)))
 go_wp2
 go_ret
 exact ⟨ret_bool (eqvS_eq x y).symm, nq, osq, rfl⟩
theorem srtL : SrtL Tryz.prog := ⟨mixed9, Tryz.func133, Tryz.func119, Tryz.func107, Tryz.func108, Tryz.func92, Tryz.call133, Tryz.call119, Tryz.call107, Tryz.call108, Tryz.underlying0, Tryz.isAgg0, Tryz.sizeOf0, Tryz.zeroValue0, Tryz.underlying3, Tryz.isAgg3, Tryz.sizeOf3, Tryz.zeroValue3, Tryz.underlying4, Tryz.isAgg4, Tryz.sizeOf4, Tryz.zeroValue4, Tryz.underlying141, Tryz.isAgg141, Tryz.sizeOf141, Tryz.zeroValue141, Tryz.underlying22, Tryz.isAgg22, Tryz.sizeOf22, Tryz.zeroValue22, Tryz.underlying105, Tryz.isAgg105, Tryz.sizeOf105, Tryz.zeroValue105⟩
theorem cptL : CptL Tryz.prog := ⟨mixed9, Tryz.func64, Tryz.underlying0, Tryz.isAgg0, Tryz.sizeOf0, Tryz.zeroValue0, Tryz.underlying3, Tryz.isAgg3, Tryz.sizeOf3, Tryz.zeroValue3, Tryz.underlying4, Tryz.isAgg4, Tryz.sizeOf4, Tryz.zeroValue4, Tryz.underlying22, Tryz.isAgg22, Tryz.sizeOf22, Tryz.zeroValue22, Tryz.underlying76, Tryz.isAgg76, Tryz.sizeOf76, Tryz.zeroValue76⟩
theorem srtK : SrtK Tryz.prog := ⟨mixed9, Tryz.func134, Tryz.func120, Tryz.func109, Tryz.func110, Tryz.func94, Tryz.call134, Tryz.call120, Tryz.call109, Tryz.call110, Tryz.underlying0, Tryz.isAgg0, Tryz.sizeOf0, Tryz.zeroValue0, Tryz.underlying3, Tryz.isAgg3, Tryz.sizeOf3, Tryz.zeroValue3, Tryz.underlying4, Tryz.isAgg4, Tryz.sizeOf4, Tryz.zeroValue4, Tryz.underlying141, Tryz.isAgg141, Tryz.sizeOf141, Tryz.zeroValue141, Tryz.underlying23, Tryz.isAgg23, Tryz.sizeOf23, Tryz.zeroValue23, Tryz.underlying108, Tryz.isAgg108, Tryz.sizeOf108, Tryz.zeroValue108⟩
theorem cptK : CptK Tryz.prog := ⟨mixed9, Tryz.func69, Tryz.underlying0, Tryz.isAgg0, Tryz.sizeOf0, Tryz.zeroValue0, Tryz.underlying3, Tryz.isAgg3, Tryz.sizeOf3, Tryz.zeroValue3, Tryz.underlying4, Tryz.isAgg4, Tryz.sizeOf4, Tryz.zeroValue4, Tryz.underlying23, Tryz.isAgg23, Tryz.sizeOf23, Tryz.zeroValue23, Tryz.underlying78, Tryz.isAgg78, Tryz.sizeOf78, Tryz.zeroValue78⟩
theorem srtS : SrtS Tryz.prog := ⟨mixed9, Tryz.func111, Tryz.func95, Tryz.call111, Tryz.underlying0, Tryz.isAgg0, Tryz.sizeOf0, Tryz.zeroValue0, Tryz.underlying3, Tryz.isAgg3, Tryz.sizeOf3, Tryz.zeroValue3, Tryz.underlying4, Tryz.isAgg4, Tryz.sizeOf4, Tryz.zeroValue4, Tryz.underlying141, Tryz.isAgg141, Tryz.sizeOf141, Tryz.zeroValue141, Tryz.underlying36, Tryz.isAgg36, Tryz.sizeOf36, Tryz.zeroValue36, Tryz.underlying9, Tryz.isAgg9, Tryz.sizeOf9, Tryz.zeroValue9, Tryz.underlying111, Tryz.isAgg111, Tryz.sizeOf111, Tryz.zeroValue111⟩
theorem cptS : CptS Tryz.prog := ⟨mixed9, Tryz.func75, Tryz.underlying0, Tryz.isAgg0, Tryz.sizeOf0, Tryz.zeroValue0, Tryz.underlying3, Tryz.isAgg3, Tryz.sizeOf3, Tryz.zeroValue3, Tryz.underlying4, Tryz.isAgg4, Tryz.sizeOf4, Tryz.zeroValue4, Tryz.underlying36, Tryz.isAgg36, Tryz.sizeOf36, Tryz.zeroValue36, Tryz.underlying9, Tryz.isAgg9, Tryz.sizeOf9, Tryz.underlying113, Tryz.isAgg113, Tryz.sizeOf113, Tryz.zeroValue113⟩
theorem laysL {blk bx : Nat} {size : Nat} {w : World} (hb : w.cell? ⟨bx, 0, none⟩ = some (.func (.func 39) #[] #[])) (hne : bx ≠ blk) (hlt : bx < w.heap.size) : CmpLays Tryz.prog 62 #[.pointer (some ⟨bx, 0, none⟩)] encL 2 cfL blk 0 size w :=
 fun m os dk _ x y => cmpL_w x y _ (bx_cell hb hne hlt) (by unfold sortWorldK; rw [size_grow]; have q : (putRowK encL 2 (Sort.ahead w m) blk 0 dk).heap.size = w.heap.size := (by rw [size_putRowK]; rfl); omega)
theorem eqsL {blk bx : Nat} {size : Nat} {w : World} (hb : w.cell? ⟨bx, 0, none⟩ = some (.func (.func 39) #[] #[])) (hne : bx ≠ blk) (hlt : bx < w.heap.size) : EqL Tryz.prog 65 #[.pointer (some ⟨bx, 0, none⟩)] encL 2 (Sr.eqv T9.ltL) blk 0 size w :=
 fun m os dk _ x y => eqL_w x y _ (bx_cell hb hne hlt) (by unfold sortWorldK; rw [size_grow]; have q : (putRowK encL 2 (Sort.ahead w m) blk 0 dk).heap.size = w.heap.size := (by rw [size_putRowK]; rfl); omega)
theorem laysM {blk bx : Nat} {size : Nat} {w : World} (hb : w.cell? ⟨bx, 0, none⟩ = some (.func (.func 41) #[] #[])) (hne : bx ≠ blk) (hlt : bx < w.heap.size) : CmpLays Tryz.prog 68 #[.pointer (some ⟨bx, 0, none⟩)] encK 7 cfM blk 0 size w :=
 fun m os dk _ x y => cmpM_w x y _ (bx_cell hb hne hlt) (by unfold sortWorldK; rw [size_grow]; have q : (putRowK encK 7 (Sort.ahead w m) blk 0 dk).heap.size = w.heap.size := (by rw [size_putRowK]; rfl); omega)
theorem eqsM {blk bx : Nat} {size : Nat} {w : World} (hb : w.cell? ⟨bx, 0, none⟩ = some (.func (.func 41) #[] #[])) (hne : bx ≠ blk) (hlt : bx < w.heap.size) : EqK Tryz.prog 70 #[.pointer (some ⟨bx, 0, none⟩)] encK 7 (Sr.eqv ltM) blk 0 size w :=
 fun m os dk _ x y => eqM_w x y _ (bx_cell hb hne hlt) (by unfold sortWorldK; rw [size_grow]; have q : (putRowK encK 7 (Sort.ahead w m) blk 0 dk).heap.size = w.heap.size := (by rw [size_putRowK]; rfl); omega)
theorem laysS {blk bx : Nat} {size : Nat} {w : World} (hb : w.cell? ⟨bx, 0, none⟩ = some (.func (.func 43) #[] #[])) (hne : bx ≠ blk) (hlt : bx < w.heap.size) : CmpLays1 Tryz.prog 73 #[.pointer (some ⟨bx, 0, none⟩)] encS cmpS blk 0 size w :=
 fun m os dk _ x y => cmpS_w x y _ (bx_cell1 hb hne hlt) (by unfold sortWorld; rw [size_grow]; have q : (putRow encS (Sort.ahead w m) blk 0 dk).heap.size = w.heap.size := (by simp [putRow, mapBlock, Sort.ahead]); omega)
theorem eqsS {blk bx : Nat} {size : Nat} {w : World} (hb : w.cell? ⟨bx, 0, none⟩ = some (.func (.func 43) #[] #[])) (hne : bx ≠ blk) (hlt : bx < w.heap.size) : EqS Tryz.prog 76 #[.pointer (some ⟨bx, 0, none⟩)] encS (Sr.eqv T9.ltS) blk 0 size w :=
 fun m os dk _ x y => eqS_w x y _ (bx_cell1 hb hne hlt) (by unfold sortWorld; rw [size_grow]; have q : (putRow encS (Sort.ahead w m) blk 0 dk).heap.size = w.heap.size := (by simp [putRow, mapBlock, Sort.ahead]); omega)
end
section
open Go.Shelf Go.RowKit Go.Lib Go.Sort
theorem Tryz.infoLi9 : (Tryz.prog.info? 32).map (fun i => (i.zero, i.size, i.bytes)) = some (some (.agg #[.int .u64 0, .string ⟨#[]⟩]), 2, 24) := by kernel_rfl
theorem Tryz.infoTk9 : (Tryz.prog.info? 38).map (fun i => (i.zero, i.size, i.bytes)) = some (some (.agg #[.int .u64 0, .int .u64 0, .string ⟨#[]⟩, .bool false, .float .f64 0, .float .f64 0, .slice none 0 0]), 7, 80) := by kernel_rfl
theorem Tryz.infoStr9 : (Tryz.prog.info? 9).map (fun i => (i.zero, i.size, i.bytes)) = some (some (.string ⟨#[]⟩), 1, 16) := by kernel_rfl
theorem run_app_zero {P : Program} (w : World) (t ty e : TypeId) (i : TypeInfo) (ht : P.underlying t = some (.slice e)) (hi : P.info? e = some i) (A A2 : Option Addr) (n c c2 : Nat) (hn : n ≤ c) : (Builtin.append_ #[t, t] ty #[.slice A n c, .slice A2 0 c2]).run P w = .ok (.slice A n c) w := by
 cases A2 <;> cases A <;> simp [Builtin.append_, run_underlying ht, sizeOf, typeInfo, hi, Builtin.lenOf, Builtin.firstCells, hn, storeCells, loadCells, loadCellsFrom]
def OwnOk9 (t : TypeId) (size : Nat) (cells : List Value) (n : Nat) (w : World) (e : Ending) (w' : World) : Prop :=
 ∃ A2 c2, e = .returned (.slice A2 n c2) ∧ n ≤ c2 ∧ (n = 0 ∧ c2 = 0 ∨ ∃ g, A2 = some ⟨g, 0, none⟩ ∧ w'.ownsRow w.heap.size t size (.slice A2 n c2) n cells) ∧ Below w.heap.size w w'
theorem own_at_any {w : World} {B : Nat} {e : TypeId} {size : Nat} {A : Option Addr} {n c : Nat} {xs : List Value} (h : w.ownsRow B e size (.slice A n c) n xs) (hn : 0 < n) : ∃ g, A = some ⟨g, 0, none⟩ ∧ B ≤ g := by
 rcases h.2 with ⟨_, h0⟩ | ⟨g, cap, cur, hv, hB, _⟩
 ·omega
 ·injection hv with h1
  exact ⟨g, h1, hB⟩
theorem own_room_max {w : World} {B : Nat} {e : TypeId} {size : Nat} {A : Option Addr} {n c : Nat} {xs : List Value} (h : w.ownsRow B e size (.slice A n c) n xs) : c ≤ maxLen := by
 rcases h.2 with ⟨hv, _⟩ | ⟨g, cap, cur, hv, _, _, _, hc, _⟩
 ·injection hv with _ _ h3; subst h3; exact Nat.zero_le _
 ·injection hv with _ _ h3; subst h3; exact hc
set_option maxHeartbeats 1000000 in
theorem ownL_c {A : Option Addr} {n c : Nat} {xs : List Value} {w : World} {B : Nat} {t : TypeId} (h : Lies w B t A xs) (hl : xs.length = n * 2) (h1 : ∀ u ∈ xs, u.oneCell' = true) (hs : n ≤ 1000000000) : Calls Tryz.prog 60 #[.slice A n c] w (OwnOk9 32 2 xs n w) := by
 obtain ⟨i0, hi, hz0, hz1, hz2⟩ := info_parts Tryz.infoLi9
 have HL := hid h
 have HX := hid hl
 have H1 := hid h1
 clear h hl h1
 by_cases h0 : n = 0
 ·subst h0
  rcases A with _ | ad
  ·have hr : ∀ ty, (Builtin.append_ #[22, 22] ty #[.slice none 0 0, .slice none 0 c]).run Tryz.prog w = .ok (.slice none 0 0) w := fun ty => run_app_zero w _ ty _ i0 Tryz.underlying22 hi none none 0 0 c (Nat.le_refl _)
   go_enter Tryz.func60, Tryz.ntmps60
   go_wp2
   go_ret
   exact ⟨_, 0, rfl, Nat.le_refl _, .inl ⟨rfl, rfl⟩, Below.refl _ _⟩
  ·have hr : ∀ ty, (Builtin.append_ #[22, 22] ty #[.slice (some ad) 0 0, .slice (some ad) 0 c]).run Tryz.prog w = .ok (.slice (some ad) 0 0) w := fun ty => run_app_zero w _ ty _ i0 Tryz.underlying22 hi (some ad) (some ad) 0 0 c (Nat.le_refl _)
   go_enter Tryz.func60, Tryz.ntmps60
   go_wp2
   go_ret
   exact ⟨_, 0, rfl, Nat.le_refl _, .inl ⟨rfl, rfl⟩, Below.refl _ _⟩
 ·obtain ⟨ad, rfl⟩ : ∃ ad, A = some ad := by
   obtain ⟨ad, e, _⟩ := HL.out (fun e => by have := HX.out; rw [e] at this; simp at this; omega)
   exact ⟨ad, e⟩
  have hc : Hid (∀ j u, xs[j]? = some u → w.cell? (ad.add j) = some u) := hid fun j u hu => by
   obtain ⟨ad', e, _, hc⟩ := HL.out (fun e => by rw [e] at hu; simp at hu)
   injection e with e
   subst e
   exact hc j u hu
  go_enter Tryz.func60, Tryz.ntmps60
  go_wp2_with (at_builtin; refine wpList_new _ rfl _ _ 22 rfl w.heap.size 32 i0 _ 2 24 Tryz.underlying22 hi hz0 hz1 hz2 rfl 0 0 (some ad) 0 [] rfl rfl Lies.nil (by simp) ad n c xs rfl HX.out hc.out H1.out (by omega) (by unfold maxLen; omega) (by omega) (Nat.le_refl _) ?_)
  intro v' w1 hown hgrow
  obtain ⟨A2, c2, rfl⟩ := own_slice hown
  obtain ⟨g, e, _⟩ := own_at_any hown (by omega)
  have hr := (own_room hown).2
  have HO := hid hown
  have HB := hid (app_below0 (World.ownsRow_nil w w.heap.size 32 2) hgrow (Nat.le_refl _))
  have HE := hid e
  clear hown hgrow e
  go_wp2
  go_ret
  exact ⟨A2, c2, rfl, hr, .inr ⟨g, HE.out, HO.out⟩, HB.out⟩
set_option maxHeartbeats 1000000 in
theorem ownM_c {A : Option Addr} {n c : Nat} {xs : List Value} {w : World} {B : Nat} {t : TypeId} (h : Lies w B t A xs) (hl : xs.length = n * 7) (h1 : ∀ u ∈ xs, u.oneCell' = true) (hs : n ≤ 1000000000) : Calls Tryz.prog 66 #[.slice A n c] w (OwnOk9 38 7 xs n w) := by
 obtain ⟨i0, hi, hz0, hz1, hz2⟩ := info_parts Tryz.infoTk9
 have HL := hid h
 have HX := hid hl
 have H1 := hid h1
 clear h hl h1
 by_cases h0 : n = 0
 ·subst h0
  rcases A with _ | ad
  ·have hr : ∀ ty, (Builtin.append_ #[23, 23] ty #[.slice none 0 0, .slice none 0 c]).run Tryz.prog w = .ok (.slice none 0 0) w := fun ty => run_app_zero w _ ty _ i0 Tryz.underlying23 hi none none 0 0 c (Nat.le_refl _)
   go_enter Tryz.func66, Tryz.ntmps66
   go_wp2
   go_ret
   exact ⟨_, 0, rfl, Nat.le_refl _, .inl ⟨rfl, rfl⟩, Below.refl _ _⟩
  ·have hr : ∀ ty, (Builtin.append_ #[23, 23] ty #[.slice (some ad) 0 0, .slice (some ad) 0 c]).run Tryz.prog w = .ok (.slice (some ad) 0 0) w := fun ty => run_app_zero w _ ty _ i0 Tryz.underlying23 hi (some ad) (some ad) 0 0 c (Nat.le_refl _)
   go_enter Tryz.func66, Tryz.ntmps66
   go_wp2
   go_ret
   exact ⟨_, 0, rfl, Nat.le_refl _, .inl ⟨rfl, rfl⟩, Below.refl _ _⟩
 ·obtain ⟨ad, rfl⟩ : ∃ ad, A = some ad := by
   obtain ⟨ad, e, _⟩ := HL.out (fun e => by have := HX.out; rw [e] at this; simp at this; omega)
   exact ⟨ad, e⟩
  have hc : Hid (∀ j u, xs[j]? = some u → w.cell? (ad.add j) = some u) := hid fun j u hu => by
   obtain ⟨ad', e, _, hc⟩ := HL.out (fun e => by rw [e] at hu; simp at hu)
   injection e with e
   subst e
   exact hc j u hu
  go_enter Tryz.func66, Tryz.ntmps66
  go_wp2_with (at_builtin; refine wpList_new _ rfl _ _ 23 rfl w.heap.size 38 i0 _ 7 80 Tryz.underlying23 hi hz0 hz1 hz2 rfl 0 0 (some ad) 0 [] rfl rfl Lies.nil (by simp) ad n c xs rfl HX.out hc.out H1.out (by omega) (by unfold maxLen; omega) (by omega) (Nat.le_refl _) ?_)
  intro v' w1 hown hgrow
  obtain ⟨A2, c2, rfl⟩ := own_slice hown
  obtain ⟨g, e, _⟩ := own_at_any hown (by omega)
  have hr := (own_room hown).2
  have HO := hid hown
  have HB := hid (app_below0 (World.ownsRow_nil w w.heap.size 38 7) hgrow (Nat.le_refl _))
  have HE := hid e
  clear hown hgrow e
  go_wp2
  go_ret
  exact ⟨A2, c2, rfl, hr, .inr ⟨g, HE.out, HO.out⟩, HB.out⟩
set_option maxHeartbeats 1000000 in
theorem ownS_c {A : Option Addr} {n c : Nat} {xs : List Value} {w : World} {B : Nat} {t : TypeId} (h : Lies w B t A xs) (hl : xs.length = n * 1) (h1 : ∀ u ∈ xs, u.oneCell' = true) (hs : n ≤ 1000000000) : Calls Tryz.prog 71 #[.slice A n c] w (OwnOk9 9 1 xs n w) := by
 obtain ⟨i0, hi, hz0, hz1, hz2⟩ := info_parts Tryz.infoStr9
 have HL := hid h
 have HX := hid hl
 have H1 := hid h1
 clear h hl h1
 by_cases h0 : n = 0
 ·subst h0
  rcases A with _ | ad
  ·have hr : ∀ ty, (Builtin.append_ #[36, 36] ty #[.slice none 0 0, .slice none 0 c]).run Tryz.prog w = .ok (.slice none 0 0) w := fun ty => run_app_zero w _ ty _ i0 Tryz.underlying36 hi none none 0 0 c (Nat.le_refl _)
   go_enter Tryz.func71, Tryz.ntmps71
   go_wp2
   go_ret
   exact ⟨_, 0, rfl, Nat.le_refl _, .inl ⟨rfl, rfl⟩, Below.refl _ _⟩
  ·have hr : ∀ ty, (Builtin.append_ #[36, 36] ty #[.slice (some ad) 0 0, .slice (some ad) 0 c]).run Tryz.prog w = .ok (.slice (some ad) 0 0) w := fun ty => run_app_zero w _ ty _ i0 Tryz.underlying36 hi (some ad) (some ad) 0 0 c (Nat.le_refl _)
   go_enter Tryz.func71, Tryz.ntmps71
   go_wp2
   go_ret
   exact ⟨_, 0, rfl, Nat.le_refl _, .inl ⟨rfl, rfl⟩, Below.refl _ _⟩
 ·obtain ⟨ad, rfl⟩ : ∃ ad, A = some ad := by
   obtain ⟨ad, e, _⟩ := HL.out (fun e => by have := HX.out; rw [e] at this; simp at this; omega)
   exact ⟨ad, e⟩
  have hc : Hid (∀ j u, xs[j]? = some u → w.cell? (ad.add j) = some u) := hid fun j u hu => by
   obtain ⟨ad', e, _, hc⟩ := HL.out (fun e => by rw [e] at hu; simp at hu)
   injection e with e
   subst e
   exact hc j u hu
  go_enter Tryz.func71, Tryz.ntmps71
  go_wp2_with (at_builtin; refine wpList_new _ rfl _ _ 36 rfl w.heap.size 9 i0 _ 1 16 Tryz.underlying36 hi hz0 hz1 hz2 rfl 0 0 (some ad) 0 [] rfl rfl Lies.nil (by simp) ad n c xs rfl HX.out hc.out H1.out (by omega) (by unfold maxLen; omega) (by omega) (Nat.le_refl _) ?_)
  intro v' w1 hown hgrow
  obtain ⟨A2, c2, rfl⟩ := own_slice hown
  obtain ⟨g, e, _⟩ := own_at_any hown (by omega)
  have hr := (own_room hown).2
  have HO := hid hown
  have HB := hid (app_below0 (World.ownsRow_nil w w.heap.size 9 1) hgrow (Nat.le_refl _))
  have HE := hid e
  clear hown hgrow e
  go_wp2
  go_ret
  exact ⟨A2, c2, rfl, hr, .inr ⟨g, HE.out, HO.out⟩, HB.out⟩
theorem stable0L_c (A : Option Addr) (c : Nat) (f : Value) (w : World) : Calls Tryz.prog 92 #[.slice A 0 c, .int .i64 0, f] w fun e w' => e = .returned (.tuple #[]) ∧ w = w' := by
 have hi : Calls Tryz.prog 107 #[.slice A 0 c, .int .i64 0, .int .i64 0, f] w fun e w' => e = .returned (.tuple #[]) ∧ w = w' := by
  go_enter Tryz.func107, Tryz.ntmps107
  go_wp2_with fail
  go_loopw [8] (fun s8 wr => s8 = .int .i64 1 ∧ wr = w) (fun _ _ => 0)
  case atStart => exact ⟨rfl, rfl⟩
  case round =>
   obtain ⟨rfl, rfl⟩ := hrel
   go_wp2
   go_end0
   exact ⟨rfl, rfl⟩
 have HI := hid hi
 clear hi
 go_enter Tryz.func92, Tryz.ntmps92
 go_wp2_with fail
 go_loopw [7, 8] (fun s7 s8 wr => s7 = .int .i64 0 ∧ s8 = .int .i64 20 ∧ wr = w) (fun _ _ _ => 0)
 case atStart => exact ⟨rfl, rfl, rfl⟩
 case round =>
  obtain ⟨rfl, rfl, rfl⟩ := hrel
  go_wp2_with (go_at_call 107; refine HI.out.mono ?_; rintro e w1 ⟨rfl, rfl⟩)
  go_loopw [6] (fun s6 wr2 => s6 = .int .i64 20 ∧ wr2 = wr) (fun _ _ => 0)
  case atStart => exact ⟨rfl, rfl⟩
  case round =>
   obtain ⟨rfl, rfl⟩ := hrel
   go_wp2
   go_end0
   exact ⟨rfl, rfl⟩
theorem sort0L_c (A : Option Addr) (c : Nat) (f : Value) (w : World) : Calls Tryz.prog 61 #[.slice A 0 c, f] w fun e w' => e = .returned (.tuple #[]) ∧ w = w' := by
 go_enter Tryz.func61, Tryz.ntmps61
 go_wp2_with (go_at_call 92; refine (stable0L_c _ _ _ _).mono ?_; rintro e w1 ⟨rfl, rfl⟩)
 go_end0
 exact ⟨rfl, rfl⟩
theorem sortL_c {blk cap : Nat} {d : Array T9.Li} {w : World} {g : Nat} {cb : Array Value} (R : RowK encL 2 w blk 0 d) (S : SWK encL 2 w blk 0 d w) (eg : ∀ args w, (callFunc g args).run Tryz.prog w = .ok (.enter g args) w) (hcmp : CmpLays Tryz.prog g cb encL 2 cfL blk 0 d.size w) (ho : Sr.WO (ltOf cfL)) (hsz : d.size < 4611686018427387904) (n : Nat) (hn : n = d.size) :
  Calls Tryz.prog 61 #[.slice (some ⟨blk, 0, none⟩) n cap, .func (.func g) #[] cb] w fun e w' => e = .returned (.tuple #[]) ∧ SrtOkL cfL encL 2 w blk 0 d [] d.toList [] w' := by
 have hc := stableL srtL 2 Tryz.isAgg32 Tryz.sizeOf32 encL blk 0 cap d d w w R rfl S cfL g cb eg hcmp ho n hn hsz
 rw [← hn] at hc
 have HC := hid hc
 clear hc hcmp ho R S hn hsz
 go_enter Tryz.func61, Tryz.ntmps61
 go_wp2_with (go_at_call 92; refine HC.out.mono ?_; rintro e w1 ⟨rfl, hw1⟩)
 have H := hid hw1
 clear hw1
 go_wp2
 go_end0
 exact ⟨rfl, H.out⟩
theorem stable0M_c (A : Option Addr) (c : Nat) (f : Value) (w : World) : Calls Tryz.prog 94 #[.slice A 0 c, .int .i64 0, f] w fun e w' => e = .returned (.tuple #[]) ∧ w = w' := by
 have hi : Calls Tryz.prog 109 #[.slice A 0 c, .int .i64 0, .int .i64 0, f] w fun e w' => e = .returned (.tuple #[]) ∧ w = w' := by
  go_enter Tryz.func109, Tryz.ntmps109
  go_wp2_with fail
  go_loopw [8] (fun s8 wr => s8 = .int .i64 1 ∧ wr = w) (fun _ _ => 0)
  case atStart => exact ⟨rfl, rfl⟩
  case round =>
   obtain ⟨rfl, rfl⟩ := hrel
   go_wp2
   go_end0
   exact ⟨rfl, rfl⟩
 have HI := hid hi
 clear hi
 go_enter Tryz.func94, Tryz.ntmps94
 go_wp2_with fail
 go_loopw [7, 8] (fun s7 s8 wr => s7 = .int .i64 0 ∧ s8 = .int .i64 20 ∧ wr = w) (fun _ _ _ => 0)
 case atStart => exact ⟨rfl, rfl, rfl⟩
 case round =>
  obtain ⟨rfl, rfl, rfl⟩ := hrel
  go_wp2_with (go_at_call 109; refine HI.out.mono ?_; rintro e w1 ⟨rfl, rfl⟩)
  go_loopw [6] (fun s6 wr2 => s6 = .int .i64 20 ∧ wr2 = wr) (fun _ _ => 0)
  case atStart => exact ⟨rfl, rfl⟩
  case round =>
   obtain ⟨rfl, rfl⟩ := hrel
   go_wp2
   go_end0
   exact ⟨rfl, rfl⟩
theorem sort0M_c (A : Option Addr) (c : Nat) (f : Value) (w : World) : Calls Tryz.prog 67 #[.slice A 0 c, f] w fun e w' => e = .returned (.tuple #[]) ∧ w = w' := by
 go_enter Tryz.func67, Tryz.ntmps67
 go_wp2_with (go_at_call 94; refine (stable0M_c _ _ _ _).mono ?_; rintro e w1 ⟨rfl, rfl⟩)
 go_end0
 exact ⟨rfl, rfl⟩
theorem sortM_c {blk cap : Nat} {d : Array MTk} {w : World} {g : Nat} {cb : Array Value} (R : RowK encK 7 w blk 0 d) (S : SWK encK 7 w blk 0 d w) (eg : ∀ args w, (callFunc g args).run Tryz.prog w = .ok (.enter g args) w) (hcmp : CmpLays Tryz.prog g cb encK 7 cfM blk 0 d.size w) (ho : Sr.WO (ltOf cfM)) (hsz : d.size < 4611686018427387904) (n : Nat) (hn : n = d.size) :
  Calls Tryz.prog 67 #[.slice (some ⟨blk, 0, none⟩) n cap, .func (.func g) #[] cb] w fun e w' => e = .returned (.tuple #[]) ∧ SrtOkK cfM encK 7 w blk 0 d [] d.toList [] w' := by
 have hc := stableK srtK 7 Tryz.isAgg38 Tryz.sizeOf38 encK blk 0 cap d d w w R rfl S cfM g cb eg hcmp ho n hn hsz
 rw [← hn] at hc
 have HC := hid hc
 clear hc hcmp ho R S hn hsz
 go_enter Tryz.func67, Tryz.ntmps67
 go_wp2_with (go_at_call 94; refine HC.out.mono ?_; rintro e w1 ⟨rfl, hw1⟩)
 have H := hid hw1
 clear hw1
 go_wp2
 go_end0
 exact ⟨rfl, H.out⟩
theorem stable0S_c (A : Option Addr) (c : Nat) (f : Value) (w : World) : Calls Tryz.prog 95 #[.slice A 0 c, .int .i64 0, f] w fun e w' => e = .returned (.tuple #[]) ∧ w = w' := by
 have hi : Calls Tryz.prog 111 #[.slice A 0 c, .int .i64 0, .int .i64 0, f] w fun e w' => e = .returned (.tuple #[]) ∧ w = w' := by
  go_enter Tryz.func111, Tryz.ntmps111
  go_wp2_with fail
  go_loopw [8] (fun s8 wr => s8 = .int .i64 1 ∧ wr = w) (fun _ _ => 0)
  case atStart => exact ⟨rfl, rfl⟩
  case round =>
   obtain ⟨rfl, rfl⟩ := hrel
   go_wp2
   go_end0
   exact ⟨rfl, rfl⟩
 have HI := hid hi
 clear hi
 go_enter Tryz.func95, Tryz.ntmps95
 go_wp2_with fail
 go_loopw [7, 8] (fun s7 s8 wr => s7 = .int .i64 0 ∧ s8 = .int .i64 20 ∧ wr = w) (fun _ _ _ => 0)
 case atStart => exact ⟨rfl, rfl, rfl⟩
 case round =>
  obtain ⟨rfl, rfl, rfl⟩ := hrel
  go_wp2_with (go_at_call 111; refine HI.out.mono ?_; rintro e w1 ⟨rfl, rfl⟩)
  go_loopw [6] (fun s6 wr2 => s6 = .int .i64 20 ∧ wr2 = wr) (fun _ _ => 0)
  case atStart => exact ⟨rfl, rfl⟩
  case round =>
   obtain ⟨rfl, rfl⟩ := hrel
   go_wp2
   go_end0
   exact ⟨rfl, rfl⟩
theorem sort0S_c (A : Option Addr) (c : Nat) (f : Value) (w : World) : Calls Tryz.prog 72 #[.slice A 0 c, f] w fun e w' => e = .returned (.tuple #[]) ∧ w = w' := by
 go_enter Tryz.func72, Tryz.ntmps72
 go_wp2_with (go_at_call 95; refine (stable0S_c _ _ _ _).mono ?_; rintro e w1 ⟨rfl, rfl⟩)
 go_end0
 exact ⟨rfl, rfl⟩
theorem sortS_c {blk cap : Nat} {d : Array (List UInt8)} {w : World} {g : Nat} {cb : Array Value} (R : Row1 encS w blk 0 d) (S : SW encS w blk 0 d w) (eg : ∀ args w, (callFunc g args).run Tryz.prog w = .ok (.enter g args) w) (hcmp : CmpLays1 Tryz.prog g cb encS cmpS blk 0 d.size w) (ho : Sr.WO (ltOf cmpS)) (hsz : d.size < 20) (n : Nat) (hn : n = d.size) :
  Calls Tryz.prog 72 #[.slice (some ⟨blk, 0, none⟩) n cap, .func (.func g) #[] cb] w fun e w' => e = .returned (.tuple #[]) ∧ SrtOkS cmpS encS w blk 0 d [] d.toList [] w' := by
 have hc := stableS srtS encS blk 0 cap d d w w R rfl S cmpS g cb eg hcmp ho n hn hsz
 rw [← hn] at hc
 have HC := hid hc
 clear hc hcmp ho R S hn hsz
 go_enter Tryz.func72, Tryz.ntmps72
 go_wp2_with (go_at_call 95; refine HC.out.mono ?_; rintro e w1 ⟨rfl, hw1⟩)
 have H := hid hw1
 clear hw1
 go_wp2
 go_end0
 exact ⟨rfl, H.out⟩
theorem compact0L_c (A : Option Addr) (c : Nat) (f : Value) (w : World) : Calls Tryz.prog 64 #[.slice A 0 c, f] w fun e w' => e = .returned (.slice A 0 c) ∧ w = w' := by
 go_enter Tryz.func64, Tryz.ntmps64
 go_wp2
 go_ret
 exact ⟨rfl, rfl⟩
theorem compact0M_c (A : Option Addr) (c : Nat) (f : Value) (w : World) : Calls Tryz.prog 69 #[.slice A 0 c, f] w fun e w' => e = .returned (.slice A 0 c) ∧ w = w' := by
 go_enter Tryz.func69, Tryz.ntmps69
 go_wp2
 go_ret
 exact ⟨rfl, rfl⟩
theorem compact0S_c (A : Option Addr) (c : Nat) (f : Value) (w : World) : Calls Tryz.prog 75 #[.slice A 0 c, f] w fun e w' => e = .returned (.slice A 0 c) ∧ w = w' := by
 go_enter Tryz.func75, Tryz.ntmps75
 go_wp2
 go_ret
 exact ⟨rfl, rfl⟩
def RisOk (t : TypeId) (size : Nat) (cells : List Value) (n : Nat) (w : World) (e : Ending) (w' : World) : Prop :=
 ∃ A2 c2, e = .returned (.slice A2 n c2) ∧ n ≤ c2 ∧ (n = 0 ∧ c2 = 0 ∨ ∃ g, A2 = some ⟨g, 0, none⟩ ∧ w'.ownsRow w.heap.size t size (.slice A2 n c2) n cells) ∧ Lies w' w'.heap.size 0 A2 cells ∧ Below w.heap.size w w'
set_option maxHeartbeats 2000000 in
theorem risingL_c {A : Option Addr} {n c : Nat} {ls : List (T9.Li)} {w : World} {B : Nat} {t : TypeId} (h : Lies w B t A (ls.flatMap encL)) (hn : n = ls.length) (hs : n ≤ 1000000) :
  Calls Tryz.prog 38 #[.slice A n c, .func (.func 39) #[] #[]] w (RisOk 32 2 ((Sr.canon T9.ltL ls).flatMap encL) (Sr.canon T9.ltL ls).length w) := by
 have HL0 := hid (h.old (t' := 0))
 have HN := hid hn
 clear h hn
 obtain ⟨wB, hwB⟩ : ∃ u, w.alloc (.cells #[.func (.func 39) #[] #[]] 56) = u := ⟨_, rfl⟩
 have bB : Below w.heap.size w wB := by rw [← hwB]; exact (Below.refl _ w).alloc (Nat.le_refl _) _
 have kB : wB.heap[w.heap.size]? = some (.cells #[.func (.func 39) #[] #[]] 56 (0, 0)) := by rw [← hwB]; exact heap_alloc_new w _
 have sB : wB.heap.size = w.heap.size + 1 := by rw [← hwB]; simp
 have BB := hid bB
 have KB := hid kB
 have SB := hid sB
 have HL := hid (HL0.out.below (Nat.le_refl _) bB)
 have hO := ownL_c (c := c) (n := n) HL.out (by rw [HN.out]; exact lcells_len ls) (lcells_one ls) (by omega)
 have HOW := hid hO
 clear bB kB sB hO
 go_enter Tryz.func38, Tryz.ntmps38
 go_wp2_with (go_at_call 60; refine HOW.out.mono ?_; rintro e w1 ⟨A2, c2, rfl, hc2, ho, hb1⟩)
 have B1 := hid (BB.out.trans (hb1.mono (by have := SB.out; omega)))
 have KB1 := hid ((hb1.block w.heap.size (by have := SB.out; omega)).trans KB.out)
 have z1 := hb1.size
 have Z1 := hid z1
 have HO0 := hid ho
 clear hb1 ho z1
 by_cases h0 : n = 0
 ·subst h0
  have hnil : ls = [] := List.length_eq_zero_iff.1 HN.out.symm
  have HNL := hid hnil
  clear hnil
  go_wp2_with (go_at_call 61; refine (sort0L_c _ _ _ _).mono ?_; rintro e w2 ⟨rfl, rfl⟩)
  go_wp2_with (go_at_call 64; refine (compact0L_c _ _ _ _).mono ?_; rintro e w2 ⟨rfl, rfl⟩)
  go_ret
  exact ⟨A2, c2, by rw [HNL.out]; rfl, by rw [HNL.out]; exact Nat.zero_le _, by
   rcases HO0.out with q | ⟨g, e, o⟩
   ·exact .inl ⟨by rw [HNL.out]; rfl, q.2⟩
   ·refine .inr ⟨g, e, ?_⟩
    rw [HNL.out] at o ⊢
    exact own_less o (by have := SB.out; omega), by rw [HNL.out]; exact Lies.nil, B1.out⟩
 ·obtain ⟨g, hg, hown⟩ := HO0.out.resolve_left (fun q => h0 q.1)
  have HG := hid hg
  have HO := hid hown
  rw [hg] at hown
  have gl := hown.lt g rfl
  have GL9 := hid gl
  have R : RowK encL 2 w1 g 0 ls.toArray := rowK_own (d := ls.toArray) encL_len encL_one (by decide) rfl hown
  have S0 : SWK encL 2 w1 g 0 ls.toArray w1 := SWK.start R.hH
  have RR := hid R
  have HS0 := hid S0
  have bxc : w1.cell? ⟨w.heap.size, 0, none⟩ = some (.func (.func 39) #[] #[]) := cell_of_one KB1.out
  have bxl : w.heap.size < w1.heap.size := lt_of_block KB1.out
  have bxn : w.heap.size ≠ g := by have := SB.out; omega
  have HCS := hid (sortL_c (cap := c2) R S0 (fun args w => Tryz.call62 args w) (laysL (size := ls.toArray.size) bxc bxn bxl) (by rw [ltOf_L]; exact T9.woL) (by simp; have := HN.out; omega) n (by simp; exact HN.out))
  clear hown R S0 gl
  rw [hg]
  clear hg
  have BX := hid bxc
  clear bxc
  go_wp2_with (go_at_call 61; refine HCS.out.mono ?_; rintro e w2 ⟨rfl, dk, W, hs2, hd2, hl2, hw2, hsr, hst⟩)
  have S2 := hid hs2
  have SR := hid (And.intro hd2 (And.intro hl2 (And.intro hsr hst)))
  have hds : dk.size = n := by rw [hd2]; simp; exact HN.out.symm
  have CC := compactL cptL 2 Tryz.isAgg32 Tryz.sizeOf32 encL (⟨0, []⟩ : T9.Li) (fun w => Tryz.zeroValue32 w) rfl g 0 c2 ls.toArray dk w1 w2 RR.out (by rw [hd2]) hs2 (Sr.eqv T9.ltL) 65 #[.pointer (some ⟨w.heap.size, 0, none⟩)] (fun args w => Tryz.call65 args w) (eqsL BX.out bxn bxl) (by rw [hds]; exact hc2) (by have := (own_room_max HO.out); unfold maxLen at this; omega) (by omega)
  rw [hds] at CC
  have HCC := hid CC
  have HDS := hid hds
  clear hs2 hd2 hl2 hw2 hsr hst CC hds
  go_wp2_with (go_at_call 64; refine HCC.out.mono ?_; rintro e w3 ⟨dk3, m, rfl, hs3, hd3, hm0, hl30⟩; have HM := hid hm0; have HL3 := hid hl30; have HD3 := hid hd3; clear hm0 hl30 hd3)
  have hm := HM.out
  have hl3 := HL3.out
  have hd3 := HD3.out
  have CN : Sr.compact (Sr.eqv T9.ltL) dk.toList = Sr.canon T9.ltL ls := Sr.compact_canon T9.woL (by rw [← ltOf_L]; have := SR.out.2.2.1; rw [SR.out.2.1]; simpa using this) (by rw [← ltOf_L]; have := SR.out.2.2.2; rw [SR.out.2.1]; simpa using this)
  rw [CN] at hm hl3
  rw [hm] at hl3
  have hml : (Sr.canon T9.ltL ls).length ≤ n := by rw [HN.out]; exact Sr.canon_len ls
  have hd3' : dk3.size = ls.toArray.size := by rw [hd3, HDS.out, HN.out]; simp
  have HOG := hid (show w1.ownsRow wB.heap.size 32 2 (.slice (some ⟨g, 0, none⟩) n c2) n (ls.flatMap encL) by rw [← HG.out]; exact HO.out)
  have FIN : RisOk 32 2 ((Sr.canon T9.ltL ls).flatMap encL) (Sr.canon T9.ltL ls).length w (.returned (.slice (some ⟨g, 0, none⟩) m c2)) w3 := by
   refine ⟨some ⟨g, 0, none⟩, c2, by rw [hm], by omega, .inr ⟨g, rfl, ?_⟩, ?_, B1.out.trans (swk_below hs3 (by have := GL9.out; have := SB.out; omega) GL9.out.2)⟩
   ·exact own_less (swk_own hs3 RR.out hd3' HOG.out hl3 hml) (by have := SB.out; omega)
   ·exact swk_lies hs3 RR.out hd3' hl3 (SWK.lt hs3 GL9.out.2)
  have HF := hid FIN
  clear FIN hs3 hd3 hl3 CN hml hd3' hm
  go_wp2
  go_ret
  exact HF.out
set_option maxHeartbeats 2000000 in
theorem risingM_c {A : Option Addr} {n c : Nat} {ls : List (MTk)} {w : World} {B : Nat} {t : TypeId} (h : Lies w B t A (ls.flatMap encK)) (hn : n = ls.length) (hs : n ≤ 1000000) :
  Calls Tryz.prog 40 #[.slice A n c, .func (.func 41) #[] #[]] w (RisOk 38 7 ((Sr.canon ltM ls).flatMap encK) (Sr.canon ltM ls).length w) := by
 have HL0 := hid (h.old (t' := 0))
 have HN := hid hn
 clear h hn
 obtain ⟨wB, hwB⟩ : ∃ u, w.alloc (.cells #[.func (.func 41) #[] #[]] 60) = u := ⟨_, rfl⟩
 have bB : Below w.heap.size w wB := by rw [← hwB]; exact (Below.refl _ w).alloc (Nat.le_refl _) _
 have kB : wB.heap[w.heap.size]? = some (.cells #[.func (.func 41) #[] #[]] 60 (0, 0)) := by rw [← hwB]; exact heap_alloc_new w _
 have sB : wB.heap.size = w.heap.size + 1 := by rw [← hwB]; simp
 have BB := hid bB
 have KB := hid kB
 have SB := hid sB
 have HL := hid (HL0.out.below (Nat.le_refl _) bB)
 have hO := ownM_c (c := c) (n := n) HL.out (by rw [HN.out]; exact tkcells_len ls) (tkcells_one ls) (by omega)
 have HOW := hid hO
 clear bB kB sB hO
 go_enter Tryz.func40, Tryz.ntmps40
 go_wp2_with (go_at_call 66; refine HOW.out.mono ?_; rintro e w1 ⟨A2, c2, rfl, hc2, ho, hb1⟩)
 have B1 := hid (BB.out.trans (hb1.mono (by have := SB.out; omega)))
 have KB1 := hid ((hb1.block w.heap.size (by have := SB.out; omega)).trans KB.out)
 have z1 := hb1.size
 have Z1 := hid z1
 have HO0 := hid ho
 clear hb1 ho z1
 by_cases h0 : n = 0
 ·subst h0
  have hnil : ls = [] := List.length_eq_zero_iff.1 HN.out.symm
  have HNL := hid hnil
  clear hnil
  go_wp2_with (go_at_call 67; refine (sort0M_c _ _ _ _).mono ?_; rintro e w2 ⟨rfl, rfl⟩)
  go_wp2_with (go_at_call 69; refine (compact0M_c _ _ _ _).mono ?_; rintro e w2 ⟨rfl, rfl⟩)
  go_ret
  exact ⟨A2, c2, by rw [HNL.out]; rfl, by rw [HNL.out]; exact Nat.zero_le _, by
   rcases HO0.out with q | ⟨g, e, o⟩
   ·exact .inl ⟨by rw [HNL.out]; rfl, q.2⟩
   ·refine .inr ⟨g, e, ?_⟩
    rw [HNL.out] at o ⊢
    exact own_less o (by have := SB.out; omega), by rw [HNL.out]; exact Lies.nil, B1.out⟩
 ·obtain ⟨g, hg, hown⟩ := HO0.out.resolve_left (fun q => h0 q.1)
  have HG := hid hg
  have HO := hid hown
  rw [hg] at hown
  have gl := hown.lt g rfl
  have GL9 := hid gl
  have R : RowK encK 7 w1 g 0 ls.toArray := rowK_own (d := ls.toArray) encK_len encK_one (by decide) rfl hown
  have S0 : SWK encK 7 w1 g 0 ls.toArray w1 := SWK.start R.hH
  have RR := hid R
  have HS0 := hid S0
  have bxc : w1.cell? ⟨w.heap.size, 0, none⟩ = some (.func (.func 41) #[] #[]) := cell_of_one KB1.out
  have bxl : w.heap.size < w1.heap.size := lt_of_block KB1.out
  have bxn : w.heap.size ≠ g := by have := SB.out; omega
  have HCS := hid (sortM_c (cap := c2) R S0 (fun args w => Tryz.call68 args w) (laysM (size := ls.toArray.size) bxc bxn bxl) (by rw [ltOf_M]; exact woM) (by simp; have := HN.out; omega) n (by simp; exact HN.out))
  clear hown R S0 gl
  rw [hg]
  clear hg
  have BX := hid bxc
  clear bxc
  go_wp2_with (go_at_call 67; refine HCS.out.mono ?_; rintro e w2 ⟨rfl, dk, W, hs2, hd2, hl2, hw2, hsr, hst⟩)
  have S2 := hid hs2
  have SR := hid (And.intro hd2 (And.intro hl2 (And.intro hsr hst)))
  have hds : dk.size = n := by rw [hd2]; simp; exact HN.out.symm
  have CC := compactK cptK 7 Tryz.isAgg38 Tryz.sizeOf38 encK (⟨⟨0, 0, [], false, 0, 0, []⟩, none, 0⟩ : MTk) (fun w => Tryz.zeroValue38 w) rfl g 0 c2 ls.toArray dk w1 w2 RR.out (by rw [hd2]) hs2 (Sr.eqv ltM) 70 #[.pointer (some ⟨w.heap.size, 0, none⟩)] (fun args w => Tryz.call70 args w) (eqsM BX.out bxn bxl) (by rw [hds]; exact hc2) (by have := (own_room_max HO.out); unfold maxLen at this; omega) (by omega)
  rw [hds] at CC
  have HCC := hid CC
  have HDS := hid hds
  clear hs2 hd2 hl2 hw2 hsr hst CC hds
  go_wp2_with (go_at_call 69; refine HCC.out.mono ?_; rintro e w3 ⟨dk3, m, rfl, hs3, hd3, hm0, hl30⟩; have HM := hid hm0; have HL3 := hid hl30; have HD3 := hid hd3; clear hm0 hl30 hd3)
  have hm := HM.out
  have hl3 := HL3.out
  have hd3 := HD3.out
  have CN : Sr.compact (Sr.eqv ltM) dk.toList = Sr.canon ltM ls := Sr.compact_canon woM (by rw [← ltOf_M]; have := SR.out.2.2.1; rw [SR.out.2.1]; simpa using this) (by rw [← ltOf_M]; have := SR.out.2.2.2; rw [SR.out.2.1]; simpa using this)
  rw [CN] at hm hl3
  rw [hm] at hl3
  have hml : (Sr.canon ltM ls).length ≤ n := by rw [HN.out]; exact Sr.canon_len ls
  have hd3' : dk3.size = ls.toArray.size := by rw [hd3, HDS.out, HN.out]; simp
  have HOG := hid (show w1.ownsRow wB.heap.size 38 7 (.slice (some ⟨g, 0, none⟩) n c2) n (ls.flatMap encK) by rw [← HG.out]; exact HO.out)
  have FIN : RisOk 38 7 ((Sr.canon ltM ls).flatMap encK) (Sr.canon ltM ls).length w (.returned (.slice (some ⟨g, 0, none⟩) m c2)) w3 := by
   refine ⟨some ⟨g, 0, none⟩, c2, by rw [hm], by omega, .inr ⟨g, rfl, ?_⟩, ?_, B1.out.trans (swk_below hs3 (by have := GL9.out; have := SB.out; omega) GL9.out.2)⟩
   ·exact own_less (swk_own hs3 RR.out hd3' HOG.out hl3 hml) (by have := SB.out; omega)
   ·exact swk_lies hs3 RR.out hd3' hl3 (SWK.lt hs3 GL9.out.2)
  have HF := hid FIN
  clear FIN hs3 hd3 hl3 CN hml hd3' hm
  go_wp2
  go_ret
  exact HF.out
set_option maxHeartbeats 2000000 in
theorem risingS_c {A : Option Addr} {n c : Nat} {ls : List (List UInt8)} {w : World} {B : Nat} {t : TypeId} (h : Lies w B t A (ls.map encS)) (hn : n = ls.length) (hs : n < 20) :
  Calls Tryz.prog 42 #[.slice A n c, .func (.func 43) #[] #[]] w (RisOk 9 1 ((Sr.canon T9.ltS ls).map encS) (Sr.canon T9.ltS ls).length w) := by
 have HL0 := hid (h.old (t' := 0))
 have HN := hid hn
 clear h hn
 obtain ⟨wB, hwB⟩ : ∃ u, w.alloc (.cells #[.func (.func 43) #[] #[]] 87) = u := ⟨_, rfl⟩
 have bB : Below w.heap.size w wB := by rw [← hwB]; exact (Below.refl _ w).alloc (Nat.le_refl _) _
 have kB : wB.heap[w.heap.size]? = some (.cells #[.func (.func 43) #[] #[]] 87 (0, 0)) := by rw [← hwB]; exact heap_alloc_new w _
 have sB : wB.heap.size = w.heap.size + 1 := by rw [← hwB]; simp
 have BB := hid bB
 have KB := hid kB
 have SB := hid sB
 have HL := hid (HL0.out.below (Nat.le_refl _) bB)
 have hO := ownS_c (c := c) (n := n) HL.out (by rw [HN.out]; exact by simp) (gcells_one ls) (by omega)
 have HOW := hid hO
 clear bB kB sB hO
 go_enter Tryz.func42, Tryz.ntmps42
 go_wp2_with (go_at_call 71; refine HOW.out.mono ?_; rintro e w1 ⟨A2, c2, rfl, hc2, ho, hb1⟩)
 have B1 := hid (BB.out.trans (hb1.mono (by have := SB.out; omega)))
 have KB1 := hid ((hb1.block w.heap.size (by have := SB.out; omega)).trans KB.out)
 have z1 := hb1.size
 have Z1 := hid z1
 have HO0 := hid ho
 clear hb1 ho z1
 by_cases h0 : n = 0
 ·subst h0
  have hnil : ls = [] := List.length_eq_zero_iff.1 HN.out.symm
  have HNL := hid hnil
  clear hnil
  go_wp2_with (go_at_call 72; refine (sort0S_c _ _ _ _).mono ?_; rintro e w2 ⟨rfl, rfl⟩)
  go_wp2_with (go_at_call 75; refine (compact0S_c _ _ _ _).mono ?_; rintro e w2 ⟨rfl, rfl⟩)
  go_ret
  exact ⟨A2, c2, by rw [HNL.out]; rfl, by rw [HNL.out]; exact Nat.zero_le _, by
   rcases HO0.out with q | ⟨g, e, o⟩
   ·exact .inl ⟨by rw [HNL.out]; rfl, q.2⟩
   ·refine .inr ⟨g, e, ?_⟩
    rw [HNL.out] at o ⊢
    exact own_less o (by have := SB.out; omega), by rw [HNL.out]; exact Lies.nil, B1.out⟩
 ·obtain ⟨g, hg, hown⟩ := HO0.out.resolve_left (fun q => h0 q.1)
  have HG := hid hg
  have HO := hid hown
  rw [hg] at hown
  have gl := hown.lt g rfl
  have GL9 := hid gl
  have R : Row1 encS w1 g 0 ls.toArray := row1_own (d := ls.toArray) (fun x => rfl) rfl hown
  have S0 : SW encS w1 g 0 ls.toArray w1 := SW.start R.hH
  have RR := hid R
  have HS0 := hid S0
  have bxc : w1.cell? ⟨w.heap.size, 0, none⟩ = some (.func (.func 43) #[] #[]) := cell_of_one KB1.out
  have bxl : w.heap.size < w1.heap.size := lt_of_block KB1.out
  have bxn : w.heap.size ≠ g := by have := SB.out; omega
  have HCS := hid (sortS_c (cap := c2) R S0 (fun args w => Tryz.call73 args w) (laysS (size := ls.toArray.size) bxc bxn bxl) (by rw [ltOf_S]; exact T9.woS) (by simp; have := HN.out; omega) n (by simp; exact HN.out))
  clear hown R S0 gl
  rw [hg]
  clear hg
  have BX := hid bxc
  clear bxc
  go_wp2_with (go_at_call 72; refine HCS.out.mono ?_; rintro e w2 ⟨rfl, dk, W, hs2, hd2, hl2, hw2, hsr, hst⟩)
  have S2 := hid hs2
  have SR := hid (And.intro hd2 (And.intro hl2 (And.intro hsr hst)))
  have hds : dk.size = n := by rw [hd2]; simp; exact HN.out.symm
  have CC := compactS cptS encS ([] : List UInt8) (fun w => Tryz.zeroValue9 w) g 0 c2 ls.toArray dk w1 w2 RR.out (by rw [hd2]) hs2 (Sr.eqv T9.ltS) 76 #[.pointer (some ⟨w.heap.size, 0, none⟩)] (fun args w => Tryz.call76 args w) (eqsS BX.out bxn bxl) (by rw [hds]; exact hc2) (by have := (own_room_max HO.out); unfold maxLen at this; omega) (by omega)
  rw [hds] at CC
  have HCC := hid CC
  have HDS := hid hds
  clear hs2 hd2 hl2 hw2 hsr hst CC hds
  go_wp2_with (go_at_call 75; refine HCC.out.mono ?_; rintro e w3 ⟨dk3, m, rfl, hs3, hd3, hm0, hl30⟩; have HM := hid hm0; have HL3 := hid hl30; have HD3 := hid hd3; clear hm0 hl30 hd3)
  have hm := HM.out
  have hl3 := HL3.out
  have hd3 := HD3.out
  have CN : Sr.compact (Sr.eqv T9.ltS) dk.toList = Sr.canon T9.ltS ls := Sr.compact_canon T9.woS (by rw [← ltOf_S]; have := SR.out.2.2.1; rw [SR.out.2.1]; simpa using this) (by rw [← ltOf_S]; have := SR.out.2.2.2; rw [SR.out.2.1]; simpa using this)
  rw [CN] at hm hl3
  rw [hm] at hl3
  have hml : (Sr.canon T9.ltS ls).length ≤ n := by rw [HN.out]; exact Sr.canon_len ls
  have hd3' : dk3.size = ls.toArray.size := by rw [hd3, HDS.out, HN.out]; simp
  have HOG := hid (show w1.ownsRow wB.heap.size 9 1 (.slice (some ⟨g, 0, none⟩) n c2) n (ls.map encS) by rw [← HG.out]; exact HO.out)
  have FIN : RisOk 9 1 ((Sr.canon T9.ltS ls).map encS) (Sr.canon T9.ltS ls).length w (.returned (.slice (some ⟨g, 0, none⟩) m c2)) w3 := by
   refine ⟨some ⟨g, 0, none⟩, c2, by rw [hm], by omega, .inr ⟨g, rfl, ?_⟩, ?_, B1.out.trans (sw_below hs3 (by have := GL9.out; have := SB.out; omega) GL9.out.2)⟩
   ·exact own_less (sw_own hs3 RR.out hd3' HOG.out hl3 hml) (by have := SB.out; omega)
   ·exact sw_lies hs3 RR.out hd3' hl3 (SW.lt hs3 GL9.out.2)
  have HF := hid FIN
  clear FIN hs3 hd3 hl3 CN hml hd3' hm
  go_wp2
  go_ret
  exact HF.out
end
end
end Go.Proofs.YtnhpkcphgdkdiaaGreat
