/- Stage 9: what is handed to the sort and to CompactFunc at tasks and at strings; this program bears their bodies. -/
import Derived.Test.YtbgdmmemahfpbaaTq
import Derived.Test.YtbgdmmemahfpbaaTh
import Derived.Test.YtbgdmmemahfpbaaTi
namespace Go.Proofs.Ytbgdmmemahfpbaa
open Go.Shelf Go.RowKit Go.Lib Go.Sort
set_option maxRecDepth 100000

set_option maxHeartbeats 1000000 in
theorem cmpM_w {bx : Nat} (x y : MTk) (W : World) (hb : W.cell? ⟨bx, 0, none⟩ = some (.func (.func 32) #[] #[])) (hlt : bx < W.heap.size) :
    Calls Try.prog 79 #[.agg (encK x).toArray, .agg (encK y).toArray, .pointer (some ⟨bx, 0, none⟩)] W fun e w' => e = .returned (.int .i64 (cfM x y)) ∧ ∃ q os', w' = grow (W.drewN q) os' := by
  obtain ⟨wB, hwB⟩ : ∃ u, (W.alloc (.cells (encK x).toArray 37)).alloc (.cells (encK y).toArray 37) = u := ⟨_, rfl⟩
  have sB : wB.heap.size = W.heap.size + 2 := by rw [← hwB]; simp
  have GB : Hid (∀ q os, grow (wB.drewN q) os = grow (W.drewN q) (#[.cells (encK x).toArray 37, .cells (encK y).toArray 37] ++ os)) := Lib.hid fun q os => by rw [← hwB]; exact grow_two W _ _ q os
  have cb : ∀ n os, (grow (wB.drewN n) os).cell? ⟨bx, 0, none⟩ = some (.func (.func 32) #[] #[]) := fun n os => cell_grown (by show bx < wB.heap.size; omega) (by
    have b2 : Below W.heap.size W wB := by rw [← hwB]; exact ((Below.refl _ W).alloc (Nat.le_refl _) _).alloc (by simp) _
    exact (b2.cell (p := ⟨bx, 0, none⟩) hlt).trans hb) n os
  have lx : ∀ n os, ∀ j (h : j < (encK x).length), (grow (wB.drewN n) os).cell? ⟨W.heap.size, j, none⟩ = some ((encK x)[j]) := fun n os j h => cell_grown (by show W.heap.size < wB.heap.size; omega) (by
    have k : wB.heap[W.heap.size]? = some (.cells (encK x).toArray 37 (0, 0)) := by rw [← hwB]; exact blk_alloc (heap_alloc_new W _) _
    rw [cell_of_row wB W.heap.size j _ _ _ k]
    simp [h]) n os
  have ly : ∀ n os, ∀ j (h : j < (encK y).length), (grow (wB.drewN n) os).cell? ⟨W.heap.size + 1, j, none⟩ = some ((encK y)[j]) := fun n os j h => cell_grown (by show W.heap.size + 1 < wB.heap.size; omega) (by
    have k : wB.heap[W.heap.size + 1]? = some (.cells (encK y).toArray 37 (0, 0)) := by
      rw [← hwB]
      have := heap_alloc_new (W.alloc (.cells (encK x).toArray 37)) (.cells (encK y).toArray 37)
      rwa [World.size_alloc] at this
    rw [cell_of_row wB (W.heap.size + 1) j _ _ _ k]
    simp [h]) n os
  have x0 := fun n os => lx n os 0 (by rw [encK_len]; decide)
  have y0 := fun n os => ly n os 0 (by rw [encK_len]; decide)
  have x1 := fun n os => lx n os 1 (by rw [encK_len]; decide)
  have y1 := fun n os => ly n os 1 (by rw [encK_len]; decide)
  have x2 := fun n os => lx n os 2 (by rw [encK_len]; decide)
  have y2 := fun n os => ly n os 2 (by rw [encK_len]; decide)
  have x3 := fun n os => lx n os 3 (by rw [encK_len]; decide)
  have y3 := fun n os => ly n os 3 (by rw [encK_len]; decide)
  have x4 := fun n os => lx n os 4 (by rw [encK_len]; decide)
  have y4 := fun n os => ly n os 4 (by rw [encK_len]; decide)
  have x5 := fun n os => lx n os 5 (by rw [encK_len]; decide)
  have y5 := fun n os => ly n os 5 (by rw [encK_len]; decide)
  have x6 := fun n os => lx n os 6 (by rw [encK_len]; decide)
  have y6 := fun n os => ly n os 6 (by rw [encK_len]; decide)
  clear lx ly hb sB
  unfold encK at x0 y0 x1 y1 x2 y2 x3 y3 x4 y4 x5 y5 x6 y6 hwB ⊢
  simp only [List.getElem_cons_zero, List.getElem_cons_succ] at x0 y0 x1 y1 x2 y2 x3 y3 x4 y4 x5 y5 x6 y6
  go_enter Try.func79, Try.ntmps79
  go_wp2_with fail
  clear hwB
  have mixed := mixed9
  go_quiet_grown (first | (go_at_call 32; first | exact Calls.grown_of (keyM_c x _) | exact Calls.grown_of (keyM_c y _)) | (go_at_call 74; refine Calls.grown_of (quiet_same (cmpU_c _ _ _))))
  go_wp2
  go_ret
  refine ⟨rfl, nq, _, GB.out nq osq⟩

set_option maxHeartbeats 1000000 in
theorem eqM_w {bx : Nat} (x y : MTk) (W : World) (hb : W.cell? ⟨bx, 0, none⟩ = some (.func (.func 32) #[] #[])) (hlt : bx < W.heap.size) :
    Calls Try.prog 81 #[.agg (encK x).toArray, .agg (encK y).toArray, .pointer (some ⟨bx, 0, none⟩)] W fun e w' => e = .returned (.bool (Sr.eqv ltM x y)) ∧ ∃ q os', w' = grow (W.drewN q) os' := by
  obtain ⟨wB, hwB⟩ : ∃ u, (W.alloc (.cells (encK x).toArray 37)).alloc (.cells (encK y).toArray 37) = u := ⟨_, rfl⟩
  have sB : wB.heap.size = W.heap.size + 2 := by rw [← hwB]; simp
  have GB : Hid (∀ q os, grow (wB.drewN q) os = grow (W.drewN q) (#[.cells (encK x).toArray 37, .cells (encK y).toArray 37] ++ os)) := Lib.hid fun q os => by rw [← hwB]; exact grow_two W _ _ q os
  have cb : ∀ n os, (grow (wB.drewN n) os).cell? ⟨bx, 0, none⟩ = some (.func (.func 32) #[] #[]) := fun n os => cell_grown (by show bx < wB.heap.size; omega) (by
    have b2 : Below W.heap.size W wB := by rw [← hwB]; exact ((Below.refl _ W).alloc (Nat.le_refl _) _).alloc (by simp) _
    exact (b2.cell (p := ⟨bx, 0, none⟩) hlt).trans hb) n os
  have lx : ∀ n os, ∀ j (h : j < (encK x).length), (grow (wB.drewN n) os).cell? ⟨W.heap.size, j, none⟩ = some ((encK x)[j]) := fun n os j h => cell_grown (by show W.heap.size < wB.heap.size; omega) (by
    have k : wB.heap[W.heap.size]? = some (.cells (encK x).toArray 37 (0, 0)) := by rw [← hwB]; exact blk_alloc (heap_alloc_new W _) _
    rw [cell_of_row wB W.heap.size j _ _ _ k]
    simp [h]) n os
  have ly : ∀ n os, ∀ j (h : j < (encK y).length), (grow (wB.drewN n) os).cell? ⟨W.heap.size + 1, j, none⟩ = some ((encK y)[j]) := fun n os j h => cell_grown (by show W.heap.size + 1 < wB.heap.size; omega) (by
    have k : wB.heap[W.heap.size + 1]? = some (.cells (encK y).toArray 37 (0, 0)) := by
      rw [← hwB]
      have := heap_alloc_new (W.alloc (.cells (encK x).toArray 37)) (.cells (encK y).toArray 37)
      rwa [World.size_alloc] at this
    rw [cell_of_row wB (W.heap.size + 1) j _ _ _ k]
    simp [h]) n os
  have x0 := fun n os => lx n os 0 (by rw [encK_len]; decide)
  have y0 := fun n os => ly n os 0 (by rw [encK_len]; decide)
  have x1 := fun n os => lx n os 1 (by rw [encK_len]; decide)
  have y1 := fun n os => ly n os 1 (by rw [encK_len]; decide)
  have x2 := fun n os => lx n os 2 (by rw [encK_len]; decide)
  have y2 := fun n os => ly n os 2 (by rw [encK_len]; decide)
  have x3 := fun n os => lx n os 3 (by rw [encK_len]; decide)
  have y3 := fun n os => ly n os 3 (by rw [encK_len]; decide)
  have x4 := fun n os => lx n os 4 (by rw [encK_len]; decide)
  have y4 := fun n os => ly n os 4 (by rw [encK_len]; decide)
  have x5 := fun n os => lx n os 5 (by rw [encK_len]; decide)
  have y5 := fun n os => ly n os 5 (by rw [encK_len]; decide)
  have x6 := fun n os => lx n os 6 (by rw [encK_len]; decide)
  have y6 := fun n os => ly n os 6 (by rw [encK_len]; decide)
  clear lx ly hb sB
  unfold encK at x0 y0 x1 y1 x2 y2 x3 y3 x4 y4 x5 y5 x6 y6 hwB ⊢
  simp only [List.getElem_cons_zero, List.getElem_cons_succ] at x0 y0 x1 y1 x2 y2 x3 y3 x4 y4 x5 y5 x6 y6
  go_enter Try.func81, Try.ntmps81
  go_wp2_with fail
  clear hwB
  have mixed := mixed9
  go_quiet_grown (first | (go_at_call 32; first | exact Calls.grown_of (keyM_c x _) | exact Calls.grown_of (keyM_c y _)))
  go_wp2
  go_ret
  refine ⟨ret_bool (eqvM_id x y).symm, nq, _, GB.out nq osq⟩

set_option maxHeartbeats 1000000 in
theorem cmpS_w {bx : Nat} (x y : List UInt8) (W : World) (hb : W.cell? ⟨bx, 0, none⟩ = some (.func (.func 34) #[] #[])) (hlt : bx < W.heap.size) :
    Calls Try.prog 83 #[encS x, encS y, .pointer (some ⟨bx, 0, none⟩)] W fun e w' => e = .returned (.int .i64 (cmpS x y)) ∧ ∃ q os', w' = grow (W.drewN q) os' := by
  have cb : ∀ n os, (grow (W.drewN n) os).cell? ⟨bx, 0, none⟩ = some (.func (.func 34) #[] #[]) := fun n os => cell_grown (by show bx < W.heap.size; omega) hb n os
  clear hb
  unfold encS
  go_enter Try.func83, Try.ntmps83
  go_wp2_with fail
  have mixed := mixed9
  go_quiet_grown (first | (go_at_call 34; first | exact Calls.grown_of (keyS_c x _) | exact Calls.grown_of (keyS_c y _)) | (go_at_call 84; refine Calls.grown_of (quiet_same (cmpStr_c _ _ _))))
  go_wp2
  go_ret
  exact ⟨rfl, nq, osq, rfl⟩

set_option maxHeartbeats 1000000 in
theorem eqS_w {bx : Nat} (x y : List UInt8) (W : World) (hb : W.cell? ⟨bx, 0, none⟩ = some (.func (.func 34) #[] #[])) (hlt : bx < W.heap.size) :
    Calls Try.prog 86 #[encS x, encS y, .pointer (some ⟨bx, 0, none⟩)] W fun e w' => e = .returned (.bool (Sr.eqv T9.ltS x y)) ∧ ∃ q os', w' = grow (W.drewN q) os' := by
  have cb : ∀ n os, (grow (W.drewN n) os).cell? ⟨bx, 0, none⟩ = some (.func (.func 34) #[] #[]) := fun n os => cell_grown (by show bx < W.heap.size; omega) hb n os
  clear hb
  unfold encS
  go_enter Try.func86, Try.ntmps86
  go_wp2_with fail
  have mixed := mixed9
  go_quiet_grown (first | (go_at_call 34; first | exact Calls.grown_of (keyS_c x _) | exact Calls.grown_of (keyS_c y _)))
  go_wp2
  go_ret
  exact ⟨ret_bool (eqvS_eq x y).symm, nq, osq, rfl⟩

theorem srtL : SrtL Try.prog := ⟨mixed9, Try.func134, Try.func131, Try.func124, Try.func125, Try.func112, Try.call134, Try.call131, Try.call124, Try.call125, Try.underlying0, Try.isAgg0, Try.sizeOf0, Try.zeroValue0, Try.underlying3, Try.isAgg3, Try.sizeOf3, Try.zeroValue3, Try.underlying4, Try.isAgg4, Try.sizeOf4, Try.zeroValue4, Try.underlying130, Try.isAgg130, Try.sizeOf130, Try.zeroValue130, Try.underlying22, Try.isAgg22, Try.sizeOf22, Try.zeroValue22, Try.underlying99, Try.isAgg99, Try.sizeOf99, Try.zeroValue99⟩
theorem cptL : CptL Try.prog := ⟨mixed9, Try.func75, Try.underlying0, Try.isAgg0, Try.sizeOf0, Try.zeroValue0, Try.underlying3, Try.isAgg3, Try.sizeOf3, Try.zeroValue3, Try.underlying4, Try.isAgg4, Try.sizeOf4, Try.zeroValue4, Try.underlying22, Try.isAgg22, Try.sizeOf22, Try.zeroValue22, Try.underlying101, Try.isAgg101, Try.sizeOf101, Try.zeroValue101⟩
theorem srtK : SrtK Try.prog := ⟨mixed9, Try.func135, Try.func132, Try.func126, Try.func127, Try.func114, Try.call135, Try.call132, Try.call126, Try.call127, Try.underlying0, Try.isAgg0, Try.sizeOf0, Try.zeroValue0, Try.underlying3, Try.isAgg3, Try.sizeOf3, Try.zeroValue3, Try.underlying4, Try.isAgg4, Try.sizeOf4, Try.zeroValue4, Try.underlying130, Try.isAgg130, Try.sizeOf130, Try.zeroValue130, Try.underlying23, Try.isAgg23, Try.sizeOf23, Try.zeroValue23, Try.underlying104, Try.isAgg104, Try.sizeOf104, Try.zeroValue104⟩
theorem cptK : CptK Try.prog := ⟨mixed9, Try.func80, Try.underlying0, Try.isAgg0, Try.sizeOf0, Try.zeroValue0, Try.underlying3, Try.isAgg3, Try.sizeOf3, Try.zeroValue3, Try.underlying4, Try.isAgg4, Try.sizeOf4, Try.zeroValue4, Try.underlying23, Try.isAgg23, Try.sizeOf23, Try.zeroValue23, Try.underlying44, Try.isAgg44, Try.sizeOf44, Try.zeroValue44⟩
theorem srtS : SrtS Try.prog := ⟨mixed9, Try.func128, Try.func115, Try.call128, Try.underlying0, Try.isAgg0, Try.sizeOf0, Try.zeroValue0, Try.underlying3, Try.isAgg3, Try.sizeOf3, Try.zeroValue3, Try.underlying4, Try.isAgg4, Try.sizeOf4, Try.zeroValue4, Try.underlying130, Try.isAgg130, Try.sizeOf130, Try.zeroValue130, Try.underlying35, Try.isAgg35, Try.sizeOf35, Try.zeroValue35, Try.underlying9, Try.isAgg9, Try.sizeOf9, Try.zeroValue9, Try.underlying107, Try.isAgg107, Try.sizeOf107, Try.zeroValue107⟩
theorem cptS : CptS Try.prog := ⟨mixed9, Try.func85, Try.underlying0, Try.isAgg0, Try.sizeOf0, Try.zeroValue0, Try.underlying3, Try.isAgg3, Try.sizeOf3, Try.zeroValue3, Try.underlying4, Try.isAgg4, Try.sizeOf4, Try.zeroValue4, Try.underlying35, Try.isAgg35, Try.sizeOf35, Try.zeroValue35, Try.underlying9, Try.isAgg9, Try.sizeOf9, Try.underlying109, Try.isAgg109, Try.sizeOf109, Try.zeroValue109⟩

theorem laysL {blk bx : Nat} {size : Nat} {w : World} (hb : w.cell? ⟨bx, 0, none⟩ = some (.func (.func 30) #[] #[])) (hne : bx ≠ blk) (hlt : bx < w.heap.size) : CmpLays Try.prog 73 #[.pointer (some ⟨bx, 0, none⟩)] encL 2 cfL blk 0 size w :=
  fun m os dk _ x y => cmpL_w x y _ (bx_cell hb hne hlt) (by unfold sortWorldK; rw [size_grow]; have q : (putRowK encL 2 (Sort.ahead w m) blk 0 dk).heap.size = w.heap.size := (by rw [size_putRowK]; rfl); omega)
theorem eqsL {blk bx : Nat} {size : Nat} {w : World} (hb : w.cell? ⟨bx, 0, none⟩ = some (.func (.func 30) #[] #[])) (hne : bx ≠ blk) (hlt : bx < w.heap.size) : EqL Try.prog 76 #[.pointer (some ⟨bx, 0, none⟩)] encL 2 (Sr.eqv T9.ltL) blk 0 size w :=
  fun m os dk _ x y => eqL_w x y _ (bx_cell hb hne hlt) (by unfold sortWorldK; rw [size_grow]; have q : (putRowK encL 2 (Sort.ahead w m) blk 0 dk).heap.size = w.heap.size := (by rw [size_putRowK]; rfl); omega)

theorem laysM {blk bx : Nat} {size : Nat} {w : World} (hb : w.cell? ⟨bx, 0, none⟩ = some (.func (.func 32) #[] #[])) (hne : bx ≠ blk) (hlt : bx < w.heap.size) : CmpLays Try.prog 79 #[.pointer (some ⟨bx, 0, none⟩)] encK 7 cfM blk 0 size w :=
  fun m os dk _ x y => cmpM_w x y _ (bx_cell hb hne hlt) (by unfold sortWorldK; rw [size_grow]; have q : (putRowK encK 7 (Sort.ahead w m) blk 0 dk).heap.size = w.heap.size := (by rw [size_putRowK]; rfl); omega)
theorem eqsM {blk bx : Nat} {size : Nat} {w : World} (hb : w.cell? ⟨bx, 0, none⟩ = some (.func (.func 32) #[] #[])) (hne : bx ≠ blk) (hlt : bx < w.heap.size) : EqK Try.prog 81 #[.pointer (some ⟨bx, 0, none⟩)] encK 7 (Sr.eqv ltM) blk 0 size w :=
  fun m os dk _ x y => eqM_w x y _ (bx_cell hb hne hlt) (by unfold sortWorldK; rw [size_grow]; have q : (putRowK encK 7 (Sort.ahead w m) blk 0 dk).heap.size = w.heap.size := (by rw [size_putRowK]; rfl); omega)

theorem laysS {blk bx : Nat} {size : Nat} {w : World} (hb : w.cell? ⟨bx, 0, none⟩ = some (.func (.func 34) #[] #[])) (hne : bx ≠ blk) (hlt : bx < w.heap.size) : CmpLays1 Try.prog 83 #[.pointer (some ⟨bx, 0, none⟩)] encS cmpS blk 0 size w :=
  fun m os dk _ x y => cmpS_w x y _ (bx_cell1 hb hne hlt) (by unfold sortWorld; rw [size_grow]; have q : (putRow encS (Sort.ahead w m) blk 0 dk).heap.size = w.heap.size := (by simp [putRow, mapBlock, Sort.ahead]); omega)
theorem eqsS {blk bx : Nat} {size : Nat} {w : World} (hb : w.cell? ⟨bx, 0, none⟩ = some (.func (.func 34) #[] #[])) (hne : bx ≠ blk) (hlt : bx < w.heap.size) : EqS Try.prog 86 #[.pointer (some ⟨bx, 0, none⟩)] encS (Sr.eqv T9.ltS) blk 0 size w :=
  fun m os dk _ x y => eqS_w x y _ (bx_cell1 hb hne hlt) (by unfold sortWorld; rw [size_grow]; have q : (putRow encS (Sort.ahead w m) blk 0 dk).heap.size = w.heap.size := (by simp [putRow, mapBlock, Sort.ahead]); omega)
end Go.Proofs.Ytbgdmmemahfpbaa
