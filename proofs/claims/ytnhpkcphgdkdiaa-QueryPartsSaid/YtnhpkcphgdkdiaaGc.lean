/- Stage 13: the order that a query asks for; the closure that sorts by it; the sort. -/
import Derived.Test.YtnhpkcphgdkdiaaGb
import Derived.Test.YtnhpkcphgdkdiaaKd
namespace Go.Proofs.Ytnhpkcphgdkdiaa
set_option maxRecDepth 100000
set_option linter.unusedSimpArgs false
section
open Go.RowKit Go.Lib Go.Shelf Go.Sort
theorem Try.infoInt13 : (Try.prog.info? 3).map (fun i => (i.zero, i.size, i.bytes)) = some (some (.int .i64 0), 1, 8) := by kernel_rfl
theorem run_buildSlice_ints {P : Program} (w : World) (t e : TypeId) (a b : Value) (ha : a.cells = #[a]) (hb : b.cells = #[b]) (ie : TypeInfo) (z : Value) (hu : P.underlying t = some (.slice e)) (hie : P.info? e = some ie) (hz : ie.zero = some z) (hs : ie.size = 1) :
    (Instr.buildSlice t 2 #[(0, a), (1, b)]).run P w = .ok (.slice (some ⟨w.heap.size, 0, none⟩) 2 2) (w.alloc (.cells #[a, b] e)) := by
  refine run_buildSlice w t e 2 _ #[a, b] ie z hu hie hz (by rw [hs]; decide) (by rw [hs]; decide) ?_
  have q := Great.fill_whole (s := ie.size) (by rw [hs]; decide) [a, b] ((Array.range (2 * ie.size)).map (z.cells[· % z.cells.size]!)) (fun v hv => by
    rcases List.mem_cons.1 hv with rfl | hv
    · rw [ha, hs]; rfl
    · rw [List.mem_singleton] at hv; subst hv; rw [hb, hs]; rfl) (by simp)
  simpa only [List.flatMap_cons, List.flatMap_nil, ha, hb, List.zipIdx_cons, List.zipIdx_nil, List.map_cons, List.map_nil, List.append_nil, List.cons_append, List.nil_append, Nat.zero_add] using q
theorem bsI13 (a b : Int) (w : World) : (Instr.buildSlice 85 2 #[(0, .int .i64 a), (1, .int .i64 b)]).run Try.prog w = .ok (.slice (some ⟨w.heap.size, 0, none⟩) 2 2) (w.alloc (.cells #[.int .i64 a, .int .i64 b] 3)) := by
  obtain ⟨i0, hi, hz0, hz1, hz2⟩ := info_parts Try.infoInt13
  exact run_buildSlice_ints w 85 3 _ _ rfl rfl i0 _ Try.underlying85 hi hz0 hz1

/-- Below 0 where x comes ahead of y. -/
def cf13 (s : Int) (x y : T9.Tk) : Int :=
  orI (if s = 0 then orI (cmpI x.list y.list) (cmpF x.rank y.rank) else if s = 2 then cmpS x.title y.title else if s = 3 then cmpF x.est y.est else 0) (cmpI x.id y.id)

set_option maxRecDepth 100000 in
set_option maxHeartbeats 1000000 in
theorem compare13_c {x y : MTk} (s : Int) (W : World) (xr : x.t.rank < 18446744073709551616) (yr : y.t.rank < 18446744073709551616) (xe : x.t.est < 18446744073709551616) (ye : y.t.est < 18446744073709551616) :
    Calls Try.prog 21 #[.agg (encK x).toArray, .agg (encK y).toArray, .int .i64 s] W fun e w' => e = .returned (.int .i64 (cf13 s x.t y.t)) ∧ ∃ q os', w' = grow (W.drewN q) os' := by
  obtain ⟨wB, hwB⟩ : ∃ u, (W.alloc (.cells (encK x).toArray 32)).alloc (.cells (encK y).toArray 32) = u := ⟨_, rfl⟩
  have GB : Hid (∀ q os, grow (wB.drewN q) os = grow (W.drewN q) (#[.cells (encK x).toArray 32, .cells (encK y).toArray 32] ++ os)) := Lib.hid fun q os => by rw [← hwB]; exact grow_two W _ _ q os
  have kx : wB.heap[W.heap.size]? = some (.cells (encK x).toArray 32 (0, 0)) := by rw [← hwB]; exact blk_alloc (heap_alloc_new W _) _
  have ky : wB.heap[W.heap.size + 1]? = some (.cells (encK y).toArray 32 (0, 0)) := by
    rw [← hwB]
    have := heap_alloc_new (W.alloc (.cells (encK x).toArray 32)) (.cells (encK y).toArray 32)
    rwa [World.size_alloc] at this
  obtain ⟨⟨xi, xl, xt, xd, xr', xe', xg⟩, xA, xc⟩ := x
  obtain ⟨⟨yi, yl, yt, yd, yr', ye', yg⟩, yA, yc⟩ := y
  unfold encK at kx ky hwB ⊢
  unfold cf13
  dsimp only at kx ky hwB xr yr xe ye ⊢
  have CI := Lib.hid (fun (u : World) => cmpU_c xi yi u)
  have CL := Lib.hid (fun (u : World) => (cmpU_c xl yl u).mono (fun e w' (z : _ ∧ u = w') => (⟨z.1, z.2.symm⟩ : _ ∧ w' = u)))
  have CR := Lib.hid (fun (u : World) => (cmpF_c (w := u) xr yr).mono (fun e w' (z : _ ∧ u = w') => (⟨z.1, z.2.symm⟩ : _ ∧ w' = u)))
  have CE := Lib.hid (fun (u : World) => cmpF_c (w := u) xe ye)
  have CT := Lib.hid (fun (u : World) => cmpStr_c xt yt u)
  generalize cmpI xi yi = ci at *
  generalize cmpI xl yl = cl at *
  generalize cmpF xr' yr' = cr at *
  generalize cmpF xe' ye' = ce at *
  generalize cmpS xt yt = ct at *
  have KX := Lib.hid kx
  have KY := Lib.hid ky
  obtain ⟨x0, x1, x2, x3, x4, x5, x6⟩ := seven_cells kx
  obtain ⟨y0, y1, y2, y3, y4, y5, y6⟩ := seven_cells ky
  have hbs := fun a b w => bsI13 a b w
  clear kx ky xr yr xe ye
  have FIN1 : Hid (∀ (u : World) (n : Nat) (o : Obj), u = (wB.drewN n).alloc o → ∃ q os', u = grow (W.drewN q) os') := Lib.hid fun u n o e => ⟨n, _, (e.trans (alloc_eq_grow _ _)).trans (GB.out n #[o])⟩
  have FIN2 : Hid (∀ (u : World) (n : Nat) (o p : Obj), u = ((wB.drewN n).alloc o).alloc p → ∃ q os', u = grow (W.drewN q) os') := Lib.hid fun u n o p e => ⟨n, _, (e.trans (by
    have g := grow_two (wB.drewN n) o p 0 #[]
    rw [drewN_zero, drewN_zero, grow_empty] at g
    exact g)).trans (GB.out n (#[o, p] ++ #[]))⟩
  by_cases h0 : s = 0
  · subst h0
    rw [if_pos rfl]
    obtain ⟨w1, hw1⟩ : ∃ u, wB.drew.alloc (.cells #[.int .i64 cl, .int .i64 cr] 3) = u := ⟨_, rfl⟩
    obtain ⟨o1, b1, z1⟩ := new_two hw1
    have B1 : Hid (Below wB.heap.size wB w1) := Lib.hid ((Below.refl _ _).drew.trans b1)
    obtain ⟨c0, c1⟩ := two_cells o1
    have CO : Hid (Calls Try.prog 35 #[.slice (some ⟨wB.heap.size, 0, none⟩) 2 2] w1 (fun e w' => e = .returned (.int .i64 (orI cl cr)) ∧ w1 = w')) := Lib.hid (orI_c (c := 2) c0 c1)
    have x0' := (seven_cells (blk_keep KX.out B1.out)).1
    have y0' := (seven_cells (blk_keep KY.out B1.out)).1
    obtain ⟨w2, hw2⟩ : ∃ u, w1.alloc (.cells #[.int .i64 (orI cl cr), .int .i64 ci] 3) = u := ⟨_, rfl⟩
    obtain ⟨o2, b2, z2⟩ := new_two hw2
    have CO2 := Lib.hid (orI_c (c := 2) (two_cells o2).1 (two_cells o2).2)
    have F2 := Lib.hid (FIN2.out w2 1 _ _ (by rw [← hw2, ← hw1]; rfl))
    generalize orI cl cr = oo at *
    clear o1 b1 z1 c0 c1 o2 b2 z2
    go_enter Try.func21, Try.ntmps21
    go_wp2_with fail
    go_still_tail 10, (by kernel_rfl)
    still_call (CL.out _)
    repeat still_step
    still_call (CR.out _)
    repeat still_step
    refine wpStill_nil ?_
    change wpList _ _ _ _ _ wB.drew
    go_wp2_with fail
    refine CO.out.mono ?_
    rintro e w' ⟨rfl, rfl⟩
    go_wp2_with (go_at_call 36; refine (CI.out _).mono ?_; rintro e w' ⟨rfl, rfl⟩)
    refine CO2.out.mono ?_
    rintro e w' ⟨rfl, rfl⟩
    go_wp2
    go_ret
    exact ⟨rfl, F2.out⟩
  · rw [if_neg h0]
    have q0 : (s == 0) = false := by simp [h0]
    clear h0
    have fin : ∀ (a : Int) (w1 : World), wB.alloc (.cells #[.int .i64 a, .int .i64 ci] 3) = w1 → Calls Try.prog 35 #[.slice (some ⟨wB.heap.size, 0, none⟩) 2 2] w1 (fun e w' => e = .returned (.int .i64 (orI a ci)) ∧ w1 = w') ∧ ∃ q os', w1 = grow (W.drewN q) os' := fun a w1 h => by
      obtain ⟨o1, _, _⟩ := new_two h
      exact ⟨orI_c (two_cells o1).1 (two_cells o1).2, FIN1.out w1 0 _ h.symm⟩
    by_cases h2 : s = 2
    · subst h2
      rw [if_pos rfl]
      obtain ⟨w1, hw1⟩ : ∃ u, wB.alloc (.cells #[.int .i64 ct, .int .i64 ci] 3) = u := ⟨_, rfl⟩
      have F := Lib.hid (fin _ _ hw1)
      clear fin
      go_enter Try.func21, Try.ntmps21
      go_wp2_with (first | (go_at_call 35; refine F.out.1.mono ?_; rintro e w' ⟨rfl, rfl⟩) | (go_at_call 36; refine (CI.out _).mono ?_; rintro e w' ⟨rfl, rfl⟩) | (go_at_call 38; refine (CT.out _).mono ?_; rintro e w' ⟨rfl, rfl⟩))
      go_ret
      exact ⟨rfl, F.out.2⟩
    · rw [if_neg h2]
      have q2 : (s == 2) = false := by simp [h2]
      clear h2
      by_cases h3 : s = 3
      · subst h3
        rw [if_pos rfl]
        obtain ⟨w1, hw1⟩ : ∃ u, wB.alloc (.cells #[.int .i64 ce, .int .i64 ci] 3) = u := ⟨_, rfl⟩
        have F := Lib.hid (fin _ _ hw1)
        clear fin
        go_enter Try.func21, Try.ntmps21
        go_wp2_with (first | (go_at_call 35; refine F.out.1.mono ?_; rintro e w' ⟨rfl, rfl⟩) | (go_at_call 36; refine (CI.out _).mono ?_; rintro e w' ⟨rfl, rfl⟩) | (go_at_call 37; refine (CE.out _).mono ?_; rintro e w' ⟨rfl, rfl⟩))
        go_ret
        exact ⟨rfl, F.out.2⟩
      · rw [if_neg h3]
        have q3 : (s == 3) = false := by simp [h3]
        clear h3
        obtain ⟨w1, hw1⟩ : ∃ u, wB.alloc (.cells #[.int .i64 0, .int .i64 ci] 3) = u := ⟨_, rfl⟩
        have F := Lib.hid (fin _ _ hw1)
        clear fin
        go_enter Try.func21, Try.ntmps21
        go_wp2_with (first | (go_at_call 35; refine F.out.1.mono ?_; rintro e w' ⟨rfl, rfl⟩) | (go_at_call 36; refine (CI.out _).mono ?_; rintro e w' ⟨rfl, rfl⟩))
        go_ret
        exact ⟨rfl, F.out.2⟩
end
end Go.Proofs.Ytnhpkcphgdkdiaa
