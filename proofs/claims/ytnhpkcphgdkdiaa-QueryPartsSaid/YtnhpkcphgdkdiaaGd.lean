/- Stage 13: the order is one; the closure; the sort by it; slices.Reverse. -/
import Derived.Test.YtnhpkcphgdkdiaaGc
namespace Go.Proofs.Ytnhpkcphgdkdiaa
set_option maxRecDepth 100000
set_option linter.unusedSimpArgs false
section
open Go.RowKit Go.Lib Go.Shelf Go.Sort
/-- A comparison that is an order. -/
structure GC {α : Type} (c : α → α → Int) : Prop where
  anti : ∀ x y, c x y < 0 ↔ 0 < c y x
  tr : ∀ x y z, c x y < 0 → c y z < 0 → c x z < 0
  ng : ∀ x y z, c x z < 0 → c x y < 0 ∨ c y z < 0
theorem GC.wo {α : Type} {c : α → α → Int} (h : GC c) : Sr.WO (ltOf c) := by
  refine ⟨fun a => ?_, fun a b d h1 h2 => ?_, fun a b d h1 => ?_⟩
  · have := h.anti a a
    show decide (c a a < 0) = false
    exact decide_eq_false (by omega)
  · exact decide_eq_true (h.tr a b d (of_decide_eq_true h1) (of_decide_eq_true h2))
  · rcases h.ng a b d (of_decide_eq_true h1) with q | q
    · exact .inl (decide_eq_true q)
    · exact .inr (decide_eq_true q)
theorem GC.of_wo {α : Type} {lt : α → α → Bool} (h : Sr.WO lt) : GC (fun x y => if lt x y = true then -1 else if lt y x = true then 1 else 0 : α → α → Int) := by
  have key : ∀ x y, ((if lt x y = true then -1 else if lt y x = true then 1 else 0 : Int) < 0 ↔ lt x y = true) := fun x y => by
    split
    · simp_all
    · split <;> simp_all
  refine ⟨fun x y => ?_, fun x y z h1 h2 => (key x z).2 (h.tr x y z ((key x y).1 h1) ((key y z).1 h2)), fun x y z h1 => (h.ng x y z ((key x z).1 h1)).imp (key x y).2 (key y z).2⟩
  rw [key x y]
  have a1 := @Sr.WO.asym _ _ h x y
  split
  · have := h.asym (by assumption : lt y x = true)
    simp [this]
  · split <;> simp_all
theorem GC.map {α β : Type} {c : β → β → Int} (h : GC c) (f : α → β) : GC (fun x y => c (f x) (f y)) := ⟨fun _ _ => h.anti _ _, fun _ _ _ => h.tr _ _ _, fun _ _ _ => h.ng _ _ _⟩
theorem GC.zero {α : Type} : GC (fun _ _ => 0 : α → α → Int) := ⟨fun _ _ => by simp, fun _ _ _ h => absurd h (by simp), fun _ _ _ h => absurd h (by simp)⟩
theorem GC.lex {α : Type} {c d : α → α → Int} (h : GC c) (k : GC d) : GC (fun x y => orI (c x y) (d x y)) := by
  refine ⟨fun x y => ?_, fun x y z => ?_, fun x y z => ?_⟩
  · have h1 := h.anti x y
    have h2 := h.anti y x
    have k1 := k.anti x y
    dsimp only [orI]
    split <;> split <;> omega
  · have a1 := h.anti x y
    have a2 := h.anti y x
    have a3 := h.anti y z
    have a4 := h.anti z y
    have a5 := h.anti x z
    have a6 := h.anti z x
    have t1 := h.tr x y z
    have n1 := h.ng x z y
    have n2 := h.ng y x z
    have n3 := h.ng x y z
    have n4 := h.ng z y x
    have k1 := k.tr x y z
    dsimp only [orI]
    intro q1 q2
    split at q1 <;> split at q2 <;> split <;> omega
  · have a1 := h.anti x y
    have a2 := h.anti y x
    have a3 := h.anti y z
    have a4 := h.anti z y
    have a5 := h.anti x z
    have a6 := h.anti z x
    have n1 := h.ng x y z
    have n2 := h.ng y z x
    have n3 := h.ng z x y
    have k1 := k.ng x y z
    dsimp only [orI]
    intro q1
    split at q1 <;> split <;> split <;> omega
theorem gc_I : GC cmpI := by
  have e : cmpI = fun x y : Nat => if (decide (x < y)) = true then -1 else if (decide (y < x)) = true then 1 else 0 := by
    funext x y
    simp [cmpI]
  rw [e]
  exact GC.of_wo (lt := fun x y : Nat => decide (x < y)) ⟨fun a => by simp, fun a b c h k => by simp at *; omega, fun a b c h => by simp at *; omega⟩
theorem gc_S : GC cmpS := by
  have e : cmpS = fun x y : List UInt8 => if (T9.ltS x y) = true then -1 else if (T9.ltS y x) = true then 1 else 0 := by
    funext x y
    simp [cmpS, T9.ltS]
  rw [e]
  exact GC.of_wo T9.woS
theorem gc_F : GC cmpF := GC.of_wo (lt := Fl.lt) ⟨fun a => by rw [← Bool.not_eq_true, Fl.lt_true]; omega, fun a b c h k => by rw [Fl.lt_true] at *; omega, fun a b c h => by rw [Fl.lt_true, Fl.lt_true] at *; omega⟩
theorem gc_13 (s : Int) : GC (cf13 s) := by
  unfold cf13
  refine GC.lex ?_ (GC.map gc_I T9.Tk.id)
  by_cases h0 : s = 0
  · simp only [if_pos h0]
    exact GC.lex (GC.map gc_I T9.Tk.list) (GC.map gc_F T9.Tk.rank)
  · simp only [if_neg h0]
    by_cases h2 : s = 2
    · simp only [if_pos h2]
      exact GC.map gc_S T9.Tk.title
    · simp only [if_neg h2]
      by_cases h3 : s = 3
      · simp only [if_pos h3]
        exact GC.map gc_F T9.Tk.est
      · simp only [if_neg h3]
        exact GC.zero
/-- The order that a query asks for. -/
def lt13 (s : Int) (x y : T9.Tk) : Bool := ltOf (cf13 s) x y
theorem wo13 (s : Int) : Sr.WO (lt13 s) := (gc_13 s).wo

/-- A task with floats that are words. -/
def rk2 (m : MTk) : MTk := ⟨{ m.t with rank := rkw m.t.rank, est := rkw m.t.est }, m.A, m.c⟩
theorem rk2_id {m : MTk} (h : m.t.rank < 18446744073709551616) (k : m.t.est < 18446744073709551616) : rk2 m = m := by
  unfold rk2
  rw [rkw_id h, rkw_id k]
def encQ (m : MTk) : List Value := encK (rk2 m)
theorem encQ_len (m : MTk) : (encQ m).length = 7 := rfl
theorem encQ_one (m : MTk) : ∀ v ∈ encQ m, v.oneCell' = true := encK_one _
def cfQ (s : Int) (x y : MTk) : Int := cf13 s (rk2 x).t (rk2 y).t
theorem woQ (s : Int) : Sr.WO (ltOf (cfQ s)) := ((gc_13 s).map (fun m => (rk2 m).t)).wo
theorem tkcells_Q {ms : List MTk} (h : ∀ m ∈ ms, m.t.rank < 18446744073709551616 ∧ m.t.est < 18446744073709551616) : ms.flatMap encQ = tkcells ms := by
  unfold tkcells
  induction ms with
  | nil => rfl
  | cons m ms ih =>
    rw [List.flatMap_cons, List.flatMap_cons, ih fun x hx => h x (List.mem_cons_of_mem _ hx)]
    unfold encQ
    rw [rk2_id (h m List.mem_cons_self).1 (h m List.mem_cons_self).2]

theorem qcellsB {q : T9.Qr} {g : Nat} {w : World} (h : w.heap[g]? = some (.cells (qcells q) 28 (0, 0))) : w.cell? ⟨g, 3, none⟩ = some (.int .i64 q.sort) := (six_cells13 h).2.2.2.1
set_option maxHeartbeats 1000000 in
theorem runClo_c {q : T9.Qr} {g : Nat} (x y : MTk) (W : World) (hq : W.heap[g]? = some (.cells (qcells q) 28 (0, 0))) :
    Calls Try.prog 20 #[.agg (encQ x).toArray, .agg (encQ y).toArray, .pointer (some ⟨g, 0, none⟩)] W fun e w' => e = .returned (.int .i64 (cfQ q.sort x y)) ∧ ∃ q os', w' = grow (W.drewN q) os' := by
  obtain ⟨wB, hwB⟩ : ∃ u, (W.alloc (.cells (encQ x).toArray 32)).alloc (.cells (encQ y).toArray 32) = u := ⟨_, rfl⟩
  have GB : Hid (∀ q os, grow (wB.drewN q) os = grow (W.drewN q) (#[.cells (encQ x).toArray 32, .cells (encQ y).toArray 32] ++ os)) := Lib.hid fun q os => by rw [← hwB]; exact grow_two W _ _ q os
  have kx : wB.heap[W.heap.size]? = some (.cells (encQ x).toArray 32 (0, 0)) := by rw [← hwB]; exact blk_alloc (heap_alloc_new W _) _
  have ky : wB.heap[W.heap.size + 1]? = some (.cells (encQ y).toArray 32 (0, 0)) := by
    rw [← hwB]
    have := heap_alloc_new (W.alloc (.cells (encQ x).toArray 32)) (.cells (encQ y).toArray 32)
    rwa [World.size_alloc] at this
  have bB : Below W.heap.size W wB := by rw [← hwB]; exact ((Below.refl _ W).alloc (Nat.le_refl _) _).alloc (by simp) _
  have qs := qcellsB (blk_keep hq bB)
  have CC := Lib.hid (compare13_c (x := rk2 x) (y := rk2 y) q.sort wB (rkw_lt _) (rkw_lt _) (rkw_lt _) (rkw_lt _))
  unfold cfQ
  generalize cf13 q.sort (rk2 x).t (rk2 y).t = cc at *
  unfold encQ at kx ky hwB GB ⊢
  generalize rk2 x = x' at *
  generalize rk2 y = y' at *
  obtain ⟨⟨xi, xl, xt, xd, xr, xe, xg⟩, xA, xc⟩ := x'
  obtain ⟨⟨yi, yl, yt, yd, yr, ye, yg⟩, yA, yc⟩ := y'
  unfold encK at kx ky hwB CC ⊢
  dsimp only at kx ky hwB CC ⊢
  obtain ⟨x0, x1, x2, x3, x4, x5, x6⟩ := seven_cells kx
  obtain ⟨y0, y1, y2, y3, y4, y5, y6⟩ := seven_cells ky
  clear kx ky hq bB
  go_enter Try.func20, Try.ntmps20
  go_wp2_with (go_at_call 21; refine CC.out.mono ?_; rintro e w' ⟨rfl, n, os', rfl⟩)
  go_ret
  exact ⟨rfl, n, _, GB.out n os'⟩

theorem sortQ_c {s : Int} {blk cap : Nat} {d : Array MTk} {w : World} {g : Nat} {cb : Array Value} (R : RowK encQ 7 w blk 0 d) (S : SWK encQ 7 w blk 0 d w) (eg : ∀ args w, (callFunc g args).run Try.prog w = .ok (.enter g args) w) (hcmp : CmpLays Try.prog g cb encQ 7 (cfQ s) blk 0 d.size w) (hsz : d.size < 4611686018427387904) (n : Nat) (hn : n = d.size) :
    Calls Try.prog 19 #[.slice (some ⟨blk, 0, none⟩) n cap, .func (.func g) #[] cb] w fun e w' => e = .returned (.tuple #[]) ∧ SrtOkK (cfQ s) encQ 7 w blk 0 d [] d.toList [] w' := by
  have hc := stableK srtK 7 Try.isAgg32 Try.sizeOf32 encQ blk 0 cap d d w w R rfl S (cfQ s) g cb eg hcmp (woQ s) n hn hsz
  rw [← hn] at hc
  have HC := Lib.hid hc
  clear hc hcmp R S hn hsz
  go_enter Try.func19, Try.ntmps19
  go_wp2_with (go_at_call 34; refine HC.out.mono ?_; rintro e w1 ⟨rfl, hw1⟩)
  have H := Lib.hid hw1
  clear hw1
  go_wp2
  go_end0
  exact ⟨rfl, H.out⟩
end
end Go.Proofs.Ytnhpkcphgdkdiaa
