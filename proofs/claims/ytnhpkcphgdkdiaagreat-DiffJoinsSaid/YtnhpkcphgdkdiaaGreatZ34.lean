import Derived.Test.YtnhpkcphgdkdiaaGreatZ29
import Derived.Test.YtnhpkcphgdkdiaaGreatZ15
import Derived.Test.YtnhpkcphgdkdiaaGreatZ31
import Derived.Test.YtnhpkcphgdkdiaaGreatZ33
import Derived.Test.YtnhpkcphgdkdiaaGreatZ19
namespace Go.Proofs.YtnhpkcphgdkdiaaGreat
set_option linter.unusedSimpArgs false
set_option maxRecDepth 100000
section
set_option linter.unusedSimpArgs false
section
open Go.RowKit Go.Lib Go.Shelf
def vL (l : T9.Li) : Value := .agg (encL l).toArray
def vK (m : MTk) : Value := .agg (encK m).toArray
def idL (l : T9.Li) : Nat := l.id
def idK (m : MTk) : Nat := m.t.id
def firstN {α : Type} (g : α → Nat) (ls : List α) (k : Nat) : Option α := ls.find? (fun l => g l == k)
theorem first_hit {α : Type} {g : α → Nat} {ls : List α} {i : Nat} {l y : α} (hl : ls[i]? = some l) (h : firstN g (ls.take i) (g l) = some y) : firstN g (ls.take (i + 1)) = firstN g (ls.take i) := by
 funext k
 unfold firstN at *
 rw [take_nxt hl, List.find?_append]
 by_cases e : g l = k
 ·subst e
  rw [h]
  rfl
 ·simp [e]
theorem first_miss {α : Type} {g : α → Nat} {ls : List α} {i : Nat} {l : α} (hl : ls[i]? = some l) (h : firstN g (ls.take i) (g l) = none) : firstN g (ls.take (i + 1)) = fun k => if k = g l then some l else firstN g (ls.take i) k := by
 funext k
 unfold firstN at *
 rw [take_nxt hl, List.find?_append]
 by_cases e : k = g l
 ·subst e
  rw [h]
  simp
 ·have e2 : ¬ g l = k := fun q => e q.symm
  simp [e, e2]
def MapOk (f : Nat → Option Value) (n : Nat) (w : World) (e : Ending) (w' : World) : Prop := ∃ mb, e = .returned (.map (some mb)) ∧ w.heap.size ≤ mb ∧ UM w' mb n f ∧ Below w.heap.size w w'
theorem upd_map {α : Type} {v : α → Value} {a : Nat} {l : α} {f : Nat → Option α} : (fun k => Option.map v ((fun k => if k = a then some l else f k) k)) = fun j => if j = a then some (v l) else (f j).map v := by
 funext j
 by_cases e : j = a
 ·simp [e]
 ·simp [e]
theorem zrL (w : World) : (zeroValue 32).run Tryz.prog w = .ok (.agg #[.int .u64 0, .string ⟨#[]⟩]) w := Tryz.zeroValue32 w
theorem zrK (w : World) : (zeroValue 38).run Tryz.prog w = .ok (.agg #[.int .u64 0, .int .u64 0, .string ⟨#[]⟩, .bool false, .float .f64 0, .float .f64 0, .slice none 0 0]) w := Tryz.zeroValue38 w
theorem idOfL_c (l : T9.Li) (w : World) : Calls Tryz.prog 19 #[vL l] w fun e w' => e = .returned (.int .u64 (idL l : Int)) ∧ Below w.heap.size w w' := by
 obtain ⟨w0, hw0⟩ : ∃ u, w.alloc (.cells #[.int .u64 (l.id : Int), .string (str l.name)] 32) = u := ⟨_, rfl⟩
 obtain ⟨pb, b, z⟩ := new_two hw0
 obtain ⟨q0, q1⟩ := two_cells pb
 show Calls Tryz.prog 19 #[.agg #[.int .u64 (l.id : Int), .string (str l.name)]] w _
 clear pb
 go_enter Tryz.func19, Tryz.ntmps19
 go_wp2
 go_ret
 exact ⟨rfl, b⟩
set_option maxHeartbeats 4000000 in
theorem byL_c {A : Option Addr} {n c : Nat} {ls : List T9.Li} {w : World} (hl : LL w A ls) (e1 : n = ls.length) (hs : n ≤ 1000000) (hi : ∀ l ∈ ls, idL l < 18446744073709551616) :
  Calls Tryz.prog 45 #[.slice A n c, .func (.func 19) #[] #[]] w (MapOk (fun k => (firstN idL ls k).map vL) n w) := by
 have E1 := hid e1
 have HI := hid hi
 have hmm := @run_makeMap Tryz.prog
 obtain ⟨w0, hw0⟩ : ∃ u, w.alloc (.map #[] 0) = u := ⟨_, rfl⟩
 have B0 : Hid (Below w.heap.size w w0) := hid (by rw [← hw0]; exact (Below.refl _ w).alloc (Nat.le_refl _) _)
 have U0 : Hid (UM w0 w.heap.size 0 (fun k => (firstN idL (ls.take 0) k).map vL)) := hid (by rw [← hw0]; exact UM.made w)
 have HL := hid hl
 clear hl e1 hi
 go_enter Tryz.func45, Tryz.ntmps45
 go_wp2
 clear hmm
 go_loopw [13] (fun s13 wr => ∃ i : Nat, s13 = .int .i64 i ∧ i ≤ n ∧ Hid (UM wr w.heap.size i (fun k => (firstN idL (ls.take i) k).map vL)) ∧ Hid (Below w.heap.size w wr)) (fun s13 _ => n - (intOf s13).toNat)
 case atStart => exact ⟨0, rfl, Nat.zero_le _, U0, B0⟩
 case round =>
  obtain ⟨i, rfl, hin, HU, BR⟩ := hrel
  by_cases hlt : i < n
  ·have hltz : (i : Int) < (n : Int) := by omega
   obtain ⟨ad, l, hA, hx, q0, q1⟩ := (HL.out.stay BR.out).at_ (k := i) (by have := E1.out; omega)
   subst hA
   have X := hid hx
   try dsimp only at q0 q1 q2 q3 q4 q5 q6
   have ID : Hid (idL l < 18446744073709551616) := hid (HI.out _ (List.mem_of_getElem? hx))
   obtain ⟨w2, hw2⟩ : ∃ u, wr.alloc (.cells #[.int .u64 (l.id : Int), .string (str l.name)] 32) = u := ⟨_, rfl⟩
   obtain ⟨lb, b2, z2⟩ := new_two hw2
   have LB := hid lb
   have B2 := hid b2
   have UL := hid HU.out.lt
   have CI := hid (idOfL_c l w2)
   have U2 := hid (HU.out.below b2 HU.out.lt)
   obtain ⟨l0, l1⟩ := two_cells lb
   clear hx lb b2
   rcases hF : firstN idL (ls.take i) l.id with _ | y
   ·have FM := hid (first_miss X.out hF)
    have LK : Hid (∀ v : World, Below w2.heap.size w2 v → (Instr.lookup 89 (.map (some w.heap.size)) (.int .u64 (l.id : Int)) true).run Tryz.prog v = .ok (.tuple #[.agg #[.int .u64 0, .string ⟨#[]⟩], .bool false]) v) := hid fun v hv => by
     have q : (Instr.lookup 89 (.map (some w.heap.size)) (.int .u64 (l.id : Int)) true).run Tryz.prog v = .ok (.tuple #[((firstN idL (ls.take i) l.id).map vL).getD (.agg #[.int .u64 0, .string ⟨#[]⟩]), .bool ((firstN idL (ls.take i) l.id).map vL).isSome]) v := (U2.out.below hv U2.out.lt).look_ok Tryz.underlying89 (zrL v) ID.out
     rw [hF] at q
     exact q
    clear hF
    go_upto_region 7 with (go_at_call 19; refine CI.out.mono ?_; rintro e w3 ⟨rfl, hb3⟩; have B3 := hid hb3; have hlk := LK.out w3 hb3; have LB3 := hid (blk_keep LB.out hb3); have hz3 := hb3.size; clear hb3; unfold idL)
    obtain ⟨w4, hw4⟩ : ∃ u, w3.alloc (.cells #[.int .u64 0, .string ⟨#[]⟩] 32) = u := ⟨_, rfl⟩
    try rw [hw4]
    have B4 : Hid (Below w3.heap.size w3 w4) := hid (by rw [← hw4]; exact (Below.refl _ _).alloc (Nat.le_refl _) _)
    have LB4 := hid (blk_keep LB3.out B4.out)
    have U4 := hid ((U2.out.below B3.out U2.out.lt).below B4.out (U2.out.below B3.out U2.out.lt).lt)
    have BW : Hid (Below w.heap.size w w4) := hid (((BR.out.trans (B2.out.mono BR.out.size)).trans (B3.out.mono (by have := BR.out.size; have := B2.out.size; omega))).trans (B4.out.mono (by have := BR.out.size; have := B2.out.size; omega)))
    have CI4 := hid (idOfL_c l w4.drew)
    refine wp_region_held_drew (S := fun u => u.heap[wr.heap.size]? = some (.cells #[.int .u64 (l.id : Int), .string (str l.name)] 32 (0, 0))) (by kernel_rfl) LB4.out (fun S0 => ?_)
    refine tkH 0 ?_ rfl (by kernel_rfl) rfl ?_ S0 ?_
    rotate_left
    ·intro u hu;go_simp;try rfl
    try simp only [Act.put, pS]
    refine tkH 1 ?_ rfl (by kernel_rfl) rfl ?_ S0 ?_
    rotate_left
    ·intro u hu;go_simp;try rfl
    try simp only [Act.put, pS]
    refine tkH 2 ?_ rfl (by kernel_rfl) rfl ?_ S0 ?_
    rotate_left
    ·intro u hu;obtain ⟨y0, y1⟩ := two_cells hu;go_simp;try rfl
    try simp only [Act.put, pS]
    refine tkH 4 ?_ rfl (by kernel_rfl) rfl ?_ S0 ?_
    rotate_left
    ·intro u hu;obtain ⟨y0, y1⟩ := two_cells hu;go_simp;try rfl
    try simp only [Act.put, pS]
    refine anyH_one9 (i := 3) (by kernel_rfl) rfl (fun K hK => ?_)
    go_simp
    refine CI4.out.mono ?_
    rintro e v ⟨rfl, hbv⟩
    have S1 := blk_keep S0 hbv
    have U5 := hid (UM.below (w := w4.drew) (U4.out.same rfl) hbv U4.out.lt)
    have BV := hid hbv
    refine hK _ _ S1 ?_
    clear hK K S0 hbv
    have S0 := S1
    clear S1
    try simp only [Act.put, pS]
    refine anyH_one9 (i := 5) (by kernel_rfl) rfl (fun K hK => ?_)
    obtain ⟨v2, hput, U6, hg6⟩ := U5.out.put Tryz.underlying89 (by unfold maxLen; omega) ID.out (vL l)
    refine step_mapUpdate rfl _ _ _ 89 rfl rfl rfl rfl hput ?_
    have S1 := (hg6.block wr.heap.size (lt_of_block S0) (fun q => by injection q with q; have := UL.out; omega)).trans S0
    refine hK _ _ S1 ?_
    clear hK K S0 S1 hput
    have HU6 := hid U6
    have HG6 := hid hg6
    clear U6 hg6
    try simp only [Act.put, pS]
    refine wpAnyH_done (by kernel_rfl) ?_ _
    go_wp2
    go_roundw
    case rel =>
     have BV2 : Below w.heap.size w v := (show Below w.heap.size w w4.drew from BW.out.drew).trans (BV.out.mono BW.out.size)
     exact ⟨i + 1, by go_num, by omega, hid (by rw [FM.out, upd_map]; exact HU6.out), hid (BV2.grown HG6.out BV2.size (fun k e => by cases e; exact Nat.le_refl _))⟩
    case measure => simp [intOf]; omega
   ·have FM := hid (first_hit X.out hF)
    have LK : Hid (∀ v : World, Below w2.heap.size w2 v → (Instr.lookup 89 (.map (some w.heap.size)) (.int .u64 (l.id : Int)) true).run Tryz.prog v = .ok (.tuple #[.agg #[.int .u64 (y.id : Int), .string (str y.name)], .bool true]) v) := hid fun v hv => by
     have q : (Instr.lookup 89 (.map (some w.heap.size)) (.int .u64 (l.id : Int)) true).run Tryz.prog v = .ok (.tuple #[((firstN idL (ls.take i) l.id).map vL).getD (.agg #[.int .u64 0, .string ⟨#[]⟩]), .bool ((firstN idL (ls.take i) l.id).map vL).isSome]) v := (U2.out.below hv U2.out.lt).look_ok Tryz.underlying89 (zrL v) ID.out
     rw [hF] at q
     exact q
    clear hF
    go_wp2_with (go_at_call 19; refine CI.out.mono ?_; rintro e w3 ⟨rfl, hb3⟩; have B3 := hid hb3; have hlk := LK.out w3 hb3; have LB3 := hid (blk_keep LB.out hb3); have hz3 := hb3.size; clear hb3; unfold idL)
    go_roundw
    case rel =>
     exact ⟨i + 1, by go_num, by omega, hid (by rw [FM.out]; exact ((U2.out.below B3.out U2.out.lt).kept (World.grownBy_alloc _ _ none) (by simp)).up (Nat.le_succ _)), hid (((BR.out.trans (B2.out.mono BR.out.size)).trans (B3.out.mono (by have := BR.out.size; have := B2.out.size; omega))).alloc (by have := BR.out.size; have := B2.out.size; omega) _)⟩
    case measure => simp [intOf]; omega
  ·obtain rfl : i = n := by omega
   have hltz : ¬ ((i : Int) < (i : Int)) := by omega
   have U2 := hid HU.out
   rw [E1.out, List.take_length] at U2
   go_wp2
   go_ret
   exact ⟨_, rfl, Nat.le_refl _, by rw [E1.out]; exact U2.out, BR.out⟩
theorem idOfK_c (m : MTk) (w : World) : Calls Tryz.prog 22 #[vK m] w fun e w' => e = .returned (.int .u64 (idK m : Int)) ∧ Below w.heap.size w w' := by
 obtain ⟨tk, A3, c3⟩ := m
 obtain ⟨w0, hw0⟩ : ∃ u, w.alloc (.cells #[.int .u64 (tk.id : Int), .int .u64 (tk.list : Int), .string (str tk.title), .bool tk.done, .float .f64 tk.rank, .float .f64 tk.est, .slice A3 tk.tags.length c3] 38) = u := ⟨_, rfl⟩
 obtain ⟨pb, b, z⟩ := new_seven hw0
 obtain ⟨q0, q1, q2, q3, q4, q5, q6⟩ := seven_cells pb
 show Calls Tryz.prog 22 #[.agg #[.int .u64 (tk.id : Int), .int .u64 (tk.list : Int), .string (str tk.title), .bool tk.done, .float .f64 tk.rank, .float .f64 tk.est, .slice A3 tk.tags.length c3]] w _
 clear pb
 go_enter Tryz.func22, Tryz.ntmps22
 go_wp2
 go_ret
 exact ⟨rfl, b⟩
set_option maxHeartbeats 4000000 in
theorem byK_c {A : Option Addr} {n c : Nat} {ls : List MTk} {w : World} (hl : KL w A ls) (e1 : n = ls.length) (hs : n ≤ 1000000) (hi : ∀ l ∈ ls, idK l < 18446744073709551616) :
  Calls Tryz.prog 48 #[.slice A n c, .func (.func 22) #[] #[]] w (MapOk (fun k => (firstN idK ls k).map vK) n w) := by
 have E1 := hid e1
 have HI := hid hi
 have hmm := @run_makeMap Tryz.prog
 obtain ⟨w0, hw0⟩ : ∃ u, w.alloc (.map #[] 0) = u := ⟨_, rfl⟩
 have B0 : Hid (Below w.heap.size w w0) := hid (by rw [← hw0]; exact (Below.refl _ w).alloc (Nat.le_refl _) _)
 have U0 : Hid (UM w0 w.heap.size 0 (fun k => (firstN idK (ls.take 0) k).map vK)) := hid (by rw [← hw0]; exact UM.made w)
 have HL := hid hl
 clear hl e1 hi
 go_enter Tryz.func48, Tryz.ntmps48
 go_wp2
 clear hmm
 go_loopw [13] (fun s13 wr => ∃ i : Nat, s13 = .int .i64 i ∧ i ≤ n ∧ Hid (UM wr w.heap.size i (fun k => (firstN idK (ls.take i) k).map vK)) ∧ Hid (Below w.heap.size w wr)) (fun s13 _ => n - (intOf s13).toNat)
 case atStart => exact ⟨0, rfl, Nat.zero_le _, U0, B0⟩
 case round =>
  obtain ⟨i, rfl, hin, HU, BR⟩ := hrel
  by_cases hlt : i < n
  ·have hltz : (i : Int) < (n : Int) := by omega
   obtain ⟨ad, ⟨tk, A3, c3⟩, hA, hx, hf, q0, q1, q2, q3, q4, q5, q6⟩ := (HL.out.stay BR.out).at_ (k := i) (by have := E1.out; omega)
   subst hA
   have X := hid hx
   try dsimp only at q0 q1 q2 q3 q4 q5 q6
   have ID : Hid (idK (⟨tk, A3, c3⟩ : MTk) < 18446744073709551616) := hid (HI.out _ (List.mem_of_getElem? hx))
   obtain ⟨w2, hw2⟩ : ∃ u, wr.alloc (.cells #[.int .u64 (tk.id : Int), .int .u64 (tk.list : Int), .string (str tk.title), .bool tk.done, .float .f64 tk.rank, .float .f64 tk.est, .slice A3 tk.tags.length c3] 38) = u := ⟨_, rfl⟩
   obtain ⟨lb, b2, z2⟩ := new_seven hw2
   have LB := hid lb
   have B2 := hid b2
   have UL := hid HU.out.lt
   have CI := hid (idOfK_c (⟨tk, A3, c3⟩ : MTk) w2)
   have U2 := hid (HU.out.below b2 HU.out.lt)
   obtain ⟨l0, l1, l2, l3, l4, l5, l6⟩ := seven_cells lb
   clear hx lb b2
   rcases hF : firstN idK (ls.take i) tk.id with _ | ⟨yt, yA, yc⟩
   ·have FM := hid (first_miss X.out hF)
    have LK : Hid (∀ v : World, Below w2.heap.size w2 v → (Instr.lookup 93 (.map (some w.heap.size)) (.int .u64 (tk.id : Int)) true).run Tryz.prog v = .ok (.tuple #[.agg #[.int .u64 0, .int .u64 0, .string ⟨#[]⟩, .bool false, .float .f64 0, .float .f64 0, .slice none 0 0], .bool false]) v) := hid fun v hv => by
     have q : (Instr.lookup 93 (.map (some w.heap.size)) (.int .u64 (tk.id : Int)) true).run Tryz.prog v = .ok (.tuple #[((firstN idK (ls.take i) tk.id).map vK).getD (.agg #[.int .u64 0, .int .u64 0, .string ⟨#[]⟩, .bool false, .float .f64 0, .float .f64 0, .slice none 0 0]), .bool ((firstN idK (ls.take i) tk.id).map vK).isSome]) v := (U2.out.below hv U2.out.lt).look_ok Tryz.underlying93 (zrK v) ID.out
     rw [hF] at q
     exact q
    clear hF
    go_upto_region 7 with (go_at_call 22; refine CI.out.mono ?_; rintro e w3 ⟨rfl, hb3⟩; have B3 := hid hb3; have hlk := LK.out w3 hb3; have LB3 := hid (blk_keep LB.out hb3); have hz3 := hb3.size; clear hb3; unfold idK)
    obtain ⟨w4, hw4⟩ : ∃ u, w3.alloc (.cells #[.int .u64 0, .int .u64 0, .string ⟨#[]⟩, .bool false, .float .f64 0, .float .f64 0, .slice none 0 0] 38) = u := ⟨_, rfl⟩
    try rw [hw4]
    have B4 : Hid (Below w3.heap.size w3 w4) := hid (by rw [← hw4]; exact (Below.refl _ _).alloc (Nat.le_refl _) _)
    have LB4 := hid (blk_keep LB3.out B4.out)
    have U4 := hid ((U2.out.below B3.out U2.out.lt).below B4.out (U2.out.below B3.out U2.out.lt).lt)
    have BW : Hid (Below w.heap.size w w4) := hid (((BR.out.trans (B2.out.mono BR.out.size)).trans (B3.out.mono (by have := BR.out.size; have := B2.out.size; omega))).trans (B4.out.mono (by have := BR.out.size; have := B2.out.size; omega)))
    have CI4 := hid (idOfK_c (⟨tk, A3, c3⟩ : MTk) w4.drew)
    refine wp_region_held_drew (S := fun u => u.heap[wr.heap.size]? = some (.cells #[.int .u64 (tk.id : Int), .int .u64 (tk.list : Int), .string (str tk.title), .bool tk.done, .float .f64 tk.rank, .float .f64 tk.est, .slice A3 tk.tags.length c3] 38 (0, 0))) (by kernel_rfl) LB4.out (fun S0 => ?_)
    refine tkH 0 ?_ rfl (by kernel_rfl) rfl ?_ S0 ?_
    rotate_left
    ·intro u hu;go_simp;try rfl
    try simp only [Act.put, pS]
    refine tkH 1 ?_ rfl (by kernel_rfl) rfl ?_ S0 ?_
    rotate_left
    ·intro u hu;go_simp;try rfl
    try simp only [Act.put, pS]
    refine tkH 2 ?_ rfl (by kernel_rfl) rfl ?_ S0 ?_
    rotate_left
    ·intro u hu;obtain ⟨y0, y1, y2, y3, y4, y5, y6⟩ := seven_cells hu;go_simp;try rfl
    try simp only [Act.put, pS]
    refine tkH 4 ?_ rfl (by kernel_rfl) rfl ?_ S0 ?_
    rotate_left
    ·intro u hu;obtain ⟨y0, y1, y2, y3, y4, y5, y6⟩ := seven_cells hu;go_simp;try rfl
    try simp only [Act.put, pS]
    refine anyH_one9 (i := 3) (by kernel_rfl) rfl (fun K hK => ?_)
    go_simp
    refine CI4.out.mono ?_
    rintro e v ⟨rfl, hbv⟩
    have S1 := blk_keep S0 hbv
    have U5 := hid (UM.below (w := w4.drew) (U4.out.same rfl) hbv U4.out.lt)
    have BV := hid hbv
    refine hK _ _ S1 ?_
    clear hK K S0 hbv
    have S0 := S1
    clear S1
    try simp only [Act.put, pS]
    refine anyH_one9 (i := 5) (by kernel_rfl) rfl (fun K hK => ?_)
    obtain ⟨v2, hput, U6, hg6⟩ := U5.out.put Tryz.underlying93 (by unfold maxLen; omega) ID.out (vK (⟨tk, A3, c3⟩ : MTk))
    refine step_mapUpdate rfl _ _ _ 93 rfl rfl rfl rfl hput ?_
    have S1 := (hg6.block wr.heap.size (lt_of_block S0) (fun q => by injection q with q; have := UL.out; omega)).trans S0
    refine hK _ _ S1 ?_
    clear hK K S0 S1 hput
    have HU6 := hid U6
    have HG6 := hid hg6
    clear U6 hg6
    try simp only [Act.put, pS]
    refine wpAnyH_done (by kernel_rfl) ?_ _
    go_wp2
    go_roundw
    case rel =>
     have BV2 : Below w.heap.size w v := (show Below w.heap.size w w4.drew from BW.out.drew).trans (BV.out.mono BW.out.size)
     exact ⟨i + 1, by go_num, by omega, hid (by rw [FM.out, upd_map]; exact HU6.out), hid (BV2.grown HG6.out BV2.size (fun k e => by cases e; exact Nat.le_refl _))⟩
    case measure => simp [intOf]; omega
   ·have FM := hid (first_hit X.out hF)
    have LK : Hid (∀ v : World, Below w2.heap.size w2 v → (Instr.lookup 93 (.map (some w.heap.size)) (.int .u64 (tk.id : Int)) true).run Tryz.prog v = .ok (.tuple #[.agg #[.int .u64 (yt.id : Int), .int .u64 (yt.list : Int), .string (str yt.title), .bool yt.done, .float .f64 yt.rank, .float .f64 yt.est, .slice yA yt.tags.length yc], .bool true]) v) := hid fun v hv => by
     have q : (Instr.lookup 93 (.map (some w.heap.size)) (.int .u64 (tk.id : Int)) true).run Tryz.prog v = .ok (.tuple #[((firstN idK (ls.take i) tk.id).map vK).getD (.agg #[.int .u64 0, .int .u64 0, .string ⟨#[]⟩, .bool false, .float .f64 0, .float .f64 0, .slice none 0 0]), .bool ((firstN idK (ls.take i) tk.id).map vK).isSome]) v := (U2.out.below hv U2.out.lt).look_ok Tryz.underlying93 (zrK v) ID.out
     rw [hF] at q
     exact q
    clear hF
    go_wp2_with (go_at_call 22; refine CI.out.mono ?_; rintro e w3 ⟨rfl, hb3⟩; have B3 := hid hb3; have hlk := LK.out w3 hb3; have LB3 := hid (blk_keep LB.out hb3); have hz3 := hb3.size; clear hb3; unfold idK)
    go_roundw
    case rel =>
     exact ⟨i + 1, by go_num, by omega, hid (by rw [FM.out]; exact ((U2.out.below B3.out U2.out.lt).kept (World.grownBy_alloc _ _ none) (by simp)).up (Nat.le_succ _)), hid (((BR.out.trans (B2.out.mono BR.out.size)).trans (B3.out.mono (by have := BR.out.size; have := B2.out.size; omega))).alloc (by have := BR.out.size; have := B2.out.size; omega) _)⟩
    case measure => simp [intOf]; omega
  ·obtain rfl : i = n := by omega
   have hltz : ¬ ((i : Int) < (i : Int)) := by omega
   have U2 := hid HU.out
   rw [E1.out, List.take_length] at U2
   go_wp2
   go_ret
   exact ⟨_, rfl, Nat.le_refl _, by rw [E1.out]; exact U2.out, BR.out⟩
end
end
end Go.Proofs.YtnhpkcphgdkdiaaGreat
