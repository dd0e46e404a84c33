import Derived.Test.YtnhpkcphgdkdiaaGreatZ35
namespace Go.Proofs.YtnhpkcphgdkdiaaGreat
set_option linter.unusedSimpArgs false
set_option maxRecDepth 100000
section
set_option linter.unusedSimpArgs false
section
open Go.RowKit Go.Lib Go.Shelf
theorem wpList_delete_run {P : Program} {w w' : World} {ops : Array Oper} {rest : List Oper} {o : Oper} {a : Act} {Q : Exit → Act → World → Prop} (hg : o.guard = none) (m x : Operand) (t k : TypeId) (hop : o.op = Op.call { callee := Callee.builtin Builtin.delete, args := #[m, x], argTypes := #[t, k] })
  (vm vx : Value) (hm : a.eval m = vm) (hx : a.eval x = vx) (hrun : (Builtin.delete_ #[t, k] o.type #[vm, vx]).run P w = .ok (.tuple #[]) w') (hK : wpList P ops Q rest (a.put o.dst (.tuple #[])) w') : wpList P ops Q (o :: rest) a w := by
 refine wpList_plain hg fun K' hK' => ?_
 unfold Oper.wp
 simp [execOp, hop, resolve, invoke, builtin, hm, hx, hrun, Result.andThen]
 exact hK' _ _ hK
theorem UM.apart {w : World} {mb n : Nat} {f : Nat → Option Value} (h : UM w mb n f) {cs : Array Value} {t : TypeId} {fr : Nat × Nat} (hb : w.heap[mb]? = some (.cells cs t fr)) : False := by
 obtain ⟨D, ⟨es, clock, q, _⟩, _⟩ := h.out
 rw [hb] at q
 cases q
theorem UM.row {w : World} {mb n : Nat} {f : Nat → Option Value} (h : UM w mb n f) {base : Nat} {e : TypeId} {size m : Nat} {v : Value} {xs : List Value} (ho : w.ownsRow base e size v m xs) : some mb ≠ v.ownBlock := fun q => by
 obtain ⟨_, cs, fr, r⟩ := own_row ho mb q.symm
 exact h.apart r
def news {α : Type} (g : α → Nat) (sm : α → α → Bool) (os ns : List α) : List α := ns.filter (fun x => match firstN g os (g x) with | some y => !sm y x | none => true)
theorem news_none {α : Type} {g : α → Nat} {sm : α → α → Bool} {os ns : List α} {i : Nat} {x : α} (hx : ns[i]? = some x) (h : firstN g os (g x) = none) : news g sm os (ns.take (i + 1)) = news g sm os (ns.take i) ++ [x] := by
 rw [take_nxt hx]
 unfold news
 rw [List.filter_append]
 simp [h]
theorem news_same {α : Type} {g : α → Nat} {sm : α → α → Bool} {os ns : List α} {i : Nat} {x y : α} (hx : ns[i]? = some x) (h : firstN g os (g x) = some y) (q : sm y x = true) : news g sm os (ns.take (i + 1)) = news g sm os (ns.take i) := by
 rw [take_nxt hx]
 unfold news
 rw [List.filter_append]
 simp [h, q]
theorem news_diff {α : Type} {g : α → Nat} {sm : α → α → Bool} {os ns : List α} {i : Nat} {x y : α} (hx : ns[i]? = some x) (h : firstN g os (g x) = some y) (q : sm y x = false) : news g sm os (ns.take (i + 1)) = news g sm os (ns.take i) ++ [x] := by
 rw [take_nxt hx]
 unfold news
 rw [List.filter_append]
 simp [h, q]
theorem news_mem {α : Type} {g : α → Nat} {sm : α → α → Bool} {os ns : List α} {x : α} (h : x ∈ news g sm os ns) : x ∈ ns := (List.mem_filter.1 h).1
def leftN {α : Type} (g : α → Nat) (v : α → Value) (os ns : List α) (k : Nat) : Option Value := if (firstN g ns k).isSome then none else (firstN g os k).map v
theorem left_step {α : Type} {g : α → Nat} {v : α → Value} {os ns : List α} {i : Nat} {x : α} (hx : ns[i]? = some x) : leftN g v os (ns.take (i + 1)) = fun j => if j = g x then none else leftN g v os (ns.take i) j := by
 funext k
 unfold leftN firstN
 rw [take_nxt hx, List.find?_append]
 by_cases e : k = g x
 ·subst e
  cases List.find? (fun l => g l == g x) (List.take i ns) <;> simp
 ·have e2 : ¬ g x = k := fun q => e q.symm
  simp [e, e2]
theorem left_at {α : Type} {g : α → Nat} {v : α → Value} {os ns : List α} {k : Nat} (h : firstN g ns k = none) : leftN g v os ns k = (firstN g os k).map v := by
 unfold leftN
 rw [h]
 rfl
def smL (a b : T9.Li) : Bool := decide (a = b)
def smK (a b : MTk) : Bool := T9.same1 a.t b.t
def ChOkL (ps : List T9.Li) (f : Nat → Option Value) (w : World) (e : Ending) (w' : World) : Prop :=
 ∃ A c A2 c2 ss, e = .returned (.tuple #[.slice A ps.length c, .slice A2 ss.length c2]) ∧ Lies w' 0 32 A (lcells ps) ∧ ps.length ≤ c ∧ RisN f ss ∧ Lies w' 0 30 A2 (ss.map encU) ∧ ss.length ≤ c2 ∧ Below w.heap.size w w'
def ChOkK (ps : List MTk) (f : Nat → Option Value) (w : World) (e : Ending) (w' : World) : Prop :=
 ∃ A c A2 c2 ss, e = .returned (.tuple #[.slice A ps.length c, .slice A2 ss.length c2]) ∧ Lies w' 0 38 A (tkcells ps) ∧ ps.length ≤ c ∧ RisN f ss ∧ Lies w' 0 30 A2 (ss.map encU) ∧ ss.length ≤ c2 ∧ Below w.heap.size w w'
theorem own_room3 {w : World} {base : Nat} {e : TypeId} {size n c : Nat} {A : Option Addr} {xs : List Value} (h : w.ownsRow base e size (.slice A n c) n xs) : n ≤ c := (own_room h).2
set_option maxHeartbeats 8000000 in
theorem chgL_c {A1 A2 : Option Addr} {n1 c1 n2 c2 : Nat} {os ns : List T9.Li} {w : World} (ha : LL w A1 os) (hb : LL w A2 ns) (e1 : n1 = os.length) (e2 : n2 = ns.length) (s1 : n1 ≤ 1000) (s2 : n2 ≤ 1000)
  (ia : ∀ l ∈ os, idL l < 18446744073709551616) (ib : ∀ l ∈ ns, idL l < 18446744073709551616) (hd : ∀ i x, ns[i]? = some x → firstN idL (ns.take i) (idL x) = none) :
  Calls Tryz.prog 29 #[.slice A1 n1 c1, .slice A2 n2 c2, .func (.func 19) #[] #[], .func (.func 30) #[] #[]] w (ChOkL (news idL smL os ns) (leftN idL vL os ns) w) := by
 have CB := hid (byL_c (c := c1) ha e1 (by omega) ia)
 have HA := hid ha
 have HB := hid hb
 have E2 := hid e2
 have IB := hid ib
 have HD := hid hd
 skip
 clear ha hb e1 e2 ia ib hd
 go_enter Tryz.func29, Tryz.ntmps29
 go_wp2_with (go_at_call 45; refine CB.out.mono ?_; rintro e w1 ⟨mb, rfl, hmb, hU, hb1⟩; have U1 := hid hU; have B1 := hid hb1; have MB := hid hmb; clear hU hb1 hmb)
 go_loopw [11, 21] (fun s11 s21 wr => ∃ (i k : Nat) (A3 : Option Addr) (c3 : Nat), s21 = .int .i64 i ∧ i ≤ n2 ∧ s11 = .slice A3 k c3 ∧ k ≤ i ∧ Hid (k = (news idL smL os (ns.take i)).length) ∧ Hid (wr.ownsRow w.heap.size 32 2 (.slice A3 k c3) k (lcells (news idL smL os (ns.take i)))) ∧ Hid (UM wr mb n1 (leftN idL vL os (ns.take i))) ∧ Hid (Below w.heap.size w wr)) (fun _ s21 _ => n2 - (intOf s21).toNat)
 case atStart => exact ⟨0, 0, none, 0, rfl, Nat.zero_le _, rfl, Nat.le_refl _, hid rfl, hid (World.ownsRow_nil _ _ _ _), hid (by rw [show leftN idL vL os (ns.take 0) = fun k => (firstN idL os k).map vL from funext fun k => rfl]; exact U1.out), B1⟩
 case round =>
  obtain ⟨i, k, A3, c3, rfl, hin, rfl, hki, HKl, OW, HU, BR⟩ := hrel
  by_cases hlt : i < n2
  ·have hltz : (i : Int) < (n2 : Int) := by omega
   obtain ⟨ad, l, hA, hx, q0, q1⟩ := (HB.out.stay BR.out).at_ (k := i) (by have := E2.out; omega)
   subst hA
   have X := hid hx
   try dsimp only at q0 q1 q2 q3 q4 q5 q6
   have ID : Hid (idL l < 18446744073709551616) := hid (IB.out _ (List.mem_of_getElem? hx))
   obtain ⟨w2, hw2⟩ : ∃ u, wr.alloc (.cells #[.int .u64 (l.id : Int), .string (str l.name)] 32) = u := ⟨_, rfl⟩
   obtain ⟨lb, b2, z2⟩ := new_two hw2
   have LB := hid lb
   have B2 := hid b2
   have ZR := hid BR.out.size
   have CI : Hid (∀ u : World, Calls Tryz.prog 19 #[.agg #[.int .u64 (l.id : Int), .string (str l.name)]] u fun e w' => e = .returned (.int .u64 (l.id : Int)) ∧ Below u.heap.size u w') := hid (fun u => idOfL_c l u)
   have U2 := hid (HU.out.below b2 HU.out.lt)
   have OW2 := hid (own_below OW.out b2)
   obtain ⟨l0, l1⟩ := two_cells lb
   have LS := hid (left_step (v := vL) (g := idL) (os := os) hx)
   have NON : Hid (firstN idL (ns.take i) (l.id) = none) := hid (HD.out i _ hx)
   clear hx lb b2
   rcases hF : firstN idL os (l.id) with _ | y
   ·have NW := hid (news_none (sm := smL) X.out hF)
    have LK : Hid (∀ v : World, Below w2.heap.size w2 v → (Instr.lookup 89 (.map (some mb)) (.int .u64 (l.id : Int)) true).run Tryz.prog v = .ok (.tuple #[.agg #[.int .u64 0, .string ⟨#[]⟩], .bool false]) v) := hid fun v hv => by
     have q : (Instr.lookup 89 (.map (some mb)) (.int .u64 (l.id : Int)) true).run Tryz.prog v = .ok (.tuple #[(leftN idL vL os (ns.take i) (l.id)).getD (.agg #[.int .u64 0, .string ⟨#[]⟩]), .bool (leftN idL vL os (ns.take i) (l.id)).isSome]) v := (U2.out.below hv U2.out.lt).look_ok Tryz.underlying89 (zrL v) ID.out
     rw [left_at NON.out, hF] at q
     exact q
    clear hF
    go_upto_region 8 with (go_at_call 19; refine (CI.out _).mono ?_; rintro e w3 ⟨rfl, hb3⟩; have B3 := hid hb3; have hlk := LK.out w3 hb3; have LB3 := hid (blk_keep LB.out hb3); have hz3 := hb3.size; clear hb3)
    obtain ⟨w5, hw5⟩ : ∃ u, w3.alloc (.cells #[.int .u64 0, .string ⟨#[]⟩] 32) = u := ⟨_, rfl⟩
    try rw [hw5]
    have B5 : Hid (Below w2.heap.size w2 w5) := hid (by rw [← hw5]; exact B3.out.alloc B3.out.size _)
    clear hw5
    have LB5 := hid (blk_keep LB.out B5.out)
    obtain ⟨j0, j1⟩ := two_cells LB5.out
    have OW5 := hid (own_below OW2.out B5.out)
    have U5 := hid (U2.out.below B5.out U2.out.lt)
    have hbs := buildSlL9 l w5
    have OWE := hid (OW5.out.alloc (.cells #[.int .u64 (l.id : Int), .string (str l.name)] 32))
    have LE : Hid (Lies (w5.alloc (.cells #[.int .u64 (l.id : Int), .string (str l.name)] 32)) 0 32 (some ⟨w5.heap.size, 0, none⟩) (encL l)) := hid (Lies.of_blk (heap_alloc_new w5 _))
    have zz : w.heap.size ≤ w5.heap.size := by have := ZR.out; have := B2.out.size; have := B5.out.size; omega
    have ZZ := hid zz
    have UE := hid (U5.out.kept (World.grownBy_alloc _ (.cells #[.int .u64 (l.id : Int), .string (str l.name)] 32) none) (by simp))
    have LBE := hid (blk_alloc LB5.out (.cells #[.int .u64 (l.id : Int), .string (str l.name)] 32))
    obtain ⟨ti0, thi, tz0, tz1, tz2⟩ := info_parts Tryz.infoLi9
    go_wp2_with (at_builtin; refine wpList_app _ rfl _ _ 22 rfl w.heap.size 32 ti0 _ 2 24 Tryz.underlying22 thi tz0 tz1 tz2 rfl (by decide) _ k (lcells (news idL smL os (ns.take i))) rfl OWE.out 0 _ 1 1 (encL l) 32 rfl rfl LE.out (encL_one _) (by unfold maxLen; omega) (by omega) (by simp; omega) ?_)
    intro v6 w6 hown6 hgrow6 hor6
    obtain ⟨A6, k6, rfl⟩ := own_slice hown6
    have LB6 : Hid (w6.heap[wr.heap.size]? = some (.cells #[.int .u64 (l.id : Int), .string (str l.name)] 32 (0, 0))) := hid ((hgrow6.block wr.heap.size (lt_of_block LBE.out) (fun q => by
     obtain ⟨_, cs, fr, r⟩ := own_row OW.out _ q.symm
     have := lt_of_block r
     omega)).trans LBE.out)
    have U6 := hid (UE.out.kept hgrow6 (UE.out.row OWE.out))
    have B6 : Hid (Below w.heap.size w w6) := hid ((((BR.out.trans (B2.out.mono BR.out.size)).trans (B5.out.mono (by have := ZR.out; have := B2.out.size; omega))).alloc ZZ.out _).grown hgrow6 (by simp; omega) (fun j e => (own_row OWE.out j e).1))
    have HO6 := hid hown6
    obtain ⟨o0, o1⟩ := two_cells LB6.out
    clear hown6 hgrow6 hor6 hbs zz j0 j1 l0 l1
    go_wp2_with (first
     | (go_at_call 19; refine (CI.out _).mono ?_; rintro e w8 ⟨rfl, hb8⟩; have B8 := hid hb8; have U8 := hid (U6.out.below hb8 U6.out.lt); clear hb8)
     | (at_delete; obtain ⟨w9, hdel, hU9, hg9⟩ := U8.out.del Tryz.underlying89 ID.out 0; refine wpList_delete_run rfl _ _ 89 30 rfl _ _ rfl rfl hdel ?_; have U9 := hid hU9; have G9 := hid hg9; clear hdel hU9 hg9))
    go_roundw
    case rel =>
     have B82 := B6.out.trans (B8.out.mono B6.out.size)
     have OW8 := own_below HO6.out B8.out
     exact ⟨i + 1, k + 1, A6, k6, by go_num, by omega, rfl, by omega, hid (by rw [NW.out, List.length_append, ← HKl.out]; rfl), hid (by rw [NW.out, lcells_snoc]; exact OW8.kept G9.out (.inr (fun q => (U8.out.row OW8) q.symm))), hid (by rw [LS.out]; exact U9.out), hid (B82.grown G9.out B82.size (fun j e => by cases e; exact MB.out))⟩
    case measure => simp [intOf]; omega
   ·have HF : Hid (firstN idL os (idL l) = some y) := hid hF
    have LK : Hid (∀ v : World, Below w2.heap.size w2 v → (Instr.lookup 89 (.map (some mb)) (.int .u64 (l.id : Int)) true).run Tryz.prog v = .ok (.tuple #[.agg #[.int .u64 (y.id : Int), .string (str y.name)], .bool true]) v) := hid fun v hv => by
     have q : (Instr.lookup 89 (.map (some mb)) (.int .u64 (l.id : Int)) true).run Tryz.prog v = .ok (.tuple #[(leftN idL vL os (ns.take i) (l.id)).getD (.agg #[.int .u64 0, .string ⟨#[]⟩]), .bool (leftN idL vL os (ns.take i) (l.id)).isSome]) v := (U2.out.below hv U2.out.lt).look_ok Tryz.underlying89 (zrL v) ID.out
     rw [left_at NON.out, hF] at q
     exact q
    have YM : Hid (y ∈ os) := hid (List.mem_of_find?_eq_some hF)
    clear hF
    go_upto_region 7 with (go_at_call 19; refine (CI.out _).mono ?_; rintro e w3 ⟨rfl, hb3⟩; have B3 := hid hb3; have hlk := LK.out w3 hb3; have LB3 := hid (blk_keep LB.out hb3); have hz3 := hb3.size; clear hb3)
    obtain ⟨w4, hw4⟩ : ∃ u, w3.alloc (.cells #[.int .u64 (y.id : Int), .string (str y.name)] 32) = u := ⟨_, rfl⟩
    try rw [hw4]
    obtain ⟨yb, b4, z4⟩ := new_two hw4
    have B4 : Hid (Below w2.heap.size w2 w4) := hid (B3.out.trans (b4.mono B3.out.size))
    obtain ⟨y0, y1⟩ := two_cells yb
    obtain ⟨l0, l1⟩ := two_cells (blk_keep LB3.out b4)
    clear yb b4
    have CS : Hid (Calls Tryz.prog 30 #[.agg #[.int .u64 (y.id : Int), .string (str y.name)], .agg #[.int .u64 (l.id : Int), .string (str l.name)]] w4 fun e w' => e = .returned (.bool (smL y l)) ∧ Below w4.heap.size w4 w') := hid (sameL_c y l w4)
    rcases hS : smL y l with _ | _
    ·rw [hS] at CS
     have NW := hid (news_diff X.out HF.out hS)
     clear hS
     go_upto_region 8 with (go_at_call 30; refine CS.out.mono ?_; rintro e w5 ⟨rfl, hb5⟩; have B5 : Hid (Below w2.heap.size w2 w5) := hid (B4.out.trans (hb5.mono B4.out.size)); clear hb5)
     have LB5 := hid (blk_keep LB.out B5.out)
     obtain ⟨j0, j1⟩ := two_cells LB5.out
     have OW5 := hid (own_below OW2.out B5.out)
     have U5 := hid (U2.out.below B5.out U2.out.lt)
     have hbs := buildSlL9 l w5
     have OWE := hid (OW5.out.alloc (.cells #[.int .u64 (l.id : Int), .string (str l.name)] 32))
     have LE : Hid (Lies (w5.alloc (.cells #[.int .u64 (l.id : Int), .string (str l.name)] 32)) 0 32 (some ⟨w5.heap.size, 0, none⟩) (encL l)) := hid (Lies.of_blk (heap_alloc_new w5 _))
     have zz : w.heap.size ≤ w5.heap.size := by have := ZR.out; have := B2.out.size; have := B5.out.size; omega
     have ZZ := hid zz
     have UE := hid (U5.out.kept (World.grownBy_alloc _ (.cells #[.int .u64 (l.id : Int), .string (str l.name)] 32) none) (by simp))
     have LBE := hid (blk_alloc LB5.out (.cells #[.int .u64 (l.id : Int), .string (str l.name)] 32))
     obtain ⟨ti0, thi, tz0, tz1, tz2⟩ := info_parts Tryz.infoLi9
     go_wp2_with (at_builtin; refine wpList_app _ rfl _ _ 22 rfl w.heap.size 32 ti0 _ 2 24 Tryz.underlying22 thi tz0 tz1 tz2 rfl (by decide) _ k (lcells (news idL smL os (ns.take i))) rfl OWE.out 0 _ 1 1 (encL l) 32 rfl rfl LE.out (encL_one _) (by unfold maxLen; omega) (by omega) (by simp; omega) ?_)
     intro v6 w6 hown6 hgrow6 hor6
     obtain ⟨A6, k6, rfl⟩ := own_slice hown6
     have LB6 : Hid (w6.heap[wr.heap.size]? = some (.cells #[.int .u64 (l.id : Int), .string (str l.name)] 32 (0, 0))) := hid ((hgrow6.block wr.heap.size (lt_of_block LBE.out) (fun q => by
      obtain ⟨_, cs, fr, r⟩ := own_row OW.out _ q.symm
      have := lt_of_block r
      omega)).trans LBE.out)
     have U6 := hid (UE.out.kept hgrow6 (UE.out.row OWE.out))
     have B6 : Hid (Below w.heap.size w w6) := hid ((((BR.out.trans (B2.out.mono BR.out.size)).trans (B5.out.mono (by have := ZR.out; have := B2.out.size; omega))).alloc ZZ.out _).grown hgrow6 (by simp; omega) (fun j e => (own_row OWE.out j e).1))
     have HO6 := hid hown6
     obtain ⟨o0, o1⟩ := two_cells LB6.out
     clear hown6 hgrow6 hor6 hbs zz j0 j1 l0 l1
     go_wp2_with (first
      | (go_at_call 19; refine (CI.out _).mono ?_; rintro e w8 ⟨rfl, hb8⟩; have B8 := hid hb8; have U8 := hid (U6.out.below hb8 U6.out.lt); clear hb8)
      | (at_delete; obtain ⟨w9, hdel, hU9, hg9⟩ := U8.out.del Tryz.underlying89 ID.out 0; refine wpList_delete_run rfl _ _ 89 30 rfl _ _ rfl rfl hdel ?_; have U9 := hid hU9; have G9 := hid hg9; clear hdel hU9 hg9))
     go_roundw
     case rel =>
      have B82 := B6.out.trans (B8.out.mono B6.out.size)
      have OW8 := own_below HO6.out B8.out
      exact ⟨i + 1, k + 1, A6, k6, by go_num, by omega, rfl, by omega, hid (by rw [NW.out, List.length_append, ← HKl.out]; rfl), hid (by rw [NW.out, lcells_snoc]; exact OW8.kept G9.out (.inr (fun q => (U8.out.row OW8) q.symm))), hid (by rw [LS.out]; exact U9.out), hid (B82.grown G9.out B82.size (fun j e => by cases e; exact MB.out))⟩
     case measure => simp [intOf]; omega
    ·rw [hS] at CS
     have NW := hid (news_same X.out HF.out hS)
     clear hS
     go_upto_region 9 with (go_at_call 30; refine CS.out.mono ?_; rintro e w5 ⟨rfl, hb5⟩; have B5 : Hid (Below w2.heap.size w2 w5) := hid (B4.out.trans (hb5.mono B4.out.size)); clear hb5)
     have LB5 := hid (blk_keep LB.out B5.out)
     obtain ⟨j0, j1⟩ := two_cells LB5.out
     go_wp2_with (first
      | (go_at_call 19; refine (CI.out _).mono ?_; rintro e w8 ⟨rfl, hb8⟩; have B8 := hid (B5.out.trans (hb8.mono B5.out.size)); have U8 := hid (U2.out.below B8.out U2.out.lt); clear hb8)
      | (at_delete; obtain ⟨w9, hdel, hU9, hg9⟩ := U8.out.del Tryz.underlying89 ID.out 0; refine wpList_delete_run rfl _ _ 89 30 rfl _ _ rfl rfl hdel ?_; have U9 := hid hU9; have G9 := hid hg9; clear hdel hU9 hg9))
     go_roundw
     case rel =>
      have B82 := BR.out.trans ((B2.out.trans (B8.out.mono B2.out.size)).mono BR.out.size)
      exact ⟨i + 1, k, A3, c3, by go_num, by omega, rfl, by omega, hid (by rw [NW.out]; exact HKl.out), hid (by rw [NW.out]; exact (own_below OW2.out B8.out).kept G9.out (.inr (fun q => (U8.out.row (own_below OW2.out B8.out)) q.symm))), hid (by rw [LS.out]; exact U9.out), hid (B82.grown G9.out B82.size (fun j e => by cases e; exact MB.out))⟩
     case measure => simp [intOf]; omega
  ·obtain rfl : i = n2 := by omega
   have hltz : ¬ ((i : Int) < (i : Int)) := by omega
   have CR := hid (riseL_c HU.out (by omega))
   have TK := hid (show ns.take i = ns by rw [E2.out]; exact List.take_length)
   go_wp2_with (go_at_call 47; refine CR.out.mono ?_; rintro e w8 ⟨A8, c8, ss, rfl, hS8, hrow8, hb8⟩)
   first | go_ret2 | go_ret
   have kl := HKl.out
   have ow := own_below OW.out hb8
   rw [TK.out] at kl ow hS8
   subst kl
   exact ⟨A3, c3, A8, c8, ss, rfl, lies_own (B := 0) ow, own_room3 ow, hS8, lies_own (B := 0) hrow8, own_room3 hrow8, BR.out.trans (hb8.mono BR.out.size)⟩
set_option maxHeartbeats 8000000 in
theorem chgK_c {A1 A2 : Option Addr} {n1 c1 n2 c2 : Nat} {os ns : List MTk} {w : World} (ha : KL w A1 os) (hb : KL w A2 ns) (e1 : n1 = os.length) (e2 : n2 = ns.length) (s1 : n1 ≤ 1000) (s2 : n2 ≤ 1000)
  (ia : ∀ l ∈ os, idK l < 18446744073709551616) (ib : ∀ l ∈ ns, idK l < 18446744073709551616) (hd : ∀ i x, ns[i]? = some x → firstN idK (ns.take i) (idK x) = none) (sa : ∀ m ∈ os, m.t.short ∧ m.t.ok) (sb : ∀ m ∈ ns, m.t.short ∧ m.t.ok) :
  Calls Tryz.prog 31 #[.slice A1 n1 c1, .slice A2 n2 c2, .func (.func 22) #[] #[], .func (.func 32) #[] #[]] w (ChOkK (news idK smK os ns) (leftN idK vK os ns) w) := by
 have CB := hid (byK_c (c := c1) ha e1 (by omega) ia)
 have HA := hid ha
 have HB := hid hb
 have E2 := hid e2
 have IB := hid ib
 have HD := hid hd
 have SA := hid sa
 have SB := hid sb
 clear sa sb
 clear ha hb e1 e2 ia ib hd
 go_enter Tryz.func31, Tryz.ntmps31
 go_wp2_with (go_at_call 48; refine CB.out.mono ?_; rintro e w1 ⟨mb, rfl, hmb, hU, hb1⟩; have U1 := hid hU; have B1 := hid hb1; have MB := hid hmb; clear hU hb1 hmb)
 go_loopw [11, 21] (fun s11 s21 wr => ∃ (i k : Nat) (A3 : Option Addr) (c3 : Nat), s21 = .int .i64 i ∧ i ≤ n2 ∧ s11 = .slice A3 k c3 ∧ k ≤ i ∧ Hid (k = (news idK smK os (ns.take i)).length) ∧ Hid (wr.ownsRow w.heap.size 38 7 (.slice A3 k c3) k (tkcells (news idK smK os (ns.take i)))) ∧ Hid (UM wr mb n1 (leftN idK vK os (ns.take i))) ∧ Hid (Below w.heap.size w wr)) (fun _ s21 _ => n2 - (intOf s21).toNat)
 case atStart => exact ⟨0, 0, none, 0, rfl, Nat.zero_le _, rfl, Nat.le_refl _, hid rfl, hid (World.ownsRow_nil _ _ _ _), hid (by rw [show leftN idK vK os (ns.take 0) = fun k => (firstN idK os k).map vK from funext fun k => rfl]; exact U1.out), B1⟩
 case round =>
  obtain ⟨i, k, A3, c3, rfl, hin, rfl, hki, HKl, OW, HU, BR⟩ := hrel
  by_cases hlt : i < n2
  ·have hltz : (i : Int) < (n2 : Int) := by omega
   obtain ⟨ad, ⟨tk, A4, c4⟩, hA, hx, hf, q0, q1, q2, q3, q4, q5, q6⟩ := (HB.out.stay BR.out).at_ (k := i) (by have := E2.out; omega)
   subst hA
   have X := hid hx
   try dsimp only at q0 q1 q2 q3 q4 q5 q6
   have ID : Hid (idK (⟨tk, A4, c4⟩ : MTk) < 18446744073709551616) := hid (IB.out _ (List.mem_of_getElem? hx))
   obtain ⟨w2, hw2⟩ : ∃ u, wr.alloc (.cells #[.int .u64 (tk.id : Int), .int .u64 (tk.list : Int), .string (str tk.title), .bool tk.done, .float .f64 tk.rank, .float .f64 tk.est, .slice A4 tk.tags.length c4] 38) = u := ⟨_, rfl⟩
   obtain ⟨lb, b2, z2⟩ := new_seven hw2
   have LB := hid lb
   have B2 := hid b2
   have ZR := hid BR.out.size
   have CI : Hid (∀ u : World, Calls Tryz.prog 22 #[.agg #[.int .u64 (tk.id : Int), .int .u64 (tk.list : Int), .string (str tk.title), .bool tk.done, .float .f64 tk.rank, .float .f64 tk.est, .slice A4 tk.tags.length c4]] u fun e w' => e = .returned (.int .u64 (tk.id : Int)) ∧ Below u.heap.size u w') := hid (fun u => idOfK_c (⟨tk, A4, c4⟩ : MTk) u)
   have U2 := hid (HU.out.below b2 HU.out.lt)
   have OW2 := hid (own_below OW.out b2)
   obtain ⟨l0, l1, l2, l3, l4, l5, l6⟩ := seven_cells lb
   have LS := hid (left_step (v := vK) (g := idK) (os := os) hx)
   have NON : Hid (firstN idK (ns.take i) (tk.id) = none) := hid (HD.out i _ hx)
   clear hx lb b2
   rcases hF : firstN idK os (tk.id) with _ | ⟨yt, yA, yc⟩
   ·have NW := hid (news_none (sm := smK) X.out hF)
    have LK : Hid (∀ v : World, Below w2.heap.size w2 v → (Instr.lookup 93 (.map (some mb)) (.int .u64 (tk.id : Int)) true).run Tryz.prog v = .ok (.tuple #[.agg #[.int .u64 0, .int .u64 0, .string ⟨#[]⟩, .bool false, .float .f64 0, .float .f64 0, .slice none 0 0], .bool false]) v) := hid fun v hv => by
     have q : (Instr.lookup 93 (.map (some mb)) (.int .u64 (tk.id : Int)) true).run Tryz.prog v = .ok (.tuple #[(leftN idK vK os (ns.take i) (tk.id)).getD (.agg #[.int .u64 0, .int .u64 0, .string ⟨#[]⟩, .bool false, .float .f64 0, .float .f64 0, .slice none 0 0]), .bool (leftN idK vK os (ns.take i) (tk.id)).isSome]) v := (U2.out.below hv U2.out.lt).look_ok Tryz.underlying93 (zrK v) ID.out
     rw [left_at NON.out, hF] at q
     exact q
    clear hF
    go_upto_region 8 with (go_at_call 22; refine (CI.out _).mono ?_; rintro e w3 ⟨rfl, hb3⟩; have B3 := hid hb3; have hlk := LK.out w3 hb3; have LB3 := hid (blk_keep LB.out hb3); have hz3 := hb3.size; clear hb3)
    obtain ⟨w5, hw5⟩ : ∃ u, w3.alloc (.cells #[.int .u64 0, .int .u64 0, .string ⟨#[]⟩, .bool false, .float .f64 0, .float .f64 0, .slice none 0 0] 38) = u := ⟨_, rfl⟩
    try rw [hw5]
    have B5 : Hid (Below w2.heap.size w2 w5) := hid (by rw [← hw5]; exact B3.out.alloc B3.out.size _)
    clear hw5
    have LB5 := hid (blk_keep LB.out B5.out)
    obtain ⟨j0, j1, j2, j3, j4, j5, j6⟩ := seven_cells LB5.out
    have OW5 := hid (own_below OW2.out B5.out)
    have U5 := hid (U2.out.below B5.out U2.out.lt)
    have hbs := buildSlK9 ⟨tk, A4, c4⟩ w5; unfold encK at hbs; dsimp only at hbs
    have OWE := hid (OW5.out.alloc (.cells #[.int .u64 (tk.id : Int), .int .u64 (tk.list : Int), .string (str tk.title), .bool tk.done, .float .f64 tk.rank, .float .f64 tk.est, .slice A4 tk.tags.length c4] 38))
    have LE : Hid (Lies (w5.alloc (.cells #[.int .u64 (tk.id : Int), .int .u64 (tk.list : Int), .string (str tk.title), .bool tk.done, .float .f64 tk.rank, .float .f64 tk.est, .slice A4 tk.tags.length c4] 38)) 0 38 (some ⟨w5.heap.size, 0, none⟩) (encK (⟨tk, A4, c4⟩ : MTk))) := hid (Lies.of_blk (heap_alloc_new w5 _))
    have zz : w.heap.size ≤ w5.heap.size := by have := ZR.out; have := B2.out.size; have := B5.out.size; omega
    have ZZ := hid zz
    have UE := hid (U5.out.kept (World.grownBy_alloc _ (.cells #[.int .u64 (tk.id : Int), .int .u64 (tk.list : Int), .string (str tk.title), .bool tk.done, .float .f64 tk.rank, .float .f64 tk.est, .slice A4 tk.tags.length c4] 38) none) (by simp))
    have LBE := hid (blk_alloc LB5.out (.cells #[.int .u64 (tk.id : Int), .int .u64 (tk.list : Int), .string (str tk.title), .bool tk.done, .float .f64 tk.rank, .float .f64 tk.est, .slice A4 tk.tags.length c4] 38))
    obtain ⟨ti0, thi, tz0, tz1, tz2⟩ := info_parts Tryz.infoTk9
    go_wp2_with (at_builtin; refine wpList_app _ rfl _ _ 23 rfl w.heap.size 38 ti0 _ 7 80 Tryz.underlying23 thi tz0 tz1 tz2 rfl (by decide) _ k (tkcells (news idK smK os (ns.take i))) rfl OWE.out 0 _ 1 1 (encK (⟨tk, A4, c4⟩ : MTk)) 38 rfl rfl LE.out (encK_one _) (by unfold maxLen; omega) (by omega) (by simp; omega) ?_)
    intro v6 w6 hown6 hgrow6 hor6
    obtain ⟨A6, k6, rfl⟩ := own_slice hown6
    have LB6 : Hid (w6.heap[wr.heap.size]? = some (.cells #[.int .u64 (tk.id : Int), .int .u64 (tk.list : Int), .string (str tk.title), .bool tk.done, .float .f64 tk.rank, .float .f64 tk.est, .slice A4 tk.tags.length c4] 38 (0, 0))) := hid ((hgrow6.block wr.heap.size (lt_of_block LBE.out) (fun q => by
     obtain ⟨_, cs, fr, r⟩ := own_row OW.out _ q.symm
     have := lt_of_block r
     omega)).trans LBE.out)
    have U6 := hid (UE.out.kept hgrow6 (UE.out.row OWE.out))
    have B6 : Hid (Below w.heap.size w w6) := hid ((((BR.out.trans (B2.out.mono BR.out.size)).trans (B5.out.mono (by have := ZR.out; have := B2.out.size; omega))).alloc ZZ.out _).grown hgrow6 (by simp; omega) (fun j e => (own_row OWE.out j e).1))
    have HO6 := hid hown6
    obtain ⟨o0, o1, o2, o3, o4, o5, o6⟩ := seven_cells LB6.out
    clear hown6 hgrow6 hor6 hbs zz j0 j1 j2 j3 j4 j5 j6 l0 l1 l2 l3 l4 l5 l6
    go_wp2_with (first
     | (go_at_call 22; refine (CI.out _).mono ?_; rintro e w8 ⟨rfl, hb8⟩; have B8 := hid hb8; have U8 := hid (U6.out.below hb8 U6.out.lt); clear hb8)
     | (at_delete; obtain ⟨w9, hdel, hU9, hg9⟩ := U8.out.del Tryz.underlying93 ID.out 0; refine wpList_delete_run rfl _ _ 93 30 rfl _ _ rfl rfl hdel ?_; have U9 := hid hU9; have G9 := hid hg9; clear hdel hU9 hg9))
    go_roundw
    case rel =>
     have B82 := B6.out.trans (B8.out.mono B6.out.size)
     have OW8 := own_below HO6.out B8.out
     exact ⟨i + 1, k + 1, A6, k6, by go_num, by omega, rfl, by omega, hid (by rw [NW.out, List.length_append, ← HKl.out]; rfl), hid (by rw [NW.out, tkcells_snoc]; exact OW8.kept G9.out (.inr (fun q => (U8.out.row OW8) q.symm))), hid (by rw [LS.out]; exact U9.out), hid (B82.grown G9.out B82.size (fun j e => by cases e; exact MB.out))⟩
    case measure => simp [intOf]; omega
   ·have HF : Hid (firstN idK os (idK (⟨tk, A4, c4⟩ : MTk)) = some (⟨yt, yA, yc⟩ : MTk)) := hid hF
    have LK : Hid (∀ v : World, Below w2.heap.size w2 v → (Instr.lookup 93 (.map (some mb)) (.int .u64 (tk.id : Int)) true).run Tryz.prog v = .ok (.tuple #[.agg #[.int .u64 (yt.id : Int), .int .u64 (yt.list : Int), .string (str yt.title), .bool yt.done, .float .f64 yt.rank, .float .f64 yt.est, .slice yA yt.tags.length yc], .bool true]) v) := hid fun v hv => by
     have q : (Instr.lookup 93 (.map (some mb)) (.int .u64 (tk.id : Int)) true).run Tryz.prog v = .ok (.tuple #[(leftN idK vK os (ns.take i) (tk.id)).getD (.agg #[.int .u64 0, .int .u64 0, .string ⟨#[]⟩, .bool false, .float .f64 0, .float .f64 0, .slice none 0 0]), .bool (leftN idK vK os (ns.take i) (tk.id)).isSome]) v := (U2.out.below hv U2.out.lt).look_ok Tryz.underlying93 (zrK v) ID.out
     rw [left_at NON.out, hF] at q
     exact q
    have YM : Hid ((⟨yt, yA, yc⟩ : MTk) ∈ os) := hid (List.mem_of_find?_eq_some hF)
    clear hF
    go_upto_region 7 with (go_at_call 22; refine (CI.out _).mono ?_; rintro e w3 ⟨rfl, hb3⟩; have B3 := hid hb3; have hlk := LK.out w3 hb3; have LB3 := hid (blk_keep LB.out hb3); have hz3 := hb3.size; clear hb3)
    obtain ⟨w4, hw4⟩ : ∃ u, w3.alloc (.cells #[.int .u64 (yt.id : Int), .int .u64 (yt.list : Int), .string (str yt.title), .bool yt.done, .float .f64 yt.rank, .float .f64 yt.est, .slice yA yt.tags.length yc] 38) = u := ⟨_, rfl⟩
    try rw [hw4]
    obtain ⟨yb, b4, z4⟩ := new_seven hw4
    have B4 : Hid (Below w2.heap.size w2 w4) := hid (B3.out.trans (b4.mono B3.out.size))
    obtain ⟨y0, y1, y2, y3, y4, y5, y6⟩ := seven_cells yb
    obtain ⟨l0, l1, l2, l3, l4, l5, l6⟩ := seven_cells (blk_keep LB3.out b4)
    clear yb b4
    have CS : Hid (Calls Tryz.prog 32 #[.agg #[.int .u64 (yt.id : Int), .int .u64 (yt.list : Int), .string (str yt.title), .bool yt.done, .float .f64 yt.rank, .float .f64 yt.est, .slice yA yt.tags.length yc], .agg #[.int .u64 (tk.id : Int), .int .u64 (tk.list : Int), .string (str tk.title), .bool tk.done, .float .f64 tk.rank, .float .f64 tk.est, .slice A4 tk.tags.length c4]] w4 fun e w' => e = .returned (.bool (smK (⟨yt, yA, yc⟩ : MTk) (⟨tk, A4, c4⟩ : MTk))) ∧ Below w4.heap.size w4 w') := hid (sameK_c ((HA.out.2 _ YM.out).stay (BR.out.trans ((B2.out.trans (B4.out.mono B2.out.size)).mono BR.out.size))) ((HB.out.2 _ (List.mem_of_getElem? X.out)).stay (BR.out.trans ((B2.out.trans (B4.out.mono B2.out.size)).mono BR.out.size))) (SA.out _ YM.out) (SB.out _ (List.mem_of_getElem? X.out)))
    rcases hS : smK (⟨yt, yA, yc⟩ : MTk) (⟨tk, A4, c4⟩ : MTk) with _ | _
    ·rw [hS] at CS
     have NW := hid (news_diff X.out HF.out hS)
     clear hS
     go_upto_region 8 with (go_at_call 32; refine CS.out.mono ?_; rintro e w5 ⟨rfl, hb5⟩; have B5 : Hid (Below w2.heap.size w2 w5) := hid (B4.out.trans (hb5.mono B4.out.size)); clear hb5)
     have LB5 := hid (blk_keep LB.out B5.out)
     obtain ⟨j0, j1, j2, j3, j4, j5, j6⟩ := seven_cells LB5.out
     have OW5 := hid (own_below OW2.out B5.out)
     have U5 := hid (U2.out.below B5.out U2.out.lt)
     have hbs := buildSlK9 ⟨tk, A4, c4⟩ w5; unfold encK at hbs; dsimp only at hbs
     have OWE := hid (OW5.out.alloc (.cells #[.int .u64 (tk.id : Int), .int .u64 (tk.list : Int), .string (str tk.title), .bool tk.done, .float .f64 tk.rank, .float .f64 tk.est, .slice A4 tk.tags.length c4] 38))
     have LE : Hid (Lies (w5.alloc (.cells #[.int .u64 (tk.id : Int), .int .u64 (tk.list : Int), .string (str tk.title), .bool tk.done, .float .f64 tk.rank, .float .f64 tk.est, .slice A4 tk.tags.length c4] 38)) 0 38 (some ⟨w5.heap.size, 0, none⟩) (encK (⟨tk, A4, c4⟩ : MTk))) := hid (Lies.of_blk (heap_alloc_new w5 _))
     have zz : w.heap.size ≤ w5.heap.size := by have := ZR.out; have := B2.out.size; have := B5.out.size; omega
     have ZZ := hid zz
     have UE := hid (U5.out.kept (World.grownBy_alloc _ (.cells #[.int .u64 (tk.id : Int), .int .u64 (tk.list : Int), .string (str tk.title), .bool tk.done, .float .f64 tk.rank, .float .f64 tk.est, .slice A4 tk.tags.length c4] 38) none) (by simp))
     have LBE := hid (blk_alloc LB5.out (.cells #[.int .u64 (tk.id : Int), .int .u64 (tk.list : Int), .string (str tk.title), .bool tk.done, .float .f64 tk.rank, .float .f64 tk.est, .slice A4 tk.tags.length c4] 38))
     obtain ⟨ti0, thi, tz0, tz1, tz2⟩ := info_parts Tryz.infoTk9
     go_wp2_with (at_builtin; refine wpList_app _ rfl _ _ 23 rfl w.heap.size 38 ti0 _ 7 80 Tryz.underlying23 thi tz0 tz1 tz2 rfl (by decide) _ k (tkcells (news idK smK os (ns.take i))) rfl OWE.out 0 _ 1 1 (encK (⟨tk, A4, c4⟩ : MTk)) 38 rfl rfl LE.out (encK_one _) (by unfold maxLen; omega) (by omega) (by simp; omega) ?_)
     intro v6 w6 hown6 hgrow6 hor6
     obtain ⟨A6, k6, rfl⟩ := own_slice hown6
     have LB6 : Hid (w6.heap[wr.heap.size]? = some (.cells #[.int .u64 (tk.id : Int), .int .u64 (tk.list : Int), .string (str tk.title), .bool tk.done, .float .f64 tk.rank, .float .f64 tk.est, .slice A4 tk.tags.length c4] 38 (0, 0))) := hid ((hgrow6.block wr.heap.size (lt_of_block LBE.out) (fun q => by
      obtain ⟨_, cs, fr, r⟩ := own_row OW.out _ q.symm
      have := lt_of_block r
      omega)).trans LBE.out)
     have U6 := hid (UE.out.kept hgrow6 (UE.out.row OWE.out))
     have B6 : Hid (Below w.heap.size w w6) := hid ((((BR.out.trans (B2.out.mono BR.out.size)).trans (B5.out.mono (by have := ZR.out; have := B2.out.size; omega))).alloc ZZ.out _).grown hgrow6 (by simp; omega) (fun j e => (own_row OWE.out j e).1))
     have HO6 := hid hown6
     obtain ⟨o0, o1, o2, o3, o4, o5, o6⟩ := seven_cells LB6.out
     clear hown6 hgrow6 hor6 hbs zz j0 j1 j2 j3 j4 j5 j6 l0 l1 l2 l3 l4 l5 l6
     go_wp2_with (first
      | (go_at_call 22; refine (CI.out _).mono ?_; rintro e w8 ⟨rfl, hb8⟩; have B8 := hid hb8; have U8 := hid (U6.out.below hb8 U6.out.lt); clear hb8)
      | (at_delete; obtain ⟨w9, hdel, hU9, hg9⟩ := U8.out.del Tryz.underlying93 ID.out 0; refine wpList_delete_run rfl _ _ 93 30 rfl _ _ rfl rfl hdel ?_; have U9 := hid hU9; have G9 := hid hg9; clear hdel hU9 hg9))
     go_roundw
     case rel =>
      have B82 := B6.out.trans (B8.out.mono B6.out.size)
      have OW8 := own_below HO6.out B8.out
      exact ⟨i + 1, k + 1, A6, k6, by go_num, by omega, rfl, by omega, hid (by rw [NW.out, List.length_append, ← HKl.out]; rfl), hid (by rw [NW.out, tkcells_snoc]; exact OW8.kept G9.out (.inr (fun q => (U8.out.row OW8) q.symm))), hid (by rw [LS.out]; exact U9.out), hid (B82.grown G9.out B82.size (fun j e => by cases e; exact MB.out))⟩
     case measure => simp [intOf]; omega
    ·rw [hS] at CS
     have NW := hid (news_same X.out HF.out hS)
     clear hS
     go_upto_region 9 with (go_at_call 32; refine CS.out.mono ?_; rintro e w5 ⟨rfl, hb5⟩; have B5 : Hid (Below w2.heap.size w2 w5) := hid (B4.out.trans (hb5.mono B4.out.size)); clear hb5)
     have LB5 := hid (blk_keep LB.out B5.out)
     obtain ⟨j0, j1, j2, j3, j4, j5, j6⟩ := seven_cells LB5.out
     go_wp2_with (first
      | (go_at_call 22; refine (CI.out _).mono ?_; rintro e w8 ⟨rfl, hb8⟩; have B8 := hid (B5.out.trans (hb8.mono B5.out.size)); have U8 := hid (U2.out.below B8.out U2.out.lt); clear hb8)
      | (at_delete; obtain ⟨w9, hdel, hU9, hg9⟩ := U8.out.del Tryz.underlying93 ID.out 0; refine wpList_delete_run rfl _ _ 93 30 rfl _ _ rfl rfl hdel ?_; have U9 := hid hU9; have G9 := hid hg9; clear hdel hU9 hg9))
     go_roundw
     case rel =>
      have B82 := BR.out.trans ((B2.out.trans (B8.out.mono B2.out.size)).mono BR.out.size)
      exact ⟨i + 1, k, A3, c3, by go_num, by omega, rfl, by omega, hid (by rw [NW.out]; exact HKl.out), hid (by rw [NW.out]; exact (own_below OW2.out B8.out).kept G9.out (.inr (fun q => (U8.out.row (own_below OW2.out B8.out)) q.symm))), hid (by rw [LS.out]; exact U9.out), hid (B82.grown G9.out B82.size (fun j e => by cases e; exact MB.out))⟩
     case measure => simp [intOf]; omega
  ·obtain rfl : i = n2 := by omega
   have hltz : ¬ ((i : Int) < (i : Int)) := by omega
   have CR := hid (riseK_c HU.out (by omega))
   have TK := hid (show ns.take i = ns by rw [E2.out]; exact List.take_length)
   go_wp2_with (go_at_call 50; refine CR.out.mono ?_; rintro e w8 ⟨A8, c8, ss, rfl, hS8, hrow8, hb8⟩)
   first | go_ret2 | go_ret
   have kl := HKl.out
   have ow := own_below OW.out hb8
   rw [TK.out] at kl ow hS8
   subst kl
   exact ⟨A3, c3, A8, c8, ss, rfl, lies_own (B := 0) ow, own_room3 ow, hS8, lies_own (B := 0) hrow8, own_room3 hrow8, BR.out.trans (hb8.mono BR.out.size)⟩
end
end
end Go.Proofs.YtnhpkcphgdkdiaaGreat
