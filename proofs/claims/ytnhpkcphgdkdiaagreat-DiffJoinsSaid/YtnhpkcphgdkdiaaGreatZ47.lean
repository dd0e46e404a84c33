import Derived.Test.YtnhpkcphgdkdiaaGreatZ46
namespace Go.Proofs.YtnhpkcphgdkdiaaGreat
set_option linter.unusedSimpArgs false
set_option maxRecDepth 100000
section
set_option linter.unusedSimpArgs false
section
open Go.RowKit Go.Lib Go.Shelf Go.Maps
def pwN {α : Type} (g : α → Nat) (ps : List α) (gs : List Nat) (k : Nat) : Option (Option α) := if (firstN g ps k).isSome = true then some (firstN g ps k) else if k ∈ gs then some none else none
def partW {α : Type} (F : Nat → Option α) (u : α → Value) (f1 : Nat → Option Value) (left : Lit → Bool) (k : Nat) : Option Value := if (F k).isSome && !left (nkey k) then (F k).map u else f1 k
theorem partW_start {α : Type} {D : DataW Value} {F : Nat → Option α} {v u : α → Value} {f1 : Nat → Option Value} (h : ∀ k, Maps.has D (nkey k) = ((F k).map v).isSome) : partW F u f1 (Maps.has D) = f1 := by
 funext k
 unfold partW
 rw [h k]
 cases F k <;> simp
theorem partW_step {α : Type} {F : Nat → Option α} {u : α → Value} {f1 : Nat → Option Value} {left : Lit → Bool} {x : Nat} {y : α} (h : F x = some y) : partW F u f1 (fun z => left z && !z.sameKey (nkey x)) = fun j => if j = x then some (u y) else partW F u f1 left j := by
 funext j
 unfold partW
 by_cases e : j = x
 ·subst e
  simp [h, WideAt.sameKey_self (nkey_lit j)]
 ·have q : (nkey j).sameKey (nkey x) = false := Maps.sameKey_ne (fun q => e (nkey_inj.1 q))
  simp [e, q]
theorem partW_end {α : Type} {g : α → Nat} {ps : List α} {gs : List Nat} {u : Option α → Value} {left : Lit → Bool} (h : ∀ kl, left kl = false) : partW (firstN g ps) (fun x => u (some x)) (fun k => if k ∈ gs then some (u none) else none) left = fun k => (pwN g ps gs k).map u := by
 funext k
 unfold partW pwN
 rw [h]
 cases firstN g ps k with
 | none => by_cases q : k ∈ gs <;> simp [q]
 | some x => simp
theorem gone_step12 {u : Value} {gs : List Nat} {i n : Nat} (h : gs[i]? = some n) : (fun k => if k ∈ gs.take (i + 1) then some u else none) = fun j => if j = n then some u else (if j ∈ gs.take i then some u else none) := by
 funext k
 rw [take_nxt h]
 by_cases e : k = n
 ·subst e; simp
 ·simp [e]
def vWL (o : Option T9.Li) : Value := .agg #[.bool o.isSome, .int .u64 ((o.getD ⟨0, []⟩).id : Int), .string (str (o.getD ⟨0, []⟩).name)]
def vWK (o : Option MTk) : Value := .agg #[.bool o.isSome, .int .u64 ((o.getD ⟨⟨0, 0, [], false, 0, 0, []⟩, none, 0⟩).t.id : Int), .int .u64 ((o.getD ⟨⟨0, 0, [], false, 0, 0, []⟩, none, 0⟩).t.list : Int), .string (str (o.getD ⟨⟨0, 0, [], false, 0, 0, []⟩, none, 0⟩).t.title), .bool (o.getD ⟨⟨0, 0, [], false, 0, 0, []⟩, none, 0⟩).t.done, .float .f64 (o.getD ⟨⟨0, 0, [], false, 0, 0, []⟩, none, 0⟩).t.rank, .float .f64 (o.getD ⟨⟨0, 0, [], false, 0, 0, []⟩, none, 0⟩).t.est, .slice (o.getD ⟨⟨0, 0, [], false, 0, 0, []⟩, none, 0⟩).A (o.getD ⟨⟨0, 0, [], false, 0, 0, []⟩, none, 0⟩).t.tags.length (o.getD ⟨⟨0, 0, [], false, 0, 0, []⟩, none, 0⟩).c]
theorem blW0L (w : World) : (Instr.build 65 #[]).run Tryz.prog w = .ok (.agg #[.bool false, .int .u64 0, .string ⟨#[]⟩]) w := run_build w 65 _ _ (by kernel_rfl)
theorem blW0K (w : World) : (Instr.build 70 #[]).run Tryz.prog w = .ok (.agg #[.bool false, .int .u64 0, .int .u64 0, .string ⟨#[]⟩, .bool false, .float .f64 0, .float .f64 0, .slice none 0 0]) w := run_build w 70 _ _ (by kernel_rfl)
theorem blW1L (a b : Value) (w : World) : (Instr.build 65 #[(0, .bool true), (1, .agg #[a, b])]).run Tryz.prog w = .ok (.agg #[.bool true, a, b]) w := run_build w 65 _ _ (by kernel_rfl)
theorem blW1K (a b c d e f g : Value) (w : World) : (Instr.build 70 #[(0, .bool true), (1, .agg #[a, b, c, d, e, f, g])]).run Tryz.prog w = .ok (.agg #[.bool true, a, b, c, d, e, f, g]) w := run_build w 70 _ _ (by kernel_rfl)
theorem new_3w {w : World} {a b c : Value} {t : TypeId} {u : World} (h : w.alloc (.cells #[a, b, c] t) = u) : u.heap[w.heap.size]? = some (.cells #[a, b, c] t (0, 0)) ∧ Below w.heap.size w u ∧ u.heap.size = w.heap.size + 1 := by
 subst h
 exact ⟨World.alloc_heap_new w _, (Below.refl _ _).alloc (Nat.le_refl _) _, by simp⟩
theorem cells_3w {w : World} {p : Nat} {t : TypeId} {a b c : Value} {fr : Nat × Nat} (h : w.heap[p]? = some (.cells #[a, b, c] t fr)) : w.cell? ⟨p, 0, none⟩ = some a ∧ w.cell? ⟨p, 1, none⟩ = some b ∧ w.cell? ⟨p, 2, none⟩ = some c := by
 simp [World.cell?, h]
theorem new_8w {w : World} {a b c d e f g i : Value} {t : TypeId} {u : World} (h : w.alloc (.cells #[a, b, c, d, e, f, g, i] t) = u) : u.heap[w.heap.size]? = some (.cells #[a, b, c, d, e, f, g, i] t (0, 0)) ∧ Below w.heap.size w u ∧ u.heap.size = w.heap.size + 1 := by
 subst h
 exact ⟨World.alloc_heap_new w _, (Below.refl _ _).alloc (Nat.le_refl _) _, by simp⟩
theorem cells_8w {w : World} {p : Nat} {t : TypeId} {a b c d e f g i : Value} {fr : Nat × Nat} (h : w.heap[p]? = some (.cells #[a, b, c, d, e, f, g, i] t fr)) : w.cell? ⟨p, 0, none⟩ = some a ∧ w.cell? ⟨p, 1, none⟩ = some b ∧ w.cell? ⟨p, 2, none⟩ = some c ∧ w.cell? ⟨p, 3, none⟩ = some d ∧ w.cell? ⟨p, 4, none⟩ = some e ∧ w.cell? ⟨p, 5, none⟩ = some f ∧ w.cell? ⟨p, 6, none⟩ = some g ∧ w.cell? ⟨p, 7, none⟩ = some i := by
 simp [World.cell?, h]
set_option maxHeartbeats 4000000 in
theorem wrdL_c {A A2 : Option Addr} {n c n2 c2 : Nat} {ps : List T9.Li} {gs : List Nat} {w : World} (hp : LL w A ps) (hg : Lies w 0 30 A2 (gs.map encU)) (e1 : n = ps.length) (e2 : n2 = gs.length) (s1 : n ≤ 1000) (s2 : n2 ≤ 1000) (ip : ∀ l ∈ ps, idL l < 18446744073709551616) (ig : ∀ x ∈ gs, x < 18446744073709551616) :
  Calls Tryz.prog 23 #[.slice A n c, .slice A2 n2 c2, .func (.func 19) #[] #[]] w (MapOk (fun x => (pwN idL ps gs x).map vWL) (n2 + n) w) := by
 have CP := hid (fun (v : World) (hv : Below w.heap.size w v) => byL_c (c := c) (hp.stay hv) e1 (by omega) ip)
 have HG := hid hg
 have E2 := hid e2
 have IG := hid ig
 have hmm := @run_makeMap Tryz.prog
 obtain ⟨w0, hw0⟩ : ∃ u, w.alloc (.map #[] 0) = u := ⟨_, rfl⟩
 have B0 : Hid (Below w.heap.size w w0) := hid (by rw [← hw0]; exact (Below.refl _ w).alloc (Nat.le_refl _) _)
 have U0 : Hid (UM w0 w.heap.size 0 (fun _ => none)) := hid (by rw [← hw0]; exact UM.made w)
 have hb0 := blW0L
 clear hp hg e1 e2 ip ig
 go_enter Tryz.func23, Tryz.ntmps23
 go_wp2
 clear hmm
 go_loopw [15] (fun s15 wr => ∃ i : Nat, s15 = .int .i64 i ∧ i ≤ n2 ∧ Hid (UM wr w.heap.size i (fun x => if x ∈ gs.take i then some (vWL none) else none)) ∧ Hid (Below w.heap.size w wr)) (fun s15 _ => n2 - (intOf s15).toNat)
 case atStart => exact ⟨0, rfl, Nat.zero_le _, hid (by simpa using U0.out), B0⟩
 case round =>
  obtain ⟨i, rfl, hin, HU, BR⟩ := hrel
  by_cases hlt : i < n2
  ·have hltz : (i : Int) < (n2 : Int) := by omega
   obtain ⟨x, hx⟩ : ∃ x, gs[i]? = some x := ⟨_, List.getElem?_eq_getElem (by have := E2.out; omega)⟩
   have ID : Hid (x < 18446744073709551616) := hid (IG.out _ (List.mem_of_getElem? hx))
   have GS := hid (gone_step12 (u := vWL none) hx)
   obtain ⟨ad, eA, ca⟩ := (HG.out.below (Nat.zero_le _) (show Below w.heap.size w wr from BR.out)).at_ (k := i) (by have := E2.out; simp; omega)
   subst eA
   have ca2 : wr.cell? (ad.add i) = some (.int .u64 (x : Int)) := by
    obtain ⟨q1, q2⟩ := List.getElem?_eq_some_iff.1 hx
    rw [ca]
    simp [q2, encU]
   obtain ⟨w4, hput, hU4, hg4⟩ := HU.out.put Tryz.underlying61 (by unfold maxLen; omega) ID.out (vWL none)
   have U4 := hid hU4
   have G4 := hid hg4
   have k0 : 0 ≤ (i : Int) := by omega
   have hput2 : (Instr.mapUpdate 61 (.map (some w.heap.size)) (.int .u64 (x : Int)) (.agg #[.bool false, .int .u64 0, .string ⟨#[]⟩])).run Tryz.prog wr = .ok () w4 := hput
   clear hx ca hput hU4 hg4
   go_wp2_with fail
   go_roundw
   case rel => exact ⟨i + 1, by go_num, by omega, hid (by rw [GS.out]; exact U4.out), hid (BR.out.grown G4.out BR.out.size (fun j e => by cases e; exact Nat.le_refl _))⟩
   case measure => simp [intOf]; omega
  ·obtain rfl : i = n2 := by omega
   have hltz : ¬ ((i : Int) < (i : Int)) := by omega
   have U2 := HU.out
   rw [E2.out, List.take_length, ← E2.out] at U2
   have HU2 := hid U2
   have CP2 := hid (CP.out wr BR.out)
   clear U2 hb0
   go_wp2_with fail
   refine CP2.out.mono ?_
   rintro e w3 ⟨m3, rfl, hm3, hU3, hb3⟩
   have ZL3 : Hid (w.heap.size < m3) := hid (by have := HU2.out.lt; omega)
   have U3 := hid (HU2.out.below hb3 HU2.out.lt)
   have B3 : Hid (Below w.heap.size w w3) := hid (BR.out.trans (hb3.mono BR.out.size))
   obtain ⟨D, own, hhas, hval⟩ := hU3.out
   have sz := own.size_le
   have HH := hid hhas
   have HW := hid hval
   have L2 := hid own.lt
   clear hU3 hb3 hm3 hhas hval
   go_wp2_with (first | (at_range; refine wpList_range_own _ rfl _ 89 rfl 30 _ u64K Tryz.underlying89 anyV m3 n D rfl own ?_; intro w5 hrg0 hg0 hs0) | fail)
   go_frame
   go_loopw [] (fun wr => ∃ (left : Lit → Bool) (cnt m : Nat), wr.ranges Tryz.prog 30 anyV m3 w3.heap.size n D left cnt ∧ m + cnt ≤ i + n ∧ Hid (UM wr w.heap.size m (partW (firstN idL ps) (fun y => vWL (some y)) (fun x => if x ∈ gs then some (vWL none) else none) left)) ∧ Hid (Bt w.heap.size w3 wr))
    (fun wr => wr.rangeLeft m3 w3.heap.size)
   case atStart => exact ⟨_, _, i, hrg0, by omega, hid (by rw [partW_start HH.out]; exact U3.out.kept hg0 (by simp)), hid ((Bt.refl _ _).grown hg0 (fun k e => by cases e))⟩
   case round =>
    obtain ⟨left, cnt, m, hrg, hm, HU5, BT⟩ := hrel
    go_wp2_with (first | (at_next; refine wpList_next_ranges _ rfl _ rfl 30 u64K anyV encU id (fun key kl hk => by obtain ⟨x, hx, _⟩ := nkey_of hk; exact ⟨x, hx⟩) (fun v _ _ => ⟨v, rfl⟩) m3 w3.heap.size n D _ _ rfl hrg ?_ ?_) | fail)
    ·intro _ hl0
     go_wp2
     go_ret
     exact ⟨_, rfl, Nat.le_refl _, by rw [← partW_end hl0]; exact HU5.out.up (by omega), B3.out.trans (BT.out.below (Nat.le_refl _) B3.out.size)⟩
    ·intro x cv kl yd yp w6 cnt2 hkey hlk hv hat hrg2 hlt2 hg2 hs2 hen
     obtain ⟨x', ex, rfl, hx64⟩ := nkey_of hkey
     obtain rfl : x = x' := by unfold encU at ex; injection ex with _ ex; omega
     obtain ⟨y, hy, hcv⟩ : ∃ y, firstN idL ps x = some y ∧ cv = vL y := by
      have q := HH.out x
      rw [has_true_of_atKey hat] at q
      obtain ⟨v, hv2⟩ := Option.isSome_iff_exists.1 q.symm
      have r := (HW.out x v hv2 (.held v)).symm.trans (hat _)
      have y := anyV_inv hv
      injection y with y _
      rw [y] at r
      injection r with r
      obtain ⟨z, hz, e⟩ := Option.map_eq_some_iff.1 hv2
      exact ⟨z, hz, by rw [← r, ← e]⟩
     subst hcv
     have U6 := hid (HU5.out.kept hg2 (fun q => by injection q with q; have := ZL3.out; have := L2.out; have := U3.out.lt; omega))
     have BT6 := hid (BT.out.grown hg2 (fun k e => by cases e; exact Nat.le_refl _))
     obtain ⟨w7, hw7⟩ : ∃ u, w6.alloc (.cells #[.int .u64 (y.id : Int), .string (str y.name)] 32) = u := ⟨_, rfl⟩
     obtain ⟨lb, b7, z7⟩ := new_two hw7
     have hrg7 := hrg2.alloc (.cells #[.int .u64 (y.id : Int), .string (str y.name)] 32)
     rw [hw7] at hrg7
     have U7 := hid (U6.out.below b7 U6.out.lt)
     have BT7 := hid (BT6.out.stay b7)
     obtain ⟨w8, hput, hU8, hg8⟩ := U7.out.put Tryz.underlying61 (by unfold maxLen; omega) hx64 (vWL (some y))
     have hrg8 := hrg7.kept hg8 (fun q => by injection q with q; have := ZL3.out; omega) (fun q => by injection q with q; have := U3.out.lt; omega)
     obtain ⟨l0, l1⟩ := two_cells lb
     have U8 := hid hU8
     have G8 := hid hg8
     have PS := hid (partW_step (u := fun y => vWL (some y)) (f1 := fun x => if x ∈ gs then some (vWL none) else none) (left := left) hy)
     have hput2 : (Instr.mapUpdate 61 (.map (some w.heap.size)) (.int .u64 (x : Int)) (.agg #[.bool true, .int .u64 (y.id : Int), .string (str y.name)])).run Tryz.prog w7 = .ok () w8 := hput
     have hb1 := blW1L
     clear hat hkey hy hs2 lb b7 hU8 hg8 hrg7 hv hput
     unfold vL encL at hen
     unfold encU at hen
     go_wp2_with fail
     go_roundw
     case rel => exact ⟨_, cnt2, m + 1, hrg8, by omega, hid (by rw [PS.out]; exact U8.out), hid (BT7.out.grown2 G8.out)⟩
     case measure => rw [hrg8.left_eq, hrg.left_eq]; exact hlt2
set_option maxHeartbeats 4000000 in
theorem wrdK_c {A A2 : Option Addr} {n c n2 c2 : Nat} {ps : List MTk} {gs : List Nat} {w : World} (hp : KL w A ps) (hg : Lies w 0 30 A2 (gs.map encU)) (e1 : n = ps.length) (e2 : n2 = gs.length) (s1 : n ≤ 1000) (s2 : n2 ≤ 1000) (ip : ∀ l ∈ ps, idK l < 18446744073709551616) (ig : ∀ x ∈ gs, x < 18446744073709551616) :
  Calls Tryz.prog 25 #[.slice A n c, .slice A2 n2 c2, .func (.func 22) #[] #[]] w (MapOk (fun x => (pwN idK ps gs x).map vWK) (n2 + n) w) := by
 have CP := hid (fun (v : World) (hv : Below w.heap.size w v) => byK_c (c := c) (hp.stay hv) e1 (by omega) ip)
 have HG := hid hg
 have E2 := hid e2
 have IG := hid ig
 have hmm := @run_makeMap Tryz.prog
 obtain ⟨w0, hw0⟩ : ∃ u, w.alloc (.map #[] 0) = u := ⟨_, rfl⟩
 have B0 : Hid (Below w.heap.size w w0) := hid (by rw [← hw0]; exact (Below.refl _ w).alloc (Nat.le_refl _) _)
 have U0 : Hid (UM w0 w.heap.size 0 (fun _ => none)) := hid (by rw [← hw0]; exact UM.made w)
 have hb0 := blW0K
 clear hp hg e1 e2 ip ig
 go_enter Tryz.func25, Tryz.ntmps25
 go_wp2
 clear hmm
 go_loopw [15] (fun s15 wr => ∃ i : Nat, s15 = .int .i64 i ∧ i ≤ n2 ∧ Hid (UM wr w.heap.size i (fun x => if x ∈ gs.take i then some (vWK none) else none)) ∧ Hid (Below w.heap.size w wr)) (fun s15 _ => n2 - (intOf s15).toNat)
 case atStart => exact ⟨0, rfl, Nat.zero_le _, hid (by simpa using U0.out), B0⟩
 case round =>
  obtain ⟨i, rfl, hin, HU, BR⟩ := hrel
  by_cases hlt : i < n2
  ·have hltz : (i : Int) < (n2 : Int) := by omega
   obtain ⟨x, hx⟩ : ∃ x, gs[i]? = some x := ⟨_, List.getElem?_eq_getElem (by have := E2.out; omega)⟩
   have ID : Hid (x < 18446744073709551616) := hid (IG.out _ (List.mem_of_getElem? hx))
   have GS := hid (gone_step12 (u := vWK none) hx)
   obtain ⟨ad, eA, ca⟩ := (HG.out.below (Nat.zero_le _) (show Below w.heap.size w wr from BR.out)).at_ (k := i) (by have := E2.out; simp; omega)
   subst eA
   have ca2 : wr.cell? (ad.add i) = some (.int .u64 (x : Int)) := by
    obtain ⟨q1, q2⟩ := List.getElem?_eq_some_iff.1 hx
    rw [ca]
    simp [q2, encU]
   obtain ⟨w4, hput, hU4, hg4⟩ := HU.out.put Tryz.underlying66 (by unfold maxLen; omega) ID.out (vWK none)
   have U4 := hid hU4
   have G4 := hid hg4
   have k0 : 0 ≤ (i : Int) := by omega
   have hput2 : (Instr.mapUpdate 66 (.map (some w.heap.size)) (.int .u64 (x : Int)) (.agg #[.bool false, .int .u64 0, .int .u64 0, .string ⟨#[]⟩, .bool false, .float .f64 0, .float .f64 0, .slice none 0 0])).run Tryz.prog wr = .ok () w4 := hput
   clear hx ca hput hU4 hg4
   go_wp2_with fail
   go_roundw
   case rel => exact ⟨i + 1, by go_num, by omega, hid (by rw [GS.out]; exact U4.out), hid (BR.out.grown G4.out BR.out.size (fun j e => by cases e; exact Nat.le_refl _))⟩
   case measure => simp [intOf]; omega
  ·obtain rfl : i = n2 := by omega
   have hltz : ¬ ((i : Int) < (i : Int)) := by omega
   have U2 := HU.out
   rw [E2.out, List.take_length, ← E2.out] at U2
   have HU2 := hid U2
   have CP2 := hid (CP.out wr BR.out)
   clear U2 hb0
   go_wp2_with fail
   refine CP2.out.mono ?_
   rintro e w3 ⟨m3, rfl, hm3, hU3, hb3⟩
   have ZL3 : Hid (w.heap.size < m3) := hid (by have := HU2.out.lt; omega)
   have U3 := hid (HU2.out.below hb3 HU2.out.lt)
   have B3 : Hid (Below w.heap.size w w3) := hid (BR.out.trans (hb3.mono BR.out.size))
   obtain ⟨D, own, hhas, hval⟩ := hU3.out
   have sz := own.size_le
   have HH := hid hhas
   have HW := hid hval
   have L2 := hid own.lt
   clear hU3 hb3 hm3 hhas hval
   go_wp2_with (first | (at_range; refine wpList_range_own _ rfl _ 93 rfl 30 _ u64K Tryz.underlying93 anyV m3 n D rfl own ?_; intro w5 hrg0 hg0 hs0) | fail)
   go_frame
   go_loopw [] (fun wr => ∃ (left : Lit → Bool) (cnt m : Nat), wr.ranges Tryz.prog 30 anyV m3 w3.heap.size n D left cnt ∧ m + cnt ≤ i + n ∧ Hid (UM wr w.heap.size m (partW (firstN idK ps) (fun y => vWK (some y)) (fun x => if x ∈ gs then some (vWK none) else none) left)) ∧ Hid (Bt w.heap.size w3 wr))
    (fun wr => wr.rangeLeft m3 w3.heap.size)
   case atStart => exact ⟨_, _, i, hrg0, by omega, hid (by rw [partW_start HH.out]; exact U3.out.kept hg0 (by simp)), hid ((Bt.refl _ _).grown hg0 (fun k e => by cases e))⟩
   case round =>
    obtain ⟨left, cnt, m, hrg, hm, HU5, BT⟩ := hrel
    go_wp2_with (first | (at_next; refine wpList_next_ranges _ rfl _ rfl 30 u64K anyV encU id (fun key kl hk => by obtain ⟨x, hx, _⟩ := nkey_of hk; exact ⟨x, hx⟩) (fun v _ _ => ⟨v, rfl⟩) m3 w3.heap.size n D _ _ rfl hrg ?_ ?_) | fail)
    ·intro _ hl0
     go_wp2
     go_ret
     exact ⟨_, rfl, Nat.le_refl _, by rw [← partW_end hl0]; exact HU5.out.up (by omega), B3.out.trans (BT.out.below (Nat.le_refl _) B3.out.size)⟩
    ·intro x cv kl yd yp w6 cnt2 hkey hlk hv hat hrg2 hlt2 hg2 hs2 hen
     obtain ⟨x', ex, rfl, hx64⟩ := nkey_of hkey
     obtain rfl : x = x' := by unfold encU at ex; injection ex with _ ex; omega
     obtain ⟨y, hy, hcv⟩ : ∃ y, firstN idK ps x = some y ∧ cv = vK y := by
      have q := HH.out x
      rw [has_true_of_atKey hat] at q
      obtain ⟨v, hv2⟩ := Option.isSome_iff_exists.1 q.symm
      have r := (HW.out x v hv2 (.held v)).symm.trans (hat _)
      have y := anyV_inv hv
      injection y with y _
      rw [y] at r
      injection r with r
      obtain ⟨z, hz, e⟩ := Option.map_eq_some_iff.1 hv2
      exact ⟨z, hz, by rw [← r, ← e]⟩
     subst hcv
     have U6 := hid (HU5.out.kept hg2 (fun q => by injection q with q; have := ZL3.out; have := L2.out; have := U3.out.lt; omega))
     have BT6 := hid (BT.out.grown hg2 (fun k e => by cases e; exact Nat.le_refl _))
     obtain ⟨w7, hw7⟩ : ∃ u, w6.alloc (.cells #[.int .u64 (y.t.id : Int), .int .u64 (y.t.list : Int), .string (str y.t.title), .bool y.t.done, .float .f64 y.t.rank, .float .f64 y.t.est, .slice y.A y.t.tags.length y.c] 38) = u := ⟨_, rfl⟩
     obtain ⟨lb, b7, z7⟩ := new_seven hw7
     have hrg7 := hrg2.alloc (.cells #[.int .u64 (y.t.id : Int), .int .u64 (y.t.list : Int), .string (str y.t.title), .bool y.t.done, .float .f64 y.t.rank, .float .f64 y.t.est, .slice y.A y.t.tags.length y.c] 38)
     rw [hw7] at hrg7
     have U7 := hid (U6.out.below b7 U6.out.lt)
     have BT7 := hid (BT6.out.stay b7)
     obtain ⟨w8, hput, hU8, hg8⟩ := U7.out.put Tryz.underlying66 (by unfold maxLen; omega) hx64 (vWK (some y))
     have hrg8 := hrg7.kept hg8 (fun q => by injection q with q; have := ZL3.out; omega) (fun q => by injection q with q; have := U3.out.lt; omega)
     obtain ⟨l0, l1, l2, l3, l4, l5, l6⟩ := seven_cells lb
     have U8 := hid hU8
     have G8 := hid hg8
     have PS := hid (partW_step (u := fun y => vWK (some y)) (f1 := fun x => if x ∈ gs then some (vWK none) else none) (left := left) hy)
     have hput2 : (Instr.mapUpdate 66 (.map (some w.heap.size)) (.int .u64 (x : Int)) (.agg #[.bool true, .int .u64 (y.t.id : Int), .int .u64 (y.t.list : Int), .string (str y.t.title), .bool y.t.done, .float .f64 y.t.rank, .float .f64 y.t.est, .slice y.A y.t.tags.length y.c])).run Tryz.prog w7 = .ok () w8 := hput
     have hb1 := blW1K
     clear hat hkey hy hs2 lb b7 hU8 hg8 hrg7 hv hput
     unfold vK encK at hen
     unfold encU at hen
     go_wp2_with fail
     go_roundw
     case rel => exact ⟨_, cnt2, m + 1, hrg8, by omega, hid (by rw [PS.out]; exact U8.out), hid (BT7.out.grown2 G8.out)⟩
     case measure => rw [hrg8.left_eq, hrg.left_eq]; exact hlt2
end
end
end Go.Proofs.YtnhpkcphgdkdiaaGreat
