import Derived.Test.YtnhpkcphgdkdiaaGreatZ48
namespace Go.Proofs.YtnhpkcphgdkdiaaGreat
set_option linter.unusedSimpArgs false
set_option maxRecDepth 100000
section
set_option linter.unusedSimpArgs false
section
open Go.RowKit Go.Lib Go.Shelf
theorem zrWL (w : World) : (zeroValue 65).run Tryz.prog w = .ok (.agg #[.bool false, .int .u64 0, .string ⟨#[]⟩]) w := Tryz.zeroValue65 w
theorem zrWK (w : World) : (zeroValue 70).run Tryz.prog w = .ok (.agg #[.bool false, .int .u64 0, .int .u64 0, .string ⟨#[]⟩, .bool false, .float .f64 0, .float .f64 0, .slice none 0 0]) w := Tryz.zeroValue70 w
def isGone {α : Type} (J : Nat → Option (Option α)) (k : Nat) : Bool := match J k with | some none => true | _ => false
def jn {α : Type} (J : Nat → Option (Option α)) (k : Nat) : Option α := (J k).join
theorem gone_iff {α : Type} {J : Nat → Option (Option α)} {k : Nat} : isGone J k = true ↔ J k = some none := by
 unfold isGone
 cases e : J k with
 | none => simp
 | some o => cases o <;> simp
theorem told_join {α : Type} {g : α → Nat} {u : Option α → Value} {J : Nat → Option (Option α)} (hf : ∀ k x, J k = some (some x) → g x = k) {ss : List Nat} (h : RisN (fun k => (J k).map u) ss) : Told g (jn J) (ss.filterMap (jn J)) ∧ (ss.filter (isGone J)).Pairwise (· < ·) ∧ ∀ k, k ∈ ss.filter (isGone J) ↔ J k = some none := by
 have js : ∀ {k x}, jn J k = some x → J k = some (some x) := fun {k x} e => by
  unfold jn at e
  cases q : J k with
  | none => rw [q] at e; cases e
  | some o => rw [q] at e; rw [show o = some x from e]
 refine ⟨?_, h.1.filter _, fun k => ?_⟩
 ·refine told_of (v := fun x => u (some x)) (ss := ss.filter (fun k => (jn J k).isSome)) (fun k x e => hf k x (js e)) ⟨h.1.filter _, fun k => ?_⟩ ?_
  ·rw [List.mem_filter]
   have := h.2 k
   constructor
   ·rintro ⟨_, q⟩
    cases e : jn J k with
    | none => rw [e] at q; cases q
    | some x => show ((jn J k).map (fun x => u (some x))).isSome = true; rw [e]; rfl
   ·intro q
    have q' : ((jn J k).map (fun x => u (some x))).isSome = true := q
    cases e : jn J k with
    | none => rw [e] at q'; cases q'
    | some x => exact ⟨this.2 (by show ((J k).map u).isSome = true; rw [js e]; rfl), rfl⟩
  ·clear h
   induction ss with
   | nil => rfl
   | cons k t ih =>
    rw [List.filter_cons, List.filterMap_cons]
    cases e : jn J k with
    | none => simpa using ih
    | some x => simpa [e] using ih
 ·rw [List.mem_filter, h.2 k, gone_iff]
  constructor
  ·exact fun q => q.2
  ·intro q
   exact ⟨by show ((J k).map u).isSome = true; rw [q]; rfl, q⟩
theorem fm_snoc {α : Type} {J : Nat → Option (Option α)} {ss : List Nat} {i n : Nat} (h : ss[i]? = some n) : (ss.take (i + 1)).filterMap (jn J) = (ss.take i).filterMap (jn J) ++ (match J n with | some (some x) => [x] | _ => []) ∧ (ss.take (i + 1)).filter (isGone J) = (ss.take i).filter (isGone J) ++ (match J n with | some none => [n] | _ => []) := by
 rw [take_nxt h, List.filterMap_append, List.filter_append]
 unfold jn isGone
 constructor
 ·congr 1
  cases e : J n with
  | none => simp [e]
  | some o => cases o <;> simp [e]
 ·congr 1
  cases e : J n with
  | none => simp [e]
  | some o => cases o <;> simp [e]
set_option maxHeartbeats 4000000 in
theorem tldL_c {w : World} {mb nn : Nat} {J : Nat → Option (Option T9.Li)} (hU : UM w mb nn (fun x => (J x).map vWL)) (hN : nn ≤ 4000) (hid : ∀ x y, J x = some (some y) → idL y = x) (hb : ∀ x, (J x).isSome = true → x < 18446744073709551616) (hss : ∀ ss, RisN (fun x => (J x).map vWL) ss → ss.length ≤ 4000) :
  Calls Tryz.prog 27 #[.map (some mb)] w fun e w' => ∃ (A : Option Addr) (c : Nat) (rs : List T9.Li) (A2 : Option Addr) (c2 : Nat) (gs : List Nat), e = .returned (.tuple #[.slice A rs.length c, .slice A2 gs.length c2]) ∧ Told idL (jn J) rs ∧ (gs.Pairwise (· < ·) ∧ ∀ x, x ∈ gs ↔ J x = some none) ∧ Lies w' 0 32 A (lcells rs) ∧ rs.length ≤ c ∧ Lies w' 0 30 A2 (gs.map encU) ∧ gs.length ≤ c2 ∧ Below w.heap.size w w' := by
 have CR := Lib.hid (riseWL_c hU (by omega))
 have HU := Lib.hid hU
 have HID := Lib.hid hid
 have HB := Lib.hid hb
 have HSS := Lib.hid hss
 clear hU hid hb hss
 go_enter Tryz.func27, Tryz.ntmps27
 go_wp2_with (go_at_call 53; refine CR.out.mono ?_; rintro e w5 ⟨A5, c5, ss, rfl, hS5, hrow5, hb5⟩; have U5 := Lib.hid (HU.out.below hb5 HU.out.lt); have B5 := Lib.hid hb5; have S5 := Lib.hid hS5; have L5 := Lib.hid (lies_own (B := 0) hrow5); clear hS5 hrow5 hb5)
 have LEN : ss.length ≤ 4000 := HSS.out ss S5.out
 go_loopw [4, 5, 12] (fun s4 s5 s12 wr => ∃ (i a b : Nat) (R : Option Addr) (c : Nat) (R2 : Option Addr) (c2 : Nat) (rs : List T9.Li), s12 = .int .i64 i ∧ i ≤ ss.length ∧ s4 = .slice R a c ∧ s5 = .slice R2 b c2 ∧ (a ≤ i ∧ b ≤ i) ∧ Hid (rs.length = a ∧ (ss.take i).filterMap (jn J) = rs ∧ b = ((ss.take i).filter (isGone J)).length ∧ True) ∧ Hid (wr.ownsRow w5.heap.size 32 2 (.slice R a c) a (lcells rs)) ∧ Hid (wr.ownsRow w5.heap.size 30 1 (.slice R2 b c2) b (((ss.take i).filter (isGone J)).map encU)) ∧ Hid (Below w5.heap.size w5 wr)) (fun _ _ s12 _ => ss.length - (intOf s12).toNat)
 case atStart => exact ⟨0, 0, 0, none, 0, none, 0, [], rfl, Nat.zero_le _, rfl, rfl, ⟨Nat.le_refl _, Nat.le_refl _⟩, Lib.hid ⟨rfl, rfl, rfl, trivial⟩, Lib.hid (World.ownsRow_nil _ _ _ _), Lib.hid (World.ownsRow_nil _ _ _ _), Lib.hid (Below.refl _ _)⟩
 case round =>
  obtain ⟨i, a, b, R, c, R2, c2, rs, rfl, hin, rfl, rfl, hab, HI, OW, OG, BR⟩ := hrel
  by_cases hlt2 : i < ss.length
  ·have hltz2 : (i : Int) < (ss.length : Int) := by omega
   obtain ⟨x, hx⟩ : ∃ x, ss[i]? = some x := ⟨_, List.getElem?_eq_getElem hlt2⟩
   have X := Lib.hid hx
   have hso : ((J x).map vWL).isSome = true := (S5.out.2 x).1 (List.mem_of_getElem? hx)
   obtain ⟨o, ho⟩ : ∃ o, J x = some o := by
    cases e : J x with
    | none => rw [e] at hso; cases hso
    | some o => exact ⟨o, rfl⟩
   have ID : Hid (x < 18446744073709551616) := Lib.hid (HB.out x (by rw [ho]; rfl))
   obtain ⟨ad, eA, ca⟩ := (L5.out.tch (Tch.of_below (B := 0) BR.out (Nat.zero_le _) []) (by simp)).at_ (k := i) (by simpa using hlt2)
   subst eA
   have ca2 : wr.cell? (ad.add i) = some (.int .u64 (x : Int)) := by
    obtain ⟨q1, q2⟩ := List.getElem?_eq_some_iff.1 hx
    rw [ca]
    simp [q2, encU]
   have UR := Lib.hid (U5.out.below BR.out U5.out.lt)
   have hlk0 : (Instr.lookup 61 (.map (some mb)) (.int .u64 (x : Int)) false).run Tryz.prog wr = .ok (((J x).map vWL).getD (.agg #[.bool false, .int .u64 0, .string ⟨#[]⟩])) wr := UR.out.look Tryz.underlying61 (zrWL wr) ID.out
   rw [ho] at hlk0
   have k0 : 0 ≤ (i : Int) := by omega
   cases o with
   | some y =>
    have JN : Hid (J x = some (some y)) := Lib.hid ho
    have hlk : (Instr.lookup 61 (.map (some mb)) (.int .u64 (x : Int)) false).run Tryz.prog wr = .ok (.agg #[.bool true, .int .u64 (y.id : Int), .string (str y.name)]) wr := hlk0
    clear hx hso ho ca hlk0
    obtain ⟨w2, hw2⟩ : ∃ u, wr.alloc (.cells #[.bool true, .int .u64 (y.id : Int), .string (str y.name)] 65) = u := ⟨_, rfl⟩
    obtain ⟨lb, b2, z2⟩ := new_3w hw2
    have B2 := Lib.hid b2
    obtain ⟨l0, l1, l2⟩ := cells_3w lb
    have hbs : ∀ u : World, (Instr.buildSlice 22 1 #[(0, .agg #[.int .u64 (y.id : Int), .string (str y.name)])]).run Tryz.prog u = .ok (.slice (some ⟨u.heap.size, 0, none⟩) 1 1) (u.alloc (.cells #[.int .u64 (y.id : Int), .string (str y.name)] 32)) := fun u => buildSlL9 y u
    have OW2 := Lib.hid (own_below OW.out b2)
    have OG2 := Lib.hid (own_below OG.out b2)
    have OWE := Lib.hid (OW2.out.alloc (.cells #[.int .u64 (y.id : Int), .string (str y.name)] 32))
    have LE : Hid (Lies (w2.alloc (.cells #[.int .u64 (y.id : Int), .string (str y.name)] 32)) 0 32 (some ⟨w2.heap.size, 0, none⟩) (encL y)) := Lib.hid (Lies.of_blk (heap_alloc_new w2 _))
    have BB : Hid (Below w5.heap.size w5 w2) := Lib.hid (BR.out.trans (b2.mono BR.out.size))
    have zz := BB.out.size
    obtain ⟨ti0, thi, tz0, tz1, tz2⟩ := info_parts Tryz.infoLi9
    clear lb b2 z2
    go_wp2_with (at_builtin; refine wpList_app _ rfl _ _ 22 rfl w5.heap.size 32 ti0 _ 2 24 Tryz.underlying22 thi tz0 tz1 tz2 rfl (by decide) (.slice R a c) a (lcells rs) rfl OWE.out 0 _ 1 1 (encL y) 32 rfl rfl LE.out (encL_one _) (by unfold maxLen; omega) (by omega) (by simp; omega) ?_)
    intro v6 w6 hown6 hgrow6 hor6
    obtain ⟨A6, k6, rfl⟩ := own_slice hown6
    have T6 : Hid (Tch w5.heap.size [32] w2 w6) := Lib.hid (((Tch.refl w5.heap.size [32] w2).alloc BB.out.size (.cells #[.int .u64 (y.id : Int), .string (str y.name)] 32)).trans (grown_tch (B := w5.heap.size) (ts := [32]) OWE.out hgrow6 (Nat.le_refl _) (by have := BB.out.size; simp; omega) (by simp)))
    have HO6 := Lib.hid hown6
    have OG6 := Lib.hid (own_tch OG2.out T6.out (by decide))
    have B6 : Hid (Below w5.heap.size w5 w6) := Lib.hid (BB.out.trans T6.out.below)
    clear hown6 hgrow6 hor6 hbs zz l0 l1 l2
    go_wp2
    go_roundw
    case rel => exact ⟨i + 1, a + 1, b, A6, k6, R2, c2, rs ++ [y], by go_num, by omega, rfl, rfl, by omega, Lib.hid ⟨by rw [List.length_append, HI.out.1]; rfl, by rw [(fm_snoc X.out).1, JN.out, HI.out.2.1], by rw [(fm_snoc X.out).2, JN.out, List.append_nil]; exact HI.out.2.2.1, trivial⟩, Lib.hid (by rw [lcells_snoc]; exact HO6.out), Lib.hid (by rw [(fm_snoc X.out).2, JN.out]; simpa using OG6.out), B6⟩
    case measure => simp [intOf]; omega
   | none =>
    have JN : Hid (J x = some none) := Lib.hid ho
    have hlk : (Instr.lookup 61 (.map (some mb)) (.int .u64 (x : Int)) false).run Tryz.prog wr = .ok (.agg #[.bool false, .int .u64 0, .string ⟨#[]⟩]) wr := hlk0
    clear hx hso ho ca hlk0
    go_upto_region 7 with fail
    obtain ⟨w2, hw2⟩ : ∃ u, wr.alloc (.cells #[.bool false, .int .u64 0, .string ⟨#[]⟩] 65) = u := ⟨_, rfl⟩
    try rw [hw2]
    obtain ⟨lb, b2, z2⟩ := new_3w hw2
    obtain ⟨l0, l1, l2⟩ := cells_3w lb
    have OW2 := Lib.hid (own_below OW.out b2)
    have OG2 := Lib.hid (own_below OG.out b2)
    have OWE := Lib.hid (OG2.out.alloc (.cells #[.int .u64 (x : Int)] 30))
    have LE : Hid (Lies (w2.alloc (.cells #[.int .u64 (x : Int)] 30)) 0 30 (some ⟨w2.heap.size, 0, none⟩) [encU x]) := Lib.hid (Lies.of_blk (heap_alloc_new w2 _))
    have BB : Hid (Below w5.heap.size w5 w2) := Lib.hid (BR.out.trans (b2.mono BR.out.size))
    have zz := BB.out.size
    obtain ⟨fl, hfl⟩ : ∃ f, ((ss.take i).filter (isGone J)).map encU = f := ⟨_, rfl⟩
    rw [hfl] at OWE
    have HFL := Lib.hid hfl
    obtain ⟨ti0, thi, tz0, tz1, tz2⟩ := info_parts infoU
    clear lb b2 z2 hfl
    go_wp2_with (at_builtin; refine wpList_app _ rfl _ _ 43 rfl w5.heap.size 30 ti0 _ 1 8 Tryz.underlying43 thi tz0 tz1 tz2 rfl (by decide) (.slice R2 b c2) b fl rfl OWE.out 0 _ 1 1 [encU x] 30 rfl rfl LE.out (by intro u hu; rw [List.mem_singleton] at hu; subst hu; rfl) (by unfold maxLen; omega) (by omega) (by simp; omega) ?_)
    intro v6 w6 hown6 hgrow6 hor6
    obtain ⟨A6, k6, rfl⟩ := own_slice hown6
    have T6 : Hid (Tch w5.heap.size [30] w2 w6) := Lib.hid (((Tch.refl w5.heap.size [30] w2).alloc BB.out.size (.cells #[.int .u64 (x : Int)] 30)).trans (grown_tch (B := w5.heap.size) (ts := [30]) OWE.out hgrow6 (Nat.le_refl _) (by have := BB.out.size; simp; omega) (by simp)))
    have HO6 := Lib.hid hown6
    have OW6 := Lib.hid (own_tch OW2.out T6.out (by decide))
    have B6 : Hid (Below w5.heap.size w5 w6) := Lib.hid (BB.out.trans T6.out.below)
    clear hown6 hgrow6 hor6 zz l0 l1 l2
    go_wp2
    go_roundw
    case rel => exact ⟨i + 1, a, b + 1, R, c, A6, k6, rs, by go_num, by omega, rfl, rfl, by omega, Lib.hid ⟨HI.out.1, by rw [(fm_snoc X.out).1, JN.out, HI.out.2.1]; simp, by rw [(fm_snoc X.out).2, JN.out, List.length_append, ← HI.out.2.2.1]; rfl, trivial⟩, OW6, Lib.hid (by rw [(fm_snoc X.out).2, JN.out, List.map_append, HFL.out]; exact HO6.out), B6⟩
    case measure => simp [intOf]; omega
  ·obtain rfl : i = ss.length := by omega
   have hltz2 : ¬ ((ss.length : Int) < (ss.length : Int)) := by omega
   go_wp2
   go_ret2
   have e0 := HI.out
   rw [List.take_length] at e0
   obtain ⟨t1, t2, t3⟩ := told_join (u := vWL) HID.out S5.out
   rw [e0.2.1] at t1
   have ow := OW.out
   rw [← e0.1] at ow
   have og := OG.out
   rw [List.take_length, e0.2.2.1] at og
   refine ⟨R, c, rs, R2, c2, ss.filter (isGone J), by rw [e0.1, e0.2.2.1]; rfl, t1, ⟨t2, t3⟩, lies_own (B := 0) ow, own_room3 ow, lies_own (B := 0) og, own_room3 og, B5.out.trans (BR.out.mono B5.out.size)⟩
set_option maxHeartbeats 4000000 in
theorem tldK_c {w : World} {mb nn : Nat} {J : Nat → Option (Option MTk)} (hU : UM w mb nn (fun x => (J x).map vWK)) (hN : nn ≤ 4000) (hid : ∀ x y, J x = some (some y) → idK y = x) (hb : ∀ x, (J x).isSome = true → x < 18446744073709551616) (hss : ∀ ss, RisN (fun x => (J x).map vWK) ss → ss.length ≤ 4000) :
  Calls Tryz.prog 28 #[.map (some mb)] w fun e w' => ∃ (A : Option Addr) (c : Nat) (rs : List MTk) (A2 : Option Addr) (c2 : Nat) (gs : List Nat), e = .returned (.tuple #[.slice A rs.length c, .slice A2 gs.length c2]) ∧ Told idK (jn J) rs ∧ (gs.Pairwise (· < ·) ∧ ∀ x, x ∈ gs ↔ J x = some none) ∧ Lies w' 0 38 A (tkcells rs) ∧ rs.length ≤ c ∧ Lies w' 0 30 A2 (gs.map encU) ∧ gs.length ≤ c2 ∧ Below w.heap.size w w' := by
 have CR := Lib.hid (riseWK_c hU (by omega))
 have HU := Lib.hid hU
 have HID := Lib.hid hid
 have HB := Lib.hid hb
 have HSS := Lib.hid hss
 clear hU hid hb hss
 go_enter Tryz.func28, Tryz.ntmps28
 go_wp2_with (go_at_call 54; refine CR.out.mono ?_; rintro e w5 ⟨A5, c5, ss, rfl, hS5, hrow5, hb5⟩; have U5 := Lib.hid (HU.out.below hb5 HU.out.lt); have B5 := Lib.hid hb5; have S5 := Lib.hid hS5; have L5 := Lib.hid (lies_own (B := 0) hrow5); clear hS5 hrow5 hb5)
 have LEN : ss.length ≤ 4000 := HSS.out ss S5.out
 go_loopw [4, 5, 12] (fun s4 s5 s12 wr => ∃ (i a b : Nat) (R : Option Addr) (c : Nat) (R2 : Option Addr) (c2 : Nat) (rs : List MTk), s12 = .int .i64 i ∧ i ≤ ss.length ∧ s4 = .slice R a c ∧ s5 = .slice R2 b c2 ∧ (a ≤ i ∧ b ≤ i) ∧ Hid (rs.length = a ∧ (ss.take i).filterMap (jn J) = rs ∧ b = ((ss.take i).filter (isGone J)).length ∧ True) ∧ Hid (wr.ownsRow w5.heap.size 38 7 (.slice R a c) a (tkcells rs)) ∧ Hid (wr.ownsRow w5.heap.size 30 1 (.slice R2 b c2) b (((ss.take i).filter (isGone J)).map encU)) ∧ Hid (Below w5.heap.size w5 wr)) (fun _ _ s12 _ => ss.length - (intOf s12).toNat)
 case atStart => exact ⟨0, 0, 0, none, 0, none, 0, [], rfl, Nat.zero_le _, rfl, rfl, ⟨Nat.le_refl _, Nat.le_refl _⟩, Lib.hid ⟨rfl, rfl, rfl, trivial⟩, Lib.hid (World.ownsRow_nil _ _ _ _), Lib.hid (World.ownsRow_nil _ _ _ _), Lib.hid (Below.refl _ _)⟩
 case round =>
  obtain ⟨i, a, b, R, c, R2, c2, rs, rfl, hin, rfl, rfl, hab, HI, OW, OG, BR⟩ := hrel
  by_cases hlt2 : i < ss.length
  ·have hltz2 : (i : Int) < (ss.length : Int) := by omega
   obtain ⟨x, hx⟩ : ∃ x, ss[i]? = some x := ⟨_, List.getElem?_eq_getElem hlt2⟩
   have X := Lib.hid hx
   have hso : ((J x).map vWK).isSome = true := (S5.out.2 x).1 (List.mem_of_getElem? hx)
   obtain ⟨o, ho⟩ : ∃ o, J x = some o := by
    cases e : J x with
    | none => rw [e] at hso; cases hso
    | some o => exact ⟨o, rfl⟩
   have ID : Hid (x < 18446744073709551616) := Lib.hid (HB.out x (by rw [ho]; rfl))
   obtain ⟨ad, eA, ca⟩ := (L5.out.tch (Tch.of_below (B := 0) BR.out (Nat.zero_le _) []) (by simp)).at_ (k := i) (by simpa using hlt2)
   subst eA
   have ca2 : wr.cell? (ad.add i) = some (.int .u64 (x : Int)) := by
    obtain ⟨q1, q2⟩ := List.getElem?_eq_some_iff.1 hx
    rw [ca]
    simp [q2, encU]
   have UR := Lib.hid (U5.out.below BR.out U5.out.lt)
   have hlk0 : (Instr.lookup 66 (.map (some mb)) (.int .u64 (x : Int)) false).run Tryz.prog wr = .ok (((J x).map vWK).getD (.agg #[.bool false, .int .u64 0, .int .u64 0, .string ⟨#[]⟩, .bool false, .float .f64 0, .float .f64 0, .slice none 0 0])) wr := UR.out.look Tryz.underlying66 (zrWK wr) ID.out
   rw [ho] at hlk0
   have k0 : 0 ≤ (i : Int) := by omega
   cases o with
   | some y =>
    have JN : Hid (J x = some (some y)) := Lib.hid ho
    have hlk : (Instr.lookup 66 (.map (some mb)) (.int .u64 (x : Int)) false).run Tryz.prog wr = .ok (.agg #[.bool true, .int .u64 (y.t.id : Int), .int .u64 (y.t.list : Int), .string (str y.t.title), .bool y.t.done, .float .f64 y.t.rank, .float .f64 y.t.est, .slice y.A y.t.tags.length y.c]) wr := hlk0
    clear hx hso ho ca hlk0
    obtain ⟨w2, hw2⟩ : ∃ u, wr.alloc (.cells #[.bool true, .int .u64 (y.t.id : Int), .int .u64 (y.t.list : Int), .string (str y.t.title), .bool y.t.done, .float .f64 y.t.rank, .float .f64 y.t.est, .slice y.A y.t.tags.length y.c] 70) = u := ⟨_, rfl⟩
    obtain ⟨lb, b2, z2⟩ := new_8w hw2
    have B2 := Lib.hid b2
    obtain ⟨l0, l1, l2, l3, l4, l5, l6, l7⟩ := cells_8w lb
    have hbs : ∀ u : World, (Instr.buildSlice 23 1 #[(0, .agg #[.int .u64 (y.t.id : Int), .int .u64 (y.t.list : Int), .string (str y.t.title), .bool y.t.done, .float .f64 y.t.rank, .float .f64 y.t.est, .slice y.A y.t.tags.length y.c])]).run Tryz.prog u = .ok (.slice (some ⟨u.heap.size, 0, none⟩) 1 1) (u.alloc (.cells #[.int .u64 (y.t.id : Int), .int .u64 (y.t.list : Int), .string (str y.t.title), .bool y.t.done, .float .f64 y.t.rank, .float .f64 y.t.est, .slice y.A y.t.tags.length y.c] 38)) := fun u => buildSlK9 y u
    have OW2 := Lib.hid (own_below OW.out b2)
    have OG2 := Lib.hid (own_below OG.out b2)
    have OWE := Lib.hid (OW2.out.alloc (.cells #[.int .u64 (y.t.id : Int), .int .u64 (y.t.list : Int), .string (str y.t.title), .bool y.t.done, .float .f64 y.t.rank, .float .f64 y.t.est, .slice y.A y.t.tags.length y.c] 38))
    have LE : Hid (Lies (w2.alloc (.cells #[.int .u64 (y.t.id : Int), .int .u64 (y.t.list : Int), .string (str y.t.title), .bool y.t.done, .float .f64 y.t.rank, .float .f64 y.t.est, .slice y.A y.t.tags.length y.c] 38)) 0 38 (some ⟨w2.heap.size, 0, none⟩) (encK y)) := Lib.hid (Lies.of_blk (heap_alloc_new w2 _))
    have BB : Hid (Below w5.heap.size w5 w2) := Lib.hid (BR.out.trans (b2.mono BR.out.size))
    have zz := BB.out.size
    obtain ⟨ti0, thi, tz0, tz1, tz2⟩ := info_parts Tryz.infoTk9
    clear lb b2 z2
    go_wp2_with (at_builtin; refine wpList_app _ rfl _ _ 23 rfl w5.heap.size 38 ti0 _ 7 80 Tryz.underlying23 thi tz0 tz1 tz2 rfl (by decide) (.slice R a c) a (tkcells rs) rfl OWE.out 0 _ 1 1 (encK y) 38 rfl rfl LE.out (encK_one _) (by unfold maxLen; omega) (by omega) (by simp; omega) ?_)
    intro v6 w6 hown6 hgrow6 hor6
    obtain ⟨A6, k6, rfl⟩ := own_slice hown6
    have T6 : Hid (Tch w5.heap.size [38] w2 w6) := Lib.hid (((Tch.refl w5.heap.size [38] w2).alloc BB.out.size (.cells #[.int .u64 (y.t.id : Int), .int .u64 (y.t.list : Int), .string (str y.t.title), .bool y.t.done, .float .f64 y.t.rank, .float .f64 y.t.est, .slice y.A y.t.tags.length y.c] 38)).trans (grown_tch (B := w5.heap.size) (ts := [38]) OWE.out hgrow6 (Nat.le_refl _) (by have := BB.out.size; simp; omega) (by simp)))
    have HO6 := Lib.hid hown6
    have OG6 := Lib.hid (own_tch OG2.out T6.out (by decide))
    have B6 : Hid (Below w5.heap.size w5 w6) := Lib.hid (BB.out.trans T6.out.below)
    clear hown6 hgrow6 hor6 hbs zz l0 l1 l2 l3 l4 l5 l6 l7
    go_wp2
    go_roundw
    case rel => exact ⟨i + 1, a + 1, b, A6, k6, R2, c2, rs ++ [y], by go_num, by omega, rfl, rfl, by omega, Lib.hid ⟨by rw [List.length_append, HI.out.1]; rfl, by rw [(fm_snoc X.out).1, JN.out, HI.out.2.1], by rw [(fm_snoc X.out).2, JN.out, List.append_nil]; exact HI.out.2.2.1, trivial⟩, Lib.hid (by rw [tkcells_snoc]; exact HO6.out), Lib.hid (by rw [(fm_snoc X.out).2, JN.out]; simpa using OG6.out), B6⟩
    case measure => simp [intOf]; omega
   | none =>
    have JN : Hid (J x = some none) := Lib.hid ho
    have hlk : (Instr.lookup 66 (.map (some mb)) (.int .u64 (x : Int)) false).run Tryz.prog wr = .ok (.agg #[.bool false, .int .u64 0, .int .u64 0, .string ⟨#[]⟩, .bool false, .float .f64 0, .float .f64 0, .slice none 0 0]) wr := hlk0
    clear hx hso ho ca hlk0
    go_upto_region 7 with fail
    obtain ⟨w2, hw2⟩ : ∃ u, wr.alloc (.cells #[.bool false, .int .u64 0, .int .u64 0, .string ⟨#[]⟩, .bool false, .float .f64 0, .float .f64 0, .slice none 0 0] 70) = u := ⟨_, rfl⟩
    try rw [hw2]
    obtain ⟨lb, b2, z2⟩ := new_8w hw2
    obtain ⟨l0, l1, l2, l3, l4, l5, l6, l7⟩ := cells_8w lb
    have OW2 := Lib.hid (own_below OW.out b2)
    have OG2 := Lib.hid (own_below OG.out b2)
    have OWE := Lib.hid (OG2.out.alloc (.cells #[.int .u64 (x : Int)] 30))
    have LE : Hid (Lies (w2.alloc (.cells #[.int .u64 (x : Int)] 30)) 0 30 (some ⟨w2.heap.size, 0, none⟩) [encU x]) := Lib.hid (Lies.of_blk (heap_alloc_new w2 _))
    have BB : Hid (Below w5.heap.size w5 w2) := Lib.hid (BR.out.trans (b2.mono BR.out.size))
    have zz := BB.out.size
    obtain ⟨fl, hfl⟩ : ∃ f, ((ss.take i).filter (isGone J)).map encU = f := ⟨_, rfl⟩
    rw [hfl] at OWE
    have HFL := Lib.hid hfl
    obtain ⟨ti0, thi, tz0, tz1, tz2⟩ := info_parts infoU
    clear lb b2 z2 hfl
    go_wp2_with (at_builtin; refine wpList_app _ rfl _ _ 43 rfl w5.heap.size 30 ti0 _ 1 8 Tryz.underlying43 thi tz0 tz1 tz2 rfl (by decide) (.slice R2 b c2) b fl rfl OWE.out 0 _ 1 1 [encU x] 30 rfl rfl LE.out (by intro u hu; rw [List.mem_singleton] at hu; subst hu; rfl) (by unfold maxLen; omega) (by omega) (by simp; omega) ?_)
    intro v6 w6 hown6 hgrow6 hor6
    obtain ⟨A6, k6, rfl⟩ := own_slice hown6
    have T6 : Hid (Tch w5.heap.size [30] w2 w6) := Lib.hid (((Tch.refl w5.heap.size [30] w2).alloc BB.out.size (.cells #[.int .u64 (x : Int)] 30)).trans (grown_tch (B := w5.heap.size) (ts := [30]) OWE.out hgrow6 (Nat.le_refl _) (by have := BB.out.size; simp; omega) (by simp)))
    have HO6 := Lib.hid hown6
    have OW6 := Lib.hid (own_tch OW2.out T6.out (by decide))
    have B6 : Hid (Below w5.heap.size w5 w6) := Lib.hid (BB.out.trans T6.out.below)
    clear hown6 hgrow6 hor6 zz l0 l1 l2 l3 l4 l5 l6 l7
    go_wp2
    go_roundw
    case rel => exact ⟨i + 1, a, b + 1, R, c, A6, k6, rs, by go_num, by omega, rfl, rfl, by omega, Lib.hid ⟨HI.out.1, by rw [(fm_snoc X.out).1, JN.out, HI.out.2.1]; simp, by rw [(fm_snoc X.out).2, JN.out, List.length_append, ← HI.out.2.2.1]; rfl, trivial⟩, OW6, Lib.hid (by rw [(fm_snoc X.out).2, JN.out, List.map_append, HFL.out]; exact HO6.out), B6⟩
    case measure => simp [intOf]; omega
  ·obtain rfl : i = ss.length := by omega
   have hltz2 : ¬ ((ss.length : Int) < (ss.length : Int)) := by omega
   go_wp2
   go_ret2
   have e0 := HI.out
   rw [List.take_length] at e0
   obtain ⟨t1, t2, t3⟩ := told_join (u := vWK) HID.out S5.out
   rw [e0.2.1] at t1
   have ow := OW.out
   rw [← e0.1] at ow
   have og := OG.out
   rw [List.take_length, e0.2.2.1] at og
   refine ⟨R, c, rs, R2, c2, ss.filter (isGone J), by rw [e0.1, e0.2.2.1]; rfl, t1, ⟨t2, t3⟩, lies_own (B := 0) ow, own_room3 ow, lies_own (B := 0) og, own_room3 og, B5.out.trans (BR.out.mono B5.out.size)⟩
end
end
end Go.Proofs.YtnhpkcphgdkdiaaGreat
