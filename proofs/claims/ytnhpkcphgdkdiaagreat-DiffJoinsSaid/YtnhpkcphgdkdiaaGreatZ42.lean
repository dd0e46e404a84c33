import Derived.Test.YtnhpkcphgdkdiaaGreatZ41
namespace Go.Proofs.YtnhpkcphgdkdiaaGreat
set_option linter.unusedSimpArgs false
set_option maxRecDepth 100000
section
set_option linter.unusedSimpArgs false
section
open Go.RowKit Go.Lib Go.Shelf
def minN {α : Type} (g : α → Nat) (ls : List α) (gs : List Nat) (k : Nat) : Option α := if k ∈ gs then none else firstN g ls k
def resN {α : Type} (g : α → Nat) (ls : List α) (gs : List Nat) (ps : List α) (k : Nat) : Option α := if (firstN g ps k).isSome then firstN g ps k else minN g ls gs k
theorem first_id {α : Type} {g : α → Nat} {ls : List α} {k : Nat} {x : α} (h : firstN g ls k = some x) : g x = k := by
 unfold firstN at h
 have := List.find?_some h
 simpa using this
theorem res_id {α : Type} {g : α → Nat} {ls : List α} {gs : List Nat} {ps : List α} {k : Nat} {x : α} (h : resN g ls gs ps k = some x) : g x = k := by
 unfold resN minN at h
 split at h
 ·exact first_id h
 ·split at h
  ·cases h
  ·exact first_id h
theorem min_zero {α : Type} {g : α → Nat} {ls : List α} {v : α → Value} : (fun k => (minN g ls [] k).map v) = fun k => (firstN g ls k).map v := by
 funext k
 simp [minN]
theorem min_step {α : Type} {g : α → Nat} {ls : List α} {v : α → Value} {gs : List Nat} {i n : Nat} (h : gs[i]? = some n) : (fun k => (minN g ls (gs.take (i + 1)) k).map v) = fun j => if j = n then none else (minN g ls (gs.take i) j).map v := by
 funext k
 rw [take_nxt h]
 unfold minN
 by_cases e : k = n
 ·subst e; simp
 ·simp [e]
theorem over_res {α : Type} {g : α → Nat} {ls : List α} {gs : List Nat} {ps : List α} {v : α → Value} : overN (fun k => (firstN g ps k).map v) (fun k => (minN g ls gs k).map v) = fun k => (resN g ls gs ps k).map v := by
 funext k
 unfold overN resN
 show (if ((firstN g ps k).map v).isSome = true then (firstN g ps k).map v else (minN g ls gs k).map v) = (if (firstN g ps k).isSome = true then firstN g ps k else minN g ls gs k).map v
 cases firstN g ps k <;> rfl
theorem res_mem {α : Type} {g : α → Nat} {ls : List α} {gs : List Nat} {ps : List α} {k : Nat} {x : α} (h : resN g ls gs ps k = some x) : x ∈ ls ∨ x ∈ ps := by
 unfold resN minN at h
 split at h
 ·exact .inr (List.mem_of_find?_eq_some h)
 ·split at h
  ·cases h
  ·exact .inl (List.mem_of_find?_eq_some h)
theorem len_sub : ∀ {ss L : List Nat}, ss.Nodup → (∀ x ∈ ss, x ∈ L) → ss.length ≤ L.length
 | [], _, _, _ => Nat.zero_le _
 | x :: t, L, hn, hs => by
  have hx := hs x List.mem_cons_self
  have q := len_sub (ss := t) (L := L.erase x) (List.nodup_cons.1 hn).2 (fun y hy => (List.mem_erase_of_ne (fun e => (List.nodup_cons.1 hn).1 (by rw [← e]; exact hy))).2 (hs y (List.mem_cons_of_mem _ hy)))
  rw [List.length_erase_of_mem hx] at q
  have := List.length_pos_of_mem hx
  simp only [List.length_cons]
  omega
theorem ris_len {α : Type} {g : α → Nat} {ls : List α} {gs : List Nat} {ps : List α} {v : α → Value} {ss : List Nat} (h : RisN (fun k => (resN g ls gs ps k).map v) ss) : ss.length ≤ ls.length + ps.length := by
 have q := len_sub (ss := ss) (L := (ls ++ ps).map g) (h.1.imp (fun {a b} r => by omega)) (fun x hx => by
  have r : ((resN g ls gs ps x).map v).isSome = true := (h.2 x).1 hx
  cases e : resN g ls gs ps x with
  | none => rw [e] at r; cases r
  | some y => exact List.mem_map.2 ⟨y, List.mem_append.2 (res_mem e), res_id e⟩)
 rwa [List.length_map, List.length_append] at q
structure Told {α : Type} (g : α → Nat) (f : Nat → Option α) (rs : List α) : Prop where
 srt : rs.Pairwise (fun x y => g x < g y)
 fst : ∀ k, firstN g rs k = f k
theorem told_of {α : Type} {g : α → Nat} {f : Nat → Option α} {v : α → Value} (hf : ∀ k x, f k = some x → g x = k) {ss : List Nat} {rs : List α} (h : RisN (fun k => (f k).map v) ss) (e : ss.map f = rs.map some) : Told g f rs := by
 have e2 : rs.map g = ss := by
  apply List.ext_getElem?
  intro i
  have q := congrArg (·[i]?) e
  simp only [List.getElem?_map] at q ⊢
  cases h1 : ss[i]? with
  | none =>
   rw [h1] at q
   cases h2 : rs[i]? with
   | none => rfl
   | some x => rw [h2] at q; cases q
  | some k =>
   rw [h1] at q
   cases h2 : rs[i]? with
   | none => rw [h2] at q; simp at q
   | some x => rw [h2] at q; simp at q; simp [hf k x q]
 have hs : rs.Pairwise (fun x y => g x < g y) := by
  have := h.1
  rw [← e2] at this
  rw [List.pairwise_map] at this
  exact this
 refine ⟨hs, fun k => ?_⟩
 cases hk : firstN g rs k with
 | none =>
  cases q : f k with
  | none => rfl
  | some x =>
   have : k ∈ ss := (h.2 k).2 (by show ((f k).map v).isSome = true; rw [q]; rfl)
   rw [← e2] at this
   obtain ⟨y, hy, e3⟩ := List.mem_map.1 this
   have := first_some.2 ⟨y, hy, e3⟩
   rw [hk] at this
   cases this
 | some x =>
  have hx : x ∈ rs := List.mem_of_find?_eq_some hk
  obtain ⟨i, hi, e3⟩ := List.getElem_of_mem hx
  have q := congrArg (·[i]?) e
  simp only [List.getElem?_map, List.getElem?_eq_getElem hi, e3] at q
  cases h1 : ss[i]? with
  | none => rw [h1] at q; simp at q
  | some k2 =>
   rw [h1] at q
   simp at q
   have := hf k2 x q
   rw [first_id hk] at this
   rw [this, q]
set_option maxHeartbeats 8000000 in
theorem trnL_c {A1 A2 A3 : Option Addr} {n1 c1 n2 c2 n3 c3 : Nat} {ls ps : List T9.Li} {gs : List Nat} {w : World} (hl : LL w A1 ls) (hg : Lies w 0 30 A2 (gs.map encU)) (hp : LL w A3 ps) (e1 : n1 = ls.length) (e2 : n2 = gs.length) (e3 : n3 = ps.length) (s1 : n1 ≤ 1000) (s2 : n2 ≤ 1000) (s3 : n3 ≤ 1000)
  (il : ∀ l ∈ ls, idL l < 18446744073709551616) (ip : ∀ l ∈ ps, idL l < 18446744073709551616) (hd : gs.Nodup) (ht : ∀ n ∈ gs, ∃ y, firstN idL ls n = some y) :
  Calls Tryz.prog 18 #[.slice A1 n1 c1, .slice A2 n2 c2, .slice A3 n3 c3, .func (.func 19) #[] #[]] w fun e w' => ∃ A c rs, e = .returned (.tuple #[.slice A rs.length c, .bool true]) ∧ Told idL (resN idL ls gs ps) rs ∧ Lies w' 0 32 A (lcells rs) ∧ rs.length ≤ c ∧ Below w.heap.size w w' := by
 have CB := hid (byL_c (c := c1) hl e1 (by omega) il)
 have CP := hid (fun (v : World) (hv : Below w.heap.size w v) => byL_c (c := c3) (hp.stay hv) e3 (by omega) ip)
 have HG := hid hg
 have E2 := hid e2
 have IL := hid il
 have IP := hid ip
 have E1 := hid e1
 have E3 := hid e3
 have HD := hid hd
 have HT := hid ht
 clear hl hg hp e1 e2 e3 il ip hd ht
 go_enter Tryz.func18, Tryz.ntmps18
 go_wp2_with (go_at_call 45; refine CB.out.mono ?_; rintro e w1 ⟨mb, rfl, hmb, hU, hb1⟩; have U1 := hid hU; have B1 := hid hb1; have MB := hid hmb; clear hU hb1 hmb)
 go_loopw [23] (fun s23 wr => ∃ i : Nat, s23 = .int .i64 i ∧ i ≤ n2 ∧ Hid (UM wr mb n1 (fun k => (minN idL ls (gs.take i) k).map vL)) ∧ Hid (Below w.heap.size w wr)) (fun s23 _ => n2 - (intOf s23).toNat)
 case atStart => exact ⟨0, rfl, Nat.zero_le _, hid (by rw [List.take_zero, min_zero]; exact U1.out), B1⟩
 case round =>
  obtain ⟨i, rfl, hin, HU, BR⟩ := hrel
  by_cases hlt : i < n2
  ·have hltz : (i : Int) < (n2 : Int) := by omega
   obtain ⟨n, hn⟩ : ∃ n, gs[i]? = some n := ⟨_, List.getElem?_eq_getElem (by have := E2.out; omega)⟩
   obtain ⟨y, hy⟩ := HT.out n (List.mem_of_getElem? hn)
   have ID : Hid (n < 18446744073709551616) := hid (by have := IL.out _ (List.mem_of_find?_eq_some hy); rwa [first_id hy] at this)
   have MS := hid (min_step (g := idL) (ls := ls) (v := vL) hn)
   have NI : n ∉ gs.take i := fun q => by
    obtain ⟨q1, q2⟩ := List.getElem?_eq_some_iff.1 hn
    obtain ⟨j, hj, e⟩ := List.getElem_of_mem q
    rw [List.length_take] at hj
    rw [List.getElem_take] at e
    have := (List.pairwise_iff_getElem.1 HD.out) j i (by omega) q1 (by omega)
    exact this (e.trans q2.symm)
   obtain ⟨ad, eA, ca⟩ := (HG.out.below (Nat.zero_le _) (show Below w.heap.size w wr from BR.out)).at_ (k := i) (by have := E2.out; simp; omega)
   subst eA
   have ca2 : wr.cell? (ad.add i) = some (.int .u64 (n : Int)) := by
    obtain ⟨q1, q2⟩ := List.getElem?_eq_some_iff.1 hn
    rw [ca]
    simp [q2, encU]
   have hlk : (Instr.lookup 89 (.map (some mb)) (.int .u64 (n : Int)) true).run Tryz.prog wr = .ok (.tuple #[.agg #[.int .u64 (y.id : Int), .string (str y.name)], .bool true]) wr := by
    have q : (Instr.lookup 89 (.map (some mb)) (.int .u64 (n : Int)) true).run Tryz.prog wr = .ok (.tuple #[((minN idL ls (gs.take i) n).map vL).getD (.agg #[.int .u64 0, .string ⟨#[]⟩]), .bool ((minN idL ls (gs.take i) n).map vL).isSome]) wr := HU.out.look_ok Tryz.underlying89 (zrL wr) ID.out
    have r : minN idL ls (gs.take i) n = some y := by unfold minN; rw [if_neg NI]; exact hy
    rw [r] at q
    exact q
   obtain ⟨w2, hw2⟩ : ∃ u, wr.alloc (.cells #[.int .u64 (y.id : Int), .string (str y.name)] 32) = u := ⟨_, rfl⟩
   obtain ⟨lb, b2, z2⟩ := new_two hw2
   have U2 := hid (HU.out.below b2 HU.out.lt)
   have B2 := hid b2
   have k0 : 0 ≤ (i : Int) := by omega
   clear hn hy NI lb b2 ca
   go_wp2_with (at_delete; obtain ⟨w9, hdel, hU9, hg9⟩ := U2.out.del Tryz.underlying89 ID.out 0; refine wpList_delete_run rfl _ _ 89 30 rfl _ _ rfl rfl hdel ?_; have U9 := hid hU9; have G9 := hid hg9; clear hdel hU9 hg9)
   go_roundw
   case rel =>
    have BB := BR.out.trans (B2.out.mono BR.out.size)
    exact ⟨i + 1, by go_num, by omega, hid (by rw [MS.out]; exact U9.out), hid (BB.grown G9.out BB.size (fun j e => by cases e; exact MB.out))⟩
   case measure => simp [intOf]; omega
  ·obtain rfl : i = n2 := by omega
   have hltz : ¬ ((i : Int) < (i : Int)) := by omega
   have U2 := HU.out
   rw [E2.out, List.take_length] at U2
   have HU2 := hid U2
   have CP2 := hid (CP.out wr BR.out)
   clear U2
   go_upto_region 13 with (first
    | (go_at_call 45; refine CP2.out.mono ?_; rintro e w3 ⟨m3, rfl, hm3, hU3, hb3⟩; have ZL3 : Hid (mb < m3) := hid (by have := HU2.out.lt; omega); have CC := hid (cpyL_c (HU2.out.below hb3 HU2.out.lt) hU3 (by have := ZL3.out; omega) (fun k v hk => by obtain ⟨x, _, e⟩ := Option.map_eq_some_iff.1 hk; exact ⟨x, e.symm⟩) (by omega)); have B3 : Hid (Below w.heap.size w w3) := hid (BR.out.trans (hb3.mono BR.out.size)); clear hU3 hb3 hm3)
    | (go_at_call 46; refine CC.out.mono ?_; rintro e w4 ⟨rfl, hU4, hT4⟩; rw [over_res] at hU4; have U4 := hid hU4; have B4 : Hid (Below w.heap.size w w4) := hid (B3.out.trans (hT4.below MB.out B3.out.size)); have CR := hid (riseL_c hU4 (by omega)); clear hU4 hT4)
    | (go_at_call 47; refine CR.out.mono ?_; rintro e w5 ⟨A5, c5, ss, rfl, hS5, hrow5, hb5⟩; have U5 := hid (U4.out.below hb5 U4.out.lt); have B5 : Hid (Below w.heap.size w w5) := hid (B4.out.trans (hb5.mono B4.out.size)); have S5 := hid hS5; have L5 := hid (lies_own (B := 0) hrow5); have hc5 := own_room3 hrow5; clear hS5 hrow5 hb5))
   have LEN : ss.length ≤ 2000 := by have := ris_len S5.out; have := E1.out; have := E3.out; omega
   have HC5 := hid hc5
   clear hc5
   go_loopw [15, 46] (fun s15 s46 wr => ∃ (i : Nat) (R : Option Addr) (c : Nat) (rs : List T9.Li), s46 = .int .i64 i ∧ i ≤ ss.length ∧ s15 = .slice R i c ∧ Hid (rs.length = i ∧ (ss.take i).map (resN idL ls gs ps) = rs.map some) ∧ Hid (wr.ownsRow w5.heap.size 32 2 (.slice R i c) i (lcells rs)) ∧ Hid (Below w5.heap.size w5 wr)) (fun _ s46 _ => ss.length - (intOf s46).toNat)
   case atStart => exact ⟨0, none, 0, [], rfl, Nat.zero_le _, rfl, hid ⟨rfl, rfl⟩, hid (World.ownsRow_nil _ _ _ _), hid (Below.refl _ _)⟩
   case round =>
    obtain ⟨i, R, c, rs, rfl, hin, rfl, HI, OW, BR5⟩ := hrel
    by_cases hlt2 : i < ss.length
    ·have hltz2 : (i : Int) < (ss.length : Int) := by omega
     obtain ⟨n, hn⟩ : ∃ n, ss[i]? = some n := ⟨_, List.getElem?_eq_getElem hlt2⟩
     have hso : ((resN idL ls gs ps n).map vL).isSome = true := (S5.out.2 n).1 (List.mem_of_getElem? hn)
     obtain ⟨y, hy⟩ : ∃ y, resN idL ls gs ps n = some y := by
      cases e : resN idL ls gs ps n with
      | none => rw [e] at hso; cases hso
      | some y => exact ⟨y, rfl⟩
     have ID : Hid (n < 18446744073709551616) := hid (by
      have q := res_id hy
      rcases res_mem hy with m | m
      ·have := IL.out _ m; rwa [q] at this
      ·have := IP.out _ m; rwa [q] at this)
     obtain ⟨ad, eA, ca⟩ := (L5.out.tch (Tch.of_below (B := 0) BR5.out (Nat.zero_le _) []) (by simp)).at_ (k := i) (by simpa using hlt2)
     subst eA
     have ca2 : wr.cell? (ad.add i) = some (.int .u64 (n : Int)) := by
      obtain ⟨q1, q2⟩ := List.getElem?_eq_some_iff.1 hn
      rw [ca]
      simp [q2, encU]
     have UR := hid (U5.out.below BR5.out U5.out.lt)
     have hlk : (Instr.lookup 89 (.map (some mb)) (.int .u64 (n : Int)) false).run Tryz.prog wr = .ok (.agg #[.int .u64 (y.id : Int), .string (str y.name)]) wr := by
      have q : (Instr.lookup 89 (.map (some mb)) (.int .u64 (n : Int)) false).run Tryz.prog wr = .ok (((resN idL ls gs ps n).map vL).getD (.agg #[.int .u64 0, .string ⟨#[]⟩])) wr := UR.out.look Tryz.underlying89 (zrL wr) ID.out
      rw [hy] at q
      exact q
     have NXT : Hid ((ss.take (i + 1)).map (resN idL ls gs ps) = (rs ++ [y]).map some) := hid (by rw [take_nxt hn, List.map_append, HI.out.2, List.map_append, List.map_cons, List.map_nil, hy]; rfl)
     have hbs := fun (u : World) => buildSlL9 y u
     have OWE := hid (OW.out.alloc (.cells #[.int .u64 (y.id : Int), .string (str y.name)] 32))
     have LE : Hid (Lies (wr.alloc (.cells #[.int .u64 (y.id : Int), .string (str y.name)] 32)) 0 32 (some ⟨wr.heap.size, 0, none⟩) (encL y)) := hid (Lies.of_blk (heap_alloc_new wr _))
     have zz := BR5.out.size
     have k0 : 0 ≤ (i : Int) := by omega
     obtain ⟨ti0, thi, tz0, tz1, tz2⟩ := info_parts Tryz.infoLi9
     clear hn hso hy ca
     go_wp2_with (at_builtin; refine wpList_app _ rfl _ _ 22 rfl w5.heap.size 32 ti0 _ 2 24 Tryz.underlying22 thi tz0 tz1 tz2 rfl (by decide) _ i (lcells rs) rfl OWE.out 0 _ 1 1 (encL y) 32 rfl rfl LE.out (encL_one _) (by unfold maxLen; omega) (by omega) (by simp; omega) ?_)
     intro v6 w6 hown6 hgrow6 hor6
     obtain ⟨A6, k6, rfl⟩ := own_slice hown6
     have B6 : Hid (Below w5.heap.size w5 w6) := hid ((BR5.out.alloc BR5.out.size _).grown hgrow6 (by simp; omega) (fun j e => (own_row OWE.out j e).1))
     have HO6 := hid hown6
     clear hown6 hgrow6 hor6 hbs
     go_wp2
     go_roundw
     case rel => exact ⟨i + 1, A6, k6, rs ++ [y], by go_num, by omega, rfl, hid ⟨by rw [List.length_append, HI.out.1]; rfl, NXT.out⟩, hid (by rw [lcells_snoc]; exact HO6.out), B6⟩
     case measure => simp [intOf]; omega
    ·obtain rfl : i = ss.length := by omega
     have hltz2 : ¬ ((ss.length : Int) < (ss.length : Int)) := by omega
     go_wp2
     first | go_ret2 | go_ret
     have e0 := HI.out
     rw [List.take_length] at e0
     have ow := OW.out
     rw [← e0.1] at ow
     exact ⟨R, c, rs, by rw [e0.1]; rfl, told_of (f := resN idL ls gs ps) (v := vL) (fun k x h => res_id h) S5.out e0.2, lies_own (B := 0) ow, own_room3 ow, B5.out.trans (BR5.out.mono B5.out.size)⟩
set_option maxHeartbeats 8000000 in
theorem trnK_c {A1 A2 A3 : Option Addr} {n1 c1 n2 c2 n3 c3 : Nat} {ls ps : List MTk} {gs : List Nat} {w : World} (hl : KL w A1 ls) (hg : Lies w 0 30 A2 (gs.map encU)) (hp : KL w A3 ps) (e1 : n1 = ls.length) (e2 : n2 = gs.length) (e3 : n3 = ps.length) (s1 : n1 ≤ 1000) (s2 : n2 ≤ 1000) (s3 : n3 ≤ 1000)
  (il : ∀ l ∈ ls, idK l < 18446744073709551616) (ip : ∀ l ∈ ps, idK l < 18446744073709551616) (hd : gs.Nodup) (ht : ∀ n ∈ gs, ∃ y, firstN idK ls n = some y) :
  Calls Tryz.prog 20 #[.slice A1 n1 c1, .slice A2 n2 c2, .slice A3 n3 c3, .func (.func 22) #[] #[]] w fun e w' => ∃ A c rs, e = .returned (.tuple #[.slice A rs.length c, .bool true]) ∧ Told idK (resN idK ls gs ps) rs ∧ Lies w' 0 38 A (tkcells rs) ∧ rs.length ≤ c ∧ Below w.heap.size w w' := by
 have CB := hid (byK_c (c := c1) hl e1 (by omega) il)
 have CP := hid (fun (v : World) (hv : Below w.heap.size w v) => byK_c (c := c3) (hp.stay hv) e3 (by omega) ip)
 have HG := hid hg
 have E2 := hid e2
 have IL := hid il
 have IP := hid ip
 have E1 := hid e1
 have E3 := hid e3
 have HD := hid hd
 have HT := hid ht
 clear hl hg hp e1 e2 e3 il ip hd ht
 go_enter Tryz.func20, Tryz.ntmps20
 go_wp2_with (go_at_call 48; refine CB.out.mono ?_; rintro e w1 ⟨mb, rfl, hmb, hU, hb1⟩; have U1 := hid hU; have B1 := hid hb1; have MB := hid hmb; clear hU hb1 hmb)
 go_loopw [23] (fun s23 wr => ∃ i : Nat, s23 = .int .i64 i ∧ i ≤ n2 ∧ Hid (UM wr mb n1 (fun k => (minN idK ls (gs.take i) k).map vK)) ∧ Hid (Below w.heap.size w wr)) (fun s23 _ => n2 - (intOf s23).toNat)
 case atStart => exact ⟨0, rfl, Nat.zero_le _, hid (by rw [List.take_zero, min_zero]; exact U1.out), B1⟩
 case round =>
  obtain ⟨i, rfl, hin, HU, BR⟩ := hrel
  by_cases hlt : i < n2
  ·have hltz : (i : Int) < (n2 : Int) := by omega
   obtain ⟨n, hn⟩ : ∃ n, gs[i]? = some n := ⟨_, List.getElem?_eq_getElem (by have := E2.out; omega)⟩
   obtain ⟨⟨yt, yA, yc⟩, hy⟩ := HT.out n (List.mem_of_getElem? hn)
   have ID : Hid (n < 18446744073709551616) := hid (by have := IL.out _ (List.mem_of_find?_eq_some hy); rwa [first_id hy] at this)
   have MS := hid (min_step (g := idK) (ls := ls) (v := vK) hn)
   have NI : n ∉ gs.take i := fun q => by
    obtain ⟨q1, q2⟩ := List.getElem?_eq_some_iff.1 hn
    obtain ⟨j, hj, e⟩ := List.getElem_of_mem q
    rw [List.length_take] at hj
    rw [List.getElem_take] at e
    have := (List.pairwise_iff_getElem.1 HD.out) j i (by omega) q1 (by omega)
    exact this (e.trans q2.symm)
   obtain ⟨ad, eA, ca⟩ := (HG.out.below (Nat.zero_le _) (show Below w.heap.size w wr from BR.out)).at_ (k := i) (by have := E2.out; simp; omega)
   subst eA
   have ca2 : wr.cell? (ad.add i) = some (.int .u64 (n : Int)) := by
    obtain ⟨q1, q2⟩ := List.getElem?_eq_some_iff.1 hn
    rw [ca]
    simp [q2, encU]
   have hlk : (Instr.lookup 93 (.map (some mb)) (.int .u64 (n : Int)) true).run Tryz.prog wr = .ok (.tuple #[.agg #[.int .u64 (yt.id : Int), .int .u64 (yt.list : Int), .string (str yt.title), .bool yt.done, .float .f64 yt.rank, .float .f64 yt.est, .slice yA yt.tags.length yc], .bool true]) wr := by
    have q : (Instr.lookup 93 (.map (some mb)) (.int .u64 (n : Int)) true).run Tryz.prog wr = .ok (.tuple #[((minN idK ls (gs.take i) n).map vK).getD (.agg #[.int .u64 0, .int .u64 0, .string ⟨#[]⟩, .bool false, .float .f64 0, .float .f64 0, .slice none 0 0]), .bool ((minN idK ls (gs.take i) n).map vK).isSome]) wr := HU.out.look_ok Tryz.underlying93 (zrK wr) ID.out
    have r : minN idK ls (gs.take i) n = some (⟨yt, yA, yc⟩ : MTk) := by unfold minN; rw [if_neg NI]; exact hy
    rw [r] at q
    exact q
   obtain ⟨w2, hw2⟩ : ∃ u, wr.alloc (.cells #[.int .u64 (yt.id : Int), .int .u64 (yt.list : Int), .string (str yt.title), .bool yt.done, .float .f64 yt.rank, .float .f64 yt.est, .slice yA yt.tags.length yc] 38) = u := ⟨_, rfl⟩
   obtain ⟨lb, b2, z2⟩ := new_seven hw2
   have U2 := hid (HU.out.below b2 HU.out.lt)
   have B2 := hid b2
   have k0 : 0 ≤ (i : Int) := by omega
   clear hn hy NI lb b2 ca
   go_wp2_with (at_delete; obtain ⟨w9, hdel, hU9, hg9⟩ := U2.out.del Tryz.underlying93 ID.out 0; refine wpList_delete_run rfl _ _ 93 30 rfl _ _ rfl rfl hdel ?_; have U9 := hid hU9; have G9 := hid hg9; clear hdel hU9 hg9)
   go_roundw
   case rel =>
    have BB := BR.out.trans (B2.out.mono BR.out.size)
    exact ⟨i + 1, by go_num, by omega, hid (by rw [MS.out]; exact U9.out), hid (BB.grown G9.out BB.size (fun j e => by cases e; exact MB.out))⟩
   case measure => simp [intOf]; omega
  ·obtain rfl : i = n2 := by omega
   have hltz : ¬ ((i : Int) < (i : Int)) := by omega
   have U2 := HU.out
   rw [E2.out, List.take_length] at U2
   have HU2 := hid U2
   have CP2 := hid (CP.out wr BR.out)
   clear U2
   go_upto_region 13 with (first
    | (go_at_call 48; refine CP2.out.mono ?_; rintro e w3 ⟨m3, rfl, hm3, hU3, hb3⟩; have ZL3 : Hid (mb < m3) := hid (by have := HU2.out.lt; omega); have CC := hid (cpyK_c (HU2.out.below hb3 HU2.out.lt) hU3 (by have := ZL3.out; omega) (fun k v hk => by obtain ⟨x, _, e⟩ := Option.map_eq_some_iff.1 hk; exact ⟨x, e.symm⟩) (by omega)); have B3 : Hid (Below w.heap.size w w3) := hid (BR.out.trans (hb3.mono BR.out.size)); clear hU3 hb3 hm3)
    | (go_at_call 49; refine CC.out.mono ?_; rintro e w4 ⟨rfl, hU4, hT4⟩; rw [over_res] at hU4; have U4 := hid hU4; have B4 : Hid (Below w.heap.size w w4) := hid (B3.out.trans (hT4.below MB.out B3.out.size)); have CR := hid (riseK_c hU4 (by omega)); clear hU4 hT4)
    | (go_at_call 50; refine CR.out.mono ?_; rintro e w5 ⟨A5, c5, ss, rfl, hS5, hrow5, hb5⟩; have U5 := hid (U4.out.below hb5 U4.out.lt); have B5 : Hid (Below w.heap.size w w5) := hid (B4.out.trans (hb5.mono B4.out.size)); have S5 := hid hS5; have L5 := hid (lies_own (B := 0) hrow5); have hc5 := own_room3 hrow5; clear hS5 hrow5 hb5))
   have LEN : ss.length ≤ 2000 := by have := ris_len S5.out; have := E1.out; have := E3.out; omega
   have HC5 := hid hc5
   clear hc5
   go_loopw [15, 46] (fun s15 s46 wr => ∃ (i : Nat) (R : Option Addr) (c : Nat) (rs : List MTk), s46 = .int .i64 i ∧ i ≤ ss.length ∧ s15 = .slice R i c ∧ Hid (rs.length = i ∧ (ss.take i).map (resN idK ls gs ps) = rs.map some) ∧ Hid (wr.ownsRow w5.heap.size 38 7 (.slice R i c) i (tkcells rs)) ∧ Hid (Below w5.heap.size w5 wr)) (fun _ s46 _ => ss.length - (intOf s46).toNat)
   case atStart => exact ⟨0, none, 0, [], rfl, Nat.zero_le _, rfl, hid ⟨rfl, rfl⟩, hid (World.ownsRow_nil _ _ _ _), hid (Below.refl _ _)⟩
   case round =>
    obtain ⟨i, R, c, rs, rfl, hin, rfl, HI, OW, BR5⟩ := hrel
    by_cases hlt2 : i < ss.length
    ·have hltz2 : (i : Int) < (ss.length : Int) := by omega
     obtain ⟨n, hn⟩ : ∃ n, ss[i]? = some n := ⟨_, List.getElem?_eq_getElem hlt2⟩
     have hso : ((resN idK ls gs ps n).map vK).isSome = true := (S5.out.2 n).1 (List.mem_of_getElem? hn)
     obtain ⟨⟨yt, yA, yc⟩, hy⟩ : ∃ y, resN idK ls gs ps n = some y := by
      cases e : resN idK ls gs ps n with
      | none => rw [e] at hso; cases hso
      | some y => exact ⟨y, rfl⟩
     have ID : Hid (n < 18446744073709551616) := hid (by
      have q := res_id hy
      rcases res_mem hy with m | m
      ·have := IL.out _ m; rwa [q] at this
      ·have := IP.out _ m; rwa [q] at this)
     obtain ⟨ad, eA, ca⟩ := (L5.out.tch (Tch.of_below (B := 0) BR5.out (Nat.zero_le _) []) (by simp)).at_ (k := i) (by simpa using hlt2)
     subst eA
     have ca2 : wr.cell? (ad.add i) = some (.int .u64 (n : Int)) := by
      obtain ⟨q1, q2⟩ := List.getElem?_eq_some_iff.1 hn
      rw [ca]
      simp [q2, encU]
     have UR := hid (U5.out.below BR5.out U5.out.lt)
     have hlk : (Instr.lookup 93 (.map (some mb)) (.int .u64 (n : Int)) false).run Tryz.prog wr = .ok (.agg #[.int .u64 (yt.id : Int), .int .u64 (yt.list : Int), .string (str yt.title), .bool yt.done, .float .f64 yt.rank, .float .f64 yt.est, .slice yA yt.tags.length yc]) wr := by
      have q : (Instr.lookup 93 (.map (some mb)) (.int .u64 (n : Int)) false).run Tryz.prog wr = .ok (((resN idK ls gs ps n).map vK).getD (.agg #[.int .u64 0, .int .u64 0, .string ⟨#[]⟩, .bool false, .float .f64 0, .float .f64 0, .slice none 0 0])) wr := UR.out.look Tryz.underlying93 (zrK wr) ID.out
      rw [hy] at q
      exact q
     have NXT : Hid ((ss.take (i + 1)).map (resN idK ls gs ps) = (rs ++ [(⟨yt, yA, yc⟩ : MTk)]).map some) := hid (by rw [take_nxt hn, List.map_append, HI.out.2, List.map_append, List.map_cons, List.map_nil, hy]; rfl)
     have hbs := fun (u : World) => buildSlK9 ⟨yt, yA, yc⟩ u
     unfold encK at hbs
     dsimp only at hbs
     have OWE := hid (OW.out.alloc (.cells #[.int .u64 (yt.id : Int), .int .u64 (yt.list : Int), .string (str yt.title), .bool yt.done, .float .f64 yt.rank, .float .f64 yt.est, .slice yA yt.tags.length yc] 38))
     have LE : Hid (Lies (wr.alloc (.cells #[.int .u64 (yt.id : Int), .int .u64 (yt.list : Int), .string (str yt.title), .bool yt.done, .float .f64 yt.rank, .float .f64 yt.est, .slice yA yt.tags.length yc] 38)) 0 38 (some ⟨wr.heap.size, 0, none⟩) (encK (⟨yt, yA, yc⟩ : MTk))) := hid (Lies.of_blk (heap_alloc_new wr _))
     have zz := BR5.out.size
     have k0 : 0 ≤ (i : Int) := by omega
     obtain ⟨ti0, thi, tz0, tz1, tz2⟩ := info_parts Tryz.infoTk9
     clear hn hso hy ca
     go_wp2_with (at_builtin; refine wpList_app _ rfl _ _ 23 rfl w5.heap.size 38 ti0 _ 7 80 Tryz.underlying23 thi tz0 tz1 tz2 rfl (by decide) _ i (tkcells rs) rfl OWE.out 0 _ 1 1 (encK (⟨yt, yA, yc⟩ : MTk)) 38 rfl rfl LE.out (encK_one _) (by unfold maxLen; omega) (by omega) (by simp; omega) ?_)
     intro v6 w6 hown6 hgrow6 hor6
     obtain ⟨A6, k6, rfl⟩ := own_slice hown6
     have B6 : Hid (Below w5.heap.size w5 w6) := hid ((BR5.out.alloc BR5.out.size _).grown hgrow6 (by simp; omega) (fun j e => (own_row OWE.out j e).1))
     have HO6 := hid hown6
     clear hown6 hgrow6 hor6 hbs
     go_wp2
     go_roundw
     case rel => exact ⟨i + 1, A6, k6, rs ++ [(⟨yt, yA, yc⟩ : MTk)], by go_num, by omega, rfl, hid ⟨by rw [List.length_append, HI.out.1]; rfl, NXT.out⟩, hid (by rw [tkcells_snoc]; exact HO6.out), B6⟩
     case measure => simp [intOf]; omega
    ·obtain rfl : i = ss.length := by omega
     have hltz2 : ¬ ((ss.length : Int) < (ss.length : Int)) := by omega
     go_wp2
     first | go_ret2 | go_ret
     have e0 := HI.out
     rw [List.take_length] at e0
     have ow := OW.out
     rw [← e0.1] at ow
     exact ⟨R, c, rs, by rw [e0.1]; rfl, told_of (f := resN idK ls gs ps) (v := vK) (fun k x h => res_id h) S5.out e0.2, lies_own (B := 0) ow, own_room3 ow, B5.out.trans (BR5.out.mono B5.out.size)⟩
end
end
end Go.Proofs.YtnhpkcphgdkdiaaGreat
