/- Stage 16: the document's table (written by wip/gen16dt.py). -/
import Derived.Test.YtmcfknnfaokmlaaUe
import Derived.Test.YtmcfknnfaokmlaaAp
namespace Go.Proofs.Ytmcfknnfaokmlaa
set_option maxRecDepth 100000
set_option linter.unusedSimpArgs false
section
open Go.RowKit Go.Lib Go.Shelf
/-- The document's table T at block px. -/
structure DT (T : List La) (px : Nat) (w : World) : Prop where
  b : ∃ A c, w.heap[px]? = some (.cells #[.slice A T.length c] 38 (0, 0)) ∧ Lies w 0 45 A (acells T) ∧ T.length ≤ c
theorem lies_grown16 {w w' : World} {t : TypeId} {A : Option Addr} {xs : List Value} (h : Lies w 0 t A xs) {row : Option Nat} (hg : w.grownBy w' row) (hr : ∀ k, row = some k → ∀ cs fr, w.heap[k]? ≠ some (.cells cs t fr)) : Lies w' 0 t A xs :=
  h.keep fun b hb => by
    rcases hb with q | ⟨cs, fr, q⟩
    · omega
    · exact hg.block b (lt_of_block q) (fun e => hr b e.symm cs fr q)
section
variable {T : List La} {px : Nat} {w w' : World}
theorem DT.lt (h : DT T px w) : px < w.heap.size := by
  obtain ⟨A, c, hb, _⟩ := h.b
  exact lt_of_block hb
theorem DT.below (h : DT T px w) (hb : Below w.heap.size w w') : DT T px w' := by
  obtain ⟨A, c, h1, h2, h3⟩ := h.b
  exact ⟨A, c, blk_keep h1 hb, h2.below (Nat.zero_le _) hb, h3⟩
theorem DT.drew (h : DT T px w) : DT T px w.drew := by
  obtain ⟨A, c, h1, h2, h3⟩ := h.b
  exact ⟨A, c, h1, h2.drew, h3⟩
/-- A map's block is turned. -/
theorem DT.kept (h : DT T px w) {mb : Nat} {es : Array MapEntry} {cl : Nat} (hm : w.heap[mb]? = some (.map es cl)) (hg : w.grownBy w' (some mb)) : DT T px w' := by
  obtain ⟨A, c, h1, h2, h3⟩ := h.b
  refine ⟨A, c, (hg.block px (lt_of_block h1) (fun e => by injection e with e; rw [← e, h1] at hm; cases hm)).trans h1, lies_grown16 h2 hg (fun k e cs fr q => ?_), h3⟩
  injection e with e
  rw [← e, hm] at q
  cases q
end
theorem find_take16 {T : List La} {i k : Nat} {x : La} (hx : T[i]? = some x) (h : (T.take i).find? (fun y => y.who == k) = none) : (T.take (i + 1)).find? (fun y => y.who == k) = if x.who = k then some x else none := by
  rw [take_nxt hx, List.find?_append, h]
  by_cases q : x.who = k
  · rw [if_pos q]; simp [q]
  · rw [if_neg q]; simp [q]
theorem last_hit16 {T : List La} {i k : Nat} {x : La} (hx : T[i]? = some x) (h : (T.take i).find? (fun y => y.who == k) = none) (q : x.who = k) : D16.lastN T k = x.id := by
  have e := find_take16 hx h
  rw [if_pos q] at e
  have e2 : T.find? (fun y => y.who == k) = some x := by
    have : T = T.take (i + 1) ++ T.drop (i + 1) := (List.take_append_drop _ _).symm
    rw [this, List.find?_append, e]
    rfl
  unfold D16.lastN
  rw [e2]
  rfl
theorem last_miss16 {T : List La} {k : Nat} (h : T.find? (fun y => y.who == k) = none) : D16.lastN T k = 0 := by
  unfold D16.lastN
  rw [h]
  rfl
set_option maxHeartbeats 2000000 in
theorem refLast16_c {T : List La} {px k : Nat} {w : World} (h : DT T px w) (hs : T.length ≤ 1000000) : Calls Try.prog 17 #[.pointer (some ⟨px, 0, none⟩), .int .u64 (k : Int)] w fun e w' => e = .returned (.int .u64 (D16.lastN T k : Int)) ∧ Below w.heap.size w w' := by
  obtain ⟨A, c, hb, hL, hc⟩ := h.b
  have c0 := one_cell hb
  have HL : Hid (AL w A T) := Lib.hid hL.old
  clear h hb hL hc
  go_enter Try.func17, Try.ntmps17
  go_wp2
  go_loopw [12] (fun s12 wr => ∃ i : Nat, s12 = .int .i64 i ∧ i ≤ T.length ∧ Hid ((T.take i).find? (fun y => y.who == k) = none) ∧ Hid (Below w.heap.size w wr)) (fun s12 _ => T.length - (intOf s12).toNat)
  case atStart => exact ⟨0, rfl, Nat.zero_le _, Lib.hid rfl, Lib.hid (Below.refl _ _)⟩
  case round =>
    obtain ⟨i, rfl, hi, HF, BR⟩ := hrel
    by_cases hlt : i < T.length
    · have hltz : (i : Int) < (T.length : Int) := by omega
      obtain ⟨ad, x, hA, hx, q0, q1⟩ := (HL.out.stay BR.out).at_ hlt
      subst hA
      have X := Lib.hid hx
      obtain ⟨w2, hw2⟩ : ∃ u, wr.alloc (.cells #[.int .u64 (x.who : Int), .int .u64 (x.id : Int)] 45) = u := ⟨_, rfl⟩
      obtain ⟨lb, b2, z2⟩ := new_two hw2
      obtain ⟨y0, y1⟩ := two_cells lb
      have B2 : Hid (Below w.heap.size w w2) := Lib.hid (BR.out.trans (b2.mono BR.out.size))
      clear hx lb b2 z2
      by_cases hk : x.who = k
      · have HK := Lib.hid (last_hit16 X.out HF.out hk)
        have e1 : ((x.who : Int) == (k : Int)) = true := by simp [hk]
        have e2 : (x.who == k) = true := by simp [hk]
        clear hk
        go_wp2
        go_ret
        exact ⟨by rw [HK.out] <;> rfl, B2.out⟩
      · have HF2 : Hid ((T.take (i + 1)).find? (fun y => y.who == k) = none) := Lib.hid (by rw [find_take16 X.out HF.out, if_neg hk])
        have e2 : (x.who == k) = false := by simp [hk]
        have e1 : ((x.who : Int) == (k : Int)) = false := by simp; omega
        clear hk
        go_wp2
        go_roundw
        case rel => exact ⟨i + 1, by go_num, by omega, HF2, B2⟩
        case measure => simp [intOf]; omega
    · obtain rfl : i = T.length := by omega
      have hltz : ¬ ((T.length : Int) < (T.length : Int)) := by omega
      have HK : Hid (D16.lastN T k = 0) := Lib.hid (last_miss16 (by have q := HF.out; rwa [List.take_length] at q))
      go_wp2
      go_ret
      exact ⟨by rw [HK.out] <;> rfl, BR.out⟩
set_option maxHeartbeats 2000000 in
theorem refAsk16_c {T : List La} {px k i : Nat} {w : World} (h : DT T px w) (hs : T.length ≤ 1000000) (hg : D16.Good T) (hk : k < 18446744073709551616) (hi : i < 18446744073709551616) : Calls Try.prog 11 #[.pointer (some ⟨px, 0, none⟩), .int .u64 (k : Int), .int .u64 (i : Int)] w fun e w' => e = .returned (.int .i64 (D16.ask16 T k i)) ∧ Below w.heap.size w w' := by
  have LC := Lib.hid (refLast16_c (k := k) h hs)
  obtain ⟨la, hla⟩ : ∃ v, v = D16.lastN T k := ⟨_, rfl⟩
  have LL : la < 18446744073709551616 := by rw [hla]; exact hg.last k
  rw [← hla] at LC
  unfold D16.ask16
  rw [← hla]
  clear h hla hg
  by_cases k0 : k = 0
  · rw [if_pos (.inl k0)]
    subst k0
    have z : ((0 : Nat) : Int) = 0 := rfl
    rw [z] at LC ⊢
    go_enter Try.func11, Try.ntmps11
    go_wp2_with fail
    refine LC.out.mono ?_
    rintro e w' ⟨rfl, hb⟩
    have HB := Lib.hid hb
    clear hb
    go_wp2
    go_ret
    exact ⟨rfl, HB.out⟩
  have q0 : ((k : Int) == 0) = false := by simp [k0]
  by_cases i0 : i = 0
  · rw [if_pos (.inr i0)]
    subst i0
    have z : ((0 : Nat) : Int) = 0 := rfl
    rw [z]
    clear k0
    go_enter Try.func11, Try.ntmps11
    go_wp2_with fail
    refine LC.out.mono ?_
    rintro e w' ⟨rfl, hb⟩
    have HB := Lib.hid hb
    clear hb
    go_wp2
    go_ret
    exact ⟨rfl, HB.out⟩
  have q1 : ((i : Int) == 0) = false := by simp [i0]
  rw [if_neg (by omega)]
  by_cases h1 : i ≤ la
  · rw [if_pos h1]
    have d1 : decide ((i : Int) ≤ (la : Int)) = true := by simp; omega
    have d2 : (i : Int) ≤ (la : Int) := by omega
    clear k0 i0 LL
    go_enter Try.func11, Try.ntmps11
    go_wp2_with fail
    refine LC.out.mono ?_
    rintro e w' ⟨rfl, hb⟩
    have HB := Lib.hid hb
    clear hb
    go_wp2
    go_ret
    exact ⟨rfl, HB.out⟩
  rw [if_neg h1]
  have d1 : decide ((i : Int) ≤ (la : Int)) = false := by simp; omega
  have d2 : ¬ (i : Int) ≤ (la : Int) := by omega
  have hw : IntKind.u64.wrap ((la : Int) + 1) = ((la + 1 : Nat) : Int) := by
    simp only [IntKind.wrap, IntKind.bits, IntKind.signed]
    simp
    omega
  obtain ⟨lb, hlb⟩ : ∃ v, v = la + 1 := ⟨_, rfl⟩
  rw [← hlb] at hw ⊢
  have f1 : decide (i ≤ la) = false := by simp; omega
  by_cases h2 : i = lb
  · rw [if_pos h2]
    have e1 : ((i : Int) == (lb : Int)) = true := by simp [h2]
    have e2 : (i == lb) = true := by simp [h2]
    have e3 : ((i : Int) != (lb : Int)) = false := by rw [bne, e1]; rfl
    clear k0 i0 LL h2 hlb hi hk
    go_enter Try.func11, Try.ntmps11
    go_wp2_with fail
    refine LC.out.mono ?_
    rintro e w' ⟨rfl, hb⟩
    have HB := Lib.hid hb
    clear hb
    go_wp2
    go_ret
    exact ⟨rfl, HB.out⟩
  · rw [if_neg h2]
    have e2 : (i == lb) = false := by simp [h2]
    have e1 : ((i : Int) == (lb : Int)) = false := by simp; omega
    have e3 : ((i : Int) != (lb : Int)) = true := by rw [bne, e1]; rfl
    clear k0 i0 LL h2 hlb hi hk
    go_enter Try.func11, Try.ntmps11
    go_wp2_with fail
    refine LC.out.mono ?_
    rintro e w' ⟨rfl, hb⟩
    have HB := Lib.hid hb
    clear hb
    go_wp2
    go_ret
    exact ⟨rfl, HB.out⟩
theorem lies_cut2_16 {w : World} {B : Nat} {A : Option Addr} {T : List La} {t : TypeId} (h : Lies w B t A (acells T)) (i c : Nat) (hc : T.length ≤ c) : Lies w B t (if c = i then A else A.map (·.add (i * 2))) (acells (T.drop i)) := fun hx => by
  have hlt : i < T.length := by
    rcases Nat.lt_or_ge i T.length with q | q
    · exact q
    · rw [List.drop_eq_nil_of_le q] at hx
      exact absurd rfl hx
  rw [if_neg (by omega)]
  obtain ⟨ad, e, hb, hcell⟩ := h (fun q => by have := acells_len T; rw [q] at this; simp at this; omega)
  subst e
  refine ⟨ad.add (i * 2), rfl, by rw [addr_block]; exact hb, fun j u hu => ?_⟩
  rw [addr_add]
  refine hcell _ _ ?_
  have e2 : acells T = acells (T.take i) ++ acells (T.drop i) := by
    unfold acells
    rw [← List.flatMap_append, List.take_append_drop]
  have l2 : (acells (T.take i)).length = i * 2 := by rw [acells_len, List.length_take]; congr 1; omega
  rw [e2, List.getElem?_append_right (by omega), l2]
  rw [show i * 2 + j - i * 2 = j by omega]
  exact hu
/-- What set did. -/
def SetOk16 (k i : Nat) (T : List La) (px : Nat) (w : World) (e : Ending) (w' : World) : Prop := e = .returned (.tuple #[]) ∧ DT (D16.setN k i T) px w' ∧ w.grownBy w' (some px)
theorem lies_pre16 {w : World} {B : Nat} {t : TypeId} {A : Option Addr} {xs ys zs : List Value} (h : Lies w B t A xs) (e : xs = ys ++ zs) : Lies w B t A ys := fun hy => by
  subst e
  obtain ⟨ad, e1, hb, hc⟩ := h (fun q => hy (List.append_eq_nil_iff.1 q).1)
  exact ⟨ad, e1, hb, fun j u hu => hc j u (by
    have hj : j < ys.length := by
      rcases Nat.lt_or_ge j ys.length with z | z
      · exact z
      · rw [List.getElem?_eq_none z] at hu; cases hu
    rw [List.getElem?_append_left hj]; exact hu)⟩
theorem acells_one (xs : List La) : ∀ v ∈ acells xs, v.oneCell' = true := by
  intro v hv
  obtain ⟨x, _, hx⟩ := List.mem_flatMap.1 hv
  exact encA_one x v hx
theorem acells_app (xs ys : List La) : acells (xs ++ ys) = acells xs ++ acells ys := by simp [acells]
theorem at16 {w : World} {A : Addr} {B i : Nat} {T : List La} {x : La} (h : Lies w B 0 (some A) (acells T)) (hx : T[i]? = some x) : w.cell? (A.add (i * 2)) = some (.int .u64 (x.who : Int)) ∧ w.cell? ⟨(A.add (i * 2)).block, (A.add (i * 2)).off + 1, none⟩ = some (.int .u64 (x.id : Int)) := by
  have hlt : i < T.length := (List.getElem?_eq_some_iff.1 hx).1
  obtain ⟨ad, e, _, hc⟩ := h (fun q => by have := acells_len T; rw [q] at this; simp at this; omega)
  injection e with e
  subst e
  have c : ∀ j u, j < 2 → (encA x)[j]? = some u → w.cell? ((A.add (i * 2)).add j) = some u := fun j u hj hu => by
    rw [addr_add]
    exact hc _ _ ((cel_at (f := encA) (size := 2) (fun l _ => encA_len l) hx hj).trans hu)
  exact ⟨c 0 _ (by omega) rfl, c 1 _ (by omega) rfl⟩
theorem set_end16 {T D : List La} {k i p n n8 px : Nat} {A A8 : Option Addr} {c k8 : Nat} {cs : List Value} {w w8 : World} (hS : D16.setN k i T = T.take p ++ ⟨k, i⟩ :: D) (hn : n8 = (T.take p).length + 1 + D.length) (ho : w8.ownsRow w.heap.size 45 2 (.slice A8 n8 k8) n8 cs) (hcs : cs = acells (T.take p) ++ (encA ⟨k, i⟩ ++ acells D)) (hT : Tch w.heap.size [45] w w8) (hb : w.heap[px]? = some (.cells #[.slice A n c] 38 (0, 0))) :
    SetOk16 k i T px w (.returned (.tuple #[])) (w8.setCell ⟨px, 0, none⟩ (.slice A8 n8 k8)) := by
  have b8 := hT.blk hb (by decide)
  have e : (D16.setN k i T).length = n8 := by rw [hS, hn]; simp; omega
  have ec : acells (D16.setN k i T) = cs := by rw [hS, hcs]; simp [acells]
  refine ⟨rfl, ⟨A8, k8, ?_, ?_, ?_⟩, ⟨?_, ?_, ?_, ?_, fun j hj hne => ?_⟩⟩
  · rw [e]; exact one_setCell b8
  · rw [ec]; exact (lies_own (B := 0) (own_far ho b8 (by decide) _))
  · rw [e]; exact (own_room ho).2
  · exact hT.below.os
  · exact hT.below.tape
  · exact hT.below.output
  · have := hT.size; simp; omega
  · exact (Below.heap_setCell w8 _ _ j (fun q => hne (by rw [q]))).trans (hT.below.block j hj)
set_option maxRecDepth 100000 in
set_option maxHeartbeats 4000000 in
theorem refSet16_c {T : List La} {px k i : Nat} {w : World} (h : DT T px w) (hs : T.length ≤ 1000000) : Calls Try.prog 19 #[.pointer (some ⟨px, 0, none⟩), .int .u64 (k : Int), .int .u64 (i : Int)] w (SetOk16 k i T px w) := by
  obtain ⟨ai0, ahi, az0, az1, az2⟩ := info_parts Try.infoLa15
  obtain ⟨A, c, hb, hL, hc⟩ := h.b
  have c0 := one_cell hb
  have HL : Hid (Lies w w.heap.size 0 A (acells T)) := Lib.hid hL.old
  have LT := Lib.hid hL
  have HB := Lib.hid hb
  have HC := Lib.hid hc
  clear h hL hc
  go_enter Try.func19, Try.ntmps19
  go_wp2
  go_loopw [6] (fun s6 wr => ∃ p : Nat, s6 = .int .i64 p ∧ p ≤ T.length ∧ Hid (∀ j x, j < p → T[j]? = some x → x.who < k) ∧ w = wr) (fun s6 _ => T.length - (intOf s6).toNat)
  case atStart => exact ⟨0, rfl, Nat.zero_le _, Lib.hid (fun j x hj => absurd hj (Nat.not_lt_zero j)), rfl⟩
  case round =>
    obtain ⟨p, rfl, hp, HF, rfl⟩ := hrel
    obtain ⟨lt, hlt0⟩ : ∃ v, v = decide (p < T.length) := ⟨_, rfl⟩
    by_cases hlt : p < T.length
    · have hltz : (p : Int) < (T.length : Int) := by omega
      have hltd : decide ((p : Int) < (T.length : Int)) = true := by simp; omega
      obtain ⟨ad, x, hA, hx, q0, q1⟩ := (show AL w A T from HL.out).at_ hlt
      subst hA
      have X := Lib.hid hx
      clear hx hlt0
      by_cases hk : x.who < k
      · have HF2 : Hid (∀ j x, j < p + 1 → T[j]? = some x → x.who < k) := Lib.hid fun j y hj hy => by
          by_cases q : j = p
          · subst q
            have e := hy.symm.trans X.out
            injection e with e
            rw [e]; exact hk
          · exact HF.out j y (by omega) hy
        have e1 : decide ((x.who : Int) < (k : Int)) = true := by simp; omega
        have e2 : (x.who : Int) < (k : Int) := by omega
        have e3 : decide (x.who < k) = true := by simp; omega
        go_wp2
        go_roundw
        case rel => exact ⟨p + 1, by go_num, by omega, HF2, by first | trivial | rfl⟩
        case measure => simp [intOf]; omega
      · have e1 : decide ((x.who : Int) < (k : Int)) = false := by simp; omega
        have e2 : ¬ (x.who : Int) < (k : Int) := by omega
        have e3 : decide (x.who < k) = false := by simp; omega
        by_cases hq : x.who = k
        · have SA : Hid (D16.setN k i T = T.take p ++ ⟨k, i⟩ :: T.drop (p + 1)) := Lib.hid (by
            rw [D16.set_at k i (T := T) (p := p) HF.out (fun y hy => by rw [X.out] at hy; injection hy with hy; rw [← hy]; exact hk) hp, X.out, if_pos (by rw [Option.map_some, hq])])
          have g1 : ((x.who : Int) == (k : Int)) = true := by simp [hq]
          have g2 : (x.who == k) = true := by simp [hq]
          clear hq hk
          have hbl := buildLa16 (k : Int) (i : Int)
          have hpc : p ≤ c := by have := HC.out; omega
          have tl : (T.take p).length = p := by rw [List.length_take]; omega
          have dl : (T.drop (p + 1)).length = T.length - (p + 1) := List.length_drop ..
          have L0 : Hid (Lies w w.heap.size 0 (some ad) (acells (T.take p))) := Lib.hid (lies_pre16 HL.out (zs := acells (T.drop p)) (by rw [← acells_app, List.take_append_drop]))
          go_wp2_with (at_builtin; refine wpList_app _ rfl _ _ 22 rfl w.heap.size 45 ai0 _ 2 16 Try.underlying22 ahi az0 az1 az2 rfl (by decide) _ 0 [] rfl (World.ownsRow_nil _ _ _ _) w.heap.size _ p _ (acells (T.take p)) 0 rfl (by rw [acells_len, tl]) L0.out (acells_one _) (by unfold maxLen; omega) (by omega) (Nat.le_refl _) ?_)
          intro v6 w6 hown6 hgrow6 hor6
          obtain ⟨A6, k6, rfl⟩ := own_slice hown6
          have T6 := Lib.hid (show Tch w.heap.size [45] w w6 from grown_tch (e := 45) (size := 2) (World.ownsRow_nil _ _ _ _) hgrow6 (Nat.le_refl _) (Nat.le_refl _) (by simp))
          have hbs := buildSlA15 k i w6
          have OA : Hid ((w6.alloc (.cells #[.int .u64 (k : Int), .int .u64 (i : Int)] 45)).ownsRow w.heap.size 45 2 (.slice A6 p k6) p (acells (T.take p))) := Lib.hid (hown6.alloc _)
          have LE : Hid (Lies (w6.alloc (.cells #[.int .u64 (k : Int), .int .u64 (i : Int)] 45)) 0 45 (some ⟨w6.heap.size, 0, none⟩) (encA ⟨k, i⟩)) := Lib.hid (Lies.of_blk (heap_alloc_new w6 _))
          have z6 := T6.out.size
          clear hown6 hgrow6 hor6 tl
          go_wp2_with (at_builtin; refine wpList_app _ rfl _ _ 22 rfl w.heap.size 45 ai0 _ 2 16 Try.underlying22 ahi az0 az1 az2 rfl (by decide) _ p (acells (T.take p)) rfl OA.out 0 _ 1 1 (encA ⟨k, i⟩) 45 rfl rfl LE.out (encA_one _) (by unfold maxLen; omega) (by omega) (by simp; omega) ?_)
          intro v7 w7 hown7 hgrow7 hor7
          obtain ⟨A7, k7, rfl⟩ := own_slice hown7
          have T7 := Lib.hid ((T6.out.alloc z6 (.cells #[.int .u64 (k : Int), .int .u64 (i : Int)] 45)).trans (grown_tch OA.out hgrow7 (Nat.le_refl _) (by simp; omega) (by simp)))
          have O7 := Lib.hid hown7
          have c7 := one_cell (T7.out.blk HB.out (by decide))
          obtain ⟨q7, q8⟩ : w7.cell? (ad.add (p * 2)) = some (.int .u64 (x.who : Int)) ∧ w7.cell? ⟨(ad.add (p * 2)).block, (ad.add (p * 2)).off + 1, none⟩ = some (.int .u64 (x.id : Int)) := at16 (HL.out.tch T7.out (by decide)) X.out
          have L7 := Lib.hid (lies_cut2_16 (T := T) (A := (some ad)) (HL.out.tch T7.out (by decide)) (p + 1) c HC.out)
          have z7 := T7.out.size
          have hpe : (p + 1) ≤ T.length := by omega
          have fx := blk_free (T7.out.blk HB.out (by decide)) 0
          obtain ⟨A2, hA2⟩ : ∃ A2, (if c = (p + 1) then (some ad) else (some ad).map (·.add ((p + 1) * 2))) = A2 := ⟨_, rfl⟩
          have hA3 := hA2
          simp only [Option.map_some, Option.map_none] at hA3
          rw [hA2] at L7
          clear hown7 hgrow7 hor7 z6 c0 hbs
          go_wp2_with (at_builtin; refine wpList_app _ rfl _ _ 22 rfl w.heap.size 45 ai0 _ 2 16 Try.underlying22 ahi az0 az1 az2 rfl (by decide) _ (p + 1) (acells (T.take p) ++ encA ⟨k, i⟩) rfl O7.out w.heap.size _ (T.length - (p + 1)) _ (acells (T.drop (p + 1))) 0 rfl (by rw [acells_len, dl]) L7.out (acells_one _) (by unfold maxLen; omega) (by omega) z7 ?_)
          intro v8 w8 hown8 hgrow8 hor8
          obtain ⟨A8, k8, rfl⟩ := own_slice hown8
          have T8 : Tch w.heap.size [45] w w8 := T7.out.trans (grown_tch O7.out hgrow8 (Nat.le_refl _) z7 (by simp))
          have b8 := T8.blk HB.out (by decide)
          have c8 := one_cell b8
          have fx8 := blk_free b8 0
          have FIN := Lib.hid (set_end16 SA.out (by rw [List.length_take, dl]; omega) hown8 (by simp) T8 HB.out)
          clear hown8 hgrow8 hor8 T8 b8 hA2 hA3
          go_wp2
          go_end0
          exact FIN.out
        · have SA : Hid (D16.setN k i T = T.take p ++ ⟨k, i⟩ :: T.drop p) := Lib.hid (by
            rw [D16.set_at k i (T := T) (p := p) HF.out (fun y hy => by rw [X.out] at hy; injection hy with hy; rw [← hy]; exact hk) hp, X.out, if_neg (by rw [Option.map_some]; simp [hq])])
          have g2 : (x.who == k) = false := by simp [hq]
          have g1 : ((x.who : Int) == (k : Int)) = false := by simp; omega
          clear hq hk
          have hbl := buildLa16 (k : Int) (i : Int)
          have hpc : p ≤ c := by have := HC.out; omega
          have tl : (T.take p).length = p := by rw [List.length_take]; omega
          have dl : (T.drop p).length = T.length - p := List.length_drop ..
          have L0 : Hid (Lies w w.heap.size 0 (some ad) (acells (T.take p))) := Lib.hid (lies_pre16 HL.out (zs := acells (T.drop p)) (by rw [← acells_app, List.take_append_drop]))
          go_wp2_with (at_builtin; refine wpList_app _ rfl _ _ 22 rfl w.heap.size 45 ai0 _ 2 16 Try.underlying22 ahi az0 az1 az2 rfl (by decide) _ 0 [] rfl (World.ownsRow_nil _ _ _ _) w.heap.size _ p _ (acells (T.take p)) 0 rfl (by rw [acells_len, tl]) L0.out (acells_one _) (by unfold maxLen; omega) (by omega) (Nat.le_refl _) ?_)
          intro v6 w6 hown6 hgrow6 hor6
          obtain ⟨A6, k6, rfl⟩ := own_slice hown6
          have T6 := Lib.hid (show Tch w.heap.size [45] w w6 from grown_tch (e := 45) (size := 2) (World.ownsRow_nil _ _ _ _) hgrow6 (Nat.le_refl _) (Nat.le_refl _) (by simp))
          have hbs := buildSlA15 k i w6
          have OA : Hid ((w6.alloc (.cells #[.int .u64 (k : Int), .int .u64 (i : Int)] 45)).ownsRow w.heap.size 45 2 (.slice A6 p k6) p (acells (T.take p))) := Lib.hid (hown6.alloc _)
          have LE : Hid (Lies (w6.alloc (.cells #[.int .u64 (k : Int), .int .u64 (i : Int)] 45)) 0 45 (some ⟨w6.heap.size, 0, none⟩) (encA ⟨k, i⟩)) := Lib.hid (Lies.of_blk (heap_alloc_new w6 _))
          have z6 := T6.out.size
          clear hown6 hgrow6 hor6 tl
          go_wp2_with (at_builtin; refine wpList_app _ rfl _ _ 22 rfl w.heap.size 45 ai0 _ 2 16 Try.underlying22 ahi az0 az1 az2 rfl (by decide) _ p (acells (T.take p)) rfl OA.out 0 _ 1 1 (encA ⟨k, i⟩) 45 rfl rfl LE.out (encA_one _) (by unfold maxLen; omega) (by omega) (by simp; omega) ?_)
          intro v7 w7 hown7 hgrow7 hor7
          obtain ⟨A7, k7, rfl⟩ := own_slice hown7
          have T7 := Lib.hid ((T6.out.alloc z6 (.cells #[.int .u64 (k : Int), .int .u64 (i : Int)] 45)).trans (grown_tch OA.out hgrow7 (Nat.le_refl _) (by simp; omega) (by simp)))
          have O7 := Lib.hid hown7
          have c7 := one_cell (T7.out.blk HB.out (by decide))
          obtain ⟨q7, q8⟩ : w7.cell? (ad.add (p * 2)) = some (.int .u64 (x.who : Int)) ∧ w7.cell? ⟨(ad.add (p * 2)).block, (ad.add (p * 2)).off + 1, none⟩ = some (.int .u64 (x.id : Int)) := at16 (HL.out.tch T7.out (by decide)) X.out
          have L7 := Lib.hid (lies_cut2_16 (T := T) (A := (some ad)) (HL.out.tch T7.out (by decide)) p c HC.out)
          have z7 := T7.out.size
          have hpe : p ≤ T.length := by omega
          have fx := blk_free (T7.out.blk HB.out (by decide)) 0
          obtain ⟨A2, hA2⟩ : ∃ A2, (if c = p then (some ad) else (some ad).map (·.add (p * 2))) = A2 := ⟨_, rfl⟩
          have hA3 := hA2
          simp only [Option.map_some, Option.map_none] at hA3
          rw [hA2] at L7
          clear hown7 hgrow7 hor7 z6 c0 hbs
          go_wp2_with (at_builtin; refine wpList_app _ rfl _ _ 22 rfl w.heap.size 45 ai0 _ 2 16 Try.underlying22 ahi az0 az1 az2 rfl (by decide) _ (p + 1) (acells (T.take p) ++ encA ⟨k, i⟩) rfl O7.out w.heap.size _ (T.length - p) _ (acells (T.drop p)) 0 rfl (by rw [acells_len, dl]) L7.out (acells_one _) (by unfold maxLen; omega) (by omega) z7 ?_)
          intro v8 w8 hown8 hgrow8 hor8
          obtain ⟨A8, k8, rfl⟩ := own_slice hown8
          have T8 : Tch w.heap.size [45] w w8 := T7.out.trans (grown_tch O7.out hgrow8 (Nat.le_refl _) z7 (by simp))
          have b8 := T8.blk HB.out (by decide)
          have c8 := one_cell b8
          have fx8 := blk_free b8 0
          have FIN := Lib.hid (set_end16 SA.out (by rw [List.length_take, dl]; omega) hown8 (by simp) T8 HB.out)
          clear hown8 hgrow8 hor8 T8 b8 hA2 hA3
          go_wp2
          go_end0
          exact FIN.out
    · obtain rfl : p = T.length := by omega
      have hltz : ¬ ((T.length : Int) < (T.length : Int)) := by omega
      have SA : Hid (D16.setN k i T = T.take T.length ++ ⟨k, i⟩ :: T.drop T.length) := Lib.hid (by
        rw [D16.set_at k i (T := T) (p := T.length) HF.out (fun y hy => by simp at hy) (Nat.le_refl _), if_neg (by simp)])
      obtain ⟨p, hpq⟩ : ∃ v, v = T.length := ⟨_, rfl⟩
      have HPQ := Lib.hid hpq
      rw [← hpq] at SA hltz c0 HB hp ⊢
      have SB : Hid (D16.setN k i T = T.take p ++ ⟨k, i⟩ :: []) := Lib.hid (by have q := SA.out; rw [hpq, List.drop_length] at q; rw [hpq]; exact q)
      have hpl : p ≤ T.length := by omega
      clear hlt hlt0 hpq hb
      rcases A with _ | ad
      · have TE : T = [] := by
          rcases T with _ | ⟨y, l⟩
          · rfl
          · obtain ⟨_, q, _⟩ := HL.out (by simp [acells, encA])
            cases q
        subst TE
        have p0 : p = 0 := by simpa using HPQ.out
        subst p0
        have SA2 : Hid (D16.setN k i [] = ([] : List La).take 0 ++ ⟨k, i⟩ :: []) := Lib.hid rfl
        have hbl := buildLa16 (k : Int) (i : Int)
        have hbs := buildSlA15 k i w
        have LE : Hid (Lies (w.alloc (.cells #[.int .u64 (k : Int), .int .u64 (i : Int)] 45)) 0 45 (some ⟨w.heap.size, 0, none⟩) (encA ⟨k, i⟩)) := Lib.hid (Lies.of_blk (heap_alloc_new w _))
        have cz : ((0 : Nat) : Int) = 0 := rfl
        clear HF SA hpl
        go_wp2_with (at_builtin; refine wpList_app _ rfl _ _ 22 rfl w.heap.size 45 ai0 _ 2 16 Try.underlying22 ahi az0 az1 az2 rfl (by decide) _ 0 [] rfl (World.ownsRow_nil _ _ _ _) 0 _ 1 1 (encA ⟨k, i⟩) 45 rfl rfl LE.out (encA_one _) (by unfold maxLen; omega) (by omega) (by simp) ?_)
        intro v7 w7 hown7 hgrow7 hor7
        obtain ⟨A7, k7, rfl⟩ := own_slice hown7
        have T7 := Lib.hid ((Tch.refl w.heap.size [45] w).alloc (Nat.le_refl _) (.cells #[.int .u64 (k : Int), .int .u64 (i : Int)] 45) |>.trans (grown_tch (e := 45) (size := 2) (World.ownsRow_nil _ _ _ _) hgrow7 (Nat.le_refl _) (by simp) (by simp)))
        have O7 := Lib.hid hown7
        have c7 := one_cell (T7.out.blk HB.out (by decide))
        have fx := blk_free (T7.out.blk HB.out (by decide)) 0
        have z7 := T7.out.size
        clear hown7 hgrow7 hor7 c0 hbs
        go_wp2_with (at_builtin; refine wpList_app _ rfl _ _ 22 rfl w.heap.size 45 ai0 _ 2 16 Try.underlying22 ahi az0 az1 az2 rfl (by decide) _ 1 (encA ⟨k, i⟩) rfl O7.out 0 none 0 _ [] 0 rfl rfl Lies.nil (by simp) (by unfold maxLen; omega) (by omega) z7 ?_)
        intro v8 w8 hown8 hgrow8 hor8
        obtain ⟨A8, k8, rfl⟩ := own_slice hown8
        have T8 : Tch w.heap.size [45] w w8 := T7.out.trans (grown_tch O7.out hgrow8 (Nat.le_refl _) z7 (by simp))
        have b8 := T8.blk HB.out (by decide)
        have c8 := one_cell b8
        have fx8 := blk_free b8 0
        have FIN := Lib.hid (set_end16 SA2.out (by simp) hown8 (by simp [acells]) T8 HB.out)
        clear hown8 hgrow8 hor8 T8 b8
        go_wp2
        go_end0
        exact FIN.out
      · have hbl := buildLa16 (k : Int) (i : Int)
        have hpc : p ≤ c := by have := HC.out; omega
        have tl : (T.take p).length = p := by rw [List.length_take]; omega
        have dl : (T.drop p).length = T.length - p := List.length_drop ..
        have L0 : Hid (Lies w w.heap.size 0 (some ad) (acells (T.take p))) := Lib.hid (lies_pre16 HL.out (zs := acells (T.drop p)) (by rw [← acells_app, List.take_append_drop]))
        go_wp2_with (at_builtin; refine wpList_app _ rfl _ _ 22 rfl w.heap.size 45 ai0 _ 2 16 Try.underlying22 ahi az0 az1 az2 rfl (by decide) _ 0 [] rfl (World.ownsRow_nil _ _ _ _) w.heap.size _ p _ (acells (T.take p)) 0 rfl (by rw [acells_len, tl]) L0.out (acells_one _) (by unfold maxLen; omega) (by omega) (Nat.le_refl _) ?_)
        intro v6 w6 hown6 hgrow6 hor6
        obtain ⟨A6, k6, rfl⟩ := own_slice hown6
        have T6 := Lib.hid (show Tch w.heap.size [45] w w6 from grown_tch (e := 45) (size := 2) (World.ownsRow_nil _ _ _ _) hgrow6 (Nat.le_refl _) (Nat.le_refl _) (by simp))
        have hbs := buildSlA15 k i w6
        have OA : Hid ((w6.alloc (.cells #[.int .u64 (k : Int), .int .u64 (i : Int)] 45)).ownsRow w.heap.size 45 2 (.slice A6 p k6) p (acells (T.take p))) := Lib.hid (hown6.alloc _)
        have LE : Hid (Lies (w6.alloc (.cells #[.int .u64 (k : Int), .int .u64 (i : Int)] 45)) 0 45 (some ⟨w6.heap.size, 0, none⟩) (encA ⟨k, i⟩)) := Lib.hid (Lies.of_blk (heap_alloc_new w6 _))
        have z6 := T6.out.size
        clear hown6 hgrow6 hor6 tl
        go_wp2_with (at_builtin; refine wpList_app _ rfl _ _ 22 rfl w.heap.size 45 ai0 _ 2 16 Try.underlying22 ahi az0 az1 az2 rfl (by decide) _ p (acells (T.take p)) rfl OA.out 0 _ 1 1 (encA ⟨k, i⟩) 45 rfl rfl LE.out (encA_one _) (by unfold maxLen; omega) (by omega) (by simp; omega) ?_)
        intro v7 w7 hown7 hgrow7 hor7
        obtain ⟨A7, k7, rfl⟩ := own_slice hown7
        have T7 := Lib.hid ((T6.out.alloc z6 (.cells #[.int .u64 (k : Int), .int .u64 (i : Int)] 45)).trans (grown_tch OA.out hgrow7 (Nat.le_refl _) (by simp; omega) (by simp)))
        have O7 := Lib.hid hown7
        have c7 := one_cell (T7.out.blk HB.out (by decide))
        have L7 := Lib.hid (lies_cut2_16 (T := T) (A := (some ad)) (HL.out.tch T7.out (by decide)) p c HC.out)
        have z7 := T7.out.size
        have hpe : p ≤ T.length := by omega
        have fx := blk_free (T7.out.blk HB.out (by decide)) 0
        obtain ⟨A2, hA2⟩ : ∃ A2, (if c = p then (some ad) else (some ad).map (·.add (p * 2))) = A2 := ⟨_, rfl⟩
        have hA3 := hA2
        simp only [Option.map_some, Option.map_none] at hA3
        rw [hA2] at L7
        clear hown7 hgrow7 hor7 z6 c0 hbs
        go_wp2_with (at_builtin; refine wpList_app _ rfl _ _ 22 rfl w.heap.size 45 ai0 _ 2 16 Try.underlying22 ahi az0 az1 az2 rfl (by decide) _ (p + 1) (acells (T.take p) ++ encA ⟨k, i⟩) rfl O7.out 0 _ 0 _ [] 0 rfl rfl Lies.nil (by simp) (by unfold maxLen; omega) (by omega) z7 ?_)
        intro v8 w8 hown8 hgrow8 hor8
        obtain ⟨A8, k8, rfl⟩ := own_slice hown8
        have T8 : Tch w.heap.size [45] w w8 := T7.out.trans (grown_tch O7.out hgrow8 (Nat.le_refl _) z7 (by simp))
        have b8 := T8.blk HB.out (by decide)
        have c8 := one_cell b8
        have fx8 := blk_free b8 0
        have FIN := Lib.hid (set_end16 (D := []) SB.out (by rw [List.length_take]; simp; omega) hown8 (by simp [acells]) T8 HB.out)
        clear hown8 hgrow8 hor8 T8 b8 hA2 hA3
        go_wp2
        go_end0
        exact FIN.out
end
end Go.Proofs.Ytmcfknnfaokmlaa
