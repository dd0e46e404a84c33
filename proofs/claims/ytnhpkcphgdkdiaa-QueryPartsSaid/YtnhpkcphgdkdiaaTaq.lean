/- Stage 9: the document's withList and withTask (written by wip/gen9wl.py). -/
import Derived.Test.YtnhpkcphgdkdiaaTah
import Derived.Test.YtnhpkcphgdkdiaaTa
namespace Go.Proofs.Ytnhpkcphgdkdiaa
open Go.RowKit Go.Lib
set_option maxRecDepth 100000

/-- A row of one thing, just made. -/
theorem own_one {w u : World} {e : TypeId} {size : Nat} {xs : List Value} (hw : w.alloc (.cells xs.toArray e) = u) (hl : xs.length = size) : u.ownsRow w.heap.size e size (.slice (some ⟨w.heap.size, 0, none⟩) 1 1) 1 xs :=
 ⟨by omega, .inr ⟨w.heap.size, 1, xs.toArray, rfl, Nat.le_refl _, by rw [← hw]; exact heap_alloc_new w _, Nat.le_refl _, by decide, by simp; omega, by rw [Nat.one_mul, ← hl]; simp⟩⟩
theorem Lies.cutS {w : World} {B : Nat} {t : TypeId} {A : Option Addr} {xs : List Value} (h : Lies w B t A xs) (size k c : Nat) (hs : 0 < size) (hc : xs.length ≤ c * size) : Lies w B t (if c = k then A else A.map (·.add (k * size))) (xs.drop (k * size)) := by
 have q := h.cut (k * size) (c * size) hc
 by_cases e : c = k
 ·rw [if_pos e]
  rw [if_pos (by rw [e])] at q
  exact q
 ·rw [if_neg e]
  rw [if_neg (fun z => e (Nat.eq_of_mul_eq_mul_right hs z))] at q
  exact q
/-- What lies in blocks of its own type stays. -/
theorem lies_keep {w w' : World} {t : TypeId} {A : Option Addr} {xs : List Value} (h : Lies w 0 t A xs) (hb : Below w.heap.size w w') : Lies w' 0 t A xs := h.tch (Tch.of_below hb (Nat.le_refl _) []).zero (by simp)
/-- Where a task's tags lie: in blocks of strings. -/
def MTk.fineT (m : MTk) (w : World) : Prop := Lies w 0 9 m.A (gcells m.t.tags) ∧ m.t.tags.length ≤ m.c
theorem MTk.fineT.fine {m : MTk} {w : World} (h : m.fineT w) : m.fine w := ⟨h.1.old, h.2⟩
theorem MTk.fineT.stay {m : MTk} {w w' : World} (h : m.fineT w) (hb : Below w.heap.size w w') : m.fineT w' := ⟨lies_keep h.1 hb, h.2⟩
theorem own_ones {xs ys : List Value} (h : ∀ v ∈ xs, v.oneCell' = true) (k : ∀ v ∈ ys, v.oneCell' = true) : ∀ v ∈ xs ++ ys, v.oneCell' = true := fun v hv => by
 rcases List.mem_append.1 hv with q | q
 ·exact h v q
 ·exact k v q
theorem lcells_take (ls : List T9.Li) (k : Nat) : (lcells ls).take (k * 2) = lcells (ls.take k) := by
 induction ls generalizing k with
 | nil => simp [lcells]
 | cons l ls ih =>
  cases k with
  | zero => simp [lcells]
  | succ k =>
   have e : (k + 1) * 2 = k * 2 + 1 + 1 := by omega
   show (encL l ++ lcells ls).take _ = encL l ++ lcells (ls.take k)
   rw [e]
   simp [encL, ih k]
theorem lcells_drop (ls : List T9.Li) (k : Nat) : (lcells ls).drop (k * 2) = lcells (ls.drop k) := by
 induction ls generalizing k with
 | nil => simp [lcells]
 | cons l ls ih =>
  cases k with
  | zero => simp [lcells]
  | succ k =>
   have e : (k + 1) * 2 = k * 2 + 1 + 1 := by omega
   show (encL l ++ lcells ls).drop _ = lcells (ls.drop k)
   rw [e]
   simp [encL, ih k]
theorem tkcells_take (ls : List MTk) (k : Nat) : (tkcells ls).take (k * 7) = tkcells (ls.take k) := by
 induction ls generalizing k with
 | nil => simp [tkcells]
 | cons l ls ih =>
  cases k with
  | zero => simp [tkcells]
  | succ k =>
   have e : (k + 1) * 7 = k * 7 + 1 + 1 + 1 + 1 + 1 + 1 + 1 := by omega
   show (encK l ++ tkcells ls).take _ = encK l ++ tkcells (ls.take k)
   rw [e]
   simp [encK, ih k]
theorem tkcells_drop (ls : List MTk) (k : Nat) : (tkcells ls).drop (k * 7) = tkcells (ls.drop k) := by
 induction ls generalizing k with
 | nil => simp [tkcells]
 | cons l ls ih =>
  cases k with
  | zero => simp [tkcells]
  | succ k =>
   have e : (k + 1) * 7 = k * 7 + 1 + 1 + 1 + 1 + 1 + 1 + 1 := by omega
   show (encK l ++ tkcells ls).drop _ = tkcells (ls.drop k)
   rw [e]
   simp [encK, ih k]

/-- The list in order with one thing more; all that there was is as it was. -/
def WLOk (ls : List T9.Li) (w : World) (e : Ending) (w' : World) : Prop := ∃ A c, e = .returned (.slice A ls.length c) ∧ Lies w' 0 49 A (lcells ls) ∧ ls.length ≤ c ∧ (A = none → c = 0) ∧ Below w.heap.size w w'

set_option linter.unusedSimpArgs false in
set_option maxHeartbeats 4000000 in
set_option maxRecDepth 100000 in
theorem withList_c {A : Option Addr} {n c : Nat} {ls : List T9.Li} {x : T9.Li} {w : World} (h : Lies w 0 49 A (lcells ls)) (hn : n = ls.length) (hc : n ≤ c) (hz : A = none → c = 0) (hs : n ≤ 1000) :
  Calls Try.prog 48 #[.slice A n c, .agg #[.int .u64 (x.id : Int), .string (str x.name)]] w (WLOk (Sr.ins T9.ltL x ls) w) := by
 have HT := Lib.hid h
 have HA := True.intro
 have HL : Hid (LL w A ls) := Lib.hid (Lies.old h)
 have HN := Lib.hid hn
 have HC := Lib.hid hc
 have HZ := Lib.hid hz
 have HF := True.intro
 obtain ⟨w1, hw1⟩ : ∃ u, w.alloc (.cells #[.int .u64 (x.id : Int), .string (str x.name)] 49) = u := ⟨_, rfl⟩
 obtain ⟨pb, b1, z1⟩ := new_two hw1
 have PB := Lib.hid pb
 have B1 := Lib.hid b1
 clear h hn pb b1 z1 hz
 go_enter Try.func48, Try.ntmps48
 go_wp2_with fail
 go_loopw [5] (fun s5 wr => ∃ k : Nat, s5 = .int .i64 k ∧ k ≤ n ∧ Aside (∀ y ∈ ls.take k, T9.ltL y x = true) ∧ Aside (Below w1.heap.size w1 wr)) (fun s5 _ => n - (intOf s5).toNat)
 case atStart => exact ⟨0, rfl, Nat.zero_le _, (fun y hy => by simp at hy : ∀ y ∈ ls.take 0, T9.ltL y x = true), Below.refl _ _⟩
 case round =>
  obtain ⟨k, rfl, hk, hI, hB⟩ := hrel
  have HI := Lib.hid hI.out
  have HB := Lib.hid hB.out
  clear hI hB
  have BW := Lib.hid (B1.out.trans (HB.out.mono B1.out.size))
  have PR := Lib.hid (blk_keep PB.out HB.out)
  obtain ⟨p0, p1⟩ := two_cells PR.out
  have LW := Lib.hid (HL.out.stay BW.out)
  by_cases hlt : k < n
  ·have hltz : (k : Int) < (n : Int) := by omega
   have k0 : (0 : Int) ≤ (k : Int) := by omega
   have kc : k ≤ c := by omega
   have kci : (k : Int) ≤ (c : Int) := by omega
   have nci : (n : Int) ≤ (c : Int) := by omega
   have kni : (k : Int) ≤ (n : Int) := by omega
   have kn : k ≤ n := by omega
   obtain ⟨ad, l, hA, hx, r0, r1⟩ := LW.out.at_ (k := k) (by rw [← HN.out]; exact hlt)
   subst hA
   have X := Lib.hid hx
   clear hx
   by_cases q : l.id < x.id
   ·have q1 : decide ((l.id : Int) < (x.id : Int)) = true := decide_eq_true (by omega)
    have q1n : decide (l.id < x.id) = true := decide_eq_true q
    have QX : Hid (T9.ltL l x = true) := Lib.hid (decide_eq_true q)
    clear q
    go_wp2_with fail
    go_region
    go_wp2
    go_roundw
    case rel =>
     refine ⟨k + 1, by go_num, by omega, ?_, HB.out.drew⟩
     intro y hy
     rw [take_nxt X.out] at hy
     rcases List.mem_append.1 hy with h | h
     ·exact HI.out y h
     ·simp only [List.mem_cons, List.not_mem_nil, or_false] at h
      subst h
      exact QX.out
    case measure => simp [intOf]; omega
   ·have q1 : decide ((l.id : Int) < (x.id : Int)) = false := decide_eq_false (by omega)
    have q1n : decide (l.id < x.id) = false := decide_eq_false q
    have qz : ¬ ((l.id : Int) < (x.id : Int)) := by omega
    have QN : Hid (T9.ltL l x = false) := Lib.hid (decide_eq_false q)
    by_cases e : l.id = x.id
    ·have e1 : ((l.id : Int) == (x.id : Int)) = true := by rw [e]; exact beq_self_eq_true _
     have e1n : (l.id == x.id) = true := by rw [e]; exact beq_self_eq_true _
     have e1d : decide (l.id = x.id) = true := decide_eq_true e
     have IO : Hid (Sr.ins T9.ltL x ls = ls) := Lib.hid (Sr.ins_old HI.out X.out QN.out (decide_eq_false (by omega)))
     clear q e
     go_wp2_with fail
     go_region
     go_wp2_with fail
     go_region
     go_wp2
     go_ret
     exact ⟨some ad, c, (by rw [IO.out, ← HN.out]; rfl), (by rw [IO.out]; exact lies_keep HT.out BW.out.drew.drew), (by rw [IO.out, ← HN.out]; exact HC.out), (fun z => by cases z), BW.out.drew.drew⟩
    ·have e1 : ((l.id : Int) == (x.id : Int)) = false := by rw [beq_eq_false_iff_ne]; omega
     have e1n : (l.id == x.id) = false := by rw [beq_eq_false_iff_ne]; exact e
     have e1d : decide (l.id = x.id) = false := decide_eq_false e
     have IN : Hid (Sr.ins T9.ltL x ls = ls.take k ++ x :: ls.drop k) := Lib.hid (Sr.ins_new HI.out fun y hy => by
      rw [X.out] at hy
      injection hy with hy
      subst hy
      exact ⟨QN.out, decide_eq_true (by omega)⟩)
     clear q e
     go_wp2_with fail
     go_region
     go_wp2_with fail
     go_region
     go_wp2_with fail
     obtain ⟨wz, hwz⟩ : ∃ u, wr.drew.drew = u := ⟨_, rfl⟩
     rw [hwz]
     have BZ : Hid (Below w.heap.size w wz) := Lib.hid (by rw [← hwz]; exact BW.out.drew.drew)
     have PZ : Hid (wz.heap[w.heap.size]? = some (.cells #[.int .u64 (x.id : Int), .string (str x.name)] 49 (0, 0))) := Lib.hid (by rw [← hwz]; exact PR.out)
     have LZ := Lib.hid (HL.out.stay BZ.out)
     obtain ⟨i0, hi, hz0, hz1, hz2⟩ := info_parts Try.infoLi9
     refine wp_region_held_drew (S := fun u => u.heap[w.heap.size]? = some (.cells #[.int .u64 (x.id : Int), .string (str x.name)] 49 (0, 0))) (by kernel_rfl) (PZ.out) (fun S0 => ?_)
     refine wpAnyH_take (i := 0) (v := ?_) rfl (by kernel_rfl) (by kernel_rfl) (by kernel_rfl) (fun _ _ _ h => h) (Or.inl ⟨by rfl, ?_⟩) S0 ?_
     rotate_left
     ·intro u hu
      go_simp
      try rfl
     try simp only [Act.put, List.setIfInBounds_toArray, List.set_cons_zero, List.set_cons_succ, List.getElem_toArray, List.getElem_cons_zero, List.getElem_cons_succ]
     refine wpAnyH_take (i := 1) (v := ?_) rfl (by kernel_rfl) (by kernel_rfl) (by kernel_rfl) (fun _ _ _ h => h) (Or.inl ⟨by rfl, ?_⟩) S0 ?_
     rotate_left
     ·intro u hu
      go_simp
      try rfl
     try simp only [Act.put, List.setIfInBounds_toArray, List.set_cons_zero, List.set_cons_succ, List.getElem_toArray, List.getElem_cons_zero, List.getElem_cons_succ]
     refine wpAnyH_take (i := 2) (v := ?_) rfl (by kernel_rfl) (by kernel_rfl) (by kernel_rfl) (fun _ _ _ h => h) (Or.inl ⟨by rfl, ?_⟩) S0 ?_
     rotate_left
     ·intro u hu
      go_simp
      try rfl
     try simp only [Act.put, List.setIfInBounds_toArray, List.set_cons_zero, List.set_cons_succ, List.getElem_toArray, List.getElem_cons_zero, List.getElem_cons_succ]
     refine wpAnyH_take (i := 3) (v := ?_) rfl (by kernel_rfl) (by kernel_rfl) (by kernel_rfl) (fun _ _ _ h => h) (Or.inl ⟨by rfl, ?_⟩) S0 ?_
     rotate_left
     ·intro u hu
      go_simp
      try rfl
     try simp only [Act.put, List.setIfInBounds_toArray, List.set_cons_zero, List.set_cons_succ, List.getElem_toArray, List.getElem_cons_zero, List.getElem_cons_succ]
     refine wpAnyH_take (i := 4) (v := ?_) rfl (by kernel_rfl) (by kernel_rfl) (by kernel_rfl) (fun _ _ _ h => h) (Or.inl ⟨by rfl, ?_⟩) S0 ?_
     rotate_left
     ·intro u hu
      obtain ⟨p0, p1⟩ := two_cells hu
      go_simp
      try rfl
     try simp only [Act.put, List.setIfInBounds_toArray, List.set_cons_zero, List.set_cons_succ, List.getElem_toArray, List.getElem_cons_zero, List.getElem_cons_succ]
     refine wpAnyH_take (i := 6) (v := ?_) rfl (by kernel_rfl) (by kernel_rfl) (by kernel_rfl) (fun _ _ _ h => h) (Or.inl ⟨by rfl, ?_⟩) S0 ?_
     rotate_left
     ·intro u hu
      go_simp
      try rfl
     try simp only [Act.put, List.setIfInBounds_toArray, List.set_cons_zero, List.set_cons_succ, List.getElem_toArray, List.getElem_cons_zero, List.getElem_cons_succ]
     refine wpAnyH_take (i := 7) (v := ?_) rfl (by kernel_rfl) (by kernel_rfl) (by kernel_rfl) (fun _ _ _ h => h) (Or.inl ⟨by rfl, ?_⟩) S0 ?_
     rotate_left
     ·intro u hu
      go_simp
      try rfl
     try simp only [Act.put, List.setIfInBounds_toArray, List.set_cons_zero, List.set_cons_succ, List.getElem_toArray, List.getElem_cons_zero, List.getElem_cons_succ]
     refine wpAnyH_take (i := 8) (v := ?_) rfl (by kernel_rfl) (by kernel_rfl) (by kernel_rfl) (fun _ _ _ h => h) (Or.inl ⟨by rfl, ?_⟩) S0 ?_
     rotate_left
     ·intro u hu
      go_simp
      try rfl
     try simp only [Act.put, List.setIfInBounds_toArray, List.set_cons_zero, List.set_cons_succ, List.getElem_toArray, List.getElem_cons_zero, List.getElem_cons_succ]
     refine anyH_one9 (i := 5) (by kernel_rfl) rfl (fun K hK => ?_)
     have hbs := buildSlL9 x wz.drew
     go_simp
     clear hbs
     have S1 := blk_alloc S0 (.cells #[.int .u64 (x.id : Int), .string (str x.name)] 49)
     refine hK _ _ S1 ?_
     clear hK K S0
     have S0 := S1
     clear S1
     try simp only [Act.put, List.setIfInBounds_toArray, List.set_cons_zero, List.set_cons_succ, List.getElem_toArray, List.getElem_cons_zero, List.getElem_cons_succ]
     obtain ⟨u5, hu5⟩ : ∃ u, (wz.alloc (.cells #[.int .u64 (x.id : Int), .string (str x.name)] 49)).drew = u := ⟨_, rfl⟩
     rw [hu5]
     clear S0
     have S0 : u5.heap[w.heap.size]? = some (.cells #[.int .u64 (x.id : Int), .string (str x.name)] 49 (0, 0)) := by rw [← hu5]; exact blk_alloc PZ.out _
     have OW5 : u5.ownsRow wz.heap.size 49 2 (.slice (some ⟨wz.heap.size, 0, none⟩) 1 1) 1 (encL x) := by
      have o5 := own_one (w := wz) (e := 49) (xs := encL x) rfl (rfl : (encL x).length = 2)
      rw [← hu5]
      exact o5
     have B5 : Below wz.heap.size wz u5 := by rw [← hu5]; exact ((Below.refl wz.heap.size wz).alloc (Nat.le_refl _) _).drew
     have L5 : Lies u5 u5.heap.size 0 (if c = k then some ad else (some ad).map (·.add (k * 2))) (lcells (ls.drop k)) := by
      rw [← lcells_drop]
      exact ((Lies.stay LZ.out B5).cutS 2 k c (by decide) (by rw [lcells_len, ← HN.out]; exact Nat.mul_le_mul_right _ HC.out))
     have hlen5 : (lcells (ls.drop k)).length = (n - k) * 2 := by rw [lcells_len, List.length_drop, ← HN.out]; first | done | omega
     have hone5 : ∀ v ∈ (lcells (ls.drop k)), v.oneCell' = true := lcells_one _
     have ob5 : ∀ q, (Value.slice (some ⟨wz.heap.size, 0, none⟩) 1 1).ownBlock = some q → wz.heap.size ≤ q := fun q e => by injection e with e; rw [← e]; exact Nat.le_refl _
     refine anyH_one9 (i := 9) (by kernel_rfl) rfl (fun K hK => ?_)
     refine step_own rfl _ _ 22 rfl wz.heap.size 49 i0 _ 2 24 Try.underlying22 hi hz0 hz1 hz2 rfl (by decide) _ 1 (encL x) rfl OW5 u5.heap.size _ (n - k) (c - k) (lcells (ls.drop k)) 0 rfl hlen5 L5 hone5 (by unfold maxLen; omega) (by omega) B5.size ?_
     intro v6 w6 hown6 hgrow6 hor6
     obtain ⟨A6, k6, rfl⟩ := own_slice hown6
     obtain ⟨a6, hA6, _, hc6⟩ := (lies_own (B := 0) hown6) (by simp [encL])
     subst hA6
     have B6 : Below wz.heap.size wz w6 := B5.grown hgrow6 B5.size ob5
     have S1 : w6.heap[w.heap.size]? = some (.cells #[.int .u64 (x.id : Int), .string (str x.name)] 49 (0, 0)) := (B6.block _ (lt_of_block PZ.out)).trans PZ.out
     refine hK _ _ S1 ?_
     clear hgrow6 hor6 L5 hlen5 hone5 ob5 B5 OW5
     clear hK K S0
     have S0 := S1
     clear S1
     try simp only [Act.put, List.setIfInBounds_toArray, List.set_cons_zero, List.set_cons_succ, List.getElem_toArray, List.getElem_cons_zero, List.getElem_cons_succ]
     have L6 : Lies w6 w6.heap.size 0 (some ad) (lcells (ls.take k)) := by
      rw [← lcells_take]
      exact (Lies.stay LZ.out B6).take _
     have hlen6 : (lcells (ls.take k)).length = k * 2 := by rw [lcells_len, List.length_take, ← HN.out, Nat.min_eq_left (by omega)]
     refine anyH_one9 (i := 10) (by kernel_rfl) rfl (fun K hK => ?_)
     refine step_new rfl _ _ 22 rfl wz.heap.size 49 i0 _ 2 24 Try.underlying22 hi hz0 hz1 hz2 rfl w6.heap.size 0 (some ad) k (lcells (ls.take k)) rfl hlen6 L6 (by intro z; first | rfl | cases z) a6 (1 + (n - k)) k6 (encL x ++ (lcells (ls.drop k))) rfl hown6.1 hc6 (own_ones (encL_one x) (lcells_one _)) (by omega) (by unfold maxLen; omega) (by omega) B6.size ?_
     intro v7 w7 hown7 hgrow7 hblk7
     obtain ⟨A7, k7, rfl⟩ := own_slice hown7
     have B7 : Below wz.heap.size wz w7 := B6.grown hgrow7 B6.size (fun q e => by cases e)
     have S1 : w7.heap[w.heap.size]? = some (.cells #[.int .u64 (x.id : Int), .string (str x.name)] 49 (0, 0)) := (B7.block _ (lt_of_block PZ.out)).trans PZ.out
     refine hK _ _ S1 ?_
     clear hgrow7 L6 hlen6
     clear hK K S0
     have S0 := S1
     clear S1
     try simp only [Act.put, List.setIfInBounds_toArray, List.set_cons_zero, List.set_cons_succ, List.getElem_toArray, List.getElem_cons_zero, List.getElem_cons_succ]
     refine wpAnyH_take (i := 11) (v := ?_) rfl (by kernel_rfl) (by kernel_rfl) (by kernel_rfl) (fun _ _ _ h => h) (Or.inl ⟨by rfl, ?_⟩) S0 ?_
     rotate_left
     ·intro u hu
      go_simp
      try rfl
     try simp only [Act.put, List.setIfInBounds_toArray, List.set_cons_zero, List.set_cons_succ, List.getElem_toArray, List.getElem_cons_zero, List.getElem_cons_succ]
     refine wpAnyH_done (by kernel_rfl) ?_ _
     clear S0
     have HO7 := Lib.hid hown7
     have HB7 := Lib.hid B7
     have HK7 := Lib.hid hblk7
     clear hown7 B7 hblk7 hown6 hc6 B6
     generalize (if c = k then some ad else some (ad.add (k * 2))) = A8
     go_wp2
     go_ret
     have ENDL : (ls.take k ++ x :: ls.drop k).length = k + (1 + (n - k)) := by rw [List.length_append, List.length_cons, List.length_take, List.length_drop, ← HN.out, Nat.min_eq_left (by omega)]; omega
     have CELLS : lcells (ls.take k ++ x :: ls.drop k) = (lcells (ls.take k)) ++ (encL x ++ (lcells (ls.drop k))) := by simp [lcells]
     refine ⟨A7, k7, (by rw [IN.out, ENDL]; rfl), ?_, (by rw [IN.out, ENDL]; exact (own_room HO7.out).2), (fun z => by subst z; cases HK7.out), BZ.out.trans (HB7.out.mono BZ.out.size)⟩
     ·rw [IN.out, CELLS]
      exact lies_own (B := 0) HO7.out

  ·obtain rfl : k = n := by omega
   have hltz : ¬ ((k : Int) < (k : Int)) := by omega
   have IN : Hid (Sr.ins T9.ltL x ls = ls.take k ++ x :: ls.drop k) := Lib.hid (Sr.ins_new HI.out fun y hy => by
    have := (List.getElem?_eq_some_iff.1 hy).1
    have := HN.out
    omega)
   cases A with
   | none =>
    obtain rfl : c = 0 := HZ.out rfl
    obtain rfl : k = 0 := by omega
    obtain rfl : ls = [] := List.eq_nil_of_length_eq_zero HN.out.symm
    go_wp2_with fail
    go_region
    go_wp2_with fail
    go_region
    go_wp2_with fail
    obtain ⟨wz, hwz⟩ : ∃ u, wr.drew.drew = u := ⟨_, rfl⟩
    rw [hwz]
    have BZ : Hid (Below w.heap.size w wz) := Lib.hid (by rw [← hwz]; exact BW.out.drew.drew)
    have PZ : Hid (wz.heap[w.heap.size]? = some (.cells #[.int .u64 (x.id : Int), .string (str x.name)] 49 (0, 0))) := Lib.hid (by rw [← hwz]; exact PR.out)
    have LZ := Lib.hid (HL.out.stay BZ.out)
    obtain ⟨i0, hi, hz0, hz1, hz2⟩ := info_parts Try.infoLi9
    refine wp_region_held_drew (S := fun u => u.heap[w.heap.size]? = some (.cells #[.int .u64 (x.id : Int), .string (str x.name)] 49 (0, 0))) (by kernel_rfl) (PZ.out) (fun S0 => ?_)
    refine wpAnyH_take (i := 0) (v := ?_) rfl (by kernel_rfl) (by kernel_rfl) (by kernel_rfl) (fun _ _ _ h => h) (Or.inl ⟨by rfl, ?_⟩) S0 ?_
    rotate_left
    ·intro u hu
     go_simp
     try rfl
    try simp only [Act.put, List.setIfInBounds_toArray, List.set_cons_zero, List.set_cons_succ, List.getElem_toArray, List.getElem_cons_zero, List.getElem_cons_succ]
    refine wpAnyH_take (i := 1) (v := ?_) rfl (by kernel_rfl) (by kernel_rfl) (by kernel_rfl) (fun _ _ _ h => h) (Or.inl ⟨by rfl, ?_⟩) S0 ?_
    rotate_left
    ·intro u hu
     go_simp
     try rfl
    try simp only [Act.put, List.setIfInBounds_toArray, List.set_cons_zero, List.set_cons_succ, List.getElem_toArray, List.getElem_cons_zero, List.getElem_cons_succ]
    refine wpAnyH_take (i := 2) (v := ?_) rfl (by kernel_rfl) (by kernel_rfl) (by kernel_rfl) (fun _ _ _ h => h) (Or.inl ⟨by rfl, ?_⟩) S0 ?_
    rotate_left
    ·intro u hu
     go_simp
     try rfl
    try simp only [Act.put, List.setIfInBounds_toArray, List.set_cons_zero, List.set_cons_succ, List.getElem_toArray, List.getElem_cons_zero, List.getElem_cons_succ]
    refine wpAnyH_take (i := 3) (v := ?_) rfl (by kernel_rfl) (by kernel_rfl) (by kernel_rfl) (fun _ _ _ h => h) (Or.inl ⟨by rfl, ?_⟩) S0 ?_
    rotate_left
    ·intro u hu
     go_simp
     try rfl
    try simp only [Act.put, List.setIfInBounds_toArray, List.set_cons_zero, List.set_cons_succ, List.getElem_toArray, List.getElem_cons_zero, List.getElem_cons_succ]
    refine wpAnyH_take (i := 4) (v := ?_) rfl (by kernel_rfl) (by kernel_rfl) (by kernel_rfl) (fun _ _ _ h => h) (Or.inl ⟨by rfl, ?_⟩) S0 ?_
    rotate_left
    ·intro u hu
     obtain ⟨p0, p1⟩ := two_cells hu
     go_simp
     try rfl
    try simp only [Act.put, List.setIfInBounds_toArray, List.set_cons_zero, List.set_cons_succ, List.getElem_toArray, List.getElem_cons_zero, List.getElem_cons_succ]
    refine wpAnyH_take (i := 6) (v := ?_) rfl (by kernel_rfl) (by kernel_rfl) (by kernel_rfl) (fun _ _ _ h => h) (Or.inl ⟨by rfl, ?_⟩) S0 ?_
    rotate_left
    ·intro u hu
     go_simp
     try rfl
    try simp only [Act.put, List.setIfInBounds_toArray, List.set_cons_zero, List.set_cons_succ, List.getElem_toArray, List.getElem_cons_zero, List.getElem_cons_succ]
    refine wpAnyH_take (i := 7) (v := ?_) rfl (by kernel_rfl) (by kernel_rfl) (by kernel_rfl) (fun _ _ _ h => h) (Or.inl ⟨by rfl, ?_⟩) S0 ?_
    rotate_left
    ·intro u hu
     go_simp
     try rfl
    try simp only [Act.put, List.setIfInBounds_toArray, List.set_cons_zero, List.set_cons_succ, List.getElem_toArray, List.getElem_cons_zero, List.getElem_cons_succ]
    refine wpAnyH_take (i := 8) (v := ?_) rfl (by kernel_rfl) (by kernel_rfl) (by kernel_rfl) (fun _ _ _ h => h) (Or.inl ⟨by rfl, ?_⟩) S0 ?_
    rotate_left
    ·intro u hu
     go_simp
     try rfl
    try simp only [Act.put, List.setIfInBounds_toArray, List.set_cons_zero, List.set_cons_succ, List.getElem_toArray, List.getElem_cons_zero, List.getElem_cons_succ]
    refine anyH_one9 (i := 5) (by kernel_rfl) rfl (fun K hK => ?_)
    have hbs := buildSlL9 x wz.drew
    go_simp
    clear hbs
    have S1 := blk_alloc S0 (.cells #[.int .u64 (x.id : Int), .string (str x.name)] 49)
    refine hK _ _ S1 ?_
    clear hK K S0
    have S0 := S1
    clear S1
    try simp only [Act.put, List.setIfInBounds_toArray, List.set_cons_zero, List.set_cons_succ, List.getElem_toArray, List.getElem_cons_zero, List.getElem_cons_succ]
    obtain ⟨u5, hu5⟩ : ∃ u, (wz.alloc (.cells #[.int .u64 (x.id : Int), .string (str x.name)] 49)).drew = u := ⟨_, rfl⟩
    rw [hu5]
    clear S0
    have S0 : u5.heap[w.heap.size]? = some (.cells #[.int .u64 (x.id : Int), .string (str x.name)] 49 (0, 0)) := by rw [← hu5]; exact blk_alloc PZ.out _
    have OW5 : u5.ownsRow wz.heap.size 49 2 (.slice (some ⟨wz.heap.size, 0, none⟩) 1 1) 1 (encL x) := by
     have o5 := own_one (w := wz) (e := 49) (xs := encL x) rfl (rfl : (encL x).length = 2)
     rw [← hu5]
     exact o5
    have B5 : Below wz.heap.size wz u5 := by rw [← hu5]; exact ((Below.refl wz.heap.size wz).alloc (Nat.le_refl _) _).drew
    have L5 : Lies u5 u5.heap.size 0 none ([] : List Value) := Lies.nil
    have hlen5 : ([] : List Value).length = 0 * 2 := by rfl
    have hone5 : ∀ v ∈ ([] : List Value), v.oneCell' = true := by simp
    have ob5 : ∀ q, (Value.slice (some ⟨wz.heap.size, 0, none⟩) 1 1).ownBlock = some q → wz.heap.size ≤ q := fun q e => by injection e with e; rw [← e]; exact Nat.le_refl _
    refine anyH_one9 (i := 9) (by kernel_rfl) rfl (fun K hK => ?_)
    refine step_own rfl _ _ 22 rfl wz.heap.size 49 i0 _ 2 24 Try.underlying22 hi hz0 hz1 hz2 rfl (by decide) _ 1 (encL x) rfl OW5 u5.heap.size _ 0 0 ([] : List Value) 0 rfl hlen5 L5 hone5 (by unfold maxLen; omega) (by omega) B5.size ?_
    intro v6 w6 hown6 hgrow6 hor6
    obtain ⟨A6, k6, rfl⟩ := own_slice hown6
    obtain ⟨a6, hA6, _, hc6⟩ := (lies_own (B := 0) hown6) (by simp [encL])
    subst hA6
    have B6 : Below wz.heap.size wz w6 := B5.grown hgrow6 B5.size ob5
    have S1 : w6.heap[w.heap.size]? = some (.cells #[.int .u64 (x.id : Int), .string (str x.name)] 49 (0, 0)) := (B6.block _ (lt_of_block PZ.out)).trans PZ.out
    refine hK _ _ S1 ?_
    clear hgrow6 hor6 L5 hlen5 hone5 ob5 B5 OW5
    clear hK K S0
    have S0 := S1
    clear S1
    try simp only [Act.put, List.setIfInBounds_toArray, List.set_cons_zero, List.set_cons_succ, List.getElem_toArray, List.getElem_cons_zero, List.getElem_cons_succ]
    have L6 : Lies w6 w6.heap.size 0 none ([] : List Value) := Lies.nil
    have hlen6 : ([] : List Value).length = 0 * 2 := by rfl
    refine anyH_one9 (i := 10) (by kernel_rfl) rfl (fun K hK => ?_)
    refine step_new rfl _ _ 22 rfl wz.heap.size 49 i0 _ 2 24 Try.underlying22 hi hz0 hz1 hz2 rfl w6.heap.size 0 none 0 ([] : List Value) rfl hlen6 L6 (by intro z; first | rfl | cases z) a6 (1 + 0) k6 (encL x ++ ([] : List Value)) rfl hown6.1 hc6 (own_ones (encL_one x) (by simp)) (by omega) (by unfold maxLen; omega) (by omega) B6.size ?_
    intro v7 w7 hown7 hgrow7 hblk7
    obtain ⟨A7, k7, rfl⟩ := own_slice hown7
    have B7 : Below wz.heap.size wz w7 := B6.grown hgrow7 B6.size (fun q e => by cases e)
    have S1 : w7.heap[w.heap.size]? = some (.cells #[.int .u64 (x.id : Int), .string (str x.name)] 49 (0, 0)) := (B7.block _ (lt_of_block PZ.out)).trans PZ.out
    refine hK _ _ S1 ?_
    clear hgrow7 L6 hlen6
    clear hK K S0
    have S0 := S1
    clear S1
    try simp only [Act.put, List.setIfInBounds_toArray, List.set_cons_zero, List.set_cons_succ, List.getElem_toArray, List.getElem_cons_zero, List.getElem_cons_succ]
    refine wpAnyH_take (i := 11) (v := ?_) rfl (by kernel_rfl) (by kernel_rfl) (by kernel_rfl) (fun _ _ _ h => h) (Or.inl ⟨by rfl, ?_⟩) S0 ?_
    rotate_left
    ·intro u hu
     go_simp
     try rfl
    try simp only [Act.put, List.setIfInBounds_toArray, List.set_cons_zero, List.set_cons_succ, List.getElem_toArray, List.getElem_cons_zero, List.getElem_cons_succ]
    refine wpAnyH_done (by kernel_rfl) ?_ _
    clear S0
    have HO7 := Lib.hid hown7
    have HB7 := Lib.hid B7
    have HK7 := Lib.hid hblk7
    clear hown7 B7 hblk7 hown6 hc6 B6
    go_wp2
    go_ret
    have ENDL : (List.take 0 [] ++ x :: List.drop 0 []).length = 0 + (1 + 0) := by rfl
    have CELLS : lcells (List.take 0 [] ++ x :: List.drop 0 []) = ([] : List Value) ++ (encL x ++ ([] : List Value)) := by simp [lcells]
    refine ⟨A7, k7, (by rw [IN.out, ENDL]; rfl), ?_, (by rw [IN.out, ENDL]; exact (own_room HO7.out).2), (fun z => by subst z; cases HK7.out), BZ.out.trans (HB7.out.mono BZ.out.size)⟩
    ·rw [IN.out, CELLS]
     exact lies_own (B := 0) HO7.out

   | some ad =>
    have k0 : (0 : Int) ≤ (k : Int) := by omega
    have kci : (k : Int) ≤ (c : Int) := by omega
    have kk : k ≤ k := Nat.le_refl _
    obtain ⟨n, hnk⟩ : ∃ n, n = k := ⟨_, rfl⟩
    go_wp2_with fail
    go_region
    go_wp2_with fail
    go_region
    go_wp2_with fail
    obtain ⟨wz, hwz⟩ : ∃ u, wr.drew.drew = u := ⟨_, rfl⟩
    rw [hwz]
    have BZ : Hid (Below w.heap.size w wz) := Lib.hid (by rw [← hwz]; exact BW.out.drew.drew)
    have PZ : Hid (wz.heap[w.heap.size]? = some (.cells #[.int .u64 (x.id : Int), .string (str x.name)] 49 (0, 0))) := Lib.hid (by rw [← hwz]; exact PR.out)
    have LZ := Lib.hid (HL.out.stay BZ.out)
    obtain ⟨i0, hi, hz0, hz1, hz2⟩ := info_parts Try.infoLi9
    refine wp_region_held_drew (S := fun u => u.heap[w.heap.size]? = some (.cells #[.int .u64 (x.id : Int), .string (str x.name)] 49 (0, 0))) (by kernel_rfl) (PZ.out) (fun S0 => ?_)
    refine wpAnyH_take (i := 0) (v := ?_) rfl (by kernel_rfl) (by kernel_rfl) (by kernel_rfl) (fun _ _ _ h => h) (Or.inl ⟨by rfl, ?_⟩) S0 ?_
    rotate_left
    ·intro u hu
     go_simp
     try rfl
    try simp only [Act.put, List.setIfInBounds_toArray, List.set_cons_zero, List.set_cons_succ, List.getElem_toArray, List.getElem_cons_zero, List.getElem_cons_succ]
    refine wpAnyH_take (i := 1) (v := ?_) rfl (by kernel_rfl) (by kernel_rfl) (by kernel_rfl) (fun _ _ _ h => h) (Or.inl ⟨by rfl, ?_⟩) S0 ?_
    rotate_left
    ·intro u hu
     go_simp
     try rfl
    try simp only [Act.put, List.setIfInBounds_toArray, List.set_cons_zero, List.set_cons_succ, List.getElem_toArray, List.getElem_cons_zero, List.getElem_cons_succ]
    refine wpAnyH_take (i := 2) (v := ?_) rfl (by kernel_rfl) (by kernel_rfl) (by kernel_rfl) (fun _ _ _ h => h) (Or.inl ⟨by rfl, ?_⟩) S0 ?_
    rotate_left
    ·intro u hu
     go_simp
     try rfl
    try simp only [Act.put, List.setIfInBounds_toArray, List.set_cons_zero, List.set_cons_succ, List.getElem_toArray, List.getElem_cons_zero, List.getElem_cons_succ]
    refine wpAnyH_take (i := 3) (v := ?_) rfl (by kernel_rfl) (by kernel_rfl) (by kernel_rfl) (fun _ _ _ h => h) (Or.inl ⟨by rfl, ?_⟩) S0 ?_
    rotate_left
    ·intro u hu
     go_simp
     try rfl
    try simp only [Act.put, List.setIfInBounds_toArray, List.set_cons_zero, List.set_cons_succ, List.getElem_toArray, List.getElem_cons_zero, List.getElem_cons_succ]
    refine wpAnyH_take (i := 4) (v := ?_) rfl (by kernel_rfl) (by kernel_rfl) (by kernel_rfl) (fun _ _ _ h => h) (Or.inl ⟨by rfl, ?_⟩) S0 ?_
    rotate_left
    ·intro u hu
     obtain ⟨p0, p1⟩ := two_cells hu
     go_simp
     try rfl
    try simp only [Act.put, List.setIfInBounds_toArray, List.set_cons_zero, List.set_cons_succ, List.getElem_toArray, List.getElem_cons_zero, List.getElem_cons_succ]
    refine wpAnyH_take (i := 6) (v := ?_) rfl (by kernel_rfl) (by kernel_rfl) (by kernel_rfl) (fun _ _ _ h => h) (Or.inl ⟨by rfl, ?_⟩) S0 ?_
    rotate_left
    ·intro u hu
     go_simp
     try rfl
    try simp only [Act.put, List.setIfInBounds_toArray, List.set_cons_zero, List.set_cons_succ, List.getElem_toArray, List.getElem_cons_zero, List.getElem_cons_succ]
    refine wpAnyH_take (i := 7) (v := ?_) rfl (by kernel_rfl) (by kernel_rfl) (by kernel_rfl) (fun _ _ _ h => h) (Or.inl ⟨by rfl, ?_⟩) S0 ?_
    rotate_left
    ·intro u hu
     go_simp
     try rfl
    try simp only [Act.put, List.setIfInBounds_toArray, List.set_cons_zero, List.set_cons_succ, List.getElem_toArray, List.getElem_cons_zero, List.getElem_cons_succ]
    refine wpAnyH_take (i := 8) (v := ?_) rfl (by kernel_rfl) (by kernel_rfl) (by kernel_rfl) (fun _ _ _ h => h) (Or.inl ⟨by rfl, ?_⟩) S0 ?_
    rotate_left
    ·intro u hu
     go_simp
     try rfl
    try simp only [Act.put, List.setIfInBounds_toArray, List.set_cons_zero, List.set_cons_succ, List.getElem_toArray, List.getElem_cons_zero, List.getElem_cons_succ]
    refine anyH_one9 (i := 5) (by kernel_rfl) rfl (fun K hK => ?_)
    have hbs := buildSlL9 x wz.drew
    go_simp
    clear hbs
    have S1 := blk_alloc S0 (.cells #[.int .u64 (x.id : Int), .string (str x.name)] 49)
    refine hK _ _ S1 ?_
    clear hK K S0
    have S0 := S1
    clear S1
    try simp only [Act.put, List.setIfInBounds_toArray, List.set_cons_zero, List.set_cons_succ, List.getElem_toArray, List.getElem_cons_zero, List.getElem_cons_succ]
    obtain ⟨u5, hu5⟩ : ∃ u, (wz.alloc (.cells #[.int .u64 (x.id : Int), .string (str x.name)] 49)).drew = u := ⟨_, rfl⟩
    rw [hu5]
    clear S0
    have S0 : u5.heap[w.heap.size]? = some (.cells #[.int .u64 (x.id : Int), .string (str x.name)] 49 (0, 0)) := by rw [← hu5]; exact blk_alloc PZ.out _
    have OW5 : u5.ownsRow wz.heap.size 49 2 (.slice (some ⟨wz.heap.size, 0, none⟩) 1 1) 1 (encL x) := by
     have o5 := own_one (w := wz) (e := 49) (xs := encL x) rfl (rfl : (encL x).length = 2)
     rw [← hu5]
     exact o5
    have B5 : Below wz.heap.size wz u5 := by rw [← hu5]; exact ((Below.refl wz.heap.size wz).alloc (Nat.le_refl _) _).drew
    have L5 : Lies u5 u5.heap.size 0 (if c = k then some ad else (some ad).map (·.add (k * 2))) (lcells (ls.drop k)) := by
     rw [← lcells_drop]
     exact ((Lies.stay LZ.out B5).cutS 2 k c (by decide) (by rw [lcells_len, ← HN.out]; exact Nat.mul_le_mul_right _ HC.out))
    have hlen5 : (lcells (ls.drop k)).length = 0 * 2 := by rw [lcells_len, List.length_drop, ← HN.out]; first | done | omega
    have hone5 : ∀ v ∈ (lcells (ls.drop k)), v.oneCell' = true := lcells_one _
    have ob5 : ∀ q, (Value.slice (some ⟨wz.heap.size, 0, none⟩) 1 1).ownBlock = some q → wz.heap.size ≤ q := fun q e => by injection e with e; rw [← e]; exact Nat.le_refl _
    refine anyH_one9 (i := 9) (by kernel_rfl) rfl (fun K hK => ?_)
    refine step_own rfl _ _ 22 rfl wz.heap.size 49 i0 _ 2 24 Try.underlying22 hi hz0 hz1 hz2 rfl (by decide) _ 1 (encL x) rfl OW5 u5.heap.size _ 0 (c - k) (lcells (ls.drop k)) 0 rfl hlen5 L5 hone5 (by unfold maxLen; omega) (by omega) B5.size ?_
    intro v6 w6 hown6 hgrow6 hor6
    obtain ⟨A6, k6, rfl⟩ := own_slice hown6
    obtain ⟨a6, hA6, _, hc6⟩ := (lies_own (B := 0) hown6) (by simp [encL])
    subst hA6
    have B6 : Below wz.heap.size wz w6 := B5.grown hgrow6 B5.size ob5
    have S1 : w6.heap[w.heap.size]? = some (.cells #[.int .u64 (x.id : Int), .string (str x.name)] 49 (0, 0)) := (B6.block _ (lt_of_block PZ.out)).trans PZ.out
    refine hK _ _ S1 ?_
    clear hgrow6 hor6 L5 hlen5 hone5 ob5 B5 OW5
    clear hK K S0
    have S0 := S1
    clear S1
    try simp only [Act.put, List.setIfInBounds_toArray, List.set_cons_zero, List.set_cons_succ, List.getElem_toArray, List.getElem_cons_zero, List.getElem_cons_succ]
    have L6 : Lies w6 w6.heap.size 0 (some ad) (lcells (ls.take k)) := by
     rw [← lcells_take]
     exact (Lies.stay LZ.out B6).take _
    have hlen6 : (lcells (ls.take k)).length = k * 2 := by rw [lcells_len, List.length_take, ← HN.out, Nat.min_eq_left (by omega)]
    refine anyH_one9 (i := 10) (by kernel_rfl) rfl (fun K hK => ?_)
    refine step_new rfl _ _ 22 rfl wz.heap.size 49 i0 _ 2 24 Try.underlying22 hi hz0 hz1 hz2 rfl w6.heap.size 0 (some ad) k (lcells (ls.take k)) rfl hlen6 L6 (by intro z; first | rfl | cases z) a6 (1 + 0) k6 (encL x ++ (lcells (ls.drop k))) rfl hown6.1 hc6 (own_ones (encL_one x) (lcells_one _)) (by omega) (by unfold maxLen; omega) (by omega) B6.size ?_
    intro v7 w7 hown7 hgrow7 hblk7
    obtain ⟨A7, k7, rfl⟩ := own_slice hown7
    have B7 : Below wz.heap.size wz w7 := B6.grown hgrow7 B6.size (fun q e => by cases e)
    have S1 : w7.heap[w.heap.size]? = some (.cells #[.int .u64 (x.id : Int), .string (str x.name)] 49 (0, 0)) := (B7.block _ (lt_of_block PZ.out)).trans PZ.out
    refine hK _ _ S1 ?_
    clear hgrow7 L6 hlen6
    clear hK K S0
    have S0 := S1
    clear S1
    try simp only [Act.put, List.setIfInBounds_toArray, List.set_cons_zero, List.set_cons_succ, List.getElem_toArray, List.getElem_cons_zero, List.getElem_cons_succ]
    refine wpAnyH_take (i := 11) (v := ?_) rfl (by kernel_rfl) (by kernel_rfl) (by kernel_rfl) (fun _ _ _ h => h) (Or.inl ⟨by rfl, ?_⟩) S0 ?_
    rotate_left
    ·intro u hu
     go_simp
     try rfl
    try simp only [Act.put, List.setIfInBounds_toArray, List.set_cons_zero, List.set_cons_succ, List.getElem_toArray, List.getElem_cons_zero, List.getElem_cons_succ]
    refine wpAnyH_done (by kernel_rfl) ?_ _
    clear S0
    have HO7 := Lib.hid hown7
    have HB7 := Lib.hid B7
    have HK7 := Lib.hid hblk7
    clear hown7 B7 hblk7 hown6 hc6 B6
    generalize (if c = k then some ad else some (ad.add (k * 2))) = A8
    go_wp2
    go_ret
    have ENDL : (ls.take k ++ x :: ls.drop k).length = k + (1 + 0) := by rw [List.length_append, List.length_cons, List.length_take, List.length_drop, ← HN.out, Nat.min_eq_left (by omega)]; omega
    have CELLS : lcells (ls.take k ++ x :: ls.drop k) = (lcells (ls.take k)) ++ (encL x ++ (lcells (ls.drop k))) := by simp [lcells]
    refine ⟨A7, k7, (by rw [IN.out, ENDL]; rfl), ?_, (by rw [IN.out, ENDL]; exact (own_room HO7.out).2), (fun z => by subst z; cases HK7.out), BZ.out.trans (HB7.out.mono BZ.out.size)⟩
    ·rw [IN.out, CELLS]
     exact lies_own (B := 0) HO7.out


/-- The list in order with one thing more; all that there was is as it was. -/
def WKOk (ls : List MTk) (w : World) (e : Ending) (w' : World) : Prop := ∃ A c, e = .returned (.slice A ls.length c) ∧ Lies w' 0 32 A (tkcells ls) ∧ (∀ m ∈ ls, m.fineT w') ∧ ls.length ≤ c ∧ (A = none → c = 0) ∧ Below w.heap.size w w'

set_option linter.unusedSimpArgs false in
set_option maxHeartbeats 4000000 in
set_option maxRecDepth 100000 in
theorem withTask_c {A : Option Addr} {n c : Nat} {ls : List MTk} {x : MTk} {w : World} (h : Lies w 0 32 A (tkcells ls)) (ha : ∀ m ∈ ls, m.fineT w) (hf : x.fineT w) (hn : n = ls.length) (hc : n ≤ c) (hz : A = none → c = 0) (hs : n ≤ 1000) :
  Calls Try.prog 51 #[.slice A n c, .agg #[.int .u64 (x.t.id : Int), .int .u64 (x.t.list : Int), .string (str x.t.title), .bool x.t.done, .float .f64 x.t.rank, .float .f64 x.t.est, .slice x.A x.t.tags.length x.c]] w (WKOk (Sr.ins ltM x ls) w) := by
 have HT := Lib.hid h
 have HA := Lib.hid ha
 have HL : Hid (KL w A ls) := Lib.hid ⟨h.old, fun m hm => (ha m hm).fine⟩
 have HN := Lib.hid hn
 have HC := Lib.hid hc
 have HZ := Lib.hid hz
 have HF := Lib.hid hf
 obtain ⟨w1, hw1⟩ : ∃ u, w.alloc (.cells #[.int .u64 (x.t.id : Int), .int .u64 (x.t.list : Int), .string (str x.t.title), .bool x.t.done, .float .f64 x.t.rank, .float .f64 x.t.est, .slice x.A x.t.tags.length x.c] 32) = u := ⟨_, rfl⟩
 obtain ⟨pb, b1, z1⟩ := new_seven hw1
 have PB := Lib.hid pb
 have B1 := Lib.hid b1
 clear h hn pb b1 z1 hz hf ha
 go_enter Try.func51, Try.ntmps51
 go_wp2_with fail
 go_loopw [5] (fun s5 wr => ∃ k : Nat, s5 = .int .i64 k ∧ k ≤ n ∧ Aside (∀ y ∈ ls.take k, ltM y x = true) ∧ Aside (Below w1.heap.size w1 wr)) (fun s5 _ => n - (intOf s5).toNat)
 case atStart => exact ⟨0, rfl, Nat.zero_le _, (fun y hy => by simp at hy : ∀ y ∈ ls.take 0, ltM y x = true), Below.refl _ _⟩
 case round =>
  obtain ⟨k, rfl, hk, hI, hB⟩ := hrel
  have HI := Lib.hid hI.out
  have HB := Lib.hid hB.out
  clear hI hB
  have BW := Lib.hid (B1.out.trans (HB.out.mono B1.out.size))
  have PR := Lib.hid (blk_keep PB.out HB.out)
  obtain ⟨p0, p1, p2, p3, p4, p5, p6⟩ := seven_cells PR.out
  have LW := Lib.hid (HL.out.stay BW.out)
  by_cases hlt : k < n
  ·have hltz : (k : Int) < (n : Int) := by omega
   have k0 : (0 : Int) ≤ (k : Int) := by omega
   have kc : k ≤ c := by omega
   have kci : (k : Int) ≤ (c : Int) := by omega
   have nci : (n : Int) ≤ (c : Int) := by omega
   have kni : (k : Int) ≤ (n : Int) := by omega
   have kn : k ≤ n := by omega
   obtain ⟨ad, l, hA, hx, _, r0, r1, r2, r3, r4, r5, r6⟩ := LW.out.at_ (k := k) (by rw [← HN.out]; exact hlt)
   subst hA
   have X := Lib.hid hx
   clear hx
   by_cases q : l.t.id < x.t.id
   ·have q1 : decide ((l.t.id : Int) < (x.t.id : Int)) = true := decide_eq_true (by omega)
    have q1n : decide (l.t.id < x.t.id) = true := decide_eq_true q
    have QX : Hid (ltM l x = true) := Lib.hid (decide_eq_true q)
    clear q
    go_wp2_with fail
    go_region
    go_wp2
    go_roundw
    case rel =>
     refine ⟨k + 1, by go_num, by omega, ?_, HB.out.drew⟩
     intro y hy
     rw [take_nxt X.out] at hy
     rcases List.mem_append.1 hy with h | h
     ·exact HI.out y h
     ·simp only [List.mem_cons, List.not_mem_nil, or_false] at h
      subst h
      exact QX.out
    case measure => simp [intOf]; omega
   ·have q1 : decide ((l.t.id : Int) < (x.t.id : Int)) = false := decide_eq_false (by omega)
    have q1n : decide (l.t.id < x.t.id) = false := decide_eq_false q
    have qz : ¬ ((l.t.id : Int) < (x.t.id : Int)) := by omega
    have QN : Hid (ltM l x = false) := Lib.hid (decide_eq_false q)
    by_cases e : l.t.id = x.t.id
    ·have e1 : ((l.t.id : Int) == (x.t.id : Int)) = true := by rw [e]; exact beq_self_eq_true _
     have e1n : (l.t.id == x.t.id) = true := by rw [e]; exact beq_self_eq_true _
     have e1d : decide (l.t.id = x.t.id) = true := decide_eq_true e
     have IO : Hid (Sr.ins ltM x ls = ls) := Lib.hid (Sr.ins_old HI.out X.out QN.out (decide_eq_false (by omega)))
     clear q e
     go_wp2_with fail
     go_region
     go_wp2_with fail
     go_region
     go_wp2
     go_ret
     exact ⟨some ad, c, (by rw [IO.out, ← HN.out]; rfl), (by rw [IO.out]; exact lies_keep HT.out BW.out.drew.drew), (by rw [IO.out]; exact fun m hm => (HA.out m hm).stay BW.out.drew.drew), (by rw [IO.out, ← HN.out]; exact HC.out), (fun z => by cases z), BW.out.drew.drew⟩
    ·have e1 : ((l.t.id : Int) == (x.t.id : Int)) = false := by rw [beq_eq_false_iff_ne]; omega
     have e1n : (l.t.id == x.t.id) = false := by rw [beq_eq_false_iff_ne]; exact e
     have e1d : decide (l.t.id = x.t.id) = false := decide_eq_false e
     have IN : Hid (Sr.ins ltM x ls = ls.take k ++ x :: ls.drop k) := Lib.hid (Sr.ins_new HI.out fun y hy => by
      rw [X.out] at hy
      injection hy with hy
      subst hy
      exact ⟨QN.out, decide_eq_true (by omega)⟩)
     clear q e
     go_wp2_with fail
     go_region
     go_wp2_with fail
     go_region
     go_wp2_with fail
     obtain ⟨wz, hwz⟩ : ∃ u, wr.drew.drew = u := ⟨_, rfl⟩
     rw [hwz]
     have BZ : Hid (Below w.heap.size w wz) := Lib.hid (by rw [← hwz]; exact BW.out.drew.drew)
     have PZ : Hid (wz.heap[w.heap.size]? = some (.cells #[.int .u64 (x.t.id : Int), .int .u64 (x.t.list : Int), .string (str x.t.title), .bool x.t.done, .float .f64 x.t.rank, .float .f64 x.t.est, .slice x.A x.t.tags.length x.c] 32 (0, 0))) := Lib.hid (by rw [← hwz]; exact PR.out)
     have LZ := Lib.hid (HL.out.stay BZ.out)
     obtain ⟨i0, hi, hz0, hz1, hz2⟩ := info_parts Try.infoTk9
     refine wp_region_held_drew (S := fun u => u.heap[w.heap.size]? = some (.cells #[.int .u64 (x.t.id : Int), .int .u64 (x.t.list : Int), .string (str x.t.title), .bool x.t.done, .float .f64 x.t.rank, .float .f64 x.t.est, .slice x.A x.t.tags.length x.c] 32 (0, 0))) (by kernel_rfl) (PZ.out) (fun S0 => ?_)
     refine wpAnyH_take (i := 0) (v := ?_) rfl (by kernel_rfl) (by kernel_rfl) (by kernel_rfl) (fun _ _ _ h => h) (Or.inl ⟨by rfl, ?_⟩) S0 ?_
     rotate_left
     ·intro u hu
      go_simp
      try rfl
     try simp only [Act.put, List.setIfInBounds_toArray, List.set_cons_zero, List.set_cons_succ, List.getElem_toArray, List.getElem_cons_zero, List.getElem_cons_succ]
     refine wpAnyH_take (i := 1) (v := ?_) rfl (by kernel_rfl) (by kernel_rfl) (by kernel_rfl) (fun _ _ _ h => h) (Or.inl ⟨by rfl, ?_⟩) S0 ?_
     rotate_left
     ·intro u hu
      go_simp
      try rfl
     try simp only [Act.put, List.setIfInBounds_toArray, List.set_cons_zero, List.set_cons_succ, List.getElem_toArray, List.getElem_cons_zero, List.getElem_cons_succ]
     refine wpAnyH_take (i := 2) (v := ?_) rfl (by kernel_rfl) (by kernel_rfl) (by kernel_rfl) (fun _ _ _ h => h) (Or.inl ⟨by rfl, ?_⟩) S0 ?_
     rotate_left
     ·intro u hu
      go_simp
      try rfl
     try simp only [Act.put, List.setIfInBounds_toArray, List.set_cons_zero, List.set_cons_succ, List.getElem_toArray, List.getElem_cons_zero, List.getElem_cons_succ]
     refine wpAnyH_take (i := 3) (v := ?_) rfl (by kernel_rfl) (by kernel_rfl) (by kernel_rfl) (fun _ _ _ h => h) (Or.inl ⟨by rfl, ?_⟩) S0 ?_
     rotate_left
     ·intro u hu
      go_simp
      try rfl
     try simp only [Act.put, List.setIfInBounds_toArray, List.set_cons_zero, List.set_cons_succ, List.getElem_toArray, List.getElem_cons_zero, List.getElem_cons_succ]
     refine wpAnyH_take (i := 4) (v := ?_) rfl (by kernel_rfl) (by kernel_rfl) (by kernel_rfl) (fun _ _ _ h => h) (Or.inl ⟨by rfl, ?_⟩) S0 ?_
     rotate_left
     ·intro u hu
      obtain ⟨p0, p1, p2, p3, p4, p5, p6⟩ := seven_cells hu
      go_simp
      try rfl
     try simp only [Act.put, List.setIfInBounds_toArray, List.set_cons_zero, List.set_cons_succ, List.getElem_toArray, List.getElem_cons_zero, List.getElem_cons_succ]
     refine wpAnyH_take (i := 6) (v := ?_) rfl (by kernel_rfl) (by kernel_rfl) (by kernel_rfl) (fun _ _ _ h => h) (Or.inl ⟨by rfl, ?_⟩) S0 ?_
     rotate_left
     ·intro u hu
      go_simp
      try rfl
     try simp only [Act.put, List.setIfInBounds_toArray, List.set_cons_zero, List.set_cons_succ, List.getElem_toArray, List.getElem_cons_zero, List.getElem_cons_succ]
     refine wpAnyH_take (i := 7) (v := ?_) rfl (by kernel_rfl) (by kernel_rfl) (by kernel_rfl) (fun _ _ _ h => h) (Or.inl ⟨by rfl, ?_⟩) S0 ?_
     rotate_left
     ·intro u hu
      go_simp
      try rfl
     try simp only [Act.put, List.setIfInBounds_toArray, List.set_cons_zero, List.set_cons_succ, List.getElem_toArray, List.getElem_cons_zero, List.getElem_cons_succ]
     refine wpAnyH_take (i := 8) (v := ?_) rfl (by kernel_rfl) (by kernel_rfl) (by kernel_rfl) (fun _ _ _ h => h) (Or.inl ⟨by rfl, ?_⟩) S0 ?_
     rotate_left
     ·intro u hu
      go_simp
      try rfl
     try simp only [Act.put, List.setIfInBounds_toArray, List.set_cons_zero, List.set_cons_succ, List.getElem_toArray, List.getElem_cons_zero, List.getElem_cons_succ]
     refine anyH_one9 (i := 5) (by kernel_rfl) rfl (fun K hK => ?_)
     have hbs := buildSlK9 x wz.drew
     go_simp
     clear hbs
     have S1 := blk_alloc S0 (.cells #[.int .u64 (x.t.id : Int), .int .u64 (x.t.list : Int), .string (str x.t.title), .bool x.t.done, .float .f64 x.t.rank, .float .f64 x.t.est, .slice x.A x.t.tags.length x.c] 32)
     refine hK _ _ S1 ?_
     clear hK K S0
     have S0 := S1
     clear S1
     try simp only [Act.put, List.setIfInBounds_toArray, List.set_cons_zero, List.set_cons_succ, List.getElem_toArray, List.getElem_cons_zero, List.getElem_cons_succ]
     obtain ⟨u5, hu5⟩ : ∃ u, (wz.alloc (.cells #[.int .u64 (x.t.id : Int), .int .u64 (x.t.list : Int), .string (str x.t.title), .bool x.t.done, .float .f64 x.t.rank, .float .f64 x.t.est, .slice x.A x.t.tags.length x.c] 32)).drew = u := ⟨_, rfl⟩
     rw [hu5]
     clear S0
     have S0 : u5.heap[w.heap.size]? = some (.cells #[.int .u64 (x.t.id : Int), .int .u64 (x.t.list : Int), .string (str x.t.title), .bool x.t.done, .float .f64 x.t.rank, .float .f64 x.t.est, .slice x.A x.t.tags.length x.c] 32 (0, 0)) := by rw [← hu5]; exact blk_alloc PZ.out _
     have OW5 : u5.ownsRow wz.heap.size 32 7 (.slice (some ⟨wz.heap.size, 0, none⟩) 1 1) 1 (encK x) := by
      have o5 := own_one (w := wz) (e := 32) (xs := encK x) rfl (rfl : (encK x).length = 7)
      rw [← hu5]
      exact o5
     have B5 : Below wz.heap.size wz u5 := by rw [← hu5]; exact ((Below.refl wz.heap.size wz).alloc (Nat.le_refl _) _).drew
     have L5 : Lies u5 u5.heap.size 0 (if c = k then some ad else (some ad).map (·.add (k * 7))) (tkcells (ls.drop k)) := by
      rw [← tkcells_drop]
      exact ((Lies.stay LZ.out.1 B5).cutS 7 k c (by decide) (by rw [tkcells_len, ← HN.out]; exact Nat.mul_le_mul_right _ HC.out))
     have hlen5 : (tkcells (ls.drop k)).length = (n - k) * 7 := by rw [tkcells_len, List.length_drop, ← HN.out]; first | done | omega
     have hone5 : ∀ v ∈ (tkcells (ls.drop k)), v.oneCell' = true := tkcells_one _
     have ob5 : ∀ q, (Value.slice (some ⟨wz.heap.size, 0, none⟩) 1 1).ownBlock = some q → wz.heap.size ≤ q := fun q e => by injection e with e; rw [← e]; exact Nat.le_refl _
     refine anyH_one9 (i := 9) (by kernel_rfl) rfl (fun K hK => ?_)
     refine step_own rfl _ _ 23 rfl wz.heap.size 32 i0 _ 7 80 Try.underlying23 hi hz0 hz1 hz2 rfl (by decide) _ 1 (encK x) rfl OW5 u5.heap.size _ (n - k) (c - k) (tkcells (ls.drop k)) 0 rfl hlen5 L5 hone5 (by unfold maxLen; omega) (by omega) B5.size ?_
     intro v6 w6 hown6 hgrow6 hor6
     obtain ⟨A6, k6, rfl⟩ := own_slice hown6
     obtain ⟨a6, hA6, _, hc6⟩ := (lies_own (B := 0) hown6) (by simp [encK])
     subst hA6
     have B6 : Below wz.heap.size wz w6 := B5.grown hgrow6 B5.size ob5
     have S1 : w6.heap[w.heap.size]? = some (.cells #[.int .u64 (x.t.id : Int), .int .u64 (x.t.list : Int), .string (str x.t.title), .bool x.t.done, .float .f64 x.t.rank, .float .f64 x.t.est, .slice x.A x.t.tags.length x.c] 32 (0, 0)) := (B6.block _ (lt_of_block PZ.out)).trans PZ.out
     refine hK _ _ S1 ?_
     clear hgrow6 hor6 L5 hlen5 hone5 ob5 B5 OW5
     clear hK K S0
     have S0 := S1
     clear S1
     try simp only [Act.put, List.setIfInBounds_toArray, List.set_cons_zero, List.set_cons_succ, List.getElem_toArray, List.getElem_cons_zero, List.getElem_cons_succ]
     have L6 : Lies w6 w6.heap.size 0 (some ad) (tkcells (ls.take k)) := by
      rw [← tkcells_take]
      exact (Lies.stay LZ.out.1 B6).take _
     have hlen6 : (tkcells (ls.take k)).length = k * 7 := by rw [tkcells_len, List.length_take, ← HN.out, Nat.min_eq_left (by omega)]
     refine anyH_one9 (i := 10) (by kernel_rfl) rfl (fun K hK => ?_)
     refine step_new rfl _ _ 23 rfl wz.heap.size 32 i0 _ 7 80 Try.underlying23 hi hz0 hz1 hz2 rfl w6.heap.size 0 (some ad) k (tkcells (ls.take k)) rfl hlen6 L6 (by intro z; first | rfl | cases z) a6 (1 + (n - k)) k6 (encK x ++ (tkcells (ls.drop k))) rfl hown6.1 hc6 (own_ones (encK_one x) (tkcells_one _)) (by omega) (by unfold maxLen; omega) (by omega) B6.size ?_
     intro v7 w7 hown7 hgrow7 hblk7
     obtain ⟨A7, k7, rfl⟩ := own_slice hown7
     have B7 : Below wz.heap.size wz w7 := B6.grown hgrow7 B6.size (fun q e => by cases e)
     have S1 : w7.heap[w.heap.size]? = some (.cells #[.int .u64 (x.t.id : Int), .int .u64 (x.t.list : Int), .string (str x.t.title), .bool x.t.done, .float .f64 x.t.rank, .float .f64 x.t.est, .slice x.A x.t.tags.length x.c] 32 (0, 0)) := (B7.block _ (lt_of_block PZ.out)).trans PZ.out
     refine hK _ _ S1 ?_
     clear hgrow7 L6 hlen6
     clear hK K S0
     have S0 := S1
     clear S1
     try simp only [Act.put, List.setIfInBounds_toArray, List.set_cons_zero, List.set_cons_succ, List.getElem_toArray, List.getElem_cons_zero, List.getElem_cons_succ]
     refine wpAnyH_take (i := 11) (v := ?_) rfl (by kernel_rfl) (by kernel_rfl) (by kernel_rfl) (fun _ _ _ h => h) (Or.inl ⟨by rfl, ?_⟩) S0 ?_
     rotate_left
     ·intro u hu
      go_simp
      try rfl
     try simp only [Act.put, List.setIfInBounds_toArray, List.set_cons_zero, List.set_cons_succ, List.getElem_toArray, List.getElem_cons_zero, List.getElem_cons_succ]
     refine wpAnyH_done (by kernel_rfl) ?_ _
     clear S0
     have HO7 := Lib.hid hown7
     have HB7 := Lib.hid B7
     have HK7 := Lib.hid hblk7
     clear hown7 B7 hblk7 hown6 hc6 B6
     generalize (if c = k then some ad else some (ad.add (k * 7))) = A8
     go_wp2
     go_ret
     have ENDL : (ls.take k ++ x :: ls.drop k).length = k + (1 + (n - k)) := by rw [List.length_append, List.length_cons, List.length_take, List.length_drop, ← HN.out, Nat.min_eq_left (by omega)]; omega
     have CELLS : tkcells (ls.take k ++ x :: ls.drop k) = (tkcells (ls.take k)) ++ (encK x ++ (tkcells (ls.drop k))) := by simp [tkcells]
     refine ⟨A7, k7, (by rw [IN.out, ENDL]; rfl), ?_, ?_, (by rw [IN.out, ENDL]; exact (own_room HO7.out).2), (fun z => by subst z; cases HK7.out), BZ.out.trans (HB7.out.mono BZ.out.size)⟩
     ·rw [IN.out, CELLS]
      exact lies_own (B := 0) HO7.out
     ·rw [IN.out]
      intro m hm
      have hm2 : m = x ∨ m ∈ ls := by rcases List.mem_append.1 hm with h | h; exact .inr (List.mem_of_mem_take h); rcases List.mem_cons.1 h with h | h; exact .inl h; exact .inr (List.mem_of_mem_drop h)
      rcases hm2 with rfl | h
      ·exact HF.out.stay (BZ.out.trans (HB7.out.mono BZ.out.size))
      ·exact (HA.out m h).stay (BZ.out.trans (HB7.out.mono BZ.out.size))

  ·obtain rfl : k = n := by omega
   have hltz : ¬ ((k : Int) < (k : Int)) := by omega
   have IN : Hid (Sr.ins ltM x ls = ls.take k ++ x :: ls.drop k) := Lib.hid (Sr.ins_new HI.out fun y hy => by
    have := (List.getElem?_eq_some_iff.1 hy).1
    have := HN.out
    omega)
   cases A with
   | none =>
    obtain rfl : c = 0 := HZ.out rfl
    obtain rfl : k = 0 := by omega
    obtain rfl : ls = [] := List.eq_nil_of_length_eq_zero HN.out.symm
    go_wp2_with fail
    go_region
    go_wp2_with fail
    go_region
    go_wp2_with fail
    obtain ⟨wz, hwz⟩ : ∃ u, wr.drew.drew = u := ⟨_, rfl⟩
    rw [hwz]
    have BZ : Hid (Below w.heap.size w wz) := Lib.hid (by rw [← hwz]; exact BW.out.drew.drew)
    have PZ : Hid (wz.heap[w.heap.size]? = some (.cells #[.int .u64 (x.t.id : Int), .int .u64 (x.t.list : Int), .string (str x.t.title), .bool x.t.done, .float .f64 x.t.rank, .float .f64 x.t.est, .slice x.A x.t.tags.length x.c] 32 (0, 0))) := Lib.hid (by rw [← hwz]; exact PR.out)
    have LZ := Lib.hid (HL.out.stay BZ.out)
    obtain ⟨i0, hi, hz0, hz1, hz2⟩ := info_parts Try.infoTk9
    refine wp_region_held_drew (S := fun u => u.heap[w.heap.size]? = some (.cells #[.int .u64 (x.t.id : Int), .int .u64 (x.t.list : Int), .string (str x.t.title), .bool x.t.done, .float .f64 x.t.rank, .float .f64 x.t.est, .slice x.A x.t.tags.length x.c] 32 (0, 0))) (by kernel_rfl) (PZ.out) (fun S0 => ?_)
    refine wpAnyH_take (i := 0) (v := ?_) rfl (by kernel_rfl) (by kernel_rfl) (by kernel_rfl) (fun _ _ _ h => h) (Or.inl ⟨by rfl, ?_⟩) S0 ?_
    rotate_left
    ·intro u hu
     go_simp
     try rfl
    try simp only [Act.put, List.setIfInBounds_toArray, List.set_cons_zero, List.set_cons_succ, List.getElem_toArray, List.getElem_cons_zero, List.getElem_cons_succ]
    refine wpAnyH_take (i := 1) (v := ?_) rfl (by kernel_rfl) (by kernel_rfl) (by kernel_rfl) (fun _ _ _ h => h) (Or.inl ⟨by rfl, ?_⟩) S0 ?_
    rotate_left
    ·intro u hu
     go_simp
     try rfl
    try simp only [Act.put, List.setIfInBounds_toArray, List.set_cons_zero, List.set_cons_succ, List.getElem_toArray, List.getElem_cons_zero, List.getElem_cons_succ]
    refine wpAnyH_take (i := 2) (v := ?_) rfl (by kernel_rfl) (by kernel_rfl) (by kernel_rfl) (fun _ _ _ h => h) (Or.inl ⟨by rfl, ?_⟩) S0 ?_
    rotate_left
    ·intro u hu
     go_simp
     try rfl
    try simp only [Act.put, List.setIfInBounds_toArray, List.set_cons_zero, List.set_cons_succ, List.getElem_toArray, List.getElem_cons_zero, List.getElem_cons_succ]
    refine wpAnyH_take (i := 3) (v := ?_) rfl (by kernel_rfl) (by kernel_rfl) (by kernel_rfl) (fun _ _ _ h => h) (Or.inl ⟨by rfl, ?_⟩) S0 ?_
    rotate_left
    ·intro u hu
     go_simp
     try rfl
    try simp only [Act.put, List.setIfInBounds_toArray, List.set_cons_zero, List.set_cons_succ, List.getElem_toArray, List.getElem_cons_zero, List.getElem_cons_succ]
    refine wpAnyH_take (i := 4) (v := ?_) rfl (by kernel_rfl) (by kernel_rfl) (by kernel_rfl) (fun _ _ _ h => h) (Or.inl ⟨by rfl, ?_⟩) S0 ?_
    rotate_left
    ·intro u hu
     obtain ⟨p0, p1, p2, p3, p4, p5, p6⟩ := seven_cells hu
     go_simp
     try rfl
    try simp only [Act.put, List.setIfInBounds_toArray, List.set_cons_zero, List.set_cons_succ, List.getElem_toArray, List.getElem_cons_zero, List.getElem_cons_succ]
    refine wpAnyH_take (i := 6) (v := ?_) rfl (by kernel_rfl) (by kernel_rfl) (by kernel_rfl) (fun _ _ _ h => h) (Or.inl ⟨by rfl, ?_⟩) S0 ?_
    rotate_left
    ·intro u hu
     go_simp
     try rfl
    try simp only [Act.put, List.setIfInBounds_toArray, List.set_cons_zero, List.set_cons_succ, List.getElem_toArray, List.getElem_cons_zero, List.getElem_cons_succ]
    refine wpAnyH_take (i := 7) (v := ?_) rfl (by kernel_rfl) (by kernel_rfl) (by kernel_rfl) (fun _ _ _ h => h) (Or.inl ⟨by rfl, ?_⟩) S0 ?_
    rotate_left
    ·intro u hu
     go_simp
     try rfl
    try simp only [Act.put, List.setIfInBounds_toArray, List.set_cons_zero, List.set_cons_succ, List.getElem_toArray, List.getElem_cons_zero, List.getElem_cons_succ]
    refine wpAnyH_take (i := 8) (v := ?_) rfl (by kernel_rfl) (by kernel_rfl) (by kernel_rfl) (fun _ _ _ h => h) (Or.inl ⟨by rfl, ?_⟩) S0 ?_
    rotate_left
    ·intro u hu
     go_simp
     try rfl
    try simp only [Act.put, List.setIfInBounds_toArray, List.set_cons_zero, List.set_cons_succ, List.getElem_toArray, List.getElem_cons_zero, List.getElem_cons_succ]
    refine anyH_one9 (i := 5) (by kernel_rfl) rfl (fun K hK => ?_)
    have hbs := buildSlK9 x wz.drew
    go_simp
    clear hbs
    have S1 := blk_alloc S0 (.cells #[.int .u64 (x.t.id : Int), .int .u64 (x.t.list : Int), .string (str x.t.title), .bool x.t.done, .float .f64 x.t.rank, .float .f64 x.t.est, .slice x.A x.t.tags.length x.c] 32)
    refine hK _ _ S1 ?_
    clear hK K S0
    have S0 := S1
    clear S1
    try simp only [Act.put, List.setIfInBounds_toArray, List.set_cons_zero, List.set_cons_succ, List.getElem_toArray, List.getElem_cons_zero, List.getElem_cons_succ]
    obtain ⟨u5, hu5⟩ : ∃ u, (wz.alloc (.cells #[.int .u64 (x.t.id : Int), .int .u64 (x.t.list : Int), .string (str x.t.title), .bool x.t.done, .float .f64 x.t.rank, .float .f64 x.t.est, .slice x.A x.t.tags.length x.c] 32)).drew = u := ⟨_, rfl⟩
    rw [hu5]
    clear S0
    have S0 : u5.heap[w.heap.size]? = some (.cells #[.int .u64 (x.t.id : Int), .int .u64 (x.t.list : Int), .string (str x.t.title), .bool x.t.done, .float .f64 x.t.rank, .float .f64 x.t.est, .slice x.A x.t.tags.length x.c] 32 (0, 0)) := by rw [← hu5]; exact blk_alloc PZ.out _
    have OW5 : u5.ownsRow wz.heap.size 32 7 (.slice (some ⟨wz.heap.size, 0, none⟩) 1 1) 1 (encK x) := by
     have o5 := own_one (w := wz) (e := 32) (xs := encK x) rfl (rfl : (encK x).length = 7)
     rw [← hu5]
     exact o5
    have B5 : Below wz.heap.size wz u5 := by rw [← hu5]; exact ((Below.refl wz.heap.size wz).alloc (Nat.le_refl _) _).drew
    have L5 : Lies u5 u5.heap.size 0 none ([] : List Value) := Lies.nil
    have hlen5 : ([] : List Value).length = 0 * 7 := by rfl
    have hone5 : ∀ v ∈ ([] : List Value), v.oneCell' = true := by simp
    have ob5 : ∀ q, (Value.slice (some ⟨wz.heap.size, 0, none⟩) 1 1).ownBlock = some q → wz.heap.size ≤ q := fun q e => by injection e with e; rw [← e]; exact Nat.le_refl _
    refine anyH_one9 (i := 9) (by kernel_rfl) rfl (fun K hK => ?_)
    refine step_own rfl _ _ 23 rfl wz.heap.size 32 i0 _ 7 80 Try.underlying23 hi hz0 hz1 hz2 rfl (by decide) _ 1 (encK x) rfl OW5 u5.heap.size _ 0 0 ([] : List Value) 0 rfl hlen5 L5 hone5 (by unfold maxLen; omega) (by omega) B5.size ?_
    intro v6 w6 hown6 hgrow6 hor6
    obtain ⟨A6, k6, rfl⟩ := own_slice hown6
    obtain ⟨a6, hA6, _, hc6⟩ := (lies_own (B := 0) hown6) (by simp [encK])
    subst hA6
    have B6 : Below wz.heap.size wz w6 := B5.grown hgrow6 B5.size ob5
    have S1 : w6.heap[w.heap.size]? = some (.cells #[.int .u64 (x.t.id : Int), .int .u64 (x.t.list : Int), .string (str x.t.title), .bool x.t.done, .float .f64 x.t.rank, .float .f64 x.t.est, .slice x.A x.t.tags.length x.c] 32 (0, 0)) := (B6.block _ (lt_of_block PZ.out)).trans PZ.out
    refine hK _ _ S1 ?_
    clear hgrow6 hor6 L5 hlen5 hone5 ob5 B5 OW5
    clear hK K S0
    have S0 := S1
    clear S1
    try simp only [Act.put, List.setIfInBounds_toArray, List.set_cons_zero, List.set_cons_succ, List.getElem_toArray, List.getElem_cons_zero, List.getElem_cons_succ]
    have L6 : Lies w6 w6.heap.size 0 none ([] : List Value) := Lies.nil
    have hlen6 : ([] : List Value).length = 0 * 7 := by rfl
    refine anyH_one9 (i := 10) (by kernel_rfl) rfl (fun K hK => ?_)
    refine step_new rfl _ _ 23 rfl wz.heap.size 32 i0 _ 7 80 Try.underlying23 hi hz0 hz1 hz2 rfl w6.heap.size 0 none 0 ([] : List Value) rfl hlen6 L6 (by intro z; first | rfl | cases z) a6 (1 + 0) k6 (encK x ++ ([] : List Value)) rfl hown6.1 hc6 (own_ones (encK_one x) (by simp)) (by omega) (by unfold maxLen; omega) (by omega) B6.size ?_
    intro v7 w7 hown7 hgrow7 hblk7
    obtain ⟨A7, k7, rfl⟩ := own_slice hown7
    have B7 : Below wz.heap.size wz w7 := B6.grown hgrow7 B6.size (fun q e => by cases e)
    have S1 : w7.heap[w.heap.size]? = some (.cells #[.int .u64 (x.t.id : Int), .int .u64 (x.t.list : Int), .string (str x.t.title), .bool x.t.done, .float .f64 x.t.rank, .float .f64 x.t.est, .slice x.A x.t.tags.length x.c] 32 (0, 0)) := (B7.block _ (lt_of_block PZ.out)).trans PZ.out
    refine hK _ _ S1 ?_
    clear hgrow7 L6 hlen6
    clear hK K S0
    have S0 := S1
    clear S1
    try simp only [Act.put, List.setIfInBounds_toArray, List.set_cons_zero, List.set_cons_succ, List.getElem_toArray, List.getElem_cons_zero, List.getElem_cons_succ]
    refine wpAnyH_take (i := 11) (v := ?_) rfl (by kernel_rfl) (by kernel_rfl) (by kernel_rfl) (fun _ _ _ h => h) (Or.inl ⟨by rfl, ?_⟩) S0 ?_
    rotate_left
    ·intro u hu
     go_simp
     try rfl
    try simp only [Act.put, List.setIfInBounds_toArray, List.set_cons_zero, List.set_cons_succ, List.getElem_toArray, List.getElem_cons_zero, List.getElem_cons_succ]
    refine wpAnyH_done (by kernel_rfl) ?_ _
    clear S0
    have HO7 := Lib.hid hown7
    have HB7 := Lib.hid B7
    have HK7 := Lib.hid hblk7
    clear hown7 B7 hblk7 hown6 hc6 B6
    go_wp2
    go_ret
    have ENDL : (List.take 0 [] ++ x :: List.drop 0 []).length = 0 + (1 + 0) := by rfl
    have CELLS : tkcells (List.take 0 [] ++ x :: List.drop 0 []) = ([] : List Value) ++ (encK x ++ ([] : List Value)) := by simp [tkcells]
    refine ⟨A7, k7, (by rw [IN.out, ENDL]; rfl), ?_, ?_, (by rw [IN.out, ENDL]; exact (own_room HO7.out).2), (fun z => by subst z; cases HK7.out), BZ.out.trans (HB7.out.mono BZ.out.size)⟩
    ·rw [IN.out, CELLS]
     exact lies_own (B := 0) HO7.out
    ·rw [IN.out]
     intro m hm
     have hm2 : m = x ∨ m ∈ ([] : List MTk) := .inl (by simpa using hm)
     rcases hm2 with rfl | h
     ·exact HF.out.stay (BZ.out.trans (HB7.out.mono BZ.out.size))
     ·exact (HA.out m h).stay (BZ.out.trans (HB7.out.mono BZ.out.size))

   | some ad =>
    have k0 : (0 : Int) ≤ (k : Int) := by omega
    have kci : (k : Int) ≤ (c : Int) := by omega
    have kk : k ≤ k := Nat.le_refl _
    obtain ⟨n, hnk⟩ : ∃ n, n = k := ⟨_, rfl⟩
    go_wp2_with fail
    go_region
    go_wp2_with fail
    go_region
    go_wp2_with fail
    obtain ⟨wz, hwz⟩ : ∃ u, wr.drew.drew = u := ⟨_, rfl⟩
    rw [hwz]
    have BZ : Hid (Below w.heap.size w wz) := Lib.hid (by rw [← hwz]; exact BW.out.drew.drew)
    have PZ : Hid (wz.heap[w.heap.size]? = some (.cells #[.int .u64 (x.t.id : Int), .int .u64 (x.t.list : Int), .string (str x.t.title), .bool x.t.done, .float .f64 x.t.rank, .float .f64 x.t.est, .slice x.A x.t.tags.length x.c] 32 (0, 0))) := Lib.hid (by rw [← hwz]; exact PR.out)
    have LZ := Lib.hid (HL.out.stay BZ.out)
    obtain ⟨i0, hi, hz0, hz1, hz2⟩ := info_parts Try.infoTk9
    refine wp_region_held_drew (S := fun u => u.heap[w.heap.size]? = some (.cells #[.int .u64 (x.t.id : Int), .int .u64 (x.t.list : Int), .string (str x.t.title), .bool x.t.done, .float .f64 x.t.rank, .float .f64 x.t.est, .slice x.A x.t.tags.length x.c] 32 (0, 0))) (by kernel_rfl) (PZ.out) (fun S0 => ?_)
    refine wpAnyH_take (i := 0) (v := ?_) rfl (by kernel_rfl) (by kernel_rfl) (by kernel_rfl) (fun _ _ _ h => h) (Or.inl ⟨by rfl, ?_⟩) S0 ?_
    rotate_left
    ·intro u hu
     go_simp
     try rfl
    try simp only [Act.put, List.setIfInBounds_toArray, List.set_cons_zero, List.set_cons_succ, List.getElem_toArray, List.getElem_cons_zero, List.getElem_cons_succ]
    refine wpAnyH_take (i := 1) (v := ?_) rfl (by kernel_rfl) (by kernel_rfl) (by kernel_rfl) (fun _ _ _ h => h) (Or.inl ⟨by rfl, ?_⟩) S0 ?_
    rotate_left
    ·intro u hu
     go_simp
     try rfl
    try simp only [Act.put, List.setIfInBounds_toArray, List.set_cons_zero, List.set_cons_succ, List.getElem_toArray, List.getElem_cons_zero, List.getElem_cons_succ]
    refine wpAnyH_take (i := 2) (v := ?_) rfl (by kernel_rfl) (by kernel_rfl) (by kernel_rfl) (fun _ _ _ h => h) (Or.inl ⟨by rfl, ?_⟩) S0 ?_
    rotate_left
    ·intro u hu
     go_simp
     try rfl
    try simp only [Act.put, List.setIfInBounds_toArray, List.set_cons_zero, List.set_cons_succ, List.getElem_toArray, List.getElem_cons_zero, List.getElem_cons_succ]
    refine wpAnyH_take (i := 3) (v := ?_) rfl (by kernel_rfl) (by kernel_rfl) (by kernel_rfl) (fun _ _ _ h => h) (Or.inl ⟨by rfl, ?_⟩) S0 ?_
    rotate_left
    ·intro u hu
     go_simp
     try rfl
    try simp only [Act.put, List.setIfInBounds_toArray, List.set_cons_zero, List.set_cons_succ, List.getElem_toArray, List.getElem_cons_zero, List.getElem_cons_succ]
    refine wpAnyH_take (i := 4) (v := ?_) rfl (by kernel_rfl) (by kernel_rfl) (by kernel_rfl) (fun _ _ _ h => h) (Or.inl ⟨by rfl, ?_⟩) S0 ?_
    rotate_left
    ·intro u hu
     obtain ⟨p0, p1, p2, p3, p4, p5, p6⟩ := seven_cells hu
     go_simp
     try rfl
    try simp only [Act.put, List.setIfInBounds_toArray, List.set_cons_zero, List.set_cons_succ, List.getElem_toArray, List.getElem_cons_zero, List.getElem_cons_succ]
    refine wpAnyH_take (i := 6) (v := ?_) rfl (by kernel_rfl) (by kernel_rfl) (by kernel_rfl) (fun _ _ _ h => h) (Or.inl ⟨by rfl, ?_⟩) S0 ?_
    rotate_left
    ·intro u hu
     go_simp
     try rfl
    try simp only [Act.put, List.setIfInBounds_toArray, List.set_cons_zero, List.set_cons_succ, List.getElem_toArray, List.getElem_cons_zero, List.getElem_cons_succ]
    refine wpAnyH_take (i := 7) (v := ?_) rfl (by kernel_rfl) (by kernel_rfl) (by kernel_rfl) (fun _ _ _ h => h) (Or.inl ⟨by rfl, ?_⟩) S0 ?_
    rotate_left
    ·intro u hu
     go_simp
     try rfl
    try simp only [Act.put, List.setIfInBounds_toArray, List.set_cons_zero, List.set_cons_succ, List.getElem_toArray, List.getElem_cons_zero, List.getElem_cons_succ]
    refine wpAnyH_take (i := 8) (v := ?_) rfl (by kernel_rfl) (by kernel_rfl) (by kernel_rfl) (fun _ _ _ h => h) (Or.inl ⟨by rfl, ?_⟩) S0 ?_
    rotate_left
    ·intro u hu
     go_simp
     try rfl
    try simp only [Act.put, List.setIfInBounds_toArray, List.set_cons_zero, List.set_cons_succ, List.getElem_toArray, List.getElem_cons_zero, List.getElem_cons_succ]
    refine anyH_one9 (i := 5) (by kernel_rfl) rfl (fun K hK => ?_)
    have hbs := buildSlK9 x wz.drew
    go_simp
    clear hbs
    have S1 := blk_alloc S0 (.cells #[.int .u64 (x.t.id : Int), .int .u64 (x.t.list : Int), .string (str x.t.title), .bool x.t.done, .float .f64 x.t.rank, .float .f64 x.t.est, .slice x.A x.t.tags.length x.c] 32)
    refine hK _ _ S1 ?_
    clear hK K S0
    have S0 := S1
    clear S1
    try simp only [Act.put, List.setIfInBounds_toArray, List.set_cons_zero, List.set_cons_succ, List.getElem_toArray, List.getElem_cons_zero, List.getElem_cons_succ]
    obtain ⟨u5, hu5⟩ : ∃ u, (wz.alloc (.cells #[.int .u64 (x.t.id : Int), .int .u64 (x.t.list : Int), .string (str x.t.title), .bool x.t.done, .float .f64 x.t.rank, .float .f64 x.t.est, .slice x.A x.t.tags.length x.c] 32)).drew = u := ⟨_, rfl⟩
    rw [hu5]
    clear S0
    have S0 : u5.heap[w.heap.size]? = some (.cells #[.int .u64 (x.t.id : Int), .int .u64 (x.t.list : Int), .string (str x.t.title), .bool x.t.done, .float .f64 x.t.rank, .float .f64 x.t.est, .slice x.A x.t.tags.length x.c] 32 (0, 0)) := by rw [← hu5]; exact blk_alloc PZ.out _
    have OW5 : u5.ownsRow wz.heap.size 32 7 (.slice (some ⟨wz.heap.size, 0, none⟩) 1 1) 1 (encK x) := by
     have o5 := own_one (w := wz) (e := 32) (xs := encK x) rfl (rfl : (encK x).length = 7)
     rw [← hu5]
     exact o5
    have B5 : Below wz.heap.size wz u5 := by rw [← hu5]; exact ((Below.refl wz.heap.size wz).alloc (Nat.le_refl _) _).drew
    have L5 : Lies u5 u5.heap.size 0 (if c = k then some ad else (some ad).map (·.add (k * 7))) (tkcells (ls.drop k)) := by
     rw [← tkcells_drop]
     exact ((Lies.stay LZ.out.1 B5).cutS 7 k c (by decide) (by rw [tkcells_len, ← HN.out]; exact Nat.mul_le_mul_right _ HC.out))
    have hlen5 : (tkcells (ls.drop k)).length = 0 * 7 := by rw [tkcells_len, List.length_drop, ← HN.out]; first | done | omega
    have hone5 : ∀ v ∈ (tkcells (ls.drop k)), v.oneCell' = true := tkcells_one _
    have ob5 : ∀ q, (Value.slice (some ⟨wz.heap.size, 0, none⟩) 1 1).ownBlock = some q → wz.heap.size ≤ q := fun q e => by injection e with e; rw [← e]; exact Nat.le_refl _
    refine anyH_one9 (i := 9) (by kernel_rfl) rfl (fun K hK => ?_)
    refine step_own rfl _ _ 23 rfl wz.heap.size 32 i0 _ 7 80 Try.underlying23 hi hz0 hz1 hz2 rfl (by decide) _ 1 (encK x) rfl OW5 u5.heap.size _ 0 (c - k) (tkcells (ls.drop k)) 0 rfl hlen5 L5 hone5 (by unfold maxLen; omega) (by omega) B5.size ?_
    intro v6 w6 hown6 hgrow6 hor6
    obtain ⟨A6, k6, rfl⟩ := own_slice hown6
    obtain ⟨a6, hA6, _, hc6⟩ := (lies_own (B := 0) hown6) (by simp [encK])
    subst hA6
    have B6 : Below wz.heap.size wz w6 := B5.grown hgrow6 B5.size ob5
    have S1 : w6.heap[w.heap.size]? = some (.cells #[.int .u64 (x.t.id : Int), .int .u64 (x.t.list : Int), .string (str x.t.title), .bool x.t.done, .float .f64 x.t.rank, .float .f64 x.t.est, .slice x.A x.t.tags.length x.c] 32 (0, 0)) := (B6.block _ (lt_of_block PZ.out)).trans PZ.out
    refine hK _ _ S1 ?_
    clear hgrow6 hor6 L5 hlen5 hone5 ob5 B5 OW5
    clear hK K S0
    have S0 := S1
    clear S1
    try simp only [Act.put, List.setIfInBounds_toArray, List.set_cons_zero, List.set_cons_succ, List.getElem_toArray, List.getElem_cons_zero, List.getElem_cons_succ]
    have L6 : Lies w6 w6.heap.size 0 (some ad) (tkcells (ls.take k)) := by
     rw [← tkcells_take]
     exact (Lies.stay LZ.out.1 B6).take _
    have hlen6 : (tkcells (ls.take k)).length = k * 7 := by rw [tkcells_len, List.length_take, ← HN.out, Nat.min_eq_left (by omega)]
    refine anyH_one9 (i := 10) (by kernel_rfl) rfl (fun K hK => ?_)
    refine step_new rfl _ _ 23 rfl wz.heap.size 32 i0 _ 7 80 Try.underlying23 hi hz0 hz1 hz2 rfl w6.heap.size 0 (some ad) k (tkcells (ls.take k)) rfl hlen6 L6 (by intro z; first | rfl | cases z) a6 (1 + 0) k6 (encK x ++ (tkcells (ls.drop k))) rfl hown6.1 hc6 (own_ones (encK_one x) (tkcells_one _)) (by omega) (by unfold maxLen; omega) (by omega) B6.size ?_
    intro v7 w7 hown7 hgrow7 hblk7
    obtain ⟨A7, k7, rfl⟩ := own_slice hown7
    have B7 : Below wz.heap.size wz w7 := B6.grown hgrow7 B6.size (fun q e => by cases e)
    have S1 : w7.heap[w.heap.size]? = some (.cells #[.int .u64 (x.t.id : Int), .int .u64 (x.t.list : Int), .string (str x.t.title), .bool x.t.done, .float .f64 x.t.rank, .float .f64 x.t.est, .slice x.A x.t.tags.length x.c] 32 (0, 0)) := (B7.block _ (lt_of_block PZ.out)).trans PZ.out
    refine hK _ _ S1 ?_
    clear hgrow7 L6 hlen6
    clear hK K S0
    have S0 := S1
    clear S1
    try simp only [Act.put, List.setIfInBounds_toArray, List.set_cons_zero, List.set_cons_succ, List.getElem_toArray, List.getElem_cons_zero, List.getElem_cons_succ]
    refine wpAnyH_take (i := 11) (v := ?_) rfl (by kernel_rfl) (by kernel_rfl) (by kernel_rfl) (fun _ _ _ h => h) (Or.inl ⟨by rfl, ?_⟩) S0 ?_
    rotate_left
    ·intro u hu
     go_simp
     try rfl
    try simp only [Act.put, List.setIfInBounds_toArray, List.set_cons_zero, List.set_cons_succ, List.getElem_toArray, List.getElem_cons_zero, List.getElem_cons_succ]
    refine wpAnyH_done (by kernel_rfl) ?_ _
    clear S0
    have HO7 := Lib.hid hown7
    have HB7 := Lib.hid B7
    have HK7 := Lib.hid hblk7
    clear hown7 B7 hblk7 hown6 hc6 B6
    generalize (if c = k then some ad else some (ad.add (k * 7))) = A8
    go_wp2
    go_ret
    have ENDL : (ls.take k ++ x :: ls.drop k).length = k + (1 + 0) := by rw [List.length_append, List.length_cons, List.length_take, List.length_drop, ← HN.out, Nat.min_eq_left (by omega)]; omega
    have CELLS : tkcells (ls.take k ++ x :: ls.drop k) = (tkcells (ls.take k)) ++ (encK x ++ (tkcells (ls.drop k))) := by simp [tkcells]
    refine ⟨A7, k7, (by rw [IN.out, ENDL]; rfl), ?_, ?_, (by rw [IN.out, ENDL]; exact (own_room HO7.out).2), (fun z => by subst z; cases HK7.out), BZ.out.trans (HB7.out.mono BZ.out.size)⟩
    ·rw [IN.out, CELLS]
     exact lies_own (B := 0) HO7.out
    ·rw [IN.out]
     intro m hm
     have hm2 : m = x ∨ m ∈ ls := by rcases List.mem_append.1 hm with h | h; exact .inr (List.mem_of_mem_take h); rcases List.mem_cons.1 h with h | h; exact .inl h; exact .inr (List.mem_of_mem_drop h)
     rcases hm2 with rfl | h
     ·exact HF.out.stay (BZ.out.trans (HB7.out.mono BZ.out.size))
     ·exact (HA.out m h).stay (BZ.out.trans (HB7.out.mono BZ.out.size))

end Go.Proofs.Ytnhpkcphgdkdiaa
