/- Disks of plain values: sectors, a cache of writes, faults; what each deed does, and what a crash leaves. Nothing of the program. The writes of one sector, by their places in the cache. Nothing of the program. -/
import Derived.Below
namespace Go.Proofs.YtpnfpeeijghamaaGreat
set_option maxRecDepth 100000

namespace Dk

def zero64 : List UInt8 := List.replicate 64 0
/-- A sector's bytes: those written, and noughts behind them. -/
def sec (b : List UInt8) : List UInt8 := b ++ List.replicate (64 - b.length) 0
structure D where
  s : List (List UInt8)
  cache : List (Nat × List UInt8)
  bad : List Bool
  left : Int
  dead : Bool

def count (n : Int) : Nat := min n.toNat 4096
def fresh (k : Nat) : D := ⟨List.replicate k zero64, [], List.replicate k false, -1, false⟩
def new (n : Int) : D := fresh (count n)
def has (d : D) (i : Int) : Bool := decide (0 ≤ i) && decide (i < (d.s.length : Int))
/-- A write or a flush begins: the error's number, and the disk. -/
def act (d : D) : Int × D :=
  if d.dead = true ∨ d.left = 0 then (50, { d with dead := true })
  else (0, if 0 < d.left then { d with left := d.left - 1 } else d)
def put (d : D) (i : Int) (b : List UInt8) : D := { d with cache := d.cache ++ [(i.toNat, sec b)] }
def write (d : D) (i : Int) (b : List UInt8) : Int × D :=
  if d.dead = true then (50, d)
  else if has d i = false then (1, d)
  else if 64 < b.length then (2, d)
  else if (act d).1 = 0 then (0, put (act d).2 i b) else act d
/-- What is there, with writes on top. -/
def seen (s : List UInt8) (i : Nat) (c : List (Nat × List UInt8)) : List UInt8 := c.foldl (fun b w => if w.1 = i then w.2 else b) s
def look (d : D) (i : Nat) : List UInt8 := seen (d.s.getD i []) i d.cache
def read (d : D) (i : Int) : List UInt8 × Int :=
  if d.dead = true then ([], 50)
  else if has d i = false then ([], 1)
  else if d.bad.getD i.toNat false = true then ([], 52)
  else (look d i.toNat, 0)
/-- Writes are kept for good. -/
def keepAll (s : List (List UInt8)) (c : List (Nat × List UInt8)) : List (List UInt8) := c.foldl (fun s w => s.set w.1 w.2) s
def flush (d : D) : Int × D :=
  if (act d).1 = 0 then (0, { (act d).2 with s := keepAll d.s d.cache, cache := [] }) else act d
def arm (d : D) (n : Int) : D := { d with left := if 0 ≤ n then n else -1 }
def keepSome (s : List (List UInt8)) : List (Nat × List UInt8) → List Bool → List (List UInt8)
  | [], _ => s
  | _ :: _, [] => s
  | w :: c, k :: ks => keepSome (if k = true then s.set w.1 w.2 else s) c ks
def crash (d : D) (ks : List Bool) : D := { d with s := keepSome d.s d.cache ks, cache := [], left := -1, dead := false }
def fault (d : D) (i : Int) (on : Bool) : D := if has d i = true then { d with bad := d.bad.set i.toNat on } else d
def wipe (d : D) : D := fresh d.s.length
def clone (d : D) : D := { fresh d.s.length with s := d.s }

/-- What every disk is. -/
structure D.ok (d : D) : Prop where
  bads : d.bad.length = d.s.length
  few : d.s.length ≤ 4096
  secs : ∀ b ∈ d.s, b.length = 64
  at_ : ∀ w ∈ d.cache, w.1 < d.s.length ∧ w.2.length = 64
  left : -1 ≤ d.left

theorem sec_len {b : List UInt8} (h : b.length ≤ 64) : (sec b).length = 64 := by
  unfold sec
  rw [List.length_append, List.length_replicate]
  omega
theorem sec_nil : sec [] = zero64 := rfl
theorem fresh_ok {k : Nat} (h : k ≤ 4096) : (fresh k).ok := by
  refine ⟨by simp [fresh], by simpa [fresh] using h, ?_, by simp [fresh], by show (-1 : Int) ≤ -1; omega⟩
  intro b hb
  rw [List.eq_of_mem_replicate hb]
  rfl
theorem new_ok (n : Int) : (new n).ok := fresh_ok (by unfold count; omega)
theorem act_ok {d : D} (h : d.ok) : (act d).2.ok := by
  unfold act
  split
  · exact ⟨h.bads, h.few, h.secs, h.at_, h.left⟩
  · split
    · exact ⟨h.bads, h.few, h.secs, h.at_, by have := h.left; show -1 ≤ d.left - 1; omega⟩
    · exact h
theorem act_s (d : D) : (act d).2.s = d.s := by unfold act; split <;> (try split) <;> rfl
theorem act_cache (d : D) : (act d).2.cache = d.cache := by unfold act; split <;> (try split) <;> rfl
theorem act_bad (d : D) : (act d).2.bad = d.bad := by unfold act; split <;> (try split) <;> rfl
theorem act_no {d : D} (h : (act d).1 ≠ 0) : (act d).1 = 50 ∧ (act d).2 = { d with dead := true } := by
  unfold act at h ⊢
  split at h
  · rename_i q; rw [if_pos q]; exact ⟨rfl, rfl⟩
  · exact absurd rfl h
theorem act_yes {d : D} (h : (act d).1 = 0) : d.dead = false ∧ d.left ≠ 0 ∧ (act d).2 = if 0 < d.left then { d with left := d.left - 1 } else d := by
  unfold act at h ⊢
  split at h
  · cases h
  · rename_i q
    rw [if_neg q]
    refine ⟨?_, fun e => q (Or.inr e), rfl⟩
    cases hd : d.dead
    · rfl
    · exact absurd (Or.inl hd) q
theorem has_iff {d : D} {i : Int} : has d i = true ↔ 0 ≤ i ∧ i < (d.s.length : Int) := by unfold has; rw [Bool.and_eq_true, decide_eq_true_eq, decide_eq_true_eq]
theorem put_ok {d : D} (h : d.ok) {i : Int} (hi : has d i = true) {b : List UInt8} (hb : b.length ≤ 64) : (put d i b).ok := by
  obtain ⟨h0, h1⟩ := has_iff.1 hi
  refine ⟨h.bads, h.few, h.secs, ?_, h.left⟩
  intro w hw
  unfold put at hw
  rw [List.mem_append, List.mem_singleton] at hw
  rcases hw with hw | rfl
  · exact h.at_ w hw
  · exact ⟨by show i.toNat < d.s.length; omega, sec_len hb⟩
theorem write_ok {d : D} (h : d.ok) (i : Int) (b : List UInt8) : (write d i b).2.ok := by
  unfold write
  split
  · exact h
  split
  · exact h
  split
  · exact h
  · rename_i h1 h2 h3
    split
    · refine put_ok (act_ok h) ?_ (by omega)
      unfold has at h2 ⊢
      rw [act_s]
      simpa using h2
    · exact act_ok h
theorem keepAll_len (s : List (List UInt8)) (c : List (Nat × List UInt8)) : (keepAll s c).length = s.length := by
  induction c generalizing s with
  | nil => rfl
  | cons w c ih => exact (ih (s.set w.1 w.2)).trans (List.length_set ..)
theorem set_secs {s : List (List UInt8)} (hs : ∀ b ∈ s, b.length = 64) {w : Nat × List UInt8} (hw : w.2.length = 64) : ∀ b ∈ s.set w.1 w.2, b.length = 64 := by
  intro b hb
  rcases List.mem_or_eq_of_mem_set hb with q | rfl
  · exact hs b q
  · exact hw
theorem keepAll_secs {s : List (List UInt8)} {c : List (Nat × List UInt8)} (hs : ∀ b ∈ s, b.length = 64) (hc : ∀ w ∈ c, w.2.length = 64) : ∀ b ∈ keepAll s c, b.length = 64 := by
  induction c generalizing s with
  | nil => exact hs
  | cons w c ih => exact ih (set_secs hs (hc w (by simp))) (fun x hx => hc x (by simp [hx]))
theorem keepSome_len (s : List (List UInt8)) (c : List (Nat × List UInt8)) (ks : List Bool) : (keepSome s c ks).length = s.length := by
  induction c generalizing s ks with
  | nil => cases ks <;> rfl
  | cons w c ih =>
    cases ks with
    | nil => rfl
    | cons k ks =>
      show (keepSome (if k = true then s.set w.1 w.2 else s) c ks).length = s.length
      rw [ih]
      split
      · exact List.length_set ..
      · rfl
theorem keepSome_secs {s : List (List UInt8)} {c : List (Nat × List UInt8)} {ks : List Bool} (hs : ∀ b ∈ s, b.length = 64) (hc : ∀ w ∈ c, w.2.length = 64) : ∀ b ∈ keepSome s c ks, b.length = 64 := by
  induction c generalizing s ks with
  | nil => cases ks <;> exact hs
  | cons w c ih =>
    cases ks with
    | nil => exact hs
    | cons k ks =>
      refine ih (s := if k = true then s.set w.1 w.2 else s) (ks := ks) ?_ (fun x hx => hc x (by simp [hx]))
      split
      · exact set_secs hs (hc w (by simp))
      · exact hs
theorem flush_ok {d : D} (h : d.ok) : (flush d).2.ok := by
  unfold flush
  split
  · have a := act_ok h
    refine ⟨?_, ?_, ?_, by simp, a.left⟩
    · show (act d).2.bad.length = (keepAll d.s d.cache).length
      rw [act_bad, keepAll_len, h.bads]
    · show (keepAll d.s d.cache).length ≤ 4096
      rw [keepAll_len]; exact h.few
    · exact keepAll_secs h.secs (fun w hw => (h.at_ w hw).2)
  · exact act_ok h
theorem arm_ok {d : D} (h : d.ok) (n : Int) : (arm d n).ok := ⟨h.bads, h.few, h.secs, h.at_, by show -1 ≤ (if 0 ≤ n then n else -1); split <;> omega⟩
theorem crash_ok {d : D} (h : d.ok) (ks : List Bool) : (crash d ks).ok :=
  ⟨by show d.bad.length = (keepSome d.s d.cache ks).length; rw [keepSome_len]; exact h.bads, by show (keepSome d.s d.cache ks).length ≤ 4096; rw [keepSome_len]; exact h.few, keepSome_secs h.secs (fun w hw => (h.at_ w hw).2), by simp [crash], by show (-1 : Int) ≤ -1; omega⟩
theorem fault_ok {d : D} (h : d.ok) (i : Int) (on : Bool) : (fault d i on).ok := by
  unfold fault
  split
  · exact ⟨by show (d.bad.set i.toNat on).length = d.s.length; rw [List.length_set]; exact h.bads, h.few, h.secs, h.at_, h.left⟩
  · exact h
theorem wipe_ok {d : D} (h : d.ok) : (wipe d).ok := fresh_ok h.few
theorem clone_ok {d : D} (h : d.ok) : (clone d).ok := by
  have f := fresh_ok h.few
  exact ⟨f.bads.trans (by simp [fresh, clone]), h.few, h.secs, by simp [fresh, clone], f.left⟩
theorem seen_len {s : List UInt8} {i : Nat} {c : List (Nat × List UInt8)} (hs : s.length = 64) (hc : ∀ w ∈ c, w.2.length = 64) : (seen s i c).length = 64 := by
  induction c generalizing s with
  | nil => exact hs
  | cons w c ih =>
    refine ih (s := if w.1 = i then w.2 else s) ?_ (fun x hx => hc x (by simp [hx]))
    split
    · exact hc w (by simp)
    · exact hs
theorem look_len {d : D} (h : d.ok) {i : Nat} (hi : i < d.s.length) : (look d i).length = 64 := by
  unfold look
  refine seen_len ?_ (fun w hw => (h.at_ w hw).2)
  rw [List.getD_eq_getElem?_getD, List.getElem?_eq_getElem hi]
  exact h.secs _ (List.getElem_mem hi)
end Dk

namespace Dk

/-- The writes of one sector, each with its place among all. -/
def wtsFrom (k : Nat) : List (Nat × List UInt8) → Nat → List (Nat × List UInt8)
  | [], _ => []
  | w :: c, i => if w.1 = i then (k, w.2) :: wtsFrom (k + 1) c i else wtsFrom (k + 1) c i
def wts (c : List (Nat × List UInt8)) (i : Nat) : List (Nat × List UInt8) := wtsFrom 0 c i
theorem wtsFrom_snoc (k : Nat) (c : List (Nat × List UInt8)) (w : Nat × List UInt8) (i : Nat) : wtsFrom k (c ++ [w]) i = wtsFrom k c i ++ (if w.1 = i then [(k + c.length, w.2)] else []) := by
  induction c generalizing k with
  | nil => simp only [List.nil_append, wtsFrom, List.length_nil, Nat.add_zero]
  | cons x c ih =>
    simp only [List.cons_append, wtsFrom, ih (k + 1), List.length_cons]
    rw [show k + 1 + c.length = k + (c.length + 1) by omega]
    split <;> simp
theorem wts_same (c : List (Nat × List UInt8)) (i : Nat) (b : List UInt8) : wts (c ++ [(i, b)]) i = wts c i ++ [(c.length, b)] := by
  unfold wts
  rw [wtsFrom_snoc, if_pos rfl, Nat.zero_add]
theorem wts_other (c : List (Nat × List UInt8)) {i j : Nat} (b : List UInt8) (h : j ≠ i) : wts (c ++ [(i, b)]) j = wts c j := by
  unfold wts
  rw [wtsFrom_snoc, if_neg (by exact fun e => h e.symm), List.append_nil]
theorem wtsFrom_mem {c : List (Nat × List UInt8)} {i : Nat} {x : Nat × List UInt8} : ∀ {k : Nat}, x ∈ wtsFrom k c i → k ≤ x.1 ∧ x.1 < k + c.length ∧ (i, x.2) ∈ c := by
  induction c with
  | nil => intro k h; simp [wtsFrom] at h
  | cons w c ih =>
    intro k h
    simp only [wtsFrom] at h
    have up : x ∈ wtsFrom (k + 1) c i → k ≤ x.1 ∧ x.1 < k + (w :: c).length ∧ (i, x.2) ∈ w :: c := fun h => by
      obtain ⟨h1, h2, h3⟩ := ih h
      exact ⟨by omega, by rw [List.length_cons]; omega, List.mem_cons_of_mem _ h3⟩
    split at h
    · rename_i e
      rcases List.mem_cons.1 h with rfl | h
      · exact ⟨Nat.le_refl _, by rw [List.length_cons]; show k < _; omega, by rw [← e]; exact List.mem_cons_self ..⟩
      · exact up h
    · exact up h
theorem wts_mem {c : List (Nat × List UInt8)} {i : Nat} {x : Nat × List UInt8} (h : x ∈ wts c i) : x.1 < c.length ∧ (i, x.2) ∈ c := by
  obtain ⟨_, h2, h3⟩ := wtsFrom_mem h
  exact ⟨by omega, h3⟩
theorem wtsFrom_len (k : Nat) (c : List (Nat × List UInt8)) (i : Nat) : (wtsFrom k c i).length ≤ c.length := by
  induction c generalizing k with
  | nil => exact Nat.le_refl _
  | cons w c ih =>
    simp only [wtsFrom, List.length_cons]
    have := ih (k + 1)
    split
    · rw [List.length_cons]; omega
    · omega
theorem wts_len (c : List (Nat × List UInt8)) (i : Nat) : (wts c i).length ≤ c.length := wtsFrom_len 0 c i

def lastOf (s : List UInt8) (l : List (Nat × List UInt8)) : List UInt8 := l.foldl (fun _ x => x.2) s
theorem seen_from (s : List UInt8) (i : Nat) (k : Nat) (c : List (Nat × List UInt8)) : seen s i c = lastOf s (wtsFrom k c i) := by
  induction c generalizing s k with
  | nil => rfl
  | cons w c ih =>
    show seen (if w.1 = i then w.2 else s) i c = _
    rw [ih _ (k + 1)]
    simp only [wtsFrom]
    split <;> rfl
theorem seen_wts (s : List UInt8) (i : Nat) (c : List (Nat × List UInt8)) : seen s i c = lastOf s (wts c i) := seen_from s i 0 c
theorem lastOf_at {s : List UInt8} {l : List (Nat × List UInt8)} {x : Nat × List UInt8} (h : l[l.length - 1]? = some x) : lastOf s l = x.2 := by
  have e : l.getLast? = some x := by rw [List.getLast?_eq_getElem?]; exact h
  obtain ⟨l', rfl⟩ := List.getLast?_eq_some_iff.1 e
  unfold lastOf
  rw [List.foldl_append]
  rfl

/-- Those of a sector's writes that stay, on top of it. -/
def after (st : Nat → Bool) (b : List UInt8) (l : List (Nat × List UInt8)) : List UInt8 := l.foldl (fun b x => if st x.1 = true then x.2 else b) b
theorem after_snoc (st : Nat → Bool) (b : List UInt8) (l : List (Nat × List UInt8)) (x : Nat × List UInt8) : after st b (l ++ [x]) = if st x.1 = true then x.2 else after st b l := by
  unfold after
  rw [List.foldl_append]
  rfl
theorem after_len {st : Nat → Bool} {b : List UInt8} {l : List (Nat × List UInt8)} (hb : b.length = 64) (hl : ∀ x ∈ l, x.2.length = 64) : (after st b l).length = 64 := by
  induction l generalizing b with
  | nil => exact hb
  | cons x l ih =>
    refine ih (b := if st x.1 = true then x.2 else b) ?_ (fun y hy => hl y (List.mem_cons_of_mem _ hy))
    split
    · exact hl x (List.mem_cons_self ..)
    · exact hb
/-- Those of all writes that stay, in their order. -/
def keepBy (st : Nat → Bool) : Nat → List (List UInt8) → List (Nat × List UInt8) → List (List UInt8)
  | _, s, [] => s
  | k, s, w :: c => keepBy st (k + 1) (if st k = true then s.set w.1 w.2 else s) c
theorem keepAll_from (s : List (List UInt8)) (c : List (Nat × List UInt8)) (k : Nat) : keepAll s c = keepBy (fun _ => true) k s c := by
  induction c generalizing s k with
  | nil => rfl
  | cons w c ih => exact ih (s.set w.1 w.2) (k + 1)
theorem keepAll_by (s : List (List UInt8)) (c : List (Nat × List UInt8)) : keepAll s c = keepBy (fun _ => true) 0 s c := keepAll_from s c 0
theorem keepBy_none {st : Nat → Bool} (s : List (List UInt8)) (c : List (Nat × List UInt8)) : ∀ k, (∀ t, k ≤ t → st t = false) → keepBy st k s c = s := by
  induction c with
  | nil => intro _ _; rfl
  | cons w c ih =>
    intro k h
    show keepBy st (k + 1) (if st k = true then s.set w.1 w.2 else s) c = s
    rw [h k (Nat.le_refl _)]
    exact ih (k + 1) (fun t ht => h t (by omega))
theorem keepSome_nil (s : List (List UInt8)) (c : List (Nat × List UInt8)) : keepSome s c [] = s := by cases c <;> rfl
theorem keepSome_from (s : List (List UInt8)) (c : List (Nat × List UInt8)) (ks : List Bool) (k : Nat) : keepSome s c (ks.drop k) = keepBy (fun t => ks.getD t false) k s c := by
  induction c generalizing s k with
  | nil => cases ks.drop k <;> rfl
  | cons w c ih =>
    rcases Nat.lt_or_ge k ks.length with h | h
    · rw [List.drop_eq_getElem_cons h]
      show keepSome (if ks[k] = true then s.set w.1 w.2 else s) c (ks.drop (k + 1)) = keepBy _ (k + 1) (if ks.getD k false = true then s.set w.1 w.2 else s) c
      rw [ih, List.getD_eq_getElem?_getD, List.getElem?_eq_getElem h]
      rfl
    · rw [List.drop_eq_nil_of_le h, keepSome_nil, keepBy_none]
      intro t ht
      rw [List.getD_eq_getElem?_getD, List.getElem?_eq_none (by omega)]
      rfl
theorem keepSome_by (s : List (List UInt8)) (c : List (Nat × List UInt8)) (ks : List Bool) : keepSome s c ks = keepBy (fun t => ks.getD t false) 0 s c := keepSome_from s c ks 0
theorem keepBy_len (st : Nat → Bool) (k : Nat) (s : List (List UInt8)) (c : List (Nat × List UInt8)) : (keepBy st k s c).length = s.length := by
  induction c generalizing s k with
  | nil => rfl
  | cons w c ih =>
    show (keepBy st (k + 1) (if st k = true then s.set w.1 w.2 else s) c).length = s.length
    rw [ih]
    split
    · exact List.length_set ..
    · rfl
theorem keepBy_at (st : Nat → Bool) (i : Nat) (k : Nat) (s : List (List UInt8)) (c : List (Nat × List UInt8)) : (keepBy st k s c)[i]? = s[i]?.map fun b => after st b (wtsFrom k c i) := by
  induction c generalizing s k with
  | nil => show s[i]? = _; cases s[i]? <;> rfl
  | cons w c ih =>
    show (keepBy st (k + 1) (if st k = true then s.set w.1 w.2 else s) c)[i]? = _
    rw [ih]
    simp only [wtsFrom]
    by_cases hs : st k = true
    · rw [if_pos hs]
      by_cases hw : w.1 = i
      · rw [if_pos hw, hw, List.getElem?_set_self']
        cases s[i]? with
        | none => rfl
        | some b => simp [after, hs]
      · rw [if_neg hw, List.getElem?_set_ne hw]
    · rw [if_neg hs]
      split
      · cases s[i]? with
        | none => rfl
        | some b => simp [after, hs]
      · rfl
/-- Sectors of which some have been gone through: those that are left are as they were. -/
def kept (st : Nat → Bool) (s : List (List UInt8)) (c : List (Nat × List UInt8)) (left : Nat → Bool) : List (List UInt8) :=
  (List.range s.length).map fun i => if left i = true then s.getD i [] else after st (s.getD i []) (wts c i)
theorem kept_len (st : Nat → Bool) (s : List (List UInt8)) (c : List (Nat × List UInt8)) (left : Nat → Bool) : (kept st s c left).length = s.length := by simp [kept]
theorem kept_at {st : Nat → Bool} {s : List (List UInt8)} {c : List (Nat × List UInt8)} {left : Nat → Bool} {i : Nat} (h : i < s.length) : (kept st s c left)[i]? = some (if left i = true then s.getD i [] else after st (s.getD i []) (wts c i)) := by
  simp [kept, h]
theorem getD_at {s : List (List UInt8)} {i : Nat} (h : i < s.length) : s[i]? = some (s.getD i []) := by
  rw [List.getD_eq_getElem?_getD, List.getElem?_eq_getElem h]; rfl
theorem kept_start {st : Nat → Bool} {s : List (List UInt8)} {c : List (Nat × List UInt8)} {left : Nat → Bool} (h : ∀ i, i < s.length → left i = false → wts c i = []) : kept st s c left = s := by
  apply List.ext_getElem?
  intro i
  rcases Nat.lt_or_ge i s.length with hi | hi
  · rw [kept_at hi, getD_at hi]
    cases hl : left i
    · rw [h i hi hl]; rfl
    · rfl
  · rw [List.getElem?_eq_none hi, List.getElem?_eq_none (by rw [kept_len]; exact hi)]
theorem kept_end {st : Nat → Bool} {s : List (List UInt8)} {c : List (Nat × List UInt8)} {left : Nat → Bool} (h : ∀ i, left i = false) : kept st s c left = keepBy st 0 s c := by
  apply List.ext_getElem?
  intro i
  rw [keepBy_at]
  rcases Nat.lt_or_ge i s.length with hi | hi
  · rw [kept_at hi, getD_at hi, h i]; rfl
  · rw [List.getElem?_eq_none hi, List.getElem?_eq_none (by rw [kept_len]; exact hi)]; rfl
theorem kept_step {st : Nat → Bool} {s : List (List UInt8)} {c : List (Nat × List UInt8)} {left left' : Nat → Bool} {i : Nat} (hl : ∀ j, left' j = (left j && !decide (j = i))) :
    (kept st s c left).set i (after st (s.getD i []) (wts c i)) = kept st s c left' := by
  apply List.ext_getElem?
  intro j
  rcases Nat.lt_or_ge j s.length with hj | hj
  · rw [kept_at hj, hl]
    by_cases e : i = j
    · subst e
      rw [List.getElem?_set_self (by rw [kept_len]; exact hj)]
      simp
    · rw [List.getElem?_set_ne e, kept_at hj]
      simp [show ¬ j = i from fun q => e q.symm]
  · rw [List.getElem?_eq_none (by rw [List.length_set, kept_len]; exact hj), List.getElem?_eq_none (by rw [kept_len]; exact hj)]
theorem kept_secs {st : Nat → Bool} {s : List (List UInt8)} {c : List (Nat × List UInt8)} {left : Nat → Bool} (hs : ∀ b ∈ s, b.length = 64) (hc : ∀ w ∈ c, w.2.length = 64) : ∀ b ∈ kept st s c left, b.length = 64 := by
  intro b hb
  simp only [kept, List.mem_map, List.mem_range] at hb
  obtain ⟨i, hi, rfl⟩ := hb
  have h64 : (s.getD i []).length = 64 := hs _ (List.mem_of_getElem? (getD_at hi))
  split
  · exact h64
  · exact after_len h64 (fun x hx => hc (i, x.2) (wts_mem hx).2)
end Dk
end Go.Proofs.YtpnfpeeijghamaaGreat
