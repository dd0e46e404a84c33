/- Disks of plain values: sectors, a cache of writes, faults; what each deed does, and what a crash leaves. Nothing of the program. -/
import Derived.Below
namespace Go.Proofs.Ytogobeinckgjmaa
namespace Dk

def zero64 : List UInt8 := List.replicate 64 0
/-- A sector's bytes: those written, and noughts behind them. -/
def sec (b : List UInt8) : List UInt8 := b ++ List.replicate (64 - b.length) 0
structure D where
  s : List (List UInt8)
  cache : List (Nat × List UInt8)
  bad : List Bool
  left : Int
  dead : Bool

def count (n : Int) : Nat := min n.toNat 4096
def fresh (k : Nat) : D := ⟨List.replicate k zero64, [], List.replicate k false, -1, false⟩
def new (n : Int) : D := fresh (count n)
def has (d : D) (i : Int) : Bool := decide (0 ≤ i) && decide (i < (d.s.length : Int))
/-- A write or a flush begins: the error's number, and the disk. -/
def act (d : D) : Int × D :=
  if d.dead = true ∨ d.left = 0 then (50, { d with dead := true })
  else (0, if 0 < d.left then { d with left := d.left - 1 } else d)
def put (d : D) (i : Int) (b : List UInt8) : D := { d with cache := d.cache ++ [(i.toNat, sec b)] }
def write (d : D) (i : Int) (b : List UInt8) : Int × D :=
  if d.dead = true then (50, d)
  else if has d i = false then (1, d)
  else if 64 < b.length then (2, d)
  else if (act d).1 = 0 then (0, put (act d).2 i b) else act d
/-- What is there, with writes on top. -/
def seen (s : List UInt8) (i : Nat) (c : List (Nat × List UInt8)) : List UInt8 := c.foldl (fun b w => if w.1 = i then w.2 else b) s
def look (d : D) (i : Nat) : List UInt8 := seen (d.s.getD i []) i d.cache
def read (d : D) (i : Int) : List UInt8 × Int :=
  if d.dead = true then ([], 50)
  else if has d i = false then ([], 1)
  else if d.bad.getD i.toNat false = true then ([], 52)
  else (look d i.toNat, 0)
/-- Writes are kept for good. -/
def keepAll (s : List (List UInt8)) (c : List (Nat × List UInt8)) : List (List UInt8) := c.foldl (fun s w => s.set w.1 w.2) s
def flush (d : D) : Int × D :=
  if (act d).1 = 0 then (0, { (act d).2 with s := keepAll d.s d.cache, cache := [] }) else act d
def arm (d : D) (n : Int) : D := { d with left := if 0 ≤ n then n else -1 }
def keepSome (s : List (List UInt8)) : List (Nat × List UInt8) → List Bool → List (List UInt8)
  | [], _ => s
  | _ :: _, [] => s
  | w :: c, k :: ks => keepSome (if k = true then s.set w.1 w.2 else s) c ks
def crash (d : D) (ks : List Bool) : D := { d with s := keepSome d.s d.cache ks, cache := [], left := -1, dead := false }
def fault (d : D) (i : Int) (on : Bool) : D := if has d i = true then { d with bad := d.bad.set i.toNat on } else d
def wipe (d : D) : D := fresh d.s.length
def clone (d : D) : D := { fresh d.s.length with s := d.s }

/-- What every disk is. -/
structure D.ok (d : D) : Prop where
  bads : d.bad.length = d.s.length
  few : d.s.length ≤ 4096
  secs : ∀ b ∈ d.s, b.length = 64
  at_ : ∀ w ∈ d.cache, w.1 < d.s.length ∧ w.2.length = 64
  left : -1 ≤ d.left

theorem sec_len {b : List UInt8} (h : b.length ≤ 64) : (sec b).length = 64 := by
  unfold sec
  rw [List.length_append, List.length_replicate]
  omega
theorem sec_nil : sec [] = zero64 := rfl
theorem fresh_ok {k : Nat} (h : k ≤ 4096) : (fresh k).ok := by
  refine ⟨by simp [fresh], by simpa [fresh] using h, ?_, by simp [fresh], by show (-1 : Int) ≤ -1; omega⟩
  intro b hb
  rw [List.eq_of_mem_replicate hb]
  rfl
theorem new_ok (n : Int) : (new n).ok := fresh_ok (by unfold count; omega)
theorem act_ok {d : D} (h : d.ok) : (act d).2.ok := by
  unfold act
  split
  · exact ⟨h.bads, h.few, h.secs, h.at_, h.left⟩
  · split
    · exact ⟨h.bads, h.few, h.secs, h.at_, by have := h.left; show -1 ≤ d.left - 1; omega⟩
    · exact h
theorem act_s (d : D) : (act d).2.s = d.s := by unfold act; split <;> (try split) <;> rfl
theorem act_cache (d : D) : (act d).2.cache = d.cache := by unfold act; split <;> (try split) <;> rfl
theorem act_bad (d : D) : (act d).2.bad = d.bad := by unfold act; split <;> (try split) <;> rfl
theorem act_no {d : D} (h : (act d).1 ≠ 0) : (act d).1 = 50 ∧ (act d).2 = { d with dead := true } := by
  unfold act at h ⊢
  split at h
  · rename_i q; rw [if_pos q]; exact ⟨rfl, rfl⟩
  · exact absurd rfl h
theorem act_yes {d : D} (h : (act d).1 = 0) : d.dead = false ∧ d.left ≠ 0 ∧ (act d).2 = if 0 < d.left then { d with left := d.left - 1 } else d := by
  unfold act at h ⊢
  split at h
  · cases h
  · rename_i q
    rw [if_neg q]
    refine ⟨?_, fun e => q (Or.inr e), rfl⟩
    cases hd : d.dead
    · rfl
    · exact absurd (Or.inl hd) q
theorem has_iff {d : D} {i : Int} : has d i = true ↔ 0 ≤ i ∧ i < (d.s.length : Int) := by unfold has; rw [Bool.and_eq_true, decide_eq_true_eq, decide_eq_true_eq]
theorem put_ok {d : D} (h : d.ok) {i : Int} (hi : has d i = true) {b : List UInt8} (hb : b.length ≤ 64) : (put d i b).ok := by
  obtain ⟨h0, h1⟩ := has_iff.1 hi
  refine ⟨h.bads, h.few, h.secs, ?_, h.left⟩
  intro w hw
  unfold put at hw
  rw [List.mem_append, List.mem_singleton] at hw
  rcases hw with hw | rfl
  · exact h.at_ w hw
  · exact ⟨by show i.toNat < d.s.length; omega, sec_len hb⟩
theorem write_ok {d : D} (h : d.ok) (i : Int) (b : List UInt8) : (write d i b).2.ok := by
  unfold write
  split
  · exact h
  split
  · exact h
  split
  · exact h
  · rename_i h1 h2 h3
    split
    · refine put_ok (act_ok h) ?_ (by omega)
      unfold has at h2 ⊢
      rw [act_s]
      simpa using h2
    · exact act_ok h
theorem keepAll_len (s : List (List UInt8)) (c : List (Nat × List UInt8)) : (keepAll s c).length = s.length := by
  induction c generalizing s with
  | nil => rfl
  | cons w c ih => exact (ih (s.set w.1 w.2)).trans (List.length_set ..)
theorem set_secs {s : List (List UInt8)} (hs : ∀ b ∈ s, b.length = 64) {w : Nat × List UInt8} (hw : w.2.length = 64) : ∀ b ∈ s.set w.1 w.2, b.length = 64 := by
  intro b hb
  rcases List.mem_or_eq_of_mem_set hb with q | rfl
  · exact hs b q
  · exact hw
theorem keepAll_secs {s : List (List UInt8)} {c : List (Nat × List UInt8)} (hs : ∀ b ∈ s, b.length = 64) (hc : ∀ w ∈ c, w.2.length = 64) : ∀ b ∈ keepAll s c, b.length = 64 := by
  induction c generalizing s with
  | nil => exact hs
  | cons w c ih => exact ih (set_secs hs (hc w (by simp))) (fun x hx => hc x (by simp [hx]))
theorem keepSome_len (s : List (List UInt8)) (c : List (Nat × List UInt8)) (ks : List Bool) : (keepSome s c ks).length = s.length := by
  induction c generalizing s ks with
  | nil => cases ks <;> rfl
  | cons w c ih =>
    cases ks with
    | nil => rfl
    | cons k ks =>
      show (keepSome (if k = true then s.set w.1 w.2 else s) c ks).length = s.length
      rw [ih]
      split
      · exact List.length_set ..
      · rfl
theorem keepSome_secs {s : List (List UInt8)} {c : List (Nat × List UInt8)} {ks : List Bool} (hs : ∀ b ∈ s, b.length = 64) (hc : ∀ w ∈ c, w.2.length = 64) : ∀ b ∈ keepSome s c ks, b.length = 64 := by
  induction c generalizing s ks with
  | nil => cases ks <;> exact hs
  | cons w c ih =>
    cases ks with
    | nil => exact hs
    | cons k ks =>
      refine ih (s := if k = true then s.set w.1 w.2 else s) (ks := ks) ?_ (fun x hx => hc x (by simp [hx]))
      split
      · exact set_secs hs (hc w (by simp))
      · exact hs
theorem flush_ok {d : D} (h : d.ok) : (flush d).2.ok := by
  unfold flush
  split
  · have a := act_ok h
    refine ⟨?_, ?_, ?_, by simp, a.left⟩
    · show (act d).2.bad.length = (keepAll d.s d.cache).length
      rw [act_bad, keepAll_len, h.bads]
    · show (keepAll d.s d.cache).length ≤ 4096
      rw [keepAll_len]; exact h.few
    · exact keepAll_secs h.secs (fun w hw => (h.at_ w hw).2)
  · exact act_ok h
theorem arm_ok {d : D} (h : d.ok) (n : Int) : (arm d n).ok := ⟨h.bads, h.few, h.secs, h.at_, by show -1 ≤ (if 0 ≤ n then n else -1); split <;> omega⟩
theorem crash_ok {d : D} (h : d.ok) (ks : List Bool) : (crash d ks).ok :=
  ⟨by show d.bad.length = (keepSome d.s d.cache ks).length; rw [keepSome_len]; exact h.bads, by show (keepSome d.s d.cache ks).length ≤ 4096; rw [keepSome_len]; exact h.few, keepSome_secs h.secs (fun w hw => (h.at_ w hw).2), by simp [crash], by show (-1 : Int) ≤ -1; omega⟩
theorem fault_ok {d : D} (h : d.ok) (i : Int) (on : Bool) : (fault d i on).ok := by
  unfold fault
  split
  · exact ⟨by show (d.bad.set i.toNat on).length = d.s.length; rw [List.length_set]; exact h.bads, h.few, h.secs, h.at_, h.left⟩
  · exact h
theorem wipe_ok {d : D} (h : d.ok) : (wipe d).ok := fresh_ok h.few
theorem clone_ok {d : D} (h : d.ok) : (clone d).ok := by
  have f := fresh_ok h.few
  exact ⟨f.bads.trans (by simp [fresh, clone]), h.few, h.secs, by simp [fresh, clone], f.left⟩
theorem seen_len {s : List UInt8} {i : Nat} {c : List (Nat × List UInt8)} (hs : s.length = 64) (hc : ∀ w ∈ c, w.2.length = 64) : (seen s i c).length = 64 := by
  induction c generalizing s with
  | nil => exact hs
  | cons w c ih =>
    refine ih (s := if w.1 = i then w.2 else s) ?_ (fun x hx => hc x (by simp [hx]))
    split
    · exact hc w (by simp)
    · exact hs
theorem look_len {d : D} (h : d.ok) {i : Nat} (hi : i < d.s.length) : (look d i).length = 64 := by
  unfold look
  refine seen_len ?_ (fun w hw => (h.at_ w hw).2)
  rw [List.getD_eq_getElem?_getD, List.getElem?_eq_getElem hi]
  exact h.secs _ (List.getElem_mem hi)
end Dk
end Go.Proofs.Ytogobeinckgjmaa
