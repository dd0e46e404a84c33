/- Slots of plain numbers: their bytes, what bytes are one; a disk's two slots. Nothing of the program. What slots on a disk tell: behind a save, and behind whatever crash strikes within one. Nothing of the program. Numbers in memory; the document's own N onto bytes without spare room; its Slot, its SameNumbers. Contracts of the document's own Slot and SameNumbers. -/
import Derived.Test.YtpnfpeeijghamaaGreatCd
import Derived.Test.YtpnfpeeijghamaaGreatCs
import Derived.Test.YtpnfpeeijghamaaGreatDk
import Derived.Test.YtpnfpeeijghamaaGreatAp
import Derived.Test.YtpnfpeeijghamaaGreatCw
import Derived.Lib.SlBytesConst
import Derived.RegionTactic
namespace Go.Proofs.YtpnfpeeijghamaaGreat
set_option maxRecDepth 100000

section
namespace Su

def body (g : Nat) (l : List Nat) : List UInt8 := [70, 83] ++ Cd.num g ++ Cd.num l.length ++ l.flatMap Cd.num
def slot (g : Nat) (l : List Nat) : List UInt8 := body g l ++ Cd.fix (Crc.sum (body g l)) 4
def slotE (l : List Nat) : Int := if 4 < l.length then 2 else 0
def slotB (g : Nat) (l : List Nat) : List UInt8 := if 4 < l.length then [] else slot g l
/-- So many numbers. -/
def rdL : Nat → Option (List UInt8) → List Nat × Option (List UInt8)
  | 0, s => ([], s)
  | k + 1, s => ((Cd.rdN Cd.full s).1 :: (rdL k (Cd.rdN Cd.full s).2).1, (rdL k (Cd.rdN Cd.full s).2).2)
/-- What the bytes behind the first two tell: the generation, the numbers, what is left. -/
def tell (s : Option (List UInt8)) : Nat × List Nat × Option (List UInt8) :=
  let g := Cd.rdN Cd.full s
  let n := Cd.rdN 4 g.2
  let l := rdL n.1 n.2
  (g.1, l.1, l.2)
def is (b : List UInt8) (g : Nat) (l : List Nat) : Bool := decide ((slot g l).length ≤ b.length) && decide (slot g l = b.take (slot g l).length) && (b.drop (slot g l).length).all (· == 0)
def unslot (b : List UInt8) : Option (Nat × List Nat) :=
  if b.take 2 = [70, 83] then
    (if (tell (some (b.drop 2))).2.2.isSome = true ∧ is b (tell (some (b.drop 2))).1 (tell (some (b.drop 2))).2.1 = true then some ((tell (some (b.drop 2))).1, (tell (some (b.drop 2))).2.1) else none)
  else none

structure Good (g : Nat) (l : List Nat) : Prop where
  gen : g < 18446744073709551616
  nums : ∀ n ∈ l, n < 18446744073709551616
  few : l.length ≤ 4

theorem full_max {n : Nat} (h : n < 18446744073709551616) : n ≤ Cd.full := by unfold Cd.full; omega
theorem rdL_len (k : Nat) (s : Option (List UInt8)) : (rdL k s).1.length = k := by
  induction k generalizing s with
  | zero => rfl
  | succ k ih => simp [rdL, ih]
theorem rdL_lt (k : Nat) (s : Option (List UInt8)) : ∀ n ∈ (rdL k s).1, n < 18446744073709551616 := by
  induction k generalizing s with
  | zero => simp [rdL]
  | succ k ih =>
    intro n hn
    simp only [rdL, List.mem_cons] at hn
    rcases hn with rfl | hn
    · exact (Cd.rdN_lt _ _).1
    · exact ih _ n hn
theorem rdL_snoc (k : Nat) (s : Option (List UInt8)) : rdL (k + 1) s = ((rdL k s).1 ++ [(Cd.rdN Cd.full (rdL k s).2).1], (Cd.rdN Cd.full (rdL k s).2).2) := by
  induction k generalizing s with
  | zero => rfl
  | succ k ih =>
    show ((Cd.rdN Cd.full s).1 :: (rdL (k + 1) (Cd.rdN Cd.full s).2).1, (rdL (k + 1) (Cd.rdN Cd.full s).2).2) = _
    rw [ih]
    rfl
theorem rdL_read {l : List Nat} (h : ∀ n ∈ l, n < 18446744073709551616) (t : List UInt8) : rdL l.length (some (l.flatMap Cd.num ++ t)) = (l, some t) := by
  induction l with
  | nil => rfl
  | cons n l ih =>
    have hn := h n (by simp)
    have e := Cd.num_read hn (full_max hn) (l.flatMap Cd.num ++ t)
    simp only [List.length_cons, rdL, List.flatMap_cons, List.append_assoc]
    rw [e, ih (fun x hx => h x (by simp [hx]))]
theorem num_len (n : Nat) : 1 ≤ (Cd.num n).length ∧ (Cd.num n).length ≤ 9 := by
  unfold Cd.num
  split
  · simp
  · have := Cd.wid_pos n
    rw [List.length_cons, Cd.fix_len]
    omega
theorem nums_len (l : List Nat) : (l.flatMap Cd.num).length ≤ 9 * l.length := by
  induction l with
  | nil => simp
  | cons n l ih =>
    have := num_len n
    rw [List.flatMap_cons, List.length_append, List.length_cons]
    omega
theorem body_len (g : Nat) (l : List Nat) : (body g l).length ≤ 20 + 9 * l.length ∧ 4 ≤ (body g l).length := by
  have h1 := num_len g
  have h2 := num_len l.length
  have h3 := nums_len l
  unfold body
  simp only [List.length_append, List.length_cons, List.length_nil]
  omega
theorem slot_len (g : Nat) (l : List Nat) : (slot g l).length = (body g l).length + 4 := by unfold slot; rw [List.length_append, Cd.fix_len]
theorem slot_fits {g : Nat} {l : List Nat} (h : l.length ≤ 4) : (slot g l).length ≤ 60 := by
  rw [slot_len]
  have := (body_len g l).1
  omega
theorem slot_long (g : Nat) (l : List Nat) : (slot g l).length ≤ 24 + 9 * l.length := by
  rw [slot_len]
  have := (body_len g l).1
  omega
theorem small_len {l : List Nat} (h : l.length ≤ 4) : l.length < 18446744073709551616 := by omega
theorem tell_slot {g : Nat} {l : List Nat} (h : Good g l) (t : List UInt8) : tell (some ((slot g l ++ t).drop 2)) = (g, l, some (Cd.fix (Crc.sum (body g l)) 4 ++ t)) := by
  have e : (slot g l ++ t).drop 2 = Cd.num g ++ (Cd.num l.length ++ (l.flatMap Cd.num ++ (Cd.fix (Crc.sum (body g l)) 4 ++ t))) := by
    conv => lhs; unfold slot
    have q : body g l = [70, 83] ++ (Cd.num g ++ Cd.num l.length ++ l.flatMap Cd.num) := by unfold body; simp
    conv => lhs; rw [show body g l ++ Cd.fix (Crc.sum (body g l)) 4 ++ t = body g l ++ (Cd.fix (Crc.sum (body g l)) 4 ++ t) by rw [List.append_assoc]]
    generalize Cd.fix (Crc.sum (body g l)) 4 ++ t = x
    rw [q]
    simp
  rw [e]
  unfold tell
  simp only
  rw [Cd.num_read h.gen (full_max h.gen)]
  simp only
  rw [Cd.num_read (small_len h.few) h.few]
  simp only
  rw [rdL_read h.nums]
theorem unslot_slot {g : Nat} {l : List Nat} (h : Good g l) (k : Nat) : unslot (slot g l ++ List.replicate k 0) = some (g, l) := by
  unfold unslot
  rw [if_pos (by unfold slot body; simp)]
  rw [tell_slot h]
  refine if_pos ⟨rfl, ?_⟩
  unfold is
  rw [Bool.and_eq_true, Bool.and_eq_true]
  refine ⟨⟨by simp, by simp⟩, ?_⟩
  simp only
  rw [List.drop_left, List.all_eq_true]
  intro x hx
  rw [List.eq_of_mem_replicate hx]
  rfl
theorem zeros_of {l : List UInt8} (h : l.all (· == 0) = true) : l = List.replicate l.length 0 := by
  rw [List.all_eq_true] at h
  exact List.eq_replicate_iff.2 ⟨rfl, fun x hx => by simpa using h x hx⟩
theorem is_iff {b : List UInt8} {g : Nat} {l : List Nat} : is b g l = true ↔ ∃ k, b = slot g l ++ List.replicate k 0 := by
  unfold is
  rw [Bool.and_eq_true, Bool.and_eq_true, decide_eq_true_eq, decide_eq_true_eq]
  constructor
  · rintro ⟨⟨_, h2⟩, h3⟩
    refine ⟨(b.drop (slot g l).length).length, ?_⟩
    have e1 := List.take_append_drop (slot g l).length b
    rw [← h2] at e1
    rw [← zeros_of h3]
    exact e1.symm
  · rintro ⟨k, rfl⟩
    refine ⟨⟨by simp, by simp⟩, ?_⟩
    rw [List.drop_left, List.all_eq_true]
    intro x hx
    rw [List.eq_of_mem_replicate hx]
    rfl
theorem tell_good (s : Option (List UInt8)) : Good (tell s).1 (tell s).2.1 :=
  ⟨(Cd.rdN_lt _ _).1, rdL_lt _ _, by
    show (rdL _ _).1.length ≤ 4
    rw [rdL_len]
    exact (Cd.rdN_lt _ _).2⟩
theorem unslot_iff {b : List UInt8} {g : Nat} {l : List Nat} : unslot b = some (g, l) ↔ Good g l ∧ ∃ k, b = slot g l ++ List.replicate k 0 := by
  constructor
  · intro h
    unfold unslot at h
    split at h
    · split at h
      · rename_i q
        injection h with h
        injection h with h1 h2
        have hg := tell_good (some (b.drop 2))
        rw [h1, h2] at hg q
        exact ⟨hg, is_iff.1 q.2⟩
      · cases h
    · cases h
  · rintro ⟨hg, k, rfl⟩
    exact unslot_slot hg k
theorem unslot_good {b : List UInt8} {g : Nat} {l : List Nat} (h : unslot b = some (g, l)) : Good g l := (unslot_iff.1 h).1
theorem unslot_sec {g : Nat} {l : List Nat} (h : Good g l) : unslot (Dk.sec (slot g l)) = some (g, l) := unslot_slot h _
theorem unslot_zero : unslot Dk.zero64 = none := by
  unfold unslot
  exact if_neg (by decide)
def unG (b : List UInt8) : Nat := match unslot b with | none => 0 | some x => x.1
def unL (b : List UInt8) : List Nat := match unslot b with | none => [] | some x => x.2
def unE (b : List UInt8) : Int := match unslot b with | none => 60 | some _ => 0

/-- What is saved, formatted, loaded: the error's number, and the disk. -/
def save (d : Dk.D) (g : Nat) (l : List Nat) : Int × Dk.D :=
  if 4 < l.length then (2, d)
  else if (Dk.flush d).1 = 0 then
    (if (Dk.write (Dk.flush d).2 ((g % 2 : Nat) : Int) (slot g l)).1 = 0 then Dk.flush (Dk.write (Dk.flush d).2 ((g % 2 : Nat) : Int) (slot g l)).2
     else Dk.write (Dk.flush d).2 ((g % 2 : Nat) : Int) (slot g l))
  else Dk.flush d
def format (d : Dk.D) (l : List Nat) : Int × Dk.D :=
  if (Dk.write d 0 []).1 = 0 then
    (if (Dk.write (Dk.write d 0 []).2 1 []).1 = 0 then save (Dk.write (Dk.write d 0 []).2 1 []).2 0 l else Dk.write (Dk.write d 0 []).2 1 [])
  else Dk.write d 0 []
/-- Which of two slots counts. -/
def pick (a b : Option (Nat × List Nat)) : Option (Nat × List Nat) :=
  match a, b with
  | none, b => b
  | some x, none => some x
  | some x, some y => if x.1 < y.1 then some y else some x
def ofPick : Option (Nat × List Nat) → Nat × List Nat × Int
  | none => (0, [], 60)
  | some x => (x.1, x.2, 0)
def load (d : Dk.D) : Nat × List Nat × Int :=
  if (Dk.read d 0).2 = 0 then (if (Dk.read d 1).2 = 0 then ofPick (pick (unslot (Dk.read d 0).1) (unslot (Dk.read d 1).1)) else (0, [], (Dk.read d 1).2))
  else (0, [], (Dk.read d 0).2)
end Su

namespace Su

/-- The sectors tell generation g with the numbers l. -/
structure Two (g : Nat) (l : List Nat) (s : List (List UInt8)) : Prop where
  good : Good g l
  two : 2 ≤ s.length
  cur : unslot (s.getD (g % 2) []) = some (g, l)
  oth : ∀ x, unslot (s.getD ((g + 1) % 2) []) = some x → x.1 < g
/-- Nothing cached, no faults in sectors 0 and 1, alive. -/
structure Calm (d : Dk.D) : Prop where
  ok : d.ok
  dead : d.dead = false
  cache : d.cache = []
  bad0 : d.bad.getD 0 false = false
  bad1 : d.bad.getD 1 false = false

theorem read_calm {d : Dk.D} (h : Calm d) {i : Nat} (hi : i < d.s.length) (hb : d.bad.getD i false = false) : Dk.read d (i : Int) = (d.s.getD i [], 0) := by
  unfold Dk.read
  rw [if_neg (by rw [h.dead]; simp), if_neg (by rw [Dk.has_iff.2 ⟨by omega, by omega⟩]; simp), if_neg (by rw [Int.toNat_natCast, hb]; simp)]
  unfold Dk.look
  rw [h.cache, Int.toNat_natCast]
  rfl
theorem load_two' {d : Dk.D} {g : Nat} {l : List Nat} (h : Calm d) (t : Two g l d.s) : load d = (g, l, 0) := by
  have r0 := read_calm h (i := 0) (by have := t.two; omega) h.bad0
  have r1 := read_calm h (i := 1) (by have := t.two; omega) h.bad1
  unfold load
  have e0 : Dk.read d 0 = (d.s.getD 0 [], 0) := r0
  have e1 : Dk.read d 1 = (d.s.getD 1 [], 0) := r1
  rw [e0, e1, if_pos rfl, if_pos rfl]
  show ofPick (pick (unslot (d.s.getD 0 [])) (unslot (d.s.getD 1 []))) = _
  have hc := t.cur
  have ho := t.oth
  rcases Nat.mod_two_eq_zero_or_one g with m | m
  · have m1 : (g + 1) % 2 = 1 := by omega
    rw [m] at hc
    rw [m1] at ho
    rw [hc]
    cases h1 : unslot (d.s.getD 1 []) with
    | none => rfl
    | some y =>
      have := ho y h1
      show ofPick (if g < y.1 then some y else some (g, l)) = _
      rw [if_neg (by omega)]
      rfl
  · have m1 : (g + 1) % 2 = 0 := by omega
    rw [m] at hc
    rw [m1] at ho
    rw [hc]
    cases h1 : unslot (d.s.getD 0 []) with
    | none => rfl
    | some y =>
      have := ho y h1
      show ofPick (if y.1 < g then some (g, l) else some y) = _
      rw [if_pos (by omega)]
      rfl
theorem getD_set_self {s : List (List UInt8)} {i : Nat} {b : List UInt8} (h : i < s.length) : (s.set i b).getD i [] = b := by
  rw [List.getD_eq_getElem?_getD, List.getElem?_set_self h]; rfl
theorem getD_set_other {s : List (List UInt8)} {i j : Nat} {b : List UInt8} (h : i ≠ j) : (s.set i b).getD j [] = s.getD j [] := by
  rw [List.getD_eq_getElem?_getD, List.getElem?_set_ne h, List.getD_eq_getElem?_getD]
theorem Two.next {g : Nat} {l k : List Nat} {s : List (List UInt8)} (t : Two g l s) (hk : Good (g + 1) k) : Two (g + 1) k (s.set ((g + 1) % 2) (Dk.sec (slot (g + 1) k))) := by
  have h2 := t.two
  have hi : (g + 1) % 2 < s.length := by omega
  have e2 : (g + 1 + 1) % 2 = g % 2 := by omega
  have ne : (g + 1) % 2 ≠ g % 2 := by omega
  refine ⟨hk, by simpa using h2, ?_, ?_⟩
  · rw [getD_set_self hi]; exact unslot_sec hk
  · rw [e2, getD_set_other ne, t.cur]
    intro x hx
    injection hx with hx
    subst hx
    show g < g + 1
    omega
/-- What a save does with a disk that has nothing cached, step by step. -/
theorem act_alive {d : Dk.D} (h : d.dead = false) (hl : d.left ≠ 0) : Dk.act d = (0, if 0 < d.left then { d with left := d.left - 1 } else d) := by
  unfold Dk.act; rw [if_neg (by rw [h]; simpa using hl)]
theorem act_dies {d : Dk.D} (hl : d.left = 0) : Dk.act d = (50, { d with dead := true }) := by unfold Dk.act; rw [if_pos (Or.inr hl)]
def down (n : Int) : Int := if 0 < n then n - 1 else n
theorem flush_alive {d : Dk.D} (h : d.dead = false) (hl : d.left ≠ 0) : Dk.flush d = (0, { d with s := Dk.keepAll d.s d.cache, cache := [], left := down d.left }) := by
  unfold Dk.flush
  rw [act_alive h hl, if_pos rfl]
  unfold down
  by_cases q : 0 < d.left
  · rw [if_pos q, if_pos q]
  · rw [if_neg q, if_neg q]
theorem flush_dies {d : Dk.D} (hl : d.left = 0) : Dk.flush d = (50, { d with dead := true }) := by unfold Dk.flush; rw [act_dies hl, if_neg (show ¬ (50 : Int) = 0 by decide)]
theorem write_alive {d : Dk.D} {i : Nat} {b : List UInt8} (h : d.dead = false) (hl : d.left ≠ 0) (hi : i < d.s.length) (hb : b.length ≤ 64) : Dk.write d (i : Int) b = (0, { d with cache := d.cache ++ [(i, Dk.sec b)], left := down d.left }) := by
  unfold Dk.write
  rw [if_neg (by rw [h]; simp), if_neg (by rw [Dk.has_iff.2 ⟨by omega, by omega⟩]; simp), if_neg (by omega), act_alive h hl, if_pos rfl]
  unfold Dk.put down
  by_cases q : 0 < d.left
  · rw [if_pos q, if_pos q, Int.toNat_natCast]
  · rw [if_neg q, if_neg q, Int.toNat_natCast]
theorem write_dies {d : Dk.D} {i : Nat} {b : List UInt8} (h : d.dead = false) (hl : d.left = 0) (hi : i < d.s.length) (hb : b.length ≤ 64) : Dk.write d (i : Int) b = (50, { d with dead := true }) := by
  unfold Dk.write
  rw [if_neg (by rw [h]; simp), if_neg (by rw [Dk.has_iff.2 ⟨by omega, by omega⟩]; simp), if_neg (by omega), act_dies hl, if_neg (show ¬ (50 : Int) = 0 by decide)]

/-- A save that went well. -/
theorem save_well {d : Dk.D} {g : Nat} {l k : List Nat} (h : Calm d) (hl : d.left = -1) (t : Two g l d.s) (hk : Good (g + 1) k) :
    (save d (g + 1) k).1 = 0 ∧ Calm (save d (g + 1) k).2 ∧ (save d (g + 1) k).2.left = -1 ∧ (save d (g + 1) k).2.s.length = d.s.length ∧ Two (g + 1) k (save d (g + 1) k).2.s := by
  have sf := slot_fits (g := g + 1) (l := k) hk.few
  have hi : (g + 1) % 2 < d.s.length := by have := t.two; omega
  have f1 := flush_alive h.dead (by rw [hl]; decide)
  rw [h.cache] at f1
  have f2 := write_alive (d := { d with s := Dk.keepAll d.s [], cache := [], left := down d.left }) (i := (g + 1) % 2) (b := slot (g + 1) k) h.dead (by show down d.left ≠ 0; rw [hl]; decide) hi (by omega)
  have f3 := flush_alive (d := { d with s := Dk.keepAll d.s [], cache := [] ++ [((g + 1) % 2, Dk.sec (slot (g + 1) k))], left := down (down d.left) }) h.dead (by show down (down d.left) ≠ 0; rw [hl]; decide)
  have e : save d (g + 1) k = (0, { d with s := d.s.set ((g + 1) % 2) (Dk.sec (slot (g + 1) k)), cache := [], left := -1 }) := by
    unfold save
    rw [if_neg (by have := hk.few; omega), f1, if_pos rfl]
    simp only
    rw [f2, if_pos rfl]
    simp only
    rw [f3, hl]
    rfl
  rw [e]
  have tn := t.next hk
  refine ⟨rfl, ⟨⟨?_, ?_, Dk.set_secs h.ok.secs (w := ((g + 1) % 2, _)) (Dk.sec_len (by omega)), by simp, by show (-1 : Int) ≤ -1; omega⟩, h.dead, rfl, h.bad0, h.bad1⟩, rfl, by simp, tn⟩
  · show d.bad.length = (d.s.set _ _).length
    rw [List.length_set]; exact h.ok.bads
  · show (d.s.set _ _).length ≤ 4096
    rw [List.length_set]; exact h.ok.few
/-- A disk that is formatted. -/
theorem format_well {n : Int} (hn : 2 ≤ n) {l : List Nat} (hl : Good 0 l) :
    (format (Dk.new n) l).1 = 0 ∧ Calm (format (Dk.new n) l).2 ∧ (format (Dk.new n) l).2.left = -1 ∧ (format (Dk.new n) l).2.s.length = (Dk.new n).s.length ∧ Two 0 l (format (Dk.new n) l).2.s := by
  obtain ⟨k, hk, hk2⟩ : ∃ k, Dk.new n = Dk.fresh k ∧ 2 ≤ k ∧ k ≤ 4096 := ⟨_, rfl, by unfold Dk.count; omega, by unfold Dk.count; omega⟩
  rw [hk]
  have sf := slot_fits (g := 0) (l := l) hl.few
  have len : (Dk.fresh k).s.length = k := by simp [Dk.fresh]
  have w1 := write_alive (d := Dk.fresh k) (i := 0) (b := []) rfl (by show (-1 : Int) ≠ 0; decide) (by rw [len]; omega) (by simp)
  have w2 := write_alive (d := { Dk.fresh k with cache := [] ++ [(0, Dk.sec [])], left := -1 }) (i := 1) (b := []) rfl (by show (-1 : Int) ≠ 0; decide) (by rw [len]; omega) (by simp)
  have ks : Dk.keepAll (Dk.fresh k).s ([] ++ [(0, Dk.sec [])] ++ [(1, Dk.sec [])]) = (Dk.fresh k).s := by
    show ((List.replicate k Dk.zero64).set 0 Dk.zero64).set 1 Dk.zero64 = List.replicate k Dk.zero64
    have e : ∀ i, (List.replicate k Dk.zero64).set i Dk.zero64 = List.replicate k Dk.zero64 := fun i => by
      apply List.ext_getElem?
      intro j
      rw [List.getElem?_set]
      split
      · rename_i q
        subst q
        split
        · rename_i q2
          rw [List.length_replicate] at q2
          rw [List.getElem?_replicate, if_pos q2]
        · rename_i q2
          rw [List.length_replicate] at q2
          rw [List.getElem?_replicate, if_neg q2]
      · rfl
    rw [e, e]
  have f1 := flush_alive (d := { Dk.fresh k with cache := [] ++ [(0, Dk.sec [])] ++ [(1, Dk.sec [])], left := -1 }) rfl (by show (-1 : Int) ≠ 0; decide)
  have f1' : Dk.flush { Dk.fresh k with cache := [] ++ [(0, Dk.sec [])] ++ [(1, Dk.sec [])], left := -1 } = (0, Dk.fresh k) := by
    rw [f1]
    show (0, _) = _
    rw [ks]
    rfl
  have f2 := write_alive (d := Dk.fresh k) (i := 0 % 2) (b := slot 0 l) rfl (by show (-1 : Int) ≠ 0; decide) (by rw [len]; omega) (by omega)
  have f3 := flush_alive (d := { Dk.fresh k with cache := [] ++ [(0 % 2, Dk.sec (slot 0 l))], left := -1 }) rfl (by show (-1 : Int) ≠ 0; decide)
  have e : format (Dk.fresh k) l = (0, { Dk.fresh k with s := (Dk.fresh k).s.set 0 (Dk.sec (slot 0 l)), cache := [], left := -1 }) := by
    unfold format
    have w1' : Dk.write (Dk.fresh k) 0 [] = (0, { Dk.fresh k with cache := [] ++ [(0, Dk.sec [])], left := -1 }) := w1
    rw [w1', if_pos rfl]
    simp only
    have w2' : Dk.write { Dk.fresh k with cache := [] ++ [(0, Dk.sec [])], left := -1 } 1 [] = (0, { Dk.fresh k with cache := [] ++ [(0, Dk.sec [])] ++ [(1, Dk.sec [])], left := -1 }) := w2
    rw [w2', if_pos rfl]
    simp only
    unfold save
    rw [if_neg (by have := hl.few; omega), f1', if_pos rfl]
    simp only
    have f2' : Dk.write (Dk.fresh k) ((0 % 2 : Nat) : Int) (slot 0 l) = (0, { Dk.fresh k with cache := [] ++ [(0 % 2, Dk.sec (slot 0 l))], left := -1 }) := f2
    rw [f2', if_pos rfl]
    simp only
    rw [f3]
    rfl
  have fo := Dk.fresh_ok hk2.2
  rw [e]
  refine ⟨rfl, ⟨⟨?_, ?_, Dk.set_secs fo.secs (w := (0, _)) (Dk.sec_len (by omega)), by simp, by show (-1 : Int) ≤ -1; omega⟩, rfl, rfl, ?_, ?_⟩, rfl, by simp, hl, ?_, ?_, ?_⟩
  · show (Dk.fresh k).bad.length = ((Dk.fresh k).s.set _ _).length
    rw [List.length_set]; exact fo.bads
  · show ((Dk.fresh k).s.set _ _).length ≤ 4096
    rw [List.length_set]; exact fo.few
  · show (List.replicate k false).getD 0 false = false
    rw [List.getD_eq_getElem?_getD, List.getElem?_replicate]; split <;> rfl
  · show (List.replicate k false).getD 1 false = false
    rw [List.getD_eq_getElem?_getD, List.getElem?_replicate]; split <;> rfl
  · show 2 ≤ ((Dk.fresh k).s.set 0 _).length
    rw [List.length_set, len]; exact hk2.1
  · show unslot (((Dk.fresh k).s.set 0 (Dk.sec (slot 0 l))).getD (0 % 2) []) = some (0, l)
    rw [getD_set_self (by rw [len]; omega)]
    exact unslot_sec hl
  · intro x hx
    have q : unslot (((Dk.fresh k).s.set 0 (Dk.sec (slot 0 l))).getD 1 []) = some x := hx
    rw [getD_set_other (by decide)] at q
    have z : (Dk.fresh k).s.getD 1 [] = Dk.zero64 := by
      show (List.replicate k Dk.zero64).getD 1 [] = _
      rw [List.getD_eq_getElem?_getD, List.getElem?_replicate, if_pos (by omega)]
      rfl
    rw [z, unslot_zero] at q
    cases q
/-- Whatever crash strikes within a save. -/
theorem save_crash {d : Dk.D} {g : Nat} {l k : List Nat} (h : Calm d) (hl : -1 ≤ d.left) (t : Two g l d.s) (hk : Good (g + 1) k) (ks : List Bool) :
    (load (Dk.crash (save d (g + 1) k).2 ks) = (g, l, 0) ∧ (save d (g + 1) k).1 ≠ 0) ∨ load (Dk.crash (save d (g + 1) k).2 ks) = (g + 1, k, 0) := by
  have sf := slot_fits (g := g + 1) (l := k) hk.few
  have hi : (g + 1) % 2 < d.s.length := by have := t.two; omega
  have dec : ¬ 4 < k.length := by have := hk.few; omega
  have calm : ∀ (e : Dk.D) (js : List Bool), e.ok → e.bad = d.bad → Calm (Dk.crash e js) := fun e js ho hb => ⟨Dk.crash_ok ho js, rfl, rfl, by show e.bad.getD 0 false = false; rw [hb]; exact h.bad0, by show e.bad.getD 1 false = false; rw [hb]; exact h.bad1⟩
  by_cases l0 : d.left = 0
  · have e : save d (g + 1) k = (50, { d with dead := true }) := by
      unfold save
      rw [if_neg dec, flush_dies l0, if_neg (show ¬ (50 : Int) = 0 by decide)]
    rw [e]
    refine Or.inl ⟨load_two' (calm _ ks ⟨h.ok.bads, h.ok.few, h.ok.secs, h.ok.at_, h.ok.left⟩ rfl) ?_, show (50 : Int) ≠ 0 by decide⟩
    show Two g l (Dk.keepSome d.s d.cache ks)
    rw [h.cache]
    cases ks <;> exact t
  have f1 := flush_alive h.dead l0
  rw [h.cache] at f1
  have o1 : ({ d with s := Dk.keepAll d.s [], cache := [], left := down d.left } : Dk.D).ok := ⟨h.ok.bads, h.ok.few, h.ok.secs, by simp, by show -1 ≤ down d.left; unfold down; split <;> omega⟩
  by_cases l1 : down d.left = 0
  · have f2 := write_dies (d := { d with s := Dk.keepAll d.s [], cache := [], left := down d.left }) (i := (g + 1) % 2) (b := slot (g + 1) k) h.dead l1 hi (by omega)
    have e : save d (g + 1) k = (50, { d with s := Dk.keepAll d.s [], cache := [], left := down d.left, dead := true }) := by
      unfold save
      rw [if_neg dec, f1, if_pos rfl]
      simp only
      rw [f2, if_neg (show ¬ (50 : Int) = 0 by decide)]
    rw [e]
    refine Or.inl ⟨load_two' (calm _ ks ⟨o1.bads, o1.few, o1.secs, o1.at_, o1.left⟩ rfl) ?_, show (50 : Int) ≠ 0 by decide⟩
    show Two g l (Dk.keepSome d.s [] ks)
    cases ks <;> exact t
  have f2 := write_alive (d := { d with s := Dk.keepAll d.s [], cache := [], left := down d.left }) (i := (g + 1) % 2) (b := slot (g + 1) k) h.dead l1 hi (by omega)
  have o2 : ({ d with s := Dk.keepAll d.s [], cache := [] ++ [((g + 1) % 2, Dk.sec (slot (g + 1) k))], left := down (down d.left) } : Dk.D).ok :=
    ⟨h.ok.bads, h.ok.few, h.ok.secs, by intro x hx; simp at hx; subst hx; exact ⟨hi, Dk.sec_len (by omega)⟩, by show -1 ≤ down (down d.left); have := o1.left; unfold down at this ⊢; split <;> omega⟩
  have tn := t.next hk
  by_cases l2 : down (down d.left) = 0
  · have e : save d (g + 1) k = (50, { d with s := Dk.keepAll d.s [], cache := [] ++ [((g + 1) % 2, Dk.sec (slot (g + 1) k))], left := down (down d.left), dead := true }) := by
      unfold save
      rw [if_neg dec, f1, if_pos rfl]
      simp only
      rw [f2, if_pos rfl]
      simp only
      exact flush_dies l2
    rw [e]
    have c := calm { d with s := Dk.keepAll d.s [], cache := [] ++ [((g + 1) % 2, Dk.sec (slot (g + 1) k))], left := down (down d.left), dead := true } ks ⟨o2.bads, o2.few, o2.secs, o2.at_, o2.left⟩ rfl
    cases ks with
    | nil => exact Or.inl ⟨load_two' c t, show (50 : Int) ≠ 0 by decide⟩
    | cons b ks =>
      cases b
      · refine Or.inl ⟨load_two' c ?_, show (50 : Int) ≠ 0 by decide⟩
        show Two g l (Dk.keepSome d.s [] ks)
        cases ks <;> exact t
      · refine Or.inr (load_two' c ?_)
        show Two (g + 1) k (Dk.keepSome (d.s.set ((g + 1) % 2) (Dk.sec (slot (g + 1) k))) [] ks)
        cases ks <;> exact tn
  · have f3 := flush_alive (d := { d with s := Dk.keepAll d.s [], cache := [] ++ [((g + 1) % 2, Dk.sec (slot (g + 1) k))], left := down (down d.left) }) h.dead l2
    have e : save d (g + 1) k = (0, { d with s := d.s.set ((g + 1) % 2) (Dk.sec (slot (g + 1) k)), cache := [], left := down (down (down d.left)) }) := by
      unfold save
      rw [if_neg dec, f1, if_pos rfl]
      simp only
      rw [f2, if_pos rfl]
      simp only
      rw [f3]
      rfl
    rw [e]
    have o3 : ({ d with s := d.s.set ((g + 1) % 2) (Dk.sec (slot (g + 1) k)), cache := [], left := down (down (down d.left)) } : Dk.D).ok :=
      ⟨by show d.bad.length = (d.s.set _ _).length; rw [List.length_set]; exact h.ok.bads, by show (d.s.set _ _).length ≤ 4096; rw [List.length_set]; exact h.ok.few, Dk.set_secs h.ok.secs (w := ((g + 1) % 2, _)) (Dk.sec_len (by omega)), by simp, by show -1 ≤ down (down (down d.left)); have := o2.left; unfold down at this ⊢; split <;> omega⟩
    refine Or.inr (load_two' (calm _ ks o3 rfl) ?_)
    show Two (g + 1) k (Dk.keepSome (d.s.set ((g + 1) % 2) (Dk.sec (slot (g + 1) k))) [] ks)
    cases ks <;> exact tn
end Su
end

section
open Go.RowKit

theorem Tryz.infoU64 : (Tryz.prog.info? 62).map (fun i => (i.zero, i.size, i.bytes)) = some (some (.int .u64 0), 1, 8) := by kernel_rfl

/-- Numbers' cells. -/
def ncell (n : Nat) : Value := .int .u64 (n : Int)
def ncells (l : List Nat) : List Value := l.map ncell
theorem ncells_len (l : List Nat) : (ncells l).length = l.length := by simp [ncells]
theorem ncells_app (l m : List Nat) : ncells (l ++ m) = ncells l ++ ncells m := by simp [ncells]
theorem ncells_one (l : List Nat) : ∀ u ∈ ncells l, u.oneCell' = true := by
  intro u hu
  simp only [ncells, List.mem_map] at hu
  obtain ⟨n, _, rfl⟩ := hu
  rfl
theorem Lies.num {w : World} {B : Nat} {t : TypeId} {A : Option Addr} {l : List Nat} (h : Lies w B t A (ncells l)) {k : Nat} (hk : k < l.length) : ∃ ad, A = some ad ∧ w.cell? (ad.add k) = some (.int .u64 (l[k] : Int)) := by
  obtain ⟨ad, e, hc⟩ := h.at_ (k := k) (by rw [ncells_len]; exact hk)
  exact ⟨ad, e, by rw [hc]; simp [ncells, ncell]⟩
theorem ncells_nats {ns : List Int} (h : ∀ n ∈ ns, 0 ≤ n) : ns.map (Value.int .u64) = ncells (ns.map Int.toNat) := by
  unfold ncells
  rw [List.map_map]
  apply List.map_congr_left
  intro n hn
  have := h n hn
  show Value.int .u64 n = Value.int .u64 ((n.toNat : Nat) : Int)
  rw [Int.toNat_of_nonneg this]

section
variable {P : Program} (w : World)
/-- An append onto a slice without spare room: a new row. -/
theorem wpList_new {ops : Array Oper} {rest : List Oper} {o : Oper} {a : Act} {Q : Exit → Act → World → Prop} (hgd : o.guard = none) (s x : Operand) (t : TypeId)
    (ho : o.op = .call { callee := .builtin .append, args := #[s, x], argTypes := #[t, t] })
    (base : Nat) (e : TypeId) (i : TypeInfo) (z : Value) (size bytes : Nat) (ht : P.underlying t = some (.slice e)) (hi : P.info? e = some i) (hz : i.zero = some z)
    (hsize : i.size = size) (hby : i.bytes = bytes) (hzs : z.cells.size = size)
    (B0 : Nat) (t0 : TypeId) (A0 : Option Addr) (n : Nat) (olds : List Value) (hs : a.eval s = .slice A0 n n) (hl0 : olds.length = n * size) (hL0 : Lies w B0 t0 A0 olds) (hnil : A0 = none → n = 0)
    (ad : Addr) (m c : Nat) (news : List Value) (hx : a.eval x = .slice (some ad) m c) (hl : news.length = m * size) (hc : ∀ j u, news[j]? = some u → w.cell? (ad.add j) = some u) (h1 : ∀ u ∈ news, u.oneCell' = true) (hm : 0 < m)
    (h63 : n + m ≤ maxLen) (hbytes : (n + m) * bytes ≤ 140737488355328) (hbase : base ≤ w.heap.size)
    (h : ∀ v' w', w'.ownsRow base e size v' (n + m) (olds ++ news) → w.grownBy w' none → wpList P ops Q rest (a.put o.dst v') w') : wpList P ops Q (o :: rest) a w :=
  wpList_plain hgd fun K hK => by
    obtain ⟨v', w', hrun, h2, h3, _⟩ := run_app_new (P := P) w base t o.type e i z size bytes ht hi hz hsize hby hzs B0 t0 A0 n olds hl0 hL0 hnil ad m c news hl hc h1 hm h63 hbytes hbase
    unfold Oper.wp execOp
    simp only [ho, resolve, invoke, builtin, Sem.run_bind, Sem.run_pure, Result.andThen_ok, List.map_toArray, List.map_cons, List.map_nil, hs, hx, hrun]
    exact hK _ _ (h v' w' h2 h3)
end

theorem cell1 {w : World} {b : UInt8} {x : Int} (hx : x = (b.toNat : Int)) {g : Nat} (hg : g = w.heap.size) : ∀ (j : Nat) (u : Value), (bcells [b])[j]? = some u → (w.alloc (.cells #[.int .u8 x] 5)).cell? ((⟨g, 0, none⟩ : Addr).add j) = some u := by
  intro j u hu
  obtain ⟨ad, e, _, hc⟩ := (lies1 (w := w) hx hg) (by simp [bcells])
  injection e with e
  subst e
  exact hc j u hu

set_option maxHeartbeats 1000000 in
theorem rN0_c {l : List UInt8} {ad : Addr} {m : Nat} {n : Int} {w : World} {B0 : Nat} {t0 : TypeId} (hL : Lies w B0 t0 (some ad) (bcells l)) (hm : m = l.length) (h0 : 0 ≤ n) (h1 : n < 18446744073709551616) (hs : l.length + 9 ≤ 1000000000000) :
    Calls Tryz.prog 37 #[.slice (some ad) m m, .int .u64 n] w (AppOk w.heap.size (l ++ Cd.num n.toNat) w) := by
  have H1 := Lib.hid h1
  have HL := Lib.hid (hL.old (t' := 0))
  have HM := Lib.hid hm
  rw [← hm] at hs
  clear h1 hL hm
  obtain ⟨i0, hi, hz0, hz1, hz2⟩ := info_parts Tryz.infoU8
  by_cases hlo : n < 128
  · have E := Lib.hid (num_lo h0 hlo)
    go_enter Tryz.func37, Tryz.ntmps37
    go_wp2_with (at_builtin; refine wpList_new _ rfl _ _ 23 rfl w.heap.size 5 i0 (.int .u8 0) 1 1 Tryz.underlying23 hi hz0 hz1 hz2 rfl w.heap.size 0 (some ad) m (bcells l) rfl (by rw [bcells_len, HM.out]; omega) (HL.out.alloc (Nat.le_refl _) _) (by simp) _ 1 1 (bcells [Cd.byt n.toNat 0]) rfl rfl (cell1 E.out.1 rfl) (bcells_one _) (by decide) (by unfold maxLen; omega) (by omega) (by simp) ?_)
    intro v' w1 hown' hgrow
    obtain ⟨A2, k2, rfl⟩ := own_slice hown'
    have T1 := Lib.hid ((Tch.refl w.heap.size [5] w).alloc (Nat.le_refl _) (.cells #[.int .u8 n] 5))
    have HT1 := Lib.hid (T1.out.grown hgrow (by simp) (fun k q => by cases q))
    have HO2 := Lib.hid hown'
    clear hown' hgrow
    go_wp2
    go_ret
    exact ⟨A2, _, k2, rfl, by rw [E.out.2, bcells_app, List.length_append, ← HM.out]; exact HO2.out, HT1.out⟩
  · obtain ⟨b, E⟩ : ∃ b : UInt8, Hid (128 + (Cd.wid n.toNat : Int) = (b.toNat : Int) ∧ Cd.num n.toNat = [b] ++ Cd.fix n.toNat (Cd.wid n.toNat)) := ⟨_, num_hi (by omega)⟩
    have wp := Cd.wid_pos n.toNat
    go_enter Tryz.func37, Tryz.ntmps37
    go_wp2_with (first
      | (go_at_call 65; refine (wide_c _ _ h0).mono ?_; rintro e w' ⟨rfl, rfl⟩)
      | (at_builtin; refine wpList_new _ rfl _ _ 23 rfl w.heap.size 5 i0 (.int .u8 0) 1 1 Tryz.underlying23 hi hz0 hz1 hz2 rfl w.heap.size 0 (some ad) m (bcells l) rfl (by rw [bcells_len, HM.out]; omega) (HL.out.alloc (Nat.le_refl _) _) (by simp) _ 1 1 (bcells [b]) rfl rfl (cell1 E.out.1 rfl) (bcells_one _) (by decide) (by unfold maxLen; omega) (by omega) (by simp) ?_))
    intro v' w1 hown' hgrow
    obtain ⟨A2, k2, rfl⟩ := own_slice hown'
    have T1 := Lib.hid ((Tch.refl w.heap.size [5] w).alloc (Nat.le_refl _) (.cells #[.int .u8 (128 + (Cd.wid n.toNat : Int))] 5))
    have HT1 := Lib.hid (T1.out.grown hgrow (by simp) (fun k q => by cases q))
    have hz1 := HT1.out.size
    have ho2 : w1.ownsRow w.heap.size 5 1 (.slice A2 (m + 1) k2) (l ++ [b]).length (bcells (l ++ [b])) := by
      rw [bcells_app, List.length_append, ← HM.out]; exact hown'
    have HO2 := Lib.hid ho2
    clear hown' hgrow ho2
    go_wp2_with fail
    refine (fixed_c (l := l ++ [b]) (k := Cd.wid n.toNat) rfl HO2.out hz1 h0 H1.out wp.2 (by simp; rw [← HM.out]; omega)).mono ?_
    rintro e w' ⟨A3, m3, k3, rfl, ho3, t3⟩
    have HO3 := Lib.hid ho3
    have HT3 := Lib.hid t3
    clear ho3 t3
    go_wp2
    go_ret
    exact ⟨A3, m3, k3, rfl, by rw [E.out.2, ← List.append_assoc]; exact HO3.out, HT1.out.trans HT3.out⟩

namespace Su
def pre (g : Nat) (l : List Nat) (j : Nat) : List UInt8 := [70, 83] ++ Cd.num g ++ Cd.num l.length ++ (l.take j).flatMap Cd.num
theorem pre_all (g : Nat) (l : List Nat) : pre g l l.length = body g l := by unfold pre body; rw [List.take_length]
theorem pre_next (g : Nat) {l : List Nat} {j : Nat} (h : j < l.length) : pre g l (j + 1) = pre g l j ++ Cd.num l[j] := by
  unfold pre
  rw [take_next (List.getElem?_eq_getElem h), List.flatMap_append]
  simp
theorem pre_len (g : Nat) {l : List Nat} (h : l.length ≤ 4) (j : Nat) : (pre g l j).length ≤ 56 := by
  have h1 := num_len g
  have h2 := num_len l.length
  have h3 := nums_len (l.take j)
  have h4 : (l.take j).length ≤ 4 := by rw [List.length_take]; omega
  unfold pre
  simp only [List.length_append, List.length_cons, List.length_nil]
  omega
end Su

/-- A number of 64 bits. -/
def U64 (n : Nat) : Prop := n < 18446744073709551616
theorem U64.int {n : Nat} (h : U64 n) : (n : Int) < 18446744073709551616 := by unfold U64 at h; omega
theorem U64.of {n : Nat} (h : n < 18446744073709551616) : U64 n := h

end
end Go.Proofs.YtpnfpeeijghamaaGreat
