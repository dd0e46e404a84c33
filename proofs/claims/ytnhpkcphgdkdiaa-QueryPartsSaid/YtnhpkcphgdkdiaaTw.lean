/- Stage 9: titles and tags. Stage 9: what is right: in plain words, and the code's. Stage 9: the code's Right. -/
import Derived.Test.YtnhpkcphgdkdiaaTp
import Derived.Test.YtnhpkcphgdkdiaaTq
namespace Go.Proofs.Ytnhpkcphgdkdiaa
set_option maxRecDepth 100000

section
open Go.RowKit Go.Lib

namespace T9
def tc (c : UInt8) : Bool := decide (32 ≤ c.toNat ∧ c.toNat ≤ 126)
def gc (c : UInt8) : Bool := decide ((97 ≤ c.toNat ∧ c.toNat ≤ 122) ∨ (48 ≤ c.toNat ∧ c.toNat ≤ 57) ∨ c.toNat = 45)
def title (l : List UInt8) : Bool := decide (1 ≤ l.length ∧ l.length ≤ 60) && l.all tc
def tag (l : List UInt8) : Bool := decide (1 ≤ l.length ∧ l.length ≤ 16) && l.all gc
end T9
theorem str_at {l : List UInt8} {s : ByteArray} (hs : s = str l) : s.size = l.length ∧ ∀ (n : Nat) (h : n < s.size), ((s[n]'h).toNat : Int) = ((l[n]!).toNat : Int) := by
  subst hs
  refine ⟨rfl, fun n h => ?_⟩
  have h' : n < l.length := h
  rw [getElem!_pos l n h']
  rfl
theorem all_take {p : UInt8 → Bool} {l : List UInt8} {i : Nat} (hi : i < l.length) : (l.take (i + 1)).all p = ((l.take i).all p && p l[i]!) := by
  rw [List.take_succ_eq_append_getElem hi, List.all_append, getElem!_pos l i hi]
  simp

set_option maxHeartbeats 400000 in
theorem refTitle_c (l : List UInt8) (hl : l.length ≤ 1000000) (w : World) : Calls Try.prog 52 #[.string (str l)] w fun e w' => e = .returned (.bool (T9.title l)) ∧ w = w' := by
  obtain ⟨s, hs⟩ : ∃ s, s = str l := ⟨_, rfl⟩
  obtain ⟨sz, hb⟩ := str_at hs
  rw [← hs]
  clear hs
  have SZ := Lib.hid sz
  have HB := Lib.hid hb
  have sm : s.size ≤ 1000000 := by omega
  clear sz hl hb
  go_enter Try.func52, Try.ntmps52
  go_wp2
  go_loopw [3] (fun s3 wr => ∃ i : Nat, s3 = .int .i64 i ∧ i ≤ s.size ∧ Hid ((l.take i).all T9.tc = true) ∧ w = wr) (fun s3 _ => s.size - (intOf s3).toNat)
  case atStart => exact ⟨0, rfl, Nat.zero_le _, Lib.hid (by simp), rfl⟩
  case round =>
    obtain ⟨i, rfl, hi, ha, rfl⟩ := hrel
    by_cases hlt : i < s.size
    · have hltz : (i : Int) < (s.size : Int) := by omega
      have hit := Lib.hid (all_take (p := T9.tc) (l := l) (i := i) (by have := SZ.out; omega))
      have ba := HB.out i hlt
      obtain ⟨x, hx⟩ : ∃ x, x = l[i]! := ⟨_, rfl⟩
      rw [← hx] at hit ba
      clear hx
      have W : (32 ≤ x.toNat ∧ x.toNat ≤ 126) ↔ T9.tc x = true := by unfold T9.tc; simp
      by_cases hp : 32 ≤ x.toNat ∧ x.toNat ≤ 126
      · have HP := Lib.hid (W.1 hp)
        have p1 : ¬ ((x.toNat : Int) < 32) := by omega
        have p2 : ¬ ((126 : Int) < (x.toNat : Int)) := by omega
        clear W hp
        go_wp2
        go_roundw
        case rel => exact ⟨i + 1, by go_num, by omega, Lib.hid (by rw [hit.out, ha.out, HP.out]; rfl), by simp⟩
        case measure => simp [intOf]; omega
      · have HP := Lib.hid (show T9.tc x = false by rw [← Bool.not_eq_true]; exact fun q => hp (W.2 q))
        have R : T9.title l = false := by
          have : l.all T9.tc = false := by
            rw [← List.take_append_drop (i + 1) l, List.all_append, hit.out, HP.out]
            simp
          unfold T9.title
          rw [this]
          simp
        have RH := Lib.hid R
        by_cases p1 : (x.toNat : Int) < 32
        · clear W hp R
          go_wp2
          go_ret
          exact ⟨ret_bool RH.out.symm, rfl⟩
        · have p2 : (126 : Int) < (x.toNat : Int) := by omega
          clear W hp R
          go_wp2
          go_ret
          exact ⟨ret_bool RH.out.symm, rfl⟩
    · obtain rfl : i = s.size := by omega
      have hltz : ¬ ((s.size : Int) < (s.size : Int)) := by omega
      have h1 := ha.out
      rw [SZ.out, List.take_length] at h1
      have HA := Lib.hid h1
      clear ha h1
      go_wp2
      all_goals
        go_ret
        exact ⟨ret_bool (by unfold T9.title; rw [HA.out]; have := SZ.out; rw [Bool.eq_iff_iff]; simp; omega), rfl⟩

set_option maxHeartbeats 400000 in
theorem refTag_c (l : List UInt8) (hl : l.length ≤ 1000000) (w : World) : Calls Try.prog 55 #[.string (str l)] w fun e w' => e = .returned (.bool (T9.tag l)) ∧ w = w' := by
  obtain ⟨s, hs⟩ : ∃ s, s = str l := ⟨_, rfl⟩
  obtain ⟨sz, hb⟩ := str_at hs
  rw [← hs]
  clear hs
  have SZ := Lib.hid sz
  have HB := Lib.hid hb
  have sm : s.size ≤ 1000000 := by omega
  clear sz hl hb
  go_enter Try.func55, Try.ntmps55
  go_wp2
  go_loopw [3] (fun s3 wr => ∃ i : Nat, s3 = .int .i64 i ∧ i ≤ s.size ∧ Hid ((l.take i).all T9.gc = true) ∧ w = wr) (fun s3 _ => s.size - (intOf s3).toNat)
  case atStart => exact ⟨0, rfl, Nat.zero_le _, Lib.hid (by simp), rfl⟩
  case round =>
    obtain ⟨i, rfl, hi, ha, rfl⟩ := hrel
    by_cases hlt : i < s.size
    · have hltz : (i : Int) < (s.size : Int) := by omega
      have hit := Lib.hid (all_take (p := T9.gc) (l := l) (i := i) (by have := SZ.out; omega))
      have ba := HB.out i hlt
      obtain ⟨x, hx⟩ : ∃ x, x = l[i]! := ⟨_, rfl⟩
      rw [← hx] at hit ba
      clear hx
      have W : ((97 ≤ x.toNat ∧ x.toNat ≤ 122) ∨ (48 ≤ x.toNat ∧ x.toNat ≤ 57) ∨ x.toNat = 45) ↔ T9.gc x = true := by unfold T9.gc; rw [decide_eq_true_iff]
      rcases (by omega : x.toNat < 45 ∨ x.toNat = 45 ∨ (45 < x.toNat ∧ x.toNat < 48) ∨ (48 ≤ x.toNat ∧ x.toNat ≤ 57) ∨ (57 < x.toNat ∧ x.toNat < 97) ∨ (97 ≤ x.toNat ∧ x.toNat ≤ 122) ∨ 122 < x.toNat) with k | k | k | k | k | k | k
      · have p1 : (x.toNat : Int) < 97 := by omega
        have p3 : (x.toNat : Int) < 48 := by omega
        have p5 : ((x.toNat : Int) == 45) = false := by simp; omega
        have HP : Hid (T9.gc x = false) := Lib.hid (by rw [← Bool.not_eq_true]; exact fun q => absurd (W.2 q) (by omega))
        have R : T9.tag l = false := by
          have : l.all T9.gc = false := by
            rw [← List.take_append_drop (i + 1) l, List.all_append, hit.out, HP.out]
            simp
          unfold T9.tag
          rw [this]
          simp
        have RH := Lib.hid R
        clear W k R
        go_wp2
        go_ret
        exact ⟨ret_bool RH.out.symm, rfl⟩
      · have p1 : (x.toNat : Int) < 97 := by omega
        have p3 : (x.toNat : Int) < 48 := by omega
        have p5 : ((x.toNat : Int) == 45) = true := by simp; omega
        have HP := Lib.hid (W.1 (by omega))
        clear W k
        go_wp2
        go_roundw
        case rel => exact ⟨i + 1, by go_num, by omega, Lib.hid (by rw [hit.out, ha.out, HP.out]; rfl), by simp⟩
        case measure => simp [intOf]; omega
      · have p1 : (x.toNat : Int) < 97 := by omega
        have p3 : (x.toNat : Int) < 48 := by omega
        have p5 : ((x.toNat : Int) == 45) = false := by simp; omega
        have HP : Hid (T9.gc x = false) := Lib.hid (by rw [← Bool.not_eq_true]; exact fun q => absurd (W.2 q) (by omega))
        have R : T9.tag l = false := by
          have : l.all T9.gc = false := by
            rw [← List.take_append_drop (i + 1) l, List.all_append, hit.out, HP.out]
            simp
          unfold T9.tag
          rw [this]
          simp
        have RH := Lib.hid R
        clear W k R
        go_wp2
        go_ret
        exact ⟨ret_bool RH.out.symm, rfl⟩
      · have p1 : (x.toNat : Int) < 97 := by omega
        have p3 : (48 : Int) ≤ (x.toNat : Int) := by omega
        have p4 : (x.toNat : Int) ≤ 57 := by omega
        have HP := Lib.hid (W.1 (by omega))
        clear W k
        go_wp2
        go_roundw
        case rel => exact ⟨i + 1, by go_num, by omega, Lib.hid (by rw [hit.out, ha.out, HP.out]; rfl), by simp⟩
        case measure => simp [intOf]; omega
      · have p1 : (x.toNat : Int) < 97 := by omega
        have p3 : (48 : Int) ≤ (x.toNat : Int) := by omega
        have p4 : (57 : Int) < (x.toNat : Int) := by omega
        have p4' : decide ((x.toNat : Int) ≤ 57) = false := by simp; omega
        have p5 : ((x.toNat : Int) == 45) = false := by simp; omega
        have HP : Hid (T9.gc x = false) := Lib.hid (by rw [← Bool.not_eq_true]; exact fun q => absurd (W.2 q) (by omega))
        have R : T9.tag l = false := by
          have : l.all T9.gc = false := by
            rw [← List.take_append_drop (i + 1) l, List.all_append, hit.out, HP.out]
            simp
          unfold T9.tag
          rw [this]
          simp
        have RH := Lib.hid R
        clear W k R
        go_wp2
        go_ret
        exact ⟨ret_bool RH.out.symm, rfl⟩
      · have p1 : (97 : Int) ≤ (x.toNat : Int) := by omega
        have p2 : (x.toNat : Int) ≤ 122 := by omega
        have HP := Lib.hid (W.1 (by omega))
        clear W k
        go_wp2
        go_roundw
        case rel => exact ⟨i + 1, by go_num, by omega, Lib.hid (by rw [hit.out, ha.out, HP.out]; rfl), by simp⟩
        case measure => simp [intOf]; omega
      · have p1 : (97 : Int) ≤ (x.toNat : Int) := by omega
        have p2 : (122 : Int) < (x.toNat : Int) := by omega
        have p2' : decide ((x.toNat : Int) ≤ 122) = false := by simp; omega
        have p3 : (48 : Int) ≤ (x.toNat : Int) := by omega
        have p4 : (57 : Int) < (x.toNat : Int) := by omega
        have p4' : decide ((x.toNat : Int) ≤ 57) = false := by simp; omega
        have p5 : ((x.toNat : Int) == 45) = false := by simp; omega
        have HP : Hid (T9.gc x = false) := Lib.hid (by rw [← Bool.not_eq_true]; exact fun q => absurd (W.2 q) (by omega))
        have R : T9.tag l = false := by
          have : l.all T9.gc = false := by
            rw [← List.take_append_drop (i + 1) l, List.all_append, hit.out, HP.out]
            simp
          unfold T9.tag
          rw [this]
          simp
        have RH := Lib.hid R
        clear W k R
        go_wp2
        go_ret
        exact ⟨ret_bool RH.out.symm, rfl⟩
    · obtain rfl : i = s.size := by omega
      have hltz : ¬ ((s.size : Int) < (s.size : Int)) := by omega
      have h1 := ha.out
      rw [SZ.out, List.take_length] at h1
      have HA := Lib.hid h1
      clear ha h1
      go_wp2
      all_goals
        go_ret
        exact ⟨ret_bool (by unfold T9.tag; rw [HA.out]; have := SZ.out; rw [Bool.eq_iff_iff]; simp; omega), rfl⟩
end

section
open Go.RowKit Go.Lib

namespace T9
def isC (b : Nat) : Bool := Fl.I b == Fl.I (Fl.canon b)
/-- Tags that rise behind a text, each of which may be. -/
def tagsUp : List UInt8 → List (List UInt8) → Bool
  | _, [] => true
  | a, t :: l => tag t && ltS a t && tagsUp t l
def fieldsE (t : Tk) : Int :=
  if title t.title = false then 94 else if (Fl.isN t.rank || !isC t.rank) = true then 100 else if isC t.est = false then 90 else if 4 < t.tags.length then 95 else if tagsUp [] t.tags = true then 0 else 94
def listsE (ahead : Nat) : List Li → Int
  | [] => 0
  | l :: r => if l.id ≤ ahead then 91 else if title l.name = false then 94 else listsE l.id r
def tasksE (ls : List Li) (ahead : Nat) : List Tk → Int
  | [] => 0
  | t :: r => if t.id ≤ ahead then 93 else if (ls.any fun l => l.id == t.list) = false then 91 else if fieldsE t ≠ 0 then fieldsE t else tasksE ls t.id r
def rightE (s : St) : Int :=
  if 20 < s.lists.length ∨ 60 < s.tasks.length then 95 else if listsE 0 s.lists ≠ 0 then listsE 0 s.lists else tasksE s.lists 0 s.tasks
/-- Texts that may be walked through. -/
def Tk.short (t : Tk) : Prop := t.title.length ≤ 1000000 ∧ (∀ x ∈ t.tags, x.length ≤ 1000000) ∧ t.tags.length ≤ 1000000
def St.short (s : St) : Prop := (∀ l ∈ s.lists, l.name.length ≤ 1000000) ∧ (∀ t ∈ s.tasks, t.short) ∧ s.lists.length ≤ 1000000 ∧ s.tasks.length ≤ 1000000
end T9
theorem le_yes {a x : List UInt8} (h : T9.ltS a x = false) : Op.bytesLess x a = true ∨ Op.bytesLess x a = false ∧ (x == a) = true := by
  have h : ¬ a < x := by simpa [T9.ltS] using h
  rcases List.le_iff_lt_or_eq.1 (List.not_lt.1 h) with r | r
  · exact .inl (less_yes r)
  · subst r
    exact .inr ⟨less_no (List.lt_irrefl _), by simp⟩
theorem le_no {a x : List UInt8} (h : T9.ltS a x = true) : Op.bytesLess x a = false ∧ (x == a) = false := by
  have h : a < x := by simpa [T9.ltS] using h
  refine ⟨less_no fun q => List.lt_irrefl _ (List.lt_trans q h), ?_⟩
  rw [beq_eq_false_iff_ne]
  rintro rfl
  exact List.lt_irrefl _ h
end

section
open Go.RowKit Go.Lib

theorem tks_drop {ms : List MTk} {i : Nat} {m : MTk} (h : ms[i]? = some m) : (tks ms).drop i = m.t :: (tks ms).drop (i + 1) := by
  obtain ⟨q1, q2⟩ := List.getElem?_eq_some_iff.1 h
  have e := List.drop_eq_getElem_cons q1
  rw [q2] at e
  unfold tks
  rw [← List.map_drop, e, List.map_cons, List.map_drop]
theorem drop_at {α : Type} {ls : List α} {i : Nat} {l : α} (h : ls[i]? = some l) : ls.drop i = l :: ls.drop (i + 1) := by
  obtain ⟨q1, q2⟩ := List.getElem?_eq_some_iff.1 h
  rw [List.drop_eq_getElem_cons q1, q2]
theorem any_take {α : Type} {ls : List α} {p : α → Bool} {i : Nat} {l : α} (h : ls[i]? = some l) : (ls.take (i + 1)).any p = ((ls.take i).any p || p l) := by
  obtain ⟨q1, q2⟩ := List.getElem?_eq_some_iff.1 h
  rw [List.take_succ_eq_append_getElem q1, q2]
  simp
theorem any_hit {α : Type} {ls : List α} {p : α → Bool} {i : Nat} {l : α} (h : ls[i]? = some l) (hp : p l = true) : ls.any p = true := List.any_eq_true.2 ⟨l, List.mem_of_getElem? h, hp⟩
theorem listsE_step {l : T9.Li} {a : Nat} {r : List T9.Li} (h : ¬ l.id ≤ a) (k : T9.title l.name = true) : T9.listsE a (l :: r) = T9.listsE l.id r := by
  show (if l.id ≤ a then 91 else if T9.title l.name = false then 94 else T9.listsE l.id r) = _
  rw [if_neg h, if_neg (by rw [k]; simp)]
theorem tasksE_step {ls : List T9.Li} {t : T9.Tk} {a : Nat} {r : List T9.Tk} (h : ¬ t.id ≤ a) (k : ¬ (ls.any fun l => l.id == t.list) = false) (f : T9.fieldsE t = 0) : T9.tasksE ls a (t :: r) = T9.tasksE ls t.id r := by
  show (if t.id ≤ a then 93 else if (ls.any fun l => l.id == t.list) = false then 91 else if T9.fieldsE t ≠ 0 then T9.fieldsE t else T9.tasksE ls t.id r) = _
  rw [if_neg h, if_neg k, if_neg (by simp [f])]
/-- A new block of two cells. -/
theorem new_two {w : World} {a b : Value} {t : TypeId} {u : World} (h : w.alloc (.cells #[a, b] t) = u) : u.heap[w.heap.size]? = some (.cells #[a, b] t (0, 0)) ∧ Below w.heap.size w u ∧ u.heap.size = w.heap.size + 1 := by
  subst h
  exact ⟨heap_alloc_new w _, (Below.refl _ w).alloc (Nat.le_refl _) _, by simp⟩
theorem new_seven {w : World} {a b c d e f g : Value} {t : TypeId} {u : World} (h : w.alloc (.cells #[a, b, c, d, e, f, g] t) = u) : u.heap[w.heap.size]? = some (.cells #[a, b, c, d, e, f, g] t (0, 0)) ∧ Below w.heap.size w u ∧ u.heap.size = w.heap.size + 1 := by
  subst h
  exact ⟨heap_alloc_new w _, (Below.refl _ w).alloc (Nat.le_refl _) _, by simp⟩

end
end Go.Proofs.Ytnhpkcphgdkdiaa
