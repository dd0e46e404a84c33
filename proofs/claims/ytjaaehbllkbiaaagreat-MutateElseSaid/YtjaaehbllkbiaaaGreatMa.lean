/- Stage 11: mutations of plain values: which may be, what they do to a right state, or why they do nothing. Stage 11: what a mutation does leaves a state right; what it doesn't name stays: of plain values. -/
import Derived.Test.YtjaaehbllkbiaaaGreatKb
import Derived.Test.YtjaaehbllkbiaaaGreatTz
namespace Go.Proofs.YtjaaehbllkbiaaaGreat
set_option maxRecDepth 100000

section
namespace T9
structure Mu where
 kind : Int
 id : Nat
 list : Nat
 text : List UInt8
 f : Nat
 flag : Bool
def Mu.ok (m : Mu) : Prop := m.id < 18446744073709551616 ∧ m.list < 18446744073709551616 ∧ m.f < 18446744073709551616

def nId (k : Int) : Bool := decide (1 ≤ k ∧ k ≤ 11)
def nList (k : Int) : Bool := decide (k = 3 ∨ k = 6 ∨ k = 12 ∨ k = 13)
def nText (k : Int) : Bool := decide (k = 1 ∨ k = 3 ∨ k = 4 ∨ k = 9 ∨ k = 10)
def nF (k : Int) : Bool := decide (k = 3 ∨ k = 6 ∨ k = 7 ∨ k = 8)
def nFlag (k : Int) : Bool := decide (k = 5)
def ofL (k : Int) : Bool := decide (k = 1 ∨ k = 2)
def nTag (k : Int) : Bool := decide (k = 9 ∨ k = 10)
/-- Something that the kind doesn't name. -/
def extra (m : Mu) : Bool := !isC m.f || !nId m.kind && !(m.id == 0) || !nList m.kind && !(m.list == 0) || !nText m.kind && !decide (m.text = []) || !nFlag m.kind && m.flag || !nF m.kind && !Fl.eqB m.f 0
def checkE (m : Mu) : Int :=
 if ¬ (1 ≤ m.kind ∧ m.kind ≤ 13) then 110 else
 if extra m = true then 110 else
 if (nList m.kind && m.list == 0 || ofL m.kind && m.id == 0) = true then 91 else
 if (nId m.kind && m.id == 0) = true then 93 else
 if (nTag m.kind && !tag m.text || !nTag m.kind && nText m.kind && !title m.text) = true then 94 else
 if (nF m.kind && Fl.isN m.f && !decide (m.kind = 8)) = true then 100 else 0

/-- Tasks that aren't gone. -/
def wo (l : List Tk) (list : Nat) (done : Bool) (id : Nat) : List Tk := l.filter fun t => !(t.id == id || (!(list == 0) && t.list == list && (t.done || !done)))
def tagsM (l : List (List UInt8)) (m : Mu) : Int × List (List UInt8) :=
 if m.kind = 10 then (if (l.filter fun x => !decide (x = m.text)).length < l.length then (0, l.filter fun x => !decide (x = m.text)) else (3, l)) else
 if (l.filter fun x => !decide (x = m.text)).length < l.length then (92, l) else
 if 4 ≤ l.length then (95, l) else (0, Sr.canon ltS ((l.filter fun x => !decide (x = m.text)) ++ [m.text]))
def chg (home : Bool) (m : Mu) (t : Tk) : Int × Tk :=
 if m.kind = 4 then (0, { t with title := m.text }) else
 if m.kind = 5 then (0, { t with done := m.flag }) else
 if m.kind = 6 then (if home = true then 0 else 91, { t with list := m.list, rank := m.f }) else
 if m.kind = 7 then (0, { t with rank := m.f }) else
 if m.kind = 8 then (0, { t with est := m.f }) else
 ((tagsM t.tags m).1, { t with tags := (tagsM t.tags m).2 })
/-- The tasks of a list in order. -/
def ordK (ts : List Tk) (list : Nat) : List Tk := Sr.canon ltR (inList ts list)
def hasL (ls : List Li) (id : Nat) : Bool := ls.any fun l => l.id == id
def hasK (ts : List Tk) (id : Nat) : Bool := ts.any fun t => t.id == id
/-- What a mutation does: its error, the state. -/
def doM (s : St) (m : Mu) : Int × St :=
 if m.kind = 1 then (if hasL s.lists m.id = true then (92, s) else if 20 ≤ s.lists.length then (95, s) else (0, ⟨Sr.ins ltL ⟨m.id, m.text⟩ s.lists, s.tasks⟩)) else
 if m.kind = 2 then (if hasL s.lists m.id = false then (91, s) else (0, ⟨s.lists.filter fun l => !(l.id == m.id), wo s.tasks m.id false 0⟩)) else
 if m.kind = 12 then (if hasL s.lists m.list = false then (91, s) else (0, ⟨s.lists, wo s.tasks m.list true 0⟩)) else
 if m.kind = 13 then (if hasL s.lists m.list = false then (91, s) else (0, ⟨s.lists, s.tasks.map (spr (ordK s.tasks m.list))⟩)) else
 if m.kind = 3 then (if hasK s.tasks m.id = true then (92, s) else if hasL s.lists m.list = false then (91, s) else if 60 ≤ s.tasks.length then (95, s) else (0, ⟨s.lists, Sr.ins ltK ⟨m.id, m.list, m.text, false, m.f, Fl.nanW, []⟩ s.tasks⟩)) else
 if hasK s.tasks m.id = false then (93, s) else
 if m.kind = 11 then (0, ⟨s.lists, wo s.tasks 0 false m.id⟩) else
 ((chg (hasL s.lists m.list) m (findK s.tasks m.id).1).1, ⟨s.lists, Sr.ins ltK (chg (hasL s.lists m.list) m (findK s.tasks m.id).1).2 (wo s.tasks 0 false m.id)⟩)
def applyM (s : St) (m : Mu) : St × Int :=
 if rightE s ≠ 0 then (⟨[], []⟩, rightE s) else
 if checkE m ≠ 0 then (⟨[], []⟩, checkE m) else
 if (doM s m).1 ≠ 0 then (⟨[], []⟩, (doM s m).1) else ((doM s m).2, 0)

/-! which lists and tasks are right -/
theorem listsE_iff {ls : List Li} {a : Nat} : listsE a ls = 0 ↔ (∀ l ∈ ls, a < l.id ∧ title l.name = true) ∧ Sr.Str ltL ls := by
 induction ls generalizing a with
 | nil => simp [listsE, Sr.Str]
 | cons l r ih =>
  unfold listsE
  by_cases h1 : l.id ≤ a
  ·rw [if_pos h1]
   refine ⟨fun h => (by cases h), fun h => ?_⟩
   have := (h.1 l List.mem_cons_self).1
   omega
  rw [if_neg h1]
  by_cases h2 : title l.name = false
  ·rw [if_pos h2]
   refine ⟨fun h => (by cases h), fun h => ?_⟩
   have := (h.1 l List.mem_cons_self).2
   rw [h2] at this; cases this
  rw [if_neg h2, ih]
  have h2' : title l.name = true := by simpa using h2
  unfold Sr.Str
  rw [List.pairwise_cons]
  constructor
  ·rintro ⟨q1, q2⟩
   refine ⟨fun x hx => ?_, fun x hx => decide_eq_true (q1 x hx).1, q2⟩
   rcases List.mem_cons.1 hx with rfl | hx
   ·exact ⟨by omega, h2'⟩
   ·have := q1 x hx; exact ⟨by omega, this.2⟩
  ·rintro ⟨q1, q2, q3⟩
   exact ⟨fun x hx => ⟨of_decide_eq_true (q2 x hx), (q1 x (List.mem_cons_of_mem _ hx)).2⟩, q3⟩
theorem tasksE_iff {ls : List Li} {ts : List Tk} {a : Nat} : tasksE ls a ts = 0 ↔ (∀ t ∈ ts, a < t.id ∧ fieldsE t = 0 ∧ (ls.any fun l => l.id == t.list) = true) ∧ Sr.Str ltK ts := by
 refine ⟨fun h => ⟨(tasksE_up h).1, str_ltK (tasksE_up h).2⟩, ?_⟩
 induction ts generalizing a with
 | nil => intro _; rfl
 | cons t r ih =>
  rintro ⟨h1, h2⟩
  have h := h1 t List.mem_cons_self
  have p := List.pairwise_cons.1 h2
  unfold tasksE
  rw [if_neg (by omega), if_neg (by rw [h.2.2]; decide), if_neg (fun q => q h.2.1)]
  exact ih ⟨fun x hx => ⟨of_decide_eq_true (p.1 x hx), (h1 x (List.mem_cons_of_mem _ hx)).2⟩, p.2⟩
end T9

namespace Sr
section
variable {α : Type} {lt : α → α → Bool}
theorem mem_ins {x y : α} : ∀ {l : List α}, y ∈ l → y ∈ ins lt x l
 | z :: l, h => by
  unfold ins
  split
  ·rcases List.mem_cons.1 h with rfl | h
   ·exact List.mem_cons_self
   ·exact List.mem_cons_of_mem _ (mem_ins h)
  ·split
   ·exact List.mem_cons_of_mem _ h
   ·exact h
theorem mem_ins_new {x : α} : ∀ {l : List α}, (∀ y ∈ l, lt y x = true ∨ lt x y = true) → x ∈ ins lt x l
 | [], _ => List.mem_cons_self
 | z :: l, h => by
  unfold ins
  split
  ·exact List.mem_cons_of_mem _ (mem_ins_new fun y hy => h y (List.mem_cons_of_mem _ hy))
  ·rename_i q
   split
   ·exact List.mem_cons_self
   ·rename_i r
    rcases h z List.mem_cons_self with k | k
    ·exact absurd k q
    ·exact absurd k r
end
end Sr

namespace T9
theorem ordK_of {ts r : List Tk} {list : Nat} (h : Ordd ts list r) (u : Uni ts) : r = ordK ts list := by
 have c := Sr.canon_spec woR (inList ts list)
 exact Sr.str_uniq woR (h.str u) c.1 fun k => by rw [Sr.Stb.first h.2 k]; exact (c.2 k).symm
theorem ordK_sub {ts : List Tk} {list : Nat} {t : Tk} (h : t ∈ ordK ts list) : t ∈ ts ∧ t.list = list := by
 have q := List.mem_filter.1 (Sr.canon_mem h)
 exact ⟨q.1, by simpa using q.2⟩
theorem wo_mem {l : List Tk} {list id : Nat} {done : Bool} {t : Tk} : t ∈ wo l list done id ↔ t ∈ l ∧ t.id ≠ id ∧ ¬ (list ≠ 0 ∧ t.list = list ∧ (t.done = true ∨ done = false)) := by
 unfold wo
 rw [List.mem_filter]
 refine and_congr Iff.rfl ?_
 by_cases h1 : list = 0 <;> by_cases h2 : t.list = list <;> cases done <;> cases t.done <;> simp [h1, h2]
theorem hasL_iff {ls : List Li} {id : Nat} : hasL ls id = true ↔ ∃ l ∈ ls, l.id = id := by
 unfold hasL
 rw [List.any_eq_true]
 exact exists_congr fun l => and_congr_right fun _ => by simp
theorem hasK_iff {ts : List Tk} {id : Nat} : hasK ts id = true ↔ ∃ t ∈ ts, t.id = id := by
 unfold hasK
 rw [List.any_eq_true]
 simp
theorem findK_mem {ts : List Tk} {id : Nat} (h : hasK ts id = true) : (findK ts id).1 ∈ ts ∧ (findK ts id).1.id = id ∧ (findK ts id).2 = true := by
 obtain ⟨t, ht, e⟩ := hasK_iff.1 h
 unfold findK
 cases q : ts.find? (fun t => t.id == id) with
 | none =>
  have := List.find?_eq_none.1 q t ht
  simp [e] at this
 | some u => exact ⟨List.mem_of_find?_eq_some q, by simpa using List.find?_some q, rfl⟩
theorem findK_one {ts : List Tk} (u : Uni ts) {t : Tk} (ht : t ∈ ts) : findK ts t.id = (t, true) := by
 have h : hasK ts t.id = true := hasK_iff.2 ⟨t, ht, rfl⟩
 obtain ⟨q1, q2, q3⟩ := findK_mem h
 have e : (findK ts t.id).1 = t := by
  obtain ⟨i, hi, ei⟩ := List.mem_iff_getElem.1 q1
  obtain ⟨j, hj, ej⟩ := List.mem_iff_getElem.1 ht
  rcases Nat.lt_trichotomy i j with r | r | r
  ·have := List.pairwise_iff_getElem.1 u i j hi hj r
   rw [ei, ej, q2] at this; exact absurd rfl this
  ·subst r; rw [← ei, ej]
  ·have := List.pairwise_iff_getElem.1 u j i hj hi r
   rw [ei, ej, q2] at this; exact absurd rfl this
 exact Prod.ext e q3
theorem str_uniK {ts : List Tk} (h : Sr.Str ltK ts) : Uni ts := h.imp fun q => by have := of_decide_eq_true q; omega
theorem findL_one {ls : List Li} (h : Sr.Str ltL ls) {l : Li} (hl : l ∈ ls) : findL ls l.id = (l, true) := by
 unfold findL
 cases q : ls.find? (fun x => x.id == l.id) with
 | none =>
  have := List.find?_eq_none.1 q l hl
  simp at this
 | some u =>
  have e : u.id = l.id := by simpa using List.find?_some q
  have hu := List.mem_of_find?_eq_some q
  obtain ⟨i, hi, ei⟩ := List.mem_iff_getElem.1 hu
  obtain ⟨j, hj, ej⟩ := List.mem_iff_getElem.1 hl
  rcases Nat.lt_trichotomy i j with r | r | r
  ·have := of_decide_eq_true (List.pairwise_iff_getElem.1 h i j hi hj r)
   rw [ei, ej] at this; omega
  ·subst r; rw [← ei, ej]
  ·have := of_decide_eq_true (List.pairwise_iff_getElem.1 h j i hj hi r)
   rw [ei, ej] at this; omega
end T9
end

section
namespace T9
theorem if_zero {c : Prop} [Decidable c] {a b : Int} (ha : a ≠ 0) (h : (if c then a else b) = 0) : ¬ c ∧ b = 0 := by
 by_cases q : c
 ·rw [if_pos q] at h; exact absurd h ha
 ·rw [if_neg q] at h; exact ⟨q, h⟩
theorem checkE_parts {m : Mu} (h : checkE m = 0) : (1 ≤ m.kind ∧ m.kind ≤ 13) ∧ isC m.f = true ∧ (nList m.kind = true → m.list ≠ 0) ∧ (nId m.kind = true → m.id ≠ 0) ∧ (nTag m.kind = true → tag m.text = true) ∧ (nTag m.kind = false → nText m.kind = true → title m.text = true) ∧ (nF m.kind = true → m.kind ≠ 8 → Fl.isN m.f = false) ∧ (nList m.kind = false → m.list = 0) := by
 unfold checkE at h
 obtain ⟨h1, h⟩ := if_zero (by decide) h
 obtain ⟨h2, h⟩ := if_zero (by decide) h
 obtain ⟨h3, h⟩ := if_zero (by decide) h
 obtain ⟨h4, h⟩ := if_zero (by decide) h
 obtain ⟨h5, h⟩ := if_zero (by decide) h
 obtain ⟨h6, h⟩ := if_zero (by decide) h
 unfold extra at h2
 simp only [Bool.not_eq_true, Bool.or_eq_false_iff, Bool.and_eq_false_iff, Bool.not_eq_false', beq_eq_false_iff_ne, Decidable.not_not, beq_iff_eq, decide_eq_true_eq] at h1 h2 h3 h4 h5 h6
 refine ⟨h1, h2.1.1.1.1.1, fun q => ?_, fun q => ?_, fun q => ?_, fun q r => ?_, fun q r => ?_, fun q => ?_⟩
 ·rcases h3.1 with k | k
  ·rw [k] at q; cases q
  ·exact k
 ·rcases h4 with k | k
  ·rw [k] at q; cases q
  ·exact k
 ·rcases h5.1 with k | k
  ·rw [k] at q; cases q
  ·exact k
 ·rcases h5.2 with (k | k) | k
  ·rw [q] at k; cases k
  ·rw [k] at r; cases r
  ·exact k
 ·rcases h6 with (k | k) | k
  ·rw [k] at q; cases q
  ·exact k
  ·exact absurd k r
 ·rcases h2.1.1.1.2 with k | k
  ·rw [q] at k; cases k
  ·exact k

theorem wo_len {l : List Tk} {list id : Nat} {done : Bool} : (wo l list done id).length ≤ l.length := List.length_filter_le _ _
theorem wo_less {l : List Tk} {id : Nat} (h : hasK l id = true) : (wo l 0 false id).length < l.length := by
 obtain ⟨t, ht, e⟩ := hasK_iff.1 h
 unfold wo
 rw [List.length_filter_lt_length_iff_exists]
 exact ⟨t, ht, by simp [e]⟩
theorem str_wo {l : List Tk} (h : Sr.Str ltK l) (list id : Nat) (done : Bool) : Sr.Str ltK (wo l list done id) := List.Pairwise.filter _ h
theorem nan_ok : isC Fl.nanW = true := by decide +kernel
theorem tagsUp_of : ∀ {l : List (List UInt8)} {a : List UInt8}, (∀ x ∈ l, tag x = true ∧ ltS a x = true) → Sr.Str ltS l → tagsUp a l = true
 | [], _, _, _ => rfl
 | t :: l, a, h, s => by
  have p := List.pairwise_cons.1 s
  have q := h t List.mem_cons_self
  unfold tagsUp
  rw [q.1, q.2, tagsUp_of (fun x hx => ⟨(h x (List.mem_cons_of_mem _ hx)).1, p.1 x hx⟩) p.2]
  rfl
theorem tagsUp_tag : ∀ {l : List (List UInt8)} {a : List UInt8}, tagsUp a l = true → ∀ x ∈ l, tag x = true
 | [], _, _ => by simp
 | t :: l, a, h => by
  unfold tagsUp at h
  rw [Bool.and_eq_true, Bool.and_eq_true] at h
  intro x hx
  rcases List.mem_cons.1 hx with rfl | hx
  ·exact h.1.1
  ·exact tagsUp_tag h.2 x hx
theorem tag_up {x : List UInt8} (h : tag x = true) : ltS [] x = true := by
 unfold tag at h
 rw [Bool.and_eq_true, decide_eq_true_eq] at h
 unfold ltS
 rw [decide_eq_true_eq]
 cases x with
 | nil => simp at h
 | cons a x => exact List.nil_lt_cons a x
theorem tags_right {l : List (List UInt8)} {m : Mu} (c : nTag m.kind = true → tag m.text = true) (k : nTag m.kind = true) (h : l.length ≤ 4) (u : tagsUp [] l = true) (e : (tagsM l m).1 = 0) : (tagsM l m).2.length ≤ 4 ∧ tagsUp [] (tagsM l m).2 = true := by
 have sl := (tagsUp_str u).2
 have fl : Sr.Str ltS (l.filter fun x => !decide (x = m.text)) := List.Pairwise.filter _ sl
 have ft : ∀ x ∈ l.filter fun x => !decide (x = m.text), tag x = true := fun x hx => tagsUp_tag u x (List.mem_filter.1 hx).1
 have fn : (l.filter fun x => !decide (x = m.text)).length ≤ l.length := List.length_filter_le _ _
 unfold tagsM at e ⊢
 by_cases h1 : m.kind = 10
 ·rw [if_pos h1] at e ⊢
  by_cases h2 : (l.filter fun x => !decide (x = m.text)).length < l.length
  ·rw [if_pos h2] at e ⊢
   exact ⟨by show (l.filter _).length ≤ 4; omega, tagsUp_of (fun x hx => ⟨ft x hx, tag_up (ft x hx)⟩) fl⟩
  ·rw [if_neg h2] at e; cases e
 rw [if_neg h1] at e ⊢
 by_cases h2 : (l.filter fun x => !decide (x = m.text)).length < l.length
 ·rw [if_pos h2] at e; cases e
 rw [if_neg h2] at e ⊢
 by_cases h3 : 4 ≤ l.length
 ·rw [if_pos h3] at e; cases e
 rw [if_neg h3] at e ⊢
 have cl := Sr.canon_len (lt := ltS) ((l.filter fun x => !decide (x = m.text)) ++ [m.text])
 rw [List.length_append] at cl
 have ct : ∀ x ∈ Sr.canon ltS ((l.filter fun x => !decide (x = m.text)) ++ [m.text]), tag x = true := fun x hx => by
  rcases List.mem_append.1 (Sr.canon_mem hx) with q | q
  ·exact ft x q
  ·rw [List.mem_singleton] at q; rw [q]; exact c k
 exact ⟨by show (Sr.canon _ _).length ≤ 4; simp at cl; omega, tagsUp_of (fun x hx => ⟨ct x hx, tag_up (ct x hx)⟩) (Sr.canon_spec woS _).1⟩

theorem lists_more {ls : List Li} {x : Li} {id : Nat} (h : hasL ls id = true) : hasL (Sr.ins ltL x ls) id = true := by
 obtain ⟨l, hl, e⟩ := hasL_iff.1 h
 exact hasL_iff.2 ⟨l, Sr.mem_ins hl, e⟩
/-- The one that a mutation of one task changes. -/
theorem chg_right {s : St} {m : Mu} {t : Tk} (c : checkE m = 0) (k4 : 4 ≤ m.kind ∧ m.kind ≤ 10) (f : fieldsE t = 0) (hl : hasL s.lists t.list = true) (e : (chg (hasL s.lists m.list) m t).1 = 0) :
  (chg (hasL s.lists m.list) m t).2.id = t.id ∧ fieldsE (chg (hasL s.lists m.list) m t).2 = 0 ∧ hasL s.lists (chg (hasL s.lists m.list) m t).2.list = true := by
 obtain ⟨_, hc, _, _, ht, hx, hf, _⟩ := checkE_parts c
 obtain ⟨f1, f2, f3, f4, f5, f6⟩ := fieldsE_parts10 f
 unfold chg at e ⊢
 by_cases h4 : m.kind = 4
 ·rw [if_pos h4] at e ⊢
  exact ⟨rfl, fieldsE_of (hx (by rw [h4]; decide) (by rw [h4]; decide)) f2 f3 f4 f5 f6, hl⟩
 rw [if_neg h4] at e ⊢
 by_cases h5 : m.kind = 5
 ·rw [if_pos h5] at e ⊢
  exact ⟨rfl, fieldsE_of f1 f2 f3 f4 f5 f6, hl⟩
 rw [if_neg h5] at e ⊢
 by_cases h6 : m.kind = 6
 ·rw [if_pos h6] at e ⊢
  have hh : hasL s.lists m.list = true := by
   cases q : hasL s.lists m.list with
   | true => rfl
   | false => rw [q] at e; simp at e
  exact ⟨rfl, fieldsE_of f1 (hf (by rw [h6]; decide) (by rw [h6]; decide)) hc f4 f5 f6, hh⟩
 rw [if_neg h6] at e ⊢
 by_cases h7 : m.kind = 7
 ·rw [if_pos h7] at e ⊢
  exact ⟨rfl, fieldsE_of f1 (hf (by rw [h7]; decide) (by rw [h7]; decide)) hc f4 f5 f6, hl⟩
 rw [if_neg h7] at e ⊢
 by_cases h8 : m.kind = 8
 ·rw [if_pos h8] at e ⊢
  exact ⟨rfl, fieldsE_of f1 f2 f3 hc f5 f6, hl⟩
 rw [if_neg h8] at e ⊢
 have kt : nTag m.kind = true := decide_eq_true (by omega)
 obtain ⟨g1, g2⟩ := tags_right ht kt f5 f6 e
 exact ⟨rfl, fieldsE_of f1 f2 f3 f4 g1 g2, hl⟩

theorem doM_right {s : St} {m : Mu} (h : rightE s = 0) (c : checkE m = 0) (e : (doM s m).1 = 0) : rightE (doM s m).2 = 0 := by
 obtain ⟨h1, h2, h3, h4⟩ := rightE_parts h
 obtain ⟨l1, l2⟩ := listsE_iff.1 h3
 obtain ⟨t1, t2⟩ := tasksE_iff.1 h4
 obtain ⟨hk, hc, hlist, hidz, ht, hx, hf, _⟩ := checkE_parts c
 unfold doM at e ⊢
 by_cases k1 : m.kind = 1
 ·rw [if_pos k1] at e ⊢
  by_cases a1 : hasL s.lists m.id = true
  ·rw [if_pos a1] at e; cases e
  rw [if_neg a1] at e ⊢
  by_cases a2 : 20 ≤ s.lists.length
  ·rw [if_pos a2] at e; cases e
  rw [if_neg a2] at e ⊢
  refine rightE_of (Nat.le_trans (Sr.ins_len _ _) (by omega)) h2 (listsE_iff.2 ⟨fun l hl => ?_, Sr.str_ins woL l2⟩) (tasksE_iff.2 ⟨fun t ht => ⟨(t1 t ht).1, (t1 t ht).2.1, lists_more (t1 t ht).2.2⟩, t2⟩)
  rcases Sr.ins_mem hl with rfl | q
  ·exact ⟨Nat.pos_of_ne_zero (hidz (by rw [k1]; decide)), hx (by rw [k1]; decide) (by rw [k1]; decide)⟩
  ·exact l1 l q
 rw [if_neg k1] at e ⊢
 by_cases k2 : m.kind = 2
 ·rw [if_pos k2] at e ⊢
  by_cases a1 : hasL s.lists m.id = false
  ·rw [if_pos a1] at e; cases e
  rw [if_neg a1] at e ⊢
  refine rightE_of (Nat.le_trans (List.length_filter_le _ _) h1) (Nat.le_trans wo_len h2) (listsE_iff.2 ⟨fun l hl => l1 l (List.mem_filter.1 hl).1, List.Pairwise.filter _ l2⟩) (tasksE_iff.2 ⟨fun t ht => ?_, str_wo t2 _ _ _⟩)
  obtain ⟨q1, q2, q3⟩ := wo_mem.1 ht
  refine ⟨(t1 t q1).1, (t1 t q1).2.1, ?_⟩
  obtain ⟨l, hl, el⟩ := hasL_iff.1 (t1 t q1).2.2
  refine hasL_iff.2 ⟨l, List.mem_filter.2 ⟨hl, ?_⟩, el⟩
  have : l.id ≠ m.id := fun z => q3 ⟨hidz (by rw [k2]; decide), by rw [← el, z], .inr rfl⟩
  simp [this]
 rw [if_neg k2] at e ⊢
 by_cases k12 : m.kind = 12
 ·rw [if_pos k12] at e ⊢
  by_cases a1 : hasL s.lists m.list = false
  ·rw [if_pos a1] at e; cases e
  rw [if_neg a1] at e ⊢
  exact rightE_of h1 (Nat.le_trans wo_len h2) h3 (tasksE_iff.2 ⟨fun t ht => t1 t (wo_mem.1 ht).1, str_wo t2 _ _ _⟩)
 rw [if_neg k12] at e ⊢
 by_cases k13 : m.kind = 13
 ·rw [if_pos k13] at e ⊢
  by_cases a1 : hasL s.lists m.list = false
  ·rw [if_pos a1] at e; cases e
  rw [if_neg a1] at e ⊢
  refine spread_right h ?_
  exact Nat.le_trans (Sr.canon_len _) (Nat.le_trans (List.length_filter_le _ _) h2)
 rw [if_neg k13] at e ⊢
 by_cases k3 : m.kind = 3
 ·rw [if_pos k3] at e ⊢
  by_cases a1 : hasK s.tasks m.id = true
  ·rw [if_pos a1] at e; cases e
  rw [if_neg a1] at e ⊢
  by_cases a2 : hasL s.lists m.list = false
  ·rw [if_pos a2] at e; cases e
  rw [if_neg a2] at e ⊢
  by_cases a3 : 60 ≤ s.tasks.length
  ·rw [if_pos a3] at e; cases e
  rw [if_neg a3] at e ⊢
  refine rightE_of h1 (Nat.le_trans (Sr.ins_len _ _) (by omega)) h3 (tasksE_iff.2 ⟨fun t ht => ?_, Sr.str_ins woK t2⟩)
  rcases Sr.ins_mem ht with rfl | q
  ·exact ⟨Nat.pos_of_ne_zero (hidz (by rw [k3]; decide)), fieldsE_of (hx (by rw [k3]; decide) (by rw [k3]; decide)) (hf (by rw [k3]; decide) (by rw [k3]; decide)) hc nan_ok (Nat.zero_le _) rfl, (by cases z : hasL s.lists m.list with | true => rfl | false => exact absurd z a2 : hasL s.lists m.list = true)⟩
  ·exact t1 t q
 rw [if_neg k3] at e ⊢
 by_cases a1 : hasK s.tasks m.id = false
 ·rw [if_pos a1] at e; cases e
 rw [if_neg a1] at e ⊢
 have a1' : hasK s.tasks m.id = true := by simpa using a1
 by_cases k11 : m.kind = 11
 ·rw [if_pos k11] at e ⊢
  exact rightE_of h1 (Nat.le_trans wo_len h2) h3 (tasksE_iff.2 ⟨fun t ht => t1 t (wo_mem.1 ht).1, str_wo t2 _ _ _⟩)
 rw [if_neg k11] at e ⊢
 obtain ⟨q1, q2, _⟩ := findK_mem a1'
 obtain ⟨g1, g2, g3⟩ := chg_right (s := s) c (by omega) (t1 _ q1).2.1 (t1 _ q1).2.2 e
 refine rightE_of h1 (Nat.le_trans (Sr.ins_len _ _) (by have := wo_less a1'; omega)) h3 (tasksE_iff.2 ⟨fun t ht => ?_, Sr.str_ins woK (str_wo t2 _ _ _)⟩)
 rcases Sr.ins_mem ht with rfl | q
 ·exact ⟨by rw [g1, q2]; exact Nat.pos_of_ne_zero (hidz (decide_eq_true (by omega))), g2, g3⟩
 ·exact t1 t (wo_mem.1 q).1

/-- Whether a mutation names a task. -/
def namedT (m : Mu) (t : Tk) : Bool := (!ofL m.kind && !decide (m.kind = 2 ∨ m.kind = 12 ∨ m.kind = 13) && t.id == m.id) || (decide (m.kind = 2 ∨ m.kind = 12 ∨ m.kind = 13) && (t.list == m.list || (decide (m.kind = 2) && t.list == m.id)))
theorem namedT_not {m : Mu} {t : Tk} (h : namedT m t = false) : (m.kind ≠ 1 → m.kind ≠ 2 → m.kind ≠ 12 → m.kind ≠ 13 → t.id ≠ m.id) ∧ (m.kind = 2 ∨ m.kind = 12 ∨ m.kind = 13 → t.list ≠ m.list) ∧ (m.kind = 2 → t.list ≠ m.id) := by
 unfold namedT ofL at h
 rw [Bool.or_eq_false_iff] at h
 obtain ⟨p, q⟩ := h
 refine ⟨fun a b c d => ?_, fun a => ?_, fun a => ?_⟩
 ·have e1 : decide (m.kind = 1 ∨ m.kind = 2) = false := decide_eq_false (by omega)
  have e2 : decide (m.kind = 2 ∨ m.kind = 12 ∨ m.kind = 13) = false := decide_eq_false (by omega)
  rw [e1, e2] at p
  simpa using p
 ·rw [decide_eq_true a] at q
  simp at q
  exact q.1
 ·rw [decide_eq_true (.inl a), decide_eq_true a] at q
  simp at q
  exact q.2
theorem doM_tasks {s : St} {m : Mu} (h : rightE s = 0) {t : Tk} (ht : t ∈ s.tasks) (hn : namedT m t = false) : t ∈ (doM s m).2.tasks := by
 obtain ⟨n1, n2, n3⟩ := namedT_not hn
 obtain ⟨h1, h2, h3, h4⟩ := rightE_parts h
 obtain ⟨t1, t2⟩ := tasksE_iff.1 h4
 unfold doM
 by_cases k1 : m.kind = 1
 ·rw [if_pos k1]
  split
  ·exact ht
  ·split <;> exact ht
 rw [if_neg k1]
 by_cases k2 : m.kind = 2
 ·rw [if_pos k2]
  split
  ·exact ht
  ·exact wo_mem.2 ⟨ht, by have := (t1 t ht).1; omega, fun q => n3 k2 q.2.1⟩
 rw [if_neg k2]
 by_cases k12 : m.kind = 12
 ·rw [if_pos k12]
  split
  ·exact ht
  ·exact wo_mem.2 ⟨ht, by have := (t1 t ht).1; omega, fun q => n2 (.inr (.inl k12)) q.2.1⟩
 rw [if_neg k12]
 by_cases k13 : m.kind = 13
 ·rw [if_pos k13]
  split
  ·exact ht
  ·refine List.mem_map.2 ⟨t, ht, ?_⟩
   unfold spr
   rw [plc_none.2 fun x hx z => ?_]
   obtain ⟨q1, q2⟩ := ordK_sub hx
   have e2 : x = t := by
    have a := findK_one (str_uniK t2) q1
    have b := findK_one (str_uniK t2) ht
    rw [z, b] at a
    exact (congrArg Prod.fst a).symm
   exact n2 (.inr (.inr k13)) (by rw [← e2]; exact q2)
 rw [if_neg k13]
 have nid := n1 k1 k2 k12 k13
 by_cases k3 : m.kind = 3
 ·rw [if_pos k3]
  split
  ·exact ht
  ·split
   ·exact ht
   ·split
    ·exact ht
    ·exact Sr.mem_ins ht
 rw [if_neg k3]
 split
 ·exact ht
 ·have w : t ∈ wo s.tasks 0 false m.id := wo_mem.2 ⟨ht, nid, fun q => q.1 rfl⟩
  split
  ·exact w
  ·exact Sr.mem_ins w
theorem doM_lists {s : St} {m : Mu} {l : Li} (hl : l ∈ s.lists) (hn : (ofL m.kind && l.id == m.id) = false) : l ∈ (doM s m).2.lists := by
 unfold doM
 by_cases k1 : m.kind = 1
 ·rw [if_pos k1]
  split
  ·exact hl
  ·split
   ·exact hl
   ·exact Sr.mem_ins hl
 rw [if_neg k1]
 by_cases k2 : m.kind = 2
 ·rw [if_pos k2]
  split
  ·exact hl
  ·refine List.mem_filter.2 ⟨hl, ?_⟩
   have e1 : ofL m.kind = true := decide_eq_true (.inr k2)
   rw [e1, Bool.true_and] at hn
   rw [hn]; rfl
 rw [if_neg k2]
 split
 ·split <;> exact hl
 ·split
  ·split <;> exact hl
  ·split
   ·split
    ·exact hl
    ·split
     ·exact hl
     ·split <;> exact hl
   ·split
    ·exact hl
    ·split <;> exact hl
theorem doM_len (s : St) (m : Mu) : (doM s m).2.tasks.length ≤ s.tasks.length + 1 ∧ (doM s m).2.lists.length ≤ s.lists.length + 1 := by
 have i := fun x => Sr.ins_len (lt := ltK) x s.tasks
 have j := fun x => Sr.ins_len (lt := ltL) x s.lists
 have k := fun x (a b : Nat) (d : Bool) => Nat.le_trans (Sr.ins_len (lt := ltK) x (wo s.tasks a d b)) (Nat.succ_le_succ wo_len)
 have f := fun p : Li → Bool => List.length_filter_le p s.lists
 have w := fun (a b : Nat) (d : Bool) => wo_len (l := s.tasks) (list := a) (id := b) (done := d)
 unfold doM
 repeat' split
 all_goals first
  | exact ⟨Nat.le_succ _, Nat.le_succ _⟩
  | exact ⟨Nat.le_succ _, j _⟩
  | exact ⟨i _, Nat.le_succ _⟩
  | exact ⟨k _ _ _ _, Nat.le_succ _⟩
  | exact ⟨Nat.le_trans (w _ _ _) (Nat.le_succ _), Nat.le_succ _⟩
  | exact ⟨Nat.le_trans (w _ _ _) (Nat.le_succ _), Nat.le_trans (f _) (Nat.le_succ _)⟩
  | exact ⟨by simp, Nat.le_succ _⟩
end T9
end
end Go.Proofs.YtjaaehbllkbiaaaGreat
