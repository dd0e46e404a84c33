import Derived.Test.YtpphmbfghfmdlaaGreatZ15
import Derived.Test.YtpphmbfghfmdlaaGreatZ19
namespace Go.Proofs.YtpphmbfghfmdlaaGreat
set_option maxRecDepth 100000
section
section
namespace T9
structure Mu where
 kind : Int
 id : Nat
 list : Nat
 text : List UInt8
 f : Nat
 flag : Bool
def Mu.ok (m : Mu) : Prop := m.id < 18446744073709551616 ∧ m.list < 18446744073709551616 ∧ m.f < 18446744073709551616
def nId (k : Int) : Bool := decide (1 ≤ k ∧ k ≤ 11)
def jq (k : Int) : Bool := decide (k = 3 ∨ k = 6 ∨ k = 12 ∨ k = 13)
def jU (k : Int) : Bool := decide (k = 1 ∨ k = 3 ∨ k = 4 ∨ k = 9 ∨ k = 10)
def nF (k : Int) : Bool := decide (k = 3 ∨ k = 6 ∨ k = 7 ∨ k = 8)
def mJ (k : Int) : Bool := decide (k = 5)
def ofL (k : Int) : Bool := decide (k = 1 ∨ k = 2)
def kC (k : Int) : Bool := decide (k = 9 ∨ k = 10)
def extra (m : Mu) : Bool := !isC m.f || !nId m.kind && !(m.id == 0) || !jq m.kind && !(m.list == 0) || !jU m.kind && !decide (m.text = []) || !mJ m.kind && m.flag || !nF m.kind && !Fl.eqB m.f 0
def bC (m : Mu) : Int :=
 if ¬ (1 ≤ m.kind ∧ m.kind ≤ 13) then 110 else
 if extra m = true then 110 else
 if (jq m.kind && m.list == 0 || ofL m.kind && m.id == 0) = true then 91 else
 if (nId m.kind && m.id == 0) = true then 93 else
 if (kC m.kind && !tag m.text || !kC m.kind && jU m.kind && !title m.text) = true then 94 else
 if (nF m.kind && Fl.isN m.f && !decide (m.kind = 8)) = true then 100 else 0
def wo (l : List Tk) (list : Nat) (done : Bool) (id : Nat) : List Tk := l.filter fun t => !(t.id == id || (!(list == 0) && t.list == list && (t.done || !done)))
def cK (l : List (List UInt8)) (m : Mu) : Int × List (List UInt8) :=
 if m.kind = 10 then (if (l.filter fun x => !decide (x = m.text)).length < l.length then (0, l.filter fun x => !decide (x = m.text)) else (3, l)) else
 if (l.filter fun x => !decide (x = m.text)).length < l.length then (92, l) else
 if 4 ≤ l.length then (95, l) else (0, Sr.canon ltS ((l.filter fun x => !decide (x = m.text)) ++ [m.text]))
def chg (home : Bool) (m : Mu) (t : Tk) : Int × Tk :=
 if m.kind = 4 then (0, { t with title := m.text }) else
 if m.kind = 5 then (0, { t with done := m.flag }) else
 if m.kind = 6 then (if home = true then 0 else 91, { t with list := m.list, rank := m.f }) else
 if m.kind = 7 then (0, { t with rank := m.f }) else
 if m.kind = 8 then (0, { t with est := m.f }) else
 ((cK t.tags m).1, { t with tags := (cK t.tags m).2 })
def gW (ts : List Tk) (list : Nat) : List Tk := Sr.canon ltR (dO ts list)
def aZ (ls : List Li) (id : Nat) : Bool := ls.any fun l => l.id == id
def dh (ts : List Tk) (id : Nat) : Bool := ts.any fun t => t.id == id
def doM (s : St) (m : Mu) : Int × St :=
 if m.kind = 1 then (if aZ s.lists m.id = true then (92, s) else if 20 ≤ s.lists.length then (95, s) else (0, ⟨Sr.ins ltL ⟨m.id, m.text⟩ s.lists, s.aN⟩)) else
 if m.kind = 2 then (if aZ s.lists m.id = false then (91, s) else (0, ⟨s.lists.filter fun l => !(l.id == m.id), wo s.aN m.id false 0⟩)) else
 if m.kind = 12 then (if aZ s.lists m.list = false then (91, s) else (0, ⟨s.lists, wo s.aN m.list true 0⟩)) else
 if m.kind = 13 then (if aZ s.lists m.list = false then (91, s) else (0, ⟨s.lists, s.aN.map (spr (gW s.aN m.list))⟩)) else
 if m.kind = 3 then (if dh s.aN m.id = true then (92, s) else if aZ s.lists m.list = false then (91, s) else if 60 ≤ s.aN.length then (95, s) else (0, ⟨s.lists, Sr.ins ltK ⟨m.id, m.list, m.text, false, m.f, Fl.eQ, []⟩ s.aN⟩)) else
 if dh s.aN m.id = false then (93, s) else
 if m.kind = 11 then (0, ⟨s.lists, wo s.aN 0 false m.id⟩) else
 ((chg (aZ s.lists m.list) m (bT s.aN m.id).1).1, ⟨s.lists, Sr.ins ltK (chg (aZ s.lists m.list) m (bT s.aN m.id).1).2 (wo s.aN 0 false m.id)⟩)
def aY (s : St) (m : Mu) : St × Int :=
 if aG s ≠ 0 then (⟨[], []⟩, aG s) else
 if bC m ≠ 0 then (⟨[], []⟩, bC m) else
 if (doM s m).1 ≠ 0 then (⟨[], []⟩, (doM s m).1) else ((doM s m).2, 0)
theorem eY {ls : List Li} {a : Nat} : bv a ls = 0 ↔ (∀ l ∈ ls, a < l.id ∧ title l.name = true) ∧ Sr.Str ltL ls := by
 induction ls generalizing a with
 | nil => simp [bv, Sr.Str]
 | cons l r ih =>
  unfold bv
  by_cases h1 : l.id ≤ a
  ·rw [if_pos h1]
   refine ⟨fun h => (by cases h), fun h => ?_⟩
   have := (h.1 l List.mem_cons_self).1
   omega
  rw [if_neg h1]
  by_cases h2 : title l.name = false
  ·rw [if_pos h2]
   refine ⟨fun h => (by cases h), fun h => ?_⟩
   have := (h.1 l List.mem_cons_self).2
   rw [h2] at this; cases this
  rw [if_neg h2, ih]
  have h2' : title l.name = true := by simpa using h2
  unfold Sr.Str
  rw [List.pairwise_cons]
  constructor
  ·rintro ⟨q1, q2⟩
   refine ⟨fun x hx => ?_, fun x hx => decide_eq_true (q1 x hx).1, q2⟩
   rcases List.mem_cons.1 hx with rfl | hx
   ·exact ⟨by omega, h2'⟩
   ·have := q1 x hx; exact ⟨by omega, this.2⟩
  ·rintro ⟨q1, q2, q3⟩
   exact ⟨fun x hx => ⟨of_decide_eq_true (q2 x hx), (q1 x (List.mem_cons_of_mem _ hx)).2⟩, q3⟩
theorem bK {ls : List Li} {ts : List Tk} {a : Nat} : bA ls a ts = 0 ↔ (∀ t ∈ ts, a < t.id ∧ aL t = 0 ∧ (ls.any fun l => l.id == t.list) = true) ∧ Sr.Str ltK ts := by
 refine ⟨fun h => ⟨(fE h).1, tX (fE h).2⟩, ?_⟩
 induction ts generalizing a with
 | nil => intro _; rfl
 | cons t r ih =>
  rintro ⟨h1, h2⟩
  have h := h1 t List.mem_cons_self
  have p := List.pairwise_cons.1 h2
  unfold bA
  rw [if_neg (by omega), if_neg (by rw [h.2.2]; decide), if_neg (fun q => q h.2.1)]
  exact ih ⟨fun x hx => ⟨of_decide_eq_true (p.1 x hx), (h1 x (List.mem_cons_of_mem _ hx)).2⟩, p.2⟩
end T9
namespace Sr
section
variable {α : Type} {lt : α → α → Bool}
theorem ui {x y : α} : ∀ {l : List α}, y ∈ l → y ∈ ins lt x l
 | z :: l, h => by
  unfold ins
  split
  ·rcases List.mem_cons.1 h with rfl | h
   ·exact List.mem_cons_self
   ·exact List.mem_cons_of_mem _ (ui h)
  ·split
   ·exact List.mem_cons_of_mem _ h
   ·exact h
end
end Sr
namespace T9
theorem ordK_of {ts r : List Tk} {list : Nat} (h : mV ts list r) (u : Uni ts) : r = gW ts list := by
 have c := Sr.dS woR (dO ts list)
 exact Sr.kg woR (h.str u) c.1 fun k => by rw [Sr.Stb.first h.2 k]; exact (c.2 k).symm
theorem wO {ts : List Tk} {list : Nat} {t : Tk} (h : t ∈ gW ts list) : t ∈ ts ∧ t.list = list := by
 have q := List.mem_filter.1 (Sr.jd h)
 exact ⟨q.1, by simpa using q.2⟩
theorem oN {l : List Tk} {list id : Nat} {done : Bool} {t : Tk} : t ∈ wo l list done id ↔ t ∈ l ∧ t.id ≠ id ∧ ¬ (list ≠ 0 ∧ t.list = list ∧ (t.done = true ∨ done = false)) := by
 unfold wo
 rw [List.mem_filter]
 refine and_congr Iff.rfl ?_
 by_cases h1 : list = 0 <;> by_cases h2 : t.list = list <;> cases done <;> cases t.done <;> simp [h1, h2]
theorem ic {ls : List Li} {id : Nat} : aZ ls id = true ↔ ∃ l ∈ ls, l.id = id := by
 unfold aZ
 rw [List.any_eq_true]
 exact exists_congr fun l => and_congr_right fun _ => by simp
theorem mI {ts : List Tk} {id : Nat} : dh ts id = true ↔ ∃ t ∈ ts, t.id = id := by
 unfold dh
 rw [List.any_eq_true]
 simp
theorem h_ {ts : List Tk} {id : Nat} (h : dh ts id = true) : (bT ts id).1 ∈ ts ∧ (bT ts id).1.id = id ∧ (bT ts id).2 = true := by
 obtain ⟨t, ht, e⟩ := mI.1 h
 unfold bT
 cases q : ts.find? (fun t => t.id == id) with
 | none =>
  have := List.find?_eq_none.1 q t ht
  simp [e] at this
 | some u => exact ⟨List.mem_of_find?_eq_some q, by simpa using List.find?_some q, rfl⟩
theorem uQ {ts : List Tk} (u : Uni ts) {t : Tk} (ht : t ∈ ts) : bT ts t.id = (t, true) := by
 have h : dh ts t.id = true := mI.2 ⟨t, ht, rfl⟩
 obtain ⟨q1, q2, q3⟩ := h_ h
 have e : (bT ts t.id).1 = t := by
  obtain ⟨i, hi, ei⟩ := List.mem_iff_getElem.1 q1
  obtain ⟨j, hj, ej⟩ := List.mem_iff_getElem.1 ht
  rcases Nat.lt_trichotomy i j with r | r | r
  ·have := List.pairwise_iff_getElem.1 u i j hi hj r
   rw [ei, ej, q2] at this; exact absurd rfl this
  ·subst r; rw [← ei, ej]
  ·have := List.pairwise_iff_getElem.1 u j i hj hi r
   rw [ei, ej, q2] at this; exact absurd rfl this
 exact Prod.ext e q3
theorem yE {ts : List Tk} (h : Sr.Str ltK ts) : Uni ts := h.imp fun q => by have := of_decide_eq_true q; omega
end T9
end
section
namespace T9
theorem ja {c : Prop} [Decidable c] {a b : Int} (ha : a ≠ 0) (h : (if c then a else b) = 0) : ¬ c ∧ b = 0 := by
 by_cases q : c
 ·rw [if_pos q] at h; exact absurd h ha
 ·rw [if_neg q] at h; exact ⟨q, h⟩
theorem iB {m : Mu} (h : bC m = 0) : (1 ≤ m.kind ∧ m.kind ≤ 13) ∧ isC m.f = true ∧ (jq m.kind = true → m.list ≠ 0) ∧ (nId m.kind = true → m.id ≠ 0) ∧ (kC m.kind = true → tag m.text = true) ∧ (kC m.kind = false → jU m.kind = true → title m.text = true) ∧ (nF m.kind = true → m.kind ≠ 8 → Fl.isN m.f = false) ∧ (jq m.kind = false → m.list = 0) := by
 unfold bC at h
 obtain ⟨h1, h⟩ := ja (by decide) h
 obtain ⟨h2, h⟩ := ja (by decide) h
 obtain ⟨h3, h⟩ := ja (by decide) h
 obtain ⟨h4, h⟩ := ja (by decide) h
 obtain ⟨h5, h⟩ := ja (by decide) h
 obtain ⟨h6, h⟩ := ja (by decide) h
 unfold extra at h2
 simp only [Bool.not_eq_true, Bool.or_eq_false_iff, Bool.and_eq_false_iff, Bool.not_eq_false', beq_eq_false_iff_ne, Decidable.not_not, beq_iff_eq, decide_eq_true_eq] at h1 h2 h3 h4 h5 h6
 refine ⟨h1, h2.1.1.1.1.1, fun q => ?_, fun q => ?_, fun q => ?_, fun q r => ?_, fun q r => ?_, fun q => ?_⟩
 ·rcases h3.1 with k | k
  ·rw [k] at q; cases q
  ·exact k
 ·rcases h4 with k | k
  ·rw [k] at q; cases q
  ·exact k
 ·rcases h5.1 with k | k
  ·rw [k] at q; cases q
  ·exact k
 ·rcases h5.2 with (k | k) | k
  ·rw [q] at k; cases k
  ·rw [k] at r; cases r
  ·exact k
 ·rcases h6 with (k | k) | k
  ·rw [k] at q; cases q
  ·exact k
  ·exact absurd k r
 ·rcases h2.1.1.1.2 with k | k
  ·rw [q] at k; cases k
  ·exact k
theorem sU {l : List Tk} {list id : Nat} {done : Bool} : (wo l list done id).length ≤ l.length := List.length_filter_le _ _
theorem wo_less {l : List Tk} {id : Nat} (h : dh l id = true) : (wo l 0 false id).length < l.length := by
 obtain ⟨t, ht, e⟩ := mI.1 h
 unfold wo
 rw [List.length_filter_lt_length_iff_exists]
 exact ⟨t, ht, by simp [e]⟩
theorem nX {l : List Tk} (h : Sr.Str ltK l) (list id : Nat) (done : Bool) : Sr.Str ltK (wo l list done id) := List.Pairwise.filter _ h
theorem nan_ok : isC Fl.eQ = true := by decide +kernel
theorem kr : ∀ {l : List (List UInt8)} {a : List UInt8}, (∀ x ∈ l, tag x = true ∧ ltS a x = true) → Sr.Str ltS l → bH a l = true
 | [], _, _, _ => rfl
 | t :: l, a, h, s => by
  have p := List.pairwise_cons.1 s
  have q := h t List.mem_cons_self
  unfold bH
  rw [q.1, q.2, kr (fun x hx => ⟨(h x (List.mem_cons_of_mem _ hx)).1, p.1 x hx⟩) p.2]
  rfl
theorem jF : ∀ {l : List (List UInt8)} {a : List UInt8}, bH a l = true → ∀ x ∈ l, tag x = true
 | [], _, _ => by simp
 | t :: l, a, h => by
  unfold bH at h
  rw [Bool.and_eq_true, Bool.and_eq_true] at h
  intro x hx
  rcases List.mem_cons.1 hx with rfl | hx
  ·exact h.1.1
  ·exact jF h.2 x hx
theorem xM {x : List UInt8} (h : tag x = true) : ltS [] x = true := by
 unfold tag at h
 rw [Bool.and_eq_true, decide_eq_true_eq] at h
 unfold ltS
 rw [decide_eq_true_eq]
 cases x with
 | nil => simp at h
 | cons a x => exact List.nil_lt_cons a x
theorem rV {l : List (List UInt8)} {m : Mu} (c : kC m.kind = true → tag m.text = true) (k : kC m.kind = true) (h : l.length ≤ 4) (u : bH [] l = true) (e : (cK l m).1 = 0) : (cK l m).2.length ≤ 4 ∧ bH [] (cK l m).2 = true := by
 have sl := (iE u).2
 have fl : Sr.Str ltS (l.filter fun x => !decide (x = m.text)) := List.Pairwise.filter _ sl
 have ft : ∀ x ∈ l.filter fun x => !decide (x = m.text), tag x = true := fun x hx => jF u x (List.mem_filter.1 hx).1
 have fn : (l.filter fun x => !decide (x = m.text)).length ≤ l.length := List.length_filter_le _ _
 unfold cK at e ⊢
 by_cases h1 : m.kind = 10
 ·rw [if_pos h1] at e ⊢
  by_cases h2 : (l.filter fun x => !decide (x = m.text)).length < l.length
  ·rw [if_pos h2] at e ⊢
   exact ⟨by show (l.filter _).length ≤ 4; omega, kr (fun x hx => ⟨ft x hx, xM (ft x hx)⟩) fl⟩
  ·rw [if_neg h2] at e; cases e
 rw [if_neg h1] at e ⊢
 by_cases h2 : (l.filter fun x => !decide (x = m.text)).length < l.length
 ·rw [if_pos h2] at e; cases e
 rw [if_neg h2] at e ⊢
 by_cases h3 : 4 ≤ l.length
 ·rw [if_pos h3] at e; cases e
 rw [if_neg h3] at e ⊢
 have cl := Sr.dn (lt := ltS) ((l.filter fun x => !decide (x = m.text)) ++ [m.text])
 rw [List.length_append] at cl
 have ct : ∀ x ∈ Sr.canon ltS ((l.filter fun x => !decide (x = m.text)) ++ [m.text]), tag x = true := fun x hx => by
  rcases List.mem_append.1 (Sr.jd hx) with q | q
  ·exact ft x q
  ·rw [List.mem_singleton] at q; rw [q]; exact c k
 exact ⟨by show (Sr.canon _ _).length ≤ 4; simp at cl; omega, kr (fun x hx => ⟨ct x hx, xM (ct x hx)⟩) (Sr.dS woS _).1⟩
theorem rR {ls : List Li} {x : Li} {id : Nat} (h : aZ ls id = true) : aZ (Sr.ins ltL x ls) id = true := by
 obtain ⟨l, hl, e⟩ := ic.1 h
 exact ic.2 ⟨l, Sr.ui hl, e⟩
theorem vw {s : St} {m : Mu} {t : Tk} (c : bC m = 0) (k4 : 4 ≤ m.kind ∧ m.kind ≤ 10) (f : aL t = 0) (hl : aZ s.lists t.list = true) (e : (chg (aZ s.lists m.list) m t).1 = 0) :
  (chg (aZ s.lists m.list) m t).2.id = t.id ∧ aL (chg (aZ s.lists m.list) m t).2 = 0 ∧ aZ s.lists (chg (aZ s.lists m.list) m t).2.list = true := by
 obtain ⟨_, hc, _, _, ht, hx, hf, _⟩ := iB c
 obtain ⟨f1, f2, f3, f4, f5, f6⟩ := bN f
 unfold chg at e ⊢
 by_cases h4 : m.kind = 4
 ·rw [if_pos h4] at e ⊢
  exact ⟨rfl, dU (hx (by rw [h4]; decide) (by rw [h4]; decide)) f2 f3 f4 f5 f6, hl⟩
 rw [if_neg h4] at e ⊢
 by_cases h5 : m.kind = 5
 ·rw [if_pos h5] at e ⊢
  exact ⟨rfl, dU f1 f2 f3 f4 f5 f6, hl⟩
 rw [if_neg h5] at e ⊢
 by_cases h6 : m.kind = 6
 ·rw [if_pos h6] at e ⊢
  have hh : aZ s.lists m.list = true := by
   cases q : aZ s.lists m.list with
   | true => rfl
   | false => rw [q] at e; simp at e
  exact ⟨rfl, dU f1 (hf (by rw [h6]; decide) (by rw [h6]; decide)) hc f4 f5 f6, hh⟩
 rw [if_neg h6] at e ⊢
 by_cases h7 : m.kind = 7
 ·rw [if_pos h7] at e ⊢
  exact ⟨rfl, dU f1 (hf (by rw [h7]; decide) (by rw [h7]; decide)) hc f4 f5 f6, hl⟩
 rw [if_neg h7] at e ⊢
 by_cases h8 : m.kind = 8
 ·rw [if_pos h8] at e ⊢
  exact ⟨rfl, dU f1 f2 f3 hc f5 f6, hl⟩
 rw [if_neg h8] at e ⊢
 have kt : kC m.kind = true := decide_eq_true (by omega)
 obtain ⟨g1, g2⟩ := rV ht kt f5 f6 e
 exact ⟨rfl, dU f1 f2 f3 f4 g1 g2, hl⟩
theorem uL {s : St} {m : Mu} (h : aG s = 0) (c : bC m = 0) (e : (doM s m).1 = 0) : aG (doM s m).2 = 0 := by
 obtain ⟨h1, h2, h3, h4⟩ := aB h
 obtain ⟨l1, l2⟩ := eY.1 h3
 obtain ⟨t1, t2⟩ := bK.1 h4
 obtain ⟨hk, hc, hlist, hidz, ht, hx, hf, _⟩ := iB c
 unfold doM at e ⊢
 by_cases k1 : m.kind = 1
 ·rw [if_pos k1] at e ⊢
  by_cases a1 : aZ s.lists m.id = true
  ·rw [if_pos a1] at e; cases e
  rw [if_neg a1] at e ⊢
  by_cases a2 : 20 ≤ s.lists.length
  ·rw [if_pos a2] at e; cases e
  rw [if_neg a2] at e ⊢
  refine fD (Nat.le_trans (Sr.je _ _) (by omega)) h2 (eY.2 ⟨fun l hl => ?_, Sr.j3 woL l2⟩) (bK.2 ⟨fun t ht => ⟨(t1 t ht).1, (t1 t ht).2.1, rR (t1 t ht).2.2⟩, t2⟩)
  rcases Sr.gM hl with rfl | q
  ·exact ⟨Nat.pos_of_ne_zero (hidz (by rw [k1]; decide)), hx (by rw [k1]; decide) (by rw [k1]; decide)⟩
  ·exact l1 l q
 rw [if_neg k1] at e ⊢
 by_cases k2 : m.kind = 2
 ·rw [if_pos k2] at e ⊢
  by_cases a1 : aZ s.lists m.id = false
  ·rw [if_pos a1] at e; cases e
  rw [if_neg a1] at e ⊢
  refine fD (Nat.le_trans (List.length_filter_le _ _) h1) (Nat.le_trans sU h2) (eY.2 ⟨fun l hl => l1 l (List.mem_filter.1 hl).1, List.Pairwise.filter _ l2⟩) (bK.2 ⟨fun t ht => ?_, nX t2 _ _ _⟩)
  obtain ⟨q1, q2, q3⟩ := oN.1 ht
  refine ⟨(t1 t q1).1, (t1 t q1).2.1, ?_⟩
  obtain ⟨l, hl, el⟩ := ic.1 (t1 t q1).2.2
  refine ic.2 ⟨l, List.mem_filter.2 ⟨hl, ?_⟩, el⟩
  have : l.id ≠ m.id := fun z => q3 ⟨hidz (by rw [k2]; decide), by rw [← el, z], .inr rfl⟩
  simp [this]
 rw [if_neg k2] at e ⊢
 by_cases k12 : m.kind = 12
 ·rw [if_pos k12] at e ⊢
  by_cases a1 : aZ s.lists m.list = false
  ·rw [if_pos a1] at e; cases e
  rw [if_neg a1] at e ⊢
  exact fD h1 (Nat.le_trans sU h2) h3 (bK.2 ⟨fun t ht => t1 t (oN.1 ht).1, nX t2 _ _ _⟩)
 rw [if_neg k12] at e ⊢
 by_cases k13 : m.kind = 13
 ·rw [if_pos k13] at e ⊢
  by_cases a1 : aZ s.lists m.list = false
  ·rw [if_pos a1] at e; cases e
  rw [if_neg a1] at e ⊢
  refine oK h ?_
  exact Nat.le_trans (Sr.dn _) (Nat.le_trans (List.length_filter_le _ _) h2)
 rw [if_neg k13] at e ⊢
 by_cases k3 : m.kind = 3
 ·rw [if_pos k3] at e ⊢
  by_cases a1 : dh s.aN m.id = true
  ·rw [if_pos a1] at e; cases e
  rw [if_neg a1] at e ⊢
  by_cases a2 : aZ s.lists m.list = false
  ·rw [if_pos a2] at e; cases e
  rw [if_neg a2] at e ⊢
  by_cases a3 : 60 ≤ s.aN.length
  ·rw [if_pos a3] at e; cases e
  rw [if_neg a3] at e ⊢
  refine fD h1 (Nat.le_trans (Sr.je _ _) (by omega)) h3 (bK.2 ⟨fun t ht => ?_, Sr.j3 woK t2⟩)
  rcases Sr.gM ht with rfl | q
  ·exact ⟨Nat.pos_of_ne_zero (hidz (by rw [k3]; decide)), dU (hx (by rw [k3]; decide) (by rw [k3]; decide)) (hf (by rw [k3]; decide) (by rw [k3]; decide)) hc nan_ok (Nat.zero_le _) rfl, (by cases z : aZ s.lists m.list with | true => rfl | false => exact absurd z a2 : aZ s.lists m.list = true)⟩
  ·exact t1 t q
 rw [if_neg k3] at e ⊢
 by_cases a1 : dh s.aN m.id = false
 ·rw [if_pos a1] at e; cases e
 rw [if_neg a1] at e ⊢
 have a1' : dh s.aN m.id = true := by simpa using a1
 by_cases k11 : m.kind = 11
 ·rw [if_pos k11] at e ⊢
  exact fD h1 (Nat.le_trans sU h2) h3 (bK.2 ⟨fun t ht => t1 t (oN.1 ht).1, nX t2 _ _ _⟩)
 rw [if_neg k11] at e ⊢
 obtain ⟨q1, q2, _⟩ := h_ a1'
 obtain ⟨g1, g2, g3⟩ := vw (s := s) c (by omega) (t1 _ q1).2.1 (t1 _ q1).2.2 e
 refine fD h1 (Nat.le_trans (Sr.je _ _) (by have := wo_less a1'; omega)) h3 (bK.2 ⟨fun t ht => ?_, Sr.j3 woK (nX t2 _ _ _)⟩)
 rcases Sr.gM ht with rfl | q
 ·exact ⟨by rw [g1, q2]; exact Nat.pos_of_ne_zero (hidz (decide_eq_true (by omega))), g2, g3⟩
 ·exact t1 t (oN.1 q).1
end T9
end
end
end Go.Proofs.YtpphmbfghfmdlaaGreat
