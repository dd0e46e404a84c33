import Derived.Test.YtpphmbfghfmdlaaGreatZ7
import Derived.Test.YtpphmbfghfmdlaaGreatZ14
namespace Go.Proofs.YtpphmbfghfmdlaaGreat
set_option maxRecDepth 100000
section
namespace T9
theorem fE {ls : List Li} : ∀ {ts : List Tk} {a : Nat}, bA ls a ts = 0 → (∀ t ∈ ts, a < t.id ∧ aL t = 0 ∧ (ls.any fun l => l.id == t.list) = true) ∧ ts.Pairwise (fun x y => x.id < y.id)
 | [], a, _ => ⟨by simp, List.Pairwise.nil⟩
 | t :: r, a, h => by
  unfold bA at h
  by_cases h1 : t.id ≤ a
  ·rw [if_pos h1] at h; cases h
  rw [if_neg h1] at h
  by_cases h2 : (ls.any fun l => l.id == t.list) = false
  ·rw [if_pos h2] at h; cases h
  rw [if_neg h2] at h
  by_cases h3 : aL t ≠ 0
  ·rw [if_pos h3] at h; exact absurd h h3
  rw [if_neg h3] at h
  obtain ⟨q1, q2⟩ := fE h
  have h2' : (ls.any fun l => l.id == t.list) = true := by simpa using h2
  refine ⟨fun x hx => ?_, List.pairwise_cons.2 ⟨fun x hx => (q1 x hx).1, q2⟩⟩
  rcases List.mem_cons.1 hx with rfl | hx
  ·exact ⟨by omega, by simpa using h3, h2'⟩
  ·have := q1 x hx
   exact ⟨by omega, this.2⟩
theorem l_ {ls : List Li} {f : Tk → Tk} (hi : ∀ t, (f t).id = t.id) (hl : ∀ t, (f t).list = t.list) : ∀ {ts : List Tk} {a : Nat}, (∀ t ∈ ts, aL (f t) = 0) → bA ls a ts = 0 → bA ls a (ts.map f) = 0
 | [], a, _, _ => rfl
 | t :: r, a, hf, h => by
  rw [List.map_cons]
  unfold bA at h ⊢
  rw [hi, hl]
  by_cases h1 : t.id ≤ a
  ·rw [if_pos h1] at h; cases h
  rw [if_neg h1] at h ⊢
  by_cases h2 : (ls.any fun l => l.id == t.list) = false
  ·rw [if_pos h2] at h; cases h
  rw [if_neg h2] at h ⊢
  rw [if_neg (fun q => q (hf t List.mem_cons_self))]
  by_cases h3 : aL t ≠ 0
  ·rw [if_pos h3] at h; exact absurd h h3
  rw [if_neg h3] at h
  exact l_ hi hl (fun x hx => hf x (List.mem_cons_of_mem _ hx)) h
theorem ny : ∀ {ls : List Li} {a : Nat}, bv a ls = 0 → (∀ l ∈ ls, a < l.id) ∧ ls.Pairwise (fun x y => x.id < y.id)
 | [], a, _ => ⟨by simp, List.Pairwise.nil⟩
 | l :: r, a, h => by
  unfold bv at h
  by_cases h1 : l.id ≤ a
  ·rw [if_pos h1] at h; cases h
  rw [if_neg h1] at h
  by_cases h2 : title l.name = false
  ·rw [if_pos h2] at h; cases h
  rw [if_neg h2] at h
  obtain ⟨q1, q2⟩ := ny h
  refine ⟨fun x hx => ?_, List.pairwise_cons.2 ⟨q1, q2⟩⟩
  rcases List.mem_cons.1 hx with rfl | hx
  ·omega
  ·have := q1 x hx
   omega
theorem aB {s : St} (h : aG s = 0) : s.lists.length ≤ 20 ∧ s.aN.length ≤ 60 ∧ bv 0 s.lists = 0 ∧ bA s.lists 0 s.aN = 0 := by
 unfold aG at h
 by_cases h1 : 20 < s.lists.length ∨ 60 < s.aN.length
 ·rw [if_pos h1] at h; cases h
 rw [if_neg h1] at h
 by_cases h2 : bv 0 s.lists ≠ 0
 ·rw [if_pos h2] at h; exact absurd h h2
 rw [if_neg h2] at h
 exact ⟨by omega, by omega, by simpa using h2, h⟩
theorem fD {s : St} (h1 : s.lists.length ≤ 20) (h2 : s.aN.length ≤ 60) (h3 : bv 0 s.lists = 0) (h4 : bA s.lists 0 s.aN = 0) : aG s = 0 := by
 unfold aG
 rw [if_neg (by omega), if_neg (fun q => q h3), h4]
theorem iE : ∀ {l : List (List UInt8)} {a : List UInt8}, bH a l = true → (∀ x ∈ l, ltS a x = true) ∧ Sr.Str ltS l
 | [], a, _ => ⟨by simp, List.Pairwise.nil⟩
 | t :: l, a, h => by
  unfold bH at h
  rw [Bool.and_eq_true, Bool.and_eq_true] at h
  obtain ⟨q1, q2⟩ := iE h.2
  refine ⟨fun x hx => ?_, List.pairwise_cons.2 ⟨q1, q2⟩⟩
  rcases List.mem_cons.1 hx with rfl | hx
  ·exact h.1.2
  ·exact woS.tr _ _ _ h.1.2 (q1 x hx)
theorem nL {b : Nat} (h : isC b = true) : Fl.canon b = b := by
 unfold isC at h
 rw [beq_iff_eq, Fl.I_eq, Fl.I_eq] at h
 omega
theorem bN {t : Tk} (h : aL t = 0) : title t.title = true ∧ Fl.isN t.rank = false ∧ isC t.rank = true ∧ isC t.est = true ∧ t.tags.length ≤ 4 ∧ bH [] t.tags = true := by
 unfold aL at h
 by_cases h1 : title t.title = false
 ·rw [if_pos h1] at h; cases h
 rw [if_neg h1] at h
 by_cases h2 : (Fl.isN t.rank || !isC t.rank) = true
 ·rw [if_pos h2] at h; cases h
 rw [if_neg h2] at h
 by_cases h3 : isC t.est = false
 ·rw [if_pos h3] at h; cases h
 rw [if_neg h3] at h
 by_cases h4 : 4 < t.tags.length
 ·rw [if_pos h4] at h; cases h
 rw [if_neg h4] at h
 by_cases h5 : bH [] t.tags = true
 ·rw [Bool.not_eq_true, Bool.or_eq_false_iff, Bool.not_eq_false'] at h2
  exact ⟨by simpa using h1, h2.1, h2.2, by simpa using h3, by omega, h5⟩
 ·rw [if_neg h5] at h; cases h
theorem dU {t : Tk} (h1 : title t.title = true) (h2 : Fl.isN t.rank = false) (h3 : isC t.rank = true) (h4 : isC t.est = true) (h5 : t.tags.length ≤ 4) (h6 : bH [] t.tags = true) : aL t = 0 := by
 unfold aL
 rw [if_neg (by rw [h1]; decide), h2, h3, if_neg (by decide), if_neg (by rw [h4]; decide), if_neg (by omega), if_pos h6]
theorem rU {t : Tk} (h : aL t = 0) : norm t = t := by
 obtain ⟨_, _, h3, h4, _, h6⟩ := bN h
 unfold norm
 rw [nL h3, nL h4, Sr.jh woS (iE h6).2]
theorem tX {ts : List Tk} (h : ts.Pairwise (fun x y => x.id < y.id)) : Sr.Str ltK ts := h.imp fun q => decide_eq_true q
theorem str_ltL {ls : List Li} (h : ls.Pairwise (fun x y => x.id < y.id)) : Sr.Str ltL ls := h.imp fun q => decide_eq_true q
theorem iK {s : St} (h : aG s = 0) : canon s = s := by
 obtain ⟨_, _, h3, h4⟩ := aB h
 have t := fE h4
 show (⟨Sr.canon ltL s.lists, (Sr.canon ltK s.aN).map norm⟩ : St) = s
 rw [Sr.jh woL (str_ltL (ny h3).2), Sr.jh woK (tX t.2)]
 have e : s.aN.map norm = s.aN := by
  conv => rhs; rw [← List.map_id s.aN]
  exact List.map_congr_left fun x hx => rU (t.1 x hx).2.1
 rw [e]
theorem uU {s : St} (h : aG s = 0) : Uni s.aN := (fE (aB h).2.2.2).2.imp fun q => by omega
def spr (l : List Tk) (t : Tk) : Tk := match plc l t.id with | some j => { t with rank := Fl.flo (j + 1) } | none => t
theorem oP (l : List Tk) (t : Tk) : (spr l t).id = t.id := by unfold spr; split <;> rfl
theorem xK (l : List Tk) (t : Tk) : (spr l t).list = t.list := by unfold spr; split <;> rfl
theorem plc_at {l : List Tk} (u : Uni l) {j : Nat} {t : Tk} (h : l[j]? = some t) : plc l t.id = some j := by
 obtain ⟨hj, e⟩ := List.getElem?_eq_some_iff.1 h
 unfold plc
 rw [List.findIdx?_eq_some_iff_getElem]
 refine ⟨hj, by simp [e], fun i hi => ?_⟩
 have q := List.pairwise_iff_getElem.1 u i j (by omega) hj hi
 simp only [Bool.not_eq_true, beq_eq_false_iff_ne]
 rw [← e]
 exact q
theorem qD {l : List Tk} {id : Nat} : plc l id = none ↔ ∀ t ∈ l, t.id ≠ id := by
 unfold plc
 rw [List.findIdx?_eq_none_iff]
 simp
theorem qa {l : List Tk} {id k : Nat} (h : plc l id = some k) : ∃ t, l[k]? = some t ∧ t.id = id := by
 unfold plc at h
 rw [List.findIdx?_eq_some_iff_getElem] at h
 obtain ⟨hk, e, _⟩ := h
 exact ⟨l[k], List.getElem?_eq_getElem hk, by simpa using e⟩
theorem x9 {l ts : List Tk} (ul : Uni l) (ut : Uni ts) {i k : Nat} {x y : Tk} (hx : l[i]? = some x) (hy : ts[k]? = some y) (e : y.id = x.id) :
  (ts.map (spr (l.take i))).set k { spr (l.take i) y with rank := Fl.flo (i + 1) } = ts.map (spr (l.take (i + 1))) := by
 obtain ⟨hi, ex⟩ := List.getElem?_eq_some_iff.1 hx
 obtain ⟨hk, ey⟩ := List.getElem?_eq_some_iff.1 hy
 have tk : l.take (i + 1) = l.take i ++ [x] := gz hx
 have none_i : ∀ t ∈ l.take i, t.id ≠ x.id := fun t ht => by
  obtain ⟨j, hj, ej⟩ := List.mem_iff_getElem.1 ht
  rw [List.length_take] at hj
  rw [List.getElem_take] at ej
  have q := List.pairwise_iff_getElem.1 ul j i (by omega) hi (by omega)
  rw [ej, ex] at q
  exact q
 have sx : spr (l.take i) y = y := by
  unfold spr
  rw [e, qD.2 none_i]
 have sy : spr (l.take (i + 1)) y = { y with rank := Fl.flo (i + 1) } := by
  have p : plc (l.take (i + 1)) y.id = some i := by
   rw [e]
   have u : Uni (l.take (i + 1)) := List.Pairwise.sublist (List.take_sublist _ _) ul
   have g : (l.take (i + 1))[i]? = some x := by rw [List.getElem?_take, if_pos (by omega)]; exact hx
   exact plc_at u g
  unfold spr
  rw [p]
 apply List.ext_getElem
 ·simp
 ·intro j h1 h2
  rw [List.getElem_set]
  have hj : j < ts.length := by simpa using h2
  by_cases hjk : k = j
  ·subst hjk
   rw [if_pos rfl, List.getElem_map, ey, sy, sx]
  ·rw [if_neg hjk, List.getElem_map, List.getElem_map]
   have ne : ts[j].id ≠ x.id := by
    rcases Nat.lt_or_ge j k with q | q
    ·have := List.pairwise_iff_getElem.1 ut j k hj hk q
     rw [ey, e] at this
     exact this
    ·have := List.pairwise_iff_getElem.1 ut k j hk hj (by omega)
     rw [ey, e] at this
     exact this.symm
   unfold spr
   have p : plc (l.take (i + 1)) ts[j].id = plc (l.take i) ts[j].id := by
    unfold plc
    rw [tk, List.findIdx?_append]
    have : [x].findIdx? (fun t => t.id == ts[j].id) = none := by
     rw [List.findIdx?_eq_none_iff]
     intro t ht
     simp only [List.mem_cons, List.not_mem_nil, or_false] at ht
     subst ht
     simpa using ne.symm
    rw [this]
    simp
   rw [p]
theorem oK {s : St} (h : aG s = 0) {l : List Tk} (hl : l.length ≤ 60) : aG ⟨s.lists, s.aN.map (spr l)⟩ = 0 := by
 obtain ⟨h1, h2, h3, h4⟩ := aB h
 have t := fE h4
 refine fD h1 (by simpa using h2) h3 (l_ (oP l) (xK l) (fun x hx => ?_) h4)
 obtain ⟨q1, q2, q3, q4, q5, q6⟩ := bN (t.1 x hx).2.1
 unfold spr
 split
 ·rename_i j hj
  obtain ⟨y, hy, _⟩ := qa hj
  have hj' := (List.getElem?_eq_some_iff.1 hy).1
  have f := Fl.wG (j + 1) (by omega)
  exact dU q1 f.2.1 f.2.2.1 q4 q5 q6
 ·exact (t.1 x hx).2.1
end T9
end
end Go.Proofs.YtpphmbfghfmdlaaGreat
