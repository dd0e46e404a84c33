/- Stage 9: right states there and back; unlike ones have unlike bytes. -/
import Derived.Test.YtbgdmmemahfpbaaTag
namespace Go.Proofs.Ytbgdmmemahfpbaa
set_option maxRecDepth 100000

namespace T9
theorem listsE_all : ∀ {ls : List Li} {a : Nat}, listsE a ls = 0 → ∀ l ∈ ls, title l.name = true
  | [], _, _, _, hm => by cases hm
  | x :: ls, a, h, l, hm => by
    unfold listsE at h
    by_cases h1 : x.id ≤ a
    · rw [if_pos h1] at h; omega
    rw [if_neg h1] at h
    by_cases h2 : title x.name = false
    · rw [if_pos h2] at h; omega
    rw [if_neg h2] at h
    rcases List.mem_cons.1 hm with rfl | q
    · simpa using h2
    · exact listsE_all h l q
theorem tasksE_all {ls : List Li} : ∀ {ts : List Tk} {a : Nat}, tasksE ls a ts = 0 → ∀ t ∈ ts, fieldsE t = 0
  | [], _, _, _, hm => by cases hm
  | x :: ts, a, h, t, hm => by
    unfold tasksE at h
    by_cases h1 : x.id ≤ a
    · rw [if_pos h1] at h; omega
    rw [if_neg h1] at h
    by_cases h2 : (ls.any fun l => l.id == x.list) = false
    · rw [if_pos h2] at h; omega
    rw [if_neg h2] at h
    by_cases h3 : fieldsE x ≠ 0
    · rw [if_pos h3] at h; exact absurd h h3
    rw [if_neg h3] at h
    rcases List.mem_cons.1 hm with rfl | q
    · exact Decidable.not_not.1 h3
    · exact tasksE_all h t q
theorem tagsUp_all : ∀ {ts : List (List UInt8)} {a : List UInt8}, tagsUp a ts = true → ∀ t ∈ ts, tag t = true
  | [], _, _, _, hm => by cases hm
  | x :: ts, a, h, t, hm => by
    unfold tagsUp at h
    simp only [Bool.and_eq_true] at h
    rcases List.mem_cons.1 hm with rfl | q
    · exact h.1.1
    · exact tagsUp_all h.2 t q
theorem title_le {l : List UInt8} (h : title l = true) : l.length ≤ 60 := by
  unfold title at h
  simp only [Bool.and_eq_true, decide_eq_true_eq] at h
  exact h.1.2
theorem tag_le {l : List UInt8} (h : tag l = true) : l.length ≤ 16 := by
  unfold tag at h
  simp only [Bool.and_eq_true, decide_eq_true_eq] at h
  exact h.1.2
theorem isC_eq {b : Nat} (h : isC b = true) : Fl.canon b = b := by
  unfold isC Fl.I at h
  simp only [beq_iff_eq] at h
  omega
theorem fieldsE_parts {t : Tk} (h : fieldsE t = 0) : t.title.length ≤ 60 ∧ isC t.rank = true ∧ isC t.est = true ∧ t.tags.length ≤ 4 ∧ tagsUp [] t.tags = true := by
  unfold fieldsE at h
  by_cases h1 : title t.title = false
  · rw [if_pos h1] at h; omega
  rw [if_neg h1] at h
  by_cases h2 : (Fl.isN t.rank || !isC t.rank) = true
  · rw [if_pos h2] at h; omega
  rw [if_neg h2] at h
  by_cases h3 : isC t.est = false
  · rw [if_pos h3] at h; omega
  rw [if_neg h3] at h
  by_cases h4 : 4 < t.tags.length
  · rw [if_pos h4] at h; omega
  rw [if_neg h4] at h
  by_cases h5 : tagsUp [] t.tags = true
  · exact ⟨title_le (by simpa using h1), by simp at h2; exact h2.2, by simpa using h3, by omega, h5⟩
  · rw [if_neg h5] at h; omega
theorem right_parts {s : St} (h : rightE s = 0) : s.lists.length ≤ 20 ∧ s.tasks.length ≤ 60 ∧ (∀ l ∈ s.lists, l.name.length ≤ 60) ∧ ∀ t ∈ s.tasks, fieldsE t = 0 := by
  unfold rightE at h
  by_cases h1 : 20 < s.lists.length ∨ 60 < s.tasks.length
  · rw [if_pos h1] at h; omega
  rw [if_neg h1] at h
  by_cases h2 : listsE 0 s.lists ≠ 0
  · rw [if_pos h2] at h; exact absurd h h2
  rw [if_neg h2] at h
  exact ⟨by omega, by omega, fun l hl => title_le (listsE_all (Decidable.not_not.1 h2) l hl), tasksE_all h⟩
/-- A right state is told again of its bytes. -/
theorem back {s : St} (h : s.ok) (hr : rightE s = 0) : rdSt (some (bts s)) = (s, some []) := by
  obtain ⟨h1, h2, h3, h4⟩ := right_parts hr
  rw [rdSt_bts h (by omega) h2 h3 (fun t ht => by
    obtain ⟨q1, _, _, q4, q5⟩ := fieldsE_parts (h4 t ht)
    exact ⟨q1, by omega, fun x hx => by have := tag_le (tagsUp_all q5 x hx); omega⟩)]
  have e : (s.tasks.map fun t => { t with rank := Fl.canon t.rank, est := Fl.canon t.est }) = s.tasks := by
    conv => rhs; rw [← List.map_id s.tasks]
    refine List.map_congr_left fun t ht => ?_
    obtain ⟨_, q2, q3, _, _⟩ := fieldsE_parts (h4 t ht)
    show Tk.mk t.id t.list t.title t.done (Fl.canon t.rank) (Fl.canon t.est) t.tags = t
    rw [isC_eq q2, isC_eq q3]
  rw [e]
theorem of_back {s : St} (h : s.ok) (hr : rightE s = 0) : of (bts s) = (s, 0) := by
  unfold of
  rw [back h hr, if_pos ⟨rfl, hr⟩]
theorem same_key {a b : Nat} (h : Fl.same a b = true) : Fl.key a = Fl.key b := by
  unfold Fl.same at h
  simpa using h
theorem encTk_same {a b : Tk} (h : same1 a b = true) : encTk a = encTk b := by
  unfold same1 at h
  simp only [Bool.and_eq_true, beq_iff_eq, decide_eq_true_eq] at h
  obtain ⟨⟨⟨⟨⟨⟨h1, h2⟩, h3⟩, h4⟩, h5⟩, h6⟩, h7⟩ := h
  unfold encTk
  rw [h1, h2, h3, h4, same_key h5, same_key h6, h7]
theorem sameT_enc : ∀ {l m : List Tk}, sameT l m = true → l.flatMap encTk = m.flatMap encTk
  | [], [], _ => rfl
  | a :: l, b :: m, h => by
    simp only [sameT, Bool.and_eq_true] at h
    rw [List.flatMap_cons, List.flatMap_cons, encTk_same h.1, sameT_enc h.2]
  | [], _ :: _, h => by simp [sameT] at h
  | _ :: _, [], h => by simp [sameT] at h
theorem bts_same {s o : St} (h : same s o = true) : bts s = bts o := by
  unfold same at h
  simp only [Bool.and_eq_true, decide_eq_true_eq] at h
  unfold bts
  rw [h.1, sameT_len h.2, sameT_enc h.2]
/-- Unlike right states have unlike bytes. -/
theorem bts_iff {s o : St} (hs : s.ok) (ho : o.ok) (rs : rightE s = 0) (ro : rightE o = 0) : decide (bts s = bts o) = same s o := by
  by_cases h : bts s = bts o
  · have e := of_back hs rs
    rw [h, of_back ho ro] at e
    injection e with e
    rw [decide_eq_true h, e, T9.same_refl]
  · rw [decide_eq_false h]
    cases q : same s o with
    | false => rfl
    | true => exact absurd (bts_same q) h
end T9
end Go.Proofs.Ytbgdmmemahfpbaa
