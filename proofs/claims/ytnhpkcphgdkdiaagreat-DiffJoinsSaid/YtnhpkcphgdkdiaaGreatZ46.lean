import Derived.Test.YtnhpkcphgdkdiaaGreatZ45
import Derived.Test.YtnhpkcphgdkdiaaGreatZ33
import Derived.Test.YtnhpkcphgdkdiaaGreatZ43
namespace Go.Proofs.YtnhpkcphgdkdiaaGreat
set_option linter.unusedSimpArgs false
set_option maxRecDepth 100000
section
set_option linter.unusedSimpArgs false
section
theorem first_in {α : Type} {g : α → Nat} {ls : List α} (h : ls.Pairwise (fun x y => g x < g y)) {k : Nat} {x : α} (hx : x ∈ ls) (e : g x = k) : firstN g ls k = some x := by
 rw [← e]; exact first_self12 h hx
theorem first_none12 {α : Type} {g : α → Nat} {ls : List α} {k : Nat} (h : firstN g ls k = none) {x : α} (hx : x ∈ ls) : g x ≠ k := fun e => by
 have := first_some.2 ⟨x, hx, e⟩
 rw [h] at this
 cases this
theorem turn_eq {α : Type} {g : α → Nat} {sm : α → α → Bool} {os ns : List α} (h2 : ns.Pairwise (fun x y => g x < g y)) (hs : ∀ x ∈ os, ∀ y ∈ ns, sm x y = true → x = y) (k : Nat) : resN g os (gone g os ns) (news g sm os ns) k = firstN g ns k := by
 unfold resN minN
 cases e : firstN g (news g sm os ns) k with
 | some x =>
  have hx : x ∈ news g sm os ns := List.mem_of_find?_eq_some e
  simp only [Option.isSome_some, if_true]
  exact (first_in h2 (news_mem hx) (first_id e)).symm
 | none =>
  simp only [Option.isSome_none, Bool.false_eq_true, if_false]
  by_cases q : k ∈ gone g os ns
  ·rw [if_pos q]
   unfold gone at q
   obtain ⟨x, hx, rfl⟩ := List.mem_map.1 q
   have := (List.mem_filter.1 hx).2
   rw [Option.isNone_iff_eq_none] at this
   exact this.symm
  ·rw [if_neg q]
   cases f : firstN g ns k with
   | none =>
    cases f2 : firstN g os k with
    | none => rfl
    | some x =>
     refine absurd ?_ q
     unfold gone
     exact List.mem_map.2 ⟨x, List.mem_filter.2 ⟨List.mem_of_find?_eq_some f2, by rw [first_id f2, f]; rfl⟩, first_id f2⟩
   | some y =>
    have hy : y ∈ ns := List.mem_of_find?_eq_some f
    have hn : y ∉ news g sm os ns := fun m => first_none12 e m (first_id f)
    unfold news at hn
    rw [List.mem_filter] at hn
    have hk := first_id f
    rw [hk] at hn
    cases f2 : firstN g os k with
    | none => rw [f2] at hn; exact absurd ⟨hy, rfl⟩ hn
    | some x =>
     rw [f2] at hn
     cases s : sm x y with
     | false => exact absurd ⟨hy, by simp [s]⟩ hn
     | true => rw [hs x (List.mem_of_find?_eq_some f2) y hy s]
theorem told_eq {α : Type} {g : α → Nat} {rs ns : List α} (h1 : rs.Pairwise (fun x y => g x < g y)) (h2 : ns.Pairwise (fun x y => g x < g y)) (h : ∀ k, firstN g rs k = firstN g ns k) : rs = ns := by
 have nd : ∀ {l : List α}, l.Pairwise (fun x y => g x < g y) → l.Nodup := fun {l} q => q.imp (fun {a b} r e => by rw [e] at r; omega)
 refine List.Perm.eq_of_pairwise (le := fun a b => g a < g b) (fun a b _ _ r1 r2 => by omega) h1 h2 ((List.perm_ext_iff_of_nodup (nd h1) (nd h2)).2 fun x => ?_)
 constructor
 ·intro hx
  have := first_self12 h1 hx
  rw [h] at this
  exact List.mem_of_find?_eq_some this
 ·intro hx
  have := first_self12 h2 hx
  rw [← h] at this
  exact List.mem_of_find?_eq_some this
theorem gone_there {α : Type} {g : α → Nat} {os ns : List α} {n : Nat} (h : n ∈ gone g os ns) : ∃ y, firstN g os n = some y := by
 unfold gone at h
 obtain ⟨x, hx, rfl⟩ := List.mem_map.1 h
 exact Option.isSome_iff_exists.1 (first_some.2 ⟨x, (List.mem_filter.1 hx).1, rfl⟩)
end
end
section
set_option linter.unusedSimpArgs false
section
theorem canon_same12 {a b : Nat} (ha : a < 18446744073709551616) (hb : b < 18446744073709551616) (h : Fl.same a b = true) : Fl.canon a = Fl.canon b := by
 have e := T9.same_key h
 have p := T9.rdF_key ha []
 rw [e] at p
 exact congrArg Prod.fst (p.symm.trans (T9.rdF_key hb []))
theorem canon_float12 {s : T9.St} (h : T9.canon s = s) {t : T9.Tk} (ht : t ∈ s.tasks) : Fl.canon t.rank = t.rank ∧ Fl.canon t.est = t.est := by
 rw [← h] at ht
 obtain ⟨u, _, rfl⟩ := List.mem_map.1 ht
 exact ⟨Fl.canon_canon _, Fl.canon_canon _⟩
theorem same1_eq12 {x y : T9.Tk} (ox : x.ok) (oy : y.ok) (cx : Fl.canon x.rank = x.rank ∧ Fl.canon x.est = x.est) (cy : Fl.canon y.rank = y.rank ∧ Fl.canon y.est = y.est) (h : T9.same1 x y = true) : x = y := by
 unfold T9.same1 at h
 simp only [Bool.and_eq_true, beq_iff_eq, decide_eq_true_eq] at h
 obtain ⟨⟨⟨⟨⟨⟨h1, h2⟩, h3⟩, h4⟩, h5⟩, h6⟩, h7⟩ := h
 have r := canon_same12 ox.2.2.1 oy.2.2.1 h5
 have e := canon_same12 ox.2.2.2 oy.2.2.2 h6
 rw [cx.1, cy.1] at r
 rw [cx.2, cy.2] at e
 cases x
 cases y
 simp_all
theorem lists_srt12 {s : T9.St} (h : T9.canon s = s) : s.lists.Pairwise (fun x y => idL x < idL y) := by
 have := c12_lists s
 rwa [h] at this
theorem tasks_srt12 {s : T9.St} (h : T9.canon s = s) : s.tasks.Pairwise (fun x y => x.id < y.id) := by
 have := c12_tasks s
 rwa [h] at this
end
end
end Go.Proofs.YtnhpkcphgdkdiaaGreat
