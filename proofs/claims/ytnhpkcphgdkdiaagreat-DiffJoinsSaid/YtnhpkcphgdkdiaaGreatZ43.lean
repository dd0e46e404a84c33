import Derived.Test.YtnhpkcphgdkdiaaGreatZ20
import Derived.Test.YtnhpkcphgdkdiaaGreatZ16
import Derived.Test.YtnhpkcphgdkdiaaGreatZ27
import Derived.Test.YtnhpkcphgdkdiaaGreatZ30
namespace Go.Proofs.YtnhpkcphgdkdiaaGreat
set_option linter.unusedSimpArgs false
set_option maxRecDepth 100000
section
namespace Sr
section
variable {α : Type} {lt : α → α → Bool}
theorem stb_perm [DecidableEq α] (h : WO lt) {l r : List α} (s : Stb lt l r) : r.Perm l := by
 rw [List.perm_iff_count]
 intro a
 have e := congrArg (List.count a) (s a)
 rw [List.count_filter (eqv_self h a), List.count_filter (eqv_self h a)] at e
 exact e
theorem srt_str {r : List α} (hs : Srt lt r) (hd : r.Pairwise fun a b => eqv lt a b = false) : Str lt r := by
 unfold Str Srt at *
 refine (hs.and hd).imp fun {a b} hk => ?_
 obtain ⟨h, k⟩ := hk
 unfold eqv at k
 rw [h] at k
 simpa using k
theorem perm_uniq (h : WO lt) : ∀ {l r : List α}, Str lt l → Str lt r → l.Perm r → l = r
 | [], r, _, _, p => (List.nil_perm.1 p).symm
 | x :: l, [], _, _, p => absurd (List.perm_nil.1 p) (by simp)
 | x :: l, y :: r, hl, hr, p => by
  have hl' := List.pairwise_cons.1 hl
  have hr' := List.pairwise_cons.1 hr
  have hx : x ∈ y :: r := p.mem_iff.1 List.mem_cons_self
  have hy : y ∈ x :: l := p.mem_iff.2 List.mem_cons_self
  have e : x = y := by
   rcases List.mem_cons.1 hx with q | q
   ·exact q
   ·rcases List.mem_cons.1 hy with q2 | q2
    ·exact q2.symm
    ·have a := hr'.1 x q
     have b := hl'.1 y q2
     rw [h.asym a] at b
     cases b
  subst e
  rw [perm_uniq h hl'.2 hr'.2 (List.Perm.cons_inv p)]
end
end Sr
namespace Fl
end Fl
namespace T9
def ltR (a b : Tk) : Bool := Fl.lt a.rank b.rank || (!Fl.lt b.rank a.rank && decide (a.id < b.id))
theorem ltR_iff {a b : Tk} : ltR a b = true ↔ Fl.pl a.rank < Fl.pl b.rank ∨ (Fl.pl a.rank = Fl.pl b.rank ∧ a.id < b.id) := by
 unfold ltR
 rw [Bool.or_eq_true, Bool.and_eq_true, Fl.lt_true, Bool.not_eq_true', Fl.lt_false, decide_eq_true_iff]
 omega
theorem ltR_not {a b : Tk} : ltR a b = false ↔ Fl.pl b.rank < Fl.pl a.rank ∨ (Fl.pl a.rank = Fl.pl b.rank ∧ b.id ≤ a.id) := by
 rw [← Bool.not_eq_true, ltR_iff]
 omega
theorem woR : Sr.WO ltR := ⟨fun a => by rw [ltR_not]; exact .inr ⟨rfl, Nat.le_refl _⟩, fun a b c h k => by rw [ltR_iff] at *; omega, fun a b c h => by rw [ltR_iff, ltR_iff] at *; omega⟩
theorem eqvR {a b : Tk} (h : a.id ≠ b.id) : Sr.eqv ltR a b = false := by
 cases e : Sr.eqv ltR a b with
 | false => rfl
 | true =>
  unfold Sr.eqv at e
  rw [Bool.and_eq_true, Bool.not_eq_true', Bool.not_eq_true', ltR_not, ltR_not] at e
  omega
def inList (ts : List Tk) (list : Nat) : List Tk := ts.filter fun t => t.list == list
def Ordd (ts : List Tk) (list : Nat) (r : List Tk) : Prop := Sr.Srt ltR r ∧ Sr.Stb ltR (inList ts list) r
theorem Ordd.perm {ts r : List Tk} {list : Nat} (h : Ordd ts list r) : r.Perm (inList ts list) := Sr.stb_perm woR h.2
def Uni (ts : List Tk) : Prop := ts.Pairwise fun a b => a.id ≠ b.id
theorem Uni.filter {ts : List Tk} (h : Uni ts) (p : Tk → Bool) : Uni (ts.filter p) := List.Pairwise.filter p h
theorem Uni.perm {l r : List Tk} (h : Uni l) (p : r.Perm l) : Uni r := (p.pairwise_iff (fun q => Ne.symm q)).2 h
theorem Uni.str {r : List Tk} (h : Uni r) (hs : Sr.Srt ltR r) : Sr.Str ltR r := Sr.srt_str hs (h.imp fun q => eqvR q)
theorem Ordd.str {ts r : List Tk} {list : Nat} (h : Ordd ts list r) (u : Uni ts) : Sr.Str ltR r := ((u.filter _).perm h.perm).str h.1
theorem Ordd.is {ts r x : List Tk} {list : Nat} (h : Ordd ts list r) (u : Uni ts) (hx : Sr.Str ltR x) (p : x.Perm (inList ts list)) : r = x := Sr.perm_uniq woR (h.str u) hx (h.perm.trans p.symm)
end T9
end
section
namespace T9
theorem tasksE_up {ls : List Li} : ∀ {ts : List Tk} {a : Nat}, tasksE ls a ts = 0 → (∀ t ∈ ts, a < t.id ∧ fieldsE t = 0 ∧ (ls.any fun l => l.id == t.list) = true) ∧ ts.Pairwise (fun x y => x.id < y.id)
 | [], a, _ => ⟨by simp, List.Pairwise.nil⟩
 | t :: r, a, h => by
  unfold tasksE at h
  by_cases h1 : t.id ≤ a
  ·rw [if_pos h1] at h; cases h
  rw [if_neg h1] at h
  by_cases h2 : (ls.any fun l => l.id == t.list) = false
  ·rw [if_pos h2] at h; cases h
  rw [if_neg h2] at h
  by_cases h3 : fieldsE t ≠ 0
  ·rw [if_pos h3] at h; exact absurd h h3
  rw [if_neg h3] at h
  obtain ⟨q1, q2⟩ := tasksE_up h
  have h2' : (ls.any fun l => l.id == t.list) = true := by simpa using h2
  refine ⟨fun x hx => ?_, List.pairwise_cons.2 ⟨fun x hx => (q1 x hx).1, q2⟩⟩
  rcases List.mem_cons.1 hx with rfl | hx
  ·exact ⟨by omega, by simpa using h3, h2'⟩
  ·have := q1 x hx
   exact ⟨by omega, this.2⟩
theorem listsE_up : ∀ {ls : List Li} {a : Nat}, listsE a ls = 0 → (∀ l ∈ ls, a < l.id) ∧ ls.Pairwise (fun x y => x.id < y.id)
 | [], a, _ => ⟨by simp, List.Pairwise.nil⟩
 | l :: r, a, h => by
  unfold listsE at h
  by_cases h1 : l.id ≤ a
  ·rw [if_pos h1] at h; cases h
  rw [if_neg h1] at h
  by_cases h2 : title l.name = false
  ·rw [if_pos h2] at h; cases h
  rw [if_neg h2] at h
  obtain ⟨q1, q2⟩ := listsE_up h
  refine ⟨fun x hx => ?_, List.pairwise_cons.2 ⟨q1, q2⟩⟩
  rcases List.mem_cons.1 hx with rfl | hx
  ·omega
  ·have := q1 x hx
   omega
theorem rightE_parts {s : St} (h : rightE s = 0) : s.lists.length ≤ 20 ∧ s.tasks.length ≤ 60 ∧ listsE 0 s.lists = 0 ∧ tasksE s.lists 0 s.tasks = 0 := by
 unfold rightE at h
 by_cases h1 : 20 < s.lists.length ∨ 60 < s.tasks.length
 ·rw [if_pos h1] at h; cases h
 rw [if_neg h1] at h
 by_cases h2 : listsE 0 s.lists ≠ 0
 ·rw [if_pos h2] at h; exact absurd h h2
 rw [if_neg h2] at h
 exact ⟨by omega, by omega, by simpa using h2, h⟩
theorem tagsUp_str : ∀ {l : List (List UInt8)} {a : List UInt8}, tagsUp a l = true → (∀ x ∈ l, ltS a x = true) ∧ Sr.Str ltS l
 | [], a, _ => ⟨by simp, List.Pairwise.nil⟩
 | t :: l, a, h => by
  unfold tagsUp at h
  rw [Bool.and_eq_true, Bool.and_eq_true] at h
  obtain ⟨q1, q2⟩ := tagsUp_str h.2
  refine ⟨fun x hx => ?_, List.pairwise_cons.2 ⟨q1, q2⟩⟩
  rcases List.mem_cons.1 hx with rfl | hx
  ·exact h.1.2
  ·exact woS.tr _ _ _ h.1.2 (q1 x hx)
theorem isC_canon {b : Nat} (h : isC b = true) : Fl.canon b = b := by
 unfold isC at h
 rw [beq_iff_eq, Fl.I_eq, Fl.I_eq] at h
 omega
theorem fieldsE_parts10 {t : Tk} (h : fieldsE t = 0) : title t.title = true ∧ Fl.isN t.rank = false ∧ isC t.rank = true ∧ isC t.est = true ∧ t.tags.length ≤ 4 ∧ tagsUp [] t.tags = true := by
 unfold fieldsE at h
 by_cases h1 : title t.title = false
 ·rw [if_pos h1] at h; cases h
 rw [if_neg h1] at h
 by_cases h2 : (Fl.isN t.rank || !isC t.rank) = true
 ·rw [if_pos h2] at h; cases h
 rw [if_neg h2] at h
 by_cases h3 : isC t.est = false
 ·rw [if_pos h3] at h; cases h
 rw [if_neg h3] at h
 by_cases h4 : 4 < t.tags.length
 ·rw [if_pos h4] at h; cases h
 rw [if_neg h4] at h
 by_cases h5 : tagsUp [] t.tags = true
 ·rw [Bool.not_eq_true, Bool.or_eq_false_iff, Bool.not_eq_false'] at h2
  exact ⟨by simpa using h1, h2.1, h2.2, by simpa using h3, by omega, h5⟩
 ·rw [if_neg h5] at h; cases h
theorem norm_right {t : Tk} (h : fieldsE t = 0) : norm t = t := by
 obtain ⟨_, _, h3, h4, _, h6⟩ := fieldsE_parts10 h
 unfold norm
 rw [isC_canon h3, isC_canon h4, Sr.canon_str woS (tagsUp_str h6).2]
theorem str_ltK {ts : List Tk} (h : ts.Pairwise (fun x y => x.id < y.id)) : Sr.Str ltK ts := h.imp fun q => decide_eq_true q
theorem str_ltL {ls : List Li} (h : ls.Pairwise (fun x y => x.id < y.id)) : Sr.Str ltL ls := h.imp fun q => decide_eq_true q
theorem canon_right {s : St} (h : rightE s = 0) : canon s = s := by
 obtain ⟨_, _, h3, h4⟩ := rightE_parts h
 have t := tasksE_up h4
 show (⟨Sr.canon ltL s.lists, (Sr.canon ltK s.tasks).map norm⟩ : St) = s
 rw [Sr.canon_str woL (str_ltL (listsE_up h3).2), Sr.canon_str woK (str_ltK t.2)]
 have e : s.tasks.map norm = s.tasks := by
  conv => rhs; rw [← List.map_id s.tasks]
  exact List.map_congr_left fun x hx => norm_right (t.1 x hx).2.1
 rw [e]
end T9
end
section
open Go.Shelf Go.RowKit Go.Lib Go.Sort
def CloneS10Ok (ts : List (List UInt8)) (w : World) (e : Ending) (w' : World) : Prop := ∃ A2 c2, e = .returned (.slice A2 ts.length c2) ∧ Lies w' 0 9 A2 (gcells ts) ∧ ts.length ≤ c2 ∧ Below w.heap.size w w'
set_option maxHeartbeats 1000000 in
theorem cloneS10_c {A : Option Addr} {n c : Nat} {ts : List (List UInt8)} {w : World} (h : GL w A ts) (hn : n = ts.length) (hs : n ≤ 1000000000) : Calls Tryz.prog 52 #[.slice A n c] w (CloneS10Ok ts w) := by
 obtain ⟨i0, hi, hz0, hz1, hz2⟩ := info_parts Tryz.infoStr9
 have q := fun (w : World) a n c n' c' => Lib.run_eql_slice_nil (P := Tryz.prog) w 36 9 a n c n' c' Tryz.underlying36
 have HL := hid h
 have HN := hid hn
 clear h hn
 rcases A with _ | ad
 ·have h0 : n = 0 := by
   rcases Nat.eq_zero_or_pos n with q | q
   ·exact q
   ·obtain ⟨ad, _, e, _⟩ := HL.out.at_ (k := 0) (by have := HN.out; omega)
    cases e
  subst h0
  have e : ts = [] := List.length_eq_zero_iff.1 HN.out.symm
  subst e
  go_enter Tryz.func52, Tryz.ntmps52
  go_wp2
  go_ret
  exact ⟨_, 0, rfl, Lies.nil, Nat.le_refl _, Below.refl _ _⟩
 ·have ho : (w.alloc (.cells #[] 9)).ownsRow w.heap.size 9 1 (.slice (some ⟨w.heap.size, 0, none⟩) 0 0) 0 [] := World.ownsRow_made w #[] 0 (Nat.le_refl _) (by unfold maxLen; omega) rfl
  have HO := hid ho
  clear ho
  go_enter Tryz.func52, Tryz.ntmps52
  go_wp2_with (at_builtin; refine wpList_app _ rfl _ _ 36 rfl w.heap.size 9 i0 _ 1 16 Tryz.underlying36 hi hz0 hz1 hz2 rfl (by decide) _ 0 [] rfl HO.out (w.alloc (.cells #[] 9)).heap.size _ n c (gcells ts) 0 rfl (by rw [gcells_len, HN.out]; omega) (Lies.stay HL.out ((Below.refl _ _).alloc (Nat.le_refl _) _)) (gcells_one _) (by unfold maxLen; omega) (by omega) (by simp) ?_)
  intro v' w1 hown' hgrow _
  obtain ⟨A2, k2, rfl⟩ := own_slice hown'
  have T1 := app_below HO.out hgrow
  have ho2 : w1.ownsRow w.heap.size 9 1 (.slice A2 n k2) n (gcells ts) := by simpa using hown'
  have HO2 := hid ho2
  have HT := hid T1
  clear hown' ho2 T1 hgrow
  go_wp2
  go_ret
  refine ⟨A2, k2, by rw [← HN.out]; simp, lies_own HO2.out, by rw [← HN.out]; exact (own_room HO2.out).2, HT.out⟩
end
end Go.Proofs.YtnhpkcphgdkdiaaGreat
