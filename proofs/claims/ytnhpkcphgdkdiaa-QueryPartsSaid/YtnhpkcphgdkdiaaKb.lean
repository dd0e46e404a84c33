/- Stage 10: what Spread does, and what a task with the rank that was told does, of plain tasks. -/
import Derived.Test.YtnhpkcphgdkdiaaKa
import Derived.Test.YtnhpkcphgdkdiaaTw
namespace Go.Proofs.Ytnhpkcphgdkdiaa
set_option maxRecDepth 100000

namespace T9
/-- Ids that rise behind a number. -/
theorem tasksE_up {ls : List Li} : ∀ {ts : List Tk} {a : Nat}, tasksE ls a ts = 0 → (∀ t ∈ ts, a < t.id ∧ fieldsE t = 0 ∧ (ls.any fun l => l.id == t.list) = true) ∧ ts.Pairwise (fun x y => x.id < y.id)
  | [], a, _ => ⟨by simp, List.Pairwise.nil⟩
  | t :: r, a, h => by
    unfold tasksE at h
    by_cases h1 : t.id ≤ a
    · rw [if_pos h1] at h; cases h
    rw [if_neg h1] at h
    by_cases h2 : (ls.any fun l => l.id == t.list) = false
    · rw [if_pos h2] at h; cases h
    rw [if_neg h2] at h
    by_cases h3 : fieldsE t ≠ 0
    · rw [if_pos h3] at h; exact absurd h h3
    rw [if_neg h3] at h
    obtain ⟨q1, q2⟩ := tasksE_up h
    have h2' : (ls.any fun l => l.id == t.list) = true := by simpa using h2
    refine ⟨fun x hx => ?_, List.pairwise_cons.2 ⟨fun x hx => (q1 x hx).1, q2⟩⟩
    rcases List.mem_cons.1 hx with rfl | hx
    · exact ⟨by omega, by simpa using h3, h2'⟩
    · have := q1 x hx
      exact ⟨by omega, this.2⟩
/-- Other tasks of the same Ids and lists that may be are right too. -/
theorem tasksE_map {ls : List Li} {f : Tk → Tk} (hi : ∀ t, (f t).id = t.id) (hl : ∀ t, (f t).list = t.list) : ∀ {ts : List Tk} {a : Nat}, (∀ t ∈ ts, fieldsE (f t) = 0) → tasksE ls a ts = 0 → tasksE ls a (ts.map f) = 0
  | [], a, _, _ => rfl
  | t :: r, a, hf, h => by
    rw [List.map_cons]
    unfold tasksE at h ⊢
    rw [hi, hl]
    by_cases h1 : t.id ≤ a
    · rw [if_pos h1] at h; cases h
    rw [if_neg h1] at h ⊢
    by_cases h2 : (ls.any fun l => l.id == t.list) = false
    · rw [if_pos h2] at h; cases h
    rw [if_neg h2] at h ⊢
    rw [if_neg (fun q => q (hf t List.mem_cons_self))]
    by_cases h3 : fieldsE t ≠ 0
    · rw [if_pos h3] at h; exact absurd h h3
    rw [if_neg h3] at h
    exact tasksE_map hi hl (fun x hx => hf x (List.mem_cons_of_mem _ hx)) h
theorem listsE_up : ∀ {ls : List Li} {a : Nat}, listsE a ls = 0 → (∀ l ∈ ls, a < l.id) ∧ ls.Pairwise (fun x y => x.id < y.id)
  | [], a, _ => ⟨by simp, List.Pairwise.nil⟩
  | l :: r, a, h => by
    unfold listsE at h
    by_cases h1 : l.id ≤ a
    · rw [if_pos h1] at h; cases h
    rw [if_neg h1] at h
    by_cases h2 : title l.name = false
    · rw [if_pos h2] at h; cases h
    rw [if_neg h2] at h
    obtain ⟨q1, q2⟩ := listsE_up h
    refine ⟨fun x hx => ?_, List.pairwise_cons.2 ⟨q1, q2⟩⟩
    rcases List.mem_cons.1 hx with rfl | hx
    · omega
    · have := q1 x hx
      omega
theorem rightE_parts {s : St} (h : rightE s = 0) : s.lists.length ≤ 20 ∧ s.tasks.length ≤ 60 ∧ listsE 0 s.lists = 0 ∧ tasksE s.lists 0 s.tasks = 0 := by
  unfold rightE at h
  by_cases h1 : 20 < s.lists.length ∨ 60 < s.tasks.length
  · rw [if_pos h1] at h; cases h
  rw [if_neg h1] at h
  by_cases h2 : listsE 0 s.lists ≠ 0
  · rw [if_pos h2] at h; exact absurd h h2
  rw [if_neg h2] at h
  exact ⟨by omega, by omega, by simpa using h2, h⟩
theorem rightE_of {s : St} (h1 : s.lists.length ≤ 20) (h2 : s.tasks.length ≤ 60) (h3 : listsE 0 s.lists = 0) (h4 : tasksE s.lists 0 s.tasks = 0) : rightE s = 0 := by
  unfold rightE
  rw [if_neg (by omega), if_neg (fun q => q h3), h4]
theorem tagsUp_str : ∀ {l : List (List UInt8)} {a : List UInt8}, tagsUp a l = true → (∀ x ∈ l, ltS a x = true) ∧ Sr.Str ltS l
  | [], a, _ => ⟨by simp, List.Pairwise.nil⟩
  | t :: l, a, h => by
    unfold tagsUp at h
    rw [Bool.and_eq_true, Bool.and_eq_true] at h
    obtain ⟨q1, q2⟩ := tagsUp_str h.2
    refine ⟨fun x hx => ?_, List.pairwise_cons.2 ⟨q1, q2⟩⟩
    rcases List.mem_cons.1 hx with rfl | hx
    · exact h.1.2
    · exact woS.tr _ _ _ h.1.2 (q1 x hx)
theorem isC_canon {b : Nat} (h : isC b = true) : Fl.canon b = b := by
  unfold isC at h
  rw [beq_iff_eq, Fl.I_eq, Fl.I_eq] at h
  omega
theorem fieldsE_parts10 {t : Tk} (h : fieldsE t = 0) : title t.title = true ∧ Fl.isN t.rank = false ∧ isC t.rank = true ∧ isC t.est = true ∧ t.tags.length ≤ 4 ∧ tagsUp [] t.tags = true := by
  unfold fieldsE at h
  by_cases h1 : title t.title = false
  · rw [if_pos h1] at h; cases h
  rw [if_neg h1] at h
  by_cases h2 : (Fl.isN t.rank || !isC t.rank) = true
  · rw [if_pos h2] at h; cases h
  rw [if_neg h2] at h
  by_cases h3 : isC t.est = false
  · rw [if_pos h3] at h; cases h
  rw [if_neg h3] at h
  by_cases h4 : 4 < t.tags.length
  · rw [if_pos h4] at h; cases h
  rw [if_neg h4] at h
  by_cases h5 : tagsUp [] t.tags = true
  · rw [Bool.not_eq_true, Bool.or_eq_false_iff, Bool.not_eq_false'] at h2
    exact ⟨by simpa using h1, h2.1, h2.2, by simpa using h3, by omega, h5⟩
  · rw [if_neg h5] at h; cases h
theorem fieldsE_of {t : Tk} (h1 : title t.title = true) (h2 : Fl.isN t.rank = false) (h3 : isC t.rank = true) (h4 : isC t.est = true) (h5 : t.tags.length ≤ 4) (h6 : tagsUp [] t.tags = true) : fieldsE t = 0 := by
  unfold fieldsE
  rw [if_neg (by rw [h1]; decide), h2, h3, if_neg (by decide), if_neg (by rw [h4]; decide), if_neg (by omega), if_pos h6]
theorem norm_right {t : Tk} (h : fieldsE t = 0) : norm t = t := by
  obtain ⟨_, _, h3, h4, _, h6⟩ := fieldsE_parts10 h
  unfold norm
  rw [isC_canon h3, isC_canon h4, Sr.canon_str woS (tagsUp_str h6).2]
theorem str_ltK {ts : List Tk} (h : ts.Pairwise (fun x y => x.id < y.id)) : Sr.Str ltK ts := h.imp fun q => decide_eq_true q
theorem str_ltL {ls : List Li} (h : ls.Pairwise (fun x y => x.id < y.id)) : Sr.Str ltL ls := h.imp fun q => decide_eq_true q
theorem canon_right {s : St} (h : rightE s = 0) : canon s = s := by
  obtain ⟨_, _, h3, h4⟩ := rightE_parts h
  have t := tasksE_up h4
  show (⟨Sr.canon ltL s.lists, (Sr.canon ltK s.tasks).map norm⟩ : St) = s
  rw [Sr.canon_str woL (str_ltL (listsE_up h3).2), Sr.canon_str woK (str_ltK t.2)]
  have e : s.tasks.map norm = s.tasks := by
    conv => rhs; rw [← List.map_id s.tasks]
    exact List.map_congr_left fun x hx => norm_right (t.1 x hx).2.1
  rw [e]
theorem right_uni {s : St} (h : rightE s = 0) : Uni s.tasks := (tasksE_up (rightE_parts h).2.2.2).2.imp fun q => by omega
theorem right_rank {s : St} (h : rightE s = 0) {t : Tk} (ht : t ∈ s.tasks) : Fl.isN t.rank = false := (fieldsE_parts10 ((tasksE_up (rightE_parts h).2.2.2).1 t ht).2.1).2.1

/-- A task with the rank of its place in the list. -/
def spr (l : List Tk) (t : Tk) : Tk := match plc l t.id with | some j => { t with rank := Fl.flo (j + 1) } | none => t
theorem spr_id (l : List Tk) (t : Tk) : (spr l t).id = t.id := by unfold spr; split <;> rfl
theorem spr_list (l : List Tk) (t : Tk) : (spr l t).list = t.list := by unfold spr; split <;> rfl
theorem spr_nil (t : Tk) : spr [] t = t := rfl
theorem plc_at {l : List Tk} (u : Uni l) {j : Nat} {t : Tk} (h : l[j]? = some t) : plc l t.id = some j := by
  obtain ⟨hj, e⟩ := List.getElem?_eq_some_iff.1 h
  unfold plc
  rw [List.findIdx?_eq_some_iff_getElem]
  refine ⟨hj, by simp [e], fun i hi => ?_⟩
  have q := List.pairwise_iff_getElem.1 u i j (by omega) hj hi
  simp only [Bool.not_eq_true, beq_eq_false_iff_ne]
  rw [← e]
  exact q
theorem plc_none {l : List Tk} {id : Nat} : plc l id = none ↔ ∀ t ∈ l, t.id ≠ id := by
  unfold plc
  rw [List.findIdx?_eq_none_iff]
  simp
theorem plc_some {l : List Tk} {id k : Nat} (h : plc l id = some k) : ∃ t, l[k]? = some t ∧ t.id = id := by
  unfold plc at h
  rw [List.findIdx?_eq_some_iff_getElem] at h
  obtain ⟨hk, e, _⟩ := h
  exact ⟨l[k], List.getElem?_eq_getElem hk, by simpa using e⟩
/-- One more task of the list gets its rank. -/
theorem spr_step {l ts : List Tk} (ul : Uni l) (ut : Uni ts) {i k : Nat} {x y : Tk} (hx : l[i]? = some x) (hy : ts[k]? = some y) (e : y.id = x.id) :
    (ts.map (spr (l.take i))).set k { spr (l.take i) y with rank := Fl.flo (i + 1) } = ts.map (spr (l.take (i + 1))) := by
  obtain ⟨hi, ex⟩ := List.getElem?_eq_some_iff.1 hx
  obtain ⟨hk, ey⟩ := List.getElem?_eq_some_iff.1 hy
  have tk : l.take (i + 1) = l.take i ++ [x] := take_next hx
  have none_i : ∀ t ∈ l.take i, t.id ≠ x.id := fun t ht => by
    obtain ⟨j, hj, ej⟩ := List.mem_iff_getElem.1 ht
    rw [List.length_take] at hj
    rw [List.getElem_take] at ej
    have q := List.pairwise_iff_getElem.1 ul j i (by omega) hi (by omega)
    rw [ej, ex] at q
    exact q
  have sx : spr (l.take i) y = y := by
    unfold spr
    rw [e, plc_none.2 none_i]
  have sy : spr (l.take (i + 1)) y = { y with rank := Fl.flo (i + 1) } := by
    have p : plc (l.take (i + 1)) y.id = some i := by
      rw [e]
      have u : Uni (l.take (i + 1)) := List.Pairwise.sublist (List.take_sublist _ _) ul
      have g : (l.take (i + 1))[i]? = some x := by rw [List.getElem?_take, if_pos (by omega)]; exact hx
      exact plc_at u g
    unfold spr
    rw [p]
  apply List.ext_getElem
  · simp
  · intro j h1 h2
    rw [List.getElem_set]
    have hj : j < ts.length := by simpa using h2
    by_cases hjk : k = j
    · subst hjk
      rw [if_pos rfl, List.getElem_map, ey, sy, sx]
    · rw [if_neg hjk, List.getElem_map, List.getElem_map]
      have ne : ts[j].id ≠ x.id := by
        rcases Nat.lt_or_ge j k with q | q
        · have := List.pairwise_iff_getElem.1 ut j k hj hk q
          rw [ey, e] at this
          exact this
        · have := List.pairwise_iff_getElem.1 ut k j hk hj (by omega)
          rw [ey, e] at this
          exact this.symm
      unfold spr
      have p : plc (l.take (i + 1)) ts[j].id = plc (l.take i) ts[j].id := by
        unfold plc
        rw [tk, List.findIdx?_append]
        have : [x].findIdx? (fun t => t.id == ts[j].id) = none := by
          rw [List.findIdx?_eq_none_iff]
          intro t ht
          simp only [List.mem_cons, List.not_mem_nil, or_false] at ht
          subst ht
          simpa using ne.symm
        rw [this]
        simp
      rw [p]

/-- Behind a Spread. -/
theorem spread_right {s : St} (h : rightE s = 0) {l : List Tk} (hl : l.length ≤ 60) : rightE ⟨s.lists, s.tasks.map (spr l)⟩ = 0 := by
  obtain ⟨h1, h2, h3, h4⟩ := rightE_parts h
  have t := tasksE_up h4
  refine rightE_of h1 (by simpa using h2) h3 (tasksE_map (spr_id l) (spr_list l) (fun x hx => ?_) h4)
  obtain ⟨q1, q2, q3, q4, q5, q6⟩ := fieldsE_parts10 (t.1 x hx).2.1
  unfold spr
  split
  · rename_i j hj
    obtain ⟨y, hy, _⟩ := plc_some hj
    have hj' := (List.getElem?_eq_some_iff.1 hy).1
    have f := Fl.flo_ok (j + 1) (by omega)
    exact fieldsE_of q1 f.2.1 f.2.2.1 q4 q5 q6
  · exact (t.1 x hx).2.1
theorem spr_at {l : List Tk} (u : Uni l) {j : Nat} {t : Tk} (h : l[j]? = some t) : spr l t = { t with rank := Fl.flo (j + 1) } := by
  unfold spr
  rw [plc_at u h]
theorem spr_get {l : List Tk} (u : Uni l) (j : Nat) : (l.map (spr l))[j]? = l[j]?.map fun t => { t with rank := Fl.flo (j + 1) } := by
  rw [List.getElem?_map]
  cases h : l[j]? with
  | none => rfl
  | some t => rw [Option.map_some, Option.map_some, spr_at u h]
theorem spr_rank {l : List Tk} (u : Uni l) {j : Nat} (hj : j < l.length) (d : Nat) : ((l.map (spr l))[j]?.map (·.rank)).getD d = Fl.flo (j + 1) := by
  rw [spr_get u, List.getElem?_eq_getElem hj, Option.map_some, Option.map_some, Option.getD_some]
theorem spr_str {l : List Tk} (u : Uni l) (hl : l.length ≤ 60) : Sr.Str ltR (l.map (spr l)) := by
  rw [Sr.Str, List.pairwise_iff_getElem]
  intro i j hi hj hij
  rw [List.length_map] at hi hj
  rw [ltR_iff, List.getElem_map, List.getElem_map, spr_at u (List.getElem?_eq_getElem hi), spr_at u (List.getElem?_eq_getElem hj)]
  refine .inl ?_
  show Fl.pl (Fl.flo (i + 1)) < Fl.pl (Fl.flo (j + 1))
  exact Fl.flo_lt (i := i + 1) (j := j + 1) (by omega) (by omega)
theorem inList_map {ts : List Tk} {f : Tk → Tk} (hf : ∀ t, (f t).list = t.list) (list : Nat) : inList (ts.map f) list = (inList ts list).map f := by
  unfold inList
  rw [List.filter_map]
  congr 1
  exact List.filter_congr fun t _ => by simp [hf]
theorem uni_map {ts : List Tk} {f : Tk → Tk} (hf : ∀ t, (f t).id = t.id) (u : Uni ts) : Uni (ts.map f) := List.pairwise_map.2 (u.imp fun q => by rw [hf, hf]; exact q)
theorem spread_order {s : St} (h : rightE s = 0) {list : Nat} {l b : List Tk} (ol : Ordd s.tasks list l) (ob : Ordd (s.tasks.map (spr l)) list b) : b = l.map (spr l) := by
  have u := right_uni h
  have ul : Uni l := (u.filter _).perm ol.perm
  have ll : l.length ≤ 60 := by
    rw [ol.perm.length_eq]
    exact Nat.le_trans (List.length_filter_le _ _) (rightE_parts h).2.1
  refine ob.is (uni_map (spr_id l) u) (spr_str ul ll) ?_
  rw [inList_map (spr_list l)]
  exact ol.perm.map _
/-- Behind a Spread there is a rank between. -/
theorem btw_spread {l : List Tk} (u : Uni l) (hl : l.length ≤ 60) (is : Bool) (after : Nat) : (btw is (l.map (spr l)) after).2 ≠ 100 := by
  have hi : ∀ j, ∃ n, ((l.map (spr l))[j]?.map (·.rank)).getD Fl.pInf = n ∧ (n = Fl.pInf ∨ n = Fl.flo (j + 1) ∧ j < l.length) := fun j => by
    by_cases hj : j < l.length
    · exact ⟨Fl.flo (j + 1), spr_rank u hj _, .inr ⟨rfl, hj⟩⟩
    · refine ⟨Fl.pInf, ?_, .inl rfl⟩
      rw [List.getElem?_eq_none (by rw [List.length_map]; omega), Option.map_none, Option.getD_none]
  unfold btw
  by_cases h1 : is = false
  · rw [if_pos h1]
    show (91 : Int) ≠ 100
    decide
  rw [if_neg h1]
  by_cases h2 : after = 0
  · rw [if_pos h2]
    obtain ⟨n, e, q⟩ := hi 0
    rw [e, if_pos]
    · show (0 : Int) ≠ 100
      decide
    · refine Fl.mid_room Fl.inf_ok.2.2.2.1 ?_
      rcases q with rfl | ⟨rfl, q⟩
      · rw [Fl.inf_ok.2.2.2.2.1, Fl.inf_ok.2.2.2.2.2, Fl.inf_eq]; omega
      · exact (Fl.flo_inf 1 (by omega)).1
  · rw [if_neg h2]
    cases hp : plc (l.map (spr l)) after with
    | none => simp
    | some k =>
      obtain ⟨t, ht, _⟩ := plc_some hp
      obtain ⟨n, e, q⟩ := hi (k + 1)
      have hk : k < l.length := by simpa using (List.getElem?_eq_some_iff.1 ht).1
      have lo : ((l.map (spr l))[k]?.map (·.rank)).getD 0 = Fl.flo (k + 1) := spr_rank u hk 0
      simp only
      rw [e, lo, if_pos]
      · show (0 : Int) ≠ 100
        decide
      · refine Fl.mid_room (Fl.flo_ok (k + 1) (by omega)).2.1 ?_
        rcases q with rfl | ⟨rfl, q⟩
        · exact (Fl.flo_inf (k + 1) (by omega)).2
        · exact Fl.flo_far (k + 1) (by omega)

/-- A task with the rank that was told stands right behind the other one. -/
theorem behind_order {s : St} (h : rightE s = 0) {list after id : Nat} {is : Bool} {l r : List Tk} {new : Tk} (ol : Ordd s.tasks list l) (or : Ordd (s.tasks ++ [new]) list r) (hn : new.id = id) (hl : new.list = list) (hid : ∀ t ∈ s.tasks, t.id ≠ id) (hb : btw is l after = (new.rank, 0)) :
    (after = 0 → plc r id = some 0) ∧ (after ≠ 0 → ∃ k t, plc r id = some (k + 1) ∧ r[k]? = some t ∧ t.id = after) := by
  have u := right_uni h
  have ul : Uni l := (u.filter _).perm ol.perm
  have mem : ∀ t ∈ l, t ∈ s.tasks := fun t ht => (List.mem_filter.1 (ol.perm.mem_iff.1 ht)).1
  have sl := ol.str u
  -- where it stands
  have key : ∀ k, (∀ t ∈ l.take k, Fl.pl t.rank < Fl.pl new.rank) → (∀ t ∈ l.drop k, Fl.pl new.rank < Fl.pl t.rank) → r = l.take k ++ new :: l.drop k := fun k h1 h2 => by
    have un : Uni (s.tasks ++ [new]) := List.pairwise_append.2 ⟨u, List.pairwise_singleton _ _, fun a ha b hb => by
      simp only [List.mem_cons, List.not_mem_nil, or_false] at hb
      subst hb
      rw [hn]
      exact hid a ha⟩
    refine or.is un ?_ ?_
    · have p := List.pairwise_append.1 ((List.take_append_drop k l).symm ▸ sl)
      refine List.pairwise_append.2 ⟨p.1, List.pairwise_cons.2 ⟨fun t ht => ltR_iff.2 (.inl (h2 t ht)), p.2.1⟩, fun a ha b hb => ?_⟩
      rcases List.mem_cons.1 hb with rfl | hb
      · exact ltR_iff.2 (.inl (h1 a ha))
      · exact p.2.2 a ha b hb
    · have e : inList (s.tasks ++ [new]) list = inList s.tasks list ++ [new] := by
        unfold inList
        rw [List.filter_append]
        simp [hl]
      rw [e]
      refine List.perm_middle.trans (List.Perm.trans ?_ (List.perm_append_comm (l₁ := [new])))
      rw [List.take_append_drop]
      exact List.Perm.cons new ol.perm
  have at_ : ∀ k, k ≤ l.length → r = l.take k ++ new :: l.drop k → plc r id = some k := fun k hk e => by
    have ur : Uni r := by
      rw [e]
      refine List.pairwise_append.2 ⟨List.Pairwise.sublist (List.take_sublist _ _) ul, List.pairwise_cons.2 ⟨fun t ht => ?_, List.Pairwise.sublist (List.drop_sublist _ _) ul⟩, fun a ha b hb => ?_⟩
      · rw [hn]; exact (hid t (mem t (List.mem_of_mem_drop ht))).symm
      · rcases List.mem_cons.1 hb with rfl | hb
        · rw [hn]; exact hid a (mem a (List.mem_of_mem_take ha))
        · have q := List.pairwise_append.1 ((List.take_append_drop k l).symm ▸ ul)
          exact q.2.2 a ha b hb
    rw [← hn]
    refine plc_at ur ?_
    rw [e, List.getElem?_append_right (by rw [List.length_take]; omega), List.length_take, Nat.min_eq_left hk, Nat.sub_self]
    rfl
  have srt : ∀ {i j : Nat} {a b : Tk}, l[i]? = some a → l[j]? = some b → i ≤ j → Fl.pl a.rank ≤ Fl.pl b.rank := fun {i j a b} ha hb hij => by
    obtain ⟨hi, ea⟩ := List.getElem?_eq_some_iff.1 ha
    obtain ⟨hj, eb⟩ := List.getElem?_eq_some_iff.1 hb
    rcases Nat.lt_or_ge i j with q | q
    · have z := List.pairwise_iff_getElem.1 ol.1 i j hi hj q
      rw [ea, eb, ltR_not] at z
      omega
    · obtain rfl : i = j := by omega
      rw [ha] at hb
      injection hb with hb
      rw [hb]
      exact Int.le_refl _
  -- what lies above
  have above : ∀ k, Fl.pl new.rank < Fl.pl ((l[k]?.map (·.rank)).getD Fl.pInf) → ∀ t ∈ l.drop k, Fl.pl new.rank < Fl.pl t.rank := fun k hk t ht => by
    obtain ⟨j, hj, ej⟩ := List.mem_iff_getElem.1 ht
    rw [List.length_drop] at hj
    rw [List.getElem_drop] at ej
    have hkl : k < l.length := by omega
    rw [List.getElem?_eq_getElem hkl] at hk
    have := srt (i := k) (j := k + j) (List.getElem?_eq_getElem hkl) (List.getElem?_eq_getElem (by omega)) (by omega)
    rw [ej] at this
    exact Int.lt_of_lt_of_le hk this
  unfold btw at hb
  by_cases h1 : is = false
  · rw [if_pos h1] at hb
    exact absurd (congrArg Prod.snd hb) (show ¬ (91 : Int) = 0 by decide)
  rw [if_neg h1] at hb
  by_cases h2 : after = 0
  · rw [if_pos h2] at hb
    refine ⟨fun _ => ?_, fun q => absurd h2 q⟩
    by_cases hm : Fl.midOk Fl.nInf ((l[0]?.map (·.rank)).getD Fl.pInf) = true
    · rw [if_pos hm] at hb
      have e := congrArg Prod.fst hb
      have q := Fl.mid_in hm
      dsimp only at e
      rw [e] at q
      exact at_ 0 (Nat.zero_le _) (key 0 (by simp) (above 0 q.2.1))
    · rw [if_neg hm] at hb
      exact absurd (congrArg Prod.snd hb) (show ¬ (100 : Int) = 0 by decide)
  · rw [if_neg h2] at hb
    refine ⟨fun q => absurd q h2, fun _ => ?_⟩
    cases hp : plc l after with
    | none =>
      rw [hp] at hb
      exact absurd (congrArg Prod.snd hb) (show ¬ (93 : Int) = 0 by decide)
    | some k =>
      rw [hp] at hb
      simp only at hb
      obtain ⟨t, ht, et⟩ := plc_some hp
      have hk : k < l.length := (List.getElem?_eq_some_iff.1 ht).1
      by_cases hm : Fl.midOk ((l[k]?.map (·.rank)).getD 0) ((l[k + 1]?.map (·.rank)).getD Fl.pInf) = true
      · rw [if_pos hm] at hb
        have e := congrArg Prod.fst hb
        have q := Fl.mid_in hm
        dsimp only at e
        rw [e] at q
        have er := key (k + 1) (fun x hx => by
          obtain ⟨j, hj, ej⟩ := List.mem_iff_getElem.1 hx
          rw [List.length_take] at hj
          rw [List.getElem_take] at ej
          have z := srt (i := j) (j := k) (List.getElem?_eq_getElem (by omega)) ht (by omega)
          rw [ej] at z
          have q1 := q.1
          rw [ht] at q1
          exact Int.lt_of_le_of_lt z q1) (above (k + 1) q.2.1)
        refine ⟨k, t, at_ (k + 1) (by omega) er, ?_, et⟩
        rw [er, List.getElem?_append_left (by rw [List.length_take]; omega), List.getElem?_take, if_pos (by omega)]
        exact ht
      · rw [if_neg hm] at hb
        exact absurd (congrArg Prod.snd hb) (show ¬ (100 : Int) = 0 by decide)
end T9
end Go.Proofs.Ytnhpkcphgdkdiaa
