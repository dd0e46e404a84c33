/- Stage 16: last numbers of identities in plain words. -/
import Derived.Test.YtmcfknnfaokmlaaUa
namespace Go.Proofs.Ytmcfknnfaokmlaa
set_option maxRecDepth 100000
section
open Go.RowKit Go.Lib
namespace D16
def lastN (T : List La) (k : Nat) : Nat := ((T.find? fun x => x.who == k).map (·.id)).getD 0
def setN (k i : Nat) : List La → List La
  | [] => [⟨k, i⟩]
  | x :: l => if x.who < k then x :: setN k i l else if x.who = k then ⟨k, i⟩ :: l else ⟨k, i⟩ :: x :: l
/-- Rising, and no nought. -/
def Good (T : List La) : Prop := T.Pairwise (fun a b => a.who < b.who) ∧ ∀ x ∈ T, x.ok ∧ x.who ≠ 0 ∧ x.id ≠ 0
theorem find_set (k i j : Nat) : ∀ T : List La, (setN k i T).find? (fun x => x.who == j) = if j = k then some ⟨k, i⟩ else T.find? (fun x => x.who == j)
  | [] => by
    by_cases q : j = k
    · subst q; simp [setN]
    · rw [if_neg q]
      have : ¬ k = j := fun e => q e.symm
      simp [setN, this]
  | x :: l => by
    have ih := find_set k i j l
    unfold setN
    by_cases h : x.who < k
    · rw [if_pos h]
      by_cases q : x.who = j
      · have : ¬ j = k := by omega
        rw [if_neg this]
        simp [q]
      · rw [List.find?_cons_of_neg (by simpa using q), ih, List.find?_cons_of_neg (by simpa using q)]
    · rw [if_neg h]
      by_cases q : x.who = k
      · rw [if_pos q]
        by_cases z : j = k
        · rw [if_pos z]; subst z; simp
        · rw [if_neg z, List.find?_cons_of_neg (by simp; omega), List.find?_cons_of_neg (by simp; omega)]
      · rw [if_neg q]
        by_cases z : j = k
        · rw [if_pos z]; subst z; simp
        · rw [if_neg z, List.find?_cons_of_neg (by simp; omega)]
theorem last_set (k i j : Nat) (T : List La) : lastN (setN k i T) j = if j = k then i else lastN T j := by
  unfold lastN
  rw [find_set]
  by_cases q : j = k
  · rw [if_pos q, if_pos q]; rfl
  · rw [if_neg q, if_neg q]
theorem set_mem {k i : Nat} {y : La} : ∀ {T : List La}, y ∈ setN k i T → y = ⟨k, i⟩ ∨ y ∈ T
  | [], h => .inl (by simpa [setN] using h)
  | x :: l, h => by
    unfold setN at h
    split at h
    · rcases List.mem_cons.1 h with q | q
      · exact .inr (by rw [q]; exact List.mem_cons_self ..)
      · rcases set_mem q with z | z
        · exact .inl z
        · exact .inr (List.mem_cons_of_mem _ z)
    · split at h
      · rcases List.mem_cons.1 h with q | q
        · exact .inl q
        · exact .inr (List.mem_cons_of_mem _ q)
      · rcases List.mem_cons.1 h with q | q
        · exact .inl q
        · exact .inr q
theorem set_ris (k i : Nat) : ∀ {T : List La}, T.Pairwise (fun a b => a.who < b.who) → (setN k i T).Pairwise (fun a b => a.who < b.who)
  | [], _ => by simp [setN]
  | x :: l, h => by
    obtain ⟨h1, h2⟩ := List.pairwise_cons.1 h
    unfold setN
    split
    · rename_i q
      refine List.pairwise_cons.2 ⟨fun y hy => ?_, set_ris k i h2⟩
      rcases set_mem hy with z | z
      · rw [z]; exact q
      · exact h1 y z
    · split
      · rename_i q1 q2
        refine List.pairwise_cons.2 ⟨fun y hy => ?_, h2⟩
        have := h1 y hy
        show k < y.who
        omega
      · rename_i q1 q2
        refine List.pairwise_cons.2 ⟨fun y hy => ?_, h⟩
        show k < y.who
        rcases List.mem_cons.1 hy with z | z
        · rw [z]; omega
        · have := h1 y z; omega
theorem Good.set {T : List La} (h : Good T) {k i : Nat} (hk : k < 18446744073709551616) (hi : i < 18446744073709551616) (k0 : k ≠ 0) (i0 : i ≠ 0) : Good (setN k i T) :=
  ⟨set_ris k i h.1, fun x hx => by
    rcases set_mem hx with z | z
    · subst z; exact ⟨⟨hk, hi⟩, k0, i0⟩
    · exact h.2 x z⟩
theorem set_len (k i : Nat) : ∀ T : List La, (setN k i T).length ≤ T.length + 1
  | [] => by simp [setN]
  | x :: l => by
    have := set_len k i l
    unfold setN
    split
    · simp only [List.length_cons]; omega
    · split
      · simp
      · simp
/-- As the document puts it: a copy of what is ahead, the new one, what is behind. -/
theorem set_at (k i : Nat) : ∀ {T : List La} {p : Nat}, (∀ j x, j < p → T[j]? = some x → x.who < k) → (∀ x, T[p]? = some x → ¬ x.who < k) → p ≤ T.length →
    setN k i T = T.take p ++ ⟨k, i⟩ :: T.drop (if (T[p]?.map (·.who)) = some k then p + 1 else p)
  | [], p, _, _, h3 => by
    have : p = 0 := by simpa using h3
    subst this
    simp [setN]
  | x :: l, p, h1, h2, h3 => by
    rcases p with _ | p
    · have q := h2 x rfl
      unfold setN
      rw [if_neg q]
      by_cases z : x.who = k
      · rw [if_pos z, if_pos (by simp [z])]; rfl
      · rw [if_neg z, if_neg (by simp [z])]; rfl
    · have q := h1 0 x (by omega) rfl
      unfold setN
      rw [if_pos q, set_at k i (T := l) (p := p) (fun j y hj hy => h1 (j + 1) y (by omega) hy) (fun y hy => h2 y hy) (by simpa using h3)]
      simp only [List.getElem?_cons_succ, List.take_succ_cons, List.cons_append]
      split <;> rfl
/-- One more that is told. -/
def step16 (T : List La) (x : La) : List La := if x.who ≠ 0 ∧ lastN T x.who < x.id then setN x.who x.id T else T
def news16 (l : List La) : List La := l.foldl step16 []
theorem news_snoc (l : List La) (x : La) : news16 (l ++ [x]) = step16 (news16 l) x := by unfold news16; rw [List.foldl_append]; rfl
theorem Good.nil : Good [] := ⟨List.Pairwise.nil, by intro x hx; cases hx⟩
theorem Good.step {T : List La} (h : Good T) {x : La} (hx : x.ok) : Good (step16 T x) := by
  unfold step16
  split
  · rename_i q
    exact h.set hx.1 hx.2 q.1 (by omega)
  · exact h
theorem step_len (T : List La) (x : La) : (step16 T x).length ≤ T.length + 1 := by
  unfold step16
  split
  · exact set_len ..
  · omega
theorem foldl_good : ∀ (l : List La) (T : List La), Good T → (∀ x ∈ l, x.ok) → Good (l.foldl step16 T)
  | [], _, h, _ => h
  | x :: l, _, h, hl => foldl_good l _ (h.step (hl x (List.mem_cons_self ..))) fun y hy => hl y (List.mem_cons_of_mem _ hy)
theorem foldl_len : ∀ (l : List La) (T : List La), (l.foldl step16 T).length ≤ T.length + l.length
  | [], _ => by simp
  | x :: l, T => by
    have := foldl_len l (step16 T x)
    have := step_len T x
    simp only [List.foldl_cons, List.length_cons]
    omega
theorem news_good {l : List La} (h : ∀ x ∈ l, x.ok) : Good (news16 l) := foldl_good l [] Good.nil h
theorem news_len (l : List La) : (news16 l).length ≤ l.length := by
  have := foldl_len l []
  unfold news16
  simpa using this
theorem set_end (k i : Nat) : ∀ {T : List La}, (∀ x ∈ T, x.who < k) → setN k i T = T ++ [⟨k, i⟩]
  | [], _ => rfl
  | x :: l, h => by
    unfold setN
    rw [if_pos (h x (List.mem_cons_self ..)), set_end k i fun y hy => h y (List.mem_cons_of_mem _ hy)]
    rfl
theorem last_none {T : List La} {k : Nat} (h : ∀ x ∈ T, x.who < k) : lastN T k = 0 := by
  unfold lastN
  have : T.find? (fun x => x.who == k) = none := List.find?_eq_none.2 fun x hx => by have := h x hx; simp; omega
  rw [this]; rfl
/-- What is told already is the same, told anew. -/
theorem news_self : ∀ {T : List La}, Good T → news16 T = T := fun {T} h => by
  have key : ∀ (B A : List La), Good (A ++ B) → B.foldl step16 A = A ++ B := fun B => by
    induction B with
    | nil => intro A _; simp
    | cons x l ih =>
      intro A hg
      have lt : ∀ y ∈ A, y.who < x.who := fun y hy => (List.pairwise_append.1 hg.1).2.2 y hy x (List.mem_cons_self ..)
      obtain ⟨_, w0, i0⟩ := hg.2 x (List.mem_append.2 (.inr (List.mem_cons_self ..)))
      have e : step16 A x = A ++ [x] := by
        unfold step16
        rw [if_pos ⟨w0, by rw [last_none lt]; omega⟩, set_end _ _ lt]
      rw [List.foldl_cons, e, ih (A ++ [x]) (by simpa using hg)]
      simp
  exact key T [] (by simpa using h)
def ask16 (T : List La) (k i : Nat) : Int := if k = 0 ∨ i = 0 then 1 else if i ≤ lastN T k then 161 else if i = lastN T k + 1 then 0 else 160
def take16 (T : List La) (k i : Nat) : List La := if ask16 T k i = 0 then setN k i T else T
theorem ask_zero {T : List La} {k i : Nat} : ask16 T k i = 0 ↔ k ≠ 0 ∧ i = lastN T k + 1 := by
  unfold ask16
  by_cases h : k = 0 ∨ i = 0
  · rw [if_pos h]
    constructor
    · intro q; cases q
    · rintro ⟨q1, q2⟩; omega
  · rw [if_neg h]
    by_cases h2 : i ≤ lastN T k
    · rw [if_pos h2]
      constructor
      · intro q; cases q
      · rintro ⟨q1, q2⟩; omega
    · rw [if_neg h2]
      by_cases h3 : i = lastN T k + 1
      · rw [if_pos h3]; exact ⟨fun _ => ⟨by omega, h3⟩, fun _ => rfl⟩
      · rw [if_neg h3]
        constructor
        · intro q; cases q
        · rintro ⟨q1, q2⟩; exact absurd q2 h3
theorem Good.take {T : List La} (h : Good T) {k i : Nat} (hk : k < 18446744073709551616) (hi : i < 18446744073709551616) : Good (take16 T k i) := by
  unfold take16
  split
  · rename_i q
    have := ask_zero.1 q
    exact h.set hk hi this.1 (by omega)
  · exact h
theorem take_len (T : List La) (k i : Nat) : (take16 T k i).length ≤ T.length + 1 := by
  unfold take16
  split
  · exact set_len ..
  · omega
theorem Good.last {T : List La} (h : Good T) (k : Nat) : lastN T k < 18446744073709551616 := by
  unfold lastN
  cases q : T.find? (fun x => x.who == k) with
  | none => show 0 < _; omega
  | some x => exact (h.2 x (List.mem_of_find?_eq_some q)).1.2
theorem Good.find {T : List La} (h : Good T) {x : La} (hx : x ∈ T) : T.find? (fun y => y.who == x.who) = some x := by
  have hg := h.1
  clear h
  induction T with
  | nil => cases hx
  | cons y l ih =>
    obtain ⟨h1, h2⟩ := List.pairwise_cons.1 hg
    rcases List.mem_cons.1 hx with rfl | q
    · simp
    · have := h1 x q
      rw [List.find?_cons_of_neg (by simp; omega)]
      exact ih q h2
/-- What stands at a key of the code's map. -/
def mapN (T : List La) (k : Nat) : Option Value := (T.find? fun x => x.who == k).map fun x => .int .u64 (x.id : Int)
theorem map_set (k i : Nat) (T : List La) : mapN (setN k i T) = fun j => if j = k then some (.int .u64 (i : Int)) else mapN T j := funext fun j => by
  unfold mapN
  rw [find_set]
  by_cases q : j = k
  · rw [if_pos q, if_pos q]; rfl
  · rw [if_neg q, if_neg q]
theorem map_nil : mapN [] = fun _ => none := rfl
theorem map_get (T : List La) (k : Nat) : (mapN T k).getD (.int .u64 0) = .int .u64 (lastN T k : Int) := by
  unfold mapN lastN
  cases T.find? (fun x => x.who == k) <;> rfl
theorem map_is (T : List La) (k : Nat) : (mapN T k).isSome = true ↔ ∃ x ∈ T, x.who = k := by
  unfold mapN
  cases q : T.find? (fun x => x.who == k) with
  | none =>
    rw [List.find?_eq_none] at q
    constructor
    · intro h; cases h
    · rintro ⟨x, hx, e⟩; exact absurd (q x hx) (by simp [e])
  | some x =>
    constructor
    · intro _
      exact ⟨x, List.mem_of_find?_eq_some q, by simpa using List.find?_some q⟩
    · intro _; rfl
/-- Two rising rows of the same numbers are the same. -/
theorem ris_uniq : ∀ {a b : List Nat}, a.Pairwise (· < ·) → b.Pairwise (· < ·) → (∀ x, x ∈ a ↔ x ∈ b) → a = b
  | [], [], _, _, _ => rfl
  | [], y :: b, _, _, h => absurd ((h y).2 (List.mem_cons_self ..)) (by simp)
  | x :: a, [], _, _, h => absurd ((h x).1 (List.mem_cons_self ..)) (by simp)
  | x :: a, y :: b, ha, hb, h => by
    obtain ⟨a1, a2⟩ := List.pairwise_cons.1 ha
    obtain ⟨b1, b2⟩ := List.pairwise_cons.1 hb
    have e : x = y := by
      rcases List.mem_cons.1 ((h x).1 (List.mem_cons_self ..)) with q | q
      · exact q
      · rcases List.mem_cons.1 ((h y).2 (List.mem_cons_self ..)) with z | z
        · exact z.symm
        · have := a1 y z; have := b1 x q; omega
    subst e
    rw [ris_uniq a2 b2 fun z => ?_]
    constructor
    · intro hz
      rcases List.mem_cons.1 ((h z).1 (List.mem_cons_of_mem _ hz)) with q | q
      · subst q; have := a1 z hz; omega
      · exact q
    · intro hz
      rcases List.mem_cons.1 ((h z).2 (List.mem_cons_of_mem _ hz)) with q | q
      · subst q; have := b1 z hz; omega
      · exact q
theorem keys_are {T : List La} (h : Good T) {ss : List Nat} (h1 : ss.Pairwise (· < ·)) (h2 : ∀ x, x ∈ ss ↔ (mapN T x).isSome = true) : ss = T.map (·.who) := by
  refine ris_uniq h1 ?_ fun k => ?_
  · exact List.pairwise_map.2 h.1
  · rw [h2, map_is, List.mem_map]
end D16
end
end Go.Proofs.Ytmcfknnfaokmlaa
