/- Stage 9: task.Canon. -/
import Derived.Test.YtnhpkcphgdkdiaaTs
namespace Go.Proofs.Ytnhpkcphgdkdiaa
open Go.Shelf Go.RowKit Go.Lib Go.Sort
set_option maxRecDepth 100000

theorem splice_one {P Y1 Y2 Q : List Value} {y v : Value} {o : Nat} (ho : o = P.length + Y1.length) : splice (P ++ (Y1 ++ y :: Y2) ++ Q) o [v] = P ++ (Y1 ++ v :: Y2) ++ Q := by
  subst ho
  unfold splice
  have e : P ++ (Y1 ++ y :: Y2) ++ Q = (P ++ Y1) ++ ([y] ++ (Y2 ++ Q)) := by simp
  have d : (P ++ (Y1 ++ y :: Y2) ++ Q).drop (P.length + Y1.length + [v].length) = Y2 ++ Q := by
    rw [e, show P.length + Y1.length + [v].length = ((P ++ Y1) ++ [y]).length by simp; omega, ← List.append_assoc, List.drop_left]
  have t : (P ++ (Y1 ++ y :: Y2) ++ Q).take (P.length + Y1.length) = P ++ Y1 := by
    rw [e, show P.length + Y1.length = (P ++ Y1).length by simp, List.take_left]
  rw [d, t]
  simp
/-- One field of one task. -/
theorem tkcells_put {ms : List MTk} {i j : Nat} {m m' : MTk} {v : Value} (hm : ms[i]? = some m) (hj : j < 7) (he : encK m' = (encK m).set j v) : splice (tkcells ms) (i * 7 + j) [v] = tkcells (ms.set i m') := by
  have hi : i < ms.length := by
    rcases Nat.lt_or_ge i ms.length with q | q
    · exact q
    · rw [List.getElem?_eq_none q] at hm; cases hm
  have e1 : ms = ms.take i ++ m :: ms.drop (i + 1) := by
    have q := List.drop_eq_getElem_cons hi
    rw [List.getElem?_eq_getElem hi] at hm
    injection hm with hm
    rw [hm] at q
    rw [← q, List.take_append_drop]
  have e2 : ms.set i m' = ms.take i ++ m' :: ms.drop (i + 1) := by rw [List.set_eq_take_append_cons_drop, if_pos hi]
  have lp : (tkcells (ms.take i)).length = i * 7 := by rw [tkcells_len, List.length_take, Nat.min_eq_left (by omega)]
  have lj : j < (encK m).length := by rw [encK_len]; exact hj
  have c1 : encK m = (encK m).take j ++ (encK m)[j] :: (encK m).drop (j + 1) := by rw [← List.drop_eq_getElem_cons lj, List.take_append_drop]
  have c2 : encK m' = (encK m).take j ++ v :: (encK m).drop (j + 1) := by rw [he, List.set_eq_take_append_cons_drop, if_pos lj]
  have k1 : tkcells ms = tkcells (ms.take i) ++ ((encK m).take j ++ (encK m)[j] :: (encK m).drop (j + 1)) ++ tkcells (ms.drop (i + 1)) := by
    rw [← c1]
    conv => lhs; rw [e1]
    simp [tkcells]
  rw [k1, splice_one (by rw [lp, List.length_take, Nat.min_eq_left (by omega)]), e2, ← c2]
  simp [tkcells]

theorem canon_tks (ms : List MTk) : tks (Sr.canon ltM ms) = Sr.canon T9.ltK (tks ms) := (Sr.canon_map (lt := ltM) (lt' := T9.ltK) (f := fun m : MTk => m.t) (fun _ _ => rfl) ms).symm

/-- A row of the call's own, or nothing without room. -/
def OwnR (w : World) (B : Nat) (t : TypeId) (k : Nat) (A : Option Addr) (n c : Nat) (xs : List Value) : Prop := (n = 0 ∧ c = 0) ∨ ∃ g, A = some ⟨g, 0, none⟩ ∧ w.ownsRow B t k (.slice (some ⟨g, 0, none⟩) n c) n xs
theorem OwnR.tch {w w' : World} {B B' : Nat} {t : TypeId} {k n c : Nat} {A : Option Addr} {xs : List Value} {ts : List TypeId} (h : OwnR w B t k A n c xs) (hT : Tch B' ts w w') (ht : t ∉ ts) : OwnR w' B t k A n c xs := by
  rcases h with q | ⟨g, e, q⟩
  · exact .inl q
  · exact .inr ⟨g, e, own_tch q hT ht⟩
theorem OwnR.below {w w' : World} {B : Nat} {t : TypeId} {k n c : Nat} {A : Option Addr} {xs : List Value} (h : OwnR w B t k A n c xs) (hb : Below w.heap.size w w') : OwnR w' B t k A n c xs := h.tch (Tch.of_below hb (Nat.le_refl _) []) (by simp)
theorem OwnR.less {w : World} {B B' : Nat} {t : TypeId} {k n c : Nat} {A : Option Addr} {xs : List Value} (h : OwnR w B t k A n c xs) (hb : B' ≤ B) : OwnR w B' t k A n c xs := by
  rcases h with q | ⟨g, e, q⟩
  · exact .inl q
  · exact .inr ⟨g, e, own_less q hb⟩
theorem OwnR.lies {w : World} {B : Nat} {t : TypeId} {k n c : Nat} {A : Option Addr} {xs : List Value} (h : OwnR w B t k A n c xs) (hx : xs.length = n * k) : Lies w 0 t A xs := by
  rcases h with ⟨q, _⟩ | ⟨g, e, q⟩
  · rw [List.length_eq_zero_iff.1 (show xs.length = 0 by rw [hx, q, Nat.zero_mul])]; exact Lies.nil
  · rw [e]; exact lies_own q
/-- A task's tags' own block, if there is room for any. -/
def MTk.blk (m : MTk) : Option Nat := if m.c = 0 then none else m.A.map (·.block)
/-- Tasks' tags lie in rows of the call's own, each in its own block. -/
def TagsOwn (w : World) (B : Nat) (ms : List MTk) : Prop := (∀ m ∈ ms, OwnR w B 9 1 m.A m.t.tags.length m.c (gcells m.t.tags)) ∧ ms.Pairwise fun a b => ∀ g, a.blk = some g → b.blk ≠ some g
theorem TagsOwn.nil {w : World} {B : Nat} : TagsOwn w B [] := ⟨by simp, .nil⟩
theorem TagsOwn.tch {w w' : World} {B B' : Nat} {ms : List MTk} {ts : List TypeId} (h : TagsOwn w B ms) (hT : Tch B' ts w w') (ht : 9 ∉ ts) : TagsOwn w' B ms := ⟨fun m hm => (h.1 m hm).tch hT ht, h.2⟩
theorem OwnR.blk_lt {w : World} {B : Nat} {m : MTk} (h : OwnR w B 9 1 m.A m.t.tags.length m.c (gcells m.t.tags)) {g : Nat} (e : m.blk = some g) : B ≤ g ∧ g < w.heap.size := by
  unfold MTk.blk at e
  rcases h with ⟨_, q⟩ | ⟨g', e', q⟩
  · rw [if_pos q] at e; cases e
  · by_cases hc : m.c = 0
    · rw [if_pos hc] at e; cases e
    · rw [if_neg hc, e'] at e
      injection e with e
      subst e
      exact q.lt g' rfl
theorem TagsOwn.snoc {w w' : World} {B B' : Nat} {ms : List MTk} {m : MTk} (h : TagsOwn w B ms) (hT : TagsOwn w' B ms) (hm : OwnR w' B' 9 1 m.A m.t.tags.length m.c (gcells m.t.tags)) (hB : w.heap.size ≤ B') (hB2 : B ≤ B') : TagsOwn w' B (ms ++ [m]) := by
  refine ⟨fun x hx => ?_, List.pairwise_append.2 ⟨hT.2, by simp, fun a ha b hb g e1 e2 => ?_⟩⟩
  · rcases List.mem_append.1 hx with q | q
    · exact hT.1 x q
    · simp only [List.mem_cons, List.not_mem_nil, or_false] at q
      subst q
      exact hm.less hB2
  · simp only [List.mem_cons, List.not_mem_nil, or_false] at hb
    subst hb
    have a1 := ((h.1 a ha).blk_lt e1).2
    have a2 := (hm.blk_lt e2).1
    omega
/-- The tasks amid Canon's loop: the first i are done. -/
structure KC (w0 : World) (g n c : Nat) (ks : List T9.Tk) (i : Nat) (ms : List MTk) (w : World) : Prop where
  own : w.ownsRow w0.heap.size 32 7 (.slice (some ⟨g, 0, none⟩) n c) n (tkcells ms)
  fine : ∀ m ∈ ms, Lies w w0.heap.size 9 m.A (gcells m.t.tags) ∧ m.t.tags.length ≤ m.c
  few : ∀ m ∈ ms.drop i, m.t.tags.length < 20
  tks : tks ms = (ks.take i).map T9.norm ++ ks.drop i
  neu : TagsOwn w w0.heap.size (ms.take i)

theorem lies0_tch {w w' : World} {B : Nat} {t : TypeId} {A : Option Addr} {xs : List Value} {ts : List TypeId} (h : Lies w 0 t A xs) (hT : Tch B ts w w') (ht : t ∉ ts) : Lies w' 0 t A xs :=
  h.keep fun b hb => by
    rcases hb with q | ⟨cs, fr, q⟩
    · omega
    · rw [hT.blk q ht, q]

theorem tch_string {w0 w w' : World} {A : Option Addr} {xs : List Value} (h : Lies w w0.heap.size 9 A xs) (hT : Tch w0.heap.size [32] w w') : Lies w' w0.heap.size 9 A xs := h.tch hT (by decide)

/-- A state of the call's own was returned: its tasks' row may be written. -/
def StRetO (s : T9.St) (w : World) (e : Ending) (w' : World) : Prop := ∃ m : MSt, e = .returned m.val ∧ SM m w' ∧ m.st = s ∧ Below w.heap.size w w' ∧
  (Lies w' 0 49 m.A (lcells m.ls) ∧ (∀ x ∈ m.ms, Lies w' 0 9 x.A (gcells x.t.tags)) ∧ (m.ms = [] ∨ ∃ g, m.A2 = some ⟨g, 0, none⟩ ∧ w'.ownsRow w.heap.size 32 7 (.slice (some ⟨g, 0, none⟩) m.ms.length m.c2) m.ms.length (tkcells m.ms))) ∧
  (OwnR w' w.heap.size 49 2 m.A m.ls.length m.c (lcells m.ls) ∧ OwnR w' w.heap.size 32 7 m.A2 m.ms.length m.c2 (tkcells m.ms) ∧ TagsOwn w' w.heap.size m.ms)

end Go.Proofs.Ytnhpkcphgdkdiaa
