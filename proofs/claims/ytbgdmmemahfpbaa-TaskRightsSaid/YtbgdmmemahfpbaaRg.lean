/- A drawn region whose last store writes what the region's own loads read: loads may be taken first all the same, for that store waits for each of them. Of no program. -/
import Derived.OrdersHeld
import Derived.Deep.RegionHeld
namespace Go.Proofs.Ytbgdmmemahfpbaa
set_option maxRecDepth 100000

section
variable {P : Program} {ops : Array Oper} {Q : Exit → Act → World → Prop} {md : Region.Mode} {S : World → Prop} {st : Nat}

/-- Whatever order is picked from here on; S holds behind every operation but number st. -/
def Any (P : Program) (md : Region.Mode) (ops : Array Oper) (Q : Exit → Act → World → Prop) (S : World → Prop) (st : Nat) : Nat → Array Bool → Act → World → Prop
  | 0, ls, a, w => Region.ready md ops ls = [] ∧ Q .normal a w
  | f + 1, ls, a, w => (Region.ready md ops ls = [] → Q .normal a w) ∧ ∀ j ∈ Region.ready md ops ls, wpOp P ops Q j (fun b u => (j ≠ st → S u) ∧ Any P md ops Q S st f (ls.setIfInBounds j true) b u) a w

theorem Any.plain : ∀ {f : Nat} {ls : Array Bool} {a : Act} {w : World}, Any P md ops Q S st f ls a w → wpAny P md ops Q f ls a w
  | 0, _, _, _, h => h
  | _ + 1, _, _, _, h => ⟨h.1, fun j hj => wpOp_mono (fun _ _ q => q.2.plain) (h.2 j hj)⟩

/-- Nobody that waits for a number not yet listed comes up. -/
theorem waits {i j : Nat} {ls : Array Bool} {oj : Oper} (hi : i ∈ Region.ready md ops ls) (hj : j ∈ Region.ready md ops ls) (ho : ops[j]? = some oj) : ∀ e ∈ oj.after, Region.binds md e = true → e.on ≠ i := by
  intro e he hb q
  obtain ⟨_, o, hoj, hall⟩ := mem_ready.1 hj
  rw [ho] at hoj
  injection hoj with hoj
  subst hoj
  have h1 := hall e he hb
  have h0 := (mem_ready.1 hi).1
  rw [q] at h1
  rcases Nat.lt_or_ge i ls.size with r | r
  · simp only [Array.getD_eq_getD_getElem?, Array.getElem?_eq_getElem r, Option.getD_some] at h0 h1
    rw [h0] at h1
    cases h1
  · simp only [Array.getD_eq_getD_getElem?, Array.getElem?_eq_none r, Option.getD_none] at h1
    cases h1

/-- A load (or what yields in every world that meets S) is taken first, where number st waits for it. -/
theorem Any.first {i : Nat} {oi os : Oper} {v : Value} (hi : ops[i]? = some oi) (hsel : Region.noSelect ops = true) (hQ : ∀ c a w, Q (.panic c) (a.put oi.dst v) w → Q (.panic c) a w)
    (hs : ops[st]? = some os) (hw : ∃ e ∈ os.after, Region.binds md e = true ∧ e.on = i) (f : Nat) (ls : Array Bool) (a : Act) (w : World)
    (hfree : ∀ j oj, ops[j]? = some oj → j ≠ i → ls.getD j true = false → (∀ e ∈ oj.after, Region.binds md e = true → e.on ≠ i) → oi.apart ops oj = true)
    (hr : i ∈ Region.ready md ops ls) (hy : YieldsIf P ops S oi v a) (hS : S w) (H : Any P md ops Q S st f (ls.setIfInBounds i true) (a.put oi.dst v) w) : Any P md ops Q S st (f + 1) ls a w := by
  have selects := Region.noSelect_spec hsel
  induction f generalizing ls a w with
  | zero =>
    refine ⟨fun e => absurd hr (by rw [e]; simp), fun j hj => ?_⟩
    rcases Nat.decEq j i with q | q
    · exact absurd (ready_mono hj q) (by rw [H.1]; simp)
    · subst q
      exact hy.wpOp hi hS ⟨fun _ => hS, H⟩
  | succ f ih =>
    refine ⟨fun e => absurd hr (by rw [e]; simp), fun j hj => ?_⟩
    rcases Nat.decEq j i with q | q
    · obtain ⟨un, oj, hoj, _⟩ := mem_ready.1 hj
      have now : j ≠ st := by
        rintro rfl
        obtain ⟨e, he, hb, hon⟩ := hw
        exact waits hr hj hs e he hb hon
      have stays : ∀ k ok, ops[k]? = some ok → k ≠ i → (ls.setIfInBounds j true).getD k true = false → (∀ e ∈ ok.after, Region.binds md e = true → e.on ≠ i) → oi.apart ops ok = true := by
        intro k ok hk hki hun hno
        refine hfree k ok hk hki ?_ hno
        rcases Nat.decEq j k with r | r
        · rwa [getD_set_ne true r] at hun
        · rw [← r]; exact un
      have next := wpOp_putIf hoj (hfree j oj hoj q un (waits hr hj hoj)) (fun cs b => selects i oi cs b hi) (fun cs b => selects j oj cs b hoj) hQ hy (H.2 j (ready_mono hj q))
      refine wpOp_mono (fun b u g => ⟨g.2.1, ih _ b u stays (ready_mono hr (Ne.symm q)) g.1 (g.2.1 now) ?_⟩) next
      rw [Array.setIfInBounds_comm _ _ q]
      exact g.2.2
    · subst q
      exact hy.wpOp hi hS ⟨fun _ => hS, H⟩
theorem Any.take {i : Nat} {oi os : Oper} {v : Value} {f : Nat} {ls : Array Bool} {a : Act} {w : World} (hi : ops[i]? = some oi) (hsel : Region.noSelect ops = true) (hf : Region.free md ops ls i = true) (hr : (Region.ready md ops ls).contains i = true)
    (hs : ops[st]? = some os) (hw : (os.after.any fun e => Region.binds md e && e.on == i) = true) (hQ : ∀ c a w, Q (.panic c) (a.put oi.dst v) w → Q (.panic c) a w) (hy : YieldsIf P ops S oi v a) (hS : S w)
    (H : Any P md ops Q S st f (ls.setIfInBounds i true) (a.put oi.dst v) w) : Any P md ops Q S st (f + 1) ls a w := by
  refine Any.first hi hsel hQ hs ?_ f ls a w (Region.free_spec hi hf) (by simpa using hr) hy hS H
  obtain ⟨e, he, hb⟩ := Array.any_eq_true'.1 hw
  simp only [Bool.and_eq_true, beq_iff_eq] at hb
  exact ⟨e, he, hb.1, hb.2⟩
/-- One operation alone may come up. -/
theorem Any.one {i : Nat} {oi : Oper} {f : Nat} {ls : Array Bool} {a : Act} {w : World} (hr : Region.ready md ops ls = [i]) (hi : ops[i]? = some oi)
    (h : ∀ K : Act → World → Prop, (∀ b u, (i ≠ st → S u) → Any P md ops Q S st f (ls.setIfInBounds i true) b u → K b u) → if Region.wanted oi (yielded ops a.tmps) = true then Oper.wp P oi a w K Q else K (a.put oi.dst undef) w) : Any P md ops Q S st (f + 1) ls a w := by
  refine ⟨fun e => absurd e (by rw [hr]; simp), fun j hj => ?_⟩
  rw [hr, List.mem_singleton] at hj
  subst hj
  exact wpOp_step hi (fun K hK => h K (fun b u q1 q2 => hK b u ⟨q1, q2⟩))
theorem Any.done {ls : Array Bool} {a : Act} {w : World} {f : Nat} (hr : Region.ready md ops ls = []) (h : Q .normal a w) : Any P md ops Q S st f ls a w := by
  cases f with
  | zero => exact ⟨hr, h⟩
  | succ f => exact ⟨fun _ => h, fun j hj => by rw [hr] at hj; cases hj⟩
theorem Any.begin {id : Nat} {a : Act} {w : World} (hm : P.follows .mixedOrders = true) (h : Any P .any ops Q S st ops.size (Array.replicate ops.size false) a w.drew) : (Code.region id ops true).wp P Q a w :=
  wp_region_any hm h.plain
end
end Go.Proofs.Ytbgdmmemahfpbaa
