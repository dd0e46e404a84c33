/- Arguments, opened: flags. -/
import Derived.Test.YtogobeinckgjmaaOpb
namespace Go.Proofs.Ytogobeinckgjmaa
open Go.ChangeShapes Go.WideShapes Go.ChangeAt Go.RowKit Go.Deep

section
variable {H : Type} {enc : TypeId × Value → H} {P : Program} {w : World} {base : Nat} {sp : Nat → Bool} {held : Bool}

/-- A slice of flags, in cells. -/
theorem cells_bools {t e : TypeId} {fuel : Nat} {v : Value} {x : DataW H × List MemPlace} (ht : P.underlying t = some (.slice e)) (he : P.underlying e = some .bool) (hc : P.cellsOf e = 1)
    (h : DataW.trod enc P w base sp held fuel t [v] = some x) : ∃ (A : Option Addr) (c : Nat) (ks : List Bool), v = .slice A ks.length c ∧ ks.length ≤ c ∧ c ≤ maxLen ∧ Lies w w.heap.size 0 A (ks.map Value.bool) := by
  rcases open_slice1 ht hc h with ⟨hcs, _⟩ | ⟨a, len, cap, m, n, X, D, Pl, hcs, _, hl, hm, hmm, _, hx⟩
  · simp at hcs
    subst hcs
    exact ⟨none, 0, [], rfl, Nat.le_refl _, Nat.zero_le _, Lies.nil⟩
  · simp at hcs
    subst hcs
    have hlen : len ≤ m := by rw [hmm]; split <;> omega
    obtain ⟨Q, hQ⟩ := choose_lt (n := m) (α := Bool) (p := fun i q => w.cell? (a.add i) = some (.bool q)) (fun i hi => by
      obtain ⟨h1, h2⟩ := hx i hi
      obtain ⟨q, e1, _⟩ := DataW.trod_bool he h2
      exact ⟨q, by rw [h1, List.head_eq_of_cons_eq e1]⟩)
    refine ⟨some a, cap, (List.range len).map Q, by simp, by simpa using hl, hm, fun hne => ?_⟩
    have cells : ∀ j u, (((List.range len).map Q).map Value.bool)[j]? = some u → w.cell? (a.add j) = some u := by
      intro j u hu
      rw [List.map_map, List.getElem?_map] at hu
      have hj : j < len := by
        rcases Nat.lt_or_ge j len with z | z
        · exact z
        · rw [List.getElem?_eq_none (by simpa using z)] at hu; cases hu
      rw [List.getElem?_eq_getElem (by simpa using hj)] at hu
      simp only [List.getElem_range, Option.map_some, Function.comp] at hu
      rw [← hu]
      exact hQ j (by omega)
    refine ⟨a, rfl, .inl ?_, cells⟩
    obtain ⟨u, hu⟩ : ∃ u, (((List.range len).map Q).map Value.bool)[0]? = some u := by
      cases hq : ((List.range len).map Q).map Value.bool with
      | nil => exact absurd hq hne
      | cons u _ => exact ⟨u, rfl⟩
    have := World.block_lt_of_cell? _ _ (cells 0 u hu)
    rwa [addr_block] at this
end

section
variable {H : Type} {enc : TypeId × Value → H} {w : World} {base : Nat}

theorem Try.oneBools : Try.prog.cellsOf 30 = 1 := by kernel_rfl

theorem open_bools {v : Value} {d : DataW H} {ps : List MemPlace} (hval : Value.okWide Try.prog w .any base 30 v) (h : DataW.Trod enc Try.prog w 0 (fun _ => true) true 30 v d ps) :
    ∃ (A : Option Addr) (c : Nat) (ks : List Bool), v = .slice A ks.length c ∧ ks.length ≤ c ∧ c ≤ maxLen ∧ Lies w w.heap.size 0 A (ks.map Value.bool) := by
  obtain ⟨a, len, cap, rfl⟩ := okWide_slice Try.underlying30 hval
  obtain ⟨fuel, hf⟩ := h
  exact cells_bools Try.underlying30 Try.underlying4 Try.oneBool hf
end
end Go.Proofs.Ytogobeinckgjmaa
