/- Arguments, opened: lists of texts. -/
import Derived.Test.YtpnfpeeijghamaaGreatBy
import Derived.Test.YtpnfpeeijghamaaGreatLaw
namespace Go.Proofs.YtpnfpeeijghamaaGreat
open Go.ChangeShapes Go.WideShapes Go.ChangeAt Go.RowKit Go.Deep
set_option maxRecDepth 100000

instance : Inhabited MTx := ⟨⟨[], none, 0⟩⟩

theorem open_texts {H : Type} {enc : TypeId × Value → H} {w : World} {base : Nat} {v : Value} {d : DataW H} {ps : List MemPlace} (hval : Value.okWide Tryz.prog w .any base 83 v) (h : DataW.Trod enc Tryz.prog w 0 (fun _ => true) true 83 v d ps) :
    ∃ (A : Option Addr) (c : Nat) (ms : List MTx), v = .slice A ms.length c ∧ ms.length ≤ c ∧ c ≤ maxLen ∧ TL w w.heap.size 0 0 A ms ∧ ∀ m ∈ ms, m.b.length ≤ maxLen := by
  obtain ⟨a0, len0, cap0, rfl⟩ := okWide_slice Tryz.underlying83 hval
  obtain ⟨fuel, hf⟩ := h
  rcases open_slice Tryz.underlying83 hf with ⟨hcs, _⟩ | ⟨a, len, cap, m, n, D, Pl, hcs, _, hl, hm, hmm, _, hi⟩
  · simp [Value.cells] at hcs
    obtain ⟨rfl, rfl, rfl⟩ := hcs
    exact ⟨none, 0, [], rfl, Nat.le_refl _, Nat.zero_le _, TL.nil, by simp⟩
  · simp [Value.cells] at hcs
    obtain ⟨rfl, rfl, rfl⟩ := hcs
    simp only [if_true] at hmm
    subst hmm
    rw [Tryz.oneBytes] at hi
    have each : ∀ i, i < len0 → ∃ q : MTx, w.cell? (a.add i) = some q.cell ∧ q.fine w w.heap.size 0 ∧ q.b.length ≤ maxLen := by
      intro i hlt
      obtain ⟨cs', hc, ht⟩ := hi i (by omega)
      obtain ⟨hsz, hcl, hat⟩ := World.cells?_some hc
      match cs', hsz, ht with
      | [u], _, ht =>
        obtain ⟨A, c, l, e1, h1, h2, hL⟩ := cells_bytes Tryz.underlying23 Tryz.underlying5 Tryz.oneU8 ht
        subst e1
        have q := hat 0 (by omega)
        rw [addr_add, Nat.mul_one, Nat.add_zero] at q
        exact ⟨⟨l, A, c⟩, q, ⟨hL, h1⟩, by show l.length ≤ maxLen; omega⟩
    obtain ⟨Q, hQ⟩ := choose_lt (α := MTx) (p := fun i q => w.cell? (a.add i) = some q.cell ∧ q.fine w w.heap.size 0 ∧ q.b.length ≤ maxLen) each
    refine ⟨some a, m, (List.range len0).map Q, by simp, by simpa using hl, hm, ⟨fun hne => ?_, ?_⟩, ?_⟩
    · have cells : ∀ j u, (tcells ((List.range len0).map Q))[j]? = some u → w.cell? (a.add j) = some u := by
        intro j u hu
        unfold tcells at hu
        rw [List.map_map, List.getElem?_map] at hu
        have hj : j < len0 := by
          rcases Nat.lt_or_ge j len0 with z | z
          · exact z
          · rw [List.getElem?_eq_none (by simpa using z)] at hu; cases hu
        rw [List.getElem?_eq_getElem (by simpa using hj)] at hu
        simp only [List.getElem_range, Option.map_some, Function.comp] at hu
        rw [← hu]
        exact (hQ j hj).1
      refine ⟨a, rfl, .inl ?_, cells⟩
      obtain ⟨u, hu⟩ : ∃ u, (tcells ((List.range len0).map Q))[0]? = some u := by
        cases hq : tcells ((List.range len0).map Q) with
        | nil => exact absurd hq hne
        | cons u _ => exact ⟨u, rfl⟩
      have := World.block_lt_of_cell? _ _ (cells 0 u hu)
      rwa [addr_block] at this
    · intro q hq
      obtain ⟨i, hi2, rfl⟩ := List.mem_map.1 hq
      exact (hQ i (List.mem_range.1 hi2)).2.1
    · intro q hq
      obtain ⟨i, hi2, rfl⟩ := List.mem_map.1 hq
      exact (hQ i (List.mem_range.1 hi2)).2.2
end Go.Proofs.YtpnfpeeijghamaaGreat
