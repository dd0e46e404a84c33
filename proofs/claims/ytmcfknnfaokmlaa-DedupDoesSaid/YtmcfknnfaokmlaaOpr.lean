/- Rows of things of many cells, opened. -/
import Derived.Test.YtmcfknnfaokmlaaLaw
import Derived.Test.YtmcfknnfaokmlaaMm
import Derived.Lib.SmallJoins
namespace Go.Proofs.Ytmcfknnfaokmlaa
open Go.ChangeShapes Go.WideShapes Go.ChangeAt Go.RowKit Go.Deep
set_option maxRecDepth 100000
variable {w : World}
/-- Rows of things of many cells. -/
theorem open_rows9 {α : Type} [Inhabited α] {E : α → List Value} {k : Nat} (hk : 0 < k) (hE : ∀ x, (E x).length = k) {p : α → Prop} {a : Addr} {len : Nat} (each : ∀ i, i < len → ∃ q : α, (∀ j u, (E q)[j]? = some u → w.cell? (a.add (i * k + j)) = some u) ∧ p q) :
    ∃ qs : List α, qs.length = len ∧ Lies w w.heap.size 0 (some a) (qs.flatMap E) ∧ ∀ q ∈ qs, p q := by
  obtain ⟨Q, hQ⟩ := choose_lt (α := α) (p := fun i q => (∀ j u, (E q)[j]? = some u → w.cell? (a.add (i * k + j)) = some u) ∧ p q) each
  refine ⟨(List.range len).map Q, by simp, fun hne => ?_, ?_⟩
  · have cells : ∀ j u, (((List.range len).map Q).flatMap E)[j]? = some u → w.cell? (a.add j) = some u := by
      intro j u hu
      have hfl : (((List.range len).map Q).flatMap E).length = ((List.range len).map Q).length * k := cel_len fun x _ => hE x
      rw [List.length_map, List.length_range] at hfl
      have hj : j < len * k := by
        rcases Nat.lt_or_ge j (((List.range len).map Q).flatMap E).length with z | z
        · omega
        · rw [List.getElem?_eq_none z] at hu; cases hu
      have hd : j / k < len := (Nat.div_lt_iff_lt_mul hk).2 hj
      have hm : j % k < k := Nat.mod_lt _ hk
      have hjk : j / k * k + j % k = j := by rw [Nat.mul_comm]; exact Nat.div_add_mod j k
      have e : ((List.range len).map Q)[j / k]? = some (Q (j / k)) := by simp [hd]
      have f := cel_at (f := E) (size := k) (l := (List.range len).map Q) (fun x _ => hE x) e (j := j % k) hm
      rw [hjk] at f
      rw [f] at hu
      have := (hQ (j / k) hd).1 (j % k) u hu
      rwa [hjk] at this
    refine ⟨a, rfl, .inl ?_, cells⟩
    obtain ⟨u, hu⟩ : ∃ u, (((List.range len).map Q).flatMap E)[0]? = some u := by
      cases hq : ((List.range len).map Q).flatMap E with
      | nil => exact absurd hq hne
      | cons u _ => exact ⟨u, rfl⟩
    have := World.block_lt_of_cell? _ _ (cells 0 u hu)
    rwa [addr_block] at this
  · intro q hq
    obtain ⟨i, hi2, rfl⟩ := List.mem_map.1 hq
    exact (hQ i (List.mem_range.1 hi2)).2
end Go.Proofs.Ytmcfknnfaokmlaa
