/- Arguments, opened: the deeds of stage 7. -/
import Derived.Test.YtbfkjneidabijaaGreatVt
import Derived.Test.YtbfkjneidabijaaGreatOpt
import Derived.Test.YtbfkjneidabijaaGreatLaw
namespace Go.Proofs.YtbfkjneidabijaaGreat
open Go.ChangeShapes Go.WideShapes Go.ChangeAt Go.RowKit Go.Deep
set_option maxRecDepth 100000

theorem cells_texts7 {H : Type} {enc : TypeId × Value → H} {w : World} {fuel : Nat} {v : Value} {x : DataW H × List MemPlace} (hf : DataW.trod enc Tryz.prog w 0 (fun _ => true) true fuel 32 [v] = some x) :
    ∃ (A : Option Addr) (c : Nat) (ms : List MTx), v = .slice A ms.length c ∧ ms.length ≤ c ∧ c ≤ maxLen ∧ TL w w.heap.size 0 0 A ms ∧ ∀ m ∈ ms, m.b.length ≤ maxLen := by
  rcases open_slice Tryz.underlying32 hf with ⟨hcs, _⟩ | ⟨a, len, cap, m, n, D, Pl, hcs, _, hl, hm, hmm, _, hi⟩
  · simp at hcs
    subst hcs
    exact ⟨none, 0, [], rfl, Nat.le_refl _, Nat.zero_le _, TL.nil, by simp⟩
  · simp at hcs
    subst hcs
    simp only [if_true] at hmm
    subst hmm
    rw [Tryz.oneBytes] at hi
    have each : ∀ i, i < len → ∃ q : MTx, w.cell? (a.add i) = some q.cell ∧ q.fine w w.heap.size 0 ∧ q.b.length ≤ maxLen := by
      intro i hlt
      obtain ⟨cs', hc, ht⟩ := hi i (by omega)
      obtain ⟨hsz, hcl, hat⟩ := World.cells?_some hc
      match cs', hsz, ht with
      | [u], _, ht =>
        obtain ⟨A, c, l, e1, h1, h2, hL⟩ := cells_bytes Tryz.underlying57 Tryz.underlying5 Tryz.oneU8 ht
        subst e1
        have q := hat 0 (by omega)
        rw [addr_add, Nat.mul_one, Nat.add_zero] at q
        exact ⟨⟨l, A, c⟩, q, ⟨hL, h1⟩, by show l.length ≤ maxLen; omega⟩
    obtain ⟨Q, hQ⟩ := choose_lt (α := MTx) (p := fun i q => w.cell? (a.add i) = some q.cell ∧ q.fine w w.heap.size 0 ∧ q.b.length ≤ maxLen) each
    refine ⟨some a, m, (List.range len).map Q, by simp, by simpa using hl, hm, ⟨fun hne => ?_, ?_⟩, ?_⟩
    · have cells : ∀ j u, (tcells ((List.range len).map Q))[j]? = some u → w.cell? (a.add j) = some u := by
        intro j u hu
        unfold tcells at hu
        rw [List.map_map, List.getElem?_map] at hu
        have hj : j < len := by
          rcases Nat.lt_or_ge j len with z | z
          · exact z
          · rw [List.getElem?_eq_none (by simpa using z)] at hu; cases hu
        rw [List.getElem?_eq_getElem (by simpa using hj)] at hu
        simp only [List.getElem_range, Option.map_some, Function.comp] at hu
        rw [← hu]
        exact (hQ j hj).1
      refine ⟨a, rfl, .inl ?_, cells⟩
      obtain ⟨u, hu⟩ : ∃ u, (tcells ((List.range len).map Q))[0]? = some u := by
        cases hq : tcells ((List.range len).map Q) with
        | nil => exact absurd hq hne
        | cons u _ => exact ⟨u, rfl⟩
      have := World.block_lt_of_cell? _ _ (cells 0 u hu)
      rwa [addr_block] at this
    · intro q hq
      obtain ⟨i, hi2, rfl⟩ := List.mem_map.1 hq
      exact (hQ i (List.mem_range.1 hi2)).2.1
    · intro q hq
      obtain ⟨i, hi2, rfl⟩ := List.mem_map.1 hq
      exact (hQ i (List.mem_range.1 hi2)).2.2

instance : Inhabited MDw := ⟨⟨0, [], none, 0, 0, [], none, 0⟩⟩
section
variable {H : Type} {enc : TypeId × Value → H} {w : World} {base : Nat}

theorem Tryz.fourDeed7 : Tryz.prog.cellsOf 40 = 4 := by kernel_rfl
theorem Tryz.oneTexts7 : Tryz.prog.cellsOf 32 = 1 := by kernel_rfl

/-- One deed, in cells. -/
theorem cells_deed7 {fuel : Nat} {cs : List Value} {x : DataW H × List MemPlace} (h : DataW.trod enc Tryz.prog w 0 (fun _ => true) true fuel 40 cs = some x) :
    ∃ m : MDw, cs = m.cells ∧ m.ok ∧ m.fine w w.heap.size := by
  obtain ⟨xs, n, _, _, hlen, hxl, hf⟩ := DataW.trod_struct Tryz.underlying40 h
  rw [Tryz.fourDeed7] at hlen
  match cs, hlen with
  | [c0, c1, c2, c3], _ =>
    match xs, hxl with
    | [y0, y1, y2, y3], _ =>
      have h0 : DataW.trod enc Tryz.prog w 0 (fun _ => true) true n 3 (([c0, c1, c2, c3].drop 0).take (Tryz.prog.cellsOf 3)) = some y0 := hf 0 _ rfl
      rw [Tryz.oneInt] at h0
      have h1 : DataW.trod enc Tryz.prog w 0 (fun _ => true) true n 32 (([c0, c1, c2, c3].drop 1).take (Tryz.prog.cellsOf 32)) = some y1 := hf 1 _ rfl
      rw [Tryz.oneTexts7] at h1
      have h2 : DataW.trod enc Tryz.prog w 0 (fun _ => true) true n 3 (([c0, c1, c2, c3].drop 2).take (Tryz.prog.cellsOf 3)) = some y2 := hf 2 _ rfl
      rw [Tryz.oneInt] at h2
      have h3 : DataW.trod enc Tryz.prog w 0 (fun _ => true) true n 38 (([c0, c1, c2, c3].drop 3).take (Tryz.prog.cellsOf 38)) = some y3 := hf 3 _ rfl
      rw [Tryz.oneBools] at h3
      obtain ⟨k, e0, _, w0⟩ := DataW.trod_int Tryz.underlying3 (h0 : DataW.trod enc Tryz.prog w 0 (fun _ => true) true n 3 [c0] = some y0)
      obtain ⟨A, c, L, e1, wc, wm, hL, hb⟩ := cells_texts7 (h1 : DataW.trod enc Tryz.prog w 0 (fun _ => true) true n 32 [c1] = some y1)
      obtain ⟨u, e2, _, w2⟩ := DataW.trod_int Tryz.underlying3 (h2 : DataW.trod enc Tryz.prog w 0 (fun _ => true) true n 3 [c2] = some y2)
      obtain ⟨KA, Kc, ks, e3, w3, k3, hK⟩ := cells_bools Tryz.underlying38 Tryz.underlying4 Tryz.oneBool (h3 : DataW.trod enc Tryz.prog w 0 (fun _ => true) true n 38 [c3] = some y3)
      have g0 : c0 = _ := List.head_eq_of_cons_eq e0
      have g2 : c2 = _ := List.head_eq_of_cons_eq e2
      subst g0; subst e1; subst g2; subst e3
      exact ⟨⟨k, L, A, c, u, ks, KA, Kc⟩, rfl, ⟨wf_i64 w0, wf_i64 w2, Nat.le_trans wc wm, hb, Nat.le_trans w3 k3⟩, hL, hK, w3⟩

theorem open_deeds7 {v : Value} {d : DataW H} {ps : List MemPlace} (hval : Value.okWide Tryz.prog w .any base 22 v) (h : DataW.Trod enc Tryz.prog w 0 (fun _ => true) true 22 v d ps) :
    ∃ (A : Option Addr) (c : Nat) (ms : List MDw), v = .slice A ms.length c ∧ ms.length ≤ c ∧ c ≤ maxLen ∧ DW w w.heap.size A ms ∧ ∀ m ∈ ms, m.ok := by
  obtain ⟨a0, len0, cap0, rfl⟩ := okWide_slice Tryz.underlying22 hval
  obtain ⟨fuel, hf⟩ := h
  rcases open_slice Tryz.underlying22 hf with ⟨hcs, _⟩ | ⟨a, len, cap, m, n, D, Pl, hcs, _, hl, hm, hmm, _, hi⟩
  · simp [Value.cells] at hcs
    obtain ⟨rfl, rfl, rfl⟩ := hcs
    exact ⟨none, 0, [], rfl, Nat.le_refl _, Nat.zero_le _, DW.nil, by simp⟩
  · simp [Value.cells] at hcs
    obtain ⟨rfl, rfl, rfl⟩ := hcs
    simp only [if_true] at hmm
    subst hmm
    rw [Tryz.fourDeed7] at hi
    have each : ∀ i, i < len0 → ∃ q : MDw, (∀ j u, q.cells[j]? = some u → w.cell? (a.add (i * 4 + j)) = some u) ∧ q.ok ∧ q.fine w w.heap.size := by
      intro i hlt
      obtain ⟨cs', hc, ht⟩ := hi i (by omega)
      obtain ⟨q, rfl, hok, hfine⟩ := cells_deed7 ht
      obtain ⟨_, hcl, hat⟩ := World.cells?_some hc
      refine ⟨q, fun j u hu => ?_, hok, hfine⟩
      have hj : j < 4 := by
        rcases Nat.lt_or_ge j q.cells.length with z | z
        · exact z
        · rw [List.getElem?_eq_none z] at hu; cases hu
      have := hat j hj
      rw [addr_add] at this
      rw [this]; exact hu
    obtain ⟨Q, hQ⟩ := choose_lt (α := MDw) (p := fun i q => (∀ j u, q.cells[j]? = some u → w.cell? (a.add (i * 4 + j)) = some u) ∧ q.ok ∧ q.fine w w.heap.size) each
    refine ⟨some a, m, (List.range len0).map Q, by simp, by simpa using hl, hm, ⟨fun hne => ?_, ?_⟩, ?_⟩
    · have cells : ∀ j u, (wcells7 ((List.range len0).map Q))[j]? = some u → w.cell? (a.add j) = some u := by
        intro j u hu
        have hfl := wcells7_len ((List.range len0).map Q)
        rw [List.length_map, List.length_range] at hfl
        have hj : j < len0 * 4 := by
          rcases Nat.lt_or_ge j (wcells7 ((List.range len0).map Q)).length with z | z
          · omega
          · rw [List.getElem?_eq_none z] at hu; cases hu
        have hk : j / 4 < len0 := by omega
        have e : ((List.range len0).map Q)[j / 4]? = some (Q (j / 4)) := by simp [hk]
        have f := wcells7_at e (j := j % 4) (by omega)
        rw [show j / 4 * 4 + j % 4 = j by omega] at f
        rw [f] at hu
        have := (hQ (j / 4) hk).1 (j % 4) u hu
        rwa [show j / 4 * 4 + j % 4 = j by omega] at this
      refine ⟨a, rfl, .inl ?_, cells⟩
      obtain ⟨u, hu⟩ : ∃ u, (wcells7 ((List.range len0).map Q))[0]? = some u := by
        cases hq : wcells7 ((List.range len0).map Q) with
        | nil => exact absurd hq hne
        | cons u _ => exact ⟨u, rfl⟩
      have := World.block_lt_of_cell? _ _ (cells 0 u hu)
      rwa [addr_block] at this
    · intro q hq
      obtain ⟨i, hi2, rfl⟩ := List.mem_map.1 hq
      exact (hQ i (List.mem_range.1 hi2)).2.2
    · intro q hq
      obtain ⟨i, hi2, rfl⟩ := List.mem_map.1 hq
      exact (hQ i (List.mem_range.1 hi2)).2.1
end
end Go.Proofs.YtbfkjneidabijaaGreat
