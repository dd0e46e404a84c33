/- Arguments, opened: flags, deeds. -/
import Derived.Test.YtogobeinckgjmaaDd
import Derived.Test.YtogobeinckgjmaaOpl
namespace Go.Proofs.Ytogobeinckgjmaa
open Go.ChangeShapes Go.WideShapes Go.ChangeAt Go.RowKit Go.Deep

instance : Inhabited MDd := ⟨⟨⟨0, 0, [], 0, []⟩, none, 0, none, 0⟩⟩
section
variable {H : Type} {enc : TypeId × Value → H} {P : Program} {w : World} {base : Nat} {sp : Nat → Bool} {held : Bool}

end

section
variable {H : Type} {enc : TypeId × Value → H} {w : World} {base : Nat} {sp : Nat → Bool} {held : Bool}

theorem Try.fiveDeed : Try.prog.cellsOf 32 = 5 := by kernel_rfl

/-- One deed, in cells. -/
theorem cells_deed {fuel : Nat} {cs : List Value} {x : DataW H × List MemPlace} (h : DataW.trod enc Try.prog w base sp held fuel 32 cs = some x) :
    ∃ m : MDd, cs = m.cells ∧ m.x.ok ∧ m.fine w w.heap.size := by
  obtain ⟨xs, n, _, _, hlen, hxl, hf⟩ := DataW.trod_struct Try.underlying32 h
  rw [Try.fiveDeed] at hlen
  match cs, hlen with
  | [c0, c1, c2, c3, c4], _ =>
    match xs, hxl with
    | [y0, y1, y2, y3, y4], _ =>
      have h0 : DataW.trod enc Try.prog w base sp held n 3 (([c0, c1, c2, c3, c4].drop 0).take (Try.prog.cellsOf 3)) = some y0 := hf 0 _ rfl
      rw [Try.oneInt] at h0
      have h1 : DataW.trod enc Try.prog w base sp held n 3 (([c0, c1, c2, c3, c4].drop 1).take (Try.prog.cellsOf 3)) = some y1 := hf 1 _ rfl
      rw [Try.oneInt] at h1
      have h2 : DataW.trod enc Try.prog w base sp held n 29 (([c0, c1, c2, c3, c4].drop 2).take (Try.prog.cellsOf 29)) = some y2 := hf 2 _ rfl
      rw [Try.oneBytes] at h2
      have h3 : DataW.trod enc Try.prog w base sp held n 3 (([c0, c1, c2, c3, c4].drop 3).take (Try.prog.cellsOf 3)) = some y3 := hf 3 _ rfl
      rw [Try.oneInt] at h3
      have h4 : DataW.trod enc Try.prog w base sp held n 30 (([c0, c1, c2, c3, c4].drop 4).take (Try.prog.cellsOf 30)) = some y4 := hf 4 _ rfl
      rw [Try.oneBools] at h4
      obtain ⟨k, e0, _, w0⟩ := DataW.trod_int Try.underlying3 (h0 : DataW.trod enc Try.prog w base sp held n 3 [c0] = some y0)
      obtain ⟨at_, e1, _, w1⟩ := DataW.trod_int Try.underlying3 (h1 : DataW.trod enc Try.prog w base sp held n 3 [c1] = some y1)
      obtain ⟨A, c, l, e2, w2, _, hL⟩ := cells_bytes Try.underlying29 Try.underlying5 Try.oneU8 (h2 : DataW.trod enc Try.prog w base sp held n 29 [c2] = some y2)
      obtain ⟨u, e3, _, w3⟩ := DataW.trod_int Try.underlying3 (h3 : DataW.trod enc Try.prog w base sp held n 3 [c3] = some y3)
      obtain ⟨KA, Kc, ks, e4, w4, _, hK⟩ := cells_bools Try.underlying30 Try.underlying4 Try.oneBool (h4 : DataW.trod enc Try.prog w base sp held n 30 [c4] = some y4)
      have g0 : c0 = _ := List.head_eq_of_cons_eq e0
      have g1 : c1 = _ := List.head_eq_of_cons_eq e1
      have g3 : c3 = _ := List.head_eq_of_cons_eq e3
      subst g0; subst g1; subst e2; subst g3; subst e4
      exact ⟨⟨⟨k, at_, l, u, ks⟩, A, c, KA, Kc⟩, rfl, ⟨wf_i64 w0, wf_i64 w1, wf_i64 w3⟩, ⟨hL, w2⟩, hK, w4⟩

theorem open_deeds {v : Value} {d : DataW H} {ps : List MemPlace} (hval : Value.okWide Try.prog w .any base 22 v) (h : DataW.Trod enc Try.prog w 0 (fun _ => true) true 22 v d ps) :
    ∃ (A : Option Addr) (c : Nat) (ms : List MDd), v = .slice A ms.length c ∧ ms.length ≤ c ∧ c ≤ maxLen ∧ DL w w.heap.size A ms ∧ ∀ m ∈ ms, m.x.ok := by
  obtain ⟨a0, len0, cap0, rfl⟩ := okWide_slice Try.underlying22 hval
  obtain ⟨fuel, hf⟩ := h
  rcases open_slice Try.underlying22 hf with ⟨hcs, _⟩ | ⟨a, len, cap, m, n, D, Pl, hcs, _, hl, hm, hmm, _, hi⟩
  · simp [Value.cells] at hcs
    obtain ⟨rfl, rfl, rfl⟩ := hcs
    exact ⟨none, 0, [], rfl, Nat.le_refl _, Nat.zero_le _, DL.nil, by simp⟩
  · simp [Value.cells] at hcs
    obtain ⟨rfl, rfl, rfl⟩ := hcs
    simp only [if_true] at hmm
    subst hmm
    rw [Try.fiveDeed] at hi
    have each : ∀ i, i < len0 → ∃ q : MDd, (∀ j u, q.cells[j]? = some u → w.cell? (a.add (i * 5 + j)) = some u) ∧ q.x.ok ∧ q.fine w w.heap.size := by
      intro i hlt
      obtain ⟨cs', hc, ht⟩ := hi i (by omega)
      obtain ⟨q, rfl, hok, hfine⟩ := cells_deed ht
      obtain ⟨_, hcl, hat⟩ := World.cells?_some hc
      refine ⟨q, fun j u hu => ?_, hok, hfine⟩
      have hj : j < 5 := by
        rcases Nat.lt_or_ge j q.cells.length with z | z
        · exact z
        · rw [List.getElem?_eq_none z] at hu; cases hu
      have := hat j hj
      rw [addr_add] at this
      rw [this]; exact hu
    obtain ⟨Q, hQ⟩ := choose_lt (α := MDd) (p := fun i q => (∀ j u, q.cells[j]? = some u → w.cell? (a.add (i * 5 + j)) = some u) ∧ q.x.ok ∧ q.fine w w.heap.size) each
    refine ⟨some a, m, (List.range len0).map Q, by simp, by simpa using hl, hm, ⟨fun hne => ?_, ?_⟩, ?_⟩
    · have cells : ∀ j u, (dcells ((List.range len0).map Q))[j]? = some u → w.cell? (a.add j) = some u := by
        intro j u hu
        have hfl := dcells_len ((List.range len0).map Q)
        rw [List.length_map, List.length_range] at hfl
        have hj : j < len0 * 5 := by
          rcases Nat.lt_or_ge j (dcells ((List.range len0).map Q)).length with z | z
          · omega
          · rw [List.getElem?_eq_none z] at hu; cases hu
        have hk : j / 5 < len0 := by omega
        have e : ((List.range len0).map Q)[j / 5]? = some (Q (j / 5)) := by simp [hk]
        have f := dcells_at e (j := j % 5) (by omega)
        rw [show j / 5 * 5 + j % 5 = j by omega] at f
        rw [f] at hu
        have := (hQ (j / 5) hk).1 (j % 5) u hu
        rwa [show j / 5 * 5 + j % 5 = j by omega] at this
      refine ⟨a, rfl, .inl ?_, cells⟩
      obtain ⟨u, hu⟩ : ∃ u, (dcells ((List.range len0).map Q))[0]? = some u := by
        cases hq : dcells ((List.range len0).map Q) with
        | nil => exact absurd hq hne
        | cons u _ => exact ⟨u, rfl⟩
      have := World.block_lt_of_cell? _ _ (cells 0 u hu)
      rwa [addr_block] at this
    · intro q hq
      obtain ⟨i, hi2, rfl⟩ := List.mem_map.1 hq
      exact (hQ i (List.mem_range.1 hi2)).2.2
    · intro q hq
      obtain ⟨i, hi2, rfl⟩ := List.mem_map.1 hq
      exact (hQ i (List.mem_range.1 hi2)).2.1
end
end Go.Proofs.Ytogobeinckgjmaa
