/- Arguments, opened: the puts and deeds of stage 8. -/
import Derived.Test.YtpnfpeeijghamaaGreatEs
import Derived.Test.YtpnfpeeijghamaaGreatOpt
import Derived.Test.YtpnfpeeijghamaaGreatLaw
namespace Go.Proofs.YtpnfpeeijghamaaGreat
open Go.ChangeShapes Go.WideShapes Go.ChangeAt Go.RowKit Go.Deep
set_option maxRecDepth 100000

theorem str_back (s : ByteArray) : str s.data.toList = s := by
  obtain ⟨d⟩ := s
  simp [str]
instance : Inhabited MPu := ⟨⟨⟨[], [], false⟩, none, 0⟩⟩
section
variable {H : Type} {enc : TypeId × Value → H} {w : World} {base : Nat}
theorem Tryz.threePut : Tryz.prog.cellsOf 33 = 3 := by kernel_rfl
theorem Tryz.oneStr8 : Tryz.prog.cellsOf 9 = 1 := by kernel_rfl
theorem Tryz.oneBool8 : Tryz.prog.cellsOf 4 = 1 := by kernel_rfl

/-- One put, in cells. -/
theorem cells_put8 {fuel : Nat} {cs : List Value} {x : DataW H × List MemPlace} (h : DataW.trod enc Tryz.prog w 0 (fun _ => true) true fuel 33 cs = some x) :
    ∃ m : MPu, cs = m.cells ∧ (m.p.k.length ≤ maxLen ∧ m.p.v.length ≤ maxLen) ∧ m.fine w w.heap.size 0 := by
  obtain ⟨xs, n, _, _, hlen, hxl, hf⟩ := DataW.trod_struct Tryz.underlying33 h
  rw [Tryz.threePut] at hlen
  match cs, hlen with
  | [c0, c1, c2], _ =>
    match xs, hxl with
    | [y0, y1, y2], _ =>
      have h0 : DataW.trod enc Tryz.prog w 0 (fun _ => true) true n 9 (([c0, c1, c2].drop 0).take (Tryz.prog.cellsOf 9)) = some y0 := hf 0 _ rfl
      rw [Tryz.oneStr8] at h0
      have h1 : DataW.trod enc Tryz.prog w 0 (fun _ => true) true n 23 (([c0, c1, c2].drop 1).take (Tryz.prog.cellsOf 23)) = some y1 := hf 1 _ rfl
      rw [Tryz.oneBytes] at h1
      have h2 : DataW.trod enc Tryz.prog w 0 (fun _ => true) true n 4 (([c0, c1, c2].drop 2).take (Tryz.prog.cellsOf 4)) = some y2 := hf 2 _ rfl
      rw [Tryz.oneBool8] at h2
      obtain ⟨sb, e0, _, w0⟩ := DataW.trod_string Tryz.underlying9 (h0 : DataW.trod enc Tryz.prog w 0 (fun _ => true) true n 9 [c0] = some y0)
      obtain ⟨A, c, l, e1, w1, wm, hL⟩ := cells_bytes Tryz.underlying23 Tryz.underlying5 Tryz.oneU8 (h1 : DataW.trod enc Tryz.prog w 0 (fun _ => true) true n 23 [c1] = some y1)
      obtain ⟨g, e2, _⟩ := DataW.trod_bool Tryz.underlying4 (h2 : DataW.trod enc Tryz.prog w 0 (fun _ => true) true n 4 [c2] = some y2)
      have g2 : c2 = _ := List.head_eq_of_cons_eq e2
      have g0 : c0 = .string (str sb.data.toList) := (List.head_eq_of_cons_eq e0).trans (by rw [str_back])
      subst g0; subst e1; subst g2
      exact ⟨⟨⟨sb.data.toList, l, g⟩, A, c⟩, rfl, ⟨by rw [Array.length_toList]; exact w0, Nat.le_trans w1 wm⟩, hL, w1⟩

theorem cells_puts8 {fuel : Nat} {v : Value} {x : DataW H × List MemPlace} (hf : DataW.trod enc Tryz.prog w 0 (fun _ => true) true fuel 22 [v] = some x) :
    ∃ (A : Option Addr) (c : Nat) (ms : List MPu), v = .slice A ms.length c ∧ ms.length ≤ c ∧ c ≤ maxLen ∧ UL w w.heap.size 0 0 A ms ∧ ∀ m ∈ ms, m.p.k.length ≤ maxLen ∧ m.p.v.length ≤ maxLen := by
  rcases open_slice Tryz.underlying22 hf with ⟨hcs, _⟩ | ⟨a, len, cap, m, n, D, Pl, hcs, _, hl, hm, hmm, _, hi⟩
  · simp at hcs
    subst hcs
    exact ⟨none, 0, [], rfl, Nat.le_refl _, Nat.zero_le _, UL.nil, by simp⟩
  · simp at hcs
    subst hcs
    simp only [if_true] at hmm
    subst hmm
    rw [Tryz.threePut] at hi
    have each : ∀ i, i < len → ∃ q : MPu, (∀ j u, q.cells[j]? = some u → w.cell? (a.add (i * 3 + j)) = some u) ∧ (q.p.k.length ≤ maxLen ∧ q.p.v.length ≤ maxLen) ∧ q.fine w w.heap.size 0 := by
      intro i hlt
      obtain ⟨cs', hc, ht⟩ := hi i (by omega)
      obtain ⟨q, rfl, hok, hfine⟩ := cells_put8 ht
      obtain ⟨_, hcl, hat⟩ := World.cells?_some hc
      refine ⟨q, fun j u hu => ?_, hok, hfine⟩
      have hj : j < 3 := by
        rcases Nat.lt_or_ge j q.cells.length with z | z
        · exact z
        · rw [List.getElem?_eq_none z] at hu; cases hu
      have := hat j hj
      rw [addr_add] at this
      rw [this]; exact hu
    obtain ⟨Q, hQ⟩ := choose_lt (α := MPu) (p := fun i q => (∀ j u, q.cells[j]? = some u → w.cell? (a.add (i * 3 + j)) = some u) ∧ (q.p.k.length ≤ maxLen ∧ q.p.v.length ≤ maxLen) ∧ q.fine w w.heap.size 0) each
    refine ⟨some a, m, (List.range len).map Q, by simp, by simpa using hl, hm, ⟨fun hne => ?_, ?_⟩, ?_⟩
    · have cells : ∀ j u, (pcells ((List.range len).map Q))[j]? = some u → w.cell? (a.add j) = some u := by
        intro j u hu
        have hfl := pcells_len ((List.range len).map Q)
        rw [List.length_map, List.length_range] at hfl
        have hj : j < len * 3 := by
          rcases Nat.lt_or_ge j (pcells ((List.range len).map Q)).length with z | z
          · omega
          · rw [List.getElem?_eq_none z] at hu; cases hu
        have hk : j / 3 < len := by omega
        have e : ((List.range len).map Q)[j / 3]? = some (Q (j / 3)) := by simp [hk]
        have f := cel_at (f := MPu.cells) (size := 3) (l := (List.range len).map Q) (fun m _ => m.cells_len) e (j := j % 3) (by omega)
        rw [show j / 3 * 3 + j % 3 = j by omega] at f
        unfold pcells at hu
        rw [f] at hu
        have := (hQ (j / 3) hk).1 (j % 3) u hu
        rwa [show j / 3 * 3 + j % 3 = j by omega] at this
      refine ⟨a, rfl, .inl ?_, cells⟩
      obtain ⟨u, hu⟩ : ∃ u, (pcells ((List.range len).map Q))[0]? = some u := by
        cases hq : pcells ((List.range len).map Q) with
        | nil => exact absurd hq hne
        | cons u _ => exact ⟨u, rfl⟩
      have := World.block_lt_of_cell? _ _ (cells 0 u hu)
      rwa [addr_block] at this
    · intro q hq
      obtain ⟨i, hi2, rfl⟩ := List.mem_map.1 hq
      exact (hQ i (List.mem_range.1 hi2)).2.2
    · intro q hq
      obtain ⟨i, hi2, rfl⟩ := List.mem_map.1 hq
      exact (hQ i (List.mem_range.1 hi2)).2.1
theorem open_puts8 {v : Value} {d : DataW H} {ps : List MemPlace} (hval : Value.okWide Tryz.prog w .any base 22 v) (h : DataW.Trod enc Tryz.prog w 0 (fun _ => true) true 22 v d ps) :
    ∃ (A : Option Addr) (c : Nat) (ms : List MPu), v = .slice A ms.length c ∧ ms.length ≤ c ∧ c ≤ maxLen ∧ UL w w.heap.size 0 0 A ms ∧ ∀ m ∈ ms, m.p.k.length ≤ maxLen ∧ m.p.v.length ≤ maxLen := by
  obtain ⟨a0, len0, cap0, rfl⟩ := okWide_slice Tryz.underlying22 hval
  obtain ⟨fuel, hf⟩ := h
  exact cells_puts8 hf
end

instance : Inhabited MDe := ⟨⟨0, [], none, 0, 0, [], none, 0⟩⟩
section
variable {H : Type} {enc : TypeId × Value → H} {w : World} {base : Nat}

theorem Tryz.fourDeed8 : Tryz.prog.cellsOf 46 = 4 := by kernel_rfl
theorem Tryz.onePuts8 : Tryz.prog.cellsOf 22 = 1 := by kernel_rfl

/-- One deed, in cells. -/
theorem cells_deed8 {fuel : Nat} {cs : List Value} {x : DataW H × List MemPlace} (h : DataW.trod enc Tryz.prog w 0 (fun _ => true) true fuel 46 cs = some x) :
    ∃ m : MDe, cs = m.cells ∧ m.ok ∧ m.fine w w.heap.size := by
  obtain ⟨xs, n, _, _, hlen, hxl, hf⟩ := DataW.trod_struct Tryz.underlying46 h
  rw [Tryz.fourDeed8] at hlen
  match cs, hlen with
  | [c0, c1, c2, c3], _ =>
    match xs, hxl with
    | [y0, y1, y2, y3], _ =>
      have h0 : DataW.trod enc Tryz.prog w 0 (fun _ => true) true n 3 (([c0, c1, c2, c3].drop 0).take (Tryz.prog.cellsOf 3)) = some y0 := hf 0 _ rfl
      rw [Tryz.oneInt] at h0
      have h1 : DataW.trod enc Tryz.prog w 0 (fun _ => true) true n 22 (([c0, c1, c2, c3].drop 1).take (Tryz.prog.cellsOf 22)) = some y1 := hf 1 _ rfl
      rw [Tryz.onePuts8] at h1
      have h2 : DataW.trod enc Tryz.prog w 0 (fun _ => true) true n 3 (([c0, c1, c2, c3].drop 2).take (Tryz.prog.cellsOf 3)) = some y2 := hf 2 _ rfl
      rw [Tryz.oneInt] at h2
      have h3 : DataW.trod enc Tryz.prog w 0 (fun _ => true) true n 38 (([c0, c1, c2, c3].drop 3).take (Tryz.prog.cellsOf 38)) = some y3 := hf 3 _ rfl
      rw [Tryz.oneBools] at h3
      obtain ⟨k, e0, _, w0⟩ := DataW.trod_int Tryz.underlying3 (h0 : DataW.trod enc Tryz.prog w 0 (fun _ => true) true n 3 [c0] = some y0)
      obtain ⟨A, c, L, e1, wc, wm, hL, hb⟩ := cells_puts8 (h1 : DataW.trod enc Tryz.prog w 0 (fun _ => true) true n 22 [c1] = some y1)
      obtain ⟨u, e2, _, w2⟩ := DataW.trod_int Tryz.underlying3 (h2 : DataW.trod enc Tryz.prog w 0 (fun _ => true) true n 3 [c2] = some y2)
      obtain ⟨KA, Kc, ks, e3, w3, k3, hK⟩ := cells_bools Tryz.underlying38 Tryz.underlying4 Tryz.oneBool (h3 : DataW.trod enc Tryz.prog w 0 (fun _ => true) true n 38 [c3] = some y3)
      have g0 : c0 = _ := List.head_eq_of_cons_eq e0
      have g2 : c2 = _ := List.head_eq_of_cons_eq e2
      subst g0; subst e1; subst g2; subst e3
      exact ⟨⟨k, L, A, c, u, ks, KA, Kc⟩, rfl, ⟨wf_i64 w0, wf_i64 w2, Nat.le_trans wc wm, hb, Nat.le_trans w3 k3⟩, hL, hK, w3⟩

theorem open_deeds8 {v : Value} {d : DataW H} {ps : List MemPlace} (hval : Value.okWide Tryz.prog w .any base 37 v) (h : DataW.Trod enc Tryz.prog w 0 (fun _ => true) true 37 v d ps) :
    ∃ (A : Option Addr) (c : Nat) (ms : List MDe), v = .slice A ms.length c ∧ ms.length ≤ c ∧ c ≤ maxLen ∧ DE w w.heap.size A ms ∧ ∀ m ∈ ms, m.ok := by
  obtain ⟨a0, len0, cap0, rfl⟩ := okWide_slice Tryz.underlying37 hval
  obtain ⟨fuel, hf⟩ := h
  rcases open_slice Tryz.underlying37 hf with ⟨hcs, _⟩ | ⟨a, len, cap, m, n, D, Pl, hcs, _, hl, hm, hmm, _, hi⟩
  · simp [Value.cells] at hcs
    obtain ⟨rfl, rfl, rfl⟩ := hcs
    exact ⟨none, 0, [], rfl, Nat.le_refl _, Nat.zero_le _, DE.nil, by simp⟩
  · simp [Value.cells] at hcs
    obtain ⟨rfl, rfl, rfl⟩ := hcs
    simp only [if_true] at hmm
    subst hmm
    rw [Tryz.fourDeed8] at hi
    have each : ∀ i, i < len0 → ∃ q : MDe, (∀ j u, q.cells[j]? = some u → w.cell? (a.add (i * 4 + j)) = some u) ∧ q.ok ∧ q.fine w w.heap.size := by
      intro i hlt
      obtain ⟨cs', hc, ht⟩ := hi i (by omega)
      obtain ⟨q, rfl, hok, hfine⟩ := cells_deed8 ht
      obtain ⟨_, hcl, hat⟩ := World.cells?_some hc
      refine ⟨q, fun j u hu => ?_, hok, hfine⟩
      have hj : j < 4 := by
        rcases Nat.lt_or_ge j q.cells.length with z | z
        · exact z
        · rw [List.getElem?_eq_none z] at hu; cases hu
      have := hat j hj
      rw [addr_add] at this
      rw [this]; exact hu
    obtain ⟨Q, hQ⟩ := choose_lt (α := MDe) (p := fun i q => (∀ j u, q.cells[j]? = some u → w.cell? (a.add (i * 4 + j)) = some u) ∧ q.ok ∧ q.fine w w.heap.size) each
    refine ⟨some a, m, (List.range len0).map Q, by simp, by simpa using hl, hm, ⟨fun hne => ?_, ?_⟩, ?_⟩
    · have cells : ∀ j u, (ecells ((List.range len0).map Q))[j]? = some u → w.cell? (a.add j) = some u := by
        intro j u hu
        have hfl := ecells_len ((List.range len0).map Q)
        rw [List.length_map, List.length_range] at hfl
        have hj : j < len0 * 4 := by
          rcases Nat.lt_or_ge j (ecells ((List.range len0).map Q)).length with z | z
          · omega
          · rw [List.getElem?_eq_none z] at hu; cases hu
        have hk : j / 4 < len0 := by omega
        have e : ((List.range len0).map Q)[j / 4]? = some (Q (j / 4)) := by simp [hk]
        have f := ecells_at e (j := j % 4) (by omega)
        rw [show j / 4 * 4 + j % 4 = j by omega] at f
        rw [f] at hu
        have := (hQ (j / 4) hk).1 (j % 4) u hu
        rwa [show j / 4 * 4 + j % 4 = j by omega] at this
      refine ⟨a, rfl, .inl ?_, cells⟩
      obtain ⟨u, hu⟩ : ∃ u, (ecells ((List.range len0).map Q))[0]? = some u := by
        cases hq : ecells ((List.range len0).map Q) with
        | nil => exact absurd hq hne
        | cons u _ => exact ⟨u, rfl⟩
      have := World.block_lt_of_cell? _ _ (cells 0 u hu)
      rwa [addr_block] at this
    · intro q hq
      obtain ⟨i, hi2, rfl⟩ := List.mem_map.1 hq
      exact (hQ i (List.mem_range.1 hi2)).2.2
    · intro q hq
      obtain ⟨i, hi2, rfl⟩ := List.mem_map.1 hq
      exact (hQ i (List.mem_range.1 hi2)).2.1
end
end Go.Proofs.YtpnfpeeijghamaaGreat
