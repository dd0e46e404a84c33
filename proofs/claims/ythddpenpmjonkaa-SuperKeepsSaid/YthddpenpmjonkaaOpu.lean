/- Lists of lists of numbers in memory. Arguments, opened: numbers of 64 bits, lists of lists of them. -/
import Derived.Test.YthddpenpmjonkaaSm
import Derived.Test.YthddpenpmjonkaaLaw
namespace Go.Proofs.Ythddpenpmjonkaa
open Go.RowKit
set_option maxRecDepth 100000

/-- A list of numbers, and where it lies. -/
structure MNs where
  ns : List Nat
  A : Option Addr
  c : Nat
def MNs.cell (m : MNs) : Value := .slice m.A m.ns.length m.c
def nlcells (ms : List MNs) : List Value := ms.map MNs.cell
def MNs.fine (m : MNs) (w : World) (B : Nat) : Prop := Lies w B 0 m.A (ncells m.ns) ∧ m.ns.length ≤ m.c ∧ ∀ x ∈ m.ns, U64 x
def NL (w : World) (B : Nat) (A : Option Addr) (ms : List MNs) : Prop := Lies w B 0 A (nlcells ms) ∧ ∀ m ∈ ms, m.fine w B
theorem nlcells_len (ms : List MNs) : (nlcells ms).length = ms.length := by simp [nlcells]
theorem NL.below {w w' : World} {B : Nat} {A : Option Addr} {ms : List MNs} (h : NL w B A ms) (hB : B ≤ w.heap.size) (hT : Below w.heap.size w w') : NL w' B A ms := ⟨h.1.below hB hT, fun m hm => ⟨(h.2 m hm).1.below hB hT, (h.2 m hm).2⟩⟩
theorem NL.at_ {w : World} {B : Nat} {A : Option Addr} {ms : List MNs} (h : NL w B A ms) {k : Nat} (hk : k < ms.length) : ∃ ad m, A = some ad ∧ ms[k]? = some m ∧ m.fine w B ∧ w.cell? (ad.add k) = some (.slice m.A m.ns.length m.c) := by
  have hx : ms[k]? = some ms[k] := List.getElem?_eq_getElem hk
  obtain ⟨ad, e, hc⟩ := h.1.at_ (k := k) (by rw [nlcells_len]; exact hk)
  refine ⟨ad, ms[k], e, hx, h.2 _ (List.getElem_mem hk), ?_⟩
  rw [hc]
  simp [nlcells, MNs.cell]

open Go.ChangeShapes Go.WideShapes Go.ChangeAt Go.RowKit Go.Deep

instance : Inhabited MNs := ⟨⟨[], none, 0⟩⟩

theorem Try.oneU64s : Try.prog.cellsOf 23 = 1 := by kernel_rfl

section
variable {H : Type} {enc : TypeId × Value → H} {w : World} {base : Nat}
variable {sp : Nat → Bool} {held : Bool}
theorem cells_u64s {B : Nat} {fuel : Nat} {v : Value} {x : DataW H × List MemPlace}
    (h : DataW.trod enc Try.prog w B sp held fuel 23 [v] = some x) : ∃ (A : Option Addr) (c : Nat) (l : List Nat), v = .slice A l.length c ∧ l.length ≤ c ∧ c ≤ maxLen ∧ Lies w w.heap.size 0 A (ncells l) ∧ ∀ x ∈ l, U64 x := by
  obtain ⟨A, c, ns, hv, h1, h2, hwf, hL⟩ := cells_ints Try.underlying23 Try.underlying22 Try.oneU64 h
  have hb : ∀ n ∈ ns, 0 ≤ n ∧ n < 18446744073709551616 := fun n hn => wf_u64 (hwf n hn)
  rw [ncells_nats (fun n hn => (hb n hn).1)] at hL
  refine ⟨A, c, ns.map Int.toNat, by rw [List.length_map]; exact hv, by rw [List.length_map]; exact h1, h2, hL, fun x hx => ?_⟩
  obtain ⟨n, hn, rfl⟩ := List.mem_map.1 hx
  have := hb n hn
  exact U64.of (by omega)
theorem open_u64s {v : Value} {d : DataW H} {ps : List MemPlace} (hval : Value.okWide Try.prog w .any base 23 v) (h : DataW.Trod enc Try.prog w 0 (fun _ => true) true 23 v d ps) :
    ∃ (A : Option Addr) (c : Nat) (l : List Nat), v = .slice A l.length c ∧ l.length ≤ c ∧ c ≤ maxLen ∧ Lies w w.heap.size 0 A (ncells l) ∧ ∀ x ∈ l, U64 x := by
  obtain ⟨a, len, cap, rfl⟩ := okWide_slice Try.underlying23 hval
  obtain ⟨fuel, hf⟩ := h
  exact cells_u64s hf
end

theorem open_u64lists {H : Type} {enc : TypeId × Value → H} {w : World} {base : Nat} {v : Value} {d : DataW H} {ps : List MemPlace} (hval : Value.okWide Try.prog w .any base 48 v) (h : DataW.Trod enc Try.prog w 0 (fun _ => true) true 48 v d ps) :
    ∃ (A : Option Addr) (c : Nat) (ms : List MNs), v = .slice A ms.length c ∧ ms.length ≤ c ∧ c ≤ maxLen ∧ NL w w.heap.size A ms ∧ ∀ m ∈ ms, m.ns.length ≤ maxLen := by
  obtain ⟨a0, len0, cap0, rfl⟩ := okWide_slice Try.underlying48 hval
  obtain ⟨fuel, hf⟩ := h
  rcases open_slice Try.underlying48 hf with ⟨hcs, _⟩ | ⟨a, len, cap, m, n, D, Pl, hcs, _, hl, hm, hmm, _, hi⟩
  · simp [Value.cells] at hcs
    obtain ⟨rfl, rfl, rfl⟩ := hcs
    exact ⟨none, 0, [], rfl, Nat.le_refl _, Nat.zero_le _, ⟨Lies.nil, by simp⟩, by simp⟩
  · simp [Value.cells] at hcs
    obtain ⟨rfl, rfl, rfl⟩ := hcs
    simp only [if_true] at hmm
    subst hmm
    rw [Try.oneU64s] at hi
    have each : ∀ i, i < len0 → ∃ q : MNs, w.cell? (a.add i) = some q.cell ∧ q.fine w w.heap.size ∧ q.ns.length ≤ maxLen := by
      intro i hlt
      obtain ⟨cs', hc, ht⟩ := hi i (by omega)
      obtain ⟨hsz, hcl, hat⟩ := World.cells?_some hc
      match cs', hsz, ht with
      | [u], _, ht =>
        obtain ⟨A, c, l, e1, h1, h2, hL, hU⟩ := cells_u64s ht
        subst e1
        have q := hat 0 (by omega)
        rw [addr_add, Nat.mul_one, Nat.add_zero] at q
        exact ⟨⟨l, A, c⟩, q, ⟨hL, h1, hU⟩, by show l.length ≤ maxLen; omega⟩
    obtain ⟨Q, hQ⟩ := choose_lt (α := MNs) (p := fun i q => w.cell? (a.add i) = some q.cell ∧ q.fine w w.heap.size ∧ q.ns.length ≤ maxLen) each
    refine ⟨some a, m, (List.range len0).map Q, by simp, by simpa using hl, hm, ⟨fun hne => ?_, ?_⟩, ?_⟩
    · have cells : ∀ j u, (nlcells ((List.range len0).map Q))[j]? = some u → w.cell? (a.add j) = some u := by
        intro j u hu
        unfold nlcells at hu
        rw [List.map_map, List.getElem?_map] at hu
        have hj : j < len0 := by
          rcases Nat.lt_or_ge j len0 with z | z
          · exact z
          · rw [List.getElem?_eq_none (by simpa using z)] at hu; cases hu
        rw [List.getElem?_eq_getElem (by simpa using hj)] at hu
        simp only [List.getElem_range, Option.map_some, Function.comp] at hu
        rw [← hu]
        exact (hQ j hj).1
      refine ⟨a, rfl, .inl ?_, cells⟩
      obtain ⟨u, hu⟩ : ∃ u, (nlcells ((List.range len0).map Q))[0]? = some u := by
        cases hq : nlcells ((List.range len0).map Q) with
        | nil => exact absurd hq hne
        | cons u _ => exact ⟨u, rfl⟩
      have := World.block_lt_of_cell? _ _ (cells 0 u hu)
      rwa [addr_block] at this
    · intro q hq
      obtain ⟨i, hi2, rfl⟩ := List.mem_map.1 hq
      exact (hQ i (List.mem_range.1 hi2)).2.1
    · intro q hq
      obtain ⟨i, hi2, rfl⟩ := List.mem_map.1 hq
      exact (hQ i (List.mem_range.1 hi2)).2.2
end Go.Proofs.Ythddpenpmjonkaa
