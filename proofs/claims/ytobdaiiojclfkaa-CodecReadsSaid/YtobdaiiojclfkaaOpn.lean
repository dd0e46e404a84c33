/- Arguments, opened: bytes, whole numbers, parts. -/
import Derived.Test.YtobdaiiojclfkaaPt
import Derived.Test.YtobdaiiojclfkaaLaw
import Derived.Deep.Slices
import Derived.Deep.Fields
namespace Go.Proofs.Ytobdaiiojclfkaa
open Go.ChangeShapes Go.WideShapes Go.ChangeAt Go.RowKit Go.Deep

instance : Inhabited MPt := ⟨⟨⟨0, 0, 0, 0, [], false⟩, none, 0⟩⟩
theorem wf_u8 {k : Int} (h : (Lit.int .u8 k).wf = true) : 0 ≤ k ∧ k < 256 := by
  unfold Lit.wf at h
  simp only [Bool.and_eq_true, decide_eq_true_eq] at h
  have a : IntKind.u8.min = 0 := by decide +kernel
  have b : IntKind.u8.max = 255 := by decide +kernel
  rw [a, b] at h; omega
theorem wf_u64 {k : Int} (h : (Lit.int .u64 k).wf = true) : 0 ≤ k ∧ k < 18446744073709551616 := by
  unfold Lit.wf at h
  simp only [Bool.and_eq_true, decide_eq_true_eq] at h
  have a : IntKind.u64.min = 0 := by decide +kernel
  have b : IntKind.u64.max = 18446744073709551615 := by decide +kernel
  rw [a, b] at h; omega
theorem wf_i64 {k : Int} (h : (Lit.int .i64 k).wf = true) : -9223372036854775808 ≤ k ∧ k < 9223372036854775808 := by
  unfold Lit.wf at h
  simp only [Bool.and_eq_true, decide_eq_true_eq] at h
  have a : IntKind.i64.min = -9223372036854775808 := by decide +kernel
  have b : IntKind.i64.max = 9223372036854775807 := by decide +kernel
  rw [a, b] at h; omega

section
variable {H : Type} {enc : TypeId × Value → H} {P : Program} {w : World} {base : Nat} {sp : Nat → Bool} {held : Bool}

/-- A slice of whole numbers of one kind, in cells. -/
theorem cells_ints {t e : TypeId} {kd : IntKind} {fuel : Nat} {v : Value} {x : DataW H × List MemPlace} (ht : P.underlying t = some (.slice e)) (he : P.underlying e = some (.int kd)) (hc : P.cellsOf e = 1)
    (h : DataW.trod enc P w base sp held fuel t [v] = some x) : ∃ (A : Option Addr) (c : Nat) (ns : List Int), v = .slice A ns.length c ∧ ns.length ≤ c ∧ c ≤ maxLen ∧ (∀ n ∈ ns, (Lit.int kd n).wf = true) ∧ Lies w w.heap.size 0 A (ns.map (Value.int kd)) := by
  rcases open_ints ht he hc h with ⟨hcs, _⟩ | ⟨a, len, cap, zs, hcs, _, hl, hm, hz, _, hcell, hwf⟩
  · simp at hcs
    subst hcs
    exact ⟨none, 0, [], rfl, Nat.le_refl _, Nat.zero_le _, by simp, Lies.nil⟩
  · simp at hcs
    subst hcs
    have hlen : len ≤ zs.length := by rw [hz]; split <;> omega
    have e1 : (zs.take len).length = len := by rw [List.length_take]; omega
    refine ⟨some a, cap, zs.take len, by rw [e1], by omega, hm, fun n hn => hwf n (List.mem_of_mem_take hn), fun hne => ?_⟩
    have cells : ∀ j u, ((zs.take len).map (Value.int kd))[j]? = some u → w.cell? (a.add j) = some u := by
      intro j u hu
      rw [List.getElem?_map, List.getElem?_take] at hu
      split at hu
      · rename_i hj
        rw [hcell j (by omega)]
        rw [List.getElem?_eq_getElem (by omega)] at hu
        simp only [Option.map_some, Option.some.injEq] at hu
        rw [← hu, List.getD_eq_getElem?_getD, List.getElem?_eq_getElem (by omega)]
        rfl
      · simp at hu
    refine ⟨a, rfl, .inl ?_, cells⟩
    obtain ⟨u, hu⟩ : ∃ u, ((zs.take len).map (Value.int kd))[0]? = some u := by
      cases hq : (zs.take len).map (Value.int kd) with
      | nil => exact absurd hq hne
      | cons u _ => exact ⟨u, rfl⟩
    have := World.block_lt_of_cell? _ _ (cells 0 u hu)
    rwa [addr_block] at this
theorem cells_bytes {t e : TypeId} {fuel : Nat} {v : Value} {x : DataW H × List MemPlace} (ht : P.underlying t = some (.slice e)) (he : P.underlying e = some (.int .u8)) (hc : P.cellsOf e = 1)
    (h : DataW.trod enc P w base sp held fuel t [v] = some x) : ∃ (A : Option Addr) (c : Nat) (l : List UInt8), v = .slice A l.length c ∧ l.length ≤ c ∧ c ≤ maxLen ∧ Lies w w.heap.size 0 A (bcells l) := by
  obtain ⟨A, c, ns, hv, h1, h2, hwf, hL⟩ := cells_ints ht he hc h
  have e1 : ns.map (Value.int .u8) = bcells (ns.map fun n => UInt8.ofNat n.toNat) := by
    unfold bcells
    rw [List.map_map]
    refine List.map_congr_left fun n hn => ?_
    have := wf_u8 (hwf n hn)
    simp only [Function.comp, bcell]
    rw [UInt8.toNat_ofNat']
    congr 1
    omega
  rw [e1] at hL
  exact ⟨A, c, _, by simpa using hv, by simpa using h1, h2, hL⟩
theorem cells_float {t : TypeId} {fuel : Nat} {v : Value} {x : DataW H × List MemPlace} (ht : P.underlying t = some (.float .f64)) (h : DataW.trod enc P w base sp held fuel t [v] = some x) : ∃ b, v = .float .f64 b ∧ b < 18446744073709551616 := by
  cases fuel with
  | zero => simp [DataW.trod] at h
  | succ n =>
    simp only [DataW.trod, ht] at h
    cases v <;> simp only [] at h <;> first | (cases h; done) | skip
    rename_i k x
    cases k
    · simp at h
    · by_cases wf : (Lit.float .f64 x).wf = true
      · exact ⟨x, rfl, of_decide_eq_true wf⟩
      · simp [wf] at h
end

section
variable {H : Type} {enc : TypeId × Value → H} {w : World} {base : Nat} {sp : Nat → Bool} {held : Bool}

theorem Try.oneInt : Try.prog.cellsOf 3 = 1 := by kernel_rfl
theorem Try.oneU64 : Try.prog.cellsOf 36 = 1 := by kernel_rfl
theorem Try.oneI64 : Try.prog.cellsOf 2 = 1 := by kernel_rfl
theorem Try.oneF64 : Try.prog.cellsOf 37 = 1 := by kernel_rfl
theorem Try.oneBytes : Try.prog.cellsOf 23 = 1 := by kernel_rfl
theorem Try.oneBool : Try.prog.cellsOf 4 = 1 := by kernel_rfl
theorem Try.oneU8 : Try.prog.cellsOf 5 = 1 := by kernel_rfl
theorem Try.sixPart : Try.prog.cellsOf 39 = 6 := by kernel_rfl

/-- One part, in cells. -/
theorem cells_part {fuel : Nat} {cs : List Value} {x : DataW H × List MemPlace} (h : DataW.trod enc Try.prog w base sp held fuel 39 cs = some x) :
    ∃ m : MPt, cs = m.cells ∧ m.pt.ok ∧ m.fine w w.heap.size 0 := by
  obtain ⟨xs, n, _, _, hlen, hxl, hf⟩ := DataW.trod_struct Try.underlying39 h
  rw [Try.sixPart] at hlen
  match cs, hlen with
  | [c0, c1, c2, c3, c4, c5], _ =>
    match xs, hxl with
    | [y0, y1, y2, y3, y4, y5], _ =>
      have h0 : DataW.trod enc Try.prog w base sp held n 3 (([c0, c1, c2, c3, c4, c5].drop 0).take (Try.prog.cellsOf 3)) = some y0 := hf 0 _ rfl
      rw [Try.oneInt] at h0
      have h1 : DataW.trod enc Try.prog w base sp held n 36 (([c0, c1, c2, c3, c4, c5].drop 1).take (Try.prog.cellsOf 36)) = some y1 := hf 1 _ rfl
      rw [Try.oneU64] at h1
      have h2 : DataW.trod enc Try.prog w base sp held n 2 (([c0, c1, c2, c3, c4, c5].drop 2).take (Try.prog.cellsOf 2)) = some y2 := hf 2 _ rfl
      rw [Try.oneI64] at h2
      have h3 : DataW.trod enc Try.prog w base sp held n 37 (([c0, c1, c2, c3, c4, c5].drop 3).take (Try.prog.cellsOf 37)) = some y3 := hf 3 _ rfl
      rw [Try.oneF64] at h3
      have h4 : DataW.trod enc Try.prog w base sp held n 23 (([c0, c1, c2, c3, c4, c5].drop 4).take (Try.prog.cellsOf 23)) = some y4 := hf 4 _ rfl
      rw [Try.oneBytes] at h4
      have h5 : DataW.trod enc Try.prog w base sp held n 4 (([c0, c1, c2, c3, c4, c5].drop 5).take (Try.prog.cellsOf 4)) = some y5 := hf 5 _ rfl
      rw [Try.oneBool] at h5
      obtain ⟨k, e0, _, _⟩ := DataW.trod_int Try.underlying3 (h0 : DataW.trod enc Try.prog w base sp held n 3 [c0] = some y0)
      obtain ⟨u, e1, _, w1⟩ := DataW.trod_int Try.underlying36 (h1 : DataW.trod enc Try.prog w base sp held n 36 [c1] = some y1)
      obtain ⟨i, e2, _, w2⟩ := DataW.trod_int Try.underlying2 (h2 : DataW.trod enc Try.prog w base sp held n 2 [c2] = some y2)
      obtain ⟨f, e3, w3⟩ := cells_float Try.underlying37 (h3 : DataW.trod enc Try.prog w base sp held n 37 [c3] = some y3)
      obtain ⟨A, c, l, e4, w4, _, hL⟩ := cells_bytes Try.underlying23 Try.underlying5 Try.oneU8 (h4 : DataW.trod enc Try.prog w base sp held n 23 [c4] = some y4)
      obtain ⟨g, e5, _⟩ := DataW.trod_bool Try.underlying4 (h5 : DataW.trod enc Try.prog w base sp held n 4 [c5] = some y5)
      have g0 : c0 = _ := List.head_eq_of_cons_eq e0
      have g1 : c1 = _ := List.head_eq_of_cons_eq e1
      have g2 : c2 = _ := List.head_eq_of_cons_eq e2
      have g5 : c5 = _ := List.head_eq_of_cons_eq e5
      subst g0; subst g1; subst g2; subst e3; subst e4; subst g5
      have w1 := wf_u64 w1
      have w2 := wf_i64 w2
      exact ⟨⟨⟨k, u, i, f, l, g⟩, A, c⟩, rfl, ⟨w1.1, w1.2, w2.1, w2.2, w3⟩, hL, w4⟩

theorem open_bytes {v : Value} {d : DataW H} {ps : List MemPlace} (hval : Value.okWide Try.prog w .any base 23 v) (h : DataW.Trod enc Try.prog w 0 (fun _ => true) true 23 v d ps) :
    ∃ (A : Option Addr) (c : Nat) (l : List UInt8), v = .slice A l.length c ∧ l.length ≤ c ∧ c ≤ maxLen ∧ Lies w w.heap.size 0 A (bcells l) := by
  obtain ⟨a, len, cap, rfl⟩ := okWide_slice Try.underlying23 hval
  obtain ⟨fuel, hf⟩ := h
  exact cells_bytes Try.underlying23 Try.underlying5 Try.oneU8 hf
theorem open_nums {v : Value} {d : DataW H} {ps : List MemPlace} (hval : Value.okWide Try.prog w .any base 24 v) (h : DataW.Trod enc Try.prog w 0 (fun _ => true) true 24 v d ps) :
    ∃ (A : Option Addr) (c : Nat) (ks : List Int), v = .slice A ks.length c ∧ ks.length ≤ c ∧ c ≤ maxLen ∧ Lies w w.heap.size 0 A (ks.map (Value.int .i64)) := by
  obtain ⟨a, len, cap, rfl⟩ := okWide_slice Try.underlying24 hval
  obtain ⟨fuel, hf⟩ := h
  obtain ⟨A, c, ns, hv, h1, h2, _, hL⟩ := cells_ints Try.underlying24 Try.underlying3 Try.oneInt hf
  exact ⟨A, c, ns, hv, h1, h2, hL⟩
theorem open_parts {v : Value} {d : DataW H} {ps : List MemPlace} (hval : Value.okWide Try.prog w .any base 22 v) (h : DataW.Trod enc Try.prog w 0 (fun _ => true) true 22 v d ps) :
    ∃ (A : Option Addr) (c : Nat) (ms : List MPt), v = .slice A ms.length c ∧ ms.length ≤ c ∧ c ≤ maxLen ∧ PL w w.heap.size 0 0 A ms ∧ ∀ m ∈ ms, m.pt.ok := by
  obtain ⟨a0, len0, cap0, rfl⟩ := okWide_slice Try.underlying22 hval
  obtain ⟨fuel, hf⟩ := h
  rcases open_slice Try.underlying22 hf with ⟨hcs, _⟩ | ⟨a, len, cap, m, n, D, Pl, hcs, _, hl, hm, hmm, _, hi⟩
  · simp [Value.cells] at hcs
    obtain ⟨rfl, rfl, rfl⟩ := hcs
    exact ⟨none, 0, [], rfl, Nat.le_refl _, Nat.zero_le _, PL.nil, by simp⟩
  · simp [Value.cells] at hcs
    obtain ⟨rfl, rfl, rfl⟩ := hcs
    simp only [if_true] at hmm
    subst hmm
    rw [Try.sixPart] at hi
    have each : ∀ i, i < len0 → ∃ q : MPt, (∀ j u, q.cells[j]? = some u → w.cell? (a.add (i * 6 + j)) = some u) ∧ q.pt.ok ∧ q.fine w w.heap.size 0 := by
      intro i hlt
      obtain ⟨cs', hc, ht⟩ := hi i (by omega)
      obtain ⟨q, rfl, hok, hfine⟩ := cells_part ht
      obtain ⟨_, hcl, hat⟩ := World.cells?_some hc
      refine ⟨q, fun j u hu => ?_, hok, hfine⟩
      have hj : j < 6 := by
        rcases Nat.lt_or_ge j q.cells.length with z | z
        · exact z
        · rw [List.getElem?_eq_none z] at hu; cases hu
      have := hat j hj
      rw [addr_add] at this
      rw [this]; exact hu
    obtain ⟨Q, hQ⟩ := choose_lt (α := MPt) (p := fun i q => (∀ j u, q.cells[j]? = some u → w.cell? (a.add (i * 6 + j)) = some u) ∧ q.pt.ok ∧ q.fine w w.heap.size 0) each
    refine ⟨some a, m, (List.range len0).map Q, by simp, by simpa using hl, hm, ⟨fun hne => ?_, ?_⟩, ?_⟩
    · have cells : ∀ j u, (flat ((List.range len0).map Q))[j]? = some u → w.cell? (a.add j) = some u := by
        intro j u hu
        have hfl := flat_len ((List.range len0).map Q)
        rw [List.length_map, List.length_range] at hfl
        have hj : j < len0 * 6 := by
          rcases Nat.lt_or_ge j (flat ((List.range len0).map Q)).length with z | z
          · omega
          · rw [List.getElem?_eq_none z] at hu; cases hu
        have hk : j / 6 < len0 := by omega
        have e : ((List.range len0).map Q)[j / 6]? = some (Q (j / 6)) := by simp [hk]
        have f := flat_at e (j := j % 6) (by omega)
        rw [show j / 6 * 6 + j % 6 = j by omega] at f
        rw [f] at hu
        have := (hQ (j / 6) hk).1 (j % 6) u hu
        rwa [show j / 6 * 6 + j % 6 = j by omega] at this
      refine ⟨a, rfl, .inl ?_, cells⟩
      obtain ⟨u, hu⟩ : ∃ u, (flat ((List.range len0).map Q))[0]? = some u := by
        cases hq : flat ((List.range len0).map Q) with
        | nil => exact absurd hq hne
        | cons u _ => exact ⟨u, rfl⟩
      have := World.block_lt_of_cell? _ _ (cells 0 u hu)
      rwa [addr_block] at this
    · intro q hq
      obtain ⟨i, hi2, rfl⟩ := List.mem_map.1 hq
      exact (hQ i (List.mem_range.1 hi2)).2.2
    · intro q hq
      obtain ⟨i, hi2, rfl⟩ := List.mem_map.1 hq
      exact (hQ i (List.mem_range.1 hi2)).2.1
end

theorem enc_len (p : Cd.Pt) (h : p.b.length ≤ 200) : (Cd.enc p).length ≤ 209 := by
  unfold Cd.enc
  repeat' split
  · have := num_len p.n.toNat; omega
  · have := num_len (Cd.zig p.i); omega
  · rw [Cd.fix_len]; omega
  · have := num_len p.b.length; rw [List.length_append]; omega
  all_goals simp
theorem few_small {ms : List MPt} (h : fewB (pts ms) = true) : ms.length ≤ 20 ∧ (∀ m ∈ ms, m.pt.b.length ≤ 200) ∧ (Cd.encs (pts ms)).length ≤ 4180 := by
  unfold fewB at h
  rw [Bool.and_eq_true, List.all_eq_true, decide_eq_true_eq] at h
  obtain ⟨h1, h2⟩ := h
  have hb : ∀ p ∈ pts ms, p.b.length ≤ 200 := fun p hp => of_decide_eq_true (h1 p hp)
  have key : ∀ l : List Cd.Pt, (∀ p ∈ l, p.b.length ≤ 200) → (Cd.encs l).length ≤ 209 * l.length := by
    intro l hl
    induction l with
    | nil => simp [Cd.encs]
    | cons p l ih =>
      have a := enc_len p (hl p (by simp))
      have b := ih (fun q hq => hl q (by simp [hq]))
      unfold Cd.encs at b ⊢
      rw [List.flatMap_cons, List.length_append, List.length_cons]
      omega
  have k := key (pts ms) hb
  have e : (pts ms).length = ms.length := by simp [pts]
  refine ⟨by omega, fun m hm => hb m.pt (List.mem_map.2 ⟨m, hm, rfl⟩), by omega⟩
end Go.Proofs.Ytobdaiiojclfkaa
