/- Arguments, opened: bytes, whole numbers. -/
import Derived.Test.YtogobeinckgjmaaMem
import Derived.Test.YtogobeinckgjmaaLaw
import Derived.Test.YtogobeinckgjmaaRows
import Derived.Deep.Slices
import Derived.Deep.Fields
namespace Go.Proofs.Ytogobeinckgjmaa
open Go.ChangeShapes Go.WideShapes Go.ChangeAt Go.RowKit Go.Deep

theorem wf_u8 {k : Int} (h : (Lit.int .u8 k).wf = true) : 0 ≤ k ∧ k < 256 := by
  unfold Lit.wf at h
  simp only [Bool.and_eq_true, decide_eq_true_eq] at h
  have a : IntKind.u8.min = 0 := by decide +kernel
  have b : IntKind.u8.max = 255 := by decide +kernel
  rw [a, b] at h; omega
theorem wf_u32 {k : Int} (h : (Lit.int .u32 k).wf = true) : 0 ≤ k ∧ k < 4294967296 := by
  unfold Lit.wf at h
  simp only [Bool.and_eq_true, decide_eq_true_eq] at h
  have a : IntKind.u32.min = 0 := by decide +kernel
  have b : IntKind.u32.max = 4294967295 := by decide +kernel
  rw [a, b] at h; omega
theorem wf_u64 {k : Int} (h : (Lit.int .u64 k).wf = true) : 0 ≤ k ∧ k < 18446744073709551616 := by
  unfold Lit.wf at h
  simp only [Bool.and_eq_true, decide_eq_true_eq] at h
  have a : IntKind.u64.min = 0 := by decide +kernel
  have b : IntKind.u64.max = 18446744073709551615 := by decide +kernel
  rw [a, b] at h; omega
theorem wf_i64 {k : Int} (h : (Lit.int .i64 k).wf = true) : -9223372036854775808 ≤ k ∧ k < 9223372036854775808 := by
  unfold Lit.wf at h
  simp only [Bool.and_eq_true, decide_eq_true_eq] at h
  have a : IntKind.i64.min = -9223372036854775808 := by decide +kernel
  have b : IntKind.i64.max = 9223372036854775807 := by decide +kernel
  rw [a, b] at h; omega

section
variable {H : Type} {enc : TypeId × Value → H} {P : Program} {w : World} {base : Nat} {sp : Nat → Bool} {held : Bool}

/-- A slice of whole numbers of one kind, in cells. -/
theorem cells_ints {t e : TypeId} {kd : IntKind} {fuel : Nat} {v : Value} {x : DataW H × List MemPlace} (ht : P.underlying t = some (.slice e)) (he : P.underlying e = some (.int kd)) (hc : P.cellsOf e = 1)
    (h : DataW.trod enc P w base sp held fuel t [v] = some x) : ∃ (A : Option Addr) (c : Nat) (ns : List Int), v = .slice A ns.length c ∧ ns.length ≤ c ∧ c ≤ maxLen ∧ (∀ n ∈ ns, (Lit.int kd n).wf = true) ∧ Lies w w.heap.size 0 A (ns.map (Value.int kd)) := by
  rcases open_ints ht he hc h with ⟨hcs, _⟩ | ⟨a, len, cap, zs, hcs, _, hl, hm, hz, _, hcell, hwf⟩
  · simp at hcs
    subst hcs
    exact ⟨none, 0, [], rfl, Nat.le_refl _, Nat.zero_le _, by simp, Lies.nil⟩
  · simp at hcs
    subst hcs
    have hlen : len ≤ zs.length := by rw [hz]; split <;> omega
    have e1 : (zs.take len).length = len := by rw [List.length_take]; omega
    refine ⟨some a, cap, zs.take len, by rw [e1], by omega, hm, fun n hn => hwf n (List.mem_of_mem_take hn), fun hne => ?_⟩
    have cells : ∀ j u, ((zs.take len).map (Value.int kd))[j]? = some u → w.cell? (a.add j) = some u := by
      intro j u hu
      rw [List.getElem?_map, List.getElem?_take] at hu
      split at hu
      · rename_i hj
        rw [hcell j (by omega)]
        rw [List.getElem?_eq_getElem (by omega)] at hu
        simp only [Option.map_some, Option.some.injEq] at hu
        rw [← hu, List.getD_eq_getElem?_getD, List.getElem?_eq_getElem (by omega)]
        rfl
      · simp at hu
    refine ⟨a, rfl, .inl ?_, cells⟩
    obtain ⟨u, hu⟩ : ∃ u, ((zs.take len).map (Value.int kd))[0]? = some u := by
      cases hq : (zs.take len).map (Value.int kd) with
      | nil => exact absurd hq hne
      | cons u _ => exact ⟨u, rfl⟩
    have := World.block_lt_of_cell? _ _ (cells 0 u hu)
    rwa [addr_block] at this
theorem cells_bytes {t e : TypeId} {fuel : Nat} {v : Value} {x : DataW H × List MemPlace} (ht : P.underlying t = some (.slice e)) (he : P.underlying e = some (.int .u8)) (hc : P.cellsOf e = 1)
    (h : DataW.trod enc P w base sp held fuel t [v] = some x) : ∃ (A : Option Addr) (c : Nat) (l : List UInt8), v = .slice A l.length c ∧ l.length ≤ c ∧ c ≤ maxLen ∧ Lies w w.heap.size 0 A (bcells l) := by
  obtain ⟨A, c, ns, hv, h1, h2, hwf, hL⟩ := cells_ints ht he hc h
  have e1 : ns.map (Value.int .u8) = bcells (ns.map fun n => UInt8.ofNat n.toNat) := by
    unfold bcells
    rw [List.map_map]
    refine List.map_congr_left fun n hn => ?_
    have := wf_u8 (hwf n hn)
    simp only [Function.comp, bcell]
    rw [UInt8.toNat_ofNat']
    congr 1
    omega
  rw [e1] at hL
  exact ⟨A, c, _, by simpa using hv, by simpa using h1, h2, hL⟩
end

section
variable {H : Type} {enc : TypeId × Value → H} {w : World} {base : Nat}

theorem Try.oneInt : Try.prog.cellsOf 3 = 1 := by kernel_rfl

theorem Try.oneI64 : Try.prog.cellsOf 2 = 1 := by kernel_rfl

theorem Try.oneBytes : Try.prog.cellsOf 29 = 1 := by kernel_rfl

theorem Try.oneBool : Try.prog.cellsOf 4 = 1 := by kernel_rfl

theorem Try.oneU8 : Try.prog.cellsOf 5 = 1 := by kernel_rfl

theorem open_bytes {v : Value} {d : DataW H} {ps : List MemPlace} (hval : Value.okWide Try.prog w .any base 29 v) (h : DataW.Trod enc Try.prog w 0 (fun _ => true) true 29 v d ps) :
    ∃ (A : Option Addr) (c : Nat) (l : List UInt8), v = .slice A l.length c ∧ l.length ≤ c ∧ c ≤ maxLen ∧ Lies w w.heap.size 0 A (bcells l) := by
  obtain ⟨a, len, cap, rfl⟩ := okWide_slice Try.underlying29 hval
  obtain ⟨fuel, hf⟩ := h
  exact cells_bytes Try.underlying29 Try.underlying5 Try.oneU8 hf

end
end Go.Proofs.Ytogobeinckgjmaa
