/- Stage 12: maps whose keys are numbers; the numbers that maps.Keys hands on, gathered by slices.Collect and put in order by slices.Sorted (written by wip/gen12um.py). -/
import Derived.Test.YtmcfknnfaokmlaaQj
import Derived.RangeFuncGives
import Derived.Sort.MapsRangeIn
import Derived.Maps.OwnSet
namespace Go.Proofs.Ytmcfknnfaokmlaa
set_option maxRecDepth 100000
section
open Go.RowKit Go.Shelf Go.Maps Go.Lib Go.Sort

/-- A value that stands in a map reads as itself. -/
def anyV (v : Value) : Option (DataW Value × List MemPlace) := some (.held v, [])
theorem anyV_mk (v : Value) : anyV v = some (.held v, []) := rfl
theorem anyV_inv {v : Value} {y : DataW Value × List MemPlace} (h : anyV v = some y) : y = (.held v, []) := by
  unfold anyV at h
  injection h with h
  exact h.symm
/-- A number as a key. -/
def nkey (k : Nat) : Lit := .int .u64 (k : Int)
theorem nkey_inj {i j : Nat} : nkey i = nkey j ↔ i = j := ⟨fun h => by unfold nkey at h; injection h with _ h; omega, fun h => by rw [h]⟩
theorem nkey_lit (i : Nat) : WideAt.IsKeyLit (nkey i) := by simp [nkey, WideAt.IsKeyLit]
theorem nkey_wf {k : Nat} (h : k < 18446744073709551616) : (nkey k).wf = true := by
  simp [nkey, Lit.wf, IntKind.min, IntKind.max, IntKind.bits, IntKind.signed]
  omega
theorem u64K : Keyed Try.prog 24 := int_keyed Try.underlying24
theorem nkeyOf {k : Nat} (h : k < 18446744073709551616) : keyOf Try.prog 24 (encU k) = some (nkey k) := keyOf_int_mk Try.underlying24 (nkey_wf h)
/-- What reads as a key is a number. -/
theorem nkey_of {v : Value} {kl : Lit} (h : keyOf Try.prog 24 v = some kl) : ∃ k : Nat, v = encU k ∧ kl = nkey k ∧ k < 18446744073709551616 := by
  have hu := Try.underlying24
  cases v with
  | int q i =>
    simp [keyOf, hu, mapKey] at h
    obtain ⟨⟨e, hw⟩, rfl⟩ := h
    subst e
    have hb : 0 ≤ i ∧ i < 18446744073709551616 := by
      simp [Lit.wf, IntKind.min, IntKind.max, IntKind.bits, IntKind.signed] at hw
      omega
    refine ⟨i.toNat, ?_, ?_, by omega⟩
    · unfold encU
      rw [Int.toNat_of_nonneg hb.1]
    · unfold nkey
      rw [Int.toNat_of_nonneg hb.1]
  | _ => simp [keyOf, hu, mapKey] at h

/-- The map of block mb: what stands at each number. n bounds how many stand there. -/
structure UM (w : World) (mb n : Nat) (f : Nat → Option Value) : Prop where
  out : ∃ D : DataW Value, w.ownsMap Try.prog 24 anyV mb n D ∧ (∀ k, Maps.has D (nkey k) = (f k).isSome) ∧ ∀ k v, f k = some v → ∀ z, D.atKey (nkey k) z = .held v

section
variable {w w' : World} {mb n : Nat} {f : Nat → Option Value}
theorem UM.lt (h : UM w mb n f) : mb < w.heap.size := by
  obtain ⟨D, h1, _⟩ := h.out
  exact h1.lt
theorem UM.kept (h : UM w mb n f) {row : Option Nat} (hg : w.grownBy w' row) (hne : some mb ≠ row) : UM w' mb n f := by
  obtain ⟨D, h1, h2⟩ := h.out
  exact ⟨D, h1.kept hg hne, h2⟩
theorem um_keep {D : DataW Value} (h : w.ownsMap Try.prog 24 anyV mb n D) (hk : w'.heap[mb]? = w.heap[mb]?) : w'.ownsMap Try.prog 24 anyV mb n D := by
  obtain ⟨es, clock, hb, r⟩ := h
  exact ⟨es, clock, hk.trans hb, r⟩
theorem UM.same (h : UM w mb n f) (hk : w'.heap[mb]? = w.heap[mb]?) : UM w' mb n f := by
  obtain ⟨D, h1, h2⟩ := h.out
  exact ⟨D, um_keep h1 hk, h2⟩
theorem UM.below (h : UM w mb n f) {B : Nat} (hb : Below B w w') (hB : mb < B) : UM w' mb n f := h.same (hb.block mb hB)
theorem UM.made (w : World) : UM (w.alloc (.map #[] 0)) w.heap.size 0 (fun _ => none) := ⟨_, World.ownsMap_made w Try.prog 24 anyV, fun _ => rfl, fun _ _ e => by cases e⟩
theorem UM.up (h : UM w mb n f) {m : Nat} (hm : n ≤ m) : UM w mb m f := by
  obtain ⟨D, h1, h2⟩ := h.out
  exact ⟨D, h1.mono hm, h2⟩
/-- What a key reads that isn't there. -/
theorem um_not {D : DataW Value} (hm : Maps.IsMap D) {k : Nat} (h : Maps.has D (nkey k) = false) (z : DataW Value) : D.atKey (nkey k) z = z := by
  obtain ⟨es, rfl⟩ := hm
  have e2 : (es.find? fun p => p.1.sameKey (nkey k)) = none := by
    rw [List.find?_eq_none]
    intro p hp
    exact (List.any_eq_false.1 (show (es.any fun p => p.1.sameKey (nkey k)) = false from h)) p hp
  show DataW.atKey (.map es) (nkey k) z = z
  simp only [DataW.atKey, e2]
theorem UM.at_ {D : DataW Value} (h1 : w.ownsMap Try.prog 24 anyV mb n D) (h2 : ∀ k, Maps.has D (nkey k) = (f k).isSome) (h3 : ∀ k v, f k = some v → ∀ z, D.atKey (nkey k) z = .held v) (k : Nat) (z : Value) : D.atKey (nkey k) (.held z) = .held ((f k).getD z) := by
  cases e : f k with
  | some v => exact h3 k v e _
  | none => exact um_not h1.isMap (by rw [h2, e]; rfl) _
/-- A reading of the map, its run. -/
theorem UM.look_ok (h : UM w mb n f) {t e : TypeId} (ht : Try.prog.underlying t = some (.map 24 e)) {z : Value} (hz : (zeroValue e).run Try.prog w = .ok z w) {k : Nat} (hk : k < 18446744073709551616) :
    (Instr.lookup t (.map (some mb)) (encU k) true).run Try.prog w = .ok (.tuple #[(f k).getD z, .bool (f k).isSome]) w := by
  obtain ⟨D, h1, h2, h3⟩ := h.out
  obtain ⟨u, ps, hr, hu⟩ := h1.look_ok u64K ht hz (anyV_mk z) (nkeyOf hk)
  have hy := anyV_inv hu
  injection hy with hy _
  rw [UM.at_ h1 h2 h3] at hy
  injection hy with hy
  rw [hr, ← hy, h2]
theorem UM.look (h : UM w mb n f) {t e : TypeId} (ht : Try.prog.underlying t = some (.map 24 e)) {z : Value} (hz : (zeroValue e).run Try.prog w = .ok z w) {k : Nat} (hk : k < 18446744073709551616) :
    (Instr.lookup t (.map (some mb)) (encU k) false).run Try.prog w = .ok ((f k).getD z) w := by
  obtain ⟨D, h1, h2, h3⟩ := h.out
  obtain ⟨u, ps, hr, hu⟩ := h1.lookup u64K ht hz (anyV_mk z) (nkeyOf hk)
  have hy := anyV_inv hu
  injection hy with hy _
  rw [UM.at_ h1 h2 h3] at hy
  injection hy with hy
  rw [hr, ← hy]
/-- A value is put. -/
theorem UM.put (h : UM w mb n f) {t e : TypeId} (ht : Try.prog.underlying t = some (.map 24 e)) (hn : n < maxLen) {k : Nat} (hk : k < 18446744073709551616) (v : Value) :
    ∃ w', (Instr.mapUpdate t (.map (some mb)) (encU k) v).run Try.prog w = .ok () w' ∧ UM w' mb (n + 1) (fun j => if j = k then some v else f j) ∧ w.grownBy w' (some mb) := by
  obtain ⟨D, h1, h2, h3⟩ := h.out
  obtain ⟨w', r1, r2, r3⟩ := h1.update u64K ht hn (nkeyOf hk) (anyV_mk v)
  refine ⟨w', r1, ⟨_, r2, fun j => ?_, fun j u hj z => ?_⟩, r3⟩
  · by_cases e : j = k
    · subst e
      rw [Maps.has_put_same h1.isMap (nkey_lit j)]
      simp
    · rw [Maps.has_put_other (fun q => e (nkey_inj.1 q)), h2]
      simp [e]
  · by_cases e : j = k
    · subst e
      rw [if_pos rfl] at hj
      injection hj with hj
      rw [← hj]
      exact Maps.atKey_put_same h1.isMap (nkey_lit j) _ _
    · rw [if_neg e] at hj
      rw [Maps.atKey_put_other (fun q => e (nkey_inj.1 q))]
      exact h3 j u hj z
/-- A key goes. -/
theorem UM.del (h : UM w mb n f) {t e : TypeId} (ht : Try.prog.underlying t = some (.map 24 e)) {k : Nat} (hk : k < 18446744073709551616) (ty : TypeId) :
    ∃ w', (Builtin.delete_ #[t, 24] ty #[.map (some mb), encU k]).run Try.prog w = .ok (.tuple #[]) w' ∧ UM w' mb n (fun j => if j = k then none else f j) ∧ w.grownBy w' (some mb) := by
  obtain ⟨D, h1, h2, h3⟩ := h.out
  obtain ⟨w', r1, r2, r3⟩ := h1.drop u64K ht (nkeyOf hk) ty
  refine ⟨w', r1, ⟨_, r2, fun j => ?_, fun j u hj z => ?_⟩, r3.grown⟩
  · by_cases e : j = k
    · subst e
      rw [Maps.has_del_same]
      simp
    · rw [Maps.has_del_other (fun q => e (nkey_inj.1 q)), h2]
      simp [e]
  · by_cases e : j = k
    · rw [if_pos e] at hj
      cases hj
    · rw [if_neg e] at hj
      rw [Maps.atKey_del_other (fun q => e (nkey_inj.1 q))]
      exact h3 j u hj z
end

/-- Just the numbers that stand there, each once. -/
def AllN (f : Nat → Option Value) (ss : List Nat) : Prop := ss.Nodup ∧ ∀ x, x ∈ ss ↔ (f x).isSome = true
end
end Go.Proofs.Ytmcfknnfaokmlaa
