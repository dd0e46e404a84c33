/- Contracts of the document's own Disk: Fault, Read. Contracts of the document's own Disk: Flush, Crash. Contract of the document's own Disk: Crash. -/
import Derived.Test.YtbfkjneidabijaaDm
namespace Go.Proofs.Ytbfkjneidabijaa
open Go.RowKit
set_option maxRecDepth 100000

theorem wr_at {w : World} {B : Nat} {t : TypeId} {A : Option Addr} {l : List MWr} (h : Lies w B t A (wcells l)) {k : Nat} (hk : k < l.length) : ∃ ad x, A = some ad ∧ l[k]? = some x ∧
    w.cell? (ad.add (k * 2)) = some (.int .i64 (x.i : Int)) ∧ w.cell? ⟨(ad.add (k * 2)).block, (ad.add (k * 2)).off + 1, none⟩ = some (.slice x.m.A x.m.b.length x.m.c) := by
  have hx : l[k]? = some l[k] := List.getElem?_eq_getElem hk
  obtain ⟨ad, e, _, hc⟩ := h (fun q => by
    have := wcells_len l
    rw [q] at this
    simp at this
    omega)
  have c : ∀ j u, j < 2 → (l[k]).cells[j]? = some u → w.cell? ((ad.add (k * 2)).add j) = some u := fun j u hj hu => by
    rw [addr_add]
    exact hc _ _ ((wcells_at hx hj).trans hu)
  exact ⟨ad, l[k], e, hx, c 0 _ (by omega) rfl, c 1 _ (by omega) rfl⟩
theorem bools_set (l : List Bool) (j : Nat) (x : Bool) : (l.map Value.bool).set j (.bool x) = (l.set j x).map Value.bool := by rw [List.map_set]

theorem seen_snoc (s : List UInt8) (i : Nat) (c : List (Nat × List UInt8)) (x : Nat × List UInt8) : Dk.seen s i (c ++ [x]) = if x.1 = i then x.2 else Dk.seen s i c := by
  unfold Dk.seen
  rw [List.foldl_append]
  rfl

theorem Held.below {w w' : World} {F : Nat → Prop} {m : MTx} (h : Held w F m) (hb : Below w.heap.size w w') : Held w' F m := ⟨⟨h.1.1.below (Nat.zero_le _) hb, h.1.2⟩, h.2⟩

namespace Dk
theorem keepAll_snoc (s : List (List UInt8)) (c : List (Nat × List UInt8)) (x : Nat × List UInt8) : keepAll s (c ++ [x]) = (keepAll s c).set x.1 x.2 := by
  unfold keepAll
  rw [List.foldl_append]
  rfl
theorem keepSome_snoc (s : List (List UInt8)) (c : List (Nat × List UInt8)) (ks : List Bool) (x : Nat × List UInt8) : keepSome s (c ++ [x]) ks = if ks.getD c.length false = true then (keepSome s c ks).set x.1 x.2 else keepSome s c ks := by
  induction c generalizing s ks with
  | nil =>
    cases ks with
    | nil => rfl
    | cons k ks => cases k <;> cases ks <;> rfl
  | cons y c ih =>
    cases ks with
    | nil => simp [keepSome]
    | cons k ks =>
      have q := ih (if k = true then s.set y.1 y.2 else s) ks
      rw [List.cons_append]
      show keepSome (if k = true then s.set y.1 y.2 else s) (c ++ [x]) ks = _
      rw [q]
      simp [keepSome]
end Dk

section
variable {w w' : World} {F : Nat → Prop} {p : Nat} {AS AC AB : Option Addr} {cS cC cB : Nat} {ms : List MTx} {cs : List MWr} {bad : List Bool} {left : Int} {dead : Bool}
theorem Lies.but {B B0 : Nat} {t : TypeId} {A : Option Addr} {xs : List Value} (h : Lies w B t A xs) (hi : xs ≠ [] → InF (fun k => ¬ F k ∧ k < B0) A) (hb : But F B0 w w') : Lies w' B t A xs := fun hx => by
  obtain ⟨ad, rfl, hbl, hc⟩ := h hx
  obtain ⟨q1, q2⟩ := hi hx ad rfl
  have q := hb.block ad.block q2 q1
  exact ⟨ad, rfl, hbl.imp id (fun ⟨cs, fr, r⟩ => ⟨cs, fr, q.trans r⟩), fun j u hu => (World.cell?_of_block (by rw [addr_block]; exact q)).trans (hc j u hu)⟩
end

theorem crash_snoc {s : List (List UInt8)} {c : List (Nat × List UInt8)} {ks : List Bool} {x : Nat × List UInt8} {j : Nat} {v : Bool} (hj : c.length = j) (hk : ks.getD j false = v) : Dk.keepSome s (c ++ [x]) ks = if v = true then (Dk.keepSome s c ks).set x.1 x.2 else Dk.keepSome s c ks := by
  rw [Dk.keepSome_snoc, hj, hk]

end Go.Proofs.Ytbfkjneidabijaa
