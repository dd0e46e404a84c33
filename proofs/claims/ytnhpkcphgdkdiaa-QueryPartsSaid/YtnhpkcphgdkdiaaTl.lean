/- slices.CompactFunc at lists, whatever program P bears the body: a test that may lay blocks. slices.CompactFunc at tasks, whatever program P bears the body: a test that may lay blocks. slices.CompactFunc at strings, whatever program P bears the body: a test that may lay blocks. -/
import Derived.Test.YtnhpkcphgdkdiaaTo
import Derived.Test.YtnhpkcphgdkdiaaProg
import Derived.Sort.WalkB2
import Derived.Sort.WalkB12
import Derived.Sort.WalkA
import Derived.Deep.LoopGhost
import Derived.BigRegion
import Derived.WalkKit
import Derived.Lib.Hide
namespace Go.Proofs.Ytnhpkcphgdkdiaa
set_option maxRecDepth 100000

section
open Go.Shelf Go.RowKit Go.Lib Go.Sort

variable {P : Program} {α : Type} [Inhabited α]
/-- What is asked of the test: in every world that the row passes through it tells ef; it may draw, it may lay blocks. -/
def EqL (P : Program) (g : Nat) (cb : Array Value) (enc : α → List Value) (k : Nat) (ef : α → α → Bool) (blk off size : Nat) (w : World) : Prop :=
  ∀ (m : Nat) (os : Array Obj) (dk : Array α), dk.size = size → ∀ x y : α,
    Calls P g (#[.agg (enc x).toArray, .agg (enc y).toArray] ++ cb) (sortWorldK enc k w blk off m dk os) fun e w' => e = .returned (.bool (ef x y)) ∧ ∃ q os', w' = grow ((sortWorldK enc k w blk off m dk os).drewN q) os'
theorem eq_atL {enc : α → List Value} {k : Nat} {w0 W : World} {blk off size g : Nat} {cb : Array Value} {ef : α → α → Bool} {dk : Array α} (hC : EqL P g cb enc k ef blk off size w0) (h : SWK enc k w0 blk off dk W) (hs : dk.size = size) (x y : α) (n : Nat) (os : Array Obj) :
    Calls P g (#[.agg (enc x).toArray, .agg (enc y).toArray] ++ cb) (grow (W.drewN n) os) fun e w' => e = .returned (.bool (ef x y)) ∧ ∃ q os', w' = grow ((grow (W.drewN n) os).drewN q) os' := by
  obtain ⟨m, os0, hw⟩ := h.grown n os
  rw [hw]
  exact hC m os0 dk hs x y
/-- Where the row's first things have become those that aren't like the one ahead. -/
def CptOkL (ef : α → α → Bool) (enc : α → List Value) (k : Nat) (w0 : World) (blk off cap : Nat) (d : Array α) (e : Ending) (w' : World) : Prop :=
  ∃ (dk : Array α) (m : Nat), e = .returned (.slice (some ⟨blk, off, none⟩) m cap) ∧ SWK enc k w0 blk off dk w' ∧ dk.size = d.size ∧ m = (Sr.compact ef d.toList).length ∧ dk.toList.take m = Sr.compact ef d.toList

end

section
open Go.Shelf Go.RowKit Go.Lib Go.Sort

variable {P : Program} {α : Type} [Inhabited α]
/-- What is asked of the test: in every world that the row passes through it tells ef; it may draw, it may lay blocks. -/
def EqK (P : Program) (g : Nat) (cb : Array Value) (enc : α → List Value) (k : Nat) (ef : α → α → Bool) (blk off size : Nat) (w : World) : Prop :=
  ∀ (m : Nat) (os : Array Obj) (dk : Array α), dk.size = size → ∀ x y : α,
    Calls P g (#[.agg (enc x).toArray, .agg (enc y).toArray] ++ cb) (sortWorldK enc k w blk off m dk os) fun e w' => e = .returned (.bool (ef x y)) ∧ ∃ q os', w' = grow ((sortWorldK enc k w blk off m dk os).drewN q) os'
theorem eq_atK {enc : α → List Value} {k : Nat} {w0 W : World} {blk off size g : Nat} {cb : Array Value} {ef : α → α → Bool} {dk : Array α} (hC : EqK P g cb enc k ef blk off size w0) (h : SWK enc k w0 blk off dk W) (hs : dk.size = size) (x y : α) (n : Nat) (os : Array Obj) :
    Calls P g (#[.agg (enc x).toArray, .agg (enc y).toArray] ++ cb) (grow (W.drewN n) os) fun e w' => e = .returned (.bool (ef x y)) ∧ ∃ q os', w' = grow ((grow (W.drewN n) os).drewN q) os' := by
  obtain ⟨m, os0, hw⟩ := h.grown n os
  rw [hw]
  exact hC m os0 dk hs x y
/-- Where the row's first things have become those that aren't like the one ahead. -/
def CptOkK (ef : α → α → Bool) (enc : α → List Value) (k : Nat) (w0 : World) (blk off cap : Nat) (d : Array α) (e : Ending) (w' : World) : Prop :=
  ∃ (dk : Array α) (m : Nat), e = .returned (.slice (some ⟨blk, off, none⟩) m cap) ∧ SWK enc k w0 blk off dk w' ∧ dk.size = d.size ∧ m = (Sr.compact ef d.toList).length ∧ dk.toList.take m = Sr.compact ef d.toList

end

section
open Go.Shelf Go.RowKit Go.Lib Go.Sort

variable {P : Program} {α : Type} [Inhabited α]
/-- What is asked of the test: in every world that the row passes through it tells ef; it may draw, it may lay blocks. -/
def EqS (P : Program) (g : Nat) (cb : Array Value) (enc : α → Value) (ef : α → α → Bool) (blk off size : Nat) (w : World) : Prop :=
  ∀ (m : Nat) (os : Array Obj) (dk : Array α), dk.size = size → ∀ x y : α,
    Calls P g (#[enc x, enc y] ++ cb) (sortWorld enc w blk off m dk os) fun e w' => e = .returned (.bool (ef x y)) ∧ ∃ q os', w' = grow ((sortWorld enc w blk off m dk os).drewN q) os'
theorem eq_atS {enc : α → Value} {w0 W : World} {blk off size g : Nat} {cb : Array Value} {ef : α → α → Bool} {dk : Array α} (hC : EqS P g cb enc ef blk off size w0) (h : SW enc w0 blk off dk W) (hs : dk.size = size) (x y : α) (n : Nat) (os : Array Obj) :
    Calls P g (#[enc x, enc y] ++ cb) (grow (W.drewN n) os) fun e w' => e = .returned (.bool (ef x y)) ∧ ∃ q os', w' = grow ((grow (W.drewN n) os).drewN q) os' := by
  obtain ⟨m, os0, hw⟩ := h.grown n os
  rw [hw]
  exact hC m os0 dk hs x y
/-- Where the row's first things have become those that aren't like the one ahead. -/
def CptOkS (ef : α → α → Bool) (enc : α → Value) (w0 : World) (blk off cap : Nat) (d : Array α) (e : Ending) (w' : World) : Prop :=
  ∃ (dk : Array α) (m : Nat), e = .returned (.slice (some ⟨blk, off, none⟩) m cap) ∧ SW enc w0 blk off dk w' ∧ dk.size = d.size ∧ m = (Sr.compact ef d.toList).length ∧ dk.toList.take m = Sr.compact ef d.toList

end
end Go.Proofs.Ytnhpkcphgdkdiaa
