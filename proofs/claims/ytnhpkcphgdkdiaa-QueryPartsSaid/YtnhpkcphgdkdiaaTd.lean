/- The sort in place of slices.SortStableFunc, at lists, whatever program P bears these bodies: elements of k cells, a comparison that may lay blocks. The sort in place of slices.SortStableFunc, at lists, whatever program P bears these bodies: elements of k cells, a comparison that may lay blocks. The sort in place of slices.SortStableFunc, at lists, whatever program P bears these bodies: elements of k cells, a comparison that may lay blocks. The sort in place of slices.SortStableFunc, at lists, whatever program P bears these bodies: elements of k cells, a comparison that may lay blocks. -/
import Derived.Test.YtnhpkcphgdkdiaaTa
import Derived.Test.YtnhpkcphgdkdiaaProg
import Derived.Shelf.SlSortCmp.KitK
import Derived.Sort.WalkB2
import Derived.Sort.WalkB12
import Derived.Deep.LoopGhost
import Derived.BigRegion
import Derived.WalkKit
import Derived.Lib.Hide
import Derived.Deep.DeepCutAuto
namespace Go.Proofs.Ytnhpkcphgdkdiaa
set_option maxRecDepth 100000

section
open Go.Shelf Go.RowKit Go.Lib Go.Sort

variable {P : Program} {α : Type} [Inhabited α]

/-- Where the row comes to hold l. -/
def SOkL (enc : α → List Value) (k : Nat) (w0 : World) (blk off : Nat) (d : Array α) (l : List α) (w' : World) : Prop := ∃ dk : Array α, SWK enc k w0 blk off dk w' ∧ dk.size = d.size ∧ dk.toList = l

/-- Where the row has come to hold B's things in order, stably, between A and C. -/
def SrtOkL (cf : α → α → Int) (enc : α → List Value) (k : Nat) (w0 : World) (blk off : Nat) (d : Array α) (A B C : List α) (w' : World) : Prop :=
  ∃ (dk : Array α) (W : List α), SWK enc k w0 blk off dk w' ∧ dk.size = d.size ∧ dk.toList = A ++ (W ++ C) ∧ W.length = B.length ∧ Sr.Srt (ltOf cf) W ∧ Sr.Stb (ltOf cf) B W

end

section
open Go.Shelf Go.RowKit Go.Lib Go.Sort


variable {P : Program} {α : Type} [Inhabited α]

end

section
open Go.Shelf Go.RowKit Go.Lib Go.Sort


variable {P : Program} {α : Type} [Inhabited α]

end

section
open Go.Shelf Go.RowKit Go.Lib Go.Sort


variable {P : Program} {α : Type} [Inhabited α]

end
end Go.Proofs.Ytnhpkcphgdkdiaa
