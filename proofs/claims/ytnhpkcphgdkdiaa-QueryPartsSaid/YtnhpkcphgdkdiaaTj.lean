/- The sort in place of slices.SortStableFunc, at strings, whatever program P bears these bodies: elements of one cell, fewer than 20, a comparison that may lay blocks. -/
import Derived.Test.YtnhpkcphgdkdiaaTa
import Derived.Test.YtnhpkcphgdkdiaaProg
import Derived.Shelf.SlSortCmp.Kit1
import Derived.Sort.WalkA
import Derived.Sort.WalkB2
import Derived.Sort.WalkB12
import Derived.Deep.LoopGhost
import Derived.BigRegion
import Derived.WalkKit
import Derived.Lib.Hide
namespace Go.Proofs.Ytnhpkcphgdkdiaa
open Go.Shelf Go.RowKit Go.Lib Go.Sort
set_option maxRecDepth 100000

variable {P : Program} {α : Type} [Inhabited α]

/-- Where the row has come to hold B's things in order, stably, between A and C. -/
def SrtOkS (cf : α → α → Int) (enc : α → Value) (w0 : World) (blk off : Nat) (d : Array α) (A B C : List α) (w' : World) : Prop :=
  ∃ (dk : Array α) (W : List α), SW enc w0 blk off dk w' ∧ dk.size = d.size ∧ dk.toList = A ++ (W ++ C) ∧ W.length = B.length ∧ Sr.Srt (ltOf cf) W ∧ Sr.Stb (ltOf cf) B W

end Go.Proofs.Ytnhpkcphgdkdiaa
