/-
  No cell of these rows narrows 'for every input' (looked for: loops, veiled, ifaces, maps, wideKeys, modest, calm, conditions, laid).
  DERIVED. THE GIVEN ROWS OF THIS SEAT. 4 by the template 'for every input the law returns true; each argument reads behind the call as it read before'; 0 by the template 'total and deterministic' (their statements: YtdjiiknefhepdaaGreatTotals.lean).
  GIVEN WITH THE SEED: the statements are not yours to turn. If you find one false, say at which input.
  Laid BY PROGRAM, IN A SANDBOX (cutbox-rows.mjs): the forced cells as the released guide's own fill.sh prints them over the translation f02e1d1887442142… (all of the seat's roots in one cut). By AI agents, Wed Nov 11 2026. No macro, syntax, notation, axiom, sorry.
-/
import Derived.Test.YtdjiiknefhepdaaGreatChecked
import GoSem.Claim
import GoSem.ClaimJoined
import GoSem.ClaimMapViews
import Derived.JoinedTies
import Derived.KernelRfl
namespace Go.Proofs.YtdjiiknefhepdaaGreat
/- THE CELL 'sum', in the pinned program and in every row, IS THE sha256 OF THE DUMP (.gsa) THAT YtdjiiknefhepdaaGreatProg.lean LOADS. Nothing in Lean hashes anything: it is a label: what it is worth is what the hold of that sum in a sandbox is worth. -/
noncomputable def Tryz.pinned : Pinned := { name := "ytdjiiknefhepdaagreat", sum := "f02e1d188744214284036ab7c82b6738d901d35c1e7193f872147316fdf50334", checked := Tryz.checked }
namespace Rows
def none {H : Type} : Left H := { results := [], args := [] }

/-- 'factotumlaw14.FoldAll': WHATEVER THE INPUT: true; the input reads as it did. -/
def foldAllSpec : ChangeSpec := { name := "foldAll", fn := fun _ => fun
  | [d1, d2] => { results := [.lit (.bool true)], args := [d1, d2] }
  | _ => none }
def foldAllRow : OpenClaim := { program := "ytdjiiknefhepdaagreat", sum := "f02e1d188744214284036ab7c82b6738d901d35c1e7193f872147316fdf50334", func := "factotum/factotumlaw14.FoldAll", spec := "foldAll", inPlace := ["math.Float64bits", "math.Float64frombits", "slices.overlaps[factotum/api.List]", "slices.overlaps[factotum/api.Task]", "slices.overlaps[string]"], unfollowed := true, recurses := true, apart := false }
def FoldAllSaid : Prop := foldAllRow.holds Tryz.pinned (OpenSpec.ofChange foldAllSpec)

/-- ITS FALSE NEIGHBOUR: 'it returns false'. Refute it at one input. -/
def foldAllWrong : ChangeSpec := { name := "foldAll", fn := fun _ => fun
  | [d1, d2] => { results := [.lit (.bool false)], args := [d1, d2] }
  | _ => none }
def FoldAllWrongFalsely : Prop := foldAllRow.holds Tryz.pinned (OpenSpec.ofChange foldAllWrong)

/-- 'factotumlaw14.FoldParts': WHATEVER THE INPUT: true; the input reads as it did. -/
def foldPartsSpec : ChangeSpec := { name := "foldParts", fn := fun _ => fun
  | [d1, d2, d3] => { results := [.lit (.bool true)], args := [d1, d2, d3] }
  | _ => none }
def foldPartsRow : OpenClaim := { program := "ytdjiiknefhepdaagreat", sum := "f02e1d188744214284036ab7c82b6738d901d35c1e7193f872147316fdf50334", func := "factotum/factotumlaw14.FoldParts", spec := "foldParts", inPlace := ["math.Float64bits", "math.Float64frombits", "slices.overlaps[factotum/api.List]", "slices.overlaps[factotum/api.Task]", "slices.overlaps[string]"], unfollowed := true, recurses := true, apart := false }
def FoldPartsSaid : Prop := foldPartsRow.holds Tryz.pinned (OpenSpec.ofChange foldPartsSpec)

/-- ITS FALSE NEIGHBOUR: 'it returns false'. Refute it at one input. -/
def foldPartsWrong : ChangeSpec := { name := "foldParts", fn := fun _ => fun
  | [d1, d2, d3] => { results := [.lit (.bool false)], args := [d1, d2, d3] }
  | _ => none }
def FoldPartsWrongFalsely : Prop := foldPartsRow.holds Tryz.pinned (OpenSpec.ofChange foldPartsWrong)

/-- 'factotumlaw14.FoldEach': WHATEVER THE INPUT: true; the input reads as it did. -/
def foldEachSpec : ChangeSpec := { name := "foldEach", fn := fun _ => fun
  | [d1, d2, d3] => { results := [.lit (.bool true)], args := [d1, d2, d3] }
  | _ => none }
def foldEachRow : OpenClaim := { program := "ytdjiiknefhepdaagreat", sum := "f02e1d188744214284036ab7c82b6738d901d35c1e7193f872147316fdf50334", func := "factotum/factotumlaw14.FoldEach", spec := "foldEach", inPlace := ["math.Float64bits", "math.Float64frombits", "slices.overlaps[factotum/api.List]", "slices.overlaps[factotum/api.Task]", "slices.overlaps[string]"], unfollowed := true, recurses := true, apart := false }
def FoldEachSaid : Prop := foldEachRow.holds Tryz.pinned (OpenSpec.ofChange foldEachSpec)

/-- ITS FALSE NEIGHBOUR: 'it returns false'. Refute it at one input. -/
def foldEachWrong : ChangeSpec := { name := "foldEach", fn := fun _ => fun
  | [d1, d2, d3] => { results := [.lit (.bool false)], args := [d1, d2, d3] }
  | _ => none }
def FoldEachWrongFalsely : Prop := foldEachRow.holds Tryz.pinned (OpenSpec.ofChange foldEachWrong)

/-- 'factotumlaw14.FoldLines': WHATEVER THE INPUT: true; the input reads as it did. -/
def foldLinesSpec : ChangeSpec := { name := "foldLines", fn := fun _ => fun
  | [d1, d2, d3, d4, d5] => { results := [.lit (.bool true)], args := [d1, d2, d3, d4, d5] }
  | _ => none }
def foldLinesRow : OpenClaim := { program := "ytdjiiknefhepdaagreat", sum := "f02e1d188744214284036ab7c82b6738d901d35c1e7193f872147316fdf50334", func := "factotum/factotumlaw14.FoldLines", spec := "foldLines", inPlace := ["math.Float64bits", "math.Float64frombits", "slices.overlaps[factotum/api.List]", "slices.overlaps[factotum/api.Task]", "slices.overlaps[string]"], unfollowed := true, recurses := true, apart := false }
def FoldLinesSaid : Prop := foldLinesRow.holds Tryz.pinned (OpenSpec.ofChange foldLinesSpec)

/-- ITS FALSE NEIGHBOUR: 'it returns false'. Refute it at one input. -/
def foldLinesWrong : ChangeSpec := { name := "foldLines", fn := fun _ => fun
  | [d1, d2, d3, d4, d5] => { results := [.lit (.bool false)], args := [d1, d2, d3, d4, d5] }
  | _ => none }
def FoldLinesWrongFalsely : Prop := foldLinesRow.holds Tryz.pinned (OpenSpec.ofChange foldLinesWrong)

/- THE SECOND FORM. 'bulk': how many values and letters a reading holds, each counted each time it is reached (what is shared counts as often as it is met; a slice's spare places count too). A statement '..UptoSaid' is the law's where the arguments, and the package variables that the reading takes, are together of bulk at most 1048576: NARROWER than '..Said'. Prove '..Said' where nothing that the law and all that it calls make is longer than what came in: it says more and counts as full. Else prove '..UptoSaid'. A law counts once. -/
mutual
def uptoBulk {H : Type} : DataW H → Nat
  | .lit (.string bytes) => bytes.length + 1
  | .lit _ => 1
  | .nil => 1
  | .ptr d => uptoBulk d + 1
  | .slice elems spare => uptoBulkAll elems + uptoBulkAll spare + 1
  | .agg parts => uptoBulkAll parts + 1
  | .iface _ d => uptoBulk d + 1
  | .map entries => uptoBulkEntries entries + 1
  | .held _ => 1
def uptoBulkAll {H : Type} : List (DataW H) → Nat
  | [] => 0
  | d :: r => uptoBulk d + uptoBulkAll r
def uptoBulkEntries {H : Type} : List (Lit × DataW H) → Nat
  | [] => 0
  | x :: r => uptoBulkEntry x + uptoBulkEntries r
def uptoBulkEntry {H : Type} : Lit × DataW H → Nat
  | (.string bytes, d) => bytes.length + uptoBulk d + 1
  | (_, d) => uptoBulk d + 1
 end
def uptoSmall : (H : Type) → List (DataW H) → Bool := fun _ ds => decide (uptoBulkAll ds ≤ 1048576)
def OpenSpec.upto (s : _root_.Go.ChangeSpec) : _root_.Go.OpenSpec := { _root_.Go.OpenSpec.ofChange s with cond := some uptoSmall }

/-- 'factotumlaw14.FoldAll', WHERE WHAT IT READS IS OF BULK AT MOST 1048576: true; the input reads as it did. -/
def foldAllUptoRow : OpenClaim := { program := "ytdjiiknefhepdaagreat", sum := "f02e1d188744214284036ab7c82b6738d901d35c1e7193f872147316fdf50334", func := "factotum/factotumlaw14.FoldAll", spec := "foldAll", inPlace := ["math.Float64bits", "math.Float64frombits", "slices.overlaps[factotum/api.List]", "slices.overlaps[factotum/api.Task]", "slices.overlaps[string]"], unfollowed := true, recurses := true, apart := false, narrowed := true }
def FoldAllUptoSaid : Prop := foldAllUptoRow.holds Tryz.pinned (OpenSpec.upto foldAllSpec)

/-- 'factotumlaw14.FoldParts', WHERE WHAT IT READS IS OF BULK AT MOST 1048576: true; the input reads as it did. -/
def foldPartsUptoRow : OpenClaim := { program := "ytdjiiknefhepdaagreat", sum := "f02e1d188744214284036ab7c82b6738d901d35c1e7193f872147316fdf50334", func := "factotum/factotumlaw14.FoldParts", spec := "foldParts", inPlace := ["math.Float64bits", "math.Float64frombits", "slices.overlaps[factotum/api.List]", "slices.overlaps[factotum/api.Task]", "slices.overlaps[string]"], unfollowed := true, recurses := true, apart := false, narrowed := true }
def FoldPartsUptoSaid : Prop := foldPartsUptoRow.holds Tryz.pinned (OpenSpec.upto foldPartsSpec)

/-- 'factotumlaw14.FoldEach', WHERE WHAT IT READS IS OF BULK AT MOST 1048576: true; the input reads as it did. -/
def foldEachUptoRow : OpenClaim := { program := "ytdjiiknefhepdaagreat", sum := "f02e1d188744214284036ab7c82b6738d901d35c1e7193f872147316fdf50334", func := "factotum/factotumlaw14.FoldEach", spec := "foldEach", inPlace := ["math.Float64bits", "math.Float64frombits", "slices.overlaps[factotum/api.List]", "slices.overlaps[factotum/api.Task]", "slices.overlaps[string]"], unfollowed := true, recurses := true, apart := false, narrowed := true }
def FoldEachUptoSaid : Prop := foldEachUptoRow.holds Tryz.pinned (OpenSpec.upto foldEachSpec)

/-- 'factotumlaw14.FoldLines', WHERE WHAT IT READS IS OF BULK AT MOST 1048576: true; the input reads as it did. -/
def foldLinesUptoRow : OpenClaim := { program := "ytdjiiknefhepdaagreat", sum := "f02e1d188744214284036ab7c82b6738d901d35c1e7193f872147316fdf50334", func := "factotum/factotumlaw14.FoldLines", spec := "foldLines", inPlace := ["math.Float64bits", "math.Float64frombits", "slices.overlaps[factotum/api.List]", "slices.overlaps[factotum/api.Task]", "slices.overlaps[string]"], unfollowed := true, recurses := true, apart := false, narrowed := true }
def FoldLinesUptoSaid : Prop := foldLinesUptoRow.holds Tryz.pinned (OpenSpec.upto foldLinesSpec)

end Rows
end Go.Proofs.YtdjiiknefhepdaaGreat
