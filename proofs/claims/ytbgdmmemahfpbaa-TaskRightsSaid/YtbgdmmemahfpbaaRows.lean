/-
  No cell of these rows narrows 'for every input' (looked for: loops, veiled, ifaces, maps, wideKeys, modest, calm, conditions, laid).
  DERIVED. THE GIVEN ROWS OF THIS SEAT. 4 by the template 'for every input the law returns true; each argument reads behind the call as it read before'; 0 by the template 'total and deterministic' (their statements: YtbgdmmemahfpbaaTotals.lean).
  GIVEN WITH THE SEED: the statements are not yours to turn. If you find one false, say at which input.
  Laid BY PROGRAM, IN A SANDBOX (cutbox-rows.mjs): the forced cells as the released guide's own fill.sh prints them over the translation 6629dab77ac040ce… (all of the seat's roots in one cut). By AI agents, Wed Nov 11 2026. No macro, syntax, notation, axiom, sorry.
-/
import Derived.Test.YtbgdmmemahfpbaaChecked
import GoSem.Claim
import GoSem.ClaimJoined
import GoSem.ClaimMapViews
import Derived.JoinedTies
import Derived.KernelRfl
namespace Go.Proofs.Ytbgdmmemahfpbaa
/- THE CELL 'sum', in the pinned program and in every row, IS THE sha256 OF THE DUMP (.gsa) THAT YtbgdmmemahfpbaaProg.lean LOADS. Nothing in Lean hashes anything: it is a label: what it is worth is what the hold of that sum in a sandbox is worth. -/
noncomputable def Try.pinned : Pinned := { name := "ytbgdmmemahfpbaa", sum := "6629dab77ac040ceb5649b535dc68a2dcc0644f95d50cf7cae5ac7ccbf2581dd", checked := Try.checked }
namespace Rows
def none {H : Type} : Left H := { results := [], args := [] }

/-- 'factotumlaw09.TaskRights': WHATEVER THE INPUT: true; the input reads as it did. -/
def taskRightsSpec : ChangeSpec := { name := "taskRights", fn := fun _ => fun
  | [d] => { results := [.lit (.bool true)], args := [d] }
  | _ => none }
def taskRightsRow : OpenClaim := { program := "ytbgdmmemahfpbaa", sum := "6629dab77ac040ceb5649b535dc68a2dcc0644f95d50cf7cae5ac7ccbf2581dd", func := "factotum/factotumlaw09.TaskRights", spec := "taskRights", inPlace := ["math.Float64bits", "math.Float64frombits"], unfollowed := true, recurses := true, apart := false }
def TaskRightsSaid : Prop := taskRightsRow.holds Try.pinned (OpenSpec.ofChange taskRightsSpec)

/-- ITS FALSE NEIGHBOUR: 'it returns false'. Refute it at one input. -/
def taskRightsWrong : ChangeSpec := { name := "taskRights", fn := fun _ => fun
  | [d] => { results := [.lit (.bool false)], args := [d] }
  | _ => none }
def TaskRightsWrongFalsely : Prop := taskRightsRow.holds Try.pinned (OpenSpec.ofChange taskRightsWrong)

/-- 'factotumlaw09.TaskFinds': WHATEVER THE INPUT: true; the input reads as it did. -/
def taskFindsSpec : ChangeSpec := { name := "taskFinds", fn := fun _ => fun
  | [d1, d2, d3, d4] => { results := [.lit (.bool true)], args := [d1, d2, d3, d4] }
  | _ => none }
def taskFindsRow : OpenClaim := { program := "ytbgdmmemahfpbaa", sum := "6629dab77ac040ceb5649b535dc68a2dcc0644f95d50cf7cae5ac7ccbf2581dd", func := "factotum/factotumlaw09.TaskFinds", spec := "taskFinds", inPlace := ["math.Float64bits", "math.Float64frombits"], unfollowed := true, recurses := true, apart := false }
def TaskFindsSaid : Prop := taskFindsRow.holds Try.pinned (OpenSpec.ofChange taskFindsSpec)

/-- ITS FALSE NEIGHBOUR: 'it returns false'. Refute it at one input. -/
def taskFindsWrong : ChangeSpec := { name := "taskFinds", fn := fun _ => fun
  | [d1, d2, d3, d4] => { results := [.lit (.bool false)], args := [d1, d2, d3, d4] }
  | _ => none }
def TaskFindsWrongFalsely : Prop := taskFindsRow.holds Try.pinned (OpenSpec.ofChange taskFindsWrong)

/-- 'factotumlaw09.TaskPuts': WHATEVER THE INPUT: true; the input reads as it did. -/
def taskPutsSpec : ChangeSpec := { name := "taskPuts", fn := fun _ => fun
  | [d1, d2] => { results := [.lit (.bool true)], args := [d1, d2] }
  | _ => none }
def taskPutsRow : OpenClaim := { program := "ytbgdmmemahfpbaa", sum := "6629dab77ac040ceb5649b535dc68a2dcc0644f95d50cf7cae5ac7ccbf2581dd", func := "factotum/factotumlaw09.TaskPuts", spec := "taskPuts", inPlace := ["math.Float64bits", "math.Float64frombits"], unfollowed := true, recurses := true, apart := false }
def TaskPutsSaid : Prop := taskPutsRow.holds Try.pinned (OpenSpec.ofChange taskPutsSpec)

/-- ITS FALSE NEIGHBOUR: 'it returns false'. Refute it at one input. -/
def taskPutsWrong : ChangeSpec := { name := "taskPuts", fn := fun _ => fun
  | [d1, d2] => { results := [.lit (.bool false)], args := [d1, d2] }
  | _ => none }
def TaskPutsWrongFalsely : Prop := taskPutsRow.holds Try.pinned (OpenSpec.ofChange taskPutsWrong)

/-- 'factotumlaw09.TaskBack': WHATEVER THE INPUT: true; the input reads as it did. -/
def taskBackSpec : ChangeSpec := { name := "taskBack", fn := fun _ => fun
  | [d1, d2] => { results := [.lit (.bool true)], args := [d1, d2] }
  | _ => none }
def taskBackRow : OpenClaim := { program := "ytbgdmmemahfpbaa", sum := "6629dab77ac040ceb5649b535dc68a2dcc0644f95d50cf7cae5ac7ccbf2581dd", func := "factotum/factotumlaw09.TaskBack", spec := "taskBack", inPlace := ["math.Float64bits", "math.Float64frombits"], unfollowed := true, recurses := true, apart := false }
def TaskBackSaid : Prop := taskBackRow.holds Try.pinned (OpenSpec.ofChange taskBackSpec)

/-- ITS FALSE NEIGHBOUR: 'it returns false'. Refute it at one input. -/
def taskBackWrong : ChangeSpec := { name := "taskBack", fn := fun _ => fun
  | [d1, d2] => { results := [.lit (.bool false)], args := [d1, d2] }
  | _ => none }
def TaskBackWrongFalsely : Prop := taskBackRow.holds Try.pinned (OpenSpec.ofChange taskBackWrong)

/- THE SECOND FORM. 'bulk': how many values and letters a reading holds, each counted each time it is reached (what is shared counts as often as it is met; a slice's spare places count too). A statement '..UptoSaid' is the law's where the arguments, and the package variables that the reading takes, are together of bulk at most 1048576: NARROWER than '..Said'. Prove '..Said' where nothing that the law and all that it calls make is longer than what came in: it says more and counts as full. Else prove '..UptoSaid'. A law counts once. -/
mutual
def uptoBulk {H : Type} : DataW H → Nat
  | .lit (.string bytes) => bytes.length + 1
  | .lit _ => 1
  | .nil => 1
  | .ptr d => uptoBulk d + 1
  | .slice elems spare => uptoBulkAll elems + uptoBulkAll spare + 1
  | .agg parts => uptoBulkAll parts + 1
  | .iface _ d => uptoBulk d + 1
  | .map entries => uptoBulkEntries entries + 1
  | .held _ => 1
def uptoBulkAll {H : Type} : List (DataW H) → Nat
  | [] => 0
  | d :: r => uptoBulk d + uptoBulkAll r
def uptoBulkEntries {H : Type} : List (Lit × DataW H) → Nat
  | [] => 0
  | x :: r => uptoBulkEntry x + uptoBulkEntries r
def uptoBulkEntry {H : Type} : Lit × DataW H → Nat
  | (.string bytes, d) => bytes.length + uptoBulk d + 1
  | (_, d) => uptoBulk d + 1
 end
def uptoSmall : (H : Type) → List (DataW H) → Bool := fun _ ds => decide (uptoBulkAll ds ≤ 1048576)
def OpenSpec.upto (s : _root_.Go.ChangeSpec) : _root_.Go.OpenSpec := { _root_.Go.OpenSpec.ofChange s with cond := some uptoSmall }

/-- 'factotumlaw09.TaskRights', WHERE WHAT IT READS IS OF BULK AT MOST 1048576: true; the input reads as it did. -/
def taskRightsUptoRow : OpenClaim := { program := "ytbgdmmemahfpbaa", sum := "6629dab77ac040ceb5649b535dc68a2dcc0644f95d50cf7cae5ac7ccbf2581dd", func := "factotum/factotumlaw09.TaskRights", spec := "taskRights", inPlace := ["math.Float64bits", "math.Float64frombits"], unfollowed := true, recurses := true, apart := false, narrowed := true }
def TaskRightsUptoSaid : Prop := taskRightsUptoRow.holds Try.pinned (OpenSpec.upto taskRightsSpec)

/-- 'factotumlaw09.TaskFinds', WHERE WHAT IT READS IS OF BULK AT MOST 1048576: true; the input reads as it did. -/
def taskFindsUptoRow : OpenClaim := { program := "ytbgdmmemahfpbaa", sum := "6629dab77ac040ceb5649b535dc68a2dcc0644f95d50cf7cae5ac7ccbf2581dd", func := "factotum/factotumlaw09.TaskFinds", spec := "taskFinds", inPlace := ["math.Float64bits", "math.Float64frombits"], unfollowed := true, recurses := true, apart := false, narrowed := true }
def TaskFindsUptoSaid : Prop := taskFindsUptoRow.holds Try.pinned (OpenSpec.upto taskFindsSpec)

/-- 'factotumlaw09.TaskPuts', WHERE WHAT IT READS IS OF BULK AT MOST 1048576: true; the input reads as it did. -/
def taskPutsUptoRow : OpenClaim := { program := "ytbgdmmemahfpbaa", sum := "6629dab77ac040ceb5649b535dc68a2dcc0644f95d50cf7cae5ac7ccbf2581dd", func := "factotum/factotumlaw09.TaskPuts", spec := "taskPuts", inPlace := ["math.Float64bits", "math.Float64frombits"], unfollowed := true, recurses := true, apart := false, narrowed := true }
def TaskPutsUptoSaid : Prop := taskPutsUptoRow.holds Try.pinned (OpenSpec.upto taskPutsSpec)

/-- 'factotumlaw09.TaskBack', WHERE WHAT IT READS IS OF BULK AT MOST 1048576: true; the input reads as it did. -/
def taskBackUptoRow : OpenClaim := { program := "ytbgdmmemahfpbaa", sum := "6629dab77ac040ceb5649b535dc68a2dcc0644f95d50cf7cae5ac7ccbf2581dd", func := "factotum/factotumlaw09.TaskBack", spec := "taskBack", inPlace := ["math.Float64bits", "math.Float64frombits"], unfollowed := true, recurses := true, apart := false, narrowed := true }
def TaskBackUptoSaid : Prop := taskBackUptoRow.holds Try.pinned (OpenSpec.upto taskBackSpec)

end Rows
end Go.Proofs.Ytbgdmmemahfpbaa
