/-
  No cell of these rows narrows 'for every input' (looked for: loops, veiled, ifaces, maps, wideKeys, modest, calm, conditions, laid).
  DERIVED. THE GIVEN ROWS OF THIS SEAT. 3 by the template 'for every input the law returns true; each argument reads behind the call as it read before'; 0 by the template 'total and deterministic' (their statements: YtjaaehbllkbiaaaGreatTotals.lean).
  GIVEN WITH THE SEED: the statements are not yours to turn. If you find one false, say at which input.
  Laid BY PROGRAM, IN A SANDBOX (cutbox-rows.mjs): the forced cells as the released guide's own fill.sh prints them over the translation 4041fec78df82959… (all of the seat's roots in one cut). By AI agents, Wed Nov 11 2026. No macro, syntax, notation, axiom, sorry.
-/
import Derived.Test.YtjaaehbllkbiaaaGreatChecked
import GoSem.Claim
import GoSem.ClaimJoined
import GoSem.ClaimMapViews
import Derived.JoinedTies
import Derived.KernelRfl
namespace Go.Proofs.YtjaaehbllkbiaaaGreat
/- THE CELL 'sum', in the pinned program and in every row, IS THE sha256 OF THE DUMP (.gsa) THAT YtjaaehbllkbiaaaGreatProg.lean LOADS. Nothing in Lean hashes anything: it is a label: what it is worth is what the hold of that sum in a sandbox is worth. -/
noncomputable def Tryz.pinned : Pinned := { name := "ytjaaehbllkbiaaagreat", sum := "4041fec78df82959d4045cfaf7f14c339625cbd50fbc86abbdc02fff1761b8e5", checked := Tryz.checked }
namespace Rows
def none {H : Type} : Left H := { results := [], args := [] }

/-- 'factotumlaw11.MutateApplies': WHATEVER THE INPUT: true; the input reads as it did. -/
def mutateAppliesSpec : ChangeSpec := { name := "mutateApplies", fn := fun _ => fun
  | [d1, d2] => { results := [.lit (.bool true)], args := [d1, d2] }
  | _ => none }
def mutateAppliesRow : OpenClaim := { program := "ytjaaehbllkbiaaagreat", sum := "4041fec78df82959d4045cfaf7f14c339625cbd50fbc86abbdc02fff1761b8e5", func := "factotum/factotumlaw11.MutateApplies", spec := "mutateApplies", inPlace := ["math.Float64bits", "math.Float64frombits", "slices.overlaps[factotum/api.List]", "slices.overlaps[factotum/api.Task]", "slices.overlaps[string]"], unfollowed := true, recurses := true, apart := false }
def MutateAppliesSaid : Prop := mutateAppliesRow.holds Tryz.pinned (OpenSpec.ofChange mutateAppliesSpec)

/-- ITS FALSE NEIGHBOUR: 'it returns false'. Refute it at one input. -/
def mutateAppliesWrong : ChangeSpec := { name := "mutateApplies", fn := fun _ => fun
  | [d1, d2] => { results := [.lit (.bool false)], args := [d1, d2] }
  | _ => none }
def MutateAppliesWrongFalsely : Prop := mutateAppliesRow.holds Tryz.pinned (OpenSpec.ofChange mutateAppliesWrong)

/-- 'factotumlaw11.MutateRight': WHATEVER THE INPUT: true; the input reads as it did. -/
def mutateRightSpec : ChangeSpec := { name := "mutateRight", fn := fun _ => fun
  | [d1, d2] => { results := [.lit (.bool true)], args := [d1, d2] }
  | _ => none }
def mutateRightRow : OpenClaim := { program := "ytjaaehbllkbiaaagreat", sum := "4041fec78df82959d4045cfaf7f14c339625cbd50fbc86abbdc02fff1761b8e5", func := "factotum/factotumlaw11.MutateRight", spec := "mutateRight", inPlace := ["math.Float64bits", "math.Float64frombits", "slices.overlaps[factotum/api.List]", "slices.overlaps[factotum/api.Task]", "slices.overlaps[string]"], unfollowed := true, recurses := true, apart := false }
def MutateRightSaid : Prop := mutateRightRow.holds Tryz.pinned (OpenSpec.ofChange mutateRightSpec)

/-- ITS FALSE NEIGHBOUR: 'it returns false'. Refute it at one input. -/
def mutateRightWrong : ChangeSpec := { name := "mutateRight", fn := fun _ => fun
  | [d1, d2] => { results := [.lit (.bool false)], args := [d1, d2] }
  | _ => none }
def MutateRightWrongFalsely : Prop := mutateRightRow.holds Tryz.pinned (OpenSpec.ofChange mutateRightWrong)

/-- 'factotumlaw11.MutateElse': WHATEVER THE INPUT: true; the input reads as it did. -/
def mutateElseSpec : ChangeSpec := { name := "mutateElse", fn := fun _ => fun
  | [d1, d2] => { results := [.lit (.bool true)], args := [d1, d2] }
  | _ => none }
def mutateElseRow : OpenClaim := { program := "ytjaaehbllkbiaaagreat", sum := "4041fec78df82959d4045cfaf7f14c339625cbd50fbc86abbdc02fff1761b8e5", func := "factotum/factotumlaw11.MutateElse", spec := "mutateElse", inPlace := ["math.Float64bits", "math.Float64frombits", "slices.overlaps[factotum/api.List]", "slices.overlaps[factotum/api.Task]", "slices.overlaps[string]"], unfollowed := true, recurses := true, apart := false }
def MutateElseSaid : Prop := mutateElseRow.holds Tryz.pinned (OpenSpec.ofChange mutateElseSpec)

/-- ITS FALSE NEIGHBOUR: 'it returns false'. Refute it at one input. -/
def mutateElseWrong : ChangeSpec := { name := "mutateElse", fn := fun _ => fun
  | [d1, d2] => { results := [.lit (.bool false)], args := [d1, d2] }
  | _ => none }
def MutateElseWrongFalsely : Prop := mutateElseRow.holds Tryz.pinned (OpenSpec.ofChange mutateElseWrong)

/- THE SECOND FORM. 'bulk': how many values and letters a reading holds, each counted each time it is reached (what is shared counts as often as it is met; a slice's spare places count too). A statement '..UptoSaid' is the law's where the arguments, and the package variables that the reading takes, are together of bulk at most 1048576: NARROWER than '..Said'. Prove '..Said' where nothing that the law and all that it calls make is longer than what came in: it says more and counts as full. Else prove '..UptoSaid'. A law counts once. -/
mutual
def uptoBulk {H : Type} : DataW H → Nat
  | .lit (.string bytes) => bytes.length + 1
  | .lit _ => 1
  | .nil => 1
  | .ptr d => uptoBulk d + 1
  | .slice elems spare => uptoBulkAll elems + uptoBulkAll spare + 1
  | .agg parts => uptoBulkAll parts + 1
  | .iface _ d => uptoBulk d + 1
  | .map entries => uptoBulkEntries entries + 1
  | .held _ => 1
def uptoBulkAll {H : Type} : List (DataW H) → Nat
  | [] => 0
  | d :: r => uptoBulk d + uptoBulkAll r
def uptoBulkEntries {H : Type} : List (Lit × DataW H) → Nat
  | [] => 0
  | x :: r => uptoBulkEntry x + uptoBulkEntries r
def uptoBulkEntry {H : Type} : Lit × DataW H → Nat
  | (.string bytes, d) => bytes.length + uptoBulk d + 1
  | (_, d) => uptoBulk d + 1
 end
def uptoSmall : (H : Type) → List (DataW H) → Bool := fun _ ds => decide (uptoBulkAll ds ≤ 1048576)
def OpenSpec.upto (s : _root_.Go.ChangeSpec) : _root_.Go.OpenSpec := { _root_.Go.OpenSpec.ofChange s with cond := some uptoSmall }

/-- 'factotumlaw11.MutateApplies', WHERE WHAT IT READS IS OF BULK AT MOST 1048576: true; the input reads as it did. -/
def mutateAppliesUptoRow : OpenClaim := { program := "ytjaaehbllkbiaaagreat", sum := "4041fec78df82959d4045cfaf7f14c339625cbd50fbc86abbdc02fff1761b8e5", func := "factotum/factotumlaw11.MutateApplies", spec := "mutateApplies", inPlace := ["math.Float64bits", "math.Float64frombits", "slices.overlaps[factotum/api.List]", "slices.overlaps[factotum/api.Task]", "slices.overlaps[string]"], unfollowed := true, recurses := true, apart := false, narrowed := true }
def MutateAppliesUptoSaid : Prop := mutateAppliesUptoRow.holds Tryz.pinned (OpenSpec.upto mutateAppliesSpec)

/-- 'factotumlaw11.MutateRight', WHERE WHAT IT READS IS OF BULK AT MOST 1048576: true; the input reads as it did. -/
def mutateRightUptoRow : OpenClaim := { program := "ytjaaehbllkbiaaagreat", sum := "4041fec78df82959d4045cfaf7f14c339625cbd50fbc86abbdc02fff1761b8e5", func := "factotum/factotumlaw11.MutateRight", spec := "mutateRight", inPlace := ["math.Float64bits", "math.Float64frombits", "slices.overlaps[factotum/api.List]", "slices.overlaps[factotum/api.Task]", "slices.overlaps[string]"], unfollowed := true, recurses := true, apart := false, narrowed := true }
def MutateRightUptoSaid : Prop := mutateRightUptoRow.holds Tryz.pinned (OpenSpec.upto mutateRightSpec)

/-- 'factotumlaw11.MutateElse', WHERE WHAT IT READS IS OF BULK AT MOST 1048576: true; the input reads as it did. -/
def mutateElseUptoRow : OpenClaim := { program := "ytjaaehbllkbiaaagreat", sum := "4041fec78df82959d4045cfaf7f14c339625cbd50fbc86abbdc02fff1761b8e5", func := "factotum/factotumlaw11.MutateElse", spec := "mutateElse", inPlace := ["math.Float64bits", "math.Float64frombits", "slices.overlaps[factotum/api.List]", "slices.overlaps[factotum/api.Task]", "slices.overlaps[string]"], unfollowed := true, recurses := true, apart := false, narrowed := true }
def MutateElseUptoSaid : Prop := mutateElseUptoRow.holds Tryz.pinned (OpenSpec.upto mutateElseSpec)

end Rows
end Go.Proofs.YtjaaehbllkbiaaaGreat
