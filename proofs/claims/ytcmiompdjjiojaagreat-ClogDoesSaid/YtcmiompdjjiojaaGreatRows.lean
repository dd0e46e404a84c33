/-
  No cell of these rows narrows 'for every input' (looked for: loops, veiled, ifaces, maps, wideKeys, modest, calm, conditions, laid).
  DERIVED. THE GIVEN ROWS OF THIS SEAT. 3 by the template 'for every input the law returns true; each argument reads behind the call as it read before'; 0 by the template 'total and deterministic' (their statements: YtcmiompdjjiojaaGreatTotals.lean).
  GIVEN WITH THE SEED: the statements are not yours to turn. If you find one false, say at which input.
  Laid BY PROGRAM, IN A SANDBOX (cutbox-rows.mjs): the forced cells as the released guide's own fill.sh prints them over the translation 4759843df92ed8db… (all of the seat's roots in one cut). By AI agents, Wed Nov 11 2026. No macro, syntax, notation, axiom, sorry.
-/
import Derived.Test.YtcmiompdjjiojaaGreatChecked
import GoSem.Claim
import GoSem.ClaimJoined
import GoSem.ClaimMapViews
import Derived.JoinedTies
import Derived.KernelRfl
namespace Go.Proofs.YtcmiompdjjiojaaGreat
/- THE CELL 'sum', in the pinned program and in every row, IS THE sha256 OF THE DUMP (.gsa) THAT YtcmiompdjjiojaaGreatProg.lean LOADS. Nothing in Lean hashes anything: it is a label: what it is worth is what the hold of that sum in a sandbox is worth. -/
noncomputable def Tryz.pinned : Pinned := { name := "ytcmiompdjjiojaagreat", sum := "4759843df92ed8db9f35e13ea66f31410b4ff778a65df1dd19239fa5b2a62edd", checked := Tryz.checked }
namespace Rows
def none {H : Type} : Left H := { results := [], args := [] }

/-- 'factotumlaw17.ClogDoes': WHATEVER THE INPUT: true; the input reads as it did. -/
def clogDoesSpec : ChangeSpec := { name := "clogDoes", fn := fun _ => fun
  | [d1, d2, d3, d4, d5, d6, d7] => { results := [.lit (.bool true)], args := [d1, d2, d3, d4, d5, d6, d7] }
  | _ => none }
def clogDoesRow : OpenClaim := { program := "ytcmiompdjjiojaagreat", sum := "4759843df92ed8db9f35e13ea66f31410b4ff778a65df1dd19239fa5b2a62edd", func := "factotum/factotumlaw17.ClogDoes", spec := "clogDoes", inPlace := ["math.Float64bits", "math.Float64frombits", "slices.overlaps[factotum/api.List]", "slices.overlaps[factotum/api.Task]", "slices.overlaps[string]"], unfollowed := true, recurses := true, apart := false }
def ClogDoesSaid : Prop := clogDoesRow.holds Tryz.pinned (OpenSpec.ofChange clogDoesSpec)

/-- ITS FALSE NEIGHBOUR: 'it returns false'. Refute it at one input. -/
def clogDoesWrong : ChangeSpec := { name := "clogDoes", fn := fun _ => fun
  | [d1, d2, d3, d4, d5, d6, d7] => { results := [.lit (.bool false)], args := [d1, d2, d3, d4, d5, d6, d7] }
  | _ => none }
def ClogDoesWrongFalsely : Prop := clogDoesRow.holds Tryz.pinned (OpenSpec.ofChange clogDoesWrong)

/-- 'factotumlaw17.ClogUnseen': WHATEVER THE INPUT: true; the input reads as it did. -/
def clogUnseenSpec : ChangeSpec := { name := "clogUnseen", fn := fun _ => fun
  | [d1, d2, d3, d4, d5, d6] => { results := [.lit (.bool true)], args := [d1, d2, d3, d4, d5, d6] }
  | _ => none }
def clogUnseenRow : OpenClaim := { program := "ytcmiompdjjiojaagreat", sum := "4759843df92ed8db9f35e13ea66f31410b4ff778a65df1dd19239fa5b2a62edd", func := "factotum/factotumlaw17.ClogUnseen", spec := "clogUnseen", inPlace := ["math.Float64bits", "math.Float64frombits", "slices.overlaps[factotum/api.List]", "slices.overlaps[factotum/api.Task]", "slices.overlaps[string]"], unfollowed := true, recurses := true, apart := false }
def ClogUnseenSaid : Prop := clogUnseenRow.holds Tryz.pinned (OpenSpec.ofChange clogUnseenSpec)

/-- ITS FALSE NEIGHBOUR: 'it returns false'. Refute it at one input. -/
def clogUnseenWrong : ChangeSpec := { name := "clogUnseen", fn := fun _ => fun
  | [d1, d2, d3, d4, d5, d6] => { results := [.lit (.bool false)], args := [d1, d2, d3, d4, d5, d6] }
  | _ => none }
def ClogUnseenWrongFalsely : Prop := clogUnseenRow.holds Tryz.pinned (OpenSpec.ofChange clogUnseenWrong)

/-- 'factotumlaw17.ClogStates': WHATEVER THE INPUT: true; the input reads as it did. -/
def clogStatesSpec : ChangeSpec := { name := "clogStates", fn := fun _ => fun
  | [d1, d2, d3, d4, d5] => { results := [.lit (.bool true)], args := [d1, d2, d3, d4, d5] }
  | _ => none }
def clogStatesRow : OpenClaim := { program := "ytcmiompdjjiojaagreat", sum := "4759843df92ed8db9f35e13ea66f31410b4ff778a65df1dd19239fa5b2a62edd", func := "factotum/factotumlaw17.ClogStates", spec := "clogStates", inPlace := ["math.Float64bits", "math.Float64frombits", "slices.overlaps[factotum/api.List]", "slices.overlaps[factotum/api.Task]", "slices.overlaps[string]"], unfollowed := true, recurses := true, apart := false }
def ClogStatesSaid : Prop := clogStatesRow.holds Tryz.pinned (OpenSpec.ofChange clogStatesSpec)

/-- ITS FALSE NEIGHBOUR: 'it returns false'. Refute it at one input. -/
def clogStatesWrong : ChangeSpec := { name := "clogStates", fn := fun _ => fun
  | [d1, d2, d3, d4, d5] => { results := [.lit (.bool false)], args := [d1, d2, d3, d4, d5] }
  | _ => none }
def ClogStatesWrongFalsely : Prop := clogStatesRow.holds Tryz.pinned (OpenSpec.ofChange clogStatesWrong)

/- THE SECOND FORM. 'bulk': how many values and letters a reading holds, each counted each time it is reached (what is shared counts as often as it is met; a slice's spare places count too). A statement '..UptoSaid' is the law's where the arguments, and the package variables that the reading takes, are together of bulk at most 1048576: NARROWER than '..Said'. Prove '..Said' where nothing that the law and all that it calls make is longer than what came in: it says more and counts as full. Else prove '..UptoSaid'. A law counts once. -/
mutual
def uptoBulk {H : Type} : DataW H → Nat
  | .lit (.string bytes) => bytes.length + 1
  | .lit _ => 1
  | .nil => 1
  | .ptr d => uptoBulk d + 1
  | .slice elems spare => uptoBulkAll elems + uptoBulkAll spare + 1
  | .agg parts => uptoBulkAll parts + 1
  | .iface _ d => uptoBulk d + 1
  | .map entries => uptoBulkEntries entries + 1
  | .held _ => 1
def uptoBulkAll {H : Type} : List (DataW H) → Nat
  | [] => 0
  | d :: r => uptoBulk d + uptoBulkAll r
def uptoBulkEntries {H : Type} : List (Lit × DataW H) → Nat
  | [] => 0
  | x :: r => uptoBulkEntry x + uptoBulkEntries r
def uptoBulkEntry {H : Type} : Lit × DataW H → Nat
  | (.string bytes, d) => bytes.length + uptoBulk d + 1
  | (_, d) => uptoBulk d + 1
 end
def uptoSmall : (H : Type) → List (DataW H) → Bool := fun _ ds => decide (uptoBulkAll ds ≤ 1048576)
def OpenSpec.upto (s : _root_.Go.ChangeSpec) : _root_.Go.OpenSpec := { _root_.Go.OpenSpec.ofChange s with cond := some uptoSmall }

/-- 'factotumlaw17.ClogDoes', WHERE WHAT IT READS IS OF BULK AT MOST 1048576: true; the input reads as it did. -/
def clogDoesUptoRow : OpenClaim := { program := "ytcmiompdjjiojaagreat", sum := "4759843df92ed8db9f35e13ea66f31410b4ff778a65df1dd19239fa5b2a62edd", func := "factotum/factotumlaw17.ClogDoes", spec := "clogDoes", inPlace := ["math.Float64bits", "math.Float64frombits", "slices.overlaps[factotum/api.List]", "slices.overlaps[factotum/api.Task]", "slices.overlaps[string]"], unfollowed := true, recurses := true, apart := false, narrowed := true }
def ClogDoesUptoSaid : Prop := clogDoesUptoRow.holds Tryz.pinned (OpenSpec.upto clogDoesSpec)

/-- 'factotumlaw17.ClogUnseen', WHERE WHAT IT READS IS OF BULK AT MOST 1048576: true; the input reads as it did. -/
def clogUnseenUptoRow : OpenClaim := { program := "ytcmiompdjjiojaagreat", sum := "4759843df92ed8db9f35e13ea66f31410b4ff778a65df1dd19239fa5b2a62edd", func := "factotum/factotumlaw17.ClogUnseen", spec := "clogUnseen", inPlace := ["math.Float64bits", "math.Float64frombits", "slices.overlaps[factotum/api.List]", "slices.overlaps[factotum/api.Task]", "slices.overlaps[string]"], unfollowed := true, recurses := true, apart := false, narrowed := true }
def ClogUnseenUptoSaid : Prop := clogUnseenUptoRow.holds Tryz.pinned (OpenSpec.upto clogUnseenSpec)

/-- 'factotumlaw17.ClogStates', WHERE WHAT IT READS IS OF BULK AT MOST 1048576: true; the input reads as it did. -/
def clogStatesUptoRow : OpenClaim := { program := "ytcmiompdjjiojaagreat", sum := "4759843df92ed8db9f35e13ea66f31410b4ff778a65df1dd19239fa5b2a62edd", func := "factotum/factotumlaw17.ClogStates", spec := "clogStates", inPlace := ["math.Float64bits", "math.Float64frombits", "slices.overlaps[factotum/api.List]", "slices.overlaps[factotum/api.Task]", "slices.overlaps[string]"], unfollowed := true, recurses := true, apart := false, narrowed := true }
def ClogStatesUptoSaid : Prop := clogStatesUptoRow.holds Tryz.pinned (OpenSpec.upto clogStatesSpec)

end Rows
end Go.Proofs.YtcmiompdjjiojaaGreat
