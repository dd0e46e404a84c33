/- What frame.Put and frame.Only return: bytes and an error's number; what Only is of plain bytes. -/
import Derived.Test.YtlemhagckmfpoaaFr
import Derived.Test.YtlemhagckmfpoaaBy
namespace Go.Proofs.Ytlemhagckmfpoaa
open Go.RowKit

namespace Fr
/-- The body of bytes that are one frame and nothing else. -/
def only (l : List UInt8) : Option (List UInt8) :=
  match unf l with
  | none => none
  | some b => if 7 + b.length = l.length then some b else none
def onlyErr (l : List UInt8) : Int := if (only l).isSome then 0 else 40
def onlyB (l : List UInt8) : List UInt8 := (only l).getD []
theorem only_none {l : List UInt8} (h : unf l = none) : onlyErr l = 40 ∧ onlyB l = [] := by
  have e : only l = none := by unfold only; rw [h]
  unfold onlyErr onlyB
  rw [e]
  exact ⟨rfl, rfl⟩
theorem only_long {l b : List UInt8} (h : unf l = some b) (hl : ¬ 7 + b.length = l.length) : onlyErr l = 40 ∧ onlyB l = [] := by
  have e : only l = none := by unfold only; rw [h]; exact if_neg hl
  unfold onlyErr onlyB
  rw [e]
  exact ⟨rfl, rfl⟩
theorem only_some {l b : List UInt8} (h : unf l = some b) (hl : 7 + b.length = l.length) : onlyErr l = 0 ∧ onlyB l = b := by
  have e : only l = some b := by unfold only; rw [h]; exact if_pos hl
  unfold onlyErr onlyB
  rw [e]
  exact ⟨rfl, rfl⟩
theorem frame_a : frame [97] = [165, 0, 1, 97] ++ Cd.fix (Crc.sum [0, 1, 97]) 4 := rfl
end Fr
end Go.Proofs.Ytlemhagckmfpoaa
