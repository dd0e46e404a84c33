import Derived.Test.YtpphmbfghfmdlaaGreatY22
import Derived.Test.YtpphmbfghfmdlaaGreatY37
import Derived.Test.YtpphmbfghfmdlaaGreatY21
import Derived.Laws.IdiomStrings
import Derived.Lib.SliceRun
import Derived.Laws.BitsAllLaws
namespace Go.Proofs.YtpphmbfghfmdlaaGreat
set_option linter.unusedSimpArgs false
set_option maxRecDepth 100000
section
section
section
open Go.RowKit
section
variable {g B p : Nat} {w w' : World} {l : List UInt8}
end
end
end
section
open Go.RowKit
end
end
section
section
open Go.RowKit
def RS (t : TypeId) (B : Nat) (tb : TypeId) (w : World) (p : Nat) (s : Option (List UInt8)) : Prop :=
 B ≤ p ∧ match s with
 | none => w.heap[p]? = some (.cells #[.slice none 0 0, .bool true] t (0, 0))
 | some l => ∃ A c, l.length ≤ c ∧ w.heap[p]? = some (.cells #[.slice A l.length c, .bool false] t (0, 0)) ∧ Lies w B tb A (bcells l)
section
variable {t tb : TypeId} {B p : Nat} {w w' : World} {s : Option (List UInt8)}
theorem RS.tch (h : RS t B tb w p s) {ts : List TypeId} (hT : Tch B ts w w') (h1 : t ∉ ts) (h2 : tb ∉ ts) : RS t B tb w' p s := by
 refine ⟨h.1, ?_⟩
 cases s with
 | none => exact hT.blk h.2 h1
 | some l =>
  obtain ⟨_, A, c, hc, hp, hL⟩ := h
  exact ⟨A, c, hc, hT.blk hp h1, hL.tch hT h2⟩
theorem RS.size (h : RS t B tb w p s) : B ≤ w.heap.size := by
 obtain ⟨hB, h⟩ := h
 cases s with
 | none => have := lt_of_block h; omega
 | some l =>
  obtain ⟨A, c, _, hp, _⟩ := h
  have := lt_of_block hp
  omega
theorem RS.below (h : RS t B tb w p s) (hT : Below w.heap.size w w') : RS t B tb w' p s := h.tch (Tch.of_below hT h.size []) (by simp) (by simp)
end
def tk (n : Nat) : Option (List UInt8) → List UInt8
 | none => []
 | some l => if n ≤ l.length then l.take n else []
end
section
open Go.RowKit
end
end
end Go.Proofs.YtpphmbfghfmdlaaGreat
