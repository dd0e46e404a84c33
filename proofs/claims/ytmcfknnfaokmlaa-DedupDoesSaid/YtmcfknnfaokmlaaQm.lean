/- Stage 12: maps.Keys, slices.AppendSeq, slices.Collect, slices.Sorted at uint64 (written by wip/gen12um.py). -/
import Derived.Test.YtmcfknnfaokmlaaQl
namespace Go.Proofs.Ytmcfknnfaokmlaa
set_option maxRecDepth 100000
section
open Go.RowKit Go.Shelf Go.Maps Go.Lib Go.Sort
theorem qcell {w : World} {g : Nat} {a : Value} {t : TypeId} {fr : Nat × Nat} (h : w.heap[g]? = some (.cells #[a] t fr)) : w.cell? ⟨g, 0, none⟩ = some a := by simp [World.cell?, h]

end
end Go.Proofs.Ytmcfknnfaokmlaa
