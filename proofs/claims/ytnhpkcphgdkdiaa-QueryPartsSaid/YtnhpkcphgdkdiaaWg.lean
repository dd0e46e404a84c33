/- Bytes written of a string (a Writer whose own bytes lie elsewhere than in a block), of no program's own. The document's Fixed, N and B, where a block is to stay as it is that none of the caller's own bytes lie in (bytes of a string laid ahead of them). -/
import Derived.Test.YtnhpkcphgdkdiaaEa
import Derived.Test.YtnhpkcphgdkdiaaCw
import Derived.Laws.IdiomStrings
namespace Go.Proofs.Ytnhpkcphgdkdiaa
set_option maxRecDepth 100000

section
section
open Go.RowKit

theorem lies_str (l : List UInt8) (c : Nat) (w : World) {fr : Nat × Nat} : Lies (w.alloc (.cells (bytesRow (str l) c) 5 fr)) 0 5 (some ⟨w.heap.size, 0, none⟩) (bcells l) := by
  have h := Lies.of_blk (B := 0) (heap_alloc_new w (.cells (bytesRow (str l) c) 5 fr))
  have e : (bytesRow (str l) c).toList = bcells l ++ List.replicate (c - l.length) (.int .u8 0) := by
    unfold bytesRow
    rw [Array.toList_append, Array.toList_replicate, Array.toList_map]
    rfl
  rw [e] at h
  have q := h.take l.length
  rwa [List.take_left' (bcells_len l)] at q

section
variable {g B p : Nat} {w w' : World} {l : List UInt8}
end

theorem lies_str_at (l : List UInt8) (c : Nat) (w0 : World) {fr : Nat × Nat} {g : Nat} (hg : g = w0.heap.size) : Lies (w0.alloc (.cells (bytesRow (str l) c) 5 fr)).drew 0 5 (some ⟨g, 0, none⟩) (bcells l) := by
  subst hg
  exact lies_str l c w0
end
end

section
open Go.RowKit

/-- Bytes of a call's own, elsewhere than in block g, which is as it was. -/
def AppG (g B : Nat) (l : List UInt8) (w : World) (e : Ending) (w' : World) : Prop :=
  ∃ A n c, e = .returned (.slice A n c) ∧ w'.ownsRow B 5 1 (.slice A n c) l.length (bcells l) ∧ Tch B [5] w w' ∧ w'.heap[g]? = w.heap[g]? ∧ ∀ k, (Value.slice A n c).ownBlock = some k → k ≠ g

theorem apart_app {g z : Nat} {v v' : Value} (hne : ∀ k, v.ownBlock = some k → k ≠ g) (hor : v'.ownBlock = v.ownBlock ∨ v'.ownBlock = some z) (hz : g < z) : ∀ k, v'.ownBlock = some k → k ≠ g := by
  intro k hk e
  rcases hor with q | q
  · exact hne k (q.symm.trans hk) e
  · rw [q] at hk
    injection hk with hk
    omega

end
end Go.Proofs.Ytnhpkcphgdkdiaa
