import Derived.Test.YtpphmbfghfmdlaaGreatY24
import Derived.Test.YtpphmbfghfmdlaaGreatY30
namespace Go.Proofs.YtpphmbfghfmdlaaGreat
set_option linter.unusedSimpArgs false
set_option maxRecDepth 100000
section
section
open Go.RowKit Go.Lib
namespace T9
def tc (c : UInt8) : Bool := decide (32 ≤ c.toNat ∧ c.toNat ≤ 126)
def gc (c : UInt8) : Bool := decide ((97 ≤ c.toNat ∧ c.toNat ≤ 122) ∨ (48 ≤ c.toNat ∧ c.toNat ≤ 57) ∨ c.toNat = 45)
def title (l : List UInt8) : Bool := decide (1 ≤ l.length ∧ l.length ≤ 60) && l.all tc
def tag (l : List UInt8) : Bool := decide (1 ≤ l.length ∧ l.length ≤ 16) && l.all gc
end T9
end
section
open Go.RowKit Go.Lib
namespace T9
def Tk.short (t : Tk) : Prop := t.title.length ≤ 1000000 ∧ (∀ x ∈ t.tags, x.length ≤ 1000000) ∧ t.tags.length ≤ 1000000
def St.short (s : St) : Prop := (∀ l ∈ s.lists, l.name.length ≤ 1000000) ∧ (∀ t ∈ s.tasks, t.short) ∧ s.lists.length ≤ 1000000 ∧ s.tasks.length ≤ 1000000
end T9
end
section
open Go.RowKit Go.Lib
theorem new_two {w : World} {a b : Value} {t : TypeId} {u : World} (h : w.alloc (.cells #[a, b] t) = u) : u.heap[w.heap.size]? = some (.cells #[a, b] t (0, 0)) ∧ Below w.heap.size w u ∧ u.heap.size = w.heap.size + 1 := by
 subst h
 exact ⟨heap_alloc_new w _, (Below.refl _ w).alloc (Nat.le_refl _) _, by simp⟩
theorem new_seven {w : World} {a b c d e f g : Value} {t : TypeId} {u : World} (h : w.alloc (.cells #[a, b, c, d, e, f, g] t) = u) : u.heap[w.heap.size]? = some (.cells #[a, b, c, d, e, f, g] t (0, 0)) ∧ Below w.heap.size w u ∧ u.heap.size = w.heap.size + 1 := by
 subst h
 exact ⟨heap_alloc_new w _, (Below.refl _ w).alloc (Nat.le_refl _) _, by simp⟩
end
end
end Go.Proofs.YtpphmbfghfmdlaaGreat
