/- Stage 9: one among others, in plain words. -/
import Derived.Test.YtbgdmmemahfpbaaTa
namespace Go.Proofs.Ytbgdmmemahfpbaa
set_option maxRecDepth 100000
namespace Sr
variable {α : Type} {lt : α → α → Bool}
theorem ins_new {x : α} : ∀ {l : List α} {i : Nat}, (∀ y ∈ l.take i, lt y x = true) → (∀ y, l[i]? = some y → lt y x = false ∧ lt x y = true) → ins lt x l = l.take i ++ x :: l.drop i
  | [], i, _, _ => by simp [ins]
  | y :: l, 0, _, h => by
    obtain ⟨a, b⟩ := h y rfl
    simp [ins, a, b]
  | y :: l, i + 1, h, k => by
    have a := h y (by simp)
    have q := ins_new (x := x) (l := l) (i := i) (fun z hz => h z (by simp [hz])) (fun z hz => k z hz)
    simp [ins, a, q]
theorem ins_old {x y : α} : ∀ {l : List α} {i : Nat}, (∀ y ∈ l.take i, lt y x = true) → l[i]? = some y → lt y x = false → lt x y = false → ins lt x l = l
  | [], i, _, h, _, _ => by simp at h
  | z :: l, 0, _, h, a, b => by
    simp at h
    subst h
    simp [ins, a, b]
  | z :: l, i + 1, h, k, a, b => by
    have c := h z (by simp)
    have q := ins_old (x := x) (y := y) (l := l) (i := i) (fun z hz => h z (by simp [hz])) k a b
    simp [ins, c, q]
end Sr
end Go.Proofs.Ytbgdmmemahfpbaa
