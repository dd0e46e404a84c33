/- Stage 9: a state's bytes; the code's Put. -/
import Derived.Test.YtahemcpeejgkeaaTz
import Derived.Test.YtahemcpeejgkeaaWg
import Derived.Test.YtahemcpeejgkeaaRe
namespace Go.Proofs.Ytahemcpeejgkeaa
open Go.RowKit Go.Lib
set_option maxRecDepth 100000

namespace T9
def encLi (l : Li) : List UInt8 := Cd.num l.id ++ St.wb l.name
def encTk (t : Tk) : List UInt8 := Cd.num t.id ++ Cd.num t.list ++ St.wb t.title ++ St.fl t.done ++ Cd.fix (Fl.key t.rank).toNat 8 ++ Cd.fix (Fl.key t.est).toNat 8 ++ Cd.num t.tags.length ++ t.tags.flatMap St.wb
/-- A state's bytes. -/
def bts (s : St) : List UInt8 := Cd.num s.lists.length ++ s.lists.flatMap encLi ++ Cd.num s.tasks.length ++ s.tasks.flatMap encTk
/-- A small state. -/
structure St.light (s : St) : Prop where
  nl : s.lists.length ≤ 25
  nt : s.tasks.length ≤ 70
  name : ∀ l ∈ s.lists, l.name.length ≤ 100
  title : ∀ t ∈ s.tasks, t.title.length ≤ 100
  few : ∀ t ∈ s.tasks, t.tags.length ≤ 8
  tag : ∀ t ∈ s.tasks, ∀ x ∈ t.tags, x.length ≤ 100
theorem St.light.short {s : St} (h : s.light) : s.short := ⟨fun l hl => by have := h.name l hl; omega, fun t ht => ⟨by have := h.title t ht; omega, fun x hx => by have := h.tag t ht x hx; omega, by have := h.few t ht; omega⟩, by have := h.nl; omega, by have := h.nt; omega⟩
theorem flat_le {α : Type} {f : α → List UInt8} {c : Nat} : ∀ {l : List α}, (∀ x ∈ l, (f x).length ≤ c) → (l.flatMap f).length ≤ c * l.length
  | [], _ => by simp
  | x :: l, h => by
    have i := flat_le (f := f) (c := c) (l := l) fun y hy => h y (List.mem_cons_of_mem _ hy)
    have := h x (List.mem_cons_self ..)
    rw [List.flatMap_cons, List.length_append, List.length_cons, Nat.mul_add]
    omega
theorem wb_le {b : List UInt8} {c : Nat} (h : b.length ≤ c) : (St.wb b).length ≤ c + 9 := by
  unfold St.wb
  have := num_len b.length
  rw [List.length_append]
  omega
theorem encLi_le {l : Li} (h : l.name.length ≤ 100) : (encLi l).length ≤ 118 := by
  unfold encLi
  have := num_len l.id
  have := wb_le h
  rw [List.length_append]
  omega
theorem encTk_le {t : Tk} (h : t.title.length ≤ 100) (h2 : t.tags.length ≤ 8) (h3 : ∀ x ∈ t.tags, x.length ≤ 100) : (encTk t).length ≤ 1100 := by
  unfold encTk
  have := num_len t.id
  have := num_len t.list
  have := num_len t.tags.length
  have := wb_le h
  have := flat_le (f := St.wb) (c := 109) fun x hx => wb_le (h3 x hx)
  have : (St.fl t.done).length = 1 := rfl
  simp only [List.length_append, Cd.fix_len]
  omega
end T9

end Go.Proofs.Ytahemcpeejgkeaa
