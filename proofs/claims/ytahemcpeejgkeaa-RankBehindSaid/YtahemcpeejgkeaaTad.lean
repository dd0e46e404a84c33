/- Stage 9: the walk of TaskFinds. -/
import Derived.Test.YtahemcpeejgkeaaTac
import Derived.Lib.QuietBelow
namespace Go.Proofs.Ytahemcpeejgkeaa
open Go.RowKit Go.Lib Go.Sort
set_option maxRecDepth 100000

theorem two_box {l : T9.Li} : (.agg (encL l).toArray : Value) = .agg #[.int .u64 (l.id : Int), .string (str l.name)] := rfl
theorem blk_keep {w w' : World} {g : Nat} {o : Obj} (hb : w.heap[g]? = some o) (h : Below w.heap.size w w') : w'.heap[g]? = some o := (h.block g (lt_of_block hb)).trans hb
/-- What a world holds of a state: its box, its lists, its tasks. -/
structure SBox (m : MSt) (g : Nat) (w : World) : Prop where
  b : w.heap[g]? = some (.cells #[.slice m.A m.ls.length m.c, .slice m.A2 m.ms.length m.c2] 25 (0, 0))
  s : SM m w
theorem SBox.stay {m : MSt} {g : Nat} {w w' : World} (h : SBox m g w) (hb : Below w.heap.size w w') : SBox m g w' := ⟨blk_keep h.b hb, h.s.stay hb⟩
theorem SBox.cells {m : MSt} {g : Nat} {w : World} (h : SBox m g w) : w.cell? ⟨g, 0, none⟩ = some (.slice m.A m.ls.length m.c) ∧ w.cell? ⟨g, 1, none⟩ = some (.slice m.A2 m.ms.length m.c2) := two_cells h.b
/-- Tags whose count is one that Go can have. -/
def MSt.far (m : MSt) : Prop := ∀ t ∈ m.ms, t.t.tags.length ≤ maxLen
theorem findK_ok {ts : List T9.Tk} {id : Nat} (h : ∀ t ∈ ts, t.ok) : (T9.findK ts id).1.ok := by
  unfold T9.findK
  cases q : ts.find? (fun t => t.id == id) with
  | none => exact ⟨by decide, by decide, by decide, by decide⟩
  | some t => exact h t (List.mem_of_find?_eq_some q)
theorem findK_short {ts : List T9.Tk} {id : Nat} (h : ∀ t ∈ ts, t.short) : (T9.findK ts id).1.short := by
  unfold T9.findK
  cases q : ts.find? (fun t => t.id == id) with
  | none => exact ⟨by decide, by simp, by decide⟩
  | some t => exact h t (List.mem_of_find?_eq_some q)
theorem Calls.regrown_same {P : Program} {f : FuncId} {args : Array Value} {w : World} {d : Nat} {os : Array Obj} {v : Value}
    (h : Calls P f args (grow (redrawn w d) os) fun e w' => e = .returned v ∧ grow (redrawn w d) os = w') : Calls P f args (grow (redrawn w d) os) fun e w'' => e = .returned v ∧ ∃ p : Regrown, w'' = grow (redrawn w p.d) p.os :=
  h.mono fun _ _ ⟨he, hw⟩ => ⟨he, ⟨d, os⟩, hw.symm⟩

end Go.Proofs.Ytahemcpeejgkeaa
