/- Stage 9: alike: texts, lists, tasks, states (written by wip/gen9eq.py). Stage 9: tasks and states alike (written by wip/gen9eq2.py). -/
import Derived.Test.YtahemcpeejgkeaaTw
import Derived.Test.YtahemcpeejgkeaaFo
import Derived.StillTailTactics
namespace Go.Proofs.Ytahemcpeejgkeaa
set_option maxRecDepth 100000

section
open Go.RowKit Go.Lib

theorem take_nxt {α : Type} {l : List α} {k : Nat} {x : α} (h : l[k]? = some x) : l.take (k + 1) = l.take k ++ [x] := by
  obtain ⟨q1, q2⟩ := List.getElem?_eq_some_iff.1 h
  rw [List.take_succ_eq_append_getElem q1, q2]

theorem li_ne {a b : T9.Li} (h : ¬ a = b) : (¬ (a.id : Int) = (b.id : Int)) ∨ (a.id : Int) = (b.id : Int) ∧ ¬ a.name = b.name := by
  by_cases e : a.id = b.id
  · exact .inr ⟨by omega, fun f => h (T9.Li.ext_iff'.2 ⟨e, f⟩)⟩
  · exact .inl (by omega)

end

section
open Go.RowKit Go.Lib

theorem seven_box {a : MTk} : (.agg (encK a).toArray : Value) = .agg #[.int .u64 (a.t.id : Int), .int .u64 (a.t.list : Int), .string (str a.t.title), .bool a.t.done, .float .f64 a.t.rank, .float .f64 a.t.est, .slice a.A a.t.tags.length a.c] := rfl
def agg7 (a : MTk) : Obj := .cells #[.int .u64 (a.t.id : Int), .int .u64 (a.t.list : Int), .string (str a.t.title), .bool a.t.done, .float .f64 a.t.rank, .float .f64 a.t.est, .slice a.A a.t.tags.length a.c] 36

theorem T9.sameT_off {l m : List T9.Tk} {k : Nat} {a b : T9.Tk} (h : l[k]? = some a) (h2 : m[k]? = some b) (hq : T9.same1 a b = false) : T9.sameT l m = false := by
  induction l generalizing m k with
  | nil => simp at h
  | cons x l ih =>
    cases m with
    | nil => simp at h2
    | cons y m =>
      cases k with
      | zero =>
        simp only [List.getElem?_cons_zero, Option.some.injEq] at h h2
        subst h h2
        simp [T9.sameT, hq]
      | succ k =>
        simp only [List.getElem?_cons_succ] at h h2
        simp [T9.sameT, ih h h2]
theorem tks_at {ms : List MTk} {k : Nat} {m : MTk} (h : ms[k]? = some m) : (tks ms)[k]? = some m.t := by unfold tks; rw [List.getElem?_map, h]; rfl

end
end Go.Proofs.Ytahemcpeejgkeaa
