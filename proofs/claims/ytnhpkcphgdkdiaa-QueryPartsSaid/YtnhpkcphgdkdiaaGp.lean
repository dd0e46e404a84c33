/- Stage 13: plain words for QueryParts. -/
import Derived.Test.YtnhpkcphgdkdiaaGk
namespace Go.Proofs.Ytnhpkcphgdkdiaa
set_option maxRecDepth 100000
set_option linter.unusedSimpArgs false
section
open Go.RowKit Go.Lib Go.Shelf Go.Sort
/-- Sums, told in one form. -/
def SumsOk2 (ls : List T9.Li) (ts : List T9.Tk) (q : T9.Qr) (w : World) (e : Ending) (w' : World) : Prop :=
  ∃ (n d k s l m : Nat) (er : Int), e = .returned (.tuple #[.agg #[.int .i64 (n : Int), .int .i64 (d : Int), .int .i64 (k : Int), .float .f64 s, .float .f64 l, .float .f64 m], .int .i64 er]) ∧ T9.wrongE ls q = er ∧ (n = (if er = 0 then (ts.filter (T9.holds q)).length else 0) ∧ d = (if er = 0 then done13 (ts.filter (T9.holds q)) else 0)) ∧ Below w.heap.size w w'
theorem sums_two {ls : List T9.Li} {ts : List T9.Tk} {q : T9.Qr} {w w' : World} {e : Ending} (h : SumsOk ls ts q w e w') : SumsOk2 ls ts q w e w' := by
  obtain ⟨h1, h2⟩ := h
  rcases h1 with ⟨hn, e1⟩ | ⟨h0, l, m, e1⟩
  · exact ⟨0, 0, 0, 0, 0, 0, _, e1, rfl, ⟨by rw [if_neg hn], by rw [if_neg hn]⟩, h2⟩
  · exact ⟨_, _, _, _, l, m, 0, e1, h0, ⟨by rw [if_pos rfl], by rw [if_pos rfl]⟩, h2⟩
/-- Run, told in one form. -/
def RunOk2 (ls : List T9.Li) (ts : List T9.Tk) (q : T9.Qr) (w : World) (e : Ending) (w' : World) : Prop :=
  ∃ (A : Option Addr) (c : Nat) (rs : List MTk) (er : Int), e = .returned (.tuple #[.slice A rs.length c, .int .i64 er]) ∧ T9.wrongE ls q = er ∧ KL w' A rs ∧ (er = 0 → ∃ l, T9.Ord13 q.sort (ts.filter (T9.holds q)) l ∧ tks rs = T9.cut13 q l) ∧ (er ≠ 0 → rs = []) ∧ Below w.heap.size w w'
theorem run_two {ls : List T9.Li} {ts : List T9.Tk} {q : T9.Qr} {w w' : World} {e : Ending} (h : RunOk ls ts q w e w') : RunOk2 ls ts q w e w' := by
  obtain ⟨h1, h2⟩ := h
  rcases h1 with ⟨hn, e1⟩ | ⟨h0, A, c, rs, e1, hk, _, hl⟩
  · exact ⟨none, 0, [], _, e1, rfl, KL.nil, fun z => absurd z hn, fun _ => rfl, h2⟩
  · exact ⟨A, c, rs, 0, e1, h0, hk, fun _ => hl, fun z => absurd rfl z, h2⟩
theorem done_cons13 (t : T9.Tk) (l : List T9.Tk) : done13 (t :: l) = (if t.done = true then 1 else 0) + done13 l := by
  unfold done13
  rw [List.filter_cons]
  split
  · rw [List.length_cons]; omega
  · omega
theorem parts13 (ql : Nat) (qt : List UInt8) (qs : Int) (qw : Bool) (qm : Int) : ∀ ts : List T9.Tk,
    (ts.filter (T9.holds ⟨ql, 0, qt, qs, qw, qm⟩)).length = (ts.filter (T9.holds ⟨ql, 1, qt, qs, qw, qm⟩)).length + (ts.filter (T9.holds ⟨ql, 2, qt, qs, qw, qm⟩)).length ∧
    done13 (ts.filter (T9.holds ⟨ql, 1, qt, qs, qw, qm⟩)) = (ts.filter (T9.holds ⟨ql, 1, qt, qs, qw, qm⟩)).length ∧ done13 (ts.filter (T9.holds ⟨ql, 2, qt, qs, qw, qm⟩)) = 0
  | [] => ⟨rfl, rfl, rfl⟩
  | t :: ts => by
    obtain ⟨h1, h2, h3⟩ := parts13 ql qt qs qw qm ts
    have e0 : T9.holds ⟨ql, 0, qt, qs, qw, qm⟩ t = (T9.okList ql t.list && T9.okTag qt t.tags) := by simp [T9.holds, T9.okDone]
    have e1 : T9.holds ⟨ql, 1, qt, qs, qw, qm⟩ t = (T9.okList ql t.list && T9.okTag qt t.tags && t.done) := by
      simp only [T9.holds, T9.okDone]
      cases t.done <;> simp
    have e2 : T9.holds ⟨ql, 2, qt, qs, qw, qm⟩ t = (T9.okList ql t.list && T9.okTag qt t.tags && !t.done) := by
      simp only [T9.holds, T9.okDone]
      cases t.done <;> simp
    rw [List.filter_cons, List.filter_cons, List.filter_cons, e0, e1, e2]
    cases hb : (T9.okList ql t.list && T9.okTag qt t.tags) <;> cases hd : t.done <;> simp only [Bool.true_and, Bool.false_and, Bool.not_true, Bool.not_false, if_true, if_false, Bool.false_eq_true, List.length_cons, done_cons13, hd] <;> exact ⟨by omega, by omega, by omega⟩
theorem turned13 {ts l1 l2 : List T9.Tk} {ql : Nat} {qd : Int} {qt : List UInt8} {qs : Int} (h1 : T9.Ord13 qs (ts.filter (T9.holds ⟨ql, qd, qt, qs, false, 0⟩)) l1) (h2 : T9.Ord13 qs (ts.filter (T9.holds ⟨ql, qd, qt, qs, true, 0⟩)) l2) : T9.cut13 ⟨ql, qd, qt, qs, true, 0⟩ l2 = (T9.cut13 ⟨ql, qd, qt, qs, false, 0⟩ l1).reverse := by
  have e : l1 = l2 := h1.uniq h2
  subst e
  simp [T9.cut13]
theorem rev_at13 {l m : List T9.Tk} (h : m = l.reverse) {k j : Nat} (hj : k + j + 1 = l.length) : l[k]? = m[j]? := by
  subst h
  rw [List.getElem?_reverse (by omega)]
  congr 1
  omega
theorem cut_len13 (q : T9.Qr) (l : List T9.Tk) : (T9.cut13 q l).length ≤ l.length := by
  unfold T9.cut13
  split <;> split <;> simp <;> omega
theorem mem13 {s : Int} {q : T9.Qr} {ts l : List T9.Tk} (h : T9.Ord13 s (ts.filter (T9.holds q)) l) {x : T9.Tk} (hx : x ∈ T9.cut13 q l) : x ∈ ts := by
  have m : x ∈ l := by
    unfold T9.cut13 at hx
    split at hx
    · have := List.mem_of_mem_take hx
      split at this
      · exact List.mem_reverse.1 this
      · exact this
    · split at hx
      · exact List.mem_reverse.1 hx
      · exact hx
  exact (List.mem_filter.1 (Sr.Stb.mem (wo13 s) h.2 m)).1
end
end Go.Proofs.Ytnhpkcphgdkdiaa
