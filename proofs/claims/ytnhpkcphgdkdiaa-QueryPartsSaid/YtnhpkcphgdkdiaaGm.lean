/- Stage 13: arguments, opened: queries, a task. -/
import Derived.Test.YtnhpkcphgdkdiaaGk
import Derived.Test.YtnhpkcphgdkdiaaTae
namespace Go.Proofs.Ytnhpkcphgdkdiaa
set_option maxRecDepth 100000
section
open Go.ChangeShapes Go.WideShapes Go.ChangeAt Go.RowKit Go.Deep Go.Lib
variable {H : Type} {enc : TypeId × Value → H} {w : World} {base : Nat}
theorem Try.six13 : Try.prog.cellsOf 28 = 6 := by kernel_rfl
theorem Try.one13i : Try.prog.cellsOf 3 = 1 := by kernel_rfl
theorem open_qry13 {v : Value} {d : DataW H} {ps : List MemPlace} (hval : Value.okWide Try.prog w .any base 28 v) (h : DataW.Trod enc Try.prog w 0 (fun _ => true) true 28 v d ps) :
    ∃ q : T9.Qr, v = .agg (qcells q) := by
  obtain ⟨cs, rfl, hsz⟩ := okWide_struct Try.underlying28 hval
  rw [Try.six13] at hsz
  obtain ⟨c0, c1, c2, c3, c4, c5, rfl⟩ : ∃ c0 c1 c2 c3 c4 c5, cs = #[c0, c1, c2, c3, c4, c5] := by
    obtain ⟨l⟩ := cs
    match l, hsz with
    | [a, b, c, d, e, f], _ => exact ⟨a, b, c, d, e, f, rfl⟩
  obtain ⟨fuel, hf0⟩ := h
  obtain ⟨xs, n, _, _, _, hxl, hf⟩ := DataW.trod_struct Try.underlying28 hf0
  match xs, hxl with
  | [y0, y1, y2, y3, y4, y5], _ =>
    have h0 : DataW.trod enc Try.prog w 0 (fun _ => true) true n 26 (((Value.agg #[c0, c1, c2, c3, c4, c5]).cells.toList.drop 0).take (Try.prog.cellsOf 26)) = some y0 := hf 0 _ rfl
    rw [Try.one9u] at h0
    have h1 : DataW.trod enc Try.prog w 0 (fun _ => true) true n 3 (((Value.agg #[c0, c1, c2, c3, c4, c5]).cells.toList.drop 1).take (Try.prog.cellsOf 3)) = some y1 := hf 1 _ rfl
    rw [Try.one13i] at h1
    have h2 : DataW.trod enc Try.prog w 0 (fun _ => true) true n 9 (((Value.agg #[c0, c1, c2, c3, c4, c5]).cells.toList.drop 2).take (Try.prog.cellsOf 9)) = some y2 := hf 2 _ rfl
    rw [Try.one9s] at h2
    have h3 : DataW.trod enc Try.prog w 0 (fun _ => true) true n 3 (((Value.agg #[c0, c1, c2, c3, c4, c5]).cells.toList.drop 3).take (Try.prog.cellsOf 3)) = some y3 := hf 3 _ rfl
    rw [Try.one13i] at h3
    have h4 : DataW.trod enc Try.prog w 0 (fun _ => true) true n 4 (((Value.agg #[c0, c1, c2, c3, c4, c5]).cells.toList.drop 4).take (Try.prog.cellsOf 4)) = some y4 := hf 4 _ rfl
    rw [Try.one9b] at h4
    have h5 : DataW.trod enc Try.prog w 0 (fun _ => true) true n 3 (((Value.agg #[c0, c1, c2, c3, c4, c5]).cells.toList.drop 5).take (Try.prog.cellsOf 3)) = some y5 := hf 5 _ rfl
    rw [Try.one13i] at h5
    obtain ⟨k0, e0, _, w0⟩ := DataW.trod_int Try.underlying26 (h0 : DataW.trod enc Try.prog w 0 (fun _ => true) true n 26 [c0] = some y0)
    have g0 : c0 = _ := List.head_eq_of_cons_eq e0
    obtain ⟨i0, q0⟩ := Int.eq_ofNat_of_zero_le (wf_u64 w0).1
    subst g0; subst q0
    obtain ⟨k1, e1, _, _⟩ := DataW.trod_int Try.underlying3 (h1 : DataW.trod enc Try.prog w 0 (fun _ => true) true n 3 [c1] = some y1)
    have g1 : c1 = _ := List.head_eq_of_cons_eq e1
    subst g1
    obtain ⟨sb, e2, _, _⟩ := DataW.trod_string Try.underlying9 (h2 : DataW.trod enc Try.prog w 0 (fun _ => true) true n 9 [c2] = some y2)
    have g2 : c2 = .string (str sb.data.toList) := (List.head_eq_of_cons_eq e2).trans (by rw [str_back9])
    subst g2
    obtain ⟨k3, e3, _, _⟩ := DataW.trod_int Try.underlying3 (h3 : DataW.trod enc Try.prog w 0 (fun _ => true) true n 3 [c3] = some y3)
    have g3 : c3 = _ := List.head_eq_of_cons_eq e3
    subst g3
    obtain ⟨i4, e4, _⟩ := DataW.trod_bool Try.underlying4 (h4 : DataW.trod enc Try.prog w 0 (fun _ => true) true n 4 [c4] = some y4)
    have g4 : c4 = _ := List.head_eq_of_cons_eq e4
    subst g4
    obtain ⟨k5, e5, _, _⟩ := DataW.trod_int Try.underlying3 (h5 : DataW.trod enc Try.prog w 0 (fun _ => true) true n 3 [c5] = some y5)
    have g5 : c5 = _ := List.head_eq_of_cons_eq e5
    subst g5
    exact ⟨⟨i0, k1, sb.data.toList, k3, i4, k5⟩, rfl⟩
theorem open_task13 {v : Value} {d : DataW H} {ps : List MemPlace} (hval : Value.okWide Try.prog w .any base 32 v) (h : DataW.Trod enc Try.prog w 0 (fun _ => true) true 32 v d ps) :
    ∃ m : MTk, v = .agg (encK m).toArray ∧ m.t.ok ∧ m.fine w ∧ m.t.tags.length ≤ maxLen := by
  obtain ⟨cs, rfl, _⟩ := okWide_struct Try.underlying32 hval
  obtain ⟨fuel, hf⟩ := h
  obtain ⟨m, e, h1, h2, h3⟩ := cells_task9 (cs := (Value.agg cs).cells.toList) hf
  refine ⟨m, ?_, h1, h2, h3⟩
  have e2 : cs.toList = encK m := e
  rw [← e2]
end
end Go.Proofs.Ytnhpkcphgdkdiaa
