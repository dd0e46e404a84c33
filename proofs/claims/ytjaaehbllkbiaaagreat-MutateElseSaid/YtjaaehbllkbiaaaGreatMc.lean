/- Stage 11: a mutation in memory: cells, opened. -/
import Derived.Test.YtjaaehbllkbiaaaGreatMa
import Derived.Test.YtjaaehbllkbiaaaGreatTae
import Derived.Test.YtjaaehbllkbiaaaGreatTaa
namespace Go.Proofs.YtjaaehbllkbiaaaGreat
open Go.ChangeShapes Go.WideShapes Go.ChangeAt Go.RowKit Go.Deep Go.Lib
set_option maxRecDepth 100000

def encMu (m : T9.Mu) : List Value := [.int .i64 m.kind, .int .u64 (m.id : Int), .int .u64 (m.list : Int), .string (str m.text), .float .f64 m.f, .bool m.flag]
def T9.Mu.val (m : T9.Mu) : Value := .agg #[.int .i64 m.kind, .int .u64 (m.id : Int), .int .u64 (m.list : Int), .string (str m.text), .float .f64 m.f, .bool m.flag]
theorem new_six11 {w : World} {a b c d e f : Value} {t : TypeId} {u : World} (h : w.alloc (.cells #[a, b, c, d, e, f] t) = u) : u.heap[w.heap.size]? = some (.cells #[a, b, c, d, e, f] t (0, 0)) ∧ Below w.heap.size w u ∧ u.heap.size = w.heap.size + 1 := by
 rw [← h]
 exact ⟨heap_alloc_new w _, (Below.refl _ w).alloc (Nat.le_refl _) _, by simp⟩
theorem six_cells11 {w : World} {p : Nat} {t : TypeId} {a b c d e f : Value} {fr : Nat × Nat} (h : w.heap[p]? = some (.cells #[a, b, c, d, e, f] t fr)) : w.cell? ⟨p, 0, none⟩ = some a ∧ w.cell? ⟨p, 1, none⟩ = some b ∧ w.cell? ⟨p, 2, none⟩ = some c ∧ w.cell? ⟨p, 3, none⟩ = some d ∧ w.cell? ⟨p, 4, none⟩ = some e ∧ w.cell? ⟨p, 5, none⟩ = some f := by
 simp [World.cell?, h]
/-- A mutation's block. -/
def MBox (m : T9.Mu) (g : Nat) (w : World) : Prop := w.heap[g]? = some (.cells #[.int .i64 m.kind, .int .u64 (m.id : Int), .int .u64 (m.list : Int), .string (str m.text), .float .f64 m.f, .bool m.flag] 29 (0, 0))
theorem MBox.stay {m : T9.Mu} {g : Nat} {w w' : World} (h : MBox m g w) (hb : Below w.heap.size w w') : MBox m g w' := (hb.block g (lt_of_block h)).trans h

/-- What Apply told: a state of its own, or none and the error. -/
def MutOk (s : T9.St) (m : T9.Mu) (w : World) (e : Ending) (w' : World) : Prop := ∃ (q : MSt) (er : Int), e = .returned (.tuple #[q.val, .int .i64 er]) ∧ SM q w' ∧ Below w.heap.size w w' ∧ q.st = (T9.applyM s m).1 ∧ er = (T9.applyM s m).2
theorem title_le {l : List UInt8} (h : T9.title l = true) : l.length ≤ 60 := by
 unfold T9.title at h
 rw [Bool.and_eq_true, decide_eq_true_eq] at h
 exact h.1.2
theorem tag_le11 {l : List UInt8} (h : T9.tag l = true) : l.length ≤ 16 := by
 unfold T9.tag at h
 rw [Bool.and_eq_true, decide_eq_true_eq] at h
 exact h.1.2
theorem right_short {s : T9.St} (h : T9.rightE s = 0) : s.short := by
 obtain ⟨h1, h2, h3, h4⟩ := T9.rightE_parts h
 have l := (T9.listsE_iff.1 h3).1
 have t := (T9.tasksE_iff.1 h4).1
 refine ⟨fun x hx => by have := title_le (l x hx).2; omega, fun x hx => ?_, by omega, by omega⟩
 obtain ⟨f1, _, _, _, f5, f6⟩ := T9.fieldsE_parts10 (t x hx).2.1
 exact ⟨by have := title_le f1; omega, fun y hy => by have := tag_le11 (T9.tagsUp_tag f6 y hy); omega, by omega⟩
/-- What a mutation that goes well leaves is right. -/
theorem applyM_ok {s : T9.St} {m : T9.Mu} (h : (T9.applyM s m).2 = 0) : T9.rightE s = 0 ∧ T9.checkE m = 0 ∧ (T9.doM s m).1 = 0 ∧ (T9.applyM s m).1 = (T9.doM s m).2 := by
 unfold T9.applyM at h ⊢
 by_cases a : T9.rightE s ≠ 0
 ·rw [if_pos a] at h; exact absurd h a
 rw [if_neg a] at h ⊢
 by_cases b : T9.checkE m ≠ 0
 ·rw [if_pos b] at h; exact absurd h b
 rw [if_neg b] at h ⊢
 by_cases c : (T9.doM s m).1 ≠ 0
 ·rw [if_pos c] at h; exact absurd h c
 rw [if_neg c]
 exact ⟨by omega, by omega, by omega, rfl⟩
theorem applyM_bad {s : T9.St} {m : T9.Mu} (h : (T9.applyM s m).2 ≠ 0) : (T9.applyM s m).1 = ⟨[], []⟩ := by
 unfold T9.applyM at h ⊢
 split
 ·rfl
 ·split
  ·rfl
  ·split
   ·rfl
   ·rename_i a b c
    rw [if_neg a, if_neg b, if_neg c] at h
    exact absurd rfl h

theorem Tryz.six11 : Tryz.prog.cellsOf 29 = 6 := by kernel_rfl
theorem Tryz.one11i : Tryz.prog.cellsOf 3 = 1 := by kernel_rfl
section
variable {H : Type} {enc : TypeId × Value → H} {w : World} {base : Nat}
theorem open_mut11 {v : Value} {d : DataW H} {ps : List MemPlace} (hval : Value.okWide Tryz.prog w .any base 29 v) (h : DataW.Trod enc Tryz.prog w 0 (fun _ => true) true 29 v d ps) :
  ∃ m : T9.Mu, v = m.val ∧ m.ok := by
 obtain ⟨cs, rfl, hsz⟩ := okWide_struct Tryz.underlying29 hval
 rw [Tryz.six11] at hsz
 obtain ⟨c0, c1, c2, c3, c4, c5, rfl⟩ : ∃ c0 c1 c2 c3 c4 c5, cs = #[c0, c1, c2, c3, c4, c5] := by
  obtain ⟨l⟩ := cs
  match l, hsz with
  | [a, b, c, d, e, f], _ => exact ⟨a, b, c, d, e, f, rfl⟩
 obtain ⟨fuel, hf0⟩ := h
 obtain ⟨xs, n, _, _, _, hxl, hf⟩ := DataW.trod_struct Tryz.underlying29 hf0
 match xs, hxl with
 | [y0, y1, y2, y3, y4, y5], _ =>
  have h0 : DataW.trod enc Tryz.prog w 0 (fun _ => true) true n 3 (((Value.agg #[c0, c1, c2, c3, c4, c5]).cells.toList.drop 0).take (Tryz.prog.cellsOf 3)) = some y0 := hf 0 _ rfl
  rw [Tryz.one11i] at h0
  have h1 : DataW.trod enc Tryz.prog w 0 (fun _ => true) true n 26 (((Value.agg #[c0, c1, c2, c3, c4, c5]).cells.toList.drop 1).take (Tryz.prog.cellsOf 26)) = some y1 := hf 1 _ rfl
  rw [Tryz.one9u] at h1
  have h2 : DataW.trod enc Tryz.prog w 0 (fun _ => true) true n 26 (((Value.agg #[c0, c1, c2, c3, c4, c5]).cells.toList.drop 2).take (Tryz.prog.cellsOf 26)) = some y2 := hf 2 _ rfl
  rw [Tryz.one9u] at h2
  have h3 : DataW.trod enc Tryz.prog w 0 (fun _ => true) true n 9 (((Value.agg #[c0, c1, c2, c3, c4, c5]).cells.toList.drop 3).take (Tryz.prog.cellsOf 9)) = some y3 := hf 3 _ rfl
  rw [Tryz.one9s] at h3
  have h4 : DataW.trod enc Tryz.prog w 0 (fun _ => true) true n 27 (((Value.agg #[c0, c1, c2, c3, c4, c5]).cells.toList.drop 4).take (Tryz.prog.cellsOf 27)) = some y4 := hf 4 _ rfl
  rw [Tryz.one9f] at h4
  have h5 : DataW.trod enc Tryz.prog w 0 (fun _ => true) true n 4 (((Value.agg #[c0, c1, c2, c3, c4, c5]).cells.toList.drop 5).take (Tryz.prog.cellsOf 4)) = some y5 := hf 5 _ rfl
  rw [Tryz.one9b] at h5
  obtain ⟨k0, e0, _, _⟩ := DataW.trod_int Tryz.underlying3 (h0 : DataW.trod enc Tryz.prog w 0 (fun _ => true) true n 3 [c0] = some y0)
  have g0 : c0 = _ := List.head_eq_of_cons_eq e0
  subst g0
  obtain ⟨k1, e1, _, w1⟩ := DataW.trod_int Tryz.underlying26 (h1 : DataW.trod enc Tryz.prog w 0 (fun _ => true) true n 26 [c1] = some y1)
  have g1 : c1 = _ := List.head_eq_of_cons_eq e1
  obtain ⟨i1, q1⟩ := Int.eq_ofNat_of_zero_le (wf_u64 w1).1
  have b1 := (wf_u64 w1).2
  subst g1; subst q1
  obtain ⟨k2, e2, _, w2⟩ := DataW.trod_int Tryz.underlying26 (h2 : DataW.trod enc Tryz.prog w 0 (fun _ => true) true n 26 [c2] = some y2)
  have g2 : c2 = _ := List.head_eq_of_cons_eq e2
  obtain ⟨i2, q2⟩ := Int.eq_ofNat_of_zero_le (wf_u64 w2).1
  have b2 := (wf_u64 w2).2
  subst g2; subst q2
  obtain ⟨sb, e3, _, _⟩ := DataW.trod_string Tryz.underlying9 (h3 : DataW.trod enc Tryz.prog w 0 (fun _ => true) true n 9 [c3] = some y3)
  have g3 : c3 = .string (str sb.data.toList) := (List.head_eq_of_cons_eq e3).trans (by rw [str_back9])
  subst g3
  obtain ⟨i4, e4, _, w4⟩ := trod_float9 Tryz.underlying27 (h4 : DataW.trod enc Tryz.prog w 0 (fun _ => true) true n 27 [c4] = some y4)
  have g4 : c4 = _ := List.head_eq_of_cons_eq e4
  have b4 := wf_f9 w4
  subst g4
  obtain ⟨i5, e5, _⟩ := DataW.trod_bool Tryz.underlying4 (h5 : DataW.trod enc Tryz.prog w 0 (fun _ => true) true n 4 [c5] = some y5)
  have g5 : c5 = _ := List.head_eq_of_cons_eq e5
  subst g5
  exact ⟨⟨k0, i1, i2, sb.data.toList, i4, i5⟩, rfl, by show i1 < _; omega, by show i2 < _; omega, b4⟩
end
end Go.Proofs.YtjaaehbllkbiaaaGreat
