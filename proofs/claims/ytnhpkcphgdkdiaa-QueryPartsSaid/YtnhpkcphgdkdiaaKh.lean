/- Stage 10: rank.At; awake. -/
import Derived.Test.YtnhpkcphgdkdiaaKg
import Derived.Test.YtnhpkcphgdkdiaaTaa
namespace Go.Proofs.Ytnhpkcphgdkdiaa
open Go.Shelf Go.RowKit Go.Lib Go.Sort
set_option maxRecDepth 100000

theorem run_buildSlice_two {P : Program} (w : World) (t e : TypeId) (cs ds : Array Value) (ie : TypeInfo) (z : Value) (hu : P.underlying t = some (.slice e)) (hie : P.info? e = some ie) (hz : ie.zero = some z) (hs : ie.size = cs.size) (hd : ie.size = ds.size) (h0 : 0 < cs.size) (hm : cs.size ≤ 1000) :
    (Instr.buildSlice t 2 #[(0, .agg cs), (1, .agg ds)]).run P w = .ok (.slice (some ⟨w.heap.size, 0, none⟩) 2 2) (w.alloc (.cells (cs ++ ds) e)) := by
  refine run_buildSlice w t e 2 _ (cs ++ ds) ie z hu hie hz (by rw [hs]; show ¬ 2 * cs.size > 16777216; omega) (by rw [hs]; omega) ?_
  have q := Great.fill_whole (s := ie.size) (by rw [hs]; exact h0) [Value.agg cs, Value.agg ds] ((Array.range (2 * ie.size)).map (z.cells[· % z.cells.size]!)) (fun v hv => by
    rcases List.mem_cons.1 hv with rfl | hv
    · exact hs.symm
    · rw [List.mem_singleton] at hv; subst hv; exact hd.symm) (by simp)
  refine Eq.trans ?_ (congrArg some (show (cs.toList ++ ds.toList).toArray = cs ++ ds by apply Array.ext'; simp))
  simpa [Value.cells] using q

/-- Where a task stands in the order of its list. -/
def AtOk (ts : List T9.Tk) (id : Nat) (w : World) (e : Ending) (w' : World) : Prop :=
  ∃ r : Int, e = .returned (.int .i64 r) ∧ Below w.heap.size w w' ∧ (((T9.findK ts id).2 = false ∧ r = -1) ∨ ((T9.findK ts id).2 = true ∧ ∃ l, T9.Ordd ts (T9.findK ts id).1.list l ∧ r = T9.plcI l id))

@[go_sem] theorem buildL10 (w : World) : (Instr.build 49 #[(0, .int .u64 1), (1, .string ⟨#[108]⟩)]).run Try.prog w = .ok (.agg #[.int .u64 1, .string ⟨#[108]⟩]) w := run_build w 49 _ _ (by kernel_rfl)
@[go_sem] theorem buildKa10 (w : World) : (Instr.build 32 #[(0, .int .u64 1), (1, .int .u64 1), (2, .string ⟨#[97]⟩), (4, .float .f64 4607182418800017408)]).run Try.prog w = .ok (.agg #[.int .u64 1, .int .u64 1, .string ⟨#[97]⟩, .bool false, .float .f64 4607182418800017408, .float .f64 0, .slice none 0 0]) w := run_build w 32 _ _ (by kernel_rfl)
@[go_sem] theorem buildKb10 (w : World) : (Instr.build 32 #[(0, .int .u64 2), (1, .int .u64 1), (2, .string ⟨#[98]⟩), (4, .float .f64 4611686018427387904)]).run Try.prog w = .ok (.agg #[.int .u64 2, .int .u64 1, .string ⟨#[98]⟩, .bool false, .float .f64 4611686018427387904, .float .f64 0, .slice none 0 0]) w := run_build w 32 _ _ (by kernel_rfl)
@[go_sem] theorem buildS10 (A A2 : Option Addr) (n c n2 c2 : Nat) (w : World) : (Instr.build 25 #[(0, .slice A n c), (1, .slice A2 n2 c2)]).run Try.prog w = .ok (.agg #[.slice A n c, .slice A2 n2 c2]) w := run_build w 25 _ _ (by kernel_rfl)
theorem buildSlL10 (w : World) : (Instr.buildSlice 22 1 #[(0, .agg #[.int .u64 1, .string ⟨#[108]⟩])]).run Try.prog w = .ok (.slice (some ⟨w.heap.size, 0, none⟩) 1 1) (w.alloc (.cells #[.int .u64 1, .string ⟨#[108]⟩] 49)) := by
  obtain ⟨i0, hi, hz0, hz1, hz2⟩ := info_parts Try.infoLi9
  exact run_buildSlice_one w 22 49 #[.int .u64 1, .string ⟨#[108]⟩] i0 _ Try.underlying22 hi hz0 hz1 (by decide) (by decide)
def ka10 : MTk := ⟨⟨1, 1, [97], false, 4607182418800017408, 0, []⟩, none, 0⟩
def kb10 : MTk := ⟨⟨2, 1, [98], false, 4611686018427387904, 0, []⟩, none, 0⟩
theorem buildSlT10 (w : World) : (Instr.buildSlice 23 2 #[(0, .agg #[.int .u64 1, .int .u64 1, .string ⟨#[97]⟩, .bool false, .float .f64 4607182418800017408, .float .f64 0, .slice none 0 0]), (1, .agg #[.int .u64 2, .int .u64 1, .string ⟨#[98]⟩, .bool false, .float .f64 4611686018427387904, .float .f64 0, .slice none 0 0])]).run Try.prog w = .ok (.slice (some ⟨w.heap.size, 0, none⟩) 2 2) (w.alloc (.cells (tkcells [ka10, kb10]).toArray 32)) := by
  obtain ⟨i0, hi, hz0, hz1, hz2⟩ := info_parts Try.infoTk9
  exact run_buildSlice_two w 23 32 (encK ka10).toArray (encK kb10).toArray i0 _ Try.underlying23 hi hz0 hz1 hz1 (by show 0 < 7; omega) (by show 7 ≤ _; omega)
theorem str_ab10 : Sr.Str T9.ltR [ka10.t, kb10.t] := by
  refine List.pairwise_cons.2 ⟨fun x hx => ?_, List.pairwise_singleton _ _⟩
  rw [List.mem_singleton] at hx
  subst hx
  decide +kernel
theorem ord_ab10 {l : List T9.Tk} (h : T9.Ordd (tks [ka10, kb10]) 1 l) : l = [ka10.t, kb10.t] := by
  refine h.is ?_ str_ab10 (List.Perm.refl _)
  refine List.pairwise_cons.2 ⟨fun x hx => ?_, List.pairwise_singleton _ _⟩
  simp only [List.map_cons, List.map_nil, List.mem_singleton] at hx
  subst hx
  decide
theorem btw_ab10 : T9.btw true [ka10.t, kb10.t] 1 = (4609434218613702656, 0) := by decide +kernel
end Go.Proofs.Ytnhpkcphgdkdiaa
