import Derived.Test.YtpphmbfghfmdlaaGreatY39
import Derived.Test.YtpphmbfghfmdlaaGreatY23
import Derived.Test.YtpphmbfghfmdlaaGreatY33
import Derived.StillTailTactics
import Derived.Deep.RegionHeld3
namespace Go.Proofs.YtpphmbfghfmdlaaGreat
set_option linter.unusedSimpArgs false
set_option maxRecDepth 100000
section
section
section
namespace T9
end T9
end
section
namespace T9
end T9
end
end
section
open Go.RowKit Go.Lib
@[go_sem] theorem buildK9n (n : Int) (w : World) : (Instr.build 56 #[(0, .int .u64 n)]).run Tryz.prog w = .ok (.agg #[.int .u64 n, .int .u64 0, .string ⟨#[]⟩, .bool false, .float .f64 0, .float .f64 0, .slice none 0 0]) w := run_build w 56 _ _ (by kernel_rfl)
theorem Tch.zero {B : Nat} {ts : List TypeId} {w w' : World} (h : Tch B ts w w') : Tch 0 ts w w' := ⟨h.below.mono (Nat.zero_le _), h.typed⟩
end
section
open Go.RowKit Go.Lib
@[go_sem] theorem buildL9n (n : Int) (w : World) : (Instr.build 51 #[(0, .int .u64 n)]).run Tryz.prog w = .ok (.agg #[.int .u64 n, .string ⟨#[]⟩]) w := run_build w 51 _ _ (by kernel_rfl)
theorem buildSlL9 (l : T9.Li) (w : World) : (Instr.buildSlice 22 1 #[(0, .agg #[.int .u64 (l.id : Int), .string (str l.name)])]).run Tryz.prog w = .ok (.slice (some ⟨w.heap.size, 0, none⟩) 1 1) (w.alloc (.cells #[.int .u64 (l.id : Int), .string (str l.name)] 51)) := by
 obtain ⟨i0, hi, hz0, hz1, hz2⟩ := info_parts Tryz.infoLi9
 exact run_buildSlice_one w 22 51 #[.int .u64 (l.id : Int), .string (str l.name)] i0 _ Tryz.underlying22 hi hz0 hz1 (by show 0 < 2; omega) (by show 2 ≤ _; omega)
theorem buildSlK9 (m : MTk) (w : World) : (Instr.buildSlice 23 1 #[(0, .agg (encK m).toArray)]).run Tryz.prog w = .ok (.slice (some ⟨w.heap.size, 0, none⟩) 1 1) (w.alloc (.cells (encK m).toArray 56)) := by
 obtain ⟨i0, hi, hz0, hz1, hz2⟩ := info_parts Tryz.infoTk9
 exact run_buildSlice_one w 23 56 (encK m).toArray i0 _ Tryz.underlying23 hi hz0 hz1 (by show 0 < 7; omega) (by show 7 ≤ _; omega)
end
section
open Go.RowKit Go.Lib Go.Sort
section
variable {P : Program} {ops : Array Oper} {Q : Exit → Act → World → Prop} {md : Region.Mode} {S S' : World → Prop}
theorem anyH_one9 {i : Nat} {oi : Oper} {f : Nat} {ls : Array Bool} {a : Act} {w : World} (hr : Region.ready md ops ls = [i]) (hi : ops[i]? = some oi)
  (h : ∀ K : Act → World → Prop, (∀ b u, S u → wpAnyH P md ops Q S f (ls.setIfInBounds i true) b u → K b u) → if Region.wanted oi (yielded ops a.tmps) = true then Oper.wp P oi a w K Q else K (a.put oi.dst undef) w) : wpAnyH P md ops Q S (f + 1) ls a w := by
 refine ⟨fun e => absurd e (by rw [hr]; simp), fun j hj => ?_⟩
 rw [hr, List.mem_singleton] at hj
 subst hj
 exact wpOp_step hi (fun K hK => h K (fun b u q1 q2 => hK b u ⟨q1, q2⟩))
end
theorem str_beq9 (l o : List UInt8) : (str l == str o) = decide (l = o) := by
 by_cases h : l = o
 ·subst h
  rw [decide_eq_true rfl]
  exact (Go.MapKept.bytes_beq _ _).2 rfl
 ·rw [decide_eq_false h]
  cases q : str l == str o with
  | false => rfl
  | true => exact absurd (by have z := (Go.MapKept.bytes_beq _ _).1 q; have z2 := congrArg (fun b => b.data.toList) z; simpa [str] using z2) h
end
end
end Go.Proofs.YtpphmbfghfmdlaaGreat
