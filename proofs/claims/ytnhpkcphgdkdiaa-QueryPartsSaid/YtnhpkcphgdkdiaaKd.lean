/- Stage 10: rank.Order. -/
import Derived.Test.YtnhpkcphgdkdiaaKc
import Derived.Test.YtnhpkcphgdkdiaaTz
namespace Go.Proofs.Ytnhpkcphgdkdiaa
open Go.Shelf Go.RowKit Go.Lib Go.Sort
set_option maxRecDepth 100000

/-- Where a task's tags lie: in blocks of strings. -/
def MTk.fineS (m : MTk) (w : World) : Prop := Lies w 0 9 m.A (gcells m.t.tags) ∧ m.t.tags.length ≤ m.c
theorem MTk.fineS.fine {m : MTk} {w : World} (h : m.fineS w) : m.fine w := ⟨h.1.old, h.2⟩
theorem MTk.fineS.stay {m : MTk} {w w' : World} (h : m.fineS w) (hb : Below w.heap.size w w') : m.fineS w' := ⟨h.1.below (Nat.zero_le _) hb, h.2⟩
theorem MTk.fineS.tch {m : MTk} {w w' : World} {B : Nat} {ts : List TypeId} (h : m.fineS w) (hT : Tch B ts w w') (hs : 9 ∉ ts) : m.fineS w' :=
  ⟨h.1.keep fun b hb => by
    rcases hb with q | ⟨cs, fr, q⟩
    · omega
    · rw [hT.blk q hs, q], h.2⟩
/-- The tasks of the list in order: a row of the call's own, tags of its own. -/
def OrdOk (ts : List T9.Tk) (list : Nat) (w : World) (e : Ending) (w' : World) : Prop :=
  ∃ A c ms, e = .returned (.slice A ms.length c) ∧ KL w' A ms ∧ ms.length ≤ c ∧ T9.Ordd ts list (tks ms) ∧ Below w.heap.size w w' ∧ (ms = [] ∨ ∃ g, A = some ⟨g, 0, none⟩ ∧ w.heap.size ≤ g) ∧ ∀ m ∈ ms, m.fineS w'

theorem buildSlK10 (m : MTk) (w : World) : (Instr.buildSlice 23 1 #[(0, .agg (encK m).toArray)]).run Try.prog w = .ok (.slice (some ⟨w.heap.size, 0, none⟩) 1 1) (w.alloc (.cells (encK m).toArray 32)) := by
  obtain ⟨i0, hi, hz0, hz1, hz2⟩ := info_parts Try.infoTk9
  exact run_buildSlice_one w 23 32 (encK m).toArray i0 _ Try.underlying23 hi hz0 hz1 (by show 0 < 7; omega) (by show 7 ≤ _; omega)
theorem tkcells_R {ms : List MTk} (h : ∀ m ∈ ms, m.t.rank < 18446744073709551616) : ms.flatMap encR = tkcells ms := by
  unfold tkcells
  induction ms with
  | nil => rfl
  | cons m ms ih =>
    rw [List.flatMap_cons, List.flatMap_cons, ih fun x hx => h x (List.mem_cons_of_mem _ hx)]
    unfold encR
    rw [rkM_id (h m List.mem_cons_self)]
theorem tks_srt {W : List MTk} (h : Sr.Srt (ltOf cfR) W) : Sr.Srt T9.ltR (tks W) := by
  rw [ltOf_R] at h
  exact List.pairwise_map.2 h
theorem tks_stb {D W : List MTk} (h : Sr.Stb (ltOf cfR) D W) : Sr.Stb T9.ltR (tks D) (tks W) := fun k => by
  rw [ltOf_R] at h
  have q := congrArg (List.map (·.t)) (h ⟨k, none, 0⟩)
  have e : ∀ l : List MTk, (tks l).filter (Sr.eqv T9.ltR k) = (l.filter (Sr.eqv (fun x y : MTk => T9.ltR x.t y.t) ⟨k, none, 0⟩)).map (·.t) := fun l => by
    unfold tks
    rw [List.filter_map]
    rfl
  rw [e, e]
  exact q

end Go.Proofs.Ytnhpkcphgdkdiaa
