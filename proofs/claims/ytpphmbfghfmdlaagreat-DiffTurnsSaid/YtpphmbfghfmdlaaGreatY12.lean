import Derived.Calls
import Derived.Below
import Derived.ProofKit
namespace Go.Proofs.YtpphmbfghfmdlaaGreat
set_option linter.unusedSimpArgs false
set_option maxRecDepth 100000
section
section
theorem ret_u64 {a b : Int} (h : a = b) : Ending.returned (.int .u64 a) = .returned (.int .u64 b) := by rw [h]
theorem ret_i64 {a b : Int} (h : a = b) : Ending.returned (.int .i64 a) = .returned (.int .i64 b) := by rw [h]
theorem ret_f64 {a b : Nat} (h : a = b) : Ending.returned (.float .f64 a) = .returned (.float .f64 b) := by rw [h]
theorem ret_bool {a b : Bool} (h : a = b) : Ending.returned (.bool a) = .returned (.bool b) := by rw [h]
namespace Cd
def wid (n : Nat) : Nat :=
 if n < 256 then 1 else if n < 65536 then 2 else if n < 16777216 then 3 else if n < 4294967296 then 4 else if n < 1099511627776 then 5 else if n < 281474976710656 then 6 else if n < 72057594037927936 then 7 else 8
end Cd
end
section
open Go.ChangeShapes Go.WideShapes Go.ChangeAt Go.RowKit
section
variable {H : Type} {enc : TypeId × Value → H} {P : Program}
theorem post_behind {f : Func} {s : ChangeSpec} {apart fresh handsOn again : Bool} {W W' : World} {args : Array Value} {v : Value} {ds gs : List (DataW H)} {before pa pv : List MemPlace}
  (whole : DataW.Whole enc P f.params.toList s.vars apart W args.toList ds gs before) (same : before = pa ++ pv) (old : Below W.heap.size W W')
  (res : ∀ (b : Nat) (sp : Nat → Bool) (hd : Bool), DataW.TrodAll enc P W' b sp hd f.resultTypes.toList (v.resultList f.resultTypes.size) (s.fn H (ds ++ gs)).results [])
  (arg : ∀ sp : Nat → Bool, (∀ p ∈ before, sp p.block = true) → DataW.TrodAll enc P W' 0 sp true f.params.toList args.toList (s.fn H (ds ++ gs)).args pa)
  (var : ∀ sp : Nat → Bool, (∀ p ∈ before, sp p.block = true) → DataW.TrodVars enc P W' sp s.vars (s.fn H (ds ++ gs)).vars pv)
  (outer : ∀ (j : Nat) (t : TypeId) (r : Value), f.resultTypes[j]? = some t → (v.resultList f.resultTypes.size)[j]? = some r → Value.okWide P W' .any 0 t r) :
  s.post enc P f apart fresh handsOn again W args v W' := by
 have lower : ∀ p ∈ before, p.block < W.heap.size := fun p m => whole.lt p m
 have marked : ∀ p ∈ before, (fun b => decide (b < W.heap.size)) p.block = true := fun p m => decide_eq_true (lower p m)
 have every : ∀ p ∈ before, (fun _ : Nat => true) p.block = true := fun _ _ => rfl
 have kept : W.keptBut W' (fun p => p ∈ before ∧ (p ∈ ([] : List MemPlace) ++ pa ∨ p ∈ pv)) := old.frame _
 obtain ⟨_, _, _, _, _, frz, sep⟩ := id whole
 refine ⟨ds, gs, before, [], pa, pv, whole, res _ _ _, arg _ marked, var _ marked, World.keptBut_mono (fun p m => ⟨m.1, ?_⟩) kept, fun _ => ?_⟩
 ·have h := m.1
  rw [same, List.mem_append] at h
  exact Or.inr h
 ·refine ⟨outer, _, _, ([] ++ pa) ++ pv, ⟨[] ++ pa, pv, trodAll_append (arg _ every) (res _ _ _), var _ every, rfl, ?_, ?_⟩, ?_⟩
  ·intro b off m
   have h : MemPlace.cell b off ∈ before := by rw [same]; simpa using m
   rw [old.frozen (lower _ h)]
   exact frz b off h
  ·intro yes
   have h := sep yes
   rw [same] at h
   simpa using h
  ·intro p m _
   rw [same]
   simpa using m
end
end
end
end Go.Proofs.YtpphmbfghfmdlaaGreat
