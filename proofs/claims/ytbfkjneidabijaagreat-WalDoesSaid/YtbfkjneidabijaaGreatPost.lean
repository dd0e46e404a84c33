/- What a row asks behind a call that made memory of its own and left all older memory alone. -/
import Derived.ProofKit
import Derived.Below
namespace Go.Proofs.YtbfkjneidabijaaGreat
open Go.ChangeShapes Go.WideShapes Go.ChangeAt Go.RowKit
set_option maxRecDepth 100000

section
variable {H : Type} {enc : TypeId × Value → H} {P : Program}

/-- The places that the arguments' readings met are all older than the call; so they hold what they held, and are frozen or not as they were. -/
theorem post_behind {f : Func} {s : ChangeSpec} {apart fresh handsOn again : Bool} {W W' : World} {args : Array Value} {v : Value} {ds gs : List (DataW H)} {before pa pv : List MemPlace}
    (whole : DataW.Whole enc P f.params.toList s.vars apart W args.toList ds gs before) (same : before = pa ++ pv) (old : Below W.heap.size W W')
    (res : ∀ (b : Nat) (sp : Nat → Bool) (hd : Bool), DataW.TrodAll enc P W' b sp hd f.resultTypes.toList (v.resultList f.resultTypes.size) (s.fn H (ds ++ gs)).results [])
    (arg : ∀ sp : Nat → Bool, (∀ p ∈ before, sp p.block = true) → DataW.TrodAll enc P W' 0 sp true f.params.toList args.toList (s.fn H (ds ++ gs)).args pa)
    (var : ∀ sp : Nat → Bool, (∀ p ∈ before, sp p.block = true) → DataW.TrodVars enc P W' sp s.vars (s.fn H (ds ++ gs)).vars pv)
    (outer : ∀ (j : Nat) (t : TypeId) (r : Value), f.resultTypes[j]? = some t → (v.resultList f.resultTypes.size)[j]? = some r → Value.okWide P W' .any 0 t r) :
    s.post enc P f apart fresh handsOn again W args v W' := by
  have lower : ∀ p ∈ before, p.block < W.heap.size := fun p m => whole.lt p m
  have marked : ∀ p ∈ before, (fun b => decide (b < W.heap.size)) p.block = true := fun p m => decide_eq_true (lower p m)
  have every : ∀ p ∈ before, (fun _ : Nat => true) p.block = true := fun _ _ => rfl
  have kept : W.keptBut W' (fun p => p ∈ before ∧ (p ∈ ([] : List MemPlace) ++ pa ∨ p ∈ pv)) := old.frame _
  obtain ⟨_, _, _, _, _, frz, sep⟩ := id whole
  refine ⟨ds, gs, before, [], pa, pv, whole, res _ _ _, arg _ marked, var _ marked, World.keptBut_mono (fun p m => ⟨m.1, ?_⟩) kept, fun _ => ?_⟩
  · have h := m.1
    rw [same, List.mem_append] at h
    exact Or.inr h
  · refine ⟨outer, _, _, ([] ++ pa) ++ pv, ⟨[] ++ pa, pv, trodAll_append (arg _ every) (res _ _ _), var _ every, rfl, ?_, ?_⟩, ?_⟩
    · intro b off m
      have h : MemPlace.cell b off ∈ before := by rw [same]; simpa using m
      rw [old.frozen (lower _ h)]
      exact frz b off h
    · intro yes
      have h := sep yes
      rw [same] at h
      simpa using h
    · intro p m _
      rw [same]
      simpa using m
end

end Go.Proofs.YtbfkjneidabijaaGreat
