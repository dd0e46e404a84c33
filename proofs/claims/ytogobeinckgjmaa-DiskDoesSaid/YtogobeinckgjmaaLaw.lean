/- A law's row: a function that answers true, and leaves all that was there when it was called as it was, whatever its arguments are made of. -/
import Derived.Test.YtogobeinckgjmaaPost
import Derived.WideKeyArgs
import Derived.Deep.Slices
import Derived.Laws.Cover2
import Derived.WalkSmall
namespace Go.Proofs.Ytogobeinckgjmaa
open Go.ChangeShapes Go.WideShapes Go.ChangeAt Go.RowKit Go.Deep

section
variable {H : Type} {enc : TypeId × Value → H} {P : Program}

/-- What was read of old memory reads the same in a later world that left it alone. -/
theorem trodAll_behind (laid : laidOutB P = true) {W W' : World} (old : Below W.heap.size W W') {sp : Nat → Bool} :
    ∀ {ts : List TypeId} {vs : List Value} {ds : List (DataW H)} {ps : List MemPlace}, (∀ t ∈ ts, P.readableRec t = true ∧ t < P.types.size) → (∀ x ∈ ps, x.block < W.heap.size) → (∀ x ∈ ps, sp x.block = true) →
      DataW.TrodAll enc P W 0 (fun _ => true) true ts vs ds ps → DataW.TrodAll enc P W' 0 sp true ts vs ds ps
  | [], _, _, _, _, _, _, h => by
    obtain ⟨rfl, rfl, rfl⟩ := trodAll_nil h
    rfl
  | t :: ts, _, _, _, ok, low, mark, h => by
    obtain ⟨v, vs, d, ds, p, q, rfl, rfl, rfl, h1, h2⟩ := trodAll_cons h
    refine ⟨p, q, ?_, ?_, rfl⟩
    · exact WideElems.Trod_stays laid (ok t (by simp)).1 (ok t (by simp)).2 h1 (fun x m => old.same (low x (by simp [m]))) (fun x m => mark x (by simp [m]))
    · exact trodAll_behind laid old (fun u m => ok u (by simp [m])) (fun x m => low x (by simp [m])) (fun x m => mark x (by simp [m])) h2

theorem post_law {f : Func} {s : ChangeSpec} {apart fresh handsOn again : Bool} {W W' : World} {args : Array Value} {ds gs : List (DataW H)} {before : List MemPlace} {tb : TypeId}
    (laid : laidOutB P = true) (ok : ∀ t ∈ f.params.toList, P.readableRec t = true ∧ t < P.types.size) (nv : s.vars = []) (rt : f.resultTypes = #[tb]) (ut : P.underlying tb = some .bool)
    (whole : DataW.Whole enc P f.params.toList s.vars apart W args.toList ds gs before) (old : Below W.heap.size W W')
    (yes : (s.fn H (ds ++ gs)).results = [.lit (.bool true)]) (same : (s.fn H (ds ++ gs)).args = ds) (vars : (s.fn H (ds ++ gs)).vars = []) :
    s.post enc P f apart fresh handsOn again W args (.bool true) W' := by
  have low : ∀ x ∈ before, x.block < W.heap.size := fun x m => whole.lt x m
  obtain ⟨p, q, hA, hV, hb, _, _⟩ := id whole
  have hV' : DataW.TrodVars enc P W (fun _ => true) [] gs q := by rw [← nv]; exact hV
  obtain ⟨rfl, rfl⟩ := trodVars_none hV'
  rw [List.append_nil] at hb
  subst hb
  refine post_behind (pa := before) (pv := []) whole (by simp) old (fun _ _ _ => ?_) (fun sp mark => ?_) (fun sp _ => ?_) ?_
  · rw [yes, rt]
    exact trodAll_mk1 (shut_bool ut _)
  · rw [same]
    exact trodAll_behind laid old ok low mark hA
  · rw [vars, nv]
    rfl
  · exact ok_one rt rfl (okWide_bool_mk ut _)

/-- A list of float64 words, opened. -/
theorem open_words {w : World} {base : Nat} {t e : TypeId} {v : Value} {d : DataW H} {ps : List MemPlace} (ht : P.underlying t = some (.slice e)) (he : P.underlying e = some (.float .f64)) (hc : P.cellsOf e = 1)
    (hval : Value.okWide P w .any base t v) (h : DataW.Trod enc P w 0 (fun _ => true) true t v d ps) :
    (∃ a cap, v = .slice a 0 cap) ∨ ∃ (b off len cap : Nat) (B : Nat → Nat), v = .slice (some ⟨b, off, none⟩) len cap ∧ len ≤ maxLen ∧ (∀ j, B j < 18446744073709551616) ∧ ∀ j, j < len → w.cell? ⟨b, off + j, none⟩ = some (.float .f64 (B j)) := by
  obtain ⟨a0, len0, cap0, rfl⟩ := okWide_slice ht hval
  obtain ⟨fuel, hf⟩ := h
  rcases open_slice1 ht hc hf with ⟨hcs, _⟩ | ⟨a, len, cap, m, n, X, D, Pl, hcs, hb, hl, hm, hmm, hx, hcell⟩
  · simp [Value.cells] at hcs
    obtain ⟨_, rfl, _⟩ := hcs
    exact Or.inl ⟨_, _, rfl⟩
  · simp [Value.cells] at hcs
    obtain ⟨rfl, rfl, rfl⟩ := hcs
    simp only [if_true] at hmm
    subst hmm
    by_cases z : len0 = 0
    · subst z; exact Or.inl ⟨_, _, rfl⟩
    · obtain ⟨b, off, spot⟩ := a
      have hs : spot = none := by simpa [Addr.add] using World.cell?_spot (hcell 0 (by omega)).1
      subst hs
      have word : ∀ j, j < m → ∃ x, X j = .float .f64 x ∧ x < 18446744073709551616 := by
        intro j hj
        have q := (hcell j hj).2
        cases n with
        | zero => simp [DataW.trod] at q
        | succ n =>
          simp only [DataW.trod, he] at q
          cases hX : X j <;> simp only [hX] at q <;> first | (cases q; done) | skip
          rename_i k x
          cases k
          · simp at q
          · by_cases wf : (Lit.float .f64 x).wf = true
            · exact ⟨x, rfl, of_decide_eq_true wf⟩
            · simp [wf] at q
      obtain ⟨B, hB⟩ := choose_lt (α := Nat) (p := fun j x => X j = .float .f64 x ∧ x < 18446744073709551616) word
      refine Or.inr ⟨b, off, len0, m, fun j => if j < m then B j else 0, rfl, by omega, ?_, ?_⟩
      · intro j
        by_cases hj : j < m
        · simp only [if_pos hj]; exact (hB j hj).2
        · simp only [if_neg hj]; omega
      · intro j hj
        simp only [if_pos (show j < m by omega)]
        rw [← (hB j (by omega)).1, ← add_plain]
        exact (hcell j (by omega)).1
end

end Go.Proofs.Ytogobeinckgjmaa
