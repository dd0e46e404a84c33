/- A law's row: a function that answers true, and leaves all that was there when it was called as it was, whatever its arguments are made of. Arguments, opened: bytes, whole numbers. Two closed facts of the program, for the lifts; five arguments and six, parted. Arguments, opened: flags. -/
import Derived.Test.YtmcfknnfaokmlaaRet
import Derived.WideKeyArgs
import Derived.Deep.Slices
import Derived.Laws.Cover2
import Derived.WalkSmall
import Derived.Test.YtmcfknnfaokmlaaMem
import Derived.Test.YtmcfknnfaokmlaaRows
import Derived.Deep.Fields
import Derived.Carry
namespace Go.Proofs.Ytmcfknnfaokmlaa
set_option maxRecDepth 100000

open Go.ChangeShapes Go.WideShapes Go.ChangeAt Go.RowKit Go.Deep

section
variable {H : Type} {enc : TypeId × Value → H} {P : Program}

/-- What was read of old memory reads the same in a later world that left it alone. -/
theorem trodAll_behind (laid : laidOutB P = true) {W W' : World} (old : Below W.heap.size W W') {sp : Nat → Bool} :
    ∀ {ts : List TypeId} {vs : List Value} {ds : List (DataW H)} {ps : List MemPlace}, (∀ t ∈ ts, P.readableRec t = true ∧ t < P.types.size) → (∀ x ∈ ps, x.block < W.heap.size) → (∀ x ∈ ps, sp x.block = true) →
      DataW.TrodAll enc P W 0 (fun _ => true) true ts vs ds ps → DataW.TrodAll enc P W' 0 sp true ts vs ds ps
  | [], _, _, _, _, _, _, h => by
    obtain ⟨rfl, rfl, rfl⟩ := trodAll_nil h
    rfl
  | t :: ts, _, _, _, ok, low, mark, h => by
    obtain ⟨v, vs, d, ds, p, q, rfl, rfl, rfl, h1, h2⟩ := trodAll_cons h
    refine ⟨p, q, ?_, ?_, rfl⟩
    · exact WideElems.Trod_stays laid (ok t (by simp)).1 (ok t (by simp)).2 h1 (fun x m => old.same (low x (by simp [m]))) (fun x m => mark x (by simp [m]))
    · exact trodAll_behind laid old (fun u m => ok u (by simp [m])) (fun x m => low x (by simp [m])) (fun x m => mark x (by simp [m])) h2

theorem post_law {f : Func} {s : ChangeSpec} {apart fresh handsOn again : Bool} {W W' : World} {args : Array Value} {ds gs : List (DataW H)} {before : List MemPlace} {tb : TypeId}
    (laid : laidOutB P = true) (ok : ∀ t ∈ f.params.toList, P.readableRec t = true ∧ t < P.types.size) (nv : s.vars = []) (rt : f.resultTypes = #[tb]) (ut : P.underlying tb = some .bool)
    (whole : DataW.Whole enc P f.params.toList s.vars apart W args.toList ds gs before) (old : Below W.heap.size W W')
    (yes : (s.fn H (ds ++ gs)).results = [.lit (.bool true)]) (same : (s.fn H (ds ++ gs)).args = ds) (vars : (s.fn H (ds ++ gs)).vars = []) :
    s.post enc P f apart fresh handsOn again W args (.bool true) W' := by
  have low : ∀ x ∈ before, x.block < W.heap.size := fun x m => whole.lt x m
  obtain ⟨p, q, hA, hV, hb, _, _⟩ := id whole
  have hV' : DataW.TrodVars enc P W (fun _ => true) [] gs q := by rw [← nv]; exact hV
  obtain ⟨rfl, rfl⟩ := trodVars_none hV'
  rw [List.append_nil] at hb
  subst hb
  refine post_behind (pa := before) (pv := []) whole (by simp) old (fun _ _ _ => ?_) (fun sp mark => ?_) (fun sp _ => ?_) ?_
  · rw [yes, rt]
    exact trodAll_mk1 (shut_bool ut _)
  · rw [same]
    exact trodAll_behind laid old ok low mark hA
  · rw [vars, nv]
    rfl
  · exact ok_one rt rfl (okWide_bool_mk ut _)

/-- A list of float64 words, opened. -/
theorem open_words {w : World} {base : Nat} {t e : TypeId} {v : Value} {d : DataW H} {ps : List MemPlace} (ht : P.underlying t = some (.slice e)) (he : P.underlying e = some (.float .f64)) (hc : P.cellsOf e = 1)
    (hval : Value.okWide P w .any base t v) (h : DataW.Trod enc P w 0 (fun _ => true) true t v d ps) :
    (∃ a cap, v = .slice a 0 cap) ∨ ∃ (b off len cap : Nat) (B : Nat → Nat), v = .slice (some ⟨b, off, none⟩) len cap ∧ len ≤ maxLen ∧ (∀ j, B j < 18446744073709551616) ∧ ∀ j, j < len → w.cell? ⟨b, off + j, none⟩ = some (.float .f64 (B j)) := by
  obtain ⟨a0, len0, cap0, rfl⟩ := okWide_slice ht hval
  obtain ⟨fuel, hf⟩ := h
  rcases open_slice1 ht hc hf with ⟨hcs, _⟩ | ⟨a, len, cap, m, n, X, D, Pl, hcs, hb, hl, hm, hmm, hx, hcell⟩
  · simp [Value.cells] at hcs
    obtain ⟨_, rfl, _⟩ := hcs
    exact Or.inl ⟨_, _, rfl⟩
  · simp [Value.cells] at hcs
    obtain ⟨rfl, rfl, rfl⟩ := hcs
    simp only [if_true] at hmm
    subst hmm
    by_cases z : len0 = 0
    · subst z; exact Or.inl ⟨_, _, rfl⟩
    · obtain ⟨b, off, spot⟩ := a
      have hs : spot = none := by simpa [Addr.add] using World.cell?_spot (hcell 0 (by omega)).1
      subst hs
      have word : ∀ j, j < m → ∃ x, X j = .float .f64 x ∧ x < 18446744073709551616 := by
        intro j hj
        have q := (hcell j hj).2
        cases n with
        | zero => simp [DataW.trod] at q
        | succ n =>
          simp only [DataW.trod, he] at q
          cases hX : X j <;> simp only [hX] at q <;> first | (cases q; done) | skip
          rename_i k x
          cases k
          · simp at q
          · by_cases wf : (Lit.float .f64 x).wf = true
            · exact ⟨x, rfl, of_decide_eq_true wf⟩
            · simp [wf] at q
      obtain ⟨B, hB⟩ := choose_lt (α := Nat) (p := fun j x => X j = .float .f64 x ∧ x < 18446744073709551616) word
      refine Or.inr ⟨b, off, len0, m, fun j => if j < m then B j else 0, rfl, by omega, ?_, ?_⟩
      · intro j
        by_cases hj : j < m
        · simp only [if_pos hj]; exact (hB j hj).2
        · simp only [if_neg hj]; omega
      · intro j hj
        simp only [if_pos (show j < m by omega)]
        rw [← (hB j (by omega)).1, ← add_plain]
        exact (hcell j (by omega)).1
end

open Go.ChangeShapes Go.WideShapes Go.ChangeAt Go.RowKit Go.Deep

theorem wf_u8 {k : Int} (h : (Lit.int .u8 k).wf = true) : 0 ≤ k ∧ k < 256 := by
  unfold Lit.wf at h
  simp only [Bool.and_eq_true, decide_eq_true_eq] at h
  have a : IntKind.u8.min = 0 := by decide +kernel
  have b : IntKind.u8.max = 255 := by decide +kernel
  rw [a, b] at h; omega
theorem wf_u32 {k : Int} (h : (Lit.int .u32 k).wf = true) : 0 ≤ k ∧ k < 4294967296 := by
  unfold Lit.wf at h
  simp only [Bool.and_eq_true, decide_eq_true_eq] at h
  have a : IntKind.u32.min = 0 := by decide +kernel
  have b : IntKind.u32.max = 4294967295 := by decide +kernel
  rw [a, b] at h; omega
theorem wf_u64 {k : Int} (h : (Lit.int .u64 k).wf = true) : 0 ≤ k ∧ k < 18446744073709551616 := by
  unfold Lit.wf at h
  simp only [Bool.and_eq_true, decide_eq_true_eq] at h
  have a : IntKind.u64.min = 0 := by decide +kernel
  have b : IntKind.u64.max = 18446744073709551615 := by decide +kernel
  rw [a, b] at h; omega
theorem wf_i64 {k : Int} (h : (Lit.int .i64 k).wf = true) : -9223372036854775808 ≤ k ∧ k < 9223372036854775808 := by
  unfold Lit.wf at h
  simp only [Bool.and_eq_true, decide_eq_true_eq] at h
  have a : IntKind.i64.min = -9223372036854775808 := by decide +kernel
  have b : IntKind.i64.max = 9223372036854775807 := by decide +kernel
  rw [a, b] at h; omega

section
variable {H : Type} {enc : TypeId × Value → H} {P : Program} {w : World} {base : Nat} {sp : Nat → Bool} {held : Bool}

/-- A slice of whole numbers of one kind, in cells. -/
theorem cells_ints {t e : TypeId} {kd : IntKind} {fuel : Nat} {v : Value} {x : DataW H × List MemPlace} (ht : P.underlying t = some (.slice e)) (he : P.underlying e = some (.int kd)) (hc : P.cellsOf e = 1)
    (h : DataW.trod enc P w base sp held fuel t [v] = some x) : ∃ (A : Option Addr) (c : Nat) (ns : List Int), v = .slice A ns.length c ∧ ns.length ≤ c ∧ c ≤ maxLen ∧ (∀ n ∈ ns, (Lit.int kd n).wf = true) ∧ Lies w w.heap.size 0 A (ns.map (Value.int kd)) := by
  rcases open_ints ht he hc h with ⟨hcs, _⟩ | ⟨a, len, cap, zs, hcs, _, hl, hm, hz, _, hcell, hwf⟩
  · simp at hcs
    subst hcs
    exact ⟨none, 0, [], rfl, Nat.le_refl _, Nat.zero_le _, by simp, Lies.nil⟩
  · simp at hcs
    subst hcs
    have hlen : len ≤ zs.length := by rw [hz]; split <;> omega
    have e1 : (zs.take len).length = len := by rw [List.length_take]; omega
    refine ⟨some a, cap, zs.take len, by rw [e1], by omega, hm, fun n hn => hwf n (List.mem_of_mem_take hn), fun hne => ?_⟩
    have cells : ∀ j u, ((zs.take len).map (Value.int kd))[j]? = some u → w.cell? (a.add j) = some u := by
      intro j u hu
      rw [List.getElem?_map, List.getElem?_take] at hu
      split at hu
      · rename_i hj
        rw [hcell j (by omega)]
        rw [List.getElem?_eq_getElem (by omega)] at hu
        simp only [Option.map_some, Option.some.injEq] at hu
        rw [← hu, List.getD_eq_getElem?_getD, List.getElem?_eq_getElem (by omega)]
        rfl
      · simp at hu
    refine ⟨a, rfl, .inl ?_, cells⟩
    obtain ⟨u, hu⟩ : ∃ u, ((zs.take len).map (Value.int kd))[0]? = some u := by
      cases hq : (zs.take len).map (Value.int kd) with
      | nil => exact absurd hq hne
      | cons u _ => exact ⟨u, rfl⟩
    have := World.block_lt_of_cell? _ _ (cells 0 u hu)
    rwa [addr_block] at this
theorem cells_bytes {t e : TypeId} {fuel : Nat} {v : Value} {x : DataW H × List MemPlace} (ht : P.underlying t = some (.slice e)) (he : P.underlying e = some (.int .u8)) (hc : P.cellsOf e = 1)
    (h : DataW.trod enc P w base sp held fuel t [v] = some x) : ∃ (A : Option Addr) (c : Nat) (l : List UInt8), v = .slice A l.length c ∧ l.length ≤ c ∧ c ≤ maxLen ∧ Lies w w.heap.size 0 A (bcells l) := by
  obtain ⟨A, c, ns, hv, h1, h2, hwf, hL⟩ := cells_ints ht he hc h
  have e1 : ns.map (Value.int .u8) = bcells (ns.map fun n => UInt8.ofNat n.toNat) := by
    unfold bcells
    rw [List.map_map]
    refine List.map_congr_left fun n hn => ?_
    have := wf_u8 (hwf n hn)
    simp only [Function.comp, bcell]
    rw [UInt8.toNat_ofNat']
    congr 1
    omega
  rw [e1] at hL
  exact ⟨A, c, _, by simpa using hv, by simpa using h1, h2, hL⟩
end

section
variable {H : Type} {enc : TypeId × Value → H} {w : World} {base : Nat}

theorem Try.oneInt : Try.prog.cellsOf 3 = 1 := by kernel_rfl

theorem Try.oneU64 : Try.prog.cellsOf 24 = 1 := by kernel_rfl

theorem Try.oneI64 : Try.prog.cellsOf 2 = 1 := by kernel_rfl

theorem Try.oneBool : Try.prog.cellsOf 4 = 1 := by kernel_rfl

theorem Try.oneU8 : Try.prog.cellsOf 5 = 1 := by kernel_rfl

end

open Go.ChangeShapes Go.WideShapes Go.ChangeAt Go.RowKit

theorem Try.laidOut2 : laidOutB Try.prog = true := by kernel_rfl
theorem Try.own2 : ownKnob Try.prog.godebug = none := by kernel_rfl

theorem trodAll_five {H : Type} {enc : TypeId × Value → H} {P : Program} {w : World} {base : Nat} {sp : Nat → Bool} {held : Bool} {t0 t1 t2 t3 t4 : TypeId} {args : Array Value} {ds : List (DataW H)} {ps : List MemPlace}
    (h : DataW.TrodAll enc P w base sp held [t0, t1, t2, t3, t4] args.toList ds ps) :
    ∃ v0 v1 v2 v3 v4 d0 d1 d2 d3 d4 p0 p1 p2 p3 p4, args = #[v0, v1, v2, v3, v4] ∧ ds = [d0, d1, d2, d3, d4] ∧ ps = p0 ++ (p1 ++ p2 ++ p3 ++ p4) ∧
      DataW.Trod enc P w base sp held t0 v0 d0 p0 ∧ DataW.Trod enc P w base sp held t1 v1 d1 p1 ∧ DataW.Trod enc P w base sp held t2 v2 d2 p2 ∧ DataW.Trod enc P w base sp held t3 v3 d3 p3 ∧ DataW.Trod enc P w base sp held t4 v4 d4 p4 := by
  obtain ⟨v0, vs, d0, ds1, p0, q0, ha, rfl, rfl, h0, hr⟩ := trodAll_cons h
  obtain ⟨v1, v2, v3, v4, d1, d2, d3, d4, p1, p2, p3, p4, e, rfl, rfl, h1, h2, h3, h4⟩ := trodAll_four (args := vs.toArray) (by simpa using hr)
  have e2 : vs = [v1, v2, v3, v4] := by simpa using congrArg Array.toList e
  subst e2
  exact ⟨v0, v1, v2, v3, v4, d0, d1, d2, d3, d4, p0, p1, p2, p3, p4, by cases args; simp_all, rfl, rfl, h0, h1, h2, h3, h4⟩

theorem trodAll_six {H : Type} {enc : TypeId × Value → H} {P : Program} {w : World} {base : Nat} {sp : Nat → Bool} {held : Bool} {t0 t1 t2 t3 t4 t5 : TypeId} {args : Array Value} {ds : List (DataW H)} {ps : List MemPlace}
    (h : DataW.TrodAll enc P w base sp held [t0, t1, t2, t3, t4, t5] args.toList ds ps) :
    ∃ v0 v1 v2 v3 v4 v5 d0 d1 d2 d3 d4 d5 p0 p1 p2 p3 p4 p5, args = #[v0, v1, v2, v3, v4, v5] ∧ ds = [d0, d1, d2, d3, d4, d5] ∧ ps = p0 ++ (p1 ++ (p2 ++ p3 ++ p4 ++ p5)) ∧
      DataW.Trod enc P w base sp held t0 v0 d0 p0 ∧ DataW.Trod enc P w base sp held t1 v1 d1 p1 ∧ DataW.Trod enc P w base sp held t2 v2 d2 p2 ∧ DataW.Trod enc P w base sp held t3 v3 d3 p3 ∧ DataW.Trod enc P w base sp held t4 v4 d4 p4 ∧ DataW.Trod enc P w base sp held t5 v5 d5 p5 := by
  obtain ⟨v0, vs, d0, ds1, p0, q0, ha, rfl, rfl, h0, hr⟩ := trodAll_cons h
  obtain ⟨v1, v2, v3, v4, v5, d1, d2, d3, d4, d5, p1, p2, p3, p4, p5, e, rfl, rfl, h1, h2, h3, h4, h5⟩ := trodAll_five (args := vs.toArray) (by simpa using hr)
  have e2 : vs = [v1, v2, v3, v4, v5] := by simpa using congrArg Array.toList e
  subst e2
  exact ⟨v0, v1, v2, v3, v4, v5, d0, d1, d2, d3, d4, d5, p0, p1, p2, p3, p4, p5, by cases args; simp_all, rfl, rfl, h0, h1, h2, h3, h4, h5⟩

open Go.ChangeShapes Go.WideShapes Go.ChangeAt Go.RowKit Go.Deep

section
variable {H : Type} {enc : TypeId × Value → H} {P : Program} {w : World} {base : Nat} {sp : Nat → Bool} {held : Bool}

/-- A slice of flags, in cells. -/
theorem cells_bools {t e : TypeId} {fuel : Nat} {v : Value} {x : DataW H × List MemPlace} (ht : P.underlying t = some (.slice e)) (he : P.underlying e = some .bool) (hc : P.cellsOf e = 1)
    (h : DataW.trod enc P w base sp held fuel t [v] = some x) : ∃ (A : Option Addr) (c : Nat) (ks : List Bool), v = .slice A ks.length c ∧ ks.length ≤ c ∧ c ≤ maxLen ∧ Lies w w.heap.size 0 A (ks.map Value.bool) := by
  rcases open_slice1 ht hc h with ⟨hcs, _⟩ | ⟨a, len, cap, m, n, X, D, Pl, hcs, _, hl, hm, hmm, _, hx⟩
  · simp at hcs
    subst hcs
    exact ⟨none, 0, [], rfl, Nat.le_refl _, Nat.zero_le _, Lies.nil⟩
  · simp at hcs
    subst hcs
    have hlen : len ≤ m := by rw [hmm]; split <;> omega
    obtain ⟨Q, hQ⟩ := choose_lt (n := m) (α := Bool) (p := fun i q => w.cell? (a.add i) = some (.bool q)) (fun i hi => by
      obtain ⟨h1, h2⟩ := hx i hi
      obtain ⟨q, e1, _⟩ := DataW.trod_bool he h2
      exact ⟨q, by rw [h1, List.head_eq_of_cons_eq e1]⟩)
    refine ⟨some a, cap, (List.range len).map Q, by simp, by simpa using hl, hm, fun hne => ?_⟩
    have cells : ∀ j u, (((List.range len).map Q).map Value.bool)[j]? = some u → w.cell? (a.add j) = some u := by
      intro j u hu
      rw [List.map_map, List.getElem?_map] at hu
      have hj : j < len := by
        rcases Nat.lt_or_ge j len with z | z
        · exact z
        · rw [List.getElem?_eq_none (by simpa using z)] at hu; cases hu
      rw [List.getElem?_eq_getElem (by simpa using hj)] at hu
      simp only [List.getElem_range, Option.map_some, Function.comp] at hu
      rw [← hu]
      exact hQ j (by omega)
    refine ⟨a, rfl, .inl ?_, cells⟩
    obtain ⟨u, hu⟩ : ∃ u, (((List.range len).map Q).map Value.bool)[0]? = some u := by
      cases hq : ((List.range len).map Q).map Value.bool with
      | nil => exact absurd hq hne
      | cons u _ => exact ⟨u, rfl⟩
    have := World.block_lt_of_cell? _ _ (cells 0 u hu)
    rwa [addr_block] at this
end

section
variable {H : Type} {enc : TypeId × Value → H} {w : World} {base : Nat}

end
end Go.Proofs.Ytmcfknnfaokmlaa
