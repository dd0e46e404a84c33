/- Words for memory, of no program: elements of one size cell behind cell, cells written in a row of one's own, maps whose elements are slices, a new variable of many cells. More words for memory, of no program: a struct built with one field given, a slice of one element of many cells, steps of drawn regions whose run is known. -/
import Derived.Test.YtmcfknnfaokmlaaMem
import Derived.Deep.MidRow
import Derived.Deep.WholeRow
import Derived.Maps.RangeWalk
import Derived.Maps.Ext
import Derived.Laws.CopyOwn
import Derived.Great.BuildSlice
namespace Go.Proofs.Ytmcfknnfaokmlaa
open Go.RowKit
set_option maxRecDepth 100000

section
variable {α : Type} {f : α → List Value} {size : Nat}
theorem cel_len : ∀ {l : List α}, (∀ x ∈ l, (f x).length = size) → (l.flatMap f).length = l.length * size
 | [], _ => by simp
 | x :: l, h => by
  rw [List.flatMap_cons, List.length_append, cel_len (fun y hy => h y (List.mem_cons_of_mem _ hy)), h x (List.mem_cons_self ..), List.length_cons, Nat.add_mul, Nat.one_mul, Nat.add_comm]
theorem cel_at : ∀ {l : List α}, (∀ x ∈ l, (f x).length = size) → ∀ {k : Nat} {x : α}, l[k]? = some x → ∀ {j : Nat}, j < size → (l.flatMap f)[k * size + j]? = (f x)[j]?
 | [], _, k, x, h, _, _ => by simp at h
 | y :: l, hf, 0, x, h, j, hj => by
  simp only [List.getElem?_cons_zero, Option.some.injEq] at h
  subst h
  rw [List.flatMap_cons, Nat.zero_mul, Nat.zero_add, List.getElem?_append_left (by rw [hf y (List.mem_cons_self ..)]; exact hj)]
 | y :: l, hf, k + 1, x, h, j, hj => by
  simp only [List.getElem?_cons_succ] at h
  have hy := hf y (List.mem_cons_self ..)
  rw [List.flatMap_cons, List.getElem?_append_right (by rw [hy, Nat.add_mul]; omega), hy, show (k + 1) * size + j - size = k * size + j by rw [Nat.add_mul]; omega]
  exact cel_at (fun z hz => hf z (List.mem_cons_of_mem _ hz)) h hj
theorem cel_range {l : List α} (hf : ∀ x ∈ l, (f x).length = size) {k : Nat} {x : α} (h : l[k]? = some x) : ∀ (j : Nat) (v : Value), (f x)[j]? = some v → (l.flatMap f)[k * size + j]? = some v := by
 intro j v hv
 have hx := hf x (List.mem_of_getElem? h)
 have hj : j < size := by rw [← hx]; exact (List.getElem?_eq_some_iff.1 hv).1
 rw [cel_at hf h hj, hv]
theorem cel_splice : ∀ {l : List α}, (∀ x ∈ l, (f x).length = size) → ∀ {k : Nat}, k < l.length → ∀ {x : α}, (f x).length = size → (l.set k x).flatMap f = splice (l.flatMap f) (k * size) (f x)
 | [], _, k, h, _, _ => by simp at h
 | y :: l, hf, 0, _, x, hx => by
  rw [List.set_cons_zero, List.flatMap_cons, List.flatMap_cons]
  unfold splice
  rw [Nat.zero_mul, List.take_zero, List.nil_append, Nat.zero_add, hx, ← hf y (List.mem_cons_self ..), List.drop_left]
 | y :: l, hf, k + 1, h, x, hx => by
  have hy := hf y (List.mem_cons_self ..)
  have ih := cel_splice (fun z hz => hf z (List.mem_cons_of_mem _ hz)) (Nat.lt_of_succ_lt_succ h) hx
  rw [List.set_cons_succ, List.flatMap_cons, List.flatMap_cons, ih]
  unfold splice
  rw [show (k + 1) * size = (f y).length + k * size by rw [hy, Nat.add_mul, Nat.one_mul, Nat.add_comm], List.take_length_add_append, Nat.add_assoc, List.drop_length_add_append, List.append_assoc]
end

section
variable {w : World}
theorem heap_setCells_other {b k : Nat} (h : k ≠ b) : ∀ (vs : List Value) (o : Nat) (w : World), (w.setCells b o vs).heap[k]? = w.heap[k]?
 | [], _, _ => rfl
 | v :: r, o, w => by
  rw [World.setCells, heap_setCells_other h r]
  exact Below.heap_setCell _ _ _ _ h
theorem heap_setCells_same {b : Nat} {t : TypeId} {fr : Nat × Nat} : ∀ (vs : List Value) (o : Nat) (w : World) (cur : Array Value), w.heap[b]? = some (.cells cur t fr) → ∃ cur', (w.setCells b o vs).heap[b]? = some (.cells cur' t fr) ∧ cur'.size = cur.size
 | [], _, _, cur, h => ⟨cur, h, rfl⟩
 | v :: r, o, w, cur, h => by
  obtain ⟨cur', h1, h2⟩ := heap_setCells_same r (o + 1) _ _ (blk_set h o v)
  exact ⟨cur', h1, by rw [h2]; simp⟩
theorem setCells_ends (b : Nat) : ∀ (vs : List Value) (o : Nat) (w : World), (w.setCells b o vs).os = w.os ∧ (w.setCells b o vs).tape = w.tape ∧ (w.setCells b o vs).output = w.output ∧ (w.setCells b o vs).heap.size = w.heap.size
 | [], _, _ => ⟨rfl, rfl, rfl, rfl⟩
 | v :: r, o, w => by
  obtain ⟨h1, h2, h3, h4⟩ := setCells_ends b r (o + 1) (w.setCell ⟨b, o, none⟩ v)
  exact ⟨h1, h2, h3, by rw [World.setCells, h4]; simp [World.setCell]⟩
theorem grown_setCells (b : Nat) (vs : List Value) (o : Nat) (w : World) : w.grownBy (w.setCells b o vs) (some b) := by
 obtain ⟨h1, h2, h3, h4⟩ := setCells_ends b vs o w
 exact ⟨h1, h2, h3, by omega, fun k _ hk => heap_setCells_other (fun e => hk (by rw [e])) vs o w⟩

variable {base : Nat} {e : TypeId} {size n c g : Nat} {xs : List Value}
theorem own_cellAt (h : w.ownsRow base e size (.slice (some ⟨g, 0, none⟩) n c) n xs) {j : Nat} {v : Value} (hv : xs[j]? = some v) : w.cell? ⟨g, j, none⟩ = some v := by
 have := h.cells (g := g) rfl j v hv
 rwa [addr_at] at this
theorem own_range (h : w.ownsRow base e size (.slice (some ⟨g, 0, none⟩) n c) n xs) {o : Nat} {cs : List Value} (hc : ∀ j v, cs[j]? = some v → xs[o + j]? = some v) : w.rangeAt g o cs := fun j v hv => own_cellAt h (hc j v hv)
theorem own_there (h : w.ownsRow base e size (.slice (some ⟨g, 0, none⟩) n c) n xs) {o m : Nat} (hm : o + m ≤ xs.length) : w.there g o m := fun j hj => by
 have hx : xs[o + j]? = some (xs[o + j]'(by omega)) := List.getElem?_eq_getElem (by omega)
 refine ⟨by rw [own_cellAt h hx]; rfl, ?_⟩
 rcases h.2 with ⟨hn, _⟩ | ⟨g', cap, cur, hv, _, hh, _⟩
 ·cases hn
 ·injection hv with q
  injection q with q
  injection q with q
  subst q
  exact blk_free hh _
theorem own_setCells {o : Nat} {vs : List Value} (h : w.ownsRow base e size (.slice (some ⟨g, 0, none⟩) n c) n xs) (hf : o + vs.length ≤ xs.length) : (w.setCells g o vs).ownsRow base e size (.slice (some ⟨g, 0, none⟩) n c) n (splice xs o vs) := by
 have hl := length_splice xs o vs hf
 refine ⟨hl.trans h.1, ?_⟩
 have hthere := own_there h (o := o) (m := vs.length) hf
 have hcells : ∀ j v, xs[j]? = some v → w.cell? ⟨g, j, none⟩ = some v := fun j v hv => own_cellAt h hv
 rcases h.2 with ⟨hn, _⟩ | ⟨g', cap, cur, hv, hb, hh, hnc, hcm, hcs, ht⟩
 ·cases hn
 ·injection hv with q1 _ q2
  injection q1 with q
  injection q with q
  subst q
  obtain ⟨cur', h1, h2⟩ := heap_setCells_same vs o w cur hh
  refine .inr ⟨g, cap, cur', by rw [q2], hb, h1, hnc, hcm, by rw [h2]; exact hcs, ?_⟩
  have hcur : ∀ j : Nat, cur'[j]? = (w.setCells g o vs).cell? ⟨g, j, none⟩ := fun j => (cell_of_row _ g j cur' e (0, 0) h1).symm
  have hxl : n * size ≤ cur.size := by rw [hcs]; exact Nat.mul_le_mul_right _ hnc
  apply List.ext_getElem?
  intro j
  rw [List.getElem?_take]
  by_cases hj : j < n * size
  ·rw [if_pos hj, Array.getElem?_toList, hcur]
   have hx : xs[j]? = some (xs[j]'(by rw [h.1]; exact hj)) := List.getElem?_eq_getElem _
   unfold splice
   rw [List.getElem?_append]
   by_cases h0 : j < o
   ·rw [World.cell?_setCells_out g vs o w _ (fun _ _ => .inl h0), hcells j _ hx, if_pos (by rw [List.length_take]; omega), List.getElem?_take, if_pos h0, hx]
   ·rw [if_neg (by rw [List.length_take]; omega), List.length_take, Nat.min_eq_left (by omega), List.getElem?_append]
    by_cases h1' : j - o < vs.length
    ·rw [if_pos h1', show (⟨g, j, none⟩ : Addr) = ⟨g, o + (j - o), none⟩ by rw [show o + (j - o) = j by omega],
      World.cell?_setCells_in g vs o w (fun i hi => (hthere i hi).1) (j - o) h1', List.getElem?_eq_getElem h1']
    ·rw [if_neg h1', World.cell?_setCells_out g vs o w _ (fun _ _ => .inr (show o + vs.length ≤ j by omega)), hcells j _ hx, List.getElem?_drop, show o + vs.length + (j - o - vs.length) = j by omega, hx]
  ·rw [if_neg hj, List.getElem?_eq_none (by rw [hl, h.1]; omega)]
end

/-- How a slice that stands in a map reads: as itself. -/
def asIs : Value → Option (DataW Value × List MemPlace)
 | .slice a n c => some (.held (.slice a n c), [])
 | _ => none
theorem asIs_mk (s : Option Addr × Nat × Nat) : asIs (.slice s.1 s.2.1 s.2.2) = some (.held (.slice s.1 s.2.1 s.2.2), []) := rfl
theorem asIs_inv {v : Value} {y : DataW Value × List MemPlace} (h : asIs v = some y) : ∃ s : Option Addr × Nat × Nat, v = .slice s.1 s.2.1 s.2.2 ∧ y = (.held v, []) := by
 cases v <;> simp [asIs] at h
 rename_i a n c
 exact ⟨(a, n, c), rfl, h.symm⟩
/-- A number as a map's key, and what stands at it (nil, where nothing does). -/
def key (i : Int) : Lit := .int .i64 i
def at_ (D : DataW Value) (i : Int) : DataW Value := D.atKey (key i) (.held (.slice none 0 0))
theorem key_inj {i j : Int} : key i = key j ↔ i = j := ⟨fun h => by unfold key at h; injection h, fun h => by rw [h]⟩
theorem key_lit (i : Int) : WideAt.IsKeyLit (key i) := by simp [key, WideAt.IsKeyLit]
theorem key_same (i j : Int) : (key i).sameKey (key j) = decide (i = j) := by
 by_cases e : i = j
 ·subst e
  rw [WideAt.sameKey_self (key_lit i)]
  simp
 ·rw [Maps.sameKey_ne (fun q => e (key_inj.1 q))]
  simp [e]

section
variable {P : Program} {w : World} {t k e : TypeId} {b n : Nat} {D : DataW Value}
theorem map_look (h : w.ownsMap P k asIs b n D) (hk : P.underlying k = some (.int .i64)) (ht : P.underlying t = some (.map k e)) (hz : (zeroValue e).run P w = .ok (.slice none 0 0) w) {i : Int} (hi : (key i).wf = true) {v : Value} (hv : at_ D i = .held v) :
  (Instr.lookup t (.map (some b)) (.int .i64 i) false).run P w = .ok v w := by
 obtain ⟨u, ps, hr, hu⟩ := h.lookup (Maps.int_keyed hk) ht hz (asIs_mk (none, 0, 0)) (Maps.keyOf_int_mk hk hi)
 obtain ⟨_, _, hy⟩ := asIs_inv hu
 injection hy with hy _
 have q : DataW.held v = DataW.held u := hv.symm.trans hy
 injection q with q
 rw [hr, q]
theorem map_look_ok (h : w.ownsMap P k asIs b n D) (hk : P.underlying k = some (.int .i64)) (ht : P.underlying t = some (.map k e)) (hz : (zeroValue e).run P w = .ok (.slice none 0 0) w) {i : Int} (hi : (key i).wf = true) {v : Value} (hv : at_ D i = .held v) :
  (Instr.lookup t (.map (some b)) (.int .i64 i) true).run P w = .ok (.tuple #[v, .bool (Maps.has D (key i))]) w := by
 obtain ⟨u, ps, hr, hu⟩ := h.look_ok (Maps.int_keyed hk) ht hz (asIs_mk (none, 0, 0)) (Maps.keyOf_int_mk hk hi)
 obtain ⟨_, _, hy⟩ := asIs_inv hu
 injection hy with hy _
 have q : DataW.held v = DataW.held u := hv.symm.trans hy
 injection q with q
 rw [hr, q]
 rfl
theorem map_put (h : w.ownsMap P k asIs b n D) (hk : P.underlying k = some (.int .i64)) (ht : P.underlying t = some (.map k e)) (hn : n < maxLen) {i : Int} (hi : (key i).wf = true) (s : Option Addr × Nat × Nat) :
  ∃ w', (Instr.mapUpdate t (.map (some b)) (.int .i64 i) (.slice s.1 s.2.1 s.2.2)).run P w = .ok () w' ∧ w'.ownsMap P k asIs b (n + 1) (D.put (key i) (.held (.slice s.1 s.2.1 s.2.2))) ∧ w.grownBy w' (some b) :=
 h.update (Maps.int_keyed hk) ht hn (Maps.keyOf_int_mk hk hi) (asIs_mk s)
theorem map_clear (h : w.ownsMap P k asIs b n D) (ht : P.underlying t = some (.map k e)) (ty : TypeId) :
  ∃ w', (Builtin.clear_ #[t] ty #[.map (some b)]).run P w = .ok (.tuple #[]) w' ∧ w'.ownsMap P k asIs b 0 (.map []) ∧ w.grownBy w' (some b) := by
 obtain ⟨es, clock, hb, _⟩ := h
 refine ⟨ChangeMaps.setBlock w b (.map #[] clock), ?_, ⟨#[], clock, ChangeMaps.heap_setBlock_same hb _, ⟨by simp, MapKept.stamped_empty clock, by simp⟩, Nat.le_refl _, rfl⟩, ⟨rfl, rfl, rfl, by simp [ChangeMaps.setBlock], fun i _ hi => ChangeMaps.heap_setBlock_other hb _ (fun e => hi (by rw [e]))⟩⟩
 simp [Builtin.clear_, run_underlying ht, MapKept.run_getObj_map hb, MapKept.run_setObj_map _ hb, Result.andThen, ChangeMaps.setBlock]
theorem at_put_same {i : Int} (hD : Maps.IsMap D) (d : DataW Value) : at_ (D.put (key i) d) i = d := Maps.atKey_put_same hD (key_lit i) d _
theorem at_put_other {i j : Int} (h : j ≠ i) (d : DataW Value) : at_ (D.put (key i) d) j = at_ D j := Maps.atKey_put_other (fun e => h (key_inj.1 e)) d _
theorem has_put_key {i : Int} (hD : Maps.IsMap D) (d : DataW Value) : Maps.has (D.put (key i) d) (key i) = true := Maps.has_put_same hD (key_lit i) d
theorem at_empty (i : Int) : at_ (.map []) i = .held (.slice none 0 0) := rfl
theorem has_empty (l : Lit) : Maps.has (DataW.map [] : DataW Value) l = false := rfl
end

/-- A store into a map in a plain region, its run known. -/
theorem wpList_mapUpdate_run {P : Program} {w w' : World} {ops : Array Oper} {rest : List Oper} {o : Oper} {a : Act} {Q : Exit → Act → World → Prop} (hg : o.guard = none) (m x v : Operand) (t : TypeId) (hop : o.op = Op.mapUpdate t m x v)
  (hrun : (Instr.mapUpdate t (a.eval m) (a.eval x) (a.eval v)).run P w = .ok () w') (hK : wpList P ops Q rest (a.put o.dst undef) w') : wpList P ops Q (o :: rest) a w := by
 refine wpList_plain hg fun K' hK' => ?_
 unfold Oper.wp
 simp only [execOp, hop, Sem.run_bind, Sem.run_pure, hrun, Result.andThen_ok]
 exact hK' _ _ hK
/-- clear, in a plain region, its run known. -/
theorem wpList_clear_run {P : Program} {w w' : World} {ops : Array Oper} {rest : List Oper} {o : Oper} {a : Act} {Q : Exit → Act → World → Prop} (hg : o.guard = none) (m : Operand) (t : TypeId) (hop : o.op = Op.call { callee := Callee.builtin Builtin.clear, args := #[m], argTypes := #[t] })
  (v : Value) (hm : a.eval m = v) (hrun : (Builtin.clear_ #[t] o.type #[v]).run P w = .ok (.tuple #[]) w') (hK : wpList P ops Q rest (a.put o.dst (.tuple #[])) w') : wpList P ops Q (o :: rest) a w := by
 refine wpList_plain hg fun K' hK' => ?_
 unfold Oper.wp
 simp [execOp, hop, resolve, invoke, builtin, hm, hrun, Result.andThen]
 exact hK' _ _ hK
/-- A new variable of a type of many cells. -/
theorem wpList_alloc_zero {P : Program} {w : World} {ops : Array Oper} {rest : List Oper} {o : Oper} {a : Act} {Q : Exit → Act → World → Prop} (hg : o.guard = none) (t : TypeId) (hop : o.op = Op.alloc t) {cs : Array Value} {n : Nat} (hz : (P.info? t).map (fun i => (i.zero, i.size)) = some (some (.agg cs), n))
  (hK : wpList P ops Q rest (a.put o.dst (.pointer (some ⟨w.heap.size, 0, none⟩))) (w.alloc (.cells cs t))) : wpList P ops Q (o :: rest) a w := by
 have z := (zero_of_info hz).1 w
 refine wpList_plain hg fun K' hK' => ?_
 unfold Oper.wp
 simp [execOp, hop, Instr.alloc, z, newVar, Value.cells, Result.andThen]
 exact hK' _ _ hK
/-- A store of a whole variable, just made. -/
theorem wpList_store_new {P : Program} {w : World} {ops : Array Oper} {rest : List Oper} {o : Oper} {a : Act} {Q : Exit → Act → World → Prop} (hg : o.guard = none) (t : TypeId) (x y : Operand) (hop : o.op = Op.store t x y) (cs cs' : Array Value)
  (hx : a.eval x = .pointer (some ⟨w.heap.size, 0, none⟩)) (hy : a.eval y = .agg cs') (hi : (P.info? t).map (·.size) = some cs'.size) (hs : cs.size = cs'.size) (h1 : cs'.all (·.oneCell') = true)
  (hK : wpList P ops Q rest (a.put o.dst undef) (w.alloc (.cells cs' t))) : wpList P ops Q (o :: rest) a (w.alloc (.cells cs t)) :=
 wpList_plain hg fun K' hK' => by
  unfold Oper.wp execOp
  simp only [hop, hx, hy, Sem.run_bind, Sem.run_pure, Result.andThen_ok, run_storeAt_new (P := P) w t cs cs' hi hs h1]
  exact hK' _ _ hK

section
variable {P : Program} {w w' : World} {ops : Array Oper} {rest : List Oper} {o : Oper} {a : Act} {K : Act → World → Prop} {Q : Exit → Act → World → Prop} {E : Prop}
theorem wpList_build_one (hg : o.guard = none) (t : TypeId) (i : Nat) (x : Operand) (hop : o.op = .build t #[(i, x)]) (v : Value) (hv : a.eval x = v) (cs : Array Value) (hb : P.built t [(i, v)] = some cs)
  (hK : wpList P ops Q rest (a.put o.dst (.agg cs)) w) : wpList P ops Q (o :: rest) a w := by
 have e : (#[(i, x)].map fun (p : Nat × Operand) => (p.1, a.eval p.2)).toList = [(i, v)] := by simp [hv]
 refine wpList_build hg t #[(i, x)] hop ?_ ?_
 ·show (P.built t (#[(i, x)].map fun (p : Nat × Operand) => (p.1, a.eval p.2)).toList).isSome = true
  rw [e, hb]; rfl
 ·show wpList P ops Q rest (a.put o.dst (.agg ((P.built t (#[(i, x)].map fun (p : Nat × Operand) => (p.1, a.eval p.2)).toList).getD #[]))) w
  rw [e, hb]; exact hK
theorem run_buildSlice_one (w : World) (t e : TypeId) (cs : Array Value) (ie : TypeInfo) (z : Value) (hu : P.underlying t = some (.slice e)) (hie : P.info? e = some ie) (hz : ie.zero = some z) (hs : ie.size = cs.size) (h0 : 0 < cs.size) (hm : cs.size ≤ 16777216) :
  (Instr.buildSlice t 1 #[(0, .agg cs)]).run P w = .ok (.slice (some ⟨w.heap.size, 0, none⟩) 1 1) (w.alloc (.cells cs e)) := by
 refine run_buildSlice w t e 1 _ cs ie z hu hie hz (by rw [hs, Nat.one_mul]; show ¬ cs.size > 16777216; omega) (by rw [hs, Nat.one_mul]; omega) ?_
 have q := Great.fill_whole (s := ie.size) (by rw [hs]; exact h0) [Value.agg cs] ((Array.range (1 * ie.size)).map (z.cells[· % z.cells.size]!)) (fun v hv => by rw [List.mem_singleton] at hv; subst hv; exact hs.symm) (by simp)
 simpa [Value.cells] using q

/-- An operation whose run is known, as one step of a drawn region. -/
theorem step_buildSlice (hgd : o.guard = none) (t : TypeId) (x : Operand) (hop : o.op = .buildSlice t 1 #[(0, x)]) (v : Value) (hv : a.eval x = v) {r : Value} (hrun : (Instr.buildSlice t 1 #[(0, v)]).run P w = .ok r w') (hK : K (a.put o.dst r) w') :
  if Region.wanted o (yielded ops a.tmps) = true then Oper.wp P o a w K Q else E := by
 rw [if_pos (by simp [Region.wanted, hgd])]
 unfold Oper.wp execOp
 have e : (#[(0, x)].map fun (p : Nat × Operand) => (p.1, a.eval p.2)) = #[(0, v)] := by simp [hv]
 simp only [hop, Sem.run_bind]
 rw [show (#[(0, x)].map fun (x : Nat × Operand) => match x with | (i, x) => (i, a.eval x)) = #[(0, v)] from e, hrun]
 exact hK
theorem step_mapUpdate (hgd : o.guard = none) (m x v : Operand) (t : TypeId) (hop : o.op = Op.mapUpdate t m x v) {mv xv vv : Value} (hm : a.eval m = mv) (hx : a.eval x = xv) (hv : a.eval v = vv)
  (hrun : (Instr.mapUpdate t mv xv vv).run P w = .ok () w') (hK : K (a.put o.dst undef) w') :
  if Region.wanted o (yielded ops a.tmps) = true then Oper.wp P o a w K Q else E := by
 rw [if_pos (by simp [Region.wanted, hgd])]
 unfold Oper.wp execOp
 simp only [hop, hm, hx, hv, Sem.run_bind, Sem.run_pure, hrun, Result.andThen_ok]
 exact hK
theorem step_store_mid (hgd : o.guard = none) (ty : TypeId) (x y : Operand) (ho : o.op = .store ty x y) (b off : Nat) (cells : Array Value) (hx : a.eval x = .pointer (some ⟨b, off, none⟩)) (hy : a.eval y = .agg cells)
  (ht : w.there b off cells.size) (hi : (P.info? ty).map (·.size) = some cells.size) (h1 : cells.all (·.oneCell') = true) (hK : K (a.put o.dst undef) (w.setCells b off cells.toList)) :
  if Region.wanted o (yielded ops a.tmps) = true then Oper.wp P o a w K Q else E := by
 rw [if_pos (by simp [Region.wanted, hgd])]
 exact wp_store_mid ty x y ho b off cells hx hy ht hi h1 hK
end

/-- Bytes laid over noughts, behind one cell. -/
theorem splice_bytes (v : Value) (b : List UInt8) (m : Nat) : splice (v :: List.replicate m (.int .u8 0)) 1 (bcells b) = v :: bcells (b ++ List.replicate (m - b.length) 0) := by
 unfold splice
 rw [bcells_len, bcells_app, show (1 + b.length) = b.length + 1 by omega]
 simp [bcells, bcell]
end Go.Proofs.Ytmcfknnfaokmlaa
