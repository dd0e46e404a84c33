/- More words for memory, of no program: a struct built with one field given, a slice of one element of many cells, steps of drawn regions whose run is known. -/
import Derived.Test.YtogobeinckgjmaaMm
import Derived.Great.BuildSlice
namespace Go.Proofs.Ytogobeinckgjmaa
open Go.RowKit

section
variable {P : Program} {w w' : World} {ops : Array Oper} {rest : List Oper} {o : Oper} {a : Act} {K : Act → World → Prop} {Q : Exit → Act → World → Prop} {E : Prop}
theorem wpList_build_one (hg : o.guard = none) (t : TypeId) (i : Nat) (x : Operand) (hop : o.op = .build t #[(i, x)]) (v : Value) (hv : a.eval x = v) (cs : Array Value) (hb : P.built t [(i, v)] = some cs)
    (hK : wpList P ops Q rest (a.put o.dst (.agg cs)) w) : wpList P ops Q (o :: rest) a w := by
  have e : (#[(i, x)].map fun (p : Nat × Operand) => (p.1, a.eval p.2)).toList = [(i, v)] := by simp [hv]
  refine wpList_build hg t #[(i, x)] hop ?_ ?_
  · show (P.built t (#[(i, x)].map fun (p : Nat × Operand) => (p.1, a.eval p.2)).toList).isSome = true
    rw [e, hb]; rfl
  · show wpList P ops Q rest (a.put o.dst (.agg ((P.built t (#[(i, x)].map fun (p : Nat × Operand) => (p.1, a.eval p.2)).toList).getD #[]))) w
    rw [e, hb]; exact hK
theorem run_buildSlice_one (w : World) (t e : TypeId) (cs : Array Value) (ie : TypeInfo) (z : Value) (hu : P.underlying t = some (.slice e)) (hie : P.info? e = some ie) (hz : ie.zero = some z) (hs : ie.size = cs.size) (h0 : 0 < cs.size) (hm : cs.size ≤ 16777216) :
    (Instr.buildSlice t 1 #[(0, .agg cs)]).run P w = .ok (.slice (some ⟨w.heap.size, 0, none⟩) 1 1) (w.alloc (.cells cs e)) := by
  refine run_buildSlice w t e 1 _ cs ie z hu hie hz (by rw [hs, Nat.one_mul]; show ¬ cs.size > 16777216; omega) (by rw [hs, Nat.one_mul]; omega) ?_
  have q := Great.fill_whole (s := ie.size) (by rw [hs]; exact h0) [Value.agg cs] ((Array.range (1 * ie.size)).map (z.cells[· % z.cells.size]!)) (fun v hv => by rw [List.mem_singleton] at hv; subst hv; exact hs.symm) (by simp)
  simpa [Value.cells] using q

/-- An operation whose run is known, as one step of a drawn region. -/
theorem step_buildSlice (hgd : o.guard = none) (t : TypeId) (x : Operand) (hop : o.op = .buildSlice t 1 #[(0, x)]) (v : Value) (hv : a.eval x = v) {r : Value} (hrun : (Instr.buildSlice t 1 #[(0, v)]).run P w = .ok r w') (hK : K (a.put o.dst r) w') :
    if Region.wanted o (yielded ops a.tmps) = true then Oper.wp P o a w K Q else E := by
  rw [if_pos (by simp [Region.wanted, hgd])]
  unfold Oper.wp execOp
  have e : (#[(0, x)].map fun (p : Nat × Operand) => (p.1, a.eval p.2)) = #[(0, v)] := by simp [hv]
  simp only [hop, Sem.run_bind]
  rw [show (#[(0, x)].map fun (x : Nat × Operand) => match x with | (i, x) => (i, a.eval x)) = #[(0, v)] from e, hrun]
  exact hK
theorem step_mapUpdate (hgd : o.guard = none) (m x v : Operand) (t : TypeId) (hop : o.op = Op.mapUpdate t m x v) {mv xv vv : Value} (hm : a.eval m = mv) (hx : a.eval x = xv) (hv : a.eval v = vv)
    (hrun : (Instr.mapUpdate t mv xv vv).run P w = .ok () w') (hK : K (a.put o.dst undef) w') :
    if Region.wanted o (yielded ops a.tmps) = true then Oper.wp P o a w K Q else E := by
  rw [if_pos (by simp [Region.wanted, hgd])]
  unfold Oper.wp execOp
  simp only [hop, hm, hx, hv, Sem.run_bind, Sem.run_pure, hrun, Result.andThen_ok]
  exact hK
theorem step_store_mid (hgd : o.guard = none) (ty : TypeId) (x y : Operand) (ho : o.op = .store ty x y) (b off : Nat) (cells : Array Value) (hx : a.eval x = .pointer (some ⟨b, off, none⟩)) (hy : a.eval y = .agg cells)
    (ht : w.there b off cells.size) (hi : (P.info? ty).map (·.size) = some cells.size) (h1 : cells.all (·.oneCell') = true) (hK : K (a.put o.dst undef) (w.setCells b off cells.toList)) :
    if Region.wanted o (yielded ops a.tmps) = true then Oper.wp P o a w K Q else E := by
  rw [if_pos (by simp [Region.wanted, hgd])]
  exact wp_store_mid ty x y ho b off cells hx hy ht hi h1 hK
end

/-- Bytes laid over noughts, behind one cell. -/
theorem splice_bytes (v : Value) (b : List UInt8) (m : Nat) : splice (v :: List.replicate m (.int .u8 0)) 1 (bcells b) = v :: bcells (b ++ List.replicate (m - b.length) 0) := by
  unfold splice
  rw [bcells_len, bcells_app, show (1 + b.length) = b.length + 1 by omega]
  simp [bcells, bcell]
end Go.Proofs.Ytogobeinckgjmaa
