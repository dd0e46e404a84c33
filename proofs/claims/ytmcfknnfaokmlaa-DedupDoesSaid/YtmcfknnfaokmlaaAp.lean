/- More of appends, of no program: onto a slice without spare room (a new row), noughts behind a row, and an append as one step of a drawn region. Appends as steps of a drawn region, behind a guard. Of no program. Footprints: what a call may have touched told by blocks (a predicate F), beside what is newer than block B. A drawn region whose last store writes what the region's own loads read: loads may be taken first all the same, for that store waits for each of them. Of no program. -/
import Derived.Test.YtmcfknnfaokmlaaMem
import Derived.Deep.AppendSrc
import Derived.Deep.RegionLaw
import Derived.Lib.AppendZerosOnto
import Derived.OrdersHeld
import Derived.Deep.RegionHeld
namespace Go.Proofs.Ytmcfknnfaokmlaa
set_option maxRecDepth 100000

section
section
open Go.RowKit

section
variable {P : Program} (w : World)

/-- Behind an append that made a new row. -/
theorem own_new {base : Nat} {e : TypeId} {z : Value} {size need old : Nat} {xs : List Value} (hbase : base ≤ w.heap.size) (hl : xs.length = need * size) (hzs : z.cells.size = size) (hn : need ≤ maxLen) :
    (w.drew.alloc (.cells (xs.toArray ++ Builtin.zeroCells z.cells (grownCap w need old e - need)) e)).ownsRow base e size (.slice (some ⟨w.heap.size, 0, none⟩) need (grownCap w need old e)) need xs := by
  have hge := grownCap_ge w need old e
  refine ⟨hl, .inr ⟨w.heap.size, _, _, rfl, hbase, heap_alloc_new w.drew _, hge, grownCap_le_maxLen w need old e hn, ?_, ?_⟩⟩
  · rw [Array.size_append, List.size_toArray, size_zeroCells, hzs, hl, ← Nat.add_mul]
    congr 1
    omega
  · rw [Array.toList_append, ← hl]
    exact List.take_left

/-- Onto a slice without spare room: a new row. -/
theorem run_app_new (base : Nat) (t ty e : TypeId) (i : TypeInfo) (z : Value) (size bytes : Nat) (ht : P.underlying t = some (.slice e)) (hi : P.info? e = some i) (hz : i.zero = some z)
    (hsize : i.size = size) (hby : i.bytes = bytes) (hzs : z.cells.size = size)
    (B0 : Nat) (t0 : TypeId) (A0 : Option Addr) (n : Nat) (olds : List Value) (hl0 : olds.length = n * size) (hL0 : Lies w B0 t0 A0 olds) (hnil : A0 = none → n = 0)
    (ad : Addr) (m c : Nat) (news : List Value) (hl : news.length = m * size) (hc : ∀ j u, news[j]? = some u → w.cell? (ad.add j) = some u) (h1 : ∀ u ∈ news, u.oneCell' = true) (hm : 0 < m)
    (h63 : n + m ≤ maxLen) (hbytes : (n + m) * bytes ≤ 140737488355328) (hbase : base ≤ w.heap.size) :
    ∃ v' w', (Builtin.append_ #[t, t] ty #[.slice A0 n n, .slice (some ad) m c]).run P w = .ok v' w' ∧ w'.ownsRow base e size v' (n + m) (olds ++ news) ∧ w.grownBy w' none ∧ v'.ownBlock = some w.heap.size := by
  subst hsize
  subst hby
  have hold : (Builtin.firstCells i.size n (.slice A0 n n)).run P w.drew = .ok olds.toArray w.drew := by
    rcases A0 with _ | b
    · have : n = 0 := hnil rfl
      subst this
      have : olds = [] := List.eq_nil_of_length_eq_zero (by simpa using hl0)
      subst this
      exact run_firstCells_none w.drew _ _ _ _
    · refine run_firstCells_some w.drew i.size n b n n olds hl0 (fun j u hu => ?_)
      obtain ⟨ad', q, _, hcell⟩ := hL0 (fun e => by rw [e] at hu; simp at hu)
      injection q with q
      subst q
      exact hcell j u hu
  have hs := Src.ofSlice (P := P) w ht ad m c news hl hc h1
  have hr := run_append_grow_src (P := P) w t t ty e i z ht hi hz A0 n n olds hold (.slice (some ad) m c) m news hs (by omega) (by unfold maxLen at h63; omega) (growslice_fits (by omega) hbytes)
  exact ⟨_, _, hr, own_new w hbase (by rw [List.length_append, hl0, hl, Nat.add_mul]) hzs h63, ⟨rfl, rfl, rfl, by simp, fun k hk _ => Below.heap_alloc w.drew _ k hk⟩, rfl⟩

theorem zeros_len (z : Value) (m : Nat) : (Builtin.zeroCells z.cells m).toList.length = m * z.cells.size := by rw [Array.length_toList, size_zeroCells]

/-- Noughts behind a row of one-cell elements. -/
theorem run_app_zeros (base : Nat) (t tx ty e : TypeId) (i : TypeInfo) (z : Value) (bytes : Nat) (kx kd : IntKind) (ht : P.underlying t = some (.slice e)) (htx : P.underlying tx = some (.int kx)) (hi : P.info? e = some i) (hz : i.zero = some z)
    (hsize : i.size = 1) (hby : i.bytes = bytes) (hzs : z.cells = #[z]) (hz1 : z.oneCell' = true)
    (v : Value) (n : Nat) (xs : List Value) (hown : w.ownsRow base e 1 v n xs) (m : Nat)
    (h63 : n + m ≤ maxLen) (hbytes : (n + m) * bytes ≤ 140737488355328) (hbase : base ≤ w.heap.size) :
    ∃ v' w', (Builtin.append_ #[t, tx] ty #[v, .int kd (m : Int)]).run P w = .ok v' w' ∧ w'.ownsRow base e 1 v' (n + m) (xs ++ List.replicate m z) ∧ w.grownBy w' v.ownBlock ∧ (v'.ownBlock = v.ownBlock ∨ v'.ownBlock = some w.heap.size) := by
  have e0 : (Builtin.zeroCells z.cells m).toList = List.replicate m z := by
    rw [hzs]
    unfold Builtin.zeroCells
    apply List.ext_getElem?
    intro j
    by_cases hj : j < m
    · simp [hj, Nat.mod_one]
    · simp [hj]
  have hz0 : z.cells.size = 1 := by rw [hzs]; rfl
  have hwrap : IntKind.i64.wrap (m : Int) = m := by rw [IntKind.wrap_i64]; unfold maxLen at h63; omega
  have hneg : ¬ ((m : Int) < 0) := by omega
  have hmb : m * bytes ≤ 140737488355328 := Nat.le_trans (Nat.mul_le_mul_right _ (Nat.le_add_left _ _)) hbytes
  have h48i : ¬ (281474976710656 < (m : Int) * (bytes : Int)) := by rw [← Int.natCast_mul]; omega
  subst hby
  by_cases hm : m = 0
  · subst hm
    have w0 : IntKind.i64.wrap 0 = 0 := by decide +kernel
    refine ⟨v, w, ?_, by simpa using hown, World.grownBy.refl w _, .inl rfl⟩
    rcases hown.2 with ⟨rfl, rfl⟩ | ⟨g, cap, cur, rfl, hbg, hg, hnc, hcm, hcs, htake⟩
    · simp [Builtin.append_, run_underlying ht, run_underlying htx, sizeOf, typeInfo, hi, asInt, asIntOf, w0]
    · simp [Builtin.append_, run_underlying ht, run_underlying htx, sizeOf, typeInfo, hi, asInt, asIntOf, w0, hnc, storeCells]
  have ez : (List.replicate m z).toArray = Builtin.zeroCells z.cells m := by rw [← e0, Array.toArray_toList]
  rcases hown.2 with ⟨rfl, rfl⟩ | ⟨g, cap, cur, rfl, hbg, hg, hnc, hcm, hcs, htake⟩
  · have hx : xs = [] := List.eq_nil_of_length_eq_zero (by simpa using hown.1)
    subst hx
    have hr := Lib.run_append_grow_zeros (P := P) w t tx ty e i z kd kx ht htx hi hz none 0 0 [] (run_firstCells_none w.drew _ _ _ _) m (by omega) (by omega) (by omega) (by unfold maxLen at h63; omega) (by omega) (growslice_fits (by omega) hbytes)
    refine ⟨_, _, hr, ?_, ⟨rfl, rfl, rfl, by simp, fun k hk _ => Below.heap_alloc w.drew _ k hk⟩, .inr rfl⟩
    have q := own_new w (base := base) (e := e) (z := z) (size := 1) (need := 0 + m) (old := 0) (xs := List.replicate m z) hbase (by simp) hz0 h63
    rw [ez] at q
    simpa using q
  · by_cases hroom : n + m ≤ cap
    · have hfit : n + 0 + (List.replicate m z).length ≤ cur.size := by rw [List.length_replicate, hcs]; omega
      have hst := run_storeCells_at P g n e (List.replicate m z) 0 cur w hg hfit (fun u hu => by rw [List.eq_of_mem_replicate hu]; exact hz1)
      refine ⟨.slice (some ⟨g, 0, none⟩) (n + m) cap, w.setRow g (cur.toList.take (n + 0) ++ List.replicate m z ++ cur.toList.drop (n + 0 + (List.replicate m z).length)).toArray, ?_, ?_, ⟨rfl, rfl, rfl, by simp, fun k _ hk => setRow_other w g k _ (fun q => hk (by simp [Value.ownBlock, q]))⟩, .inl rfl⟩
      · simp [Builtin.append_, run_underlying ht, run_underlying htx, sizeOf, typeInfo, zeroValue, hi, hz, asInt, asIntOf, hwrap, hneg, hm, hsize, h48i, hroom, Addr.add_lit, e0]
        rw [hst]
        simp
      · refine ⟨by simpa using hown.1, .inr ⟨g, cap, _, rfl, hbg, setRow_heap w g cur _ e _ hg, hroom, hcm, ?_, ?_⟩⟩
        · simp only [List.size_toArray, List.length_append, List.length_take, List.length_drop, Array.length_toList, List.length_replicate]
          omega
        · have l : (cur.toList.take (n + 0) ++ List.replicate m z).length = (n + m) * 1 := by
            rw [List.length_append, List.length_take, List.length_replicate, Array.length_toList, hcs]; omega
          rw [← htake]
          show List.take ((n + m) * 1) (cur.toList.take (n + 0) ++ List.replicate m z ++ _) = _
          rw [← l, List.take_left, Nat.add_zero, Nat.mul_one]
    · have holds : ∀ j u, xs[j]? = some u → w.cell? ((⟨g, 0, none⟩ : Addr).add j) = some u := hown.cells (g := g) rfl
      have hold := run_firstCells_some (P := P) w.drew i.size n ⟨g, 0, none⟩ n cap xs (by rw [hsize]; exact hown.1) (by simpa using holds)
      have hr := Lib.run_append_grow_zeros (P := P) w t tx ty e i z kd kx ht htx hi hz (some ⟨g, 0, none⟩) n cap xs hold m (by omega) (by omega) (by omega) (by unfold maxLen at h63; omega) (by omega) (growslice_fits (by omega) hbytes)
      refine ⟨_, _, hr, ?_, ⟨rfl, rfl, rfl, by simp, fun k hk _ => Below.heap_alloc w.drew _ k hk⟩, .inr rfl⟩
      have q := own_new w (base := base) (e := e) (z := z) (size := 1) (need := n + m) (old := cap) (xs := xs ++ List.replicate m z) hbase (by have := hown.1; simp at this ⊢; omega) hz0 h63
      rw [← ez]
      rw [← List.append_toArray] at q
      exact q
end

/-- An append whose run is known, as one step of a drawn region. -/
theorem step_app {P : Program} {ops : Array Oper} {o : Oper} {a : Act} {w w' : World} {K : Act → World → Prop} {Q : Exit → Act → World → Prop} {E : Prop}
    (hg : o.guard = none) (s x : Operand) (t tx : TypeId) (hop : o.op = Op.call { callee := Callee.builtin Builtin.append, args := #[s, x], argTypes := #[t, tx] }) {v xv v' : Value}
    (hs : a.eval s = v) (hx : a.eval x = xv) (hrun : (Builtin.append_ #[t, tx] o.type #[v, xv]).run P w = .ok v' w') (hK : K (a.put o.dst v') w') :
    if Region.wanted o (yielded ops a.tmps) = true then Oper.wp P o a w K Q else E := by
  have hw : Region.wanted o (yielded ops a.tmps) = true := by simp [Region.wanted, hg]
  rw [if_pos hw]
  unfold Oper.wp
  simp only [execOp, hop, resolve, invoke, builtin, Sem.run_bind, Sem.run_pure, Result.andThen_ok, List.map_toArray, List.map_cons, List.map_nil, hs, hx, hrun]
  exact hK

/-- An append to a row of one's own, as one step of a drawn region. -/
theorem step_own {P : Program} {ops : Array Oper} {o : Oper} {a : Act} {w : World} {K : Act → World → Prop} {Q : Exit → Act → World → Prop} {E : Prop}
    (hgd : o.guard = none) (s x : Operand) (t : TypeId) (ho : o.op = Op.call { callee := Callee.builtin Builtin.append, args := #[s, x], argTypes := #[t, t] })
    (base : Nat) (e : TypeId) (i : TypeInfo) (z : Value) (size bytes : Nat) (ht : P.underlying t = some (.slice e)) (hi : P.info? e = some i) (hz : i.zero = some z)
    (hsize : i.size = size) (hby : i.bytes = bytes) (hzs : z.cells.size = size) (hsz : 0 < size)
    (v : Value) (n : Nat) (xs : List Value) (hs : a.eval s = v) (hown : w.ownsRow base e size v n xs)
    (B : Nat) (A : Option Addr) (m c : Nat) (news : List Value) (t' : TypeId) (hx : a.eval x = .slice A m c) (hl : news.length = m * size) (hL : Lies w B t' A news) (h1 : ∀ u ∈ news, u.oneCell' = true)
    (h63 : n + m ≤ maxLen) (hbytes : (n + m) * bytes ≤ 140737488355328) (hbase : base ≤ w.heap.size)
    (h : ∀ v' w', w'.ownsRow base e size v' (n + m) (xs ++ news) → w.grownBy w' v.ownBlock → (v'.ownBlock = v.ownBlock ∨ v'.ownBlock = some w.heap.size) → K (a.put o.dst v') w') :
    if Region.wanted o (yielded ops a.tmps) = true then Oper.wp P o a w K Q else E := by
  obtain ⟨v', w', hrun, h2, h3, h4⟩ := run_app (P := P) w base t o.type e i z size bytes ht hi hz hsize hby hzs hsz v n xs hown B A m c news t' hl hL h1 h63 hbytes hbase
  exact step_app hgd s x t t ho hs hx hrun (h v' w' h2 h3 h4)
/-- Noughts behind a row of one's own, as one step of a drawn region. -/
theorem step_zeros {P : Program} {ops : Array Oper} {o : Oper} {a : Act} {w : World} {K : Act → World → Prop} {Q : Exit → Act → World → Prop} {E : Prop}
    (hgd : o.guard = none) (s x : Operand) (t tx : TypeId) (ho : o.op = Op.call { callee := Callee.builtin Builtin.append, args := #[s, x], argTypes := #[t, tx] })
    (base : Nat) (e : TypeId) (i : TypeInfo) (z : Value) (bytes : Nat) (kx kd : IntKind) (ht : P.underlying t = some (.slice e)) (htx : P.underlying tx = some (.int kx)) (hi : P.info? e = some i) (hz : i.zero = some z)
    (hsize : i.size = 1) (hby : i.bytes = bytes) (hzs : z.cells = #[z]) (hz1 : z.oneCell' = true)
    (v : Value) (n : Nat) (xs : List Value) (hs : a.eval s = v) (hown : w.ownsRow base e 1 v n xs) (m : Nat) (hx : a.eval x = .int kd (m : Int))
    (h63 : n + m ≤ maxLen) (hbytes : (n + m) * bytes ≤ 140737488355328) (hbase : base ≤ w.heap.size)
    (h : ∀ v' w', w'.ownsRow base e 1 v' (n + m) (xs ++ List.replicate m z) → w.grownBy w' v.ownBlock → (v'.ownBlock = v.ownBlock ∨ v'.ownBlock = some w.heap.size) → K (a.put o.dst v') w') :
    if Region.wanted o (yielded ops a.tmps) = true then Oper.wp P o a w K Q else E := by
  obtain ⟨v', w', hrun, h2, h3, h4⟩ := run_app_zeros (P := P) w base t tx o.type e i z bytes kx kd ht htx hi hz hsize hby hzs hz1 v n xs hown m h63 hbytes hbase
  exact step_app hgd s x t tx ho hs hx hrun (h v' w' h2 h3 h4)
/-- An append to a slice without spare room, as one step of a drawn region. -/
theorem step_new {P : Program} {ops : Array Oper} {o : Oper} {a : Act} {w : World} {K : Act → World → Prop} {Q : Exit → Act → World → Prop} {E : Prop}
    (hgd : o.guard = none) (s x : Operand) (t : TypeId) (ho : o.op = Op.call { callee := Callee.builtin Builtin.append, args := #[s, x], argTypes := #[t, t] })
    (base : Nat) (e : TypeId) (i : TypeInfo) (z : Value) (size bytes : Nat) (ht : P.underlying t = some (.slice e)) (hi : P.info? e = some i) (hz : i.zero = some z)
    (hsize : i.size = size) (hby : i.bytes = bytes) (hzs : z.cells.size = size)
    (B0 : Nat) (t0 : TypeId) (A0 : Option Addr) (n : Nat) (olds : List Value) (hs : a.eval s = .slice A0 n n) (hl0 : olds.length = n * size) (hL0 : Lies w B0 t0 A0 olds) (hnil : A0 = none → n = 0)
    (ad : Addr) (m c : Nat) (news : List Value) (hx : a.eval x = .slice (some ad) m c) (hl : news.length = m * size) (hc : ∀ j u, news[j]? = some u → w.cell? (ad.add j) = some u) (h1 : ∀ u ∈ news, u.oneCell' = true) (hm : 0 < m)
    (h63 : n + m ≤ maxLen) (hbytes : (n + m) * bytes ≤ 140737488355328) (hbase : base ≤ w.heap.size)
    (h : ∀ v' w', w'.ownsRow base e size v' (n + m) (olds ++ news) → w.grownBy w' none → v'.ownBlock = some w.heap.size → K (a.put o.dst v') w') :
    if Region.wanted o (yielded ops a.tmps) = true then Oper.wp P o a w K Q else E := by
  obtain ⟨v', w', hrun, h2, h3, h4⟩ := run_app_new (P := P) w base t o.type e i z size bytes ht hi hz hsize hby hzs B0 t0 A0 n olds hl0 hL0 hnil ad m c news hl hc h1 hm h63 hbytes hbase
  exact step_app hgd s x t t ho hs hx hrun (h v' w' h2 h3 h4)

/-- An append whose run is known, as one step of a drawn region. -/
theorem step_appg {P : Program} {ops : Array Oper} {o : Oper} {a : Act} {w w' : World} {K : Act → World → Prop} {Q : Exit → Act → World → Prop} {E : Prop}
    (hw : Region.wanted o (yielded ops a.tmps) = true) (s x : Operand) (t tx : TypeId) (hop : o.op = Op.call { callee := Callee.builtin Builtin.append, args := #[s, x], argTypes := #[t, tx] }) {v xv v' : Value}
    (hs : a.eval s = v) (hx : a.eval x = xv) (hrun : (Builtin.append_ #[t, tx] o.type #[v, xv]).run P w = .ok v' w') (hK : K (a.put o.dst v') w') :
    if Region.wanted o (yielded ops a.tmps) = true then Oper.wp P o a w K Q else E := by
  rw [if_pos hw]
  unfold Oper.wp
  simp only [execOp, hop, resolve, invoke, builtin, Sem.run_bind, Sem.run_pure, Result.andThen_ok, List.map_toArray, List.map_cons, List.map_nil, hs, hx, hrun]
  exact hK

/-- An append to a row of one's own, as one step of a drawn region. -/
theorem step_owng {P : Program} {ops : Array Oper} {o : Oper} {a : Act} {w : World} {K : Act → World → Prop} {Q : Exit → Act → World → Prop} {E : Prop}
    (hgd : Region.wanted o (yielded ops a.tmps) = true) (s x : Operand) (t : TypeId) (ho : o.op = Op.call { callee := Callee.builtin Builtin.append, args := #[s, x], argTypes := #[t, t] })
    (base : Nat) (e : TypeId) (i : TypeInfo) (z : Value) (size bytes : Nat) (ht : P.underlying t = some (.slice e)) (hi : P.info? e = some i) (hz : i.zero = some z)
    (hsize : i.size = size) (hby : i.bytes = bytes) (hzs : z.cells.size = size) (hsz : 0 < size)
    (v : Value) (n : Nat) (xs : List Value) (hs : a.eval s = v) (hown : w.ownsRow base e size v n xs)
    (B : Nat) (A : Option Addr) (m c : Nat) (news : List Value) (t' : TypeId) (hx : a.eval x = .slice A m c) (hl : news.length = m * size) (hL : Lies w B t' A news) (h1 : ∀ u ∈ news, u.oneCell' = true)
    (h63 : n + m ≤ maxLen) (hbytes : (n + m) * bytes ≤ 140737488355328) (hbase : base ≤ w.heap.size)
    (h : ∀ v' w', w'.ownsRow base e size v' (n + m) (xs ++ news) → w.grownBy w' v.ownBlock → (v'.ownBlock = v.ownBlock ∨ v'.ownBlock = some w.heap.size) → K (a.put o.dst v') w') :
    if Region.wanted o (yielded ops a.tmps) = true then Oper.wp P o a w K Q else E := by
  obtain ⟨v', w', hrun, h2, h3, h4⟩ := run_app (P := P) w base t o.type e i z size bytes ht hi hz hsize hby hzs hsz v n xs hown B A m c news t' hl hL h1 h63 hbytes hbase
  exact step_appg hgd s x t t ho hs hx hrun (h v' w' h2 h3 h4)
/-- Noughts behind a row of one's own, as one step of a drawn region. -/
theorem step_zerosg {P : Program} {ops : Array Oper} {o : Oper} {a : Act} {w : World} {K : Act → World → Prop} {Q : Exit → Act → World → Prop} {E : Prop}
    (hgd : Region.wanted o (yielded ops a.tmps) = true) (s x : Operand) (t tx : TypeId) (ho : o.op = Op.call { callee := Callee.builtin Builtin.append, args := #[s, x], argTypes := #[t, tx] })
    (base : Nat) (e : TypeId) (i : TypeInfo) (z : Value) (bytes : Nat) (kx kd : IntKind) (ht : P.underlying t = some (.slice e)) (htx : P.underlying tx = some (.int kx)) (hi : P.info? e = some i) (hz : i.zero = some z)
    (hsize : i.size = 1) (hby : i.bytes = bytes) (hzs : z.cells = #[z]) (hz1 : z.oneCell' = true)
    (v : Value) (n : Nat) (xs : List Value) (hs : a.eval s = v) (hown : w.ownsRow base e 1 v n xs) (m : Nat) (hx : a.eval x = .int kd (m : Int))
    (h63 : n + m ≤ maxLen) (hbytes : (n + m) * bytes ≤ 140737488355328) (hbase : base ≤ w.heap.size)
    (h : ∀ v' w', w'.ownsRow base e 1 v' (n + m) (xs ++ List.replicate m z) → w.grownBy w' v.ownBlock → (v'.ownBlock = v.ownBlock ∨ v'.ownBlock = some w.heap.size) → K (a.put o.dst v') w') :
    if Region.wanted o (yielded ops a.tmps) = true then Oper.wp P o a w K Q else E := by
  obtain ⟨v', w', hrun, h2, h3, h4⟩ := run_app_zeros (P := P) w base t tx o.type e i z bytes kx kd ht htx hi hz hsize hby hzs hz1 v n xs hown m h63 hbytes hbase
  exact step_appg hgd s x t tx ho hs hx hrun (h v' w' h2 h3 h4)
end

section
open Go.RowKit

/-- Below block B the world w' is as w was, but for the blocks of F. -/
structure But (F : Nat → Prop) (B : Nat) (w w' : World) : Prop where
  os : w'.os = w.os
  tape : w'.tape = w.tape
  output : w'.output = w.output
  size : w.heap.size ≤ w'.heap.size
  block : ∀ k, k < B → ¬ F k → w'.heap[k]? = w.heap[k]?

/-- F and all blocks from B on. -/
def Up (F : Nat → Prop) (B : Nat) : Nat → Prop := fun k => F k ∨ B ≤ k

section
variable {F G : Nat → Prop} {B B' : Nat} {w w' w'' : World}
theorem But.refl (F : Nat → Prop) (B : Nat) (w : World) : But F B w w := ⟨rfl, rfl, rfl, Nat.le_refl _, fun _ _ _ => rfl⟩
theorem But.trans (h : But F B w w') (k : But F B w' w'') : But F B w w'' :=
  ⟨k.os.trans h.os, k.tape.trans h.tape, k.output.trans h.output, Nat.le_trans h.size k.size, fun i hi hf => (k.block i hi hf).trans (h.block i hi hf)⟩
theorem But.mono (h : But F B w w') (hB : B' ≤ B) (hF : ∀ k, F k → G k) : But G B' w w' := ⟨h.os, h.tape, h.output, h.size, fun k hk hf => h.block k (by omega) (fun q => hf (hF k q))⟩
theorem But.of_below (h : Below B w w') (F : Nat → Prop) : But F B w w' := ⟨h.os, h.tape, h.output, h.size, fun k hk _ => h.block k hk⟩
theorem But.below (h : But F B w w') (hF : ∀ k, k < B → ¬ F k) : Below B w w' := ⟨h.os, h.tape, h.output, h.size, fun k hk => h.block k hk (hF k hk)⟩
theorem But.drew (h : But F B w w') : But F B w w'.drew := ⟨h.os, h.tape, h.output, h.size, h.block⟩
theorem But.drewN (h : But F B w w') (n : Nat) : But F B w (w'.drewN n) := ⟨h.os, h.tape, h.output, h.size, h.block⟩
theorem But.alloc (h : But F B w w') (hB : B ≤ w'.heap.size) (o : Obj) : But F B w (w'.alloc o) := h.trans (But.of_below ((Below.refl _ _).alloc hB o) F)
theorem But.setCell (h : But F B w w') {p : Addr} (hp : Up F B p.block) (u : Value) : But F B w (w'.setCell p u) :=
  h.trans ⟨rfl, rfl, rfl, by simp [World.setCell], fun k hk hf => Below.heap_setCell _ _ _ _ (fun e => by subst e; exact hp.elim hf (fun q => by omega))⟩
theorem But.grown (h : But F B w w') {row : Option Nat} (hg : w'.grownBy w'' row) (hB : B ≤ w'.heap.size) (hr : ∀ k, row = some k → Up F B k) : But F B w w'' :=
  h.trans ⟨hg.os, hg.tape, hg.output, hg.size, fun k hk hf => hg.block k (by omega) (fun e => (hr k e.symm).elim hf (fun q => by omega))⟩
/-- A call on an object of footprint G, made later, seen from the call around it. -/
theorem But.call (h : But F B w w') (k : But G w'.heap.size w' w'') (hB : B ≤ w'.heap.size) (hG : ∀ b, G b → Up F B b) : But F B w w'' :=
  h.trans ⟨k.os, k.tape, k.output, k.size, fun b hb hf => k.block b (by omega) (fun q => (hG b q).elim hf (fun q => by omega))⟩
end

/-- The slice's block is one of F's. -/
def InF (F : Nat → Prop) (A : Option Addr) : Prop := ∀ ad, A = some ad → F ad.block
theorem InF.none {F : Nat → Prop} : InF F none := fun _ h => by cases h
theorem InF.mono {F G : Nat → Prop} {A : Option Addr} (h : InF F A) (hF : ∀ k, F k → G k) : InF G A := fun ad e => hF _ (h ad e)
theorem InF.of_own {F : Nat → Prop} {w : World} {base : Nat} {e : TypeId} {size n c m : Nat} {A : Option Addr} {xs : List Value} (h : w.ownsRow base e size (.slice A m c) n xs) (hF : ∀ k, base ≤ k → F k) : InF F A := fun ad e => by
  subst e
  exact hF _ (h.lt _ rfl).1
theorem InF.row {F : Nat → Prop} {A : Option Addr} {n c : Nat} (h : InF F A) : ∀ k, (Value.slice A n c).ownBlock = some k → F k := fun k e => by
  cases A with
  | none => cases e
  | some ad => injection e with e; subst e; exact h ad rfl

/-- A row of one's own is kept where its block is. -/
theorem own_keep {w w' : World} {base : Nat} {e : TypeId} {size n : Nat} {v : Value} {xs : List Value} (h : w.ownsRow base e size v n xs) (hk : ∀ k, v.ownBlock = some k → w'.heap[k]? = w.heap[k]?) : w'.ownsRow base e size v n xs := by
  refine ⟨h.1, ?_⟩
  rcases h.2 with hn | ⟨g, cap, cur, rfl, hb, hg, rest⟩
  · exact .inl hn
  · exact .inr ⟨g, cap, cur, rfl, hb, (hk g rfl).trans hg, rest⟩
theorem own_lt {w : World} {base : Nat} {e : TypeId} {size n c m : Nat} {A : Option Addr} {xs : List Value} (h : w.ownsRow base e size (.slice A m c) n xs) : InF (fun k => k < w.heap.size) A := fun ad q => by
  subst q
  exact (h.lt _ rfl).2
/-- Cells of a block of F lie there still behind a call that left F's blocks alone. -/
theorem Lies.keepF {w w' : World} {F : Nat → Prop} {t : TypeId} {A : Option Addr} {xs : List Value} (h : Lies w 0 t A xs) (hi : InF F A) (hk : ∀ k, F k → w'.heap[k]? = w.heap[k]?) : Lies w' 0 t A xs := fun hx => by
  obtain ⟨ad, rfl, hb, hc⟩ := h hx
  have q := hk ad.block (hi ad rfl)
  refine ⟨ad, rfl, hb.imp id (fun ⟨cs, fr, r⟩ => ⟨cs, fr, q.trans r⟩), fun j u hu => ?_⟩
  exact (World.cell?_of_block (by rw [addr_block]; exact q)).trans (hc j u hu)
theorem Lies.ltF {w : World} {t : TypeId} {A : Option Addr} {xs : List Value} (h : Lies w 0 t A xs) (hx : xs ≠ []) : InF (fun k => k < w.heap.size) A := fun ad e => by
  obtain ⟨ad', rfl, hb, _⟩ := h hx
  injection e with e
  subst e
  rcases hb with q | ⟨_, _, q⟩
  · omega
  · exact lt_of_block q
end

section
variable {P : Program} (w : World)
/-- An append onto a slice without spare room: a new row. -/
theorem wpList_new {ops : Array Oper} {rest : List Oper} {o : Oper} {a : Act} {Q : Exit → Act → World → Prop} (hgd : o.guard = none) (s x : Operand) (t : TypeId)
    (ho : o.op = .call { callee := .builtin .append, args := #[s, x], argTypes := #[t, t] })
    (base : Nat) (e : TypeId) (i : TypeInfo) (z : Value) (size bytes : Nat) (ht : P.underlying t = some (.slice e)) (hi : P.info? e = some i) (hz : i.zero = some z)
    (hsize : i.size = size) (hby : i.bytes = bytes) (hzs : z.cells.size = size)
    (B0 : Nat) (t0 : TypeId) (A0 : Option Addr) (n : Nat) (olds : List Value) (hs : a.eval s = .slice A0 n n) (hl0 : olds.length = n * size) (hL0 : Lies w B0 t0 A0 olds) (hnil : A0 = none → n = 0)
    (ad : Addr) (m c : Nat) (news : List Value) (hx : a.eval x = .slice (some ad) m c) (hl : news.length = m * size) (hc : ∀ j u, news[j]? = some u → w.cell? (ad.add j) = some u) (h1 : ∀ u ∈ news, u.oneCell' = true) (hm : 0 < m)
    (h63 : n + m ≤ maxLen) (hbytes : (n + m) * bytes ≤ 140737488355328) (hbase : base ≤ w.heap.size)
    (h : ∀ v' w', w'.ownsRow base e size v' (n + m) (olds ++ news) → w.grownBy w' none → wpList P ops Q rest (a.put o.dst v') w') : wpList P ops Q (o :: rest) a w :=
  wpList_plain hgd fun K hK => by
    obtain ⟨v', w', hrun, h2, h3, _⟩ := run_app_new (P := P) w base t o.type e i z size bytes ht hi hz hsize hby hzs B0 t0 A0 n olds hl0 hL0 hnil ad m c news hl hc h1 hm h63 hbytes hbase
    unfold Oper.wp execOp
    simp only [ho, resolve, invoke, builtin, Sem.run_bind, Sem.run_pure, Result.andThen_ok, List.map_toArray, List.map_cons, List.map_nil, hs, hx, hrun]
    exact hK _ _ (h v' w' h2 h3)
end
end

section
section
variable {P : Program} {ops : Array Oper} {Q : Exit → Act → World → Prop} {md : Region.Mode} {S : World → Prop} {st : Nat}

/-- Whatever order is picked from here on; S holds behind every operation but number st. -/
def Any (P : Program) (md : Region.Mode) (ops : Array Oper) (Q : Exit → Act → World → Prop) (S : World → Prop) (st : Nat) : Nat → Array Bool → Act → World → Prop
  | 0, ls, a, w => Region.ready md ops ls = [] ∧ Q .normal a w
  | f + 1, ls, a, w => (Region.ready md ops ls = [] → Q .normal a w) ∧ ∀ j ∈ Region.ready md ops ls, wpOp P ops Q j (fun b u => (j ≠ st → S u) ∧ Any P md ops Q S st f (ls.setIfInBounds j true) b u) a w

theorem Any.plain : ∀ {f : Nat} {ls : Array Bool} {a : Act} {w : World}, Any P md ops Q S st f ls a w → wpAny P md ops Q f ls a w
  | 0, _, _, _, h => h
  | _ + 1, _, _, _, h => ⟨h.1, fun j hj => wpOp_mono (fun _ _ q => q.2.plain) (h.2 j hj)⟩

/-- Nobody that waits for a number not yet listed comes up. -/
theorem waits {i j : Nat} {ls : Array Bool} {oj : Oper} (hi : i ∈ Region.ready md ops ls) (hj : j ∈ Region.ready md ops ls) (ho : ops[j]? = some oj) : ∀ e ∈ oj.after, Region.binds md e = true → e.on ≠ i := by
  intro e he hb q
  obtain ⟨_, o, hoj, hall⟩ := mem_ready.1 hj
  rw [ho] at hoj
  injection hoj with hoj
  subst hoj
  have h1 := hall e he hb
  have h0 := (mem_ready.1 hi).1
  rw [q] at h1
  rcases Nat.lt_or_ge i ls.size with r | r
  · simp only [Array.getD_eq_getD_getElem?, Array.getElem?_eq_getElem r, Option.getD_some] at h0 h1
    rw [h0] at h1
    cases h1
  · simp only [Array.getD_eq_getD_getElem?, Array.getElem?_eq_none r, Option.getD_none] at h1
    cases h1

/-- A load (or what yields in every world that meets S) is taken first, where number st waits for it. -/
theorem Any.first {i : Nat} {oi os : Oper} {v : Value} (hi : ops[i]? = some oi) (hsel : Region.noSelect ops = true) (hQ : ∀ c a w, Q (.panic c) (a.put oi.dst v) w → Q (.panic c) a w)
    (hs : ops[st]? = some os) (hw : ∃ e ∈ os.after, Region.binds md e = true ∧ e.on = i) (f : Nat) (ls : Array Bool) (a : Act) (w : World)
    (hfree : ∀ j oj, ops[j]? = some oj → j ≠ i → ls.getD j true = false → (∀ e ∈ oj.after, Region.binds md e = true → e.on ≠ i) → oi.apart ops oj = true)
    (hr : i ∈ Region.ready md ops ls) (hy : YieldsIf P ops S oi v a) (hS : S w) (H : Any P md ops Q S st f (ls.setIfInBounds i true) (a.put oi.dst v) w) : Any P md ops Q S st (f + 1) ls a w := by
  have selects := Region.noSelect_spec hsel
  induction f generalizing ls a w with
  | zero =>
    refine ⟨fun e => absurd hr (by rw [e]; simp), fun j hj => ?_⟩
    rcases Nat.decEq j i with q | q
    · exact absurd (ready_mono hj q) (by rw [H.1]; simp)
    · subst q
      exact hy.wpOp hi hS ⟨fun _ => hS, H⟩
  | succ f ih =>
    refine ⟨fun e => absurd hr (by rw [e]; simp), fun j hj => ?_⟩
    rcases Nat.decEq j i with q | q
    · obtain ⟨un, oj, hoj, _⟩ := mem_ready.1 hj
      have now : j ≠ st := by
        rintro rfl
        obtain ⟨e, he, hb, hon⟩ := hw
        exact waits hr hj hs e he hb hon
      have stays : ∀ k ok, ops[k]? = some ok → k ≠ i → (ls.setIfInBounds j true).getD k true = false → (∀ e ∈ ok.after, Region.binds md e = true → e.on ≠ i) → oi.apart ops ok = true := by
        intro k ok hk hki hun hno
        refine hfree k ok hk hki ?_ hno
        rcases Nat.decEq j k with r | r
        · rwa [getD_set_ne true r] at hun
        · rw [← r]; exact un
      have next := wpOp_putIf hoj (hfree j oj hoj q un (waits hr hj hoj)) (fun cs b => selects i oi cs b hi) (fun cs b => selects j oj cs b hoj) hQ hy (H.2 j (ready_mono hj q))
      refine wpOp_mono (fun b u g => ⟨g.2.1, ih _ b u stays (ready_mono hr (Ne.symm q)) g.1 (g.2.1 now) ?_⟩) next
      rw [Array.setIfInBounds_comm _ _ q]
      exact g.2.2
    · subst q
      exact hy.wpOp hi hS ⟨fun _ => hS, H⟩
theorem Any.take {i : Nat} {oi os : Oper} {v : Value} {f : Nat} {ls : Array Bool} {a : Act} {w : World} (hi : ops[i]? = some oi) (hsel : Region.noSelect ops = true) (hf : Region.free md ops ls i = true) (hr : (Region.ready md ops ls).contains i = true)
    (hs : ops[st]? = some os) (hw : (os.after.any fun e => Region.binds md e && e.on == i) = true) (hQ : ∀ c a w, Q (.panic c) (a.put oi.dst v) w → Q (.panic c) a w) (hy : YieldsIf P ops S oi v a) (hS : S w)
    (H : Any P md ops Q S st f (ls.setIfInBounds i true) (a.put oi.dst v) w) : Any P md ops Q S st (f + 1) ls a w := by
  refine Any.first hi hsel hQ hs ?_ f ls a w (Region.free_spec hi hf) (by simpa using hr) hy hS H
  obtain ⟨e, he, hb⟩ := Array.any_eq_true'.1 hw
  simp only [Bool.and_eq_true, beq_iff_eq] at hb
  exact ⟨e, he, hb.1, hb.2⟩
/-- One operation alone may come up. -/
theorem Any.one {i : Nat} {oi : Oper} {f : Nat} {ls : Array Bool} {a : Act} {w : World} (hr : Region.ready md ops ls = [i]) (hi : ops[i]? = some oi)
    (h : ∀ K : Act → World → Prop, (∀ b u, (i ≠ st → S u) → Any P md ops Q S st f (ls.setIfInBounds i true) b u → K b u) → if Region.wanted oi (yielded ops a.tmps) = true then Oper.wp P oi a w K Q else K (a.put oi.dst undef) w) : Any P md ops Q S st (f + 1) ls a w := by
  refine ⟨fun e => absurd e (by rw [hr]; simp), fun j hj => ?_⟩
  rw [hr, List.mem_singleton] at hj
  subst hj
  exact wpOp_step hi (fun K hK => h K (fun b u q1 q2 => hK b u ⟨q1, q2⟩))
theorem Any.done {ls : Array Bool} {a : Act} {w : World} {f : Nat} (hr : Region.ready md ops ls = []) (h : Q .normal a w) : Any P md ops Q S st f ls a w := by
  cases f with
  | zero => exact ⟨hr, h⟩
  | succ f => exact ⟨fun _ => h, fun j hj => by rw [hr] at hj; cases hj⟩
theorem Any.begin {id : Nat} {a : Act} {w : World} (hm : P.follows .mixedOrders = true) (h : Any P .any ops Q S st ops.size (Array.replicate ops.size false) a w.drew) : (Code.region id ops true).wp P Q a w :=
  wp_region_any hm h.plain
end
end
end Go.Proofs.Ytmcfknnfaokmlaa
