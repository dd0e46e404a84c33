import Derived.Test.YtnhpkcphgdkdiaaGreatZ11
import Derived.Test.YtnhpkcphgdkdiaaGreatZ18
import Derived.Test.YtnhpkcphgdkdiaaGreatZ12
import Derived.Deep.Slices
import Derived.Laws.ShiftsVarLaws
import Derived.Sort.KeysCollected
import Derived.Deep.MidRow
import Derived.Deep.WholeRow
import Derived.Maps.RangeWalk
import Derived.Maps.Ext
import Derived.Laws.CopyOwn
import Derived.Great.BuildSlice
namespace Go.Proofs.YtnhpkcphgdkdiaaGreat
set_option linter.unusedSimpArgs false
set_option maxRecDepth 100000
section
namespace Cd
def rdW (k : Nat) : Option (List UInt8) → Nat × Option (List UInt8)
 | none => (0, none)
 | some l => if k ≤ l.length then (val (l.take k), some (l.drop k)) else (0, none)
def rdN (most : Nat) : Option (List UInt8) → Nat × Option (List UInt8)
 | none => (0, none)
 | some [] => (0, none)
 | some (h :: t) =>
  if h.toNat < 128 then (if h.toNat ≤ most then (h.toNat, some t) else (0, none))
  else if h.toNat - 128 ≤ t.length ∧ 128 ≤ val (t.take (h.toNat - 128)) ∧ wid (val (t.take (h.toNat - 128))) = h.toNat - 128 ∧ val (t.take (h.toNat - 128)) ≤ most
   then (val (t.take (h.toNat - 128)), some (t.drop (h.toNat - 128))) else (0, none)
@[irreducible] def full : Nat := 18446744073709551615
def rdF (s : Option (List UInt8)) : Nat × Option (List UInt8) :=
 match (rdW 8 s).2 with
 | none => (0, none)
 | some t => if Fl.fit (rdW 8 s).1 = true then (Fl.wd (rdW 8 s).1, some t) else (0, none)
def rdB (most : Nat) (s : Option (List UInt8)) : List UInt8 × Option (List UInt8) :=
 match (rdN most s).2 with
 | none => ([], none)
 | some t => if (rdN most s).1 ≤ t.length then (t.take (rdN most s).1, some (t.drop (rdN most s).1)) else ([], none)
def rdG : Option (List UInt8) → Bool × Option (List UInt8)
 | none => (false, none)
 | some [] => (false, none)
 | some (h :: t) => if h.toNat ≤ 1 then (h.toNat == 1, some t) else (false, none)
structure Pt where
 kind : Int
 n : Int
 i : Int
 f : Nat
 b : List UInt8
 is : Bool
theorem rdW_fix {n k : Nat} (hk : k ≤ 8) (h : n < 256 ^ k) (t : List UInt8) : rdW k (some (fix n k ++ t)) = (n, some t) := by
 have e3 : (fix n k ++ t).take k = fix n k := by rw [List.take_append_of_le_length (by rw [fix_len]; exact Nat.le_refl _), List.take_of_length_le (by rw [fix_len]; exact Nat.le_refl _)]
 have e4 : (fix n k ++ t).drop k = t := by
  have := List.drop_left (l₁ := fix n k) (l₂ := t)
  rwa [fix_len] at this
 simp only [rdW]
 rw [if_pos (by rw [List.length_append, fix_len]; omega)]
 simp only [e3, e4]
 rw [val_small (by rw [fix_len]; omega), ev_fix_lt h]
theorem key_nat (f : Nat) : (((Fl.key f).toNat : Nat) : Int) = Fl.key f := Int.toNat_of_nonneg (Fl.key_bound f).1
theorem key_pow (f : Nat) : (Fl.key f).toNat < 256 ^ 8 := by
 have h := Fl.key_bound f
 have h3 : (256 : Nat) ^ 8 = 18446744073709551616 := by decide
 omega
end Cd
open Go.RowKit
def hd (n : Nat) : Nat := if n < 128 then n else 128 + Cd.wid n
end
section
namespace St
end St
end
section
open Go.RowKit
section
variable {α : Type} {f : α → List Value} {size : Nat}
theorem cel_len : ∀ {l : List α}, (∀ x ∈ l, (f x).length = size) → (l.flatMap f).length = l.length * size
 | [], _ => by simp
 | x :: l, h => by
  rw [List.flatMap_cons, List.length_append, cel_len (fun y hy => h y (List.mem_cons_of_mem _ hy)), h x (List.mem_cons_self ..), List.length_cons, Nat.add_mul, Nat.one_mul, Nat.add_comm]
theorem cel_at : ∀ {l : List α}, (∀ x ∈ l, (f x).length = size) → ∀ {k : Nat} {x : α}, l[k]? = some x → ∀ {j : Nat}, j < size → (l.flatMap f)[k * size + j]? = (f x)[j]?
 | [], _, k, x, h, _, _ => by simp at h
 | y :: l, hf, 0, x, h, j, hj => by
  simp only [List.getElem?_cons_zero, Option.some.injEq] at h
  subst h
  rw [List.flatMap_cons, Nat.zero_mul, Nat.zero_add, List.getElem?_append_left (by rw [hf y (List.mem_cons_self ..)]; exact hj)]
 | y :: l, hf, k + 1, x, h, j, hj => by
  simp only [List.getElem?_cons_succ] at h
  have hy := hf y (List.mem_cons_self ..)
  rw [List.flatMap_cons, List.getElem?_append_right (by rw [hy, Nat.add_mul]; omega), hy, show (k + 1) * size + j - size = k * size + j by rw [Nat.add_mul]; omega]
  exact cel_at (fun z hz => hf z (List.mem_cons_of_mem _ hz)) h hj
theorem cel_range {l : List α} (hf : ∀ x ∈ l, (f x).length = size) {k : Nat} {x : α} (h : l[k]? = some x) : ∀ (j : Nat) (v : Value), (f x)[j]? = some v → (l.flatMap f)[k * size + j]? = some v := by
 intro j v hv
 have hx := hf x (List.mem_of_getElem? h)
 have hj : j < size := by rw [← hx]; exact (List.getElem?_eq_some_iff.1 hv).1
 rw [cel_at hf h hj, hv]
end
section
variable {w : World}
theorem heap_setCells_same {b : Nat} {t : TypeId} {fr : Nat × Nat} : ∀ (vs : List Value) (o : Nat) (w : World) (cur : Array Value), w.heap[b]? = some (.cells cur t fr) → ∃ cur', (w.setCells b o vs).heap[b]? = some (.cells cur' t fr) ∧ cur'.size = cur.size
 | [], _, _, cur, h => ⟨cur, h, rfl⟩
 | v :: r, o, w, cur, h => by
  obtain ⟨cur', h1, h2⟩ := heap_setCells_same r (o + 1) _ _ (blk_set h o v)
  exact ⟨cur', h1, by rw [h2]; simp⟩
variable {base : Nat} {e : TypeId} {size n c g : Nat} {xs : List Value}
theorem own_cellAt (h : w.ownsRow base e size (.slice (some ⟨g, 0, none⟩) n c) n xs) {j : Nat} {v : Value} (hv : xs[j]? = some v) : w.cell? ⟨g, j, none⟩ = some v := by
 have := h.cells (g := g) rfl j v hv
 rwa [addr_at] at this
theorem own_there (h : w.ownsRow base e size (.slice (some ⟨g, 0, none⟩) n c) n xs) {o m : Nat} (hm : o + m ≤ xs.length) : w.there g o m := fun j hj => by
 have hx : xs[o + j]? = some (xs[o + j]'(by omega)) := List.getElem?_eq_getElem (by omega)
 refine ⟨by rw [own_cellAt h hx]; rfl, ?_⟩
 rcases h.2 with ⟨hn, _⟩ | ⟨g', cap, cur, hv, _, hh, _⟩
 ·cases hn
 ·injection hv with q
  injection q with q
  injection q with q
  subst q
  exact blk_free hh _
theorem own_setCells {o : Nat} {vs : List Value} (h : w.ownsRow base e size (.slice (some ⟨g, 0, none⟩) n c) n xs) (hf : o + vs.length ≤ xs.length) : (w.setCells g o vs).ownsRow base e size (.slice (some ⟨g, 0, none⟩) n c) n (splice xs o vs) := by
 have hl := length_splice xs o vs hf
 refine ⟨hl.trans h.1, ?_⟩
 have hthere := own_there h (o := o) (m := vs.length) hf
 have hcells : ∀ j v, xs[j]? = some v → w.cell? ⟨g, j, none⟩ = some v := fun j v hv => own_cellAt h hv
 rcases h.2 with ⟨hn, _⟩ | ⟨g', cap, cur, hv, hb, hh, hnc, hcm, hcs, ht⟩
 ·cases hn
 ·injection hv with q1 _ q2
  injection q1 with q
  injection q with q
  subst q
  obtain ⟨cur', h1, h2⟩ := heap_setCells_same vs o w cur hh
  refine .inr ⟨g, cap, cur', by rw [q2], hb, h1, hnc, hcm, by rw [h2]; exact hcs, ?_⟩
  have hcur : ∀ j : Nat, cur'[j]? = (w.setCells g o vs).cell? ⟨g, j, none⟩ := fun j => (cell_of_row _ g j cur' e (0, 0) h1).symm
  have hxl : n * size ≤ cur.size := by rw [hcs]; exact Nat.mul_le_mul_right _ hnc
  apply List.ext_getElem?
  intro j
  rw [List.getElem?_take]
  by_cases hj : j < n * size
  ·rw [if_pos hj, Array.getElem?_toList, hcur]
   have hx : xs[j]? = some (xs[j]'(by rw [h.1]; exact hj)) := List.getElem?_eq_getElem _
   unfold splice
   rw [List.getElem?_append]
   by_cases h0 : j < o
   ·rw [World.cell?_setCells_out g vs o w _ (fun _ _ => .inl h0), hcells j _ hx, if_pos (by rw [List.length_take]; omega), List.getElem?_take, if_pos h0, hx]
   ·rw [if_neg (by rw [List.length_take]; omega), List.length_take, Nat.min_eq_left (by omega), List.getElem?_append]
    by_cases h1' : j - o < vs.length
    ·rw [if_pos h1', show (⟨g, j, none⟩ : Addr) = ⟨g, o + (j - o), none⟩ by rw [show o + (j - o) = j by omega],
      World.cell?_setCells_in g vs o w (fun i hi => (hthere i hi).1) (j - o) h1', List.getElem?_eq_getElem h1']
    ·rw [if_neg h1', World.cell?_setCells_out g vs o w _ (fun _ _ => .inr (show o + vs.length ≤ j by omega)), hcells j _ hx, List.getElem?_drop, show o + vs.length + (j - o - vs.length) = j by omega, hx]
  ·rw [if_neg hj, List.getElem?_eq_none (by rw [hl, h.1]; omega)]
end
def key (i : Int) : Lit := .int .i64 i
def at_ (D : DataW Value) (i : Int) : DataW Value := D.atKey (key i) (.held (.slice none 0 0))
section
variable {P : Program} {w : World} {t k e : TypeId} {b n : Nat} {D : DataW Value}
end
section
variable {P : Program} {w w' : World} {ops : Array Oper} {rest : List Oper} {o : Oper} {a : Act} {K : Act → World → Prop} {Q : Exit → Act → World → Prop} {E : Prop}
theorem run_buildSlice_one (w : World) (t e : TypeId) (cs : Array Value) (ie : TypeInfo) (z : Value) (hu : P.underlying t = some (.slice e)) (hie : P.info? e = some ie) (hz : ie.zero = some z) (hs : ie.size = cs.size) (h0 : 0 < cs.size) (hm : cs.size ≤ 16777216) :
  (Instr.buildSlice t 1 #[(0, .agg cs)]).run P w = .ok (.slice (some ⟨w.heap.size, 0, none⟩) 1 1) (w.alloc (.cells cs e)) := by
 refine run_buildSlice w t e 1 _ cs ie z hu hie hz (by rw [hs, Nat.one_mul]; show ¬ cs.size > 16777216; omega) (by rw [hs, Nat.one_mul]; omega) ?_
 have q := Great.fill_whole (s := ie.size) (by rw [hs]; exact h0) [Value.agg cs] ((Array.range (1 * ie.size)).map (z.cells[· % z.cells.size]!)) (fun v hv => by rw [List.mem_singleton] at hv; subst hv; exact hs.symm) (by simp)
 simpa [Value.cells] using q
theorem step_mapUpdate (hgd : o.guard = none) (m x v : Operand) (t : TypeId) (hop : o.op = Op.mapUpdate t m x v) {mv xv vv : Value} (hm : a.eval m = mv) (hx : a.eval x = xv) (hv : a.eval v = vv)
  (hrun : (Instr.mapUpdate t mv xv vv).run P w = .ok () w') (hK : K (a.put o.dst undef) w') :
  if Region.wanted o (yielded ops a.tmps) = true then Oper.wp P o a w K Q else E := by
 rw [if_pos (by simp [Region.wanted, hgd])]
 unfold Oper.wp execOp
 simp only [hop, hm, hx, hv, Sem.run_bind, Sem.run_pure, hrun, Result.andThen_ok]
 exact hK
end
end
end Go.Proofs.YtnhpkcphgdkdiaaGreat
