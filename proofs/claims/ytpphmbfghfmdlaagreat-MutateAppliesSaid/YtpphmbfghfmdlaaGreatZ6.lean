import Derived.Test.YtpphmbfghfmdlaaGreatZ2
import Derived.Test.YtpphmbfghfmdlaaGreatZ4
import Derived.Test.YtpphmbfghfmdlaaGreatZ5
import Derived.Deep.Slices
import Derived.Laws.ShiftsVarLaws
import Derived.Sort.KeysCollected
import Derived.Test.YtpphmbfghfmdlaaGreatRows
import Derived.Laws.MakeOwn
import Derived.Lib.SliceRun
import Derived.RegionTactic
import Derived.Deep.MidRow
import Derived.Deep.WholeRow
import Derived.Maps.RangeWalk
import Derived.Maps.Ext
import Derived.Laws.CopyOwn
import Derived.Great.BuildSlice
namespace Go.Proofs.YtpphmbfghfmdlaaGreat
set_option maxRecDepth 100000
section
namespace Cd
def rdW (k : Nat) : Option (List UInt8) → Nat × Option (List UInt8)
 | none => (0, none)
 | some l => if k ≤ l.length then (val (l.take k), some (l.drop k)) else (0, none)
def rdN (most : Nat) : Option (List UInt8) → Nat × Option (List UInt8)
 | none => (0, none)
 | some [] => (0, none)
 | some (h :: t) =>
  if h.toNat < 128 then (if h.toNat ≤ most then (h.toNat, some t) else (0, none))
  else if h.toNat - 128 ≤ t.length ∧ 128 ≤ val (t.take (h.toNat - 128)) ∧ wid (val (t.take (h.toNat - 128))) = h.toNat - 128 ∧ val (t.take (h.toNat - 128)) ≤ most
   then (val (t.take (h.toNat - 128)), some (t.drop (h.toNat - 128))) else (0, none)
@[irreducible] def full : Nat := 18446744073709551615
def rdF (s : Option (List UInt8)) : Nat × Option (List UInt8) :=
 match (rdW 8 s).2 with
 | none => (0, none)
 | some t => if Fl.fit (rdW 8 s).1 = true then (Fl.wd (rdW 8 s).1, some t) else (0, none)
def rdB (most : Nat) (s : Option (List UInt8)) : List UInt8 × Option (List UInt8) :=
 match (rdN most s).2 with
 | none => ([], none)
 | some t => if (rdN most s).1 ≤ t.length then (t.take (rdN most s).1, some (t.drop (rdN most s).1)) else ([], none)
def rdG : Option (List UInt8) → Bool × Option (List UInt8)
 | none => (false, none)
 | some [] => (false, none)
 | some (h :: t) => if h.toNat ≤ 1 then (h.toNat == 1, some t) else (false, none)
structure Pt where
 kind : Int
 n : Int
 i : Int
 f : Nat
 b : List UInt8
 is : Bool
end Cd
open Go.RowKit
def hd (n : Nat) : Nat := if n < 128 then n else 128 + Cd.wid n
end
section
namespace St
end St
end
section
section
open Go.RowKit
section
variable {w : World} {B : Nat} {A : Option Addr}
theorem ak.old {t t' : TypeId} {xs : List Value} (h : ak w B t A xs) : ak w w.heap.size t' A xs := fun q => by
 obtain ⟨ad, e, hb, hc⟩ := h q
 refine ⟨ad, e, .inl ?_, hc⟩
 obtain ⟨u, hu⟩ : ∃ u, xs[0]? = some u := by
  cases xs with
  | nil => exact absurd rfl q
  | cons x xs => exact ⟨x, rfl⟩
 have := World.block_lt_of_cell? _ _ (hc 0 u hu)
 rwa [iD] at this
end
theorem aI {w : World} {B base : Nat} {t : TypeId} {A : Option Addr} {size m n c : Nat} {xs : List Value} (h : w.ownsRow base t size (.slice A m c) n xs) : ak w B t A xs := by
 obtain ⟨rfl, _⟩ := aJ h
 exact ak.of_own h
def xc (B : Nat) (l : List UInt8) (w : World) (e : Ending) (w' : World) : Prop :=
 ∃ A n c, e = .returned (.slice A n c) ∧ w'.ownsRow B 5 1 (.slice A n c) l.length (iU l) ∧ Tch B [5] w w'
theorem xc.then {B : Nat} {l : List UInt8} {w w1 w' : World} {e : Ending} (h : xc B l w1 e w') (t : Tch B [5] w w1) : xc B l w e w' := by
 obtain ⟨A, n, c, h1, h2, h3⟩ := h
 exact ⟨A, n, c, h1, h2, t.trans h3⟩
end
section
open Go.RowKit
structure MTx where
 b : List UInt8
 A : Option Addr
 c : Nat
def MTx.cell (m : MTx) : Value := .slice m.A m.b.length m.c
def jH (ms : List MTx) : List Value := ms.map MTx.cell
def MTx.fine (m : MTx) (w : World) (B : Nat) (tb : TypeId) : Prop := ak w B tb m.A (iU m.b) ∧ m.b.length ≤ m.c
def TL (w : World) (B : Nat) (tt tb : TypeId) (A : Option Addr) (ms : List MTx) : Prop := ak w B tt A (jH ms) ∧ ∀ m ∈ ms, m.fine w B tb
theorem below_drewN {B : Nat} {w w' : World} (h : Below B w w') (n : Nat) : Below B w (w'.drewN n) := ⟨h.os, h.tape, h.output, h.size, h.block⟩
theorem rC (ms : List MTx) : (jH ms).length = ms.length := by simp [jH]
theorem qy (ms : List MTx) (k : Nat) : (jH ms).take k = jH (ms.take k) := by simp [jH]
section
variable {w w' : World} {B B' : Nat} {tt tb tt' tb' : TypeId} {A : Option Addr} {ms : List MTx}
theorem TL.nil : TL w B tt tb A [] := ⟨ak.nil, by simp⟩
theorem MTx.fine.tch {m : MTx} (h : m.fine w B tb) {ts : List TypeId} (hT : Tch B ts w w') (h2 : tb ∉ ts) : m.fine w' B tb := ⟨h.1.tch hT h2, h.2⟩
theorem MTx.fine.below {m : MTx} (h : m.fine w B tb) (hB : B ≤ w.heap.size) (hT : Below w.heap.size w w') : m.fine w' B tb := ⟨h.1.below hB hT, h.2⟩
theorem TL.tch (h : TL w B tt tb A ms) {ts : List TypeId} (hT : Tch B ts w w') (h1 : tt ∉ ts) (h2 : tb ∉ ts) : TL w' B tt tb A ms := ⟨h.1.tch hT h1, fun m hm => (h.2 m hm).tch hT h2⟩
theorem TL.below (h : TL w B tt tb A ms) (hB : B ≤ w.heap.size) (hT : Below w.heap.size w w') : TL w' B tt tb A ms := h.tch (Tch.of_below hT hB []) (by simp) (by simp)
theorem TL.take (h : TL w B tt tb A ms) (k : Nat) : TL w B tt tb A (ms.take k) := ⟨by have := h.1.take k; rwa [qy] at this, fun m hm => h.2 m (List.mem_of_mem_take hm)⟩
theorem TL.at_ (h : TL w B tt tb A ms) {k : Nat} (hk : k < ms.length) : ∃ ad m, A = some ad ∧ ms[k]? = some m ∧ m.fine w B tb ∧ w.cell? (ad.add k) = some (.slice m.A m.b.length m.c) := by
 have hx : ms[k]? = some ms[k] := List.getElem?_eq_getElem hk
 obtain ⟨ad, e, hc⟩ := h.1.at_ (k := k) (by rw [rC]; exact hk)
 refine ⟨ad, ms[k], e, hx, h.2 _ (List.getElem_mem hk), ?_⟩
 rw [hc]
 simp [jH, MTx.cell]
end
end
end
section
open Go.RowKit
section
variable {α : Type} {f : α → List Value} {size : Nat}
theorem gQ : ∀ {l : List α}, (∀ x ∈ l, (f x).length = size) → (l.flatMap f).length = l.length * size
 | [], _ => by simp
 | x :: l, h => by
  rw [List.flatMap_cons, List.length_append, gQ (fun y hy => h y (List.mem_cons_of_mem _ hy)), h x (List.mem_cons_self ..), List.length_cons, Nat.add_mul, Nat.one_mul, Nat.add_comm]
theorem fJ : ∀ {l : List α}, (∀ x ∈ l, (f x).length = size) → ∀ {k : Nat} {x : α}, l[k]? = some x → ∀ {j : Nat}, j < size → (l.flatMap f)[k * size + j]? = (f x)[j]?
 | [], _, k, x, h, _, _ => by simp at h
 | y :: l, hf, 0, x, h, j, hj => by
  simp only [List.getElem?_cons_zero, Option.some.injEq] at h
  subst h
  rw [List.flatMap_cons, Nat.zero_mul, Nat.zero_add, List.getElem?_append_left (by rw [hf y (List.mem_cons_self ..)]; exact hj)]
 | y :: l, hf, k + 1, x, h, j, hj => by
  simp only [List.getElem?_cons_succ] at h
  have hy := hf y (List.mem_cons_self ..)
  rw [List.flatMap_cons, List.getElem?_append_right (by rw [hy, Nat.add_mul]; omega), hy, show (k + 1) * size + j - size = k * size + j by rw [Nat.add_mul]; omega]
  exact fJ (fun z hz => hf z (List.mem_cons_of_mem _ hz)) h hj
theorem lI : ∀ {l : List α}, (∀ x ∈ l, (f x).length = size) → ∀ {k : Nat}, k < l.length → ∀ {x : α}, (f x).length = size → (l.set k x).flatMap f = splice (l.flatMap f) (k * size) (f x)
 | [], _, k, h, _, _ => by simp at h
 | y :: l, hf, 0, _, x, hx => by
  rw [List.set_cons_zero, List.flatMap_cons, List.flatMap_cons]
  unfold splice
  rw [Nat.zero_mul, List.take_zero, List.nil_append, Nat.zero_add, hx, ← hf y (List.mem_cons_self ..), List.drop_left]
 | y :: l, hf, k + 1, h, x, hx => by
  have hy := hf y (List.mem_cons_self ..)
  have ih := lI (fun z hz => hf z (List.mem_cons_of_mem _ hz)) (Nat.lt_of_succ_lt_succ h) hx
  rw [List.set_cons_succ, List.flatMap_cons, List.flatMap_cons, ih]
  unfold splice
  rw [show (k + 1) * size = (f y).length + k * size by rw [hy, Nat.add_mul, Nat.one_mul, Nat.add_comm], List.take_length_add_append, Nat.add_assoc, List.drop_length_add_append, List.append_assoc]
end
section
variable {w : World}
theorem heap_setCells_other {b k : Nat} (h : k ≠ b) : ∀ (vs : List Value) (o : Nat) (w : World), (w.setCells b o vs).heap[k]? = w.heap[k]?
 | [], _, _ => rfl
 | v :: r, o, w => by
  rw [World.setCells, heap_setCells_other h r]
  exact Below.heap_setCell _ _ _ _ h
theorem gI {b : Nat} {t : TypeId} {fr : Nat × Nat} : ∀ (vs : List Value) (o : Nat) (w : World) (cur : Array Value), w.heap[b]? = some (.cells cur t fr) → ∃ cur', (w.setCells b o vs).heap[b]? = some (.cells cur' t fr) ∧ cur'.size = cur.size
 | [], _, _, cur, h => ⟨cur, h, rfl⟩
 | v :: r, o, w, cur, h => by
  obtain ⟨cur', h1, h2⟩ := gI r (o + 1) _ _ (ai h o v)
  exact ⟨cur', h1, by rw [h2]; simp⟩
theorem eP (b : Nat) : ∀ (vs : List Value) (o : Nat) (w : World), (w.setCells b o vs).os = w.os ∧ (w.setCells b o vs).tape = w.tape ∧ (w.setCells b o vs).output = w.output ∧ (w.setCells b o vs).heap.size = w.heap.size
 | [], _, _ => ⟨rfl, rfl, rfl, rfl⟩
 | v :: r, o, w => by
  obtain ⟨h1, h2, h3, h4⟩ := eP b r (o + 1) (w.setCell ⟨b, o, none⟩ v)
  exact ⟨h1, h2, h3, by rw [World.setCells, h4]; simp [World.setCell]⟩
theorem aK (b : Nat) (vs : List Value) (o : Nat) (w : World) : w.grownBy (w.setCells b o vs) (some b) := by
 obtain ⟨h1, h2, h3, h4⟩ := eP b vs o w
 exact ⟨h1, h2, h3, by omega, fun k _ hk => heap_setCells_other (fun e => hk (by rw [e])) vs o w⟩
variable {base : Nat} {e : TypeId} {size n c g : Nat} {xs : List Value}
theorem bM (h : w.ownsRow base e size (.slice (some ⟨g, 0, none⟩) n c) n xs) {j : Nat} {v : Value} (hv : xs[j]? = some v) : w.cell? ⟨g, j, none⟩ = some v := by
 have := h.cells (g := g) rfl j v hv
 rwa [bX] at this
theorem gZ (h : w.ownsRow base e size (.slice (some ⟨g, 0, none⟩) n c) n xs) {o m : Nat} (hm : o + m ≤ xs.length) : w.there g o m := fun j hj => by
 have hx : xs[o + j]? = some (xs[o + j]'(by omega)) := List.getElem?_eq_getElem (by omega)
 refine ⟨by rw [bM h hx]; rfl, ?_⟩
 rcases h.2 with ⟨hn, _⟩ | ⟨g', cap, cur, hv, _, hh, _⟩
 ·cases hn
 ·injection hv with q
  injection q with q
  injection q with q
  subst q
  exact ag hh _
theorem aP {o : Nat} {vs : List Value} (h : w.ownsRow base e size (.slice (some ⟨g, 0, none⟩) n c) n xs) (hf : o + vs.length ≤ xs.length) : (w.setCells g o vs).ownsRow base e size (.slice (some ⟨g, 0, none⟩) n c) n (splice xs o vs) := by
 have hl := length_splice xs o vs hf
 refine ⟨hl.trans h.1, ?_⟩
 have hthere := gZ h (o := o) (m := vs.length) hf
 have hcells : ∀ j v, xs[j]? = some v → w.cell? ⟨g, j, none⟩ = some v := fun j v hv => bM h hv
 rcases h.2 with ⟨hn, _⟩ | ⟨g', cap, cur, hv, hb, hh, hnc, hcm, hcs, ht⟩
 ·cases hn
 ·injection hv with q1 _ q2
  injection q1 with q
  injection q with q
  subst q
  obtain ⟨cur', h1, h2⟩ := gI vs o w cur hh
  refine .inr ⟨g, cap, cur', by rw [q2], hb, h1, hnc, hcm, by rw [h2]; exact hcs, ?_⟩
  have hcur : ∀ j : Nat, cur'[j]? = (w.setCells g o vs).cell? ⟨g, j, none⟩ := fun j => (cell_of_row _ g j cur' e (0, 0) h1).symm
  have hxl : n * size ≤ cur.size := by rw [hcs]; exact Nat.mul_le_mul_right _ hnc
  apply List.ext_getElem?
  intro j
  rw [List.getElem?_take]
  by_cases hj : j < n * size
  ·rw [if_pos hj, Array.getElem?_toList, hcur]
   have hx : xs[j]? = some (xs[j]'(by rw [h.1]; exact hj)) := List.getElem?_eq_getElem _
   unfold splice
   rw [List.getElem?_append]
   by_cases h0 : j < o
   ·rw [World.cell?_setCells_out g vs o w _ (fun _ _ => .inl h0), hcells j _ hx, if_pos (by rw [List.length_take]; omega), List.getElem?_take, if_pos h0, hx]
   ·rw [if_neg (by rw [List.length_take]; omega), List.length_take, Nat.min_eq_left (by omega), List.getElem?_append]
    by_cases h1' : j - o < vs.length
    ·rw [if_pos h1', show (⟨g, j, none⟩ : Addr) = ⟨g, o + (j - o), none⟩ by rw [show o + (j - o) = j by omega],
      World.cell?_setCells_in g vs o w (fun i hi => (hthere i hi).1) (j - o) h1', List.getElem?_eq_getElem h1']
    ·rw [if_neg h1', World.cell?_setCells_out g vs o w _ (fun _ _ => .inr (show o + vs.length ≤ j by omega)), hcells j _ hx, List.getElem?_drop, show o + vs.length + (j - o - vs.length) = j by omega, hx]
  ·rw [if_neg hj, List.getElem?_eq_none (by rw [hl, h.1]; omega)]
end
def key (i : Int) : Lit := .int .i64 i
def at_ (D : DataW Value) (i : Int) : DataW Value := D.atKey (key i) (.held (.slice none 0 0))
section
variable {P : Program} {w : World} {t k e : TypeId} {b n : Nat} {D : DataW Value}
end
theorem bS {P : Program} {w w' : World} {ops : Array Oper} {rest : List Oper} {o : Oper} {a : Act} {Q : Exit → Act → World → Prop} (hg : o.guard = none) (m : Operand) (t : TypeId) (hop : o.op = Op.call { callee := Callee.builtin Builtin.clear, args := #[m], argTypes := #[t] })
  (v : Value) (hm : a.eval m = v) (hrun : (Builtin.clear_ #[t] o.type #[v]).run P w = .ok (.tuple #[]) w') (hK : wpList P ops Q rest (a.put o.dst (.tuple #[])) w') : wpList P ops Q (o :: rest) a w := by
 refine wpList_plain hg fun K' hK' => ?_
 unfold Oper.wp
 simp [execOp, hop, resolve, invoke, builtin, hm, hrun, Result.andThen]
 exact hK' _ _ hK
section
variable {P : Program} {w w' : World} {ops : Array Oper} {rest : List Oper} {o : Oper} {a : Act} {K : Act → World → Prop} {Q : Exit → Act → World → Prop} {E : Prop}
theorem dQ (w : World) (t e : TypeId) (cs : Array Value) (ie : TypeInfo) (z : Value) (hu : P.underlying t = some (.slice e)) (hie : P.info? e = some ie) (hz : ie.zero = some z) (hs : ie.size = cs.size) (h0 : 0 < cs.size) (hm : cs.size ≤ 16777216) :
  (Instr.buildSlice t 1 #[(0, .agg cs)]).run P w = .ok (.slice (some ⟨w.heap.size, 0, none⟩) 1 1) (w.alloc (.cells cs e)) := by
 refine run_buildSlice w t e 1 _ cs ie z hu hie hz (by rw [hs, Nat.one_mul]; show ¬ cs.size > 16777216; omega) (by rw [hs, Nat.one_mul]; omega) ?_
 have q := Great.fill_whole (s := ie.size) (by rw [hs]; exact h0) [Value.agg cs] ((Array.range (1 * ie.size)).map (z.cells[· % z.cells.size]!)) (fun v hv => by rw [List.mem_singleton] at hv; subst hv; exact hs.symm) (by simp)
 simpa [Value.cells] using q
end
end
end Go.Proofs.YtpphmbfghfmdlaaGreat
