/- A range over a function whose rounds are told what lies in memory. -/
import Derived.RangeFuncNested
import Derived.RangeFuncBound
import Derived.RangeFuncCalls
import Derived.RangeFuncLeaves
import Derived.RangeFuncWrites
import Derived.RangeFuncBox
import Derived.Shelf.Abstract
import Derived.WalkKit
import Derived.OwnWalkIn
import Derived.TacticsInMore
import Derived.LoopNIn
import Derived.LoopIn
import Derived.Test.YtmcfknnfaokmlaaMem
namespace Go.Proofs.Ytmcfknnfaokmlaa
set_option maxRecDepth 100000

section
open Go.RowKit Go.Shelf

section
variable {F : Fence} {n : Nat} {P : Program} {α : Type}

/-- How a round's body may be left: the loop's record and the block of deferred calls as they were. -/
def endR (l D : Nat) (W0 : World) (G : World → Prop) (Y : Code → World → Prop) : Exit → Act → World → Prop
  | .normal, _, W => (W.heap[l]? = W0.heap[l]? ∧ W.heap[D]? = W0.heap[D]?) ∧ G W
  | .ret, _, W => (W.heap[l]? = W0.heap[l]? ∧ W.heap[D]? = W0.heap[D]?) ∧ Y .ret W
  | .exit id, _, W => (W.heap[l]? = W0.heap[l]? ∧ W.heap[D]? = W0.heap[D]?) ∧ Y (.exit id) W
  | .goto t, _, W => (W.heap[l]? = W0.heap[l]? ∧ W.heap[D]? = W0.heap[D]?) ∧ Y (.goto t) W
  | .panic _, _, _ => False
  | .outgrown, _, _ => False

/-- The loop's record while the loop is at work. -/
abbrev recOf (fn : FuncId) (tm : Array Value) (ps : Array Tmp) (assign body : Code) (D : Nat) (st : LoopState) (pe : Option Code) : Loop :=
  { state := st, pending := pe, fn := fn, tmps := tm, params := ps, assign := assign, body := body, defers := D }

/-- One round. -/
theorem round_m {ps : Array Tmp} {assign body : Code} {tm xv : Array Value} {fn : FuncId} {l D : Nat} (hlD : D ≠ l) (hfn : F.fn fn) (hxs : xv.size = ps.size) {W : World}
    (hl : W.heap[l]? = some (.loop (recOf fn tm ps assign body D .ready none))) {a1 : Act}
    (hassign : ∀ K : Act → World → Prop, K a1 W → assign.wpIn (F.inRound l) n P (Exit.then K (fun _ _ _ => False)) { tmps := (ps.zip xv).foldl (fun t (p, v) => t.setIfInBounds p v) tm, defers := [] } W)
    {G : World → Prop} {Y : Code → World → Prop}
    (hbody : body.wpIn (F.inRound l) n P (endR l D (W.putObj l (.loop (recOf fn tm ps assign body D .busy none))) G Y) a1 (W.putObj l (.loop (recOf fn tm ps assign body D .busy none)))) :
    YieldAt F n P l xv W fun e W' =>
      (e = .returned (.bool true) ∧ ∃ W3, G W3 ∧ W' = W3.putObj l (.loop (recOf fn tm ps assign body D .ready none)) ∧ W3.heap[l]? = some (.loop (recOf fn tm ps assign body D .busy none)) ∧ W3.heap[D]? = W.heap[D]?) ∨
      (e = .returned (.bool false) ∧ ∃ c W3, Y c W3 ∧ W' = W3.putObj l (.loop (recOf fn tm ps assign body D .done (some c))) ∧ W3.heap[l]? = some (.loop (recOf fn tm ps assign body D .busy none)) ∧ W3.heap[D]? = W.heap[D]?) := by
  have hb : (W.putObj l (.loop (recOf fn tm ps assign body D .busy none))).heap[l]? = some (.loop (recOf fn tm ps assign body D .busy none)) := World.putObj_heap_same (Array.getElem?_eq_some_iff.1 hl).1
  have hd : (W.putObj l (.loop (recOf fn tm ps assign body D .busy none))).heap[D]? = W.heap[D]? := World.putObj_heap_other hlD
  refine ⟨fn, _, assign, body, run_yield hl hxs, roundIn_of_wpIn hfn (hassign _ ⟨_, run_beginRound hl rfl, wpIn_mono hbody ?_⟩)⟩
  intro e a3 W3 hp
  have done : ∀ (c : Code), (W3.heap[l]? = (W.putObj l (.loop (recOf fn tm ps assign body D .busy none))).heap[l]? ∧ W3.heap[D]? = (W.putObj l (.loop (recOf fn tm ps assign body D .busy none))).heap[D]?) ∧ Y c W3 →
      ∃ v w', (Instr.endRound l (some c)).run P W3 = .ok v w' ∧ ((Ending.returned v = .returned (.bool true) ∧ ∃ W4, G W4 ∧ w' = W4.putObj l (.loop (recOf fn tm ps assign body D .ready none)) ∧ W4.heap[l]? = some (.loop (recOf fn tm ps assign body D .busy none)) ∧ W4.heap[D]? = W.heap[D]?) ∨
        (Ending.returned v = .returned (.bool false) ∧ ∃ c W4, Y c W4 ∧ w' = W4.putObj l (.loop (recOf fn tm ps assign body D .done (some c))) ∧ W4.heap[l]? = some (.loop (recOf fn tm ps assign body D .busy none)) ∧ W4.heap[D]? = W.heap[D]?)) := by
    rintro c ⟨⟨h1, h2⟩, h3⟩
    have q := h1.trans hb
    exact ⟨_, _, run_endRound (some c) q, .inr ⟨rfl, c, W3, h3, rfl, q, h2.trans hd⟩⟩
  cases e with
  | normal =>
    obtain ⟨⟨h1, h2⟩, h3⟩ := hp
    have q := h1.trans hb
    exact ⟨_, _, run_endRound none q, .inl ⟨rfl, W3, h3, rfl, q, h2.trans hd⟩⟩
  | ret => exact done _ hp
  | exit id => exact done _ hp
  | goto t => exact done _ hp
  | panic ch => exact hp.elim
  | outgrown => exact hp.elim

theorem tch_put {B : Nat} {W : World} {l : Nat} {r : Loop} (o : Obj) (hl : W.heap[l]? = some (.loop r)) (hB : B ≤ l) : Tch B [] W (W.putObj l o) :=
  ⟨⟨rfl, rfl, rfl, by simp, fun k hk => World.putObj_heap_other (by omega)⟩, fun k cs t fr hk _ => World.putObj_heap_other (fun e => by subst e; rw [hl] at hk; cases hk)⟩

/-- What a function that is ranged over keeps: each value that it hands on comes with what Pre says of memory; at its end S. -/
def SeqM (F : Fence) (n : Nat) (P : Program) (g : Nat) (lb : Array Value) (encs : α → Array Value) (Pre : α → World → Prop) (B : Nat) (ts : List TypeId) (S : List α → World → Prop) (N : Nat) (w : World) : Prop :=
  ∀ (l : Nat) (J Jx : List α → World → Prop) (W : World), Below w.heap.size w W → (∀ pre A A', J pre A → Below A.heap.size A A' → J pre A') →
    (∀ pre x W1, J pre W1 → pre.length < N → Pre x W1 → YieldAt F (n - 1) P l (encs x) W1 fun e W' => (e = .returned (.bool true) ∧ J (pre ++ [x]) W' ∧ Tch B ts W1 W') ∨ (e = .returned (.bool false) ∧ Jx (pre ++ [x]) W')) →
    J [] W →
    CallsIn F n P g (#[.func (.yield l) #[] #[]] ++ lb) W fun e W' => (∃ v, e = .returned v) ∧ ((∃ xs, S xs W' ∧ J xs W') ∨ (∃ pre, Jx pre W'))

/-- The statement. B: from there on lies what the body may write, blocks of the element types ts alone. -/
theorem range_m {g : Operand} {ps : Array Tmp} {assign body : Code} {Q : Exit → Act → World → Prop} {a : Act} {w : World} (hro : F.round = none) (h1 : 1 ≤ n)
    {gf : Nat} {lb : Array Value} (hg : a.eval g = .func (.func gf) #[] lb) (hFg : F.fn gf) (eg : ∀ args w, (callFunc gf args).run P w = .ok (.enter gf args) w)
    {encs : α → Array Value} {Pre : α → World → Prop} {B : Nat} {ts : List TypeId} {S : List α → World → Prop} {N : Nat} (hseq : SeqM F (n - 1) P gf lb encs Pre B ts S N w) (hps : ∀ x, (encs x).size = ps.size) (hB : B ≤ w.heap.size)
    (I : List α → World → Prop) (X : Code → List α → World → Prop)
    (hI : ∀ pre A A', I pre A → Tch w.heap.size [] A A' → I pre A') (hX : ∀ c pre A A', X c pre A → Tch w.heap.size [] A A' → X c pre A')
    (hP : ∀ x A A', Pre x A → Tch w.heap.size [] A A' → Pre x A') (hS : ∀ xs A A', S xs A → Tch w.heap.size [] A A' → S xs A')
    (h0 : I [] w) (a₁ : α → Act)
    (hassign : ∀ (l : Nat) (x : α) (W : World) (K : Act → World → Prop), K (a₁ x) W →
      assign.wpIn (F.inRound l) (n - 1 - 1) P (Exit.then K (fun _ _ _ => False)) { tmps := (ps.zip (encs x)).foldl (fun t (p, v) => t.setIfInBounds p v) a.tmps, defers := [] } W)
    (hbody : ∀ (pre : List α) (x : α) (W : World), I pre W → pre.length < N → Pre x W → w.heap.size + 1 < W.heap.size → (∀ cs t fr, W.heap[w.heap.size]? ≠ some (.cells cs t fr)) → (∀ cs t fr, W.heap[w.heap.size + 1]? ≠ some (.cells cs t fr)) →
      body.wpIn (F.inRound (w.heap.size + 1)) (n - 1 - 1) P (endR (w.heap.size + 1) w.heap.size W (fun W' => Tch B ts W W' ∧ I (pre ++ [x]) W') (fun c W' => X c (pre ++ [x]) W')) (a₁ x) W)
    (hdone : ∀ (xs : List α) (W : World), S xs W → I xs W → W.heap[w.heap.size]? = some (.deferred (some [])) → Q .normal { a with defers := { target := .collected w.heap.size, args := #[] } :: a.defers } W)
    (hstop : ∀ (c : Code) (pre : List α) (W : World), X c pre W → W.heap[w.heap.size]? = some (.deferred (some [])) → c.wpIn F n P Q { a with defers := { target := .collected w.heap.size, args := #[] } :: a.defers } W) :
    (Code.rangeFunc g ps assign body).wpIn F n P Q a w := by
  refine wpIn_rangeFunc fun fn hfn => ?_
  rw [hro]
  obtain ⟨l, hl⟩ : ∃ l, l = w.heap.size + 1 := ⟨_, rfl⟩
  obtain ⟨W1, hW1⟩ : ∃ W1, (w.alloc (.deferred (some []))).alloc (.loop (recOf fn a.tmps ps assign body w.heap.size .ready none)) = W1 := ⟨_, rfl⟩
  have b1 : Below w.heap.size w W1 := by rw [← hW1]; exact ((Below.refl _ w).alloc (Nat.le_refl _) _).alloc (by simp) _
  have rl : W1.heap[l]? = some (.loop (recOf fn a.tmps ps assign body w.heap.size .ready none)) := by
    rw [← hW1, hl]
    have := World.alloc_heap_new (w.alloc (.deferred (some []))) (.loop (recOf fn a.tmps ps assign body w.heap.size .ready none))
    rwa [World.size_alloc] at this
  have rd : W1.heap[w.heap.size]? = some (.deferred (some [])) := by
    rw [← hW1]
    exact (Below.heap_alloc _ _ _ (by simp)).trans (World.alloc_heap_new w _)
  refine ⟨l, [{ target := .collected w.heap.size, args := #[] }], W1, { target := .fn (.func gf) lb, args := #[.func (.yield l) #[] #[]] }, W1, gf, #[.func (.yield l) #[] #[]] ++ lb, W1, ?_, ?_, ?_, ?_, fun _ => h1, ?_⟩
  · rw [hl, ← hW1]
    exact run_enterLoop_outer _ _ _ _ _
  · simp only [resolve, hg]
    simp [go_sem]
  · intro f' hf'
    simp [Target.leads] at hf'
    subst hf'
    exact hFg
  · simp [invoke, go_sem, eg]
  have put : ∀ {A : World} {r : Loop} (o : Obj), A.heap[l]? = some (.loop r) → Tch w.heap.size [] A (A.putObj l o) := fun o h => tch_put o h (by omega)
  refine (hseq l (fun pre W => I pre W ∧ W.heap[l]? = some (.loop (recOf fn a.tmps ps assign body w.heap.size .ready none)) ∧ W.heap[w.heap.size]? = some (.deferred (some [])))
    (fun pre W => ∃ c, X c pre W ∧ W.heap[l]? = some (.loop (recOf fn a.tmps ps assign body w.heap.size .done (some c))) ∧ W.heap[w.heap.size]? = some (.deferred (some []))) W1 b1 ?_ ?_ ⟨hI _ _ _ h0 (Tch.of_below b1 (Nat.le_refl _) _), rl, rd⟩).mono ?_
  · rintro pre A A' ⟨h2, h3, h4⟩ hb
    have s4 := (Array.getElem?_eq_some_iff.1 h4).1
    exact ⟨hI _ _ _ h2 (Tch.of_below hb (by omega) _), (hb.block _ (Array.getElem?_eq_some_iff.1 h3).1).trans h3, (hb.block _ s4).trans h4⟩
  · rintro pre x W ⟨h2, h3, h4⟩ hpn hx
    have s3 := (Array.getElem?_eq_some_iff.1 h3).1
    have T := put (.loop (recOf fn a.tmps ps assign body w.heap.size .busy none)) h3
    have d2 : (W.putObj l (.loop (recOf fn a.tmps ps assign body w.heap.size .busy none))).heap[w.heap.size]? = some (.deferred (some [])) := (World.putObj_heap_other (by omega)).trans h4
    have d3 : (W.putObj l (.loop (recOf fn a.tmps ps assign body w.heap.size .busy none))).heap[l]? = some (.loop (recOf fn a.tmps ps assign body w.heap.size .busy none)) := World.putObj_heap_same s3
    have hb := hbody pre x (W.putObj l (.loop (recOf fn a.tmps ps assign body w.heap.size .busy none))) (hI _ _ _ h2 T) hpn (hP _ _ _ hx T) (by rw [World.putObj_size]; omega) (fun cs t fr e => by rw [d2] at e; cases e) (fun cs t fr e => by rw [← hl, d3] at e; cases e)
    rw [← hl] at hb
    obtain ⟨fn', tm', as', bo', hy, hR⟩ := round_m (by omega) hfn (hps x) h3 (fun K hK => hassign l x W K hK) hb
    refine ⟨fn', tm', as', bo', hy, hR.mono ?_⟩
    rintro e W' (⟨rfl, W3, ⟨g1, g2⟩, rfl, g3, g4⟩ | ⟨rfl, c, W3, g1, rfl, g3, g4⟩)
    · have T3 := put (.loop (recOf fn a.tmps ps assign body w.heap.size .ready none)) g3
      have s5 := (Array.getElem?_eq_some_iff.1 g3).1
      exact .inl ⟨rfl, ⟨hI _ _ _ g2 T3, World.putObj_heap_same s5, (World.putObj_heap_other (by omega)).trans (g4.trans h4)⟩, ((T.mono hB).more (by simp)).trans (g1.trans ((T3.mono hB).more (by simp)))⟩
    · have T3 := put (.loop (recOf fn a.tmps ps assign body w.heap.size .done (some c))) g3
      have s5 := (Array.getElem?_eq_some_iff.1 g3).1
      exact .inr ⟨rfl, c, hX _ _ _ _ g1 T3, World.putObj_heap_same s5, (World.putObj_heap_other (by omega)).trans (g4.trans h4)⟩
  · rintro e W2 ⟨⟨v, rfl⟩, (⟨xs, hs, hi, g3, g4⟩ | ⟨pre, c, hx, g3, g4⟩)⟩
    · have T3 := put (.loop (recOf fn a.tmps ps assign body w.heap.size .exhausted none)) g3
      exact ⟨none, _, run_endLoop g3 (by simp), hdone xs _ (hS _ _ _ hs T3) (hI _ _ _ hi T3) ((World.putObj_heap_other (by omega)).trans g4)⟩
    · have T3 := put (.loop (recOf fn a.tmps ps assign body w.heap.size .exhausted (some c))) g3
      exact ⟨some c, _, run_endLoop g3 (by simp), hstop c pre _ (hX _ _ _ _ hx T3) ((World.putObj_heap_other (by omega)).trans g4)⟩
end
end
/-- The mark that a loop over a function leaves among the deferred calls. -/
def mark (D : Nat) : Deferred := { target := .collected D, args := #[] }
/-- The marks' blocks are shut, one behind the other. -/
def shut (w : World) (Ds : List Nat) : World := Ds.foldl (fun w D => w.putObj D (.deferred none)) w
theorem shut_off {w : World} : ∀ {Ds : List Nat} {k : Nat}, k ∉ Ds → (shut w Ds).heap[k]? = w.heap[k]? := by
  intro Ds
  induction Ds generalizing w with
  | nil => intro k _; rfl
  | cons D Ds ih =>
    intro k hk
    show (shut (w.putObj D (.deferred none)) Ds).heap[k]? = _
    rw [ih (fun z => hk (List.mem_cons_of_mem _ z))]
    exact World.putObj_heap_other (fun e => hk (by rw [e]; exact List.mem_cons_self))
theorem shut_same {w : World} : ∀ {Ds : List Nat}, (shut w Ds).heap.size = w.heap.size ∧ (shut w Ds).os = w.os ∧ (shut w Ds).tape = w.tape ∧ (shut w Ds).output = w.output := by
  intro Ds
  induction Ds generalizing w with
  | nil => exact ⟨rfl, rfl, rfl, rfl⟩
  | cons D Ds ih =>
    obtain ⟨h1, h2, h3, h4⟩ := ih (w := w.putObj D (.deferred none))
    exact ⟨h1.trans (by simp), h2, h3, h4⟩
theorem leaves_marks {F : Fence} {n : Nat} {P : Program} {fn : Func} {tmps : Array Value} {R : Ending → World → Prop} {v : Value} :
    ∀ {Ds : List Nat} {w : World}, Ds.Nodup → (∀ D ∈ Ds, w.heap[D]? = some (.deferred (some []))) → (∀ u : World, (results fn tmps).run P u = .ok v u) → R (.returned v) (shut w Ds) → LeavesInM F n P fn tmps R (Ds.map mark) .returning w := by
  intro Ds
  induction Ds with
  | nil => intro w _ _ hv hR; exact ⟨_, hv w, hR⟩
  | cons D Ds ih =>
    intro w hn hD hv hR
    refine ⟨by simp, .inl ⟨D, _, rfl, run_takeDeferred (hD D List.mem_cons_self), ?_⟩⟩
    have hn2 := List.nodup_cons.1 hn
    exact ih hn2.2 (fun D' h' => (World.putObj_heap_other (fun e => hn2.1 (by rw [← e]; exact h'))).trans (hD D' (List.mem_cons_of_mem _ h'))) hv hR
section
open Go.RowKit Go.Shelf
theorem one_cell {w : World} {g : Nat} {a : Value} {t : TypeId} {fr : Nat × Nat} (h : w.heap[g]? = some (.cells #[a] t fr)) : w.cell? ⟨g, 0, none⟩ = some a := by simp [World.cell?, h]
theorem keep_nc {W W1 : World} {o : Obj} {base : Nat} {e : TypeId} {size n : Nat} {v : Value} {xs : List Value} {k : Nat} (hnc : ∀ cs t fr, W.heap[k]? ≠ some (.cells cs t fr)) (hk : k < W.heap.size) (hrow : W.ownsRow base e size v n xs) (hg : (W.alloc o).grownBy W1 v.ownBlock) : W1.heap[k]? = W.heap[k]? := by
  refine (hg.block k (by simp; omega) (fun q => ?_)).trans (Below.heap_alloc W o k hk)
  obtain ⟨_, cs, fr, r⟩ := own_row hrow k q.symm
  exact hnc _ _ _ r
theorem shut_below {w : World} {D B : Nat} {o : Obj} (_ : w.heap[D]? = some o) (hB : B ≤ D) : Below B w (shut w [D]) := ⟨rfl, rfl, rfl, by simp [shut], fun k hk => World.putObj_heap_other (by omega)⟩
theorem own_shut {w : World} {base : Nat} {e : TypeId} {size n : Nat} {v : Value} {xs : List Value} {D : Nat} {ds : Option (List Deferred)} (h : w.ownsRow base e size v n xs) (hD : w.heap[D]? = some (.deferred ds)) : (shut w [D]).ownsRow base e size v n xs :=
  own_tch h (B := 0) (ts := []) ⟨shut_below hD (Nat.zero_le _), fun k cs t fr hk _ => World.putObj_heap_other (fun q => by subst q; rw [hD] at hk; cases hk)⟩ (by simp)
end
end Go.Proofs.Ytmcfknnfaokmlaa
