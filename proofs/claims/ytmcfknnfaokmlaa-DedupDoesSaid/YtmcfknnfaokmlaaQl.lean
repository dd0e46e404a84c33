/- Stage 12: a loop over a function that walks a map: each round keeps every walk. maps.Keys, slices.AppendSeq, slices.Collect, slices.Sorted at uint64 (written by wip/gen12um.py). -/
import Derived.Test.YtmcfknnfaokmlaaQk
import Derived.Test.YtmcfknnfaokmlaaBy
import Derived.RangeFuncNested
import Derived.RangeFuncBound
import Derived.RangeFuncCalls
import Derived.RangeFuncLeaves
import Derived.RangeFuncBox
import Derived.Shelf.Abstract
import Derived.OwnWalkIn
import Derived.TacticsInMore
import Derived.LoopNIn
import Derived.LoopIn
import Derived.Maps.OwnIn
namespace Go.Proofs.Ytmcfknnfaokmlaa
set_option maxRecDepth 100000
section
open Go.RowKit Go.Shelf Go.Maps Go.Lib Go.Sort
variable {P : Program} {α : Type} {n : Nat}

/-- How a round's body may be left: the loop's record and the block of deferred calls as they were. -/
def endW (l D : Nat) (W0 : World) (G : World → Prop) : Exit → Act → World → Prop
  | .normal, _, W => (W.heap[l]? = W0.heap[l]? ∧ W.heap[D]? = W0.heap[D]?) ∧ G W
  | _, _, _ => False
/-- The loop's record while the loop is at work. -/
abbrev recW (fn : FuncId) (tm : Array Value) (ps : Array Tmp) (assign body : Code) (D : Nat) (st : LoopState) : Loop :=
  { state := st, pending := none, fn := fn, tmps := tm, params := ps, assign := assign, body := body, defers := D }
/-- One round. -/
theorem round_w {ps : Array Tmp} {assign body : Code} {tm xv : Array Value} {fn : FuncId} {l D : Nat} (hlD : D ≠ l) (hfn : Fence.wide.fn fn) (hxs : xv.size = ps.size) {W : World}
    (hl : W.heap[l]? = some (.loop (recW fn tm ps assign body D .ready))) {a1 : Act}
    (hassign : ∀ K : Act → World → Prop, K a1 W → assign.wpIn (Fence.wide.inRound l) n P (Exit.then K (fun _ _ _ => False)) { tmps := (ps.zip xv).foldl (fun t (p, v) => t.setIfInBounds p v) tm, defers := [] } W)
    {G : World → Prop}
    (hbody : body.wpIn (Fence.wide.inRound l) n P (endW l D (W.putObj l (.loop (recW fn tm ps assign body D .busy))) G) a1 (W.putObj l (.loop (recW fn tm ps assign body D .busy)))) :
    YieldAt Fence.wide n P l xv W fun e W' => e = .returned (.bool true) ∧ ∃ W3, G W3 ∧ W' = W3.putObj l (.loop (recW fn tm ps assign body D .ready)) ∧ W3.heap[l]? = some (.loop (recW fn tm ps assign body D .busy)) ∧ W3.heap[D]? = W.heap[D]? := by
  have hb : (W.putObj l (.loop (recW fn tm ps assign body D .busy))).heap[l]? = some (.loop (recW fn tm ps assign body D .busy)) := World.putObj_heap_same (Array.getElem?_eq_some_iff.1 hl).1
  have hd : (W.putObj l (.loop (recW fn tm ps assign body D .busy))).heap[D]? = W.heap[D]? := World.putObj_heap_other hlD
  refine ⟨fn, _, assign, body, run_yield hl hxs, roundIn_of_wpIn hfn (hassign _ ⟨_, run_beginRound hl rfl, wpIn_mono hbody ?_⟩)⟩
  intro e a3 W3 hp
  cases e with
  | normal =>
    obtain ⟨⟨h1, h2⟩, h3⟩ := hp
    have q := h1.trans hb
    exact ⟨_, _, run_endRound none q, rfl, W3, h3, rfl, q, h2.trans hd⟩
  | _ => exact hp.elim
theorem tchw_put {B : Nat} {W : World} {l : Nat} {r : Loop} (o : Obj) (hl : W.heap[l]? = some (.loop r)) (hB : B ≤ l) : Tch B [] W (W.putObj l o) :=
  ⟨⟨rfl, rfl, rfl, by simp, fun k hk => World.putObj_heap_other (by omega)⟩, fun k cs t fr hk _ => World.putObj_heap_other (fun e => by subst e; rw [hl] at hk; cases hk)⟩
/-- What an iterator's own step leaves as it was. -/
theorem tchw_walk {B : Nat} {W W' : World} {row : Option Nat} (hB : B ≤ W.heap.size) (hg : W.grownBy W' row) (hr : ∀ r, row = some r → B ≤ r ∧ ∃ o : Obj, W.heap[r]? = some o ∧ o.isWalk = true) : Tch B [] W W' :=
  ⟨⟨hg.os, hg.tape, hg.output, hg.size, fun k hk => hg.block k (by omega) (fun e => by have := (hr k e.symm).1; omega)⟩, fun k cs t fr hk _ => grownBy_keeps hg (fun r e => (hr r e).2) hk rfl⟩

/-- The statement. -/
theorem range_w {g : Operand} {ps : Array Tmp} {assign body : Code} {Q : Exit → Act → World → Prop} {a : Act} {w : World} (h1 : 1 ≤ n)
    {gf : Nat} {lb : Array Value} (hg : a.eval g = .func (.func gf) #[] lb) (eg : ∀ args w, (callFunc gf args).run P w = .ok (.enter gf args) w)
    {enc : α → Value} {S : List α → Prop} {N : Nat} (hseq : SeqGives Fence.wide (n - 1) P gf lb enc S N w) (hps : ps.size = 1)
    (I : List α → World → Prop) (hI : ∀ pre A A', I pre A → Tch w.heap.size [] A A' → I pre A') (h0 : I [] w) (a₁ : α → Act)
    (hassign : ∀ (l : Nat) (x : α) (W : World) (K : Act → World → Prop), K (a₁ x) W →
      assign.wpIn (Fence.wide.inRound l) (n - 1 - 1) P (Exit.then K (fun _ _ _ => False)) { tmps := (ps.zip #[enc x]).foldl (fun t (p, v) => t.setIfInBounds p v) a.tmps, defers := [] } W)
    (hbody : ∀ (pre : List α) (x : α) (W : World), I pre W → pre.length < N → w.heap.size + 1 < W.heap.size → (∀ cs t fr, W.heap[w.heap.size]? ≠ some (.cells cs t fr)) → (∀ cs t fr, W.heap[w.heap.size + 1]? ≠ some (.cells cs t fr)) →
      body.wpIn (Fence.wide.inRound (w.heap.size + 1)) (n - 1 - 1) P (endW (w.heap.size + 1) w.heap.size W (fun W' => KeepsWalks W W' ∧ I (pre ++ [x]) W')) (a₁ x) W)
    (hdone : ∀ (xs : List α) (W : World), S xs → I xs W → W.heap[w.heap.size]? = some (.deferred (some [])) → Q .normal { a with defers := { target := .collected w.heap.size, args := #[] } :: a.defers } W) :
    (Code.rangeFunc g ps assign body).wpIn Fence.wide n P Q a w := by
  refine wpIn_rangeFunc fun fn hfn => ?_
  rw [show Fence.wide.round = none from rfl]
  obtain ⟨l, hl⟩ : ∃ l, l = w.heap.size + 1 := ⟨_, rfl⟩
  obtain ⟨W1, hW1⟩ : ∃ W1, (w.alloc (.deferred (some []))).alloc (.loop (recW fn a.tmps ps assign body w.heap.size .ready)) = W1 := ⟨_, rfl⟩
  have b1 : Below w.heap.size w W1 := by rw [← hW1]; exact ((Below.refl _ w).alloc (Nat.le_refl _) _).alloc (by simp) _
  have rl : W1.heap[l]? = some (.loop (recW fn a.tmps ps assign body w.heap.size .ready)) := by
    rw [← hW1, hl]
    have := World.alloc_heap_new (w.alloc (.deferred (some []))) (.loop (recW fn a.tmps ps assign body w.heap.size .ready))
    rwa [World.size_alloc] at this
  have rd : W1.heap[w.heap.size]? = some (.deferred (some [])) := by
    rw [← hW1]
    exact (Below.heap_alloc _ _ _ (by simp)).trans (World.alloc_heap_new w _)
  refine ⟨l, [{ target := .collected w.heap.size, args := #[] }], W1, { target := .fn (.func gf) lb, args := #[.func (.yield l) #[] #[]] }, W1, gf, #[.func (.yield l) #[] #[]] ++ lb, W1, ?_, ?_, ?_, ?_, fun _ => h1, ?_⟩
  · rw [hl, ← hW1]
    exact run_enterLoop_outer _ _ _ _ _
  · simp only [resolve, hg]
    simp [go_sem]
  · intro f' _
    exact trivial
  · simp [invoke, go_sem, eg]
  have put : ∀ {A : World} {r : Loop} (o : Obj), A.heap[l]? = some (.loop r) → Tch w.heap.size [] A (A.putObj l o) := fun o h => tchw_put o h (by omega)
  refine (hseq l (fun pre W => I pre W ∧ W.heap[l]? = some (.loop (recW fn a.tmps ps assign body w.heap.size .ready)) ∧ W.heap[w.heap.size]? = some (.deferred (some []))) W1 b1 ?_ ?_ ⟨hI _ _ _ h0 (Tch.of_below b1 (Nat.le_refl _) _), rl, rd⟩).mono ?_
  · rintro pre A A' row ⟨h2, h3, h4⟩ hg2 hr
    have hr2 : ∀ r, row = some r → ∃ o : Obj, A.heap[r]? = some o ∧ o.isWalk = true := fun r e => (hr r e).2
    exact ⟨hI _ _ _ h2 (tchw_walk (Nat.le_of_lt (Array.getElem?_eq_some_iff.1 h4).1) hg2 (fun r e => ⟨Nat.le_trans b1.size (hr r e).1, (hr r e).2⟩)), (grownBy_keeps hg2 hr2 h3 rfl).trans h3, (grownBy_keeps hg2 hr2 h4 rfl).trans h4⟩
  · rintro pre x W ⟨h2, h3, h4⟩ hpn
    have s3 := (Array.getElem?_eq_some_iff.1 h3).1
    have T := put (.loop (recW fn a.tmps ps assign body w.heap.size .busy)) h3
    have d2 : (W.putObj l (.loop (recW fn a.tmps ps assign body w.heap.size .busy))).heap[w.heap.size]? = some (.deferred (some [])) := (World.putObj_heap_other (by omega)).trans h4
    have d3 : (W.putObj l (.loop (recW fn a.tmps ps assign body w.heap.size .busy))).heap[l]? = some (.loop (recW fn a.tmps ps assign body w.heap.size .busy)) := World.putObj_heap_same s3
    have hb := hbody pre x (W.putObj l (.loop (recW fn a.tmps ps assign body w.heap.size .busy))) (hI _ _ _ h2 T) hpn (by rw [World.putObj_size]; omega) (fun cs t fr e => by rw [d2] at e; cases e) (fun cs t fr e => by rw [← hl, d3] at e; cases e)
    rw [← hl] at hb
    obtain ⟨fn', tm', as', bo', hy, hR⟩ := round_w (by omega) hfn (by rw [hps]; rfl) h3 (fun K hK => hassign l x W K hK) hb
    refine ⟨fn', tm', as', bo', hy, hR.mono ?_⟩
    rintro e W' ⟨rfl, W3, ⟨g1, g2⟩, rfl, g3, g4⟩
    have T3 := put (.loop (recW fn a.tmps ps assign body w.heap.size .ready)) g3
    have s5 := (Array.getElem?_eq_some_iff.1 g3).1
    exact ⟨rfl, ⟨hI _ _ _ g2 T3, World.putObj_heap_same s5, (World.putObj_heap_other (by omega)).trans (g4.trans h4)⟩, ((KeepsWalks.putObj _ h3 rfl).trans g1).trans (KeepsWalks.putObj _ g3 rfl)⟩
  · rintro e W2 ⟨⟨v, rfl⟩, xs, hs, hi, g3, g4⟩
    have T3 := put (.loop { recW fn a.tmps ps assign body w.heap.size .ready with state := .exhausted }) g3
    exact ⟨none, _, run_endLoop g3 (by simp), hdone xs _ hs (hI _ _ _ hi T3) ((World.putObj_heap_other (by omega)).trans g4)⟩
end
end Go.Proofs.Ytmcfknnfaokmlaa
