/- Stage 14: a range over a function that keeps cells of its own: what it does between two rounds (St), what a round keeps of it (Kp). -/
import Derived.Test.YtmcfknnfaokmlaaMem
import Derived.RangeFuncNested
import Derived.RangeFuncBound
import Derived.RangeFuncCalls
import Derived.RangeFuncLeaves
import Derived.RangeFuncBox
import Derived.Shelf.Abstract
import Derived.OwnWalkIn
import Derived.TacticsInMore
import Derived.LoopNIn
import Derived.LoopIn
import Derived.OrdersHeld
import Derived.OrdersIn
import Derived.Deep.RegionHeld
import Derived.WalkMore
namespace Go.Proofs.Ytmcfknnfaokmlaa
set_option maxRecDepth 100000
section
open Go.RowKit Go.Shelf Go.Lib
variable {P : Program} {α : Type} {n : Nat}
/-- How a round's body may be left: the loop's record and the block of deferred calls as they were. -/
def end14 (l D : Nat) (W0 : World) (G Y : World → Prop) : Exit → Act → World → Prop
  | .normal, _, W => (W.heap[l]? = W0.heap[l]? ∧ W.heap[D]? = W0.heap[D]?) ∧ G W
  | .ret, _, W => (W.heap[l]? = W0.heap[l]? ∧ W.heap[D]? = W0.heap[D]?) ∧ Y W
  | _, _, _ => False
/-- How the assignment to a round's variables is left. -/
def mid14 (l D : Nat) (W0 : World) (G : Act → World → Prop) (a : Act) (W : World) : Prop := (W.heap[l]? = W0.heap[l]? ∧ W.heap[D]? = W0.heap[D]?) ∧ G a W
/-- The loop's record. -/
abbrev rec14 (fn : FuncId) (tm : Array Value) (ps : Array Tmp) (assign body : Code) (D : Nat) (st : LoopState) (pe : Option Code) : Loop :=
  { state := st, pending := pe, fn := fn, tmps := tm, params := ps, assign := assign, body := body, defers := D }
/-- One round. -/
theorem round14 {ps : Array Tmp} {assign body : Code} {tm xv : Array Value} {fn : FuncId} {l D : Nat} (hlD : D ≠ l) (hfn : Fence.wide.fn fn) (hxs : xv.size = ps.size) {W : World}
    (hl : W.heap[l]? = some (.loop (rec14 fn tm ps assign body D .ready none))) {M : Act → World → Prop} {G Y : World → Prop}
    (hassign : assign.wpIn (Fence.wide.inRound l) n P (Exit.then (mid14 l D W M) (fun _ _ _ => False)) { tmps := (ps.zip xv).foldl (fun t (p, v) => t.setIfInBounds p v) tm, defers := [] } W)
    (hbody : ∀ a1 W1, W1.heap[l]? = some (.loop (rec14 fn tm ps assign body D .ready none)) → W1.heap[D]? = W.heap[D]? → M a1 W1 →
      body.wpIn (Fence.wide.inRound l) n P (end14 l D (W1.putObj l (.loop (rec14 fn tm ps assign body D .busy none))) G Y) a1 (W1.putObj l (.loop (rec14 fn tm ps assign body D .busy none)))) :
    YieldAt Fence.wide n P l xv W fun e W' =>
      (e = .returned (.bool true) ∧ ∃ W3, G W3 ∧ W' = W3.putObj l (.loop (rec14 fn tm ps assign body D .ready none)) ∧ W3.heap[l]? = some (.loop (rec14 fn tm ps assign body D .busy none)) ∧ W3.heap[D]? = W.heap[D]?) ∨
      (e = .returned (.bool false) ∧ ∃ W3, Y W3 ∧ W' = W3.putObj l (.loop (rec14 fn tm ps assign body D .done (some .ret))) ∧ W3.heap[l]? = some (.loop (rec14 fn tm ps assign body D .busy none)) ∧ W3.heap[D]? = W.heap[D]?) := by
  refine ⟨fn, _, assign, body, run_yield hl hxs, roundIn_of_wpIn hfn (wpIn_mono hassign ?_)⟩
  intro e a1 W1 hm
  cases e with
  | normal =>
    obtain ⟨⟨h1, h2⟩, hM⟩ := hm
    have hl1 := h1.trans hl
    have hb : (W1.putObj l (.loop (rec14 fn tm ps assign body D .busy none))).heap[l]? = some (.loop (rec14 fn tm ps assign body D .busy none)) := World.putObj_heap_same (Array.getElem?_eq_some_iff.1 hl1).1
    have hd : (W1.putObj l (.loop (rec14 fn tm ps assign body D .busy none))).heap[D]? = W.heap[D]? := (World.putObj_heap_other hlD).trans h2
    refine ⟨_, run_beginRound hl1 rfl, wpIn_mono (hbody a1 W1 hl1 h2 hM) ?_⟩
    intro e a3 W3 hp
    cases e with
    | normal =>
      obtain ⟨⟨g1, g2⟩, g3⟩ := hp
      have q := g1.trans hb
      exact ⟨_, _, run_endRound none q, .inl ⟨rfl, W3, g3, rfl, q, g2.trans hd⟩⟩
    | ret =>
      obtain ⟨⟨g1, g2⟩, g3⟩ := hp
      have q := g1.trans hb
      exact ⟨_, _, run_endRound (some .ret) q, .inr ⟨rfl, W3, g3, rfl, q, g2.trans hd⟩⟩
    | _ => exact hp.elim
  | _ => exact hm.elim
theorem tch_put14 {B : Nat} {W : World} {l : Nat} {r : Loop} (o : Obj) (hl : W.heap[l]? = some (.loop r)) (hB : B ≤ l) : Tch B [] W (W.putObj l o) :=
  ⟨⟨rfl, rfl, rfl, by simp, fun k hk => World.putObj_heap_other (by omega)⟩, fun k cs t fr hk _ => World.putObj_heap_other (fun e => by subst e; rw [hl] at hk; cases hk)⟩
theorem tch_shut14 {B : Nat} {W : World} {l : Nat} {r : Option (List Deferred)} (o : Obj) (hl : W.heap[l]? = some (.deferred r)) (hB : B ≤ l) : Tch B [] W (W.putObj l o) :=
  ⟨⟨rfl, rfl, rfl, by simp, fun k hk => World.putObj_heap_other (by omega)⟩, fun k cs t fr hk _ => World.putObj_heap_other (fun e => by subst e; rw [hl] at hk; cases hk)⟩
/-- What a function that is ranged over does, called in W: St: its own steps, behind the first B blocks; Kp: what a round must keep; Pre: what lies in memory of what it hands on; Sp: what is known of what has come. -/
def Seq14 (n : Nat) (P : Program) (g : Nat) (lb : Array Value) (encs : α → Array Value) (St Kp Kx : Nat → World → World → Prop) (Pre : Nat → α → World → Prop) (S Sp : List α → Prop) (N : Nat) (W : World) : Prop :=
  ∀ (l : Nat) (J Jx : List α → World → Prop), (∀ pre A A', J pre A → St W.heap.size A A' → J pre A') → (∀ pre A A', Jx pre A → St W.heap.size A A' → Jx pre A') →
    (∀ pre x W1, J pre W1 → pre.length < N → Sp (pre ++ [x]) → Pre W.heap.size x W1 → W.heap.size ≤ W1.heap.size → YieldAt Fence.wide (n - 1) P l (encs x) W1 fun e W' => (e = .returned (.bool true) ∧ J (pre ++ [x]) W' ∧ Kp W.heap.size W1 W') ∨ (e = .returned (.bool false) ∧ Jx (pre ++ [x]) W' ∧ Kx W.heap.size W1 W')) →
    J [] W →
    CallsIn Fence.wide n P g (#[.func (.yield l) #[] #[]] ++ lb) W fun e W' => (∃ v, e = .returned v) ∧ ((∃ xs, S xs ∧ J xs W') ∨ (∃ pre, Sp pre ∧ Jx pre W'))
/-- The statement. -/
theorem range14 {g : Operand} {ps : Array Tmp} {assign body : Code} {Q : Exit → Act → World → Prop} {a : Act} {w : World} (h1 : 1 ≤ n)
    {gf : Nat} {lb : Array Value} (hg : a.eval g = .func (.func gf) #[] lb) (eg : ∀ args w, (callFunc gf args).run P w = .ok (.enter gf args) w)
    {encs : α → Array Value} {St Kp Kx : Nat → World → World → Prop} {Pre : Nat → α → World → Prop} {S Sp : List α → Prop} {N : Nat}
    (hseq : ∀ W, Below w.heap.size w W → W.heap.size = w.heap.size + 2 → Seq14 (n - 1) P gf lb encs St Kp Kx Pre S Sp N W) (hps : ∀ x, (encs x).size = ps.size)
    (hSt : ∀ {B : Nat} {A A' : World}, St B A A' → Below B A A')
    (hKt : ∀ {A B C : World}, Kp (w.heap.size + 2) A B → Kp (w.heap.size + 2) B C → Kp (w.heap.size + 2) A C)
    (hKb : ∀ {A : World} {r : Loop} (o : Obj), A.heap[w.heap.size + 1]? = some (.loop r) → Kp (w.heap.size + 2) A (A.putObj (w.heap.size + 1) o))
    (hKx : ∀ {A B C : World}, Kp (w.heap.size + 2) A B → Kx (w.heap.size + 2) B C → Kx (w.heap.size + 2) A C)
    (hKy : ∀ {A B : World} {r : Loop} (o : Obj), Kx (w.heap.size + 2) A B → B.heap[w.heap.size + 1]? = some (.loop r) → Kx (w.heap.size + 2) A (B.putObj (w.heap.size + 1) o))
    (I X : List α → World → Prop) (hI : ∀ pre A A', I pre A → Tch w.heap.size [] A A' → I pre A') (hX : ∀ pre A A', X pre A → Tch w.heap.size [] A A' → X pre A')
    (hIs : ∀ pre A A', I pre A → St (w.heap.size + 2) A A' → I pre A') (hXs : ∀ pre A A', X pre A → St (w.heap.size + 2) A A' → X pre A')
    (h0 : I [] w) (a₁ : α → Nat → Act) (M : List α → α → Nat → World → Prop) (hM : ∀ pre x b A A', M pre x b A → Tch w.heap.size [] A A' → M pre x b A')
    (hassign : ∀ (pre : List α) (x : α) (W : World), I pre W → Pre (w.heap.size + 2) x W → pre.length < N → w.heap.size + 1 < W.heap.size →
      assign.wpIn (Fence.wide.inRound (w.heap.size + 1)) (n - 1 - 1) P (Exit.then (mid14 (w.heap.size + 1) w.heap.size W (fun a' W' => Kp (w.heap.size + 2) W W' ∧ ∃ b, a' = a₁ x b ∧ M pre x b W')) (fun _ _ _ => False)) { tmps := (ps.zip (encs x)).foldl (fun t (p, v) => t.setIfInBounds p v) a.tmps, defers := [] } W)
    (hbody : ∀ (pre : List α) (x : α) (b : Nat) (W : World), M pre x b W → pre.length < N → Sp (pre ++ [x]) → w.heap.size + 1 < W.heap.size → (∀ cs t fr, W.heap[w.heap.size]? ≠ some (.cells cs t fr)) → (∀ cs t fr, W.heap[w.heap.size + 1]? ≠ some (.cells cs t fr)) →
      body.wpIn (Fence.wide.inRound (w.heap.size + 1)) (n - 1 - 1) P (end14 (w.heap.size + 1) w.heap.size W (fun W' => Kp (w.heap.size + 2) W W' ∧ I (pre ++ [x]) W') (fun W' => Kx (w.heap.size + 2) W W' ∧ X (pre ++ [x]) W')) (a₁ x b) W)
    (hdone : ∀ (xs : List α) (W : World), S xs → I xs W → W.heap[w.heap.size]? = some (.deferred (some [])) → Q .normal { a with defers := { target := .collected w.heap.size, args := #[] } :: a.defers } W)
    (hstop : ∀ (pre : List α) (W : World), Sp pre → X pre W → W.heap[w.heap.size]? = some (.deferred (some [])) → Code.ret.wpIn Fence.wide n P Q { a with defers := { target := .collected w.heap.size, args := #[] } :: a.defers } W) :
    (Code.rangeFunc g ps assign body).wpIn Fence.wide n P Q a w := by
  refine wpIn_rangeFunc fun fn hfn => ?_
  rw [show Fence.wide.round = none from rfl]
  obtain ⟨l, hl⟩ : ∃ l, l = w.heap.size + 1 := ⟨_, rfl⟩
  obtain ⟨W1, hW1⟩ : ∃ W1, (w.alloc (.deferred (some []))).alloc (.loop (rec14 fn a.tmps ps assign body w.heap.size .ready none)) = W1 := ⟨_, rfl⟩
  have b1 : Below w.heap.size w W1 := by rw [← hW1]; exact ((Below.refl _ w).alloc (Nat.le_refl _) _).alloc (by simp) _
  have z1 : W1.heap.size = w.heap.size + 2 := by rw [← hW1]; simp
  have rl : W1.heap[l]? = some (.loop (rec14 fn a.tmps ps assign body w.heap.size .ready none)) := by
    rw [← hW1, hl]
    have := World.alloc_heap_new (w.alloc (.deferred (some []))) (.loop (rec14 fn a.tmps ps assign body w.heap.size .ready none))
    rwa [World.size_alloc] at this
  have rd : W1.heap[w.heap.size]? = some (.deferred (some [])) := by
    rw [← hW1]
    exact (Below.heap_alloc _ _ _ (by simp)).trans (World.alloc_heap_new w _)
  refine ⟨l, [{ target := .collected w.heap.size, args := #[] }], W1, { target := .fn (.func gf) lb, args := #[.func (.yield l) #[] #[]] }, W1, gf, #[.func (.yield l) #[] #[]] ++ lb, W1, ?_, ?_, ?_, ?_, fun _ => h1, ?_⟩
  · rw [hl, ← hW1]
    exact run_enterLoop_outer _ _ _ _ _
  · simp only [resolve, hg]
    simp [go_sem]
  · intro f' _
    exact trivial
  · simp [invoke, go_sem, eg]
  have put : ∀ {A : World} {r : Loop} (o : Obj), A.heap[l]? = some (.loop r) → Tch w.heap.size [] A (A.putObj l o) := fun o h => tch_put14 o h (by omega)
  have hq := hseq W1 b1 z1
  unfold Seq14 at hq
  rw [z1] at hq
  refine (hq l (fun pre W => I pre W ∧ W.heap[l]? = some (.loop (rec14 fn a.tmps ps assign body w.heap.size .ready none)) ∧ W.heap[w.heap.size]? = some (.deferred (some [])))
    (fun pre W => X pre W ∧ W.heap[l]? = some (.loop (rec14 fn a.tmps ps assign body w.heap.size .done (some .ret))) ∧ W.heap[w.heap.size]? = some (.deferred (some []))) ?_ ?_ ?_ ⟨hI _ _ _ h0 (Tch.of_below b1 (Nat.le_refl _) _), rl, rd⟩).mono ?_
  · rintro pre A A' ⟨h2, h3, h4⟩ hs
    exact ⟨hIs _ _ _ h2 hs, ((hSt hs).block l (by omega)).trans h3, ((hSt hs).block _ (by omega)).trans h4⟩
  · rintro pre A A' ⟨h2, h3, h4⟩ hs
    exact ⟨hXs _ _ _ h2 hs, ((hSt hs).block l (by omega)).trans h3, ((hSt hs).block _ (by omega)).trans h4⟩
  · rintro pre x W ⟨h2, h3, h4⟩ hpn hsp hx hzW
    have s3 := (Array.getElem?_eq_some_iff.1 h3).1
    rw [hl] at h3
    have hR := round14 (n := n - 1 - 1) (P := P) (xv := encs x) (D := w.heap.size) (by omega) hfn (hps x) h3 (M := fun a' W' => Kp (w.heap.size + 2) W W' ∧ ∃ b, a' = a₁ x b ∧ M pre x b W')
      (G := fun W' => Kp (w.heap.size + 2) W W' ∧ I (pre ++ [x]) W') (Y := fun W' => Kx (w.heap.size + 2) W W' ∧ X (pre ++ [x]) W') (hassign pre x W h2 hx hpn (by omega)) ?_
    · obtain ⟨fn', tm', as', bo', hy, hR'⟩ := hR
      rw [hl]
      refine ⟨fn', tm', as', bo', hy, hR'.mono ?_⟩
      rw [hl] at put
      rintro e W' (⟨rfl, W3, ⟨g1, g2⟩, rfl, g3, g4⟩ | ⟨rfl, W3, ⟨g0, g1⟩, rfl, g3, g4⟩)
      · have T3 := put (.loop (rec14 fn a.tmps ps assign body w.heap.size .ready none)) g3
        have s5 := (Array.getElem?_eq_some_iff.1 g3).1
        exact .inl ⟨rfl, ⟨hI _ _ _ g2 T3, World.putObj_heap_same s5, (World.putObj_heap_other (by omega)).trans (g4.trans h4)⟩, hKt g1 (hKb _ g3)⟩
      · have T3 := put (.loop (rec14 fn a.tmps ps assign body w.heap.size .done (some .ret))) g3
        have s5 := (Array.getElem?_eq_some_iff.1 g3).1
        exact .inr ⟨rfl, ⟨hX _ _ _ g1 T3, World.putObj_heap_same s5, (World.putObj_heap_other (by omega)).trans (g4.trans h4)⟩, hKy _ g0 g3⟩
    · rintro _ W' hl' hd' ⟨m1, b, rfl, m3⟩
      rw [hl] at put
      have T := put (.loop (rec14 fn a.tmps ps assign body w.heap.size .busy none)) hl'
      have s5 := (Array.getElem?_eq_some_iff.1 hl').1
      have d2 : (W'.putObj (w.heap.size + 1) (.loop (rec14 fn a.tmps ps assign body w.heap.size .busy none))).heap[w.heap.size]? = some (.deferred (some [])) := (World.putObj_heap_other (by omega)).trans (hd'.trans h4)
      have d3 : (W'.putObj (w.heap.size + 1) (.loop (rec14 fn a.tmps ps assign body w.heap.size .busy none))).heap[w.heap.size + 1]? = some (.loop (rec14 fn a.tmps ps assign body w.heap.size .busy none)) := World.putObj_heap_same s5
      refine wpIn_mono (hbody pre x b (W'.putObj (w.heap.size + 1) (.loop (rec14 fn a.tmps ps assign body w.heap.size .busy none))) (hM _ _ _ _ _ m3 T) hpn hsp (by rw [World.putObj_size]; omega) (fun cs t fr e => by rw [d2] at e; cases e) (fun cs t fr e => by rw [d3] at e; cases e)) ?_
      intro e a3 W3 hp
      cases e with
      | normal => exact ⟨hp.1, hKt m1 (hKt (hKb _ hl') hp.2.1), hp.2.2⟩
      | ret => exact ⟨hp.1, hKx m1 (hKx (hKb _ hl') hp.2.1), hp.2.2⟩
      | _ => exact hp.elim
  · rintro e W2 ⟨⟨v, rfl⟩, (⟨xs, hs, hi, g3, g4⟩ | ⟨pre, hp, hx, g3, g4⟩)⟩
    · have T3 := put (.loop (rec14 fn a.tmps ps assign body w.heap.size .exhausted none)) g3
      exact ⟨none, _, run_endLoop g3 (by simp), hdone xs _ hs (hI _ _ _ hi T3) ((World.putObj_heap_other (by omega)).trans g4)⟩
    · have T3 := put (.loop (rec14 fn a.tmps ps assign body w.heap.size .exhausted (some .ret))) g3
      exact ⟨some .ret, _, run_endLoop g3 (by simp), hstop pre _ hp (hX _ _ _ hx T3) ((World.putObj_heap_other (by omega)).trans g4)⟩
end
section
open Go.RowKit Go.Lib
/-- No operation is a 'defer' statement. -/
def noDefer14 (ops : Array Oper) : Bool := ops.all fun o => match o.op with | .defer _ => false | _ => true
theorem noDefer_at14 {ops : Array Oper} (h : noDefer14 ops = true) {i : Nat} {o : Oper} (hi : ops[i]? = some o) (c : Call) : o.op ≠ .defer c := by
  intro e
  obtain ⟨h1, h2⟩ := Array.getElem?_eq_some_iff.1 hi
  have q := (Array.all_eq_true.1 h) i h1
  rw [h2, e] at q
  cases q

theorem rows_round14 {P : Program} {row : String} {args : Array Value} {w : World} {R : Value → World → Prop} {l n : Nat} (h : Rows P row args w R) : RowsIn (Fence.wide.inRound l) n P row args w R := fun c cs _ => by
  obtain ⟨v, w', r, s⟩ := h c cs
  exact ⟨v, w', r, stepsIn_wide.2 s⟩

theorem op_round14 {P : Program} {o : Oper} {a : Act} {w : World} {K : Act → World → Prop} {Q : Exit → Act → World → Prop} {l n : Nat} (hd : ∀ c, o.op ≠ .defer c) (h : o.wp P a w K Q) : o.wpIn (Fence.wide.inRound l) n P a w K Q := by
  refine ⟨fun _ _ => trivial, ?_⟩
  rw [Oper.semAt_eq _ _ _ hd]
  unfold Oper.wp at h
  generalize (execOp a.eval o).run P w = r at h ⊢
  cases r with
  | ok x w' =>
    cases x with
    | value v => exact h
    | skip => exact h
    | defer d => exact h
    | enter f args => exact ⟨fun e => (by cases e), CallsIn.inRound l (callsIn_wide.2 h)⟩
    | row row args => exact ⟨fun e => (by cases e), rows_round14 h⟩
    | _ => exact h.elim
  | halt x w' =>
    cases x with
    | panic v => exact h
    | _ => exact h.elim

theorem any_round14 {P : Program} {md : Region.Mode} {ops : Array Oper} {Q : Exit → Act → World → Prop} {l n : Nat} (hd : noDefer14 ops = true) (hQ : ¬ LetsOut Q) :
    ∀ (fuel : Nat) (listed : Array Bool) (a : Act) (w : World), wpAny P md ops Q fuel listed a w → wpAnyIn (Fence.wide.inRound l) n P md ops Q fuel listed a w
  | 0, _, _, _, h => h
  | fuel + 1, listed, a, w, h => ⟨h.1, fun i hi => by
    have q := h.2 i hi
    unfold wpOp at q
    unfold wpOpIn
    cases ho : ops[i]? with
    | none =>
      rw [ho] at q
      exact any_round14 hd hQ fuel _ _ _ q
    | some o =>
      rw [ho] at q
      dsimp only at q ⊢
      split at q
      · rename_i hw
        rw [if_pos hw]
        rcases q with q | q
        · exact Oper.wpIn_mono (fun a' w' z => any_round14 hd hQ fuel _ a' w' z) (op_round14 (noDefer_at14 hd ho) q)
        · exact absurd q.2 hQ
      · rename_i hw
        rw [if_neg hw]
        exact ⟨fun _ _ => trivial, any_round14 hd hQ fuel _ _ _ q⟩⟩

/-- As wp_region_held, in a round. -/
theorem region_round14 {P : Program} {ops : Array Oper} {Q : Exit → Act → World → Prop} {S : World → Prop} {l n id : Nat} {a : Act} {w : World} (hm : P.follows .mixedOrders = true) (hd : noDefer14 ops = true) (hQ : ¬ LetsOut Q)
    (h : wpAnyH P .any ops Q S ops.size (Array.replicate ops.size false) a { w with drawn := w.drawn + 1 }) : (Code.region id ops true).wpIn (Fence.wide.inRound l) n P Q a w :=
  wpIn_region_any hm (any_round14 hd hQ _ _ _ _ (wpAny_of_held _ _ _ _ h))

def ics (ns : List Nat) : List Value := ns.map fun (n : Nat) => Value.int .i64 (n : Int)
theorem ics_len (ns : List Nat) : (ics ns).length = ns.length := by simp [ics]
theorem ics_one (ns : List Nat) : ∀ u ∈ ics ns, u.oneCell' = true := by
  intro u hu
  obtain ⟨n, _, rfl⟩ := List.mem_map.1 hu
  rfl
theorem ics_app (a b : List Nat) : ics (a ++ b) = ics a ++ ics b := by simp [ics]
theorem ics_take (a : List Nat) (k : Nat) : (ics a).take k = ics (a.take k) := by simp [ics]
theorem ics_drop (a : List Nat) (k : Nat) : (ics a).drop k = ics (a.drop k) := by simp [ics]

/-- The end of a body with loops over functions, none of which panics. -/
def postM14 (P : Program) (fn : Func) (R : Ending → World → Prop) : Exit → Act → World → Prop
  | .normal, a, w | .ret, a, w => LeavesInM Fence.wide 9 P fn a.tmps R a.defers .returning w
  | _, _, _ => False
theorem calls_of_marks14 {P : Program} {f : FuncId} {fn : Func} {c : Code} {args : Array Value} {w : World} {R : Ending → World → Prop} (hf : P.funcs[f]? = some fn) (hb : fn.body = some c)
    (h : c.wp P (postM14 P fn R) { tmps := args ++ Array.replicate (fn.ntmps - args.size) undef, defers := [] } w) : Calls P f args w R :=
  (callsIn_wide (n := 9)).1 (callsIn_of_wp_marks hf hb trivial (wpIn_wide.2 (wp_mono h fun e _ _ hq => by
    cases e with
    | normal => exact hq
    | ret => exact hq
    | panic ch => exact hq.elim
    | exit id => exact hq.elim
    | goto l => exact hq.elim
    | outgrown => exact hq.elim)))
theorem cell14 {w : World} {g : Nat} {a : Value} {t : TypeId} {fr : Nat × Nat} (h : w.heap[g]? = some (.cells #[a] t fr)) : w.cell? ⟨g, 0, none⟩ = some a := by simp [World.cell?, h]
/-- What is no cells lies as it lay behind an append. -/
theorem keep14 {W W1 : World} {o : Obj} {base : Nat} {e : TypeId} {size n : Nat} {v : Value} {xs : List Value} {k : Nat} (hnc : ∀ cs t fr, W.heap[k]? ≠ some (.cells cs t fr)) (hk : k < W.heap.size) (hrow : W.ownsRow base e size v n xs) (hg : (W.alloc o).grownBy W1 v.ownBlock) : W1.heap[k]? = W.heap[k]? := by
  refine (hg.block k (by simp; omega) (fun q => ?_)).trans (Below.heap_alloc W o k hk)
  obtain ⟨_, cs, fr, r⟩ := own_row hrow k q.symm
  exact hnc _ _ _ r
end
end Go.Proofs.Ytmcfknnfaokmlaa
