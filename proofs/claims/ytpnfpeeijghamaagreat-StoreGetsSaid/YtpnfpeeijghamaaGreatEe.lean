/- Stage 8: a range over a function whose rounds are told what lies in memory. Stage 8: the library's maps.Keys, slices.Sorted, slices.Sort and maps.Clone, laid over this program (plain words, by lay-plain.mjs and laytpl.py). Stage 8: a map of values by keys in memory. The keys in their order. -/
import Derived.RangeFuncNested
import Derived.RangeFuncBound
import Derived.RangeFuncCalls
import Derived.RangeFuncLeaves
import Derived.RangeFuncWrites
import Derived.RangeFuncBox
import Derived.Shelf.Abstract
import Derived.Shelf.RegionOpen
import Derived.WalkKit
import Derived.OwnWalkIn
import Derived.TacticsInMore
import Derived.LoopNIn
import Derived.LoopIn
import Derived.Test.YtpnfpeeijghamaaGreatEb
import Derived.Shelf.SlIter.Nil
import Derived.Shelf.SortM.Plain
import Derived.Shelf.SortM.SortNone
import Derived.Shelf.SlMaps.Clone
import Derived.Ground.GgzProg
import Derived.Ground.SlgmProg
import Derived.Ground.SlmcProg
import Derived.Test.YtpnfpeeijghamaaGreatProg
import Derived.Test.YtpnfpeeijghamaaGreatMm
import Derived.Maps.OwnIn
namespace Go.Proofs.YtpnfpeeijghamaaGreat
set_option maxRecDepth 100000

section
open Go.RowKit Go.Shelf

section
variable {F : Fence} {n : Nat} {P : Program} {α : Type}

/-- How a round's body may be left: the loop's record and the block of deferred calls as they were. -/
def endR (l D : Nat) (W0 : World) (G : World → Prop) (Y : Code → World → Prop) : Exit → Act → World → Prop
  | .normal, _, W => (W.heap[l]? = W0.heap[l]? ∧ W.heap[D]? = W0.heap[D]?) ∧ G W
  | .ret, _, W => (W.heap[l]? = W0.heap[l]? ∧ W.heap[D]? = W0.heap[D]?) ∧ Y .ret W
  | .exit id, _, W => (W.heap[l]? = W0.heap[l]? ∧ W.heap[D]? = W0.heap[D]?) ∧ Y (.exit id) W
  | .goto t, _, W => (W.heap[l]? = W0.heap[l]? ∧ W.heap[D]? = W0.heap[D]?) ∧ Y (.goto t) W
  | .panic _, _, _ => False
  | .outgrown, _, _ => False

/-- The loop's record while the loop is at work. -/
abbrev recOf (fn : FuncId) (tm : Array Value) (ps : Array Tmp) (assign body : Code) (D : Nat) (st : LoopState) (pe : Option Code) : Loop :=
  { state := st, pending := pe, fn := fn, tmps := tm, params := ps, assign := assign, body := body, defers := D }

/-- One round. -/
theorem round_m {ps : Array Tmp} {assign body : Code} {tm xv : Array Value} {fn : FuncId} {l D : Nat} (hlD : D ≠ l) (hfn : F.fn fn) (hxs : xv.size = ps.size) {W : World}
    (hl : W.heap[l]? = some (.loop (recOf fn tm ps assign body D .ready none))) {a1 : Act}
    (hassign : ∀ K : Act → World → Prop, K a1 W → assign.wpIn (F.inRound l) n P (Exit.then K (fun _ _ _ => False)) { tmps := (ps.zip xv).foldl (fun t (p, v) => t.setIfInBounds p v) tm, defers := [] } W)
    {G : World → Prop} {Y : Code → World → Prop}
    (hbody : body.wpIn (F.inRound l) n P (endR l D (W.putObj l (.loop (recOf fn tm ps assign body D .busy none))) G Y) a1 (W.putObj l (.loop (recOf fn tm ps assign body D .busy none)))) :
    YieldAt F n P l xv W fun e W' =>
      (e = .returned (.bool true) ∧ ∃ W3, G W3 ∧ W' = W3.putObj l (.loop (recOf fn tm ps assign body D .ready none)) ∧ W3.heap[l]? = some (.loop (recOf fn tm ps assign body D .busy none)) ∧ W3.heap[D]? = W.heap[D]?) ∨
      (e = .returned (.bool false) ∧ ∃ c W3, Y c W3 ∧ W' = W3.putObj l (.loop (recOf fn tm ps assign body D .done (some c))) ∧ W3.heap[l]? = some (.loop (recOf fn tm ps assign body D .busy none)) ∧ W3.heap[D]? = W.heap[D]?) := by
  have hb : (W.putObj l (.loop (recOf fn tm ps assign body D .busy none))).heap[l]? = some (.loop (recOf fn tm ps assign body D .busy none)) := World.putObj_heap_same (Array.getElem?_eq_some_iff.1 hl).1
  have hd : (W.putObj l (.loop (recOf fn tm ps assign body D .busy none))).heap[D]? = W.heap[D]? := World.putObj_heap_other hlD
  refine ⟨fn, _, assign, body, run_yield hl hxs, roundIn_of_wpIn hfn (hassign _ ⟨_, run_beginRound hl rfl, wpIn_mono hbody ?_⟩)⟩
  intro e a3 W3 hp
  have done : ∀ (c : Code), (W3.heap[l]? = (W.putObj l (.loop (recOf fn tm ps assign body D .busy none))).heap[l]? ∧ W3.heap[D]? = (W.putObj l (.loop (recOf fn tm ps assign body D .busy none))).heap[D]?) ∧ Y c W3 →
      ∃ v w', (Instr.endRound l (some c)).run P W3 = .ok v w' ∧ ((Ending.returned v = .returned (.bool true) ∧ ∃ W4, G W4 ∧ w' = W4.putObj l (.loop (recOf fn tm ps assign body D .ready none)) ∧ W4.heap[l]? = some (.loop (recOf fn tm ps assign body D .busy none)) ∧ W4.heap[D]? = W.heap[D]?) ∨
        (Ending.returned v = .returned (.bool false) ∧ ∃ c W4, Y c W4 ∧ w' = W4.putObj l (.loop (recOf fn tm ps assign body D .done (some c))) ∧ W4.heap[l]? = some (.loop (recOf fn tm ps assign body D .busy none)) ∧ W4.heap[D]? = W.heap[D]?)) := by
    rintro c ⟨⟨h1, h2⟩, h3⟩
    have q := h1.trans hb
    exact ⟨_, _, run_endRound (some c) q, .inr ⟨rfl, c, W3, h3, rfl, q, h2.trans hd⟩⟩
  cases e with
  | normal =>
    obtain ⟨⟨h1, h2⟩, h3⟩ := hp
    have q := h1.trans hb
    exact ⟨_, _, run_endRound none q, .inl ⟨rfl, W3, h3, rfl, q, h2.trans hd⟩⟩
  | ret => exact done _ hp
  | exit id => exact done _ hp
  | goto t => exact done _ hp
  | panic ch => exact hp.elim
  | outgrown => exact hp.elim

theorem tch_put {B : Nat} {W : World} {l : Nat} {r : Loop} (o : Obj) (hl : W.heap[l]? = some (.loop r)) (hB : B ≤ l) : Tch B [] W (W.putObj l o) :=
  ⟨⟨rfl, rfl, rfl, by simp, fun k hk => World.putObj_heap_other (by omega)⟩, fun k cs t fr hk _ => World.putObj_heap_other (fun e => by subst e; rw [hl] at hk; cases hk)⟩

/-- What a function that is ranged over keeps: each value that it hands on comes with what Pre says of memory; at its end S. -/
def SeqM (F : Fence) (n : Nat) (P : Program) (g : Nat) (lb : Array Value) (encs : α → Array Value) (Pre : α → World → Prop) (B : Nat) (ts : List TypeId) (S : List α → World → Prop) (N : Nat) (w : World) : Prop :=
  ∀ (l : Nat) (J Jx : List α → World → Prop) (W : World), Below w.heap.size w W → (∀ pre A A', J pre A → Below A.heap.size A A' → J pre A') →
    (∀ pre x W1, J pre W1 → pre.length < N → Pre x W1 → YieldAt F (n - 1) P l (encs x) W1 fun e W' => (e = .returned (.bool true) ∧ J (pre ++ [x]) W' ∧ Tch B ts W1 W') ∨ (e = .returned (.bool false) ∧ Jx (pre ++ [x]) W')) →
    J [] W →
    CallsIn F n P g (#[.func (.yield l) #[] #[]] ++ lb) W fun e W' => (∃ v, e = .returned v) ∧ ((∃ xs, S xs W' ∧ J xs W') ∨ (∃ pre, Jx pre W'))

/-- The statement. B: from there on lies what the body may write, blocks of the element types ts alone. -/
theorem range_m {g : Operand} {ps : Array Tmp} {assign body : Code} {Q : Exit → Act → World → Prop} {a : Act} {w : World} (hro : F.round = none) (h1 : 1 ≤ n)
    {gf : Nat} {lb : Array Value} (hg : a.eval g = .func (.func gf) #[] lb) (hFg : F.fn gf) (eg : ∀ args w, (callFunc gf args).run P w = .ok (.enter gf args) w)
    {encs : α → Array Value} {Pre : α → World → Prop} {B : Nat} {ts : List TypeId} {S : List α → World → Prop} {N : Nat} (hseq : SeqM F (n - 1) P gf lb encs Pre B ts S N w) (hps : ∀ x, (encs x).size = ps.size) (hB : B ≤ w.heap.size)
    (I : List α → World → Prop) (X : Code → List α → World → Prop)
    (hI : ∀ pre A A', I pre A → Tch w.heap.size [] A A' → I pre A') (hX : ∀ c pre A A', X c pre A → Tch w.heap.size [] A A' → X c pre A')
    (hP : ∀ x A A', Pre x A → Tch w.heap.size [] A A' → Pre x A') (hS : ∀ xs A A', S xs A → Tch w.heap.size [] A A' → S xs A')
    (h0 : I [] w) (a₁ : α → Act)
    (hassign : ∀ (l : Nat) (x : α) (W : World) (K : Act → World → Prop), K (a₁ x) W →
      assign.wpIn (F.inRound l) (n - 1 - 1) P (Exit.then K (fun _ _ _ => False)) { tmps := (ps.zip (encs x)).foldl (fun t (p, v) => t.setIfInBounds p v) a.tmps, defers := [] } W)
    (hbody : ∀ (pre : List α) (x : α) (W : World), I pre W → pre.length < N → Pre x W → w.heap.size + 1 < W.heap.size → (∀ cs t fr, W.heap[w.heap.size]? ≠ some (.cells cs t fr)) → (∀ cs t fr, W.heap[w.heap.size + 1]? ≠ some (.cells cs t fr)) →
      body.wpIn (F.inRound (w.heap.size + 1)) (n - 1 - 1) P (endR (w.heap.size + 1) w.heap.size W (fun W' => Tch B ts W W' ∧ I (pre ++ [x]) W') (fun c W' => X c (pre ++ [x]) W')) (a₁ x) W)
    (hdone : ∀ (xs : List α) (W : World), S xs W → I xs W → W.heap[w.heap.size]? = some (.deferred (some [])) → Q .normal { a with defers := { target := .collected w.heap.size, args := #[] } :: a.defers } W)
    (hstop : ∀ (c : Code) (pre : List α) (W : World), X c pre W → W.heap[w.heap.size]? = some (.deferred (some [])) → c.wpIn F n P Q { a with defers := { target := .collected w.heap.size, args := #[] } :: a.defers } W) :
    (Code.rangeFunc g ps assign body).wpIn F n P Q a w := by
  refine wpIn_rangeFunc fun fn hfn => ?_
  rw [hro]
  obtain ⟨l, hl⟩ : ∃ l, l = w.heap.size + 1 := ⟨_, rfl⟩
  obtain ⟨W1, hW1⟩ : ∃ W1, (w.alloc (.deferred (some []))).alloc (.loop (recOf fn a.tmps ps assign body w.heap.size .ready none)) = W1 := ⟨_, rfl⟩
  have b1 : Below w.heap.size w W1 := by rw [← hW1]; exact ((Below.refl _ w).alloc (Nat.le_refl _) _).alloc (by simp) _
  have rl : W1.heap[l]? = some (.loop (recOf fn a.tmps ps assign body w.heap.size .ready none)) := by
    rw [← hW1, hl]
    have := World.alloc_heap_new (w.alloc (.deferred (some []))) (.loop (recOf fn a.tmps ps assign body w.heap.size .ready none))
    rwa [World.size_alloc] at this
  have rd : W1.heap[w.heap.size]? = some (.deferred (some [])) := by
    rw [← hW1]
    exact (Below.heap_alloc _ _ _ (by simp)).trans (World.alloc_heap_new w _)
  refine ⟨l, [{ target := .collected w.heap.size, args := #[] }], W1, { target := .fn (.func gf) lb, args := #[.func (.yield l) #[] #[]] }, W1, gf, #[.func (.yield l) #[] #[]] ++ lb, W1, ?_, ?_, ?_, ?_, fun _ => h1, ?_⟩
  · rw [hl, ← hW1]
    exact run_enterLoop_outer _ _ _ _ _
  · simp only [resolve, hg]
    simp [go_sem]
  · intro f' hf'
    simp [Target.leads] at hf'
    subst hf'
    exact hFg
  · simp [invoke, go_sem, eg]
  have put : ∀ {A : World} {r : Loop} (o : Obj), A.heap[l]? = some (.loop r) → Tch w.heap.size [] A (A.putObj l o) := fun o h => tch_put o h (by omega)
  refine (hseq l (fun pre W => I pre W ∧ W.heap[l]? = some (.loop (recOf fn a.tmps ps assign body w.heap.size .ready none)) ∧ W.heap[w.heap.size]? = some (.deferred (some [])))
    (fun pre W => ∃ c, X c pre W ∧ W.heap[l]? = some (.loop (recOf fn a.tmps ps assign body w.heap.size .done (some c))) ∧ W.heap[w.heap.size]? = some (.deferred (some []))) W1 b1 ?_ ?_ ⟨hI _ _ _ h0 (Tch.of_below b1 (Nat.le_refl _) _), rl, rd⟩).mono ?_
  · rintro pre A A' ⟨h2, h3, h4⟩ hb
    have s4 := (Array.getElem?_eq_some_iff.1 h4).1
    exact ⟨hI _ _ _ h2 (Tch.of_below hb (by omega) _), (hb.block _ (Array.getElem?_eq_some_iff.1 h3).1).trans h3, (hb.block _ s4).trans h4⟩
  · rintro pre x W ⟨h2, h3, h4⟩ hpn hx
    have s3 := (Array.getElem?_eq_some_iff.1 h3).1
    have T := put (.loop (recOf fn a.tmps ps assign body w.heap.size .busy none)) h3
    have d2 : (W.putObj l (.loop (recOf fn a.tmps ps assign body w.heap.size .busy none))).heap[w.heap.size]? = some (.deferred (some [])) := (World.putObj_heap_other (by omega)).trans h4
    have d3 : (W.putObj l (.loop (recOf fn a.tmps ps assign body w.heap.size .busy none))).heap[l]? = some (.loop (recOf fn a.tmps ps assign body w.heap.size .busy none)) := World.putObj_heap_same s3
    have hb := hbody pre x (W.putObj l (.loop (recOf fn a.tmps ps assign body w.heap.size .busy none))) (hI _ _ _ h2 T) hpn (hP _ _ _ hx T) (by rw [World.putObj_size]; omega) (fun cs t fr e => by rw [d2] at e; cases e) (fun cs t fr e => by rw [← hl, d3] at e; cases e)
    rw [← hl] at hb
    obtain ⟨fn', tm', as', bo', hy, hR⟩ := round_m (by omega) hfn (hps x) h3 (fun K hK => hassign l x W K hK) hb
    refine ⟨fn', tm', as', bo', hy, hR.mono ?_⟩
    rintro e W' (⟨rfl, W3, ⟨g1, g2⟩, rfl, g3, g4⟩ | ⟨rfl, c, W3, g1, rfl, g3, g4⟩)
    · have T3 := put (.loop (recOf fn a.tmps ps assign body w.heap.size .ready none)) g3
      have s5 := (Array.getElem?_eq_some_iff.1 g3).1
      exact .inl ⟨rfl, ⟨hI _ _ _ g2 T3, World.putObj_heap_same s5, (World.putObj_heap_other (by omega)).trans (g4.trans h4)⟩, ((T.mono hB).more (by simp)).trans (g1.trans ((T3.mono hB).more (by simp)))⟩
    · have T3 := put (.loop (recOf fn a.tmps ps assign body w.heap.size .done (some c))) g3
      have s5 := (Array.getElem?_eq_some_iff.1 g3).1
      exact .inr ⟨rfl, c, hX _ _ _ _ g1 T3, World.putObj_heap_same s5, (World.putObj_heap_other (by omega)).trans (g4.trans h4)⟩
  · rintro e W2 ⟨⟨v, rfl⟩, (⟨xs, hs, hi, g3, g4⟩ | ⟨pre, c, hx, g3, g4⟩)⟩
    · have T3 := put (.loop (recOf fn a.tmps ps assign body w.heap.size .exhausted none)) g3
      exact ⟨none, _, run_endLoop g3 (by simp), hdone xs _ (hS _ _ _ hs T3) (hI _ _ _ hi T3) ((World.putObj_heap_other (by omega)).trans g4)⟩
    · have T3 := put (.loop (recOf fn a.tmps ps assign body w.heap.size .exhausted (some c))) g3
      exact ⟨some c, _, run_endLoop g3 (by simp), hstop c pre _ (hX _ _ _ _ hx T3) ((World.putObj_heap_other (by omega)).trans g4)⟩
end
end

section
open Go.Shelf
def Tryz.keysA_ren : Go.Shelf.Ren := ⟨fun | 7 => 80 | 10 => 100 | n => n, fun | 23 => 87 | 26 => 9 | 3 => 23 | 28 => 132 | 0 => 0 | 27 => 131 | 33 => 153 | 4 => 4 | n => n, fun | n => n⟩
theorem Tryz.keysA : Go.Proofs.SlLaysZ.n7 Tryz.prog Tryz.keysA_ren := {
  mixed := by kernel_rfl
  f7 := ⟨Tryz.f80.name, by decide, Tryz.func80.trans (congrArg some (by kernel_rfl))⟩
  f10 := ⟨Tryz.f100.name, by decide, Tryz.func100.trans (congrArg some (by kernel_rfl))⟩
  t0 := Tryz.underlying0
  a0 := Tryz.isAgg0
  z0 := Tryz.sizeOf0
  v0 := Tryz.zeroValue0
  t4 := Tryz.underlying4
  a4 := Tryz.isAgg4
  z4 := Tryz.sizeOf4
  v4 := Tryz.zeroValue4
  t23 := Tryz.underlying87
  a23 := Tryz.isAgg87
  z23 := Tryz.sizeOf87
  v23 := Tryz.zeroValue87
  t26 := Tryz.underlying9
  a26 := Tryz.isAgg9
  z26 := Tryz.sizeOf9
  v26 := Tryz.zeroValue9
  t27 := Tryz.underlying131
  a27 := Tryz.isAgg131
  z27 := Tryz.sizeOf131
  v27 := Tryz.zeroValue131
  t28 := Tryz.underlying132
  a28 := Tryz.isAgg132
  z28 := Tryz.sizeOf132
  v28 := Tryz.zeroValue132
  t33 := Tryz.underlying153
  a33 := Tryz.isAgg153
  z33 := Tryz.sizeOf153
  v33 := Tryz.zeroValue153 }
def Tryz.sortedA_ren : Go.Shelf.Ren := ⟨fun | 6 => 79 | 8 => 98 | 9 => 99 | 11 => 113 | 13 => 115 | 12 => 114 | 23 => 131 | 24 => 82 | 14 => 122 | 15 => 123 | 16 => 124 | 17 => 125 | 18 => 126 | 19 => 127 | 20 => 128 | 21 => 129 | 22 => 130 | 25 => 133 | 26 => 134 | 27 => 135 | 28 => 136 | 29 => 137 | 30 => 138 | 31 => 140 | n => n, fun | 26 => 9 | 28 => 132 | 24 => 129 | 0 => 0 | 3 => 3 | 37 => 135 | 48 => 163 | 50 => 62 | 4 => 4 | 40 => 168 | 39 => 167 | 45 => 172 | 5 => 5 | 9 => 9 | 51 => 176 | 55 => 180 | 57 => 183 | 58 => 184 | 33 => 153 | n => n, fun | n => n⟩
theorem Tryz.sortedA : Go.Proofs.SlLaysZ.n6 Tryz.prog Tryz.sortedA_ren := {
  mixed := by kernel_rfl
  f6 := ⟨Tryz.f79.name, by decide, Tryz.func79.trans (congrArg some (by kernel_rfl))⟩
  f8 := ⟨Tryz.f98.name, by decide, Tryz.func98.trans (congrArg some (by kernel_rfl))⟩
  f11 := ⟨Tryz.f113.name, by decide, Tryz.func113.trans (congrArg some (by kernel_rfl))⟩
  t0 := Tryz.underlying0
  a0 := Tryz.isAgg0
  z0 := Tryz.sizeOf0
  v0 := Tryz.zeroValue0
  t24 := Tryz.underlying129
  a24 := Tryz.isAgg129
  z24 := Tryz.sizeOf129
  v24 := Tryz.zeroValue129
  t26 := Tryz.underlying9
  a26 := Tryz.isAgg9
  z26 := Tryz.sizeOf9
  v26 := Tryz.zeroValue9
  t28 := Tryz.underlying132
  a28 := Tryz.isAgg132
  z28 := Tryz.sizeOf132
  v28 := Tryz.zeroValue132
  i26 := by kernel_rfl }
def Tryz.sortA_ren : Go.Shelf.Ren := ⟨fun | 6 => 99 | 8 => 115 | 9 => 114 | 19 => 131 | 20 => 82 | 21 => 122 | 22 => 123 | 23 => 124 | 24 => 125 | 25 => 126 | 26 => 127 | 27 => 128 | 28 => 129 | 29 => 130 | 36 => 133 | 31 => 134 | 32 => 135 | 37 => 136 | 38 => 137 | 39 => 138 | 41 => 140 | n => n, fun | 27 => 129 | 29 => 9 | 3 => 3 | 32 => 135 | 26 => 129 | 0 => 0 | 44 => 163 | 46 => 62 | 4 => 4 | 36 => 168 | 35 => 167 | 41 => 172 | 5 => 5 | 9 => 9 | 53 => 176 | 57 => 180 | 63 => 183 | 64 => 184 | n => n, fun | n => n⟩
theorem Tryz.sortA : Go.Proofs.SlLaysM.n6 Tryz.prog Tryz.sortA_ren := {
  mixed := by kernel_rfl
  f6 := ⟨Tryz.f99.name, by decide, Tryz.func99.trans (congrArg some (by kernel_rfl))⟩
  f8 := Tryz.func115.trans (congrArg some (by kernel_rfl))
  f9 := ⟨Tryz.f114.name, by decide, Tryz.func114.trans (congrArg some (by kernel_rfl))⟩
  f19 := Tryz.func131.trans (congrArg some (by kernel_rfl))
  f20 := Tryz.func82.trans (congrArg some (by kernel_rfl))
  f21 := ⟨Tryz.f122.name, by decide, Tryz.func122.trans (congrArg some (by kernel_rfl))⟩
  f22 := ⟨Tryz.f123.name, by decide, Tryz.func123.trans (congrArg some (by kernel_rfl))⟩
  f23 := ⟨Tryz.f124.name, by decide, Tryz.func124.trans (congrArg some (by kernel_rfl))⟩
  f24 := ⟨Tryz.f125.name, by decide, Tryz.func125.trans (congrArg some (by kernel_rfl))⟩
  f25 := ⟨Tryz.f126.name, by decide, Tryz.func126.trans (congrArg some (by kernel_rfl))⟩
  f26 := ⟨Tryz.f127.name, by decide, Tryz.func127.trans (congrArg some (by kernel_rfl))⟩
  f27 := ⟨Tryz.f128.name, by decide, Tryz.func128.trans (congrArg some (by kernel_rfl))⟩
  f28 := ⟨Tryz.f129.name, by decide, Tryz.func129.trans (congrArg some (by kernel_rfl))⟩
  f29 := ⟨Tryz.f130.name, by decide, Tryz.func130.trans (congrArg some (by kernel_rfl))⟩
  f31 := Tryz.func134.trans (congrArg some (by kernel_rfl))
  f32 := Tryz.func135.trans (congrArg some (by kernel_rfl))
  f36 := ⟨Tryz.f133.name, by decide, Tryz.func133.trans (congrArg some (by kernel_rfl))⟩
  f37 := ⟨Tryz.f136.name, by decide, Tryz.func136.trans (congrArg some (by kernel_rfl))⟩
  f38 := ⟨Tryz.f137.name, by decide, Tryz.func137.trans (congrArg some (by kernel_rfl))⟩
  f39 := ⟨Tryz.f138.name, by decide, Tryz.func138.trans (congrArg some (by kernel_rfl))⟩
  f41 := ⟨Tryz.f140.name, by decide, Tryz.func140.trans (congrArg some (by kernel_rfl))⟩
  t0 := Tryz.underlying0
  a0 := Tryz.isAgg0
  z0 := Tryz.sizeOf0
  v0 := Tryz.zeroValue0
  t3 := Tryz.underlying3
  a3 := Tryz.isAgg3
  z3 := Tryz.sizeOf3
  v3 := Tryz.zeroValue3
  t4 := Tryz.underlying4
  a4 := Tryz.isAgg4
  z4 := Tryz.sizeOf4
  v4 := Tryz.zeroValue4
  t5 := Tryz.underlying5
  a5 := Tryz.isAgg5
  z5 := Tryz.sizeOf5
  v5 := Tryz.zeroValue5
  t9 := Tryz.underlying9
  a9 := Tryz.isAgg9
  z9 := Tryz.sizeOf9
  v9 := Tryz.zeroValue9
  t26 := Tryz.underlying129
  a26 := Tryz.isAgg129
  z26 := Tryz.sizeOf129
  v26 := Tryz.zeroValue129
  t27 := Tryz.underlying129
  a27 := Tryz.isAgg129
  z27 := Tryz.sizeOf129
  v27 := Tryz.zeroValue129
  t29 := Tryz.underlying9
  a29 := Tryz.isAgg9
  z29 := Tryz.sizeOf9
  v29 := Tryz.zeroValue9
  t32 := Tryz.underlying135
  a32 := Tryz.isAgg135
  z32 := Tryz.sizeOf135
  v32 := Tryz.zeroValue135
  t35 := Tryz.underlying167
  a35 := Tryz.isAgg167
  z35 := Tryz.sizeOf167
  v35 := Tryz.zeroValue167
  t36 := Tryz.underlying168
  a36 := Tryz.isAgg168
  z36 := Tryz.sizeOf168
  v36 := Tryz.zeroValue168
  t41 := Tryz.underlying172
  a41 := Tryz.isAgg172
  z41 := Tryz.sizeOf172
  v41 := Tryz.zeroValue172
  t44 := Tryz.underlying163
  a44 := Tryz.isAgg163
  z44 := Tryz.sizeOf163
  v44 := Tryz.zeroValue163
  t46 := Tryz.underlying62
  a46 := Tryz.isAgg62
  z46 := Tryz.sizeOf62
  v46 := Tryz.zeroValue62
  t53 := Tryz.underlying176
  a53 := Tryz.isAgg176
  z53 := Tryz.sizeOf176
  v53 := Tryz.zeroValue176
  t57 := Tryz.underlying180
  a57 := Tryz.isAgg180
  z57 := Tryz.sizeOf180
  v57 := Tryz.zeroValue180
  t63 := Tryz.underlying183
  a63 := Tryz.isAgg183
  z63 := Tryz.sizeOf183
  v63 := Tryz.zeroValue183
  t64 := Tryz.underlying184
  a64 := Tryz.isAgg184
  z64 := Tryz.sizeOf184
  v64 := Tryz.zeroValue184 }
def Tryz.cloneA_ren : Go.Shelf.Ren := ⟨fun | 5 => 46 | 7 => 75 | n => n, fun | 23 => 87 | 25 => 9 | 3 => 23 | 4 => 4 | 20 => 20 | n => n, fun | n => n⟩
theorem Tryz.cloneA : Go.Proofs.SlLaysW.n5 Tryz.prog Tryz.cloneA_ren := {
  mixed := by kernel_rfl
  f5 := ⟨Tryz.f46.name, by decide, Tryz.func46.trans (congrArg some (by kernel_rfl))⟩
  f7 := Tryz.func75.trans (congrArg some (by kernel_rfl))
  t4 := Tryz.underlying4
  a4 := Tryz.isAgg4
  z4 := Tryz.sizeOf4
  v4 := Tryz.zeroValue4
  t20 := Tryz.underlying20
  a20 := Tryz.isAgg20
  z20 := Tryz.sizeOf20
  v20 := Tryz.zeroValue20
  t23 := Tryz.underlying87
  a23 := Tryz.isAgg87
  z23 := Tryz.sizeOf87
  v23 := Tryz.zeroValue87 }
end

section
open Go.RowKit Go.Shelf Go.Maps

/-- What stands at a key (nil, where nothing does). -/
def lk (D : DataW Value) (l : List UInt8) : DataW Value := D.atKey (.string l) (.held (.slice none 0 0))
theorem skey_lit (l : List UInt8) : WideAt.IsKeyLit (.string l) := by simp [WideAt.IsKeyLit]
theorem skey_ne {k l : List UInt8} (h : k ≠ l) : (Lit.string k) ≠ .string l := fun e => h (by injection e)
theorem strK : Keyed Tryz.prog 9 := string_keyed Tryz.underlying9
theorem skeyOf {l : List UInt8} (h : l.length ≤ maxLen) : keyOf Tryz.prog 9 (.string (str l)) = some (.string l) := WideMaps.keyOf_string_mk Tryz.underlying9 (s := str l) h

/-- Keys with values in the map of block mb; the values lie in V. -/
structure KM (w : World) (V : Nat → Prop) (mb n : Nat) (D : DataW Value) (L : List St.KV) : Prop where
  own : w.ownsMap Tryz.prog 9 asIs mb n D
  has : ∀ k, Maps.has D (.string k) = true ↔ ∃ v, (k, v) ∈ L
  val : ∀ x ∈ L, ∃ A c, lk D x.1 = .held (.slice A x.2.length c) ∧ x.2.length ≤ c ∧ Lies w 0 5 A (bcells x.2) ∧ InF V A ∧ InF (fun k => k < w.heap.size) A
  srt : St.Srt L
  len : ∀ x ∈ L, x.1.length ≤ maxLen

section
variable {w w' : World} {V V' : Nat → Prop} {mb n : Nat} {D : DataW Value} {L : List St.KV}
theorem owns_keep {H : Type} {P : Program} {k : TypeId} {R : Value → Option (DataW H × List MemPlace)} {D : DataW H} (h : w.ownsMap P k R mb n D) (hk : w'.heap[mb]? = w.heap[mb]?) : w'.ownsMap P k R mb n D := by
  obtain ⟨es, clock, hb, Ft, hs, hD⟩ := h
  exact ⟨es, clock, hk.trans hb, Ft, hs, hD⟩
theorem Lies.keepV {A : Option Addr} {xs : List Value} {t : TypeId} (h : Lies w 0 t A xs) (hi : InF V A) (hk : ∀ k, V k → k < w.heap.size → w'.heap[k]? = w.heap[k]?) : Lies w' 0 t A xs := fun hx => by
  have hl := h.ltF hx
  obtain ⟨ad, e, h1, h2⟩ := h hx
  exact (h.keepF (F := fun k => V k ∧ k < w.heap.size) (fun a ea => ⟨hi a ea, hl a ea⟩) (fun k hk' => hk k hk'.1 hk'.2)) hx
theorem KM.keep (h : KM w V mb n D L) (h1 : w'.heap[mb]? = w.heap[mb]?) (hk : ∀ k, V k → k < w.heap.size → w'.heap[k]? = w.heap[k]?) (hz : w.heap.size ≤ w'.heap.size) : KM w' V mb n D L :=
  ⟨owns_keep h.own h1, h.has, fun x hx => by
    obtain ⟨A, c, h2, h3, h4, h5, h6⟩ := h.val x hx
    exact ⟨A, c, h2, h3, h4.keepV h5 hk, h5, h6.mono (fun k q => Nat.lt_of_lt_of_le q hz)⟩, h.srt, h.len⟩
theorem KM.below (h : KM w V mb n D L) (hb : Below w.heap.size w w') : KM w' V mb n D L := h.keep (hb.block _ h.own.lt) (fun k _ hk => hb.block k hk) hb.size
theorem KM.tch (h : KM w V mb n D L) {B : Nat} {ts : List TypeId} (hT : Tch B ts w w') (hm : mb < B) (ht : 5 ∉ ts) : KM w' V mb n D L :=
  ⟨owns_keep h.own (hT.below.block _ hm), h.has, fun x hx => by
    obtain ⟨A, c, h2, h3, h4, h5, h6⟩ := h.val x hx
    exact ⟨A, c, h2, h3, h4.tch (hT.mono (Nat.zero_le _)) ht, h5, h6.mono (fun k q => Nat.lt_of_lt_of_le q hT.size)⟩, h.srt, h.len⟩
theorem KM.mono (h : KM w V mb n D L) (hV : ∀ k, V k → V' k) : KM w V' mb n D L :=
  ⟨h.own, h.has, fun x hx => by
    obtain ⟨A, c, h2, h3, h4, h5, h6⟩ := h.val x hx
    exact ⟨A, c, h2, h3, h4, h5.mono hV, h6⟩, h.srt, h.len⟩
theorem KM.narrow (h : KM w V mb n D L) : KM w (fun k => V k ∧ k < w.heap.size) mb n D L :=
  ⟨h.own, h.has, fun x hx => by
    obtain ⟨A, c, h2, h3, h4, h5, h6⟩ := h.val x hx
    exact ⟨A, c, h2, h3, h4, fun ad e => ⟨h5 ad e, h6 ad e⟩, h6⟩, h.srt, h.len⟩
/-- The same values in a map of another block. -/
theorem KM.copy (h : KM w V mb n D L) {mb2 : Nat} (hb : Below w.heap.size w w') (ho : w'.ownsMap Tryz.prog 9 asIs mb2 n D) : KM w' V mb2 n D L := ⟨ho, h.has, (h.below hb).val, h.srt, h.len⟩
theorem KM.up (h : KM w V mb n D L) {m : Nat} (hm : n ≤ m) : KM w V mb m D L := ⟨h.own.mono hm, h.has, h.val, h.srt, h.len⟩
theorem KM.empty (h : w.ownsMap Tryz.prog 9 asIs mb n (.map [])) : KM w V mb n (.map []) [] :=
  ⟨h, fun k => ⟨fun e => by simp [Maps.has] at e, fun ⟨_, e⟩ => by simp at e⟩, fun x hx => by simp at hx, by simp [St.Srt], fun x hx => by simp at hx⟩
theorem nodup_keys (h : St.Srt L) : (L.map (·.1)).Nodup := List.pairwise_map.2 (h.imp fun {a b} hlt e => by rw [e] at hlt; exact List.lt_irrefl _ hlt)
/-- The map's keys are the list's. -/
theorem KM.perm (h : KM w V mb n D L) : (L.map (·.1)).Perm (strKeys D) := by
  obtain ⟨es, hD, hpw, _⟩ := h.own.entries strK
  obtain ⟨es', hD', hko⟩ := h.own.keysOf
  obtain rfl : es = es' := by rw [hD] at hD'; simpa using hD'
  have hh := h.has
  rw [hD] at hh ⊢
  refine perm_strKeys hpw (fun p hp => ?_) (nodup_keys h.srt) (fun x => ?_)
  · obtain ⟨v, hv⟩ := hko p hp
    obtain ⟨x, _, hx, _⟩ := Maps.keyOf_str Tryz.underlying9 hv
    exact ⟨x, hx⟩
  · rw [hh x, List.mem_map]
    exact ⟨fun ⟨a, ha, e⟩ => ⟨a.2, by rw [← e]; exact ha⟩, fun ⟨v, hv⟩ => ⟨(x, v), hv, rfl⟩⟩
theorem size_keys (D : DataW Value) (h : Maps.IsMap D) : Maps.size D = (strKeys D).length := by
  obtain ⟨es, rfl⟩ := h
  simp [Maps.size, strKeys]
theorem KM.size (h : KM w V mb n D L) : Maps.size D = L.length := by
  rw [size_keys D h.own.isMap, ← h.perm.length_eq, List.length_map]
theorem KM.sorted (h : KM w V mb n D L) {ss : List (List UInt8)} (hp : ss.Perm (strKeys D)) : ss.mergeSort (fun x y => decide (x ≤ y)) = L.map (·.1) := by
  have e := mergeSort_of_perm (hp.trans h.perm.symm)
  have s : ((L.map (·.1)).mergeSort leB) = L.map (·.1) := List.mergeSort_of_pairwise (List.pairwise_map.2 (h.srt.imp fun {a b} hlt => decide_eq_true (List.le_of_lt hlt)))
  exact e.trans s

/-- What reads of a map, its run. -/
theorem KM.look (h : KM w V mb n D L) {k : List UInt8} (hk : k.length ≤ maxLen) {v : Value} (hv : lk D k = .held v) :
    (Instr.lookup 87 (.map (some mb)) (.string (str k)) false).run Tryz.prog w = .ok v w := by
  obtain ⟨u, ps, hr, hu⟩ := h.own.lookup strK Tryz.underlying87 (Tryz.zeroValue23 w) (asIs_mk (none, 0, 0)) (skeyOf hk)
  obtain ⟨_, _, hy⟩ := asIs_inv hu
  injection hy with hy _
  have q : DataW.held v = DataW.held u := hv.symm.trans hy
  injection q with q
  rw [hr, q]
theorem KM.look_ok (h : KM w V mb n D L) {k : List UInt8} (hk : k.length ≤ maxLen) {v : Value} (hv : lk D k = .held v) :
    (Instr.lookup 87 (.map (some mb)) (.string (str k)) true).run Tryz.prog w = .ok (.tuple #[v, .bool (Maps.has D (.string k))]) w := by
  obtain ⟨u, ps, hr, hu⟩ := h.own.look_ok strK Tryz.underlying87 (Tryz.zeroValue23 w) (asIs_mk (none, 0, 0)) (skeyOf hk)
  obtain ⟨_, _, hy⟩ := asIs_inv hu
  injection hy with hy _
  have q : DataW.held v = DataW.held u := hv.symm.trans hy
  injection q with q
  rw [hr, q]
/-- What stands at a key that is there, and at one that isn't. -/
theorem KM.there (h : KM w V mb n D L) {k v : List UInt8} (hx : (k, v) ∈ L) : Maps.has D (.string k) = true ∧ ∃ A c, lk D k = .held (.slice A v.length c) ∧ v.length ≤ c ∧ Lies w 0 5 A (bcells v) := by
  obtain ⟨A, c, h1, h2, h3, _, _⟩ := h.val _ hx
  exact ⟨(h.has k).2 ⟨v, hx⟩, A, c, h1, h2, h3⟩
theorem KM.not (h : KM w V mb n D L) {k : List UInt8} (hx : ∀ v, (k, v) ∉ L) : Maps.has D (.string k) = false ∧ lk D k = .held (.slice none 0 0) := by
  have e : Maps.has D (.string k) = false := by
    cases q : Maps.has D (.string k)
    · rfl
    · obtain ⟨v, hv⟩ := (h.has k).1 q
      exact absurd hv (hx v)
  refine ⟨e, ?_⟩
  obtain ⟨es, rfl⟩ := h.own.isMap
  have e2 : (es.find? fun p => p.1.sameKey (.string k)) = none := by
    rw [List.find?_eq_none]
    intro p hp
    have q := (List.any_eq_false.1 (show (es.any fun p => p.1.sameKey (.string k)) = false from e)) p hp
    exact q
  show DataW.atKey (.map es) (.string k) _ = _
  simp only [DataW.atKey, e2]
/-- A value is put. -/
theorem KM.put (h : KM w V mb n D L) {k v : List UInt8} {A : Option Addr} {c : Nat} (hk : k.length ≤ maxLen) (hc : v.length ≤ c) (hA : Lies w 0 5 A (bcells v)) (hV : InF V A) (hlt : InF (fun k => k < w.heap.size) A) (hm : ∀ k, V k → k ≠ mb) (hn : n < maxLen) :
    ∃ w', (Instr.mapUpdate 87 (.map (some mb)) (.string (str k)) (.slice A v.length c)).run Tryz.prog w = .ok () w' ∧ KM w' V mb (n + 1) (D.put (.string k) (.held (.slice A v.length c))) (St.ins k v L) ∧ w.grownBy w' (some mb) := by
  obtain ⟨w', h1, h2, h3⟩ := h.own.update strK Tryz.underlying87 hn (skeyOf hk) (asIs_mk (A, v.length, c))
  have keep : ∀ k, V k → k < w.heap.size → w'.heap[k]? = w.heap[k]? := fun k hk hs => h3.block k hs (fun e => by injection e with e; exact hm k hk e)
  refine ⟨w', h1, ⟨h2, fun q => ?_, fun x hx => ?_, St.srt_ins h.srt, fun x hx => ?_⟩, h3⟩
  · by_cases e : q = k
    · subst e
      exact ⟨fun _ => ⟨v, (St.mem_ins h.srt).2 (.inl rfl)⟩, fun _ => Maps.has_put_same h.own.isMap (skey_lit q) _⟩
    · rw [Maps.has_put_other (skey_ne e), h.has q]
      exact ⟨fun ⟨u, hu⟩ => ⟨u, (St.mem_ins h.srt).2 (.inr ⟨e, hu⟩)⟩, fun ⟨u, hu⟩ => by
        rcases (St.mem_ins h.srt).1 hu with r | r
        · exact absurd (congrArg Prod.fst r) e
        · exact ⟨u, r.2⟩⟩
  · rcases (St.mem_ins h.srt).1 hx with r | ⟨r1, r2⟩
    · rw [r]
      exact ⟨A, c, Maps.atKey_put_same h.own.isMap (skey_lit k) _ _, hc, hA.keepV hV keep, hV, hlt.mono (fun k q => Nat.lt_of_lt_of_le q h3.size)⟩
    · obtain ⟨A2, c2, q1, q2, q3, q4, q5⟩ := h.val x r2
      exact ⟨A2, c2, (Maps.atKey_put_other (skey_ne r1) _ _).trans q1, q2, q3.keepV q4 keep, q4, q5.mono (fun k q => Nat.lt_of_lt_of_le q h3.size)⟩
  · rcases St.ins_mem hx with r | r
    · rw [r]; exact hk
    · exact h.len x r
/-- A key goes. -/
theorem KM.del (h : KM w V mb n D L) {k : List UInt8} (h2 : w'.ownsMap Tryz.prog 9 asIs mb n (D.del (.string k))) (h3 : w.grownBy w' (some mb)) (hm : ∀ k, V k → k ≠ mb) : KM w' V mb n (D.del (.string k)) (St.del k L) := by
  have keep : ∀ k, V k → k < w.heap.size → w'.heap[k]? = w.heap[k]? := fun k hk hs => h3.block k hs (fun e => by injection e with e; exact hm k hk e)
  refine ⟨h2, fun q => ?_, fun x hx => ?_, St.srt_del h.srt k, fun x hx => h.len x (St.mem_del.1 hx).2⟩
  · by_cases e : q = k
    · subst e
      rw [Maps.has_del_same]
      exact ⟨fun r => by simp at r, fun ⟨u, hu⟩ => absurd rfl (St.mem_del.1 hu).1⟩
    · rw [Maps.has_del_other (skey_ne e), h.has q]
      exact ⟨fun ⟨u, hu⟩ => ⟨u, St.mem_del.2 ⟨e, hu⟩⟩, fun ⟨u, hu⟩ => ⟨u, (St.mem_del.1 hu).2⟩⟩
  · obtain ⟨r1, r2⟩ := St.mem_del.1 hx
    obtain ⟨A2, c2, q1, q2, q3, q4, q5⟩ := h.val x r2
    exact ⟨A2, c2, (Maps.atKey_del_other (skey_ne r1) _).trans q1, q2, q3.keepV q4 keep, q4, q5.mono (fun k q => Nat.lt_of_lt_of_le q h3.size)⟩
end

/-! The keys in their order. -/
theorem sorts (m : Nat) : AnyZ.SortsIn Tryz.prog Tryz.sortedA_ren Fence.wide m :=
  ⟨fun blk off cap ss W hH hblk hsz => callsIn_wide.2 (AnyM.slices_Sort_string Tryz.sortA blk off cap ss W hH hblk hsz), fun p cap W => callsIn_wide.2 (AnyM.slices_Sort_string_none Tryz.sortA p cap W)⟩
theorem mkeys_c (mb : Option Nat) (W : World) : Calls Tryz.prog 80 #[.map mb] W fun e w' => e = .returned (.func (.func 100) #[] #[.pointer (some ⟨W.heap.size, 0, none⟩)]) ∧ w' = W.alloc (.cells #[.map mb] 87) :=
  callsIn_wide.1 (AnyZ.keys_in Tryz.keysA Fence.wide 5 trivial rfl mb W)

theorem sortedk_c {V : Nat → Prop} {mb n : Nat} {D : DataW Value} {L : List St.KV} {W : World} (h : KM W V mb n D L) (hL : L.length ≤ 100000) :
    Calls Tryz.prog 79 #[.func (.func 100) #[] #[.pointer (some ⟨W.heap.size, 0, none⟩)]] (W.alloc (.cells #[.map (some mb)] 87)) fun e w' =>
      ∃ A c, e = .returned (.slice A L.length c) ∧ Lies w' 0 9 A ((L.map (·.1)).map encStr) ∧ Below W.heap.size W w' := by
  have hsz := h.size
  have hbl := h.own.lt
  have hseq : SeqGives Fence.wide 2 Tryz.prog 100 #[.pointer (some ⟨W.heap.size, 0, none⟩)] encStr (fun ss => ss.Perm (strKeys D)) (Maps.size D) (W.alloc (.cells #[.map (some mb)] 87)) :=
    AnyZ.keys_gives (ρ := Tryz.keysA_ren) { Tryz.keysA with } Fence.wide _ trivial rfl (by omega) W.heap.size mb n D _ (by simp) (by simp) (owns_keep h.own (Below.heap_alloc _ _ mb hbl))
  have cS := AnyZ.sorted_in Tryz.sortedA Fence.wide 5 trivial trivial trivial trivial rfl (by omega) (sorts _) (enters_of Tryz.func99 (by kernel_rfl) rfl) 100 #[.pointer (some ⟨W.heap.size, 0, none⟩)] trivial (enters_of Tryz.func100 (by kernel_rfl) rfl) _ _ (by rw [hsz]; unfold maxLen; omega) (by rw [hsz]; omega) _ hseq
  change CallsIn _ _ Tryz.prog 79 _ _ _ at cS
  refine (callsIn_wide.1 cS).mono ?_
  rintro e w' ⟨v, ss, rfl, hS, hrow, _, hb⟩
  rw [h.sorted hS] at hrow
  have hl : ss.length = L.length := by rw [hS.length_eq, ← h.perm.length_eq, List.length_map]
  rw [hl] at hrow
  obtain ⟨A, c, rfl⟩ := own_slice hrow
  exact ⟨A, c, rfl, lies_own hrow, ((Below.refl _ W).alloc (Nat.le_refl _) _).trans (hb.mono (by simp))⟩

/-- Any string begins with none. -/
theorem hasPre_c (s : ByteArray) (w : World) : Calls Tryz.prog 101 #[.string s, .string { data := #[] }] w fun e w' => e = .returned (.bool true) ∧ w = w' := by
  go_enter Tryz.func101, Tryz.ntmps101
  go_wp2
  go_ret
  exact ⟨rfl, rfl⟩
theorem hasPre2_c (s : ByteArray) (w : World) : Calls Tryz.prog 81 #[.string s, .string { data := #[] }] w fun e w' => e = .returned (.bool true) ∧ w = w' := by
  go_enter Tryz.func81, Tryz.ntmps81
  go_wp2_with (go_at_call 101; refine (hasPre_c _ _).mono ?_; rintro e w' ⟨rfl, rfl⟩)
  go_ret
  exact ⟨rfl, rfl⟩
end
end Go.Proofs.YtpnfpeeijghamaaGreat
