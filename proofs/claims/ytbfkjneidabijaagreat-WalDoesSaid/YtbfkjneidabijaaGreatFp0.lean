/- Footprints: what a call may have touched told by blocks (a predicate F), beside what is newer than block B. -/
import Derived.Test.YtbfkjneidabijaaGreatMem
namespace Go.Proofs.YtbfkjneidabijaaGreat
open Go.RowKit
set_option maxRecDepth 100000

/-- Below block B the world w' is as w was, but for the blocks of F. -/
structure But (F : Nat → Prop) (B : Nat) (w w' : World) : Prop where
  os : w'.os = w.os
  tape : w'.tape = w.tape
  output : w'.output = w.output
  size : w.heap.size ≤ w'.heap.size
  block : ∀ k, k < B → ¬ F k → w'.heap[k]? = w.heap[k]?

/-- F and all blocks from B on. -/
def Up (F : Nat → Prop) (B : Nat) : Nat → Prop := fun k => F k ∨ B ≤ k

section
variable {F G : Nat → Prop} {B B' : Nat} {w w' w'' : World}
theorem But.refl (F : Nat → Prop) (B : Nat) (w : World) : But F B w w := ⟨rfl, rfl, rfl, Nat.le_refl _, fun _ _ _ => rfl⟩
theorem But.trans (h : But F B w w') (k : But F B w' w'') : But F B w w'' :=
  ⟨k.os.trans h.os, k.tape.trans h.tape, k.output.trans h.output, Nat.le_trans h.size k.size, fun i hi hf => (k.block i hi hf).trans (h.block i hi hf)⟩
theorem But.mono (h : But F B w w') (hB : B' ≤ B) (hF : ∀ k, F k → G k) : But G B' w w' := ⟨h.os, h.tape, h.output, h.size, fun k hk hf => h.block k (by omega) (fun q => hf (hF k q))⟩
theorem But.of_below (h : Below B w w') (F : Nat → Prop) : But F B w w' := ⟨h.os, h.tape, h.output, h.size, fun k hk _ => h.block k hk⟩
theorem But.below (h : But F B w w') (hF : ∀ k, k < B → ¬ F k) : Below B w w' := ⟨h.os, h.tape, h.output, h.size, fun k hk => h.block k hk (hF k hk)⟩
theorem But.drew (h : But F B w w') : But F B w w'.drew := ⟨h.os, h.tape, h.output, h.size, h.block⟩
theorem But.drewN (h : But F B w w') (n : Nat) : But F B w (w'.drewN n) := ⟨h.os, h.tape, h.output, h.size, h.block⟩
theorem But.alloc (h : But F B w w') (hB : B ≤ w'.heap.size) (o : Obj) : But F B w (w'.alloc o) := h.trans (But.of_below ((Below.refl _ _).alloc hB o) F)
theorem But.setCell (h : But F B w w') {p : Addr} (hp : Up F B p.block) (u : Value) : But F B w (w'.setCell p u) :=
  h.trans ⟨rfl, rfl, rfl, by simp [World.setCell], fun k hk hf => Below.heap_setCell _ _ _ _ (fun e => by subst e; exact hp.elim hf (fun q => by omega))⟩
theorem But.grown (h : But F B w w') {row : Option Nat} (hg : w'.grownBy w'' row) (hB : B ≤ w'.heap.size) (hr : ∀ k, row = some k → Up F B k) : But F B w w'' :=
  h.trans ⟨hg.os, hg.tape, hg.output, hg.size, fun k hk hf => hg.block k (by omega) (fun e => (hr k e.symm).elim hf (fun q => by omega))⟩
/-- A call on an object of footprint G, made later, seen from the call around it. -/
theorem But.call (h : But F B w w') (k : But G w'.heap.size w' w'') (hB : B ≤ w'.heap.size) (hG : ∀ b, G b → Up F B b) : But F B w w'' :=
  h.trans ⟨k.os, k.tape, k.output, k.size, fun b hb hf => k.block b (by omega) (fun q => (hG b q).elim hf (fun q => by omega))⟩
end

/-- The slice's block is one of F's. -/
def InF (F : Nat → Prop) (A : Option Addr) : Prop := ∀ ad, A = some ad → F ad.block
theorem InF.none {F : Nat → Prop} : InF F none := fun _ h => by cases h
theorem InF.mono {F G : Nat → Prop} {A : Option Addr} (h : InF F A) (hF : ∀ k, F k → G k) : InF G A := fun ad e => hF _ (h ad e)
theorem InF.of_own {F : Nat → Prop} {w : World} {base : Nat} {e : TypeId} {size n c m : Nat} {A : Option Addr} {xs : List Value} (h : w.ownsRow base e size (.slice A m c) n xs) (hF : ∀ k, base ≤ k → F k) : InF F A := fun ad e => by
  subst e
  exact hF _ (h.lt _ rfl).1
theorem InF.row {F : Nat → Prop} {A : Option Addr} {n c : Nat} (h : InF F A) : ∀ k, (Value.slice A n c).ownBlock = some k → F k := fun k e => by
  cases A with
  | none => cases e
  | some ad => injection e with e; subst e; exact h ad rfl

/-- A row of one's own is kept where its block is. -/
theorem own_keep {w w' : World} {base : Nat} {e : TypeId} {size n : Nat} {v : Value} {xs : List Value} (h : w.ownsRow base e size v n xs) (hk : ∀ k, v.ownBlock = some k → w'.heap[k]? = w.heap[k]?) : w'.ownsRow base e size v n xs := by
  refine ⟨h.1, ?_⟩
  rcases h.2 with hn | ⟨g, cap, cur, rfl, hb, hg, rest⟩
  · exact .inl hn
  · exact .inr ⟨g, cap, cur, rfl, hb, (hk g rfl).trans hg, rest⟩
theorem own_lt {w : World} {base : Nat} {e : TypeId} {size n c m : Nat} {A : Option Addr} {xs : List Value} (h : w.ownsRow base e size (.slice A m c) n xs) : InF (fun k => k < w.heap.size) A := fun ad q => by
  subst q
  exact (h.lt _ rfl).2
/-- Cells of a block of F lie there still behind a call that left F's blocks alone. -/
theorem Lies.keepF {w w' : World} {F : Nat → Prop} {t : TypeId} {A : Option Addr} {xs : List Value} (h : Lies w 0 t A xs) (hi : InF F A) (hk : ∀ k, F k → w'.heap[k]? = w.heap[k]?) : Lies w' 0 t A xs := fun hx => by
  obtain ⟨ad, rfl, hb, hc⟩ := h hx
  have q := hk ad.block (hi ad rfl)
  refine ⟨ad, rfl, hb.imp id (fun ⟨cs, fr, r⟩ => ⟨cs, fr, q.trans r⟩), fun j u hu => ?_⟩
  exact (World.cell?_of_block (by rw [addr_block]; exact q)).trans (hc j u hu)
theorem Lies.ltF {w : World} {t : TypeId} {A : Option Addr} {xs : List Value} (h : Lies w 0 t A xs) (hx : xs ≠ []) : InF (fun k => k < w.heap.size) A := fun ad e => by
  obtain ⟨ad', rfl, hb, _⟩ := h hx
  injection e with e
  subst e
  rcases hb with q | ⟨_, _, q⟩
  · omega
  · exact lt_of_block q
end Go.Proofs.YtbfkjneidabijaaGreat
