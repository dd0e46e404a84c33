/- Stage 5: one disk among others, step by step. -/
import Derived.Test.YtogobeinckgjmaaDp
namespace Go.Proofs.Ytogobeinckgjmaa
open Go.RowKit

/-- The code's disk at q: its blocks are G's, from B on, and there now. -/
structure CS (w : World) (B : Nat) (G : Nat → Prop) (q : Nat) (d : Dk.D) : Prop where
  cd : CD w G q d
  old : ∀ k, G k → B ≤ k ∧ k < w.heap.size
theorem CS.keep {w w' : World} {B : Nat} {G : Nat → Prop} {q : Nat} {d : Dk.D} (h : CS w B G q d) (hb : Below w.heap.size w w') : CS w' B G q d :=
  ⟨h.cd.keep (fun k _ hk => hb.block k hk), fun k hk => ⟨(h.old k hk).1, Nat.lt_of_lt_of_le (h.old k hk).2 hb.size⟩⟩
/-- Behind a call on another disk. -/
theorem CS.but {w w' : World} {B : Nat} {F G : Nat → Prop} {q : Nat} {d : Dk.D} (h : CS w B G q d) (hb : But F w.heap.size w w') (hF : ∀ k, G k → ¬ F k) : CS w' B G q d :=
  ⟨h.cd.keep (fun k hk hl => hb.block k hl (hF k hk)), fun k hk => ⟨(h.old k hk).1, Nat.lt_of_lt_of_le (h.old k hk).2 hb.size⟩⟩
/-- What a call on the disk left of it: G2's blocks are G's, or new. -/
structure CStep (w w' : World) (B : Nat) (G G2 : Nat → Prop) (q : Nat) (d : Dk.D) : Prop where
  cs : CS w' B G2 q d
  new : ∀ k, k < w.heap.size → G2 k → G k
  but : But G w.heap.size w w'
  below : Below B w w'
theorem cstep {w w' : World} {B : Nat} {G : Nat → Prop} {q : Nat} {d d' : Dk.D} (h : CS w B G q d) (hB : B ≤ w.heap.size) (hc : CD w' (Up G w.heap.size) q d') (hb : But G w.heap.size w w') : ∃ G2, CStep w w' B G G2 q d' := by
  refine ⟨fun k => Up G w.heap.size k ∧ k < w'.heap.size, ⟨hc.cap, fun k hk => ⟨?_, hk.2⟩⟩, fun k hk hg => ?_, hb, ?_⟩
  · rcases hk.1 with g | g
    · exact (h.old k g).1
    · exact Nat.le_trans hB g
  · rcases hg.1 with g | g
    · exact g
    · omega
  · exact ⟨hb.os, hb.tape, hb.output, hb.size, fun k hk => hb.block k (by omega) (fun g => by have := (h.old k g).1; omega)⟩
theorem CdOk.step {w w' : World} {B : Nat} {G : Nat → Prop} {q : Nat} {d d' : Dk.D} {er : Int} {e : Ending} (h : CS w B G q d) (hB : B ≤ w.heap.size) (hp : CdOk G q er d' w e w') : e = .returned (.int .i64 er) ∧ ∃ G2, CStep w w' B G G2 q d' := ⟨hp.1, cstep h hB hp.2.1 hp.2.2⟩
theorem CdOk0.step {w w' : World} {B : Nat} {G : Nat → Prop} {q : Nat} {d d' : Dk.D} {e : Ending} (h : CS w B G q d) (hB : B ≤ w.heap.size) (hp : CdOk0 G q d' w e w') : e = .returned (.tuple #[]) ∧ ∃ G2, CStep w w' B G G2 q d' := ⟨hp.1, cstep h hB hp.2.1 hp.2.2⟩
theorem CNewOk.step {w w' : World} {B : Nat} {d : Dk.D} {e : Ending} (hB : B ≤ w.heap.size) (hp : CNewOk d w e w') : ∃ q G, e = .returned (.pointer (some ⟨q, 0, none⟩)) ∧ CS w' B G q d ∧ (∀ k, k < w.heap.size → ¬ G k) ∧ Below w.heap.size w w' := by
  obtain ⟨q, he, hc, hb⟩ := hp
  exact ⟨q, fun k => w.heap.size ≤ k ∧ k < w'.heap.size, he, ⟨hc.cap, fun k hk => ⟨Nat.le_trans hB hk.1, hk.2⟩⟩, fun k hk hg => by omega, hb⟩
namespace Dk
/-- A disk that isn't dead nor armed, with few writes cached. -/
def Live (k : Nat) (d : D) : Prop := d.ok ∧ d.left = -1 ∧ d.dead = false ∧ d.cache.length ≤ k
theorem act_live {k : Nat} {d : D} (h : Live k d) : act d = (0, d) := by
  unfold act
  rw [if_neg (by rw [h.2.2.1, h.2.1]; simp), if_neg (by rw [h.2.1]; decide)]
theorem write_live {k : Nat} {d : D} (h : Live k d) (i : Int) (b : List UInt8) : Live (k + 1) (write d i b).2 := by
  have ok := write_ok h.1 i b
  refine ⟨ok, ?_⟩
  have up : d.left = -1 ∧ d.dead = false ∧ d.cache.length ≤ k + 1 := ⟨h.2.1, h.2.2.1, Nat.le_succ_of_le h.2.2.2⟩
  unfold write
  split
  · exact up
  split
  · exact up
  split
  · exact up
  rw [act_live h, if_pos rfl]
  refine ⟨h.2.1, h.2.2.1, ?_⟩
  show (d.cache ++ [_]).length ≤ k + 1
  rw [List.length_append]
  have := h.2.2.2
  simp; omega
theorem flush_live {k : Nat} {d : D} (h : Live k d) : Live k (flush d).2 := by
  have ok := flush_ok h.1
  refine ⟨ok, ?_⟩
  unfold flush
  rw [act_live h, if_pos rfl]
  exact ⟨h.2.1, h.2.2.1, Nat.zero_le _⟩
theorem flush_fine {k : Nat} {d : D} (h : Live k d) : (flush d).1 = 0 := by
  unfold flush
  rw [act_live h, if_pos rfl]
theorem new_live (n : Int) : Live 0 (new n) := ⟨new_ok n, rfl, rfl, Nat.le_refl _⟩
theorem write_new (n i : Int) (b : List UInt8) : Live 1 (write (new n) i b).2 := write_live (new_live n) i b
end Dk
/-- What is older than the disk. -/
theorem Lies.far {w wr : World} {G : Nat → Prop} {t : TypeId} {A : Option Addr} {xs : List Value} (h : Lies w w.heap.size t A xs) (hG : ∀ k, G k → w.heap.size ≤ k ∧ k < wr.heap.size) (hz : w.heap.size ≤ wr.heap.size) : xs ≠ [] → InF (fun k => ¬ G k ∧ k < wr.heap.size) A := fun hx ad e => by
  obtain ⟨ad', rfl, hb, _⟩ := h hx
  injection e with e
  subst e
  have : ad'.block < w.heap.size := by
    rcases hb with q | ⟨_, _, q⟩
    · exact q
    · exact lt_of_block q
  exact ⟨fun g => by have := (hG _ g).1; omega, by omega⟩
theorem CS.far {w : World} {B : Nat} {G : Nat → Prop} {q : Nat} {d : Dk.D} (h : CS w B G q d) (o : Obj) {xs : List Value} : xs ≠ [] → InF (fun k => ¬ G k ∧ k < (w.alloc o).heap.size) (some ⟨w.heap.size, 0, none⟩) := fun _ ad e => by
  injection e with e
  subst e
  exact ⟨fun g => Nat.lt_irrefl _ (h.old _ g).2, by simp⟩
end Go.Proofs.Ytogobeinckgjmaa
