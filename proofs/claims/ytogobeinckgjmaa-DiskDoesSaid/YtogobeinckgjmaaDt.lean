/- Stage 5: the document's disk among others, and two disks side by side. -/
import Derived.Test.YtogobeinckgjmaaDs
import Derived.Test.YtogobeinckgjmaaDe
namespace Go.Proofs.Ytogobeinckgjmaa
open Go.RowKit

/-- The document's disk at p: its blocks are F's, from B on, and there now. -/
structure DS (w : World) (B : Nat) (F : Nat → Prop) (p : Nat) (d : Dk.D) : Prop where
  rd : RD w F p d
  old : ∀ k, F k → B ≤ k ∧ k < w.heap.size
theorem DS.keep {w w' : World} {B : Nat} {F : Nat → Prop} {p : Nat} {d : Dk.D} (h : DS w B F p d) (hb : Below w.heap.size w w') : DS w' B F p d :=
  ⟨h.rd.keep (fun k hk => hb.block k (h.old k hk).2), fun k hk => ⟨(h.old k hk).1, Nat.lt_of_lt_of_le (h.old k hk).2 hb.size⟩⟩
theorem DS.but {w w' : World} {B : Nat} {F G : Nat → Prop} {p : Nat} {d : Dk.D} (h : DS w B F p d) (hb : But G w.heap.size w w') (hG : ∀ k, F k → ¬ G k) : DS w' B F p d :=
  ⟨h.rd.keep (fun k hk => hb.block k (h.old k hk).2 (hG k hk)), fun k hk => ⟨(h.old k hk).1, Nat.lt_of_lt_of_le (h.old k hk).2 hb.size⟩⟩
/-- What a call on it left. -/
structure DStep (w w' : World) (B : Nat) (F F2 : Nat → Prop) (p : Nat) (d : Dk.D) : Prop where
  ds : DS w' B F2 p d
  new : ∀ k, k < w.heap.size → F2 k → F k
  but : But F w.heap.size w w'
  below : Below B w w'
theorem dstep {w w' : World} {B : Nat} {F : Nat → Prop} {p : Nat} {d d' : Dk.D} (h : DS w B F p d) (hB : B ≤ w.heap.size) (hc : RD w' (Up F w.heap.size) p d') (hb : But F w.heap.size w w') : ∃ F2, DStep w w' B F F2 p d' := by
  refine ⟨fun k => Up F w.heap.size k ∧ k < w'.heap.size, ⟨hc.cap, fun k hk => ⟨?_, hk.2⟩⟩, fun k hk hg => ?_, hb, ?_⟩
  · rcases hk.1 with g | g
    · exact (h.old k g).1
    · exact Nat.le_trans hB g
  · rcases hg.1 with g | g
    · exact g
    · omega
  · exact ⟨hb.os, hb.tape, hb.output, hb.size, fun k hk => hb.block k (by omega) (fun g => by have := (h.old k g).1; omega)⟩
theorem DiskOk.step {w w' : World} {B : Nat} {F : Nat → Prop} {p : Nat} {d d' : Dk.D} {er : Int} {e : Ending} (h : DS w B F p d) (hB : B ≤ w.heap.size) (hp : DiskOk F p er d' w e w') : e = .returned (.int .i64 er) ∧ ∃ F2, DStep w w' B F F2 p d' := ⟨hp.1, dstep h hB hp.2.1 hp.2.2⟩
theorem DiskOk0.step {w w' : World} {B : Nat} {F : Nat → Prop} {p : Nat} {d d' : Dk.D} {e : Ending} (h : DS w B F p d) (hB : B ≤ w.heap.size) (hp : DiskOk0 F p d' w e w') : e = .returned (.tuple #[]) ∧ ∃ F2, DStep w w' B F F2 p d' := ⟨hp.1, dstep h hB hp.2.1 hp.2.2⟩
theorem NewOk.step {w w' : World} {B : Nat} {d : Dk.D} {e : Ending} (hB : B ≤ w.heap.size) (hp : NewOk d w e w') : ∃ p F, e = .returned (.pointer (some ⟨p, 0, none⟩)) ∧ DS w' B F p d ∧ (∀ k, k < w.heap.size → ¬ F k) ∧ Below w.heap.size w w' := by
  obtain ⟨p, he, hc, hb⟩ := hp
  exact ⟨p, fun k => w.heap.size ≤ k ∧ k < w'.heap.size, he, ⟨hc.cap, fun k hk => ⟨Nat.le_trans hB hk.1, hk.2⟩⟩, fun k hk hg => by omega, hb⟩

/-- The code's disk at q and the document's at p, with no block in common. -/
structure Tw (B : Nat) (w : World) (G F : Nat → Prop) (q p : Nat) (D E : Dk.D) : Prop where
  c : CS w B G q D
  d : DS w B F p E
  ap : ∀ k, F k → ¬ G k
section
variable {B : Nat} {w w' : World} {G F G2 F2 : Nat → Prop} {q p q2 p2 : Nat} {D E D2 E2 : Dk.D}
theorem Tw.keep (h : Tw B w G F q p D E) (hb : Below w.heap.size w w') : Tw B w' G F q p D E := ⟨h.c.keep hb, h.d.keep hb, h.ap⟩
theorem Tw.code (h : Tw B w G F q p D E) (hs : CStep w w' B G G2 q D2) : Tw B w' G2 F q p D2 E :=
  ⟨hs.cs, h.d.but hs.but h.ap, fun k hk hg => h.ap k hk (hs.new k (h.d.old k hk).2 hg)⟩
theorem Tw.ref (h : Tw B w G F q p D E) (hs : DStep w w' B F F2 p E2) : Tw B w' G F2 q p D E2 :=
  ⟨h.c.but hs.but (fun k hk hf => h.ap k hf hk), hs.ds, fun k hk hg => h.ap k (hs.new k (h.c.old k hg).2 hk) hg⟩
theorem Tw.codeNew (h : Tw B w G F q p D E) (hs : CS w' B G2 q2 D2) (hn : ∀ k, k < w.heap.size → ¬ G2 k) (hb : Below w.heap.size w w') : Tw B w' G2 F q2 p D2 E :=
  ⟨hs, h.d.keep hb, fun k hk hg => hn k (h.d.old k hk).2 hg⟩
theorem Tw.refNew (h : Tw B w G F q p D E) (hs : DS w' B F2 p2 E2) (hn : ∀ k, k < w.heap.size → ¬ F2 k) (hb : Below w.heap.size w w') : Tw B w' G F2 q p2 D E2 :=
  ⟨h.c.keep hb, hs, fun k hk hg => hn k (h.c.old k hg).2 hk⟩
/-- The document's disk's fields. -/
def Three (p : Nat) (d : Dk.D) (AS AC : Option Addr) (cS cC : Nat) (u : World) : Prop :=
  u.cell? ⟨p, 0, none⟩ = some (.slice AS d.s.length cS) ∧ u.cell? ⟨p, 1, none⟩ = some (.slice AC d.cache.length cC) ∧ u.cell? ⟨p, 4, none⟩ = some (.bool d.dead)
theorem DS.three (h : DS w B F p D) : ∃ (AS AC : Option Addr) (cS cC : Nat), ∀ u, Below w.heap.size w u → Three p D AS AC cS cC u := by
  have hp := (h.old p h.rd.fp).2
  obtain ⟨AS, AC, AB, cS, cC, cB, ms, cs, r, e1, e2⟩ := h.rd
  refine ⟨AS, AC, cS, cC, fun u hb => ?_⟩
  obtain ⟨f0, f1, _, _, f4, _⟩ := r.fields
  have l1 : ms.length = D.s.length := by rw [← e1, txs_len]
  have l2 : cs.length = D.cache.length := by rw [← e2, wrs_len]
  rw [l1] at f0
  rw [l2] at f1
  exact ⟨(hb.cell (p := ⟨p, 0, none⟩) hp).trans f0, (hb.cell (p := ⟨p, 1, none⟩) hp).trans f1, (hb.cell (p := ⟨p, 4, none⟩) hp).trans f4⟩
/-- A cell of a block that was there ahead of a call on either disk, and is neither's. -/
theorem CStep.cell {B : Nat} {v : Value} {g i : Nat} (h : CStep w w' B G G2 q D) (hg : g < w.heap.size) (hn : ¬ G g) (hc : w.cell? ⟨g, i, none⟩ = some v) : w'.cell? ⟨g, i, none⟩ = some v :=
  (World.cell?_of_block (h.but.block g hg hn)).trans hc
theorem DStep.cell {B : Nat} {v : Value} {g i : Nat} (h : DStep w w' B F F2 p D) (hg : g < w.heap.size) (hn : ¬ F g) (hc : w.cell? ⟨g, i, none⟩ = some v) : w'.cell? ⟨g, i, none⟩ = some v :=
  (World.cell?_of_block (h.but.block g hg hn)).trans hc
end

namespace Dk
/-- What holds of a disk behind k deeds. -/
structure Fine (k : Nat) (d : D) : Prop where
  ok : d.ok
  left : d.left ≤ 9223372036854775807
  few : d.cache.length ≤ k
section
variable {k : Nat} {d : D}
theorem Fine.next (h : Fine k d) : Fine (k + 1) d := ⟨h.ok, h.left, Nat.le_succ_of_le h.few⟩
theorem act_left (h : d.left ≤ 9223372036854775807) : (act d).2.left ≤ 9223372036854775807 := by
  unfold act
  split
  · exact h
  · split
    · show d.left - 1 ≤ _; omega
    · exact h
theorem Fine.act (h : Fine k d) : Fine k (act d).2 := ⟨act_ok h.ok, act_left h.left, by rw [act_cache]; exact h.few⟩
theorem Fine.write (h : Fine k d) (i : Int) (b : List UInt8) : Fine (k + 1) (write d i b).2 := by
  refine ⟨write_ok h.ok i b, ?_, ?_⟩
  · unfold Dk.write
    repeat' split
    all_goals first | exact h.left | exact h.act.left
  · unfold Dk.write
    repeat' split
    all_goals first | exact h.next.few | exact h.act.next.few | skip
    show ((Dk.act d).2.cache ++ [_]).length ≤ k + 1
    rw [List.length_append]
    have := h.act.few
    simp; omega
theorem Fine.flush (h : Fine k d) : Fine (k + 1) (flush d).2 := by
  refine ⟨flush_ok h.ok, ?_, ?_⟩
  · unfold Dk.flush
    split
    all_goals exact h.act.left
  · unfold Dk.flush
    split
    · exact Nat.zero_le _
    · exact h.act.next.few
theorem Fine.arm (h : Fine k d) {n : Int} (hn : n ≤ 9223372036854775807) : Fine (k + 1) (arm d n) := ⟨arm_ok h.ok n, by show (if 0 ≤ n then n else -1) ≤ _; split <;> omega, h.next.few⟩
theorem Fine.crash (h : Fine k d) (ks : List Bool) : Fine (k + 1) (crash d ks) := ⟨crash_ok h.ok ks, by show (-1 : Int) ≤ _; omega, Nat.zero_le _⟩
theorem Fine.fault (h : Fine k d) (i : Int) (on : Bool) : Fine (k + 1) (fault d i on) := by
  refine ⟨fault_ok h.ok i on, ?_, ?_⟩
  · unfold Dk.fault
    split
    all_goals exact h.left
  · unfold Dk.fault
    split
    all_goals exact h.next.few
theorem Fine.wipe (h : Fine k d) : Fine (k + 1) (wipe d) := ⟨wipe_ok h.ok, by show (-1 : Int) ≤ _; omega, Nat.zero_le _⟩
theorem Fine.clone (h : Fine k d) : Fine (k + 1) (clone d) := ⟨clone_ok h.ok, by show (-1 : Int) ≤ _; omega, Nat.zero_le _⟩
theorem Fine.new (n : Int) : Fine 0 (new n) := ⟨new_ok n, by show (-1 : Int) ≤ _; omega, Nat.le_refl _⟩
end
end Dk
end Go.Proofs.Ytogobeinckgjmaa
