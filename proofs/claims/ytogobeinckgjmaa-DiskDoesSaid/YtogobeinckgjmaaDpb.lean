/- The code's own Disk: New. -/
import Derived.Test.YtogobeinckgjmaaDpa
import Derived.Test.YtogobeinckgjmaaDe
namespace Go.Proofs.Ytogobeinckgjmaa
open Go.RowKit

theorem Try.infoSector : (Try.prog.info? 62).map (fun i => (i.zero, i.size, i.bytes)) = some (some (.agg (Array.replicate 64 (.int .u8 0))), 64, 64) := by kernel_rfl

theorem kcells_zero (k : Nat) : kcells (List.replicate k Dk.zero64) = List.replicate (k * 64) (.int .u8 0) := by
  induction k with
  | zero => rfl
  | succ k ih =>
    rw [List.replicate_succ, show kcells (Dk.zero64 :: List.replicate k Dk.zero64) = bcells Dk.zero64 ++ kcells (List.replicate k Dk.zero64) from rfl, ih, show bcells Dk.zero64 = List.replicate 64 (.int .u8 0) from rfl, List.replicate_append_replicate, show 64 + k * 64 = (k + 1) * 64 by omega]
theorem made_zero (k : Nat) : madeCells (Array.replicate 64 (.int .u8 0)) (k * 64) = (kcells (List.replicate k Dk.zero64)).toArray := by
  rw [kcells_zero]
  apply Array.ext
  · simp [madeCells]
  · intro i h1 h2
    simp [madeCells, Nat.mod_lt]
theorem made_false (k : Nat) : madeCells #[.bool false] k = ((List.replicate k false).map Value.bool).toArray := by
  apply Array.ext
  · simp [madeCells]
  · intro i h1 h2
    simp [madeCells, Nat.mod_one]

theorem mk_sectors (k : Nat) (hk : k ≤ 4096) (w : World) : (Instr.makeSlice 56 (.int .i64 (k : Int)) (.int .i64 (k : Int))).run Try.prog w = .ok (.slice (some ⟨w.heap.size, 0, none⟩) k k) (w.alloc (.cells (kcells (List.replicate k Dk.zero64)).toArray 62)) := by
  obtain ⟨ti, hi, iz0, iz1, iz2⟩ := info_parts Try.infoSector
  have q := run_make (P := Try.prog) w 56 62 ti _ Try.underlying56 hi iz0 .i64 .i64 k k (by omega) (Int.le_refl _) (by rw [iz2]; omega) (by omega)
  rw [q, Int.toNat_natCast, iz1]
  show Result.ok _ (w.alloc (.cells (madeCells (Array.replicate 64 (.int .u8 0)) (k * 64)) _)) = _
  rw [made_zero]
theorem mk_bools (k : Nat) (hk : k ≤ 4096) (w : World) : (Instr.makeSlice 30 (.int .i64 (k : Int)) (.int .i64 (k : Int))).run Try.prog w = .ok (.slice (some ⟨w.heap.size, 0, none⟩) k k) (w.alloc (.cells ((List.replicate k false).map Value.bool).toArray 4)) := by
  obtain ⟨ti, hi, iz0, iz1, iz2⟩ := info_parts Try.infoBool
  have q := run_make (P := Try.prog) w 30 4 ti _ Try.underlying30 hi iz0 .i64 .i64 k k (by omega) (Int.le_refl _) (by rw [iz2]; omega) (by omega)
  rw [q, Int.toNat_natCast, iz1, Nat.mul_one]
  show Result.ok _ (w.alloc (.cells (madeCells #[.bool false] k) _)) = _
  rw [made_false]

theorem own_block {w : World} {g k size : Nat} {e : TypeId} {xs : List Value} (hg : w.heap[g]? = some (.cells xs.toArray e (0, 0))) (hl : xs.length = k * size) (hk : k ≤ maxLen) : w.ownsRow 0 e size (.slice (some ⟨g, 0, none⟩) k k) k xs :=
  ⟨hl, .inr ⟨g, k, xs.toArray, rfl, Nat.zero_le _, hg, Nat.le_refl _, hk, by simpa using hl, by rw [← hl]; simp⟩⟩

theorem four_new (w : World) (A B C D : Obj) : ((((w.alloc A).alloc B).alloc C).alloc D).drew.heap[w.heap.size]? = some A ∧ ((((w.alloc A).alloc B).alloc C).alloc D).drew.heap[w.heap.size + 1]? = some B ∧
    ((((w.alloc A).alloc B).alloc C).alloc D).drew.heap[w.heap.size + 1 + 1]? = some C ∧ ((((w.alloc A).alloc B).alloc C).alloc D).drew.heap[w.heap.size + 1 + 1 + 1]? = some D := by
  have e1 := blk_alloc (blk_alloc (blk_alloc (heap_alloc_new w A) B) C) D
  have e2 := blk_alloc (blk_alloc (heap_alloc_new (w.alloc A) B) C) D
  have e3 := blk_alloc (heap_alloc_new ((w.alloc A).alloc B) C) D
  have e4 := heap_alloc_new (((w.alloc A).alloc B).alloc C) D
  simp only [World.size_alloc] at e2 e3 e4
  exact ⟨e1, e2, e3, e4⟩
theorem four_below (w : World) (A B C D : Obj) : Below w.heap.size w ((((w.alloc A).alloc B).alloc C).alloc D).drew :=
  (((((Below.refl _ _).alloc (Nat.le_refl _) A).alloc (by simp) B).alloc (by simp; omega) C).alloc (by simp; omega) D).drew

/-- A new disk, whatever its sectors. -/
theorem cd_new {w : World} {G : Nat → Prop} {q gK m gF k : Nat} {s : List (List UInt8)} (hq : w.heap[q]? = some (.cells #[.slice (some ⟨gK, 0, none⟩) k k, .map (some m), .int .i64 0, .slice (some ⟨gF, 0, none⟩) k k, .int .i64 (-1), .bool false] 59 (0, 0)))
    (hK : w.heap[gK]? = some (.cells (kcells s).toArray 62 (0, 0))) (hm : w.heap[m]? = some (.map #[] 0)) (hF : w.heap[gF]? = some (.cells ((List.replicate k false).map Value.bool).toArray 4 (0, 0)))
    (hs : s.length = k) (h64 : ∀ b ∈ s, b.length = 64) (hk : k ≤ 4096) (g1 : G q) (g2 : G gK) (g3 : G m) (g4 : G gF) : CD w G q { Dk.fresh k with s := s } := by
  subst hs
  have hl : (kcells s).length = s.length * 64 := flat_len fun b hb => kcell_len (h64 b hb)
  refine ⟨some ⟨gK, 0, none⟩, s.length, m, some ⟨gF, 0, none⟩, s.length, -1, .map [], 0, fun _ => (none, 0), ⟨g1, ?_, own_block hK hl (by show s.length ≤ maxLen; unfold maxLen; omega), fun ad e => ?_, g3, ⟨#[], 0, hm, ⟨by simp, MapKept.stamped_empty 0, by simp⟩, Nat.le_refl _, rfl⟩, Nat.le_refl _, fun i _ => rfl, fun i _ => rfl, fun kl h => (by rw [has_empty] at h; cases h), fun i _ => World.ownsRow_nil _ _ _ _, fun i _ => InF.none, fun i j _ _ _ a b e => (by cases e), ?_, fun ad e => ?_⟩, by rw [if_neg (by omega)]; rfl⟩
  · rw [hq]
    simp [Dk.fresh]
  · injection e with e; subst e; exact g2
  · have := own_block hF (k := s.length) (size := 1) (by simp) (by unfold maxLen; omega)
    simpa [Dk.fresh] using this
  · injection e with e; subst e; exact g4

set_option maxHeartbeats 4000000 in
theorem cdNew_c (n : Int) (w : World) (hn : n ≤ 9223372036854775807) :
    Calls Try.prog 9 #[.int .i64 n] w (CNewOk (Dk.new n) w) := by
  have hmm := @run_makeMap Try.prog
  obtain ⟨k, hk, hkn⟩ : ∃ k, k = Dk.count n ∧ Dk.new n = Dk.fresh k := ⟨_, rfl, rfl⟩
  have hk4 : k ≤ 4096 := by rw [hk]; unfold Dk.count; omega
  obtain ⟨Z, hZ⟩ : ∃ Z, Z = (kcells (List.replicate k Dk.zero64)).toArray := ⟨_, rfl⟩
  obtain ⟨Y, hY⟩ : ∃ Y, Y = ((List.replicate k false).map Value.bool).toArray := ⟨_, rfl⟩
  have h1 := mk_sectors k hk4
  have h2 := mk_bools k hk4
  rw [← hZ] at h1
  rw [← hY] at h2
  have h64 : ∀ b ∈ List.replicate k Dk.zero64, b.length = 64 := fun b hb => by rw [List.eq_of_mem_replicate hb]; rfl
  have FIN : Hid (∀ (w' : World) (q gK m gF : Nat), w'.heap[q]? = some (.cells #[.slice (some ⟨gK, 0, none⟩) k k, .map (some m), .int .i64 0, .slice (some ⟨gF, 0, none⟩) k k, .int .i64 (-1), .bool false] 59 (0, 0)) → w'.heap[gK]? = some (.cells Z 62 (0, 0)) → w'.heap[m]? = some (.map #[] 0) → w'.heap[gF]? = some (.cells Y 4 (0, 0)) → w.heap.size ≤ q → w.heap.size ≤ gK → w.heap.size ≤ m → w.heap.size ≤ gF → CD w' (fun k => w.heap.size ≤ k) q (Dk.new n)) := Lib.hid fun w' q gK m gF e1 e2 e3 e4 l1 l2 l3 l4 => by
    rw [hkn]
    exact cd_new e1 (hZ ▸ e2) e3 (hY ▸ e4) (by simp) h64 hk4 l1 l2 l3 l4
  clear hZ hY h64 hkn
  rcases Int.lt_or_le n 0 with q0 | q0
  · obtain rfl : k = 0 := by rw [hk]; unfold Dk.count; omega
    replace h1 : ∀ (w : World), (Instr.makeSlice 56 (.int .i64 0) (.int .i64 0)).run Try.prog w = .ok (.slice (some ⟨w.heap.size, 0, none⟩) 0 0) (w.alloc (.cells Z 62)) := h1
    replace h2 : ∀ (w : World), (Instr.makeSlice 30 (.int .i64 0) (.int .i64 0)).run Try.prog w = .ok (.slice (some ⟨w.heap.size, 0, none⟩) 0 0) (w.alloc (.cells Y 4)) := h2
    clear hk hk4 hn
    go_enter Try.func9, Try.ntmps9
    go_wp2_with fail
    go_region
    all_goals
      go_wp2
      go_ret
      refine ⟨_, rfl, FIN.out _ _ _ _ _ (four_new _ _ _ _ _).2.2.2 ?_ ?_ ?_ ?_ ?_ ?_ ?_, four_below _ _ _ _ _⟩
      all_goals first | omega | exact (four_new _ _ _ _ _).1 | exact (four_new _ _ _ _ _).2.1 | exact (four_new _ _ _ _ _).2.2.1
  rcases Int.lt_or_le 4096 n with q1 | q1
  · obtain rfl : k = 4096 := by rw [hk]; unfold Dk.count; omega
    replace h1 : ∀ (w : World), (Instr.makeSlice 56 (.int .i64 4096) (.int .i64 4096)).run Try.prog w = .ok (.slice (some ⟨w.heap.size, 0, none⟩) 4096 4096) (w.alloc (.cells Z 62)) := h1
    replace h2 : ∀ (w : World), (Instr.makeSlice 30 (.int .i64 4096) (.int .i64 4096)).run Try.prog w = .ok (.slice (some ⟨w.heap.size, 0, none⟩) 4096 4096) (w.alloc (.cells Y 4)) := h2
    clear hk hk4 hn
    go_enter Try.func9, Try.ntmps9
    go_wp2_with fail
    go_region
    all_goals
      go_wp2
      go_ret
      refine ⟨_, rfl, FIN.out _ _ _ _ _ (four_new _ _ _ _ _).2.2.2 ?_ ?_ ?_ ?_ ?_ ?_ ?_, four_below _ _ _ _ _⟩
      all_goals first | omega | exact (four_new _ _ _ _ _).1 | exact (four_new _ _ _ _ _).2.1 | exact (four_new _ _ _ _ _).2.2.1
  · obtain rfl : n = (k : Int) := by rw [hk]; unfold Dk.count; omega
    clear hk hn q0
    have q3 : ¬ ((k : Int) < 0) := by omega
    go_enter Try.func9, Try.ntmps9
    go_wp2_with fail
    go_region
    all_goals
      go_wp2
      go_ret
      refine ⟨_, rfl, FIN.out _ _ _ _ _ (four_new _ _ _ _ _).2.2.2 ?_ ?_ ?_ ?_ ?_ ?_ ?_, four_below _ _ _ _ _⟩
      all_goals first | omega | exact (four_new _ _ _ _ _).1 | exact (four_new _ _ _ _ _).2.1 | exact (four_new _ _ _ _ _).2.2.1
end Go.Proofs.Ytogobeinckgjmaa
