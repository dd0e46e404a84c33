/- Stage 7: few, and chapter 7's example. -/
import Derived.Test.YtbfkjneidabijaaGreatVh
import Derived.Test.YtbfkjneidabijaaGreatSu
import Derived.Lib.SlBytesConst
import Derived.Lib.SmallJoins
namespace Go.Proofs.YtbfkjneidabijaaGreat
open Go.RowKit
set_option maxRecDepth 100000

theorem few7_c {A : Option Addr} {n c : Nat} {ms : List MTx} {w : World} {B : Nat} {tt tb : TypeId} (h : TL w B tt tb A ms) (hn : n = ms.length) (hs : n ≤ 9223372036854775807) (hl : ∀ m ∈ ms, m.b.length ≤ 9223372036854775807) :
    Calls Tryz.prog 12 #[.slice A n c] w fun e w' => e = .returned (.bool (decide (ms.length ≤ 6 ∧ ∀ m ∈ ms, m.b.length ≤ 400))) ∧ w = w' := by
  have H := Lib.hid h
  have HN := Lib.hid hn
  have HL := Lib.hid hl
  clear h hn hl
  go_enter Tryz.func12, Tryz.ntmps12
  go_wp2_with fail
  go_loopw [7] (fun i wr => ∃ j : Nat, j ≤ n ∧ i = .int .i64 j ∧ (∀ k m, k < j → ms[k]? = some m → m.b.length ≤ 400) ∧ wr = w) (fun i _ => n - (intOf i).toNat)
  case atStart => exact ⟨0, Nat.zero_le _, rfl, fun k m hk => absurd hk (Nat.not_lt_zero _), rfl⟩
  case round =>
    obtain ⟨j, hj, rfl, hq, rfl⟩ := hrel
    have Q := Lib.hid hq
    clear hq
    by_cases hlt : j < n
    · obtain ⟨ad, m, rfl, hm, _, hcell⟩ := H.out.at_ (k := j) (by rw [← HN.out]; exact hlt)
      have hx := HL.out m (List.mem_of_getElem? hm)
      obtain ⟨x, ex⟩ : ∃ x, x = m.b.length := ⟨_, rfl⟩
      rw [← ex] at hcell hx
      have M := Lib.hid hm
      have X := Lib.hid ex
      clear hm ex
      by_cases h4 : 400 < x
      · have h5 : (400 : Int) < (x : Int) := by omega
        have F : Hid (decide (ms.length ≤ 6 ∧ ∀ m ∈ ms, m.b.length ≤ 400) = false) := Lib.hid (by
          rw [decide_eq_false_iff_not]
          rintro ⟨_, q⟩
          have := q m (List.mem_of_getElem? M.out)
          rw [← X.out] at this
          omega)
        go_wp2
        go_ret
        rw [F.out]
        exact ⟨rfl, rfl⟩
      · have h5 : ¬ (400 : Int) < (x : Int) := by omega
        go_wp2
        go_roundw
        case rel =>
          refine ⟨j + 1, by omega, by go_num, fun k y hk hy => ?_, by first | rfl | trivial⟩
          rcases Nat.lt_or_ge k j with z | z
          · exact Q.out k y z hy
          · obtain rfl : k = j := by omega
            rw [M.out] at hy
            injection hy with hy
            rw [← hy, ← X.out]
            omega
        case measure => simp [intOf]; omega
    · obtain rfl : j = n := by omega
      have F : Hid (decide (ms.length ≤ 6 ∧ ∀ m ∈ ms, m.b.length ≤ 400) = decide ((j : Int) ≤ 6)) := Lib.hid (by
        rw [decide_eq_decide, ← HN.out]
        refine ⟨fun z => by omega, fun z => ⟨by omega, fun m hm => ?_⟩⟩
        obtain ⟨k, hk⟩ := List.mem_iff_getElem?.1 hm
        exact Q.out k m (by rw [HN.out]; exact (List.getElem?_eq_some_iff.1 hk).1) hk)
      go_wp2
      go_ret
      rw [F.out]
      exact ⟨rfl, rfl⟩

theorem CS.old_lt {w : World} {B : Nat} {G : Nat → Prop} {q : Nat} {d : Dk.D} (h : CS w B G q d) : ∀ k, G k → k < w.heap.size := fun k hk => (h.old k hk).2
/-- A row of no disk, behind a call on the disk. -/
theorem CStep.row7 {w w' : World} {B base : Nat} {G G2 : Nat → Prop} {q : Nat} {d : Dk.D} {e : TypeId} {size n : Nat} {v : Value} {xs : List Value} (hs : CStep w w' B G G2 q d) (ho : w.ownsRow base e size v n xs) (hoff : ∀ k, v.ownBlock = some k → ¬ G k) :
    w'.ownsRow base e size v n xs ∧ ∀ k, v.ownBlock = some k → ¬ G2 k :=
  ⟨own_keep ho (fun k e => hs.but.block k (ho.lt k e).2 (hoff k e)), fun k e g => hoff k e (hs.new k (ho.lt k e).2 g)⟩
theorem TL.txs {w wr : World} {G : Nat → Prop} {A : Option Addr} {ms : List MTx} {t1 t2 : TypeId} (h : TL w w.heap.size t1 t2 A ms) (hm : ∀ m ∈ ms, m.b.length ≤ 1000000) (hb : Below w.heap.size w wr) (hG : ∀ k, G k → w.heap.size ≤ k ∧ k < wr.heap.size) : Txs wr G A ms :=
  ⟨(h.1.below (Nat.le_refl _) hb).old, h.1.far hG hb.size, fun m hx => ⟨⟨((h.2 m hx).1.below (Nat.le_refl _) hb).old, (h.2 m hx).2⟩, (h.2 m hx).1.far hG hb.size, hm m hx⟩⟩
theorem Wl.Idle.live {d : Dk.D} (i : Wl.Idle d) (h : d.left = -1) : Dk.Live 0 d := ⟨i.ok, h, i.dead, by rw [i.cache]; exact Nat.le_refl _⟩
theorem vchg_fine {s : VS} {d : Dk.D} {m : List (List UInt8)} (sw : Bool) (ho : s.over = false) (i : Wl.Idle d) (hl : d.left = -1) (t : Wl.Good d s.g s.h s.l) (hr : Wl.roomE (Wl.ring d - Wl.needs s.l) m = 0) (hg : s.g + 1 < 18446744073709551616) (hn : s.h + Wl.needs s.l + Wl.needs m < 18446744073709551616) :
    ∃ d', vchg s d (if sw = true then s.l.length else 0) m = (0, ⟨s.g + 1, Wl.nextHead s.h s.l sw, Wl.nextRecs s.l m sw, false⟩, d') ∧ Wl.Idle d' ∧ d'.left = -1 ∧ Wl.Good d' (s.g + 1) (Wl.nextHead s.h s.l sw) (Wl.nextRecs s.l m sw) ∧ d'.s.length = d.s.length := by
  obtain ⟨e, s', d', hv, hE⟩ := vchg_good (m := m) sw ho i (by omega) t hg hn
  obtain ⟨z1, z2⟩ := vchg_live (gone := if sw = true then s.l.length else 0) ho hr t.len (i.live hl)
  rw [hv] at z1 z2
  dsimp only at z1 z2
  subst z1
  obtain ⟨_, e2, _, _, _, e6, _⟩ := hE
  rcases e6 with ⟨_, f2, f3, f4⟩ | ⟨f1, _⟩ | ⟨f1, _⟩
  · rw [VS.of_wal f2] at hv
    exact ⟨d', hv, f3, z2.2.1, f4, e2⟩
  · omega
  · omega
theorem vcut_fine {s : VS} {d : Dk.D} {n : Nat} (ho : s.over = false) (i : Wl.Idle d) (hl : d.left = -1) (t : Wl.Good d s.g s.h s.l) (hk : n ≤ s.l.length) (hg : s.g + 1 < 18446744073709551616) (hn : s.h + Wl.needs s.l < 18446744073709551616) :
    ∃ d', vcut s d (n : Int) = (0, ⟨s.g + 1, s.h + Wl.needs (s.l.take n), s.l.drop n, false⟩, d') ∧ Wl.Idle d' ∧ d'.left = -1 ∧ Wl.Good d' (s.g + 1) (s.h + Wl.needs (s.l.take n)) (s.l.drop n) ∧ d'.s.length = d.s.length := by
  obtain ⟨e, s', d', hv, hE⟩ := vcut_good (n : Int) ho i (by omega) t hg hn
  have hr : Wl.roomE (Wl.ring d - Wl.needs s.l) [] = 0 := Wl.roomE_ok (by simp) (by simp [Wl.needs])
  obtain ⟨z1, z2⟩ := vchg_live (gone := n) ho hr t.len (i.live hl)
  have vc : vcut s d (n : Int) = vchg s d n [] := by unfold vcut; rw [if_neg (by rw [ho]; simp), if_neg (by omega)]; rfl
  rw [← vc, hv] at z1 z2
  rw [Int.toNat_natCast] at hE
  dsimp only at z1 z2
  subst z1
  obtain ⟨_, e2, _, _, _, e6, _⟩ := hE
  rcases e6 with ⟨_, f2, f3, f4⟩ | ⟨f1, _⟩ | ⟨f1, _⟩
  · rw [VS.of_wal f2] at hv
    exact ⟨d', hv, f3, z2.2.1, f4, e2⟩
  · omega
  · omega

/-- Two texts of one byte each, just made. -/
theorem txs_two {w : World} {G : Nat → Prop} (hG : ∀ k, G k → k < w.heap.size) : Txs (((w.alloc (.cells #[.int .u8 97] 5 (1, 2))).alloc (.cells #[.int .u8 98] 5 (1, 2))).alloc (.cells #[.slice (some ⟨w.heap.size, 0, none⟩) 1 1, .slice (some ⟨w.heap.size + 1, 0, none⟩) 1 1] 57)) G (some ⟨w.heap.size + 2, 0, none⟩) [⟨[97], some ⟨w.heap.size, 0, none⟩, 1⟩, ⟨[98], some ⟨w.heap.size + 1, 0, none⟩, 1⟩] := by
  have z1 : (w.alloc (.cells #[.int .u8 97] 5 (1, 2))).heap.size = w.heap.size + 1 := by simp
  have z2 : ((w.alloc (.cells #[.int .u8 97] 5 (1, 2))).alloc (.cells #[.int .u8 98] 5 (1, 2))).heap.size = w.heap.size + 2 := by simp
  have h1 := heap_alloc_new w (.cells #[.int .u8 97] 5 (1, 2))
  have h2 := heap_alloc_new (w.alloc (.cells #[.int .u8 97] 5 (1, 2))) (.cells #[.int .u8 98] 5 (1, 2))
  have h3 := heap_alloc_new ((w.alloc (.cells #[.int .u8 97] 5 (1, 2))).alloc (.cells #[.int .u8 98] 5 (1, 2))) (.cells #[.slice (some ⟨w.heap.size, 0, none⟩) 1 1, .slice (some ⟨w.heap.size + 1, 0, none⟩) 1 1] 57)
  have h1 := blk_alloc (blk_alloc h1 (.cells #[.int .u8 98] 5 (1, 2))) (.cells #[.slice (some ⟨w.heap.size, 0, none⟩) 1 1, .slice (some ⟨w.heap.size + 1, 0, none⟩) 1 1] 57)
  have h2 := blk_alloc h2 (.cells #[.slice (some ⟨w.heap.size, 0, none⟩) 1 1, .slice (some ⟨w.heap.size + 1, 0, none⟩) 1 1] 57)
  rw [z1] at h2
  rw [z2] at h3
  have far : ∀ g, w.heap.size ≤ g → g < w.heap.size + 3 → InF (fun k => ¬ G k ∧ k < (((w.alloc (.cells #[.int .u8 97] 5 (1, 2))).alloc (.cells #[.int .u8 98] 5 (1, 2))).alloc (.cells #[.slice (some ⟨w.heap.size, 0, none⟩) 1 1, .slice (some ⟨w.heap.size + 1, 0, none⟩) 1 1] 57)).heap.size) (some ⟨g, 0, none⟩) := fun g h1 h2 ad e => by
    injection e with e
    subst e
    exact ⟨fun q => by have := hG _ q; simp at this; omega, by simp; omega⟩
  refine ⟨Lies.of_blk h3, fun _ => far _ (by omega) (by omega), fun m hm => ?_⟩
  simp only [List.mem_cons, List.not_mem_nil, or_false] at hm
  rcases hm with rfl | rfl
  · exact ⟨⟨Lies.of_blk h1, Nat.le_refl 1⟩, fun _ => far _ (by omega) (by omega), (by decide : 1 ≤ 1000000)⟩
  · exact ⟨⟨Lies.of_blk h2, Nat.le_refl 1⟩, fun _ => far _ (by omega) (by omega), (by decide : 1 ≤ 1000000)⟩
theorem i64_of {z : Int} (h : z = -1) : z ≤ 9223372036854775807 := by omega

set_option maxHeartbeats 8000000 in
set_option maxRecDepth 100000 in
theorem awake7 (w : World) : Calls Tryz.prog 5 #[] w fun e w' => e = .returned (.bool true) ∧ Below w.heap.size w w' := by
  obtain ⟨f1, f2, f3, f4, f5⟩ := format_good (n := 8) (by decide)
  obtain ⟨D1, hD1⟩ : ∃ D, D = (Wl.format (Dk.new 8)).2 := ⟨_, rfl⟩
  rw [← hD1] at f2 f3 f4 f5
  have len1 : D1.s.length = 8 := by rw [f5]; rfl
  obtain ⟨D2, a1, a2, a3, a4, a5⟩ := vchg_fine (s := ⟨0, 0, [], false⟩) (d := D1) (m := [[97], [98]]) false rfl f2 f3 f4 (by unfold Wl.ring; rw [len1]; decide) (by decide) (by decide)
  obtain ⟨D3, b1, b2, b3, b4, b5⟩ := vcut_fine (s := ⟨1, 0, [[97], [98]], false⟩) (d := D2) (n := 1) rfl a2 a3 a4 (by decide) (by decide) (by decide)
  have OP1 := Lib.hid (f4.opens f2.clear)
  have OP3 := Lib.hid (b4.opens b2.clear)
  have F1 := Lib.hid f1
  have E1 := Lib.hid hD1
  have I1 := Lib.hid f2
  have L1 := Lib.hid f3
  have N1 := Lib.hid (show 3 ≤ D1.s.length by omega)
  have A1 := Lib.hid (show vchg ⟨0, 0, [], false⟩ D1 0 [[97], [98]] = (0, ⟨1, 0, [[97], [98]], false⟩, D2) from a1)
  have I2 := Lib.hid a2
  have L2 := Lib.hid a3
  have B1' := Lib.hid (show vcut ⟨1, 0, [[97], [98]], false⟩ D2 1 = (0, ⟨2, 1, [[98]], false⟩, D3) from b1)
  have I3 := Lib.hid b2
  have N3 := Lib.hid (show 3 ≤ D3.s.length by omega)
  have S12 := Lib.hid a5
  have S23 := Lib.hid b5
  clear f1 f2 f3 f4 f5 a1 a2 a3 a4 a5 b1 b2 b3 b4 b5 hD1 len1
  have kc := fun (w : World) (C : Array Value) (n c : Nat) => Lib.run_convert_bytes_const (P := Tryz.prog) w 57 5 C n c Tryz.underlying57 Tryz.underlying5
  go_enter Tryz.func5, Tryz.ntmps5
  go_wp2_with fail
  refine (cdNew_c _ _ (by decide)).mono ?_
  intro e w1 hp
  obtain ⟨q, G1, rfl, hs1, _, hb1⟩ := CNewOk.step (Nat.le_refl _) hp
  have S1 := Lib.hid hs1
  have B1 := Lib.hid hb1
  have z1 := hb1.size
  clear hp hs1 hb1
  go_wp2_with fail
  refine (vFormat_c S1.out.cd S1.out.old_lt (Dk.new_ok 8) (by decide) (by decide)).mono ?_
  rw [F1.out, ← E1.out]
  intro e w2 hp
  obtain ⟨rfl, G2, hs2⟩ := CdOk.step S1.out z1 hp
  have S2 := Lib.hid hs2.cs
  have B2 := Lib.hid (B1.out.trans hs2.below)
  have z2 := B2.out.size
  clear hp hs2
  go_wp2_with fail
  refine (vOpen_c S2.out.cd S2.out.old_lt I1.out.ok (by rw [I1.out.cache]; decide) N1.out).mono ?_
  rw [OP1.out]
  intro e w3 hp
  obtain ⟨pw, s, AR, cR, ms, rfl, hsw, _, _, hc3, _, _, hb3⟩ := hp.good S2.out z2 rfl
  have hs0 := VS.of_wal (g := 0) (h := 0) (l := []) hsw
  subst hs0
  have C3 := Lib.hid hc3
  have B3 := Lib.hid (B2.out.trans (hb3.mono z2))
  have z3 := B3.out.size
  have r3 : ms.length = ms.length := rfl
  clear hp hc3 hb3 hsw
  have kc2 := Go.Joins.run_convert_bytes_const_at (P := Tryz.prog) (w3.alloc (.cells #[.int .u8 97] 5 (1, 2))) 57 5 #[.int .u8 98] 1 1 (w3.heap.size + 1) (by simp) Tryz.underlying57 Tryz.underlying5
  go_wp2_with fail
  have al := ((((Below.refl w3.heap.size w3).alloc (Nat.le_refl _) (.cells #[.int .u8 97] 5 (1, 2))).alloc (by simp) (.cells #[.int .u8 98] 5 (1, 2))).alloc (by simp; omega) (.cells #[.slice (some ⟨w3.heap.size, 0, none⟩) 1 1, .slice (some ⟨w3.heap.size + 1, 0, none⟩) 1 1] 57))
  have C3a := Lib.hid (C3.out.keep al)
  have B3a := Lib.hid (B3.out.trans (al.mono z3))
  have z3a := B3a.out.size
  clear al
  refine (vAdd_c C3a.out.x I1.out.ok (i64_of L1.out) (by rw [I1.out.cache]; decide) (U64.of (by decide)) (txs_two C3.out.x.go) rfl (show 2 ≤ 1000 by decide) (show U64 (0 + Wl.needs [] + Wl.needs [[97], [98]]) from U64.of (by decide))).mono ?_
  rw [show vchg ⟨0, 0, [], false⟩ D1 0 (txs [⟨[97], some ⟨w3.heap.size, 0, none⟩, 1⟩, ⟨[98], some ⟨w3.heap.size + 1, 0, none⟩, 1⟩]) = (0, ⟨1, 0, [[97], [98]], false⟩, D2) from A1.out]
  intro e w4 hp
  obtain ⟨rfl, E4, G4, hs4⟩ := VOk.step C3a.out z3a hp
  have C4 := Lib.hid hs4.cs
  have B4 := Lib.hid (B3a.out.trans hs4.below)
  have z4 := B4.out.size
  clear hp hs4
  go_wp2_with fail
  refine (vCut_c C4.out.x I2.out.ok (i64_of L2.out) (by rw [I2.out.cache]; decide) (U64.of (by decide)) 1).mono ?_
  rw [B1'.out]
  intro e w5 hp
  obtain ⟨rfl, E5, G5, hs5⟩ := VOk.step C4.out z4 hp
  have C5 := Lib.hid hs5.cs
  have B5 := Lib.hid (B4.out.trans hs5.below)
  have z5 := B5.out.size
  clear hp hs5
  go_wp2_with fail
  refine (vOpen_c C5.out.cs.cd C5.out.cs.old_lt I3.out.ok (by rw [I3.out.cache]; decide) N3.out).mono ?_
  rw [OP3.out]
  intro e w6 hp
  obtain ⟨pw6, s6, AR6, cR6, ms6, rfl, hsw6, _, hms6, _, hr6, hf6, hb6⟩ := hp.good C5.out.cs z5 rfl
  have hs6 := VS.of_wal (g := 2) (h := 1) (l := [[98]]) hsw6
  subst hs6
  have B6 := Lib.hid (B5.out.trans (hb6.mono z5))
  match ms6, hms6, hr6, hf6 with
  | [m], hms6, hr6, hf6 =>
    obtain ⟨b, Ab, cb⟩ := m
    have hb : b = [98] := by simpa [txs] using hms6
    subst hb
    obtain ⟨g, e, _, _, hc, _⟩ := own_at hr6 (by simp)
    subst e
    have c0 : w6.cell? ⟨g, 0, none⟩ = some (.slice Ab 1 cb) := hc 0 _ rfl
    have cv := conv_at (c := cb) ((hf6 _ (List.mem_singleton.2 rfl)).1.1) rfl
    clear hp hb6 hsw6 hms6 hr6 hf6 hc
    dsimp only [List.length_cons, List.length_nil] at cv ⊢
    go_wp2
    go_ret
    exact ⟨rfl, B6.out⟩
  | [], hms6, _, _ => simp [txs] at hms6
  | _ :: _ :: _, hms6, _, _ => simp [txs] at hms6
end Go.Proofs.YtbfkjneidabijaaGreat
