/- Contracts of the document's own Save and Load. -/
import Derived.Test.YtbfkjneidabijaaGreatSo
import Derived.Test.YtbfkjneidabijaaGreatDr
import Derived.Test.YtbfkjneidabijaaGreatDh
namespace Go.Proofs.YtbfkjneidabijaaGreat
open Go.RowKit
set_option maxRecDepth 100000

/-- Two calls on the disk, one behind the other. -/
theorem disk_then {F : Nat → Prop} {w w1 w2 : World} {p : Nat} {d : Dk.D} (hb1 : But F w.heap.size w w1) (hr2 : RD w2 (Up (Up F w.heap.size) w1.heap.size) p d) (hb2 : But (Up F w.heap.size) w1.heap.size w1 w2) : RD w2 (Up F w.heap.size) p d ∧ But F w.heap.size w w2 :=
  ⟨hr2.mono (fun _ hk => hk.elim id (fun q => Or.inr (Nat.le_trans hb1.size q))), hb1.call hb2 hb1.size (fun _ h => h)⟩
theorem disk_down {F : Nat → Prop} {w w1 w2 : World} {p : Nat} {d : Dk.D} (hb : Below w.heap.size w w1) (hr2 : RD w2 (Up F w1.heap.size) p d) (hb2 : But F w1.heap.size w1 w2) : RD w2 (Up F w.heap.size) p d ∧ But F w.heap.size w w2 :=
  ⟨hr2.mono (fun _ hk => hk.elim Or.inl (fun q => Or.inr (Nat.le_trans hb.size q))), (But.of_below hb F).trans (hb2.mono hb.size (fun _ h => h))⟩

namespace Su
theorem save_long {d : Dk.D} {g : Nat} {l : List Nat} (h : 4 < l.length) : save d g l = (2, d) := by unfold save; rw [if_pos h]
theorem save_one {d d1 : Dk.D} {g : Nat} {l : List Nat} {e1 : Int} (h : ¬ 4 < l.length) (h1 : Dk.flush d = (e1, d1)) (hz : e1 ≠ 0) : save d g l = (e1, d1) := by unfold save; rw [if_neg h, h1, if_neg hz]
theorem save_two {d d1 d2 : Dk.D} {g : Nat} {l : List Nat} {e2 : Int} (h : ¬ 4 < l.length) (h1 : Dk.flush d = (0, d1)) (h2 : Dk.write d1 ((g % 2 : Nat) : Int) (slot g l) = (e2, d2)) (hz : e2 ≠ 0) : save d g l = (e2, d2) := by
  unfold save; rw [if_neg h, h1, if_pos rfl, h2, if_neg hz]
theorem save_three {d d1 d2 : Dk.D} {g : Nat} {l : List Nat} (h : ¬ 4 < l.length) (h1 : Dk.flush d = (0, d1)) (h2 : Dk.write d1 ((g % 2 : Nat) : Int) (slot g l) = (0, d2)) : save d g l = Dk.flush d2 := by
  unfold save; rw [if_neg h, h1, if_pos rfl, h2, if_pos rfl]
end Su
namespace Dk
theorem flush_left {d : D} (h : d.left ≤ 9223372036854775807) : (flush d).2.left ≤ 9223372036854775807 := by
  have q : (act d).2.left ≤ 9223372036854775807 := by
    unfold act
    split
    · exact h
    · split
      · show d.left - 1 ≤ _; omega
      · exact h
  unfold flush
  split
  all_goals exact q
theorem flush_few {d : D} {k : Nat} (h : d.cache.length ≤ k) : (flush d).2.cache.length ≤ k := by
  unfold flush
  split
  · exact Nat.zero_le _
  · rw [act_cache]; exact h
theorem write_left {d : D} (h : d.left ≤ 9223372036854775807) (i : Int) (b : List UInt8) : (write d i b).2.left ≤ 9223372036854775807 := by
  have q : (act d).2.left ≤ 9223372036854775807 := by
    unfold act
    split
    · exact h
    · split
      · show d.left - 1 ≤ _; omega
      · exact h
  unfold write
  repeat' split
  all_goals first | exact h | exact q
theorem write_few {d : D} {k : Nat} (h : d.cache.length ≤ k) (i : Int) (b : List UInt8) : (write d i b).2.cache.length ≤ k + 1 := by
  unfold write
  repeat' split
  all_goals first | exact Nat.le_succ_of_le h | (rw [act_cache]; exact Nat.le_succ_of_le h) | skip
  show ((act d).2.cache ++ [_]).length ≤ k + 1
  rw [List.length_append, act_cache]
  simp; omega
end Dk

set_option maxHeartbeats 4000000 in
set_option maxRecDepth 100000 in
theorem refSave_c {w : World} {F : Nat → Prop} {p : Nat} {d : Dk.D} {g n c : Nat} {A : Option Addr} {l : List Nat} {B : Nat} {t : TypeId} (h : RD w F p d) (hF : ∀ k, F k → k < w.heap.size) (hd : d.ok) (hl : d.left ≤ 9223372036854775807) (hcl : d.cache.length ≤ 10000000)
    (hL : Lies w B t A (ncells l)) (hn : n = l.length) (hg : U64 g) (hx : ∀ x ∈ l, U64 x) (hs : n ≤ 1000000000) :
    Calls Tryz.prog 56 #[.pointer (some ⟨p, 0, none⟩), .int .u64 (g : Int), .slice A n c] w (DiskOk F p (Su.save d g l).1 (Su.save d g l).2 w) := by
  have H := Lib.hid h
  have HF := Lib.hid hF
  have HD := Lib.hid hd
  have HL := Lib.hid hl
  have HC := Lib.hid hcl
  have LN := Lib.hid hL
  have HN := Lib.hid hn
  have HG := Lib.hid hg
  have HX := Lib.hid hx
  clear h hF hd hl hcl hL hn hg hx
  by_cases h4 : 4 < n
  · rw [Su.save_long (by rw [← HN.out]; exact h4)]
    have se : Su.slotE l = 2 := by unfold Su.slotE; rw [if_pos (by rw [← HN.out]; exact h4)]
    have SE := Lib.hid se
    clear se
    go_enter Tryz.func56, Tryz.ntmps56
    go_wp2_with fail
    refine (refSlot_c LN.out HN.out HG.out HX.out hs).mono ?_
    rw [SE.out]
    rintro e w1 ⟨A1, n1, c1, rfl, _, _, _, hb1⟩
    have B1 := Lib.hid hb1
    clear hb1
    go_wp2
    go_ret
    exact ⟨rfl, (H.out.keep (fun k hk => B1.out.block k (HF.out k hk))).mono (fun _ h => Or.inl h), But.of_below B1.out F⟩
  · have SN := Lib.hid (show ¬ 4 < l.length by rw [← HN.out]; exact h4)
    have se : Su.slotE l = 0 := by unfold Su.slotE; rw [if_neg SN.out]
    have sb : Su.slotB g l = Su.slot g l := by unfold Su.slotB; rw [if_neg SN.out]
    have SE := Lib.hid se
    have SB := Lib.hid sb
    have SF := Su.slot_fits (g := g) (l := l) (by have := SN.out; omega)
    have gm : ((g % 2 : Nat) : Int) = (g : Int) % 2 := by omega
    have GM := Lib.hid gm
    clear se sb gm
    obtain ⟨e1, d1, h1⟩ : ∃ e1 d1, Dk.flush d = (e1, d1) := ⟨_, _, rfl⟩
    have H1 := Lib.hid h1
    have D1 := Lib.hid (show d1.ok by have q := Dk.flush_ok HD.out; rw [h1] at q; exact q)
    have L1 := Lib.hid (show d1.left ≤ 9223372036854775807 by have q := Dk.flush_left HL.out; rw [h1] at q; exact q)
    have C1 := Lib.hid (show d1.cache.length ≤ 10000000 by have q := Dk.flush_few HC.out; rw [h1] at q; exact q)
    obtain ⟨e2, d2, h2⟩ : ∃ e2 d2, Dk.write d1 ((g % 2 : Nat) : Int) (Su.slot g l) = (e2, d2) := ⟨_, _, rfl⟩
    have H2 := Lib.hid h2
    have D2 := Lib.hid (show d2.ok by have q := Dk.write_ok D1.out ((g % 2 : Nat) : Int) (Su.slot g l); rw [h2] at q; exact q)
    have L2 := Lib.hid (show d2.left ≤ 9223372036854775807 by have q := Dk.write_left L1.out ((g % 2 : Nat) : Int) (Su.slot g l); rw [h2] at q; exact q)
    have C2 := Lib.hid (show d2.cache.length ≤ 10000001 by have q := Dk.write_few C1.out ((g % 2 : Nat) : Int) (Su.slot g l); rw [h2] at q; exact q)
    clear h1 h2
    go_enter Tryz.func56, Tryz.ntmps56
    go_wp2_with fail
    refine (refSlot_c LN.out HN.out HG.out HX.out hs).mono ?_
    rw [SE.out, SB.out]
    rintro e w1 ⟨A1, n1, c1, rfl, hn1, hc1, ho1, hb1⟩
    obtain ⟨wt, hwt⟩ : ∃ wt, wt = Su.slot g l := ⟨_, rfl⟩
    rw [← hwt] at hn1 ho1 SF
    have WT := Lib.hid hwt
    subst hn1
    have B1 := Lib.hid hb1
    have O1 := Lib.hid ho1
    have R1 := Lib.hid (H.out.keep (fun k hk => hb1.block k (HF.out k hk)))
    clear hb1 ho1 hwt
    go_wp2_with fail
    refine (refFlush_c R1.out HD.out HL.out (by have := HC.out; omega)).mono ?_
    rw [H1.out]
    rintro e w2 ⟨rfl, hr2, hb2⟩
    have R2 := Lib.hid hr2
    have B2 := Lib.hid hb2
    clear hr2 hb2
    by_cases z1 : e1 = 0
    · subst z1
      go_wp2_with fail
      have O2 := Lib.hid (own_keep O1.out (fun k e => B2.out.block k (O1.out.lt k e).2 (fun f => by have := HF.out k f; have := (O1.out.lt k e).1; omega)))
      have IN := Lib.hid (show bcells wt ≠ [] → InF (fun k => ¬ Up F w1.heap.size k ∧ k < w2.heap.size) A1 from fun _ ad e => by
        subst e
        have q := O1.out.lt ad.block rfl
        exact ⟨fun u => u.elim (fun f => by have := HF.out _ f; omega) (fun x => by omega), by have := B2.out.size; omega⟩)
      refine (refWrite_c R2.out D1.out L1.out (by have := C1.out; omega) (lies_own (B := 0) O2.out) IN.out rfl _).mono ?_
      rw [← GM.out, WT.out, H2.out]
      rintro e w3 ⟨rfl, hr3, hb3⟩
      obtain ⟨q1, q2⟩ := disk_then B2.out hr3 hb3
      have R3 := Lib.hid q1
      have B3 := Lib.hid q2
      clear hr3 hb3 q1 q2
      by_cases z2 : e2 = 0
      · subst z2
        have SV := Lib.hid (Su.save_three SN.out H1.out H2.out)
        go_wp2_with fail
        refine (refFlush_c R3.out D2.out L2.out (by have := C2.out; omega)).mono ?_
        rintro e w4 ⟨rfl, hr4, hb4⟩
        obtain ⟨q1, q2⟩ := disk_then B3.out hr4 hb4
        obtain ⟨q3, q4⟩ := disk_down B1.out q1 q2
        have R4 := Lib.hid q3
        have B4 := Lib.hid q4
        clear hr4 hb4 q1 q2 q3 q4
        go_wp2
        go_ret
        rw [SV.out]
        exact ⟨rfl, R4.out, B4.out⟩
      · have zz : (e2 != 0) = true := by simp [z2]
        have SV := Lib.hid (Su.save_two (g := g) SN.out H1.out H2.out z2)
        clear z2
        go_wp2
        go_ret
        rw [SV.out]
        obtain ⟨q1, q2⟩ := disk_down B1.out R3.out B3.out
        exact ⟨rfl, q1, q2⟩
    · have zz : (e1 != 0) = true := by simp [z1]
      have SV := Lib.hid (Su.save_one (g := g) SN.out H1.out z1)
      clear z1
      go_wp2
      go_ret
      rw [SV.out]
      obtain ⟨q1, q2⟩ := disk_down B1.out R2.out B2.out
      exact ⟨rfl, q1, q2⟩
namespace Su
theorem load_one {d : Dk.D} {b : List UInt8} {e : Int} (h : Dk.read d 0 = (b, e)) (hz : e ≠ 0) : load d = (0, [], e) := by unfold load; rw [h, if_neg hz]
theorem load_two {d : Dk.D} {b c : List UInt8} {e : Int} (h : Dk.read d 0 = (b, 0)) (h2 : Dk.read d 1 = (c, e)) (hz : e ≠ 0) : load d = (0, [], e) := by unfold load; rw [h, if_pos rfl, h2, if_neg hz]
theorem load_all {d : Dk.D} {b c : List UInt8} (h : Dk.read d 0 = (b, 0)) (h2 : Dk.read d 1 = (c, 0)) : load d = ofPick (pick (unslot b) (unslot c)) := by unfold load; rw [h, if_pos rfl, h2, if_pos rfl]
end Su
theorem read_len {d : Dk.D} (h : d.ok) (i : Int) : (Dk.read d i).1.length ≤ 64 := by
  unfold Dk.read
  repeat' split
  all_goals first | exact Nat.zero_le _ | skip
  rename_i h1 _
  have := Dk.has_iff.1 (show Dk.has d i = true by simpa using h1)
  exact Nat.le_of_eq (Dk.look_len h (by omega))

set_option maxHeartbeats 4000000 in
set_option maxRecDepth 100000 in
theorem refLoad_c {w : World} {F : Nat → Prop} {p : Nat} {d : Dk.D} (h : RD w F p d) (hF : ∀ k, F k → k < w.heap.size) (hd : d.ok) (hcl : d.cache.length ≤ 10000000) :
    Calls Tryz.prog 39 #[.pointer (some ⟨p, 0, none⟩)] w (NErrOk w.heap.size (Su.load d) w) := by
  have H := Lib.hid h
  have HF := Lib.hid hF
  have HD := Lib.hid hd
  clear h hF hd
  obtain ⟨b0, e0, h0⟩ : ∃ b e, Dk.read d 0 = (b, e) := ⟨_, _, rfl⟩
  obtain ⟨b1, e1, h1⟩ : ∃ b e, Dk.read d 1 = (b, e) := ⟨_, _, rfl⟩
  have K0 := Lib.hid (show b0.length ≤ 64 by have q := read_len HD.out 0; rw [h0] at q; exact q)
  have K1 := Lib.hid (show b1.length ≤ 64 by have q := read_len HD.out 1; rw [h1] at q; exact q)
  have H0 := Lib.hid h0
  have H1 := Lib.hid h1
  clear h0 h1
  go_enter Tryz.func39, Tryz.ntmps39
  go_wp2_with fail
  refine (refRead_c H.out HD.out (by omega) 0).mono ?_
  rw [H0.out]
  rintro e w1 ⟨A1, n1, c1, rfl, hn1, hc1, ho1, hb1⟩
  subst hn1
  have O1 := Lib.hid ho1
  have B1 := Lib.hid hb1
  have R1 := Lib.hid (H.out.keep (fun k hk => hb1.block k (HF.out k hk)))
  have z1 := hb1.size
  clear ho1 hb1
  by_cases q0 : e0 = 0
  · subst q0
    go_wp2_with fail
    refine (refRead_c R1.out HD.out (by omega) 1).mono ?_
    rw [H1.out]
    rintro e w2 ⟨A2, n2, c2, rfl, hn2, hc2, ho2, hb2⟩
    subst hn2
    have O2 := Lib.hid ho2
    have O12 := Lib.hid (own_below O1.out hb2)
    have B2 := Lib.hid (B1.out.trans (hb2.mono z1))
    have z2 := B2.out.size
    clear ho2 hb2
    by_cases q1 : e1 = 0
    · subst q1
      have LD := Lib.hid (Su.load_all H0.out H1.out)
      go_wp2_with fail
      refine (refUnslot_c (lies_own (B := 0) O12.out) rfl hc1 (by have := K0.out; omega)).mono ?_
      rintro e w3 ⟨A3, n3, c3, rfl, hn3, hc3, ho3, hb3⟩
      have O3 := Lib.hid (own_less ho3 z2)
      have N3 := Lib.hid hn3
      have O23 := Lib.hid (own_below O2.out hb3)
      have B3 := Lib.hid (B2.out.trans (hb3.mono z2))
      have z3 := B3.out.size
      clear ho3 hb3 hn3
      go_wp2_with fail
      refine (refUnslot_c (lies_own (B := 0) O23.out) rfl hc2 (by have := K1.out; omega)).mono ?_
      rintro e w4 ⟨A4, n4, c4, rfl, hn4, hc4, ho4, hb4⟩
      have O4 := Lib.hid (own_less ho4 z3)
      have N4 := Lib.hid hn4
      have O34 := Lib.hid (own_below O3.out hb4)
      have B4 := Lib.hid (B3.out.trans (hb4.mono z3))
      clear ho4 hb4 hn4
      cases u0 : Su.unslot b0 with
      | none =>
        cases u1 : Su.unslot b1 with
        | none =>
          have U := Lib.hid (show Su.pick (Su.unslot b0) (Su.unslot b1) = none by rw [u0, u1]; rfl)
          clear u0 u1
          dsimp only [Su.ofPick]
          go_wp2
          refine bodyPost_ret (v := .tuple #[.int .u64 0, .slice none 0 0, .int .i64 60]) (by simp [results, Tryz.results39, go_sem]) rfl ?_
          rw [LD.out, U.out]
          exact NErrOk.bad B4.out
        | some y =>
          obtain ⟨g4, l4⟩ := y
          have U := Lib.hid (show Su.pick (Su.unslot b0) (Su.unslot b1) = some (g4, l4) by rw [u0, u1]; rfl)
          rw [u1] at N4 O4
          clear u0 u1
          dsimp only [Su.ofPick] at N4 O4 ⊢
          go_wp2
          refine bodyPost_ret (v := .tuple #[.int .u64 (g4 : Int), .slice A4 n4 c4, .int .i64 0]) (by simp [results, Tryz.results39, go_sem]) rfl ?_
          rw [LD.out, U.out]
          exact ⟨A4, n4, c4, rfl, N4.out, hc4, O4.out, B4.out⟩
      | some x =>
        obtain ⟨g3, l3⟩ := x
        cases u1 : Su.unslot b1 with
        | none =>
          have U := Lib.hid (show Su.pick (Su.unslot b0) (Su.unslot b1) = some (g3, l3) by rw [u0, u1]; rfl)
          rw [u0] at N3 O34
          clear u0 u1
          dsimp only [Su.ofPick] at N3 O34 ⊢
          go_wp2
          refine bodyPost_ret (v := .tuple #[.int .u64 (g3 : Int), .slice A3 n3 c3, .int .i64 0]) (by simp [results, Tryz.results39, go_sem]) rfl ?_
          rw [LD.out, U.out]
          exact ⟨A3, n3, c3, rfl, N3.out, hc3, O34.out, B4.out⟩
        | some y =>
          obtain ⟨g4, l4⟩ := y
          by_cases hlt : g3 < g4
          · have U := Lib.hid (show Su.pick (Su.unslot b0) (Su.unslot b1) = some (g4, l4) by rw [u0, u1]; exact if_pos hlt)
            rw [u1] at N4 O4
            have dl : decide (g3 < g4) = true := by simp [hlt]
            clear u0 u1 hlt
            dsimp only [Su.ofPick] at N4 O4 ⊢
            go_wp2
            refine bodyPost_ret (v := .tuple #[.int .u64 (g4 : Int), .slice A4 n4 c4, .int .i64 0]) (by simp [results, Tryz.results39, go_sem]) rfl ?_
            rw [LD.out, U.out]
            exact ⟨A4, n4, c4, rfl, N4.out, hc4, O4.out, B4.out⟩
          · have U := Lib.hid (show Su.pick (Su.unslot b0) (Su.unslot b1) = some (g3, l3) by rw [u0, u1]; exact if_neg hlt)
            rw [u0] at N3 O34
            have dl : decide (g3 < g4) = false := by simp [hlt]
            clear u0 u1 hlt
            dsimp only [Su.ofPick] at N3 O34 ⊢
            go_wp2
            refine bodyPost_ret (v := .tuple #[.int .u64 (g3 : Int), .slice A3 n3 c3, .int .i64 0]) (by simp [results, Tryz.results39, go_sem]) rfl ?_
            rw [LD.out, U.out]
            exact ⟨A3, n3, c3, rfl, N3.out, hc3, O34.out, B4.out⟩
    · have zz : (e1 != 0) = true := by simp [q1]
      have LD := Lib.hid (Su.load_two H0.out H1.out q1)
      clear q1
      go_wp2
      refine bodyPost_ret (v := .tuple #[.int .u64 0, .slice none 0 0, .int .i64 e1]) (by simp [results, Tryz.results39, go_sem]) rfl ?_
      rw [LD.out]
      exact NErrOk.bad B2.out
  · have zz : (e0 != 0) = true := by simp [q0]
    have LD := Lib.hid (Su.load_one H0.out q0)
    clear q0
    go_wp2
    refine bodyPost_ret (v := .tuple #[.int .u64 0, .slice none 0 0, .int .i64 e0]) (by simp [results, Tryz.results39, go_sem]) rfl ?_
    rw [LD.out]
    exact NErrOk.bad B1.out
end Go.Proofs.YtbfkjneidabijaaGreat
