/- The law CodecReads: a reader tells part by part what the document says, with bounds, until it fails. Every input, no condition: the walk. -/
import Derived.Test.YtobdaiiojclfkaaCn
import Derived.Test.YtobdaiiojclfkaaRs
namespace Go.Proofs.Ytobdaiiojclfkaa
open Go.RowKit

def small (s : Option (List UInt8)) : Prop := ∀ l, s = some l → l.length ≤ 1099511627776
theorem small_none : small none := fun _ h => by cases h
theorem small_of {s s' : Option (List UInt8)} (h : small s) (hs : ∀ t, s' = some t → ∃ l, s = some l ∧ t.length ≤ l.length) : small s' := fun t ht => by
  obtain ⟨l, h1, h2⟩ := hs t ht
  exact Nat.le_trans h2 (h l h1)
theorem rdN_less (m : Nat) (s : Option (List UInt8)) : ∀ t, (Cd.rdN m s).2 = some t → ∃ l, s = some l ∧ t.length ≤ l.length := by
  intro t ht
  cases s with
  | none => simp [Cd.rdN] at ht
  | some l =>
    refine ⟨l, rfl, ?_⟩
    have q := (Cd.read_num (n := (Cd.rdN m (some l)).1) (Cd.pair_of ht)).1
    rw [q, List.length_append]; omega
theorem rdW_less (m : Nat) (s : Option (List UInt8)) : ∀ t, (Cd.rdW m s).2 = some t → ∃ l, s = some l ∧ t.length ≤ l.length := by
  intro t ht
  cases s with
  | none => simp [Cd.rdW] at ht
  | some l =>
    refine ⟨l, rfl, ?_⟩
    simp only [Cd.rdW] at ht
    split at ht
    · simp only [Option.some.injEq] at ht
      rw [← ht, List.length_drop]; omega
    · cases ht
theorem rdF_less (s : Option (List UInt8)) : ∀ t, (Cd.rdF s).2 = some t → ∃ l, s = some l ∧ t.length ≤ l.length := by
  intro t ht
  unfold Cd.rdF at ht
  split at ht
  · cases ht
  · rename_i u hu
    split at ht
    · simp only [Option.some.injEq] at ht
      subst ht
      exact rdW_less 8 s u hu
    · cases ht
theorem rdB_less (m : Nat) (s : Option (List UInt8)) : ∀ t, (Cd.rdB m s).2 = some t → ∃ l, s = some l ∧ t.length ≤ l.length := by
  intro t ht
  rw [rdB_eq] at ht
  obtain ⟨l, h1, h2⟩ := rdW_less _ _ t ht
  obtain ⟨l0, h3, h4⟩ := rdN_less m s l h1
  exact ⟨l0, h3, Nat.le_trans h2 h4⟩
theorem rdG_less (s : Option (List UInt8)) : ∀ t, (Cd.rdG s).2 = some t → ∃ l, s = some l ∧ t.length ≤ l.length := by
  intro t ht
  have q := Cd.rdG_num s
  rw [← q] at ht
  exact rdN_less 1 s t ht
theorem RS.drew {t tb : TypeId} {B p : Nat} {w : World} {s : Option (List UInt8)} (h : RS t B tb w p s) : RS t B tb w.drew p s := by
  cases s with
  | none => exact ⟨h.1, h.2⟩
  | some l => exact ⟨h.1, h.2⟩
theorem Tch.of_drew {B : Nat} {ts : List TypeId} {w w' : World} (h : Tch B ts w.drew w') : Tch B ts w w' := ⟨⟨h.below.os, h.below.tape, h.below.output, h.below.size, h.below.block⟩, h.typed⟩

set_option maxHeartbeats 16000000 in
set_option maxRecDepth 100000 in
theorem codecReads_c {A0 A1 : Option Addr} {c0 c1 n0 n1 : Nat} {ms : List MPt} {b : List UInt8} {w : World} (h0 : Lies w w.heap.size 0 A0 (bcells b)) (hc0 : b.length ≤ c0) (h1 : PL w w.heap.size 0 0 A1 ms) (hk : ∀ m ∈ ms, m.pt.ok) (e0 : n0 = b.length) (e1 : n1 = ms.length) (hs : n1 ≤ 9223372036854775807) :
    Calls Try.prog 6 #[.slice A0 n0 c0, .slice A1 n1 c1] w fun e w' => e = .returned (.bool true) ∧ Below w.heap.size w w' := by
  have H0 := Lib.hid h0
  have H1 := Lib.hid h1
  have HK := Lib.hid hk
  have E0 := Lib.hid e0
  have HC := Lib.hid hc0
  have HS := Lib.hid hs
  clear h0 hk h1 e0 hs hc0
  by_cases big : 500 < n0
  · have E1 := Lib.hid e1
    clear e1
    go_enter Try.func6, Try.ntmps6
    go_wp2_with (go_at_call 7; refine (awake2_c _).mono ?_; rintro e w1 ⟨rfl, hb1⟩; have HB1 := Lib.hid hb1; clear hb1)
    go_ret
    exact ⟨rfl, HB1.out⟩
  · have b0 : n0 ≤ 500 := by omega
    clear big
    cases hf : fewB (pts ms)
    · have HF := Lib.hid hf
      have E1 := Lib.hid e1
      clear hf e1
      go_enter Try.func6, Try.ntmps6
      go_wp2_with (first
        | (go_at_call 7; refine (awake2_c _).mono ?_; rintro e w1 ⟨rfl, hb1⟩; have HB1 := Lib.hid hb1; clear hb1)
        | (go_at_call 8; refine (few_at HF.out (H1.out.below (Nat.le_refl _) HB1.out) HB1.out.size E1.out HS.out).mono ?_; rintro e w2 ⟨rfl, hb2⟩; have HB2 := Lib.hid (HB1.out.trans (hb2.mono HB1.out.size)); clear hb2))
      go_ret
      exact ⟨rfl, HB2.out⟩
    · have hsm := few_small hf
      have HF := Lib.hid hf
      have HSM := Lib.hid hsm
      have m20 := hsm.1
      clear hf hsm
      subst e1
      go_enter Try.func6, Try.ntmps6
      go_wp2_with (first
        | (go_at_call 7; refine (awake2_c _).mono ?_; rintro e w1 ⟨rfl, hb1⟩; have HB1 := Lib.hid hb1; clear hb1)
        | (go_at_call 8; refine (few_at HF.out (H1.out.below (Nat.le_refl _) HB1.out) HB1.out.size rfl HS.out).mono ?_; rintro e w2 ⟨rfl, hb2⟩; have HB2 := Lib.hid (HB1.out.trans (hb2.mono HB1.out.size)); clear hb2))
      refine (read_c (H0.out.below (Nat.le_refl _) HB2.out) HB2.out.size E0.out (by have := E0.out; omega)).mono ?_
      rintro e w3 ⟨p, rfl, hr, hb3⟩
      have hz23 := hb3.size
      have HB3 := Lib.hid (HB2.out.trans (hb3.mono HB2.out.size))
      have hq : RS 47 w2.heap.size 0 (w3.alloc (.cells #[.slice A0 n0 c0, .bool false] 47)) w3.heap.size (some b) := by
        have e := E0.out
        subst e
        exact ⟨hz23, A0, c0, HC.out, heap_alloc_new w3 _, ((H0.out.below (Nat.le_refl _) HB3.out).more HB2.out.size).alloc hz23 _⟩
      have HR3 := Lib.hid (hr.alloc (.cells #[.slice A0 n0 c0, .bool false] 47))
      have HQ3 := Lib.hid hq
      have HB4 := Lib.hid (HB3.out.alloc HB3.out.size (.cells #[.slice A0 n0 c0, .bool false] 47))
      have SM : Hid (small (some b)) := fun l h => by injection h with h; subst h; have := E0.out; omega
      have hzw2 := HB2.out.size
      clear hr hq hb3
      go_wp2_with fail
      go_loopw [27] (fun i wr => ∃ (k : Nat) (s : Option (List UInt8)), k ≤ ms.length ∧ i = .int .i64 k ∧ RS 74 w2.heap.size 5 wr p s ∧ RS 47 w2.heap.size 0 wr w3.heap.size s ∧ small s ∧ Below w.heap.size w wr) (fun i _ => ms.length - (intOf i).toNat)
      case atStart => exact ⟨0, some b, by omega, rfl, HR3.out, HQ3.out, SM.out, HB4.out⟩
      case round =>
        obtain ⟨k, s, hk, rfl, hr, hq, hsm, hb⟩ := hrel
        have HR := Lib.hid hr
        have HQ := Lib.hid hq
        have SMS := Lib.hid hsm
        have HB := Lib.hid hb
        have hbs := hb.size
        have hrs := hr.size
        clear hr hq hsm hb
        by_cases hlt : k < ms.length
        · obtain ⟨ad, m, rfl, hm', hfm, d0, d1, d2, d3, d4, d5⟩ := (H1.out.below (Nat.le_refl _) HB.out).at_ hlt
          have OK := Lib.hid (HK.out m (List.mem_of_getElem? hm'))
          have b200 := HSM.out.2.1 m (List.mem_of_getElem? hm')
          have HRw := Lib.hid (HR.out.alloc (.cells m.cells.toArray 39))
          have HQw := Lib.hid (HQ.out.alloc (.cells m.cells.toArray 39))
          have HBw := Lib.hid (HB.out.alloc hbs (.cells m.cells.toArray 39))
          have blk := heap_alloc_new wr (.cells m.cells.toArray 39)
          have BLK := Lib.hid blk
          clear hm' hfm blk
          by_cases hk1 : m.pt.kind = 1
          · have q1 : (m.pt.kind == 1) = true := by simpa using hk1
            clear hk1
            obtain ⟨s2, hs2⟩ : ∃ s2, (Cd.rdN m.pt.n.toNat s).2 = s2 := ⟨_, rfl⟩
            have SM2 : Hid (small s2) := by rw [← hs2]; exact small_of SMS.out (rdN_less _ _)
            have HS2 := Lib.hid hs2
            clear hs2
            have X0 : Hid ((wr.alloc (.cells m.cells.toArray 39)).drew.cell? ⟨wr.heap.size, 1, none⟩ = some (.int .u64 m.pt.n)) := (six BLK.out).2.1
            go_wp2_with fail
            go_region_held (fun w' => w'.cell? ⟨wr.heap.size, 1, none⟩ = some (.int .u64 m.pt.n)) (first | exact X0.out | exact x1 | exact x2) (first | (go_at_call 18; refine (rN_rd HRw.out.drew (by decide) SMS.out OK.out.n0).mono ?_; rintro e w5 ⟨rfl, hr5, ht5⟩; have t5 := ht5.of_drew; rw [HS2.out] at hr5; have HQ5 := Lib.hid (HQw.out.tch t5 (by decide) (by decide)); have HR5 := Lib.hid hr5; have TA := Lib.hid (t5.more (ts' := [74, 47]) (by decide)); have y5 := t5.blk BLK.out (by decide); have x1 := (six y5).2.1; have Y5 := Lib.hid y5; clear y5; clear hr5 ht5 t5) | (go_at_call 19; refine (rN_rr HQ5.out (by decide) SMS.out OK.out.n0).mono ?_; rintro e w6 ⟨rfl, hq6, ht6⟩; rw [HS2.out] at hq6; have HQ2 := Lib.hid hq6; have HR2 := Lib.hid (HR5.out.tch ht6 (by decide) (by decide)); have TB := Lib.hid (TA.out.trans (ht6.more (ts' := [74, 47]) (by decide))); have x2 := (six (ht6.blk Y5.out (by decide))).2.1; clear hq6 ht6))
            have HB5 := Lib.hid (HBw.out.trans (TB.out.below.mono hzw2))
            obtain ⟨Aq, cq, hcq, cell⟩ := lst_of HQ2.out
            have LC : Hid (Calls Try.prog 29 #[.pointer (some ⟨p, 0, none⟩)] w6.drew fun e w' => e = .returned (.int .i64 (leftOf s2 : Int)) ∧ w6.drew = w') := left_rd HR2.out.drew
            go_wp2_with fail
            go_region_held (fun w' => w'.cell? ⟨w3.heap.size, 0, none⟩ = some (.slice Aq (leftOf s2) cq)) (first | exact cell) (first | (go_at_call 29; refine LC.out.mono ?_; rintro e w' ⟨rfl, rfl⟩))
            go_wp2
            go_roundw
            case rel => exact ⟨k + 1, s2, by omega, by go_num, HR2.out.drew, HQ2.out.drew, SM2.out, HB5.out.drew⟩
            case measure => simp [intOf]; omega
          by_cases hk2 : m.pt.kind = 2
          · have q1 : (m.pt.kind == 1) = false := by simpa using hk1
            have q2 : (m.pt.kind == 2) = true := by simpa using hk2
            clear hk1 hk2
            obtain ⟨s2, hs2⟩ : ∃ s2, (Cd.rdI s).2 = s2 := ⟨_, rfl⟩
            have SM2 : Hid (small s2) := by rw [← hs2]; exact small_of SMS.out (rdN_less _ _)
            have HS2 := Lib.hid hs2
            clear hs2
            go_wp2_with (first | (go_at_call 20; refine (rI_rd HRw.out (by decide) SMS.out).mono ?_; rintro e w5 ⟨rfl, hr5, ht5⟩; have t5 := ht5; rw [HS2.out] at hr5; have HQ5 := Lib.hid (HQw.out.tch t5 (by decide) (by decide)); have HR5 := Lib.hid hr5; have TA := Lib.hid (t5.more (ts' := [74, 47]) (by decide)); clear hr5 ht5 t5) | (go_at_call 21; refine (rI_rr HQ5.out (by decide) SMS.out).mono ?_; rintro e w6 ⟨rfl, hq6, ht6⟩; rw [HS2.out] at hq6; have HQ2 := Lib.hid hq6; have HR2 := Lib.hid (HR5.out.tch ht6 (by decide) (by decide)); have TB := Lib.hid (TA.out.trans (ht6.more (ts' := [74, 47]) (by decide))); clear hq6 ht6))
            have HB5 := Lib.hid (HBw.out.trans (TB.out.below.mono hzw2))
            obtain ⟨Aq, cq, hcq, cell⟩ := lst_of HQ2.out
            have LC : Hid (Calls Try.prog 29 #[.pointer (some ⟨p, 0, none⟩)] w6.drew fun e w' => e = .returned (.int .i64 (leftOf s2 : Int)) ∧ w6.drew = w') := left_rd HR2.out.drew
            go_wp2_with fail
            go_region_held (fun w' => w'.cell? ⟨w3.heap.size, 0, none⟩ = some (.slice Aq (leftOf s2) cq)) (first | exact cell) (first | (go_at_call 29; refine LC.out.mono ?_; rintro e w' ⟨rfl, rfl⟩))
            go_wp2
            go_roundw
            case rel => exact ⟨k + 1, s2, by omega, by go_num, HR2.out.drew, HQ2.out.drew, SM2.out, HB5.out.drew⟩
            case measure => simp [intOf]; omega
          by_cases hk3 : m.pt.kind = 3
          · have q1 : (m.pt.kind == 1) = false := by simpa using hk1
            have q2 : (m.pt.kind == 2) = false := by simpa using hk2
            have q3 : (m.pt.kind == 3) = true := by simpa using hk3
            clear hk1 hk2 hk3
            obtain ⟨s2, hs2⟩ : ∃ s2, (Cd.rdF s).2 = s2 := ⟨_, rfl⟩
            have SM2 : Hid (small s2) := by rw [← hs2]; exact small_of SMS.out (rdF_less _)
            have HS2 := Lib.hid hs2
            clear hs2
            go_wp2_with (first | (go_at_call 23; refine (rF_rd HRw.out (by decide) SMS.out).mono ?_; rintro e w5 ⟨rfl, hr5, ht5⟩; have t5 := ht5; rw [HS2.out] at hr5; have HQ5 := Lib.hid (HQw.out.tch t5 (by decide) (by decide)); have HR5 := Lib.hid hr5; have TA := Lib.hid (t5.more (ts' := [74, 47]) (by decide)); clear hr5 ht5 t5) | (go_at_call 24; refine (rF_rr HQ5.out (by decide) SMS.out).mono ?_; rintro e w6 ⟨rfl, hq6, ht6⟩; rw [HS2.out] at hq6; have HQ2 := Lib.hid hq6; have HR2 := Lib.hid (HR5.out.tch ht6 (by decide) (by decide)); have TB := Lib.hid (TA.out.trans (ht6.more (ts' := [74, 47]) (by decide))); clear hq6 ht6) | (go_at_call 22; refine (bits_c _ _).mono ?_; rintro e w' ⟨rfl, rfl⟩))
            have HB5 := Lib.hid (HBw.out.trans (TB.out.below.mono hzw2))
            obtain ⟨Aq, cq, hcq, cell⟩ := lst_of HQ2.out
            have LC : Hid (Calls Try.prog 29 #[.pointer (some ⟨p, 0, none⟩)] w6.drew fun e w' => e = .returned (.int .i64 (leftOf s2 : Int)) ∧ w6.drew = w') := left_rd HR2.out.drew
            go_wp2_with fail
            go_region_held (fun w' => w'.cell? ⟨w3.heap.size, 0, none⟩ = some (.slice Aq (leftOf s2) cq)) (first | exact cell) (first | (go_at_call 29; refine LC.out.mono ?_; rintro e w' ⟨rfl, rfl⟩))
            go_wp2
            go_roundw
            case rel => exact ⟨k + 1, s2, by omega, by go_num, HR2.out.drew, HQ2.out.drew, SM2.out, HB5.out.drew⟩
            case measure => simp [intOf]; omega
          by_cases hk4 : m.pt.kind = 4
          · have q1 : (m.pt.kind == 1) = false := by simpa using hk1
            have q2 : (m.pt.kind == 2) = false := by simpa using hk2
            have q3 : (m.pt.kind == 3) = false := by simpa using hk3
            have q4 : (m.pt.kind == 4) = true := by simpa using hk4
            clear hk1 hk2 hk3 hk4
            obtain ⟨s2, hs2⟩ : ∃ s2, (Cd.rdB m.pt.b.length s).2 = s2 := ⟨_, rfl⟩
            have SM2 : Hid (small s2) := by rw [← hs2]; exact small_of SMS.out (rdB_less _ _)
            have HS2 := Lib.hid hs2
            clear hs2
            have X0 : Hid ((wr.alloc (.cells m.cells.toArray 39)).drew.cell? ⟨wr.heap.size, 4, none⟩ = some (.slice m.A m.pt.b.length m.c)) := (six BLK.out).2.2.2.2.1
            go_wp2_with fail
            go_region_held (fun w' => w'.cell? ⟨wr.heap.size, 4, none⟩ = some (.slice m.A m.pt.b.length m.c)) (first | exact X0.out | exact x1 | exact x2) (first | (go_at_call 25; refine (rB_rd (mz := (m.pt.b.length : Int)) HRw.out.drew (by decide) SMS.out (by omega) (by omega)).mono ?_; rw [Int.toNat_natCast]; rintro e w5 ⟨Ab, nb, cb, rfl, ho5, hr5, ht5⟩; have t5 := ht5.of_drew; rw [HS2.out] at hr5; have nb5 := (own_room ho5).1; have g1 := conv_at (c := cb) (lies_own (B := 0) ho5) nb5; have HQ5 := Lib.hid (HQw.out.tch t5 (by decide) (by decide)); have HR5 := Lib.hid hr5; have TA := Lib.hid (t5.more (ts' := [74, 47]) (by decide)); have y5 := t5.blk BLK.out (by decide); have x1 := (six y5).2.2.2.2.1; have Y5 := Lib.hid y5; have HO5 := Lib.hid ho5; have NB5 := Lib.hid nb5; clear y5 hr5 ht5 t5 ho5 nb5) | (go_at_call 26; refine (rB_rr (mz := (m.pt.b.length : Int)) HQ5.out (by decide) SMS.out (by omega) (by omega)).mono ?_; rw [Int.toNat_natCast]; rintro e w6 ⟨Ac, nc, cc, rfl, ho6, hq6, ht6⟩; rw [HS2.out] at hq6; have nb6 := (own_room ho6).1; have g2 := conv_at (c := cc) (lies_own (B := 0) ho6) nb6; have g3 := conv_at (c := cb) (lies_own (B := 0) (own_tch HO5.out ht6 (by decide))) NB5.out; have HQ2 := Lib.hid hq6; have HR2 := Lib.hid (HR5.out.tch ht6 (by decide) (by decide)); have TB := Lib.hid (TA.out.trans (ht6.more (ts' := [74, 47]) (by decide))); have x2 := (six (ht6.blk Y5.out (by decide))).2.2.2.2.1; clear hq6 ht6 ho6 nb6))
            all_goals
              have HB5 := Lib.hid (HBw.out.trans (TB.out.below.mono hzw2))
              obtain ⟨Aq, cq, hcq, cell⟩ := lst_of HQ2.out
              have LC : Hid (Calls Try.prog 29 #[.pointer (some ⟨p, 0, none⟩)] w6.drew fun e w' => e = .returned (.int .i64 (leftOf s2 : Int)) ∧ w6.drew = w') := left_rd HR2.out.drew
              go_wp2_with fail
              go_region_held (fun w' => w'.cell? ⟨w3.heap.size, 0, none⟩ = some (.slice Aq (leftOf s2) cq)) (first | exact cell) (first | (go_at_call 29; refine LC.out.mono ?_; rintro e w' ⟨rfl, rfl⟩))
              go_wp2
              go_roundw
              case rel => exact ⟨k + 1, s2, by omega, by go_num, HR2.out.drew, HQ2.out.drew, SM2.out, HB5.out.drew⟩
              case measure => simp [intOf]; omega
          · have q1 : (m.pt.kind == 1) = false := by simpa using hk1
            have q2 : (m.pt.kind == 2) = false := by simpa using hk2
            have q3 : (m.pt.kind == 3) = false := by simpa using hk3
            have q4 : (m.pt.kind == 4) = false := by simpa using hk4
            clear hk1 hk2 hk3 hk4
            obtain ⟨s2, hs2⟩ : ∃ s2, (Cd.rdG s).2 = s2 := ⟨_, rfl⟩
            have SM2 : Hid (small s2) := by rw [← hs2]; exact small_of SMS.out (rdG_less _)
            have HS2 := Lib.hid hs2
            clear hs2
            go_wp2_with (first | (go_at_call 27; refine (rG_rd HRw.out (by decide) SMS.out).mono ?_; rintro e w5 ⟨rfl, hr5, ht5⟩; have t5 := ht5; rw [HS2.out] at hr5; have HQ5 := Lib.hid (HQw.out.tch t5 (by decide) (by decide)); have HR5 := Lib.hid hr5; have TA := Lib.hid (t5.more (ts' := [74, 47]) (by decide)); clear hr5 ht5 t5) | (go_at_call 28; refine (rG_rr HQ5.out (by decide) SMS.out).mono ?_; rintro e w6 ⟨rfl, hq6, ht6⟩; rw [HS2.out] at hq6; have HQ2 := Lib.hid hq6; have HR2 := Lib.hid (HR5.out.tch ht6 (by decide) (by decide)); have TB := Lib.hid (TA.out.trans (ht6.more (ts' := [74, 47]) (by decide))); clear hq6 ht6))
            have HB5 := Lib.hid (HBw.out.trans (TB.out.below.mono hzw2))
            obtain ⟨Aq, cq, hcq, cell⟩ := lst_of HQ2.out
            have LC : Hid (Calls Try.prog 29 #[.pointer (some ⟨p, 0, none⟩)] w6.drew fun e w' => e = .returned (.int .i64 (leftOf s2 : Int)) ∧ w6.drew = w') := left_rd HR2.out.drew
            go_wp2_with fail
            go_region_held (fun w' => w'.cell? ⟨w3.heap.size, 0, none⟩ = some (.slice Aq (leftOf s2) cq)) (first | exact cell) (first | (go_at_call 29; refine LC.out.mono ?_; rintro e w' ⟨rfl, rfl⟩))
            go_wp2
            go_roundw
            case rel => exact ⟨k + 1, s2, by omega, by go_num, HR2.out.drew, HQ2.out.drew, SM2.out, HB5.out.drew⟩
            case measure => simp [intOf]; omega
        · obtain rfl : k = ms.length := by omega
          go_wp2_with (first
            | (go_at_call 30; refine (end_rd HR.out).mono ?_; rintro e w' ⟨rfl, rfl⟩)
            | (go_at_call 31; refine (end_rr HQ.out).mono ?_; rintro e w' ⟨rfl, rfl⟩))
          go_ret
          exact ⟨ret_bool (by simp), HB.out⟩
end Go.Proofs.Ytobdaiiojclfkaa
