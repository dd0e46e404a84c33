/- What the code's own super stands on: prefixes of bytes, blank bytes, the numbers that bytes begin with, a writer's bytes. Contracts of the code's own super: Slot, Of, Save, Format, Load. -/
import Derived.Test.YtpnfpeeijghamaaGreatSv
import Derived.Test.YtpnfpeeijghamaaGreatRe
import Derived.Test.YtpnfpeeijghamaaGreatFr
import Derived.Test.YtpnfpeeijghamaaGreatDp
namespace Go.Proofs.YtpnfpeeijghamaaGreat
open Go.RowKit
set_option maxRecDepth 100000

/-- Bytes begin with others. -/
def pre2 (l m : List UInt8) : Bool := decide (m.length ≤ l.length) && (l.take m.length == m)
def trim6 (l m : List UInt8) : List UInt8 := if pre2 l m = true then l.drop m.length else l

set_option maxHeartbeats 1000000 in
theorem hasPrefix_c {A A2 : Option Addr} {n c n2 c2 : Nat} {l m : List UInt8} {w : World} {B B2 : Nat} {t t2 : TypeId} (h : Lies w B t A (bcells l)) (h2 : Lies w B2 t2 A2 (bcells m)) (hn : n = l.length) (hn2 : n2 = m.length) (hc : n ≤ c) :
    Calls Tryz.prog 120 #[.slice A n c, .slice A2 n2 c2] w fun e w' => e = .returned (.bool (pre2 l m)) ∧ w = w' := by
  have H := Lib.hid h
  have H2 := Lib.hid h2
  have HN := Lib.hid hn
  have HN2 := Lib.hid hn2
  clear h h2
  by_cases hle : n2 ≤ n
  · have e1 : pre2 l m = (l.take m.length == m) := by unfold pre2; rw [decide_eq_true (by omega)]; rfl
    have LT := Lib.hid (show n2 = (l.take n2).length by rw [List.length_take]; omega)
    have T := Lib.hid (show Lies w B t A (bcells (l.take n2)) by rw [← bcells_take]; exact H.out.take n2)
    rw [e1, ← hn2]
    have hle2 : (n2 : Int) ≤ (n : Int) := by omega
    have hnc : n2 ≤ c := by omega
    have hnc2 : (n2 : Int) ≤ (c : Int) := by omega
    clear hn hn2 e1
    go_enter Tryz.func120, Tryz.ntmps120
    go_wp2_with fail
    refine (equal_c (l := l.take n2) (m := m) T.out H2.out LT.out HN2.out).mono ?_
    rintro e w' ⟨rfl, rfl⟩
    go_wp2
    go_ret
    exact ⟨rfl, rfl⟩
  · have e1 : pre2 l m = false := by unfold pre2; rw [decide_eq_false (by omega)]; rfl
    rw [e1]
    have hle2 : decide ((n2 : Int) ≤ (n : Int)) = false := by simp; omega
    clear hn hn2 e1
    go_enter Tryz.func120, Tryz.ntmps120
    go_wp2
    go_ret
    exact ⟨rfl, rfl⟩

set_option maxHeartbeats 1000000 in
theorem trimPrefix_c {A A2 : Option Addr} {n c n2 c2 : Nat} {l m : List UInt8} {w : World} {B B2 : Nat} {t t2 : TypeId} (h : Lies w B t A (bcells l)) (h2 : Lies w B2 t2 A2 (bcells m)) (hn : n = l.length) (hn2 : n2 = m.length) (hc : n ≤ c) (h0 : 0 < m.length) :
    Calls Tryz.prog 119 #[.slice A n c, .slice A2 n2 c2] w fun e w' => (∃ A' n' c', e = .returned (.slice A' n' c') ∧ n' = (trim6 l m).length ∧ n' ≤ c' ∧ Lies w B t A' (bcells (trim6 l m))) ∧ w = w' := by
  have H := Lib.hid h
  have H2 := Lib.hid h2
  have HN := Lib.hid hn
  have HN2 := Lib.hid hn2
  by_cases hp : pre2 l m = true
  · have e1 : trim6 l m = l.drop n2 := by unfold trim6; rw [if_pos hp, hn2]
    have hle : m.length ≤ l.length := by unfold pre2 at hp; simp at hp; exact hp.1
    have hle2 : (n2 : Int) ≤ (n : Int) := by omega
    obtain ⟨ad, rfl, _⟩ := h (by intro q; have := congrArg List.length q; rw [bcells_len] at this; simp only [List.length_nil] at this; omega)
    obtain ⟨A3, hA3⟩ : ∃ A3, (if c = n2 then some ad else some (ad.add n2)) = A3 := ⟨_, rfl⟩
    have T := Lib.hid (show Lies w B t A3 (bcells (l.drop n2)) by
      have q := h.cut n2 c (by rw [bcells_len]; omega)
      rw [bcells_drop] at q
      rw [← hA3]
      exact q)
    have L2 := Lib.hid (show n - n2 = (l.drop n2).length by rw [List.length_drop]; omega)
    have hnc : n - n2 ≤ c - n2 := by omega
    have HP := Lib.hid hp
    rw [e1]
    clear e1 h h2 hp hn hn2
    go_enter Tryz.func119, Tryz.ntmps119
    go_wp2_with fail
    refine (hasPrefix_c (l := l) (m := m) H.out H2.out HN.out HN2.out hc).mono ?_
    rw [HP.out]
    rintro e w' ⟨rfl, rfl⟩
    go_wp2
    go_ret
    exact ⟨⟨A3, _, _, rfl, L2.out, hnc, T.out⟩, rfl⟩
  · have hp2 : pre2 l m = false := by simpa using hp
    have e1 : trim6 l m = l := by unfold trim6; rw [if_neg hp]
    have HP := Lib.hid hp2
    rw [e1]
    clear e1 h h2 hp hp2 hn hn2
    go_enter Tryz.func119, Tryz.ntmps119
    go_wp2_with fail
    refine (hasPrefix_c (l := l) (m := m) H.out H2.out HN.out HN2.out hc).mono ?_
    rw [HP.out]
    rintro e w' ⟨rfl, rfl⟩
    go_wp2
    go_ret
    exact ⟨⟨A, n, c, rfl, HN.out, hc, H.out⟩, rfl⟩

set_option maxHeartbeats 1000000 in
theorem cutPrefix_c {A A2 : Option Addr} {n c n2 c2 : Nat} {l m : List UInt8} {w : World} {B B2 : Nat} {t t2 : TypeId} (h : Lies w B t A (bcells l)) (h2 : Lies w B2 t2 A2 (bcells m)) (hn : n = l.length) (hn2 : n2 = m.length) (hc : n ≤ c) (h0 : 0 < m.length) :
    Calls Tryz.prog 107 #[.slice A n c, .slice A2 n2 c2] w fun e w' => (∃ A' n' c', e = .returned (.tuple #[.slice A' n' c', .bool (pre2 l m)]) ∧ n' = (trim6 l m).length ∧ n' ≤ c' ∧ Lies w B t A' (bcells (trim6 l m))) ∧ w = w' := by
  have H := Lib.hid h
  have H2 := Lib.hid h2
  have HN := Lib.hid hn
  have HN2 := Lib.hid hn2
  by_cases hp : pre2 l m = true
  · have e1 : trim6 l m = l.drop n2 := by unfold trim6; rw [if_pos hp, hn2]
    have hle : m.length ≤ l.length := by unfold pre2 at hp; simp at hp; exact hp.1
    have hle2 : (n2 : Int) ≤ (n : Int) := by omega
    obtain ⟨ad, rfl, _⟩ := h (by intro q; have := congrArg List.length q; rw [bcells_len] at this; simp only [List.length_nil] at this; omega)
    obtain ⟨A3, hA3⟩ : ∃ A3, (if c = n2 then some ad else some (ad.add n2)) = A3 := ⟨_, rfl⟩
    have T := Lib.hid (show Lies w B t A3 (bcells (l.drop n2)) by
      have q := h.cut n2 c (by rw [bcells_len]; omega)
      rw [bcells_drop] at q
      rw [← hA3]
      exact q)
    have L2 := Lib.hid (show n - n2 = (l.drop n2).length by rw [List.length_drop]; omega)
    have hnc : n - n2 ≤ c - n2 := by omega
    have HP := Lib.hid hp
    rw [e1, hp]
    clear e1 h h2 hp hn hn2
    go_enter Tryz.func107, Tryz.ntmps107
    go_wp2_with fail
    refine (hasPrefix_c (l := l) (m := m) H.out H2.out HN.out HN2.out hc).mono ?_
    rw [HP.out]
    rintro e w' ⟨rfl, rfl⟩
    go_wp2
    go_ret2
    exact ⟨⟨A3, _, _, rfl, L2.out, hnc, T.out⟩, rfl⟩
  · have hp2 : pre2 l m = false := by simpa using hp
    have e1 : trim6 l m = l := by unfold trim6; rw [if_neg hp]
    have HP := Lib.hid hp2
    rw [e1, hp2]
    clear e1 h h2 hp hp2 hn hn2
    go_enter Tryz.func107, Tryz.ntmps107
    go_wp2_with fail
    refine (hasPrefix_c (l := l) (m := m) H.out H2.out HN.out HN2.out hc).mono ?_
    rw [HP.out]
    rintro e w' ⟨rfl, rfl⟩
    go_wp2
    go_ret2
    exact ⟨⟨A, n, c, rfl, HN.out, hc, H.out⟩, rfl⟩

set_option maxHeartbeats 1000000 in
theorem blank_c {A : Option Addr} {n c : Nat} {l : List UInt8} {w : World} {B : Nat} {t : TypeId} (h : Lies w B t A (bcells l)) (hn : n = l.length) (hs : n ≤ 1000000000) :
    Calls Tryz.prog 108 #[.slice A n c] w fun e w' => e = .returned (.bool (l.all (· == 0))) ∧ ∃ j, w' = w.drewN j := by
  have H := Lib.hid h
  clear h
  subst hn
  go_enter Tryz.func108, Tryz.ntmps108
  go_wp2_with fail
  go_loopw [7] (fun i wr => ∃ k j : Nat, k ≤ l.length ∧ i = .int .i64 k ∧ (l.take k).all (· == 0) = true ∧ wr = w.drewN j) (fun i _ => l.length - (intOf i).toNat)
  case atStart => exact ⟨0, 0, Nat.zero_le _, rfl, rfl, rfl⟩
  case round =>
    obtain ⟨k, j, hk, rfl, ha, rfl⟩ := hrel
    by_cases hlt : k < l.length
    · obtain ⟨ad, rfl, hc⟩ := H.out.byte hlt
      have k0 : 0 ≤ (k : Int) := by omega
      have k1 : (k : Int) < (l.length : Int) := by omega
      by_cases hz : l[k] = 0
      · have HA := Lib.hid (show (l.take (k + 1)).all (· == 0) = true by rw [take_next (List.getElem?_eq_getElem hlt), List.all_append, ha, hz]; rfl)
        rw [hz] at hc
        have q' : (((0 : UInt8).toNat : Int) != 0) = false := by decide
        clear ha hz
        go_wp2
        go_roundw
        case rel => exact ⟨k + 1, j, by omega, by go_num, HA.out, rfl⟩
        case measure => simp [intOf]; omega
      · have HA := Lib.hid (show l.all (· == 0) = false by
          rw [List.all_eq_false]
          exact ⟨l[k], List.getElem_mem hlt, by simpa using hz⟩)
        have q' : ((l[k].toNat : Int) != 0) = true := by
          have : l[k].toNat ≠ 0 := fun e => hz (UInt8.toNat.inj e)
          simp; omega
        generalize l[k] = x at *
        clear ha hz
        go_wp2
        go_ret
        rw [HA.out]
        exact ⟨rfl, j, rfl⟩
    · obtain rfl : k = l.length := by omega
      rw [List.take_length] at ha
      go_wp2
      go_ret
      rw [ha]
      exact ⟨rfl, j, rfl⟩

namespace Su
/-- The numbers with which bytes begin, whatever they are. -/
def nums6 (b : List UInt8) : Nat × List Nat := ((tell (some (trim6 b [70, 83]))).1, (tell (some (trim6 b [70, 83]))).2.1)
theorem nums6_good (b : List UInt8) : Good (nums6 b).1 (nums6 b).2 := tell_good _
theorem trim_slot {g : Nat} {l : List Nat} (t : List UInt8) : trim6 (slot g l ++ t) [70, 83] = (slot g l ++ t).drop 2 := by
  unfold trim6
  exact if_pos (by unfold pre2 slot body; simp)
theorem unslot_nums (b : List UInt8) : unslot b = if is b (nums6 b).1 (nums6 b).2 = true then some (nums6 b) else none := by
  by_cases hi : is b (nums6 b).1 (nums6 b).2 = true
  · rw [if_pos hi]
    exact unslot_iff.2 ⟨nums6_good b, is_iff.1 hi⟩
  · rw [if_neg hi]
    cases h : unslot b with
    | none => rfl
    | some x =>
      obtain ⟨g, l⟩ := x
      obtain ⟨hg, k, rfl⟩ := unslot_iff.1 h
      refine absurd ?_ hi
      have e : nums6 (slot g l ++ List.replicate k 0) = (g, l) := by
        unfold nums6
        rw [trim_slot, tell_slot hg]
      rw [e]
      exact is_iff.2 ⟨k, rfl⟩
theorem is_pre (b : List UInt8) (g : Nat) (l : List Nat) : is b g l = (pre2 b (slot g l) && (b.drop (slot g l).length).all (· == 0)) := by
  have e : (b.take (slot g l).length == slot g l) = decide (slot g l = b.take (slot g l).length) := by
    rw [Bool.eq_iff_iff, beq_iff_eq, decide_eq_true_eq]
    exact eq_comm
  unfold is pre2
  rw [e]
theorem wrote (g : Nat) (l : List Nat) : [70, 83] ++ ([] ++ nums [(g : Int), (l.length : Int)] ++ nums (l.map fun n : Nat => (n : Int))) = body g l := by
  have e : nums (l.map fun n : Nat => (n : Int)) = l.flatMap Cd.num := by
    unfold nums
    rw [List.flatMap_map]
    rfl
  rw [e]
  unfold nums body
  simp
end Su

/-- It returned a number and numbers of its own, and left all older memory alone. -/
def NumOk (B : Nat) (x : Nat × List Nat) (w : World) (e : Ending) (w' : World) : Prop :=
  ∃ A n c, e = .returned (.tuple #[.int .u64 (x.1 : Int), .slice A n c]) ∧ n = x.2.length ∧ n ≤ c ∧ w'.ownsRow B 62 1 (.slice A n c) n (ncells x.2) ∧ Below B w w'

set_option maxHeartbeats 4000000 in
set_option maxRecDepth 100000 in
theorem suNumbers_c {A : Option Addr} {n c : Nat} {b : List UInt8} {w : World} {B : Nat} {t : TypeId} (hL : Lies w B t A (bcells b)) (hn : n = b.length) (hc : n ≤ c) (hs : n ≤ 1000000000) :
    Calls Tryz.prog 106 #[.slice A n c] w (NumOk w.heap.size (Su.nums6 b) w) := by
  have HL := Lib.hid (hL.old (t' := 0))
  have HN := Lib.hid hn
  have kc := fun (w : World) (C : Array Value) (n c : Nat) => Lib.run_convert_bytes_const (P := Tryz.prog) w 23 5 C n c Tryz.underlying23 Tryz.underlying5
  obtain ⟨tr, htr⟩ : ∃ tr, tr = trim6 b [70, 83] := ⟨_, rfl⟩
  have TR := Lib.hid (show tr.length ≤ 1000000000 by
    rw [htr]
    unfold trim6
    split
    · rw [List.length_drop]; omega
    · omega)
  have H0 := Lib.hid (show ∀ l, some tr = some l → l.length ≤ 1099511627776 from fun l e => by injection e with e; subst e; have := TR.out; omega)
  obtain ⟨g, s1, e1⟩ : ∃ g s1, Cd.rdN Cd.full (some tr) = (g, s1) := ⟨_, _, rfl⟩
  obtain ⟨k, s2, e2⟩ : ∃ k s2, Cd.rdN 4 s1 = (k, s2) := ⟨_, _, rfl⟩
  have E1 := Lib.hid e1
  have E2 := Lib.hid e2
  have H1 := Lib.hid (show ∀ l, s1 = some l → l.length ≤ 1099511627776 by have q := short_rdN (m := Cd.full) H0.out; rw [e1] at q; exact q)
  have H2 := Lib.hid (show ∀ l, s2 = some l → l.length ≤ 1099511627776 by have q := short_rdN (m := 4) H1.out; rw [e2] at q; exact q)
  have k4 : k ≤ 4 := by have q := (Cd.rdN_lt 4 s1).2; rw [e2] at q; exact q
  have NE := Lib.hid (show Su.nums6 b = (g, (Su.rdL k s2).1) by
    unfold Su.nums6
    rw [← htr]
    unfold Su.tell
    simp only
    rw [e1]
    simp only
    rw [e2])
  have HTR := Lib.hid htr
  obtain ⟨ti, hi, iz0, iz1, iz2⟩ := info_parts Tryz.infoU64
  clear hL hn e1 e2 htr
  go_enter Tryz.func106, Tryz.ntmps106
  go_wp2_with fail
  refine (trimPrefix_c (l := b) (m := [70, 83]) (HL.out.alloc (Nat.le_refl _) _) (Lies.of_blk (B := 0) (heap_alloc_new w (.cells (bcells [70, 83]).toArray 5 (2, 3)))) HN.out rfl hc (by decide)).mono ?_
  rintro e w0 ⟨⟨A1, n1, c1, rfl, hn1, hc1, hl1⟩, rfl⟩
  rw [← HTR.out] at hn1 hl1
  have L1 := Lib.hid hl1
  have N1 := Lib.hid hn1
  clear hl1 hn1 kc
  go_wp2_with fail
  refine (read_c L1.out (by simp) N1.out (by have := TR.out; omega)).mono ?_
  rintro e w1 ⟨p, rfl, hr, hb⟩
  have z0 : (w.alloc (.cells (bcells [70, 83]).toArray 5 (2, 3))).heap.size = w.heap.size + 1 := by simp
  have R0 := Lib.hid hr
  have B0 := Lib.hid (((Below.refl w.heap.size w).alloc (Nat.le_refl _) (.cells (bcells [70, 83]).toArray 5 (2, 3))).trans (hb.mono (by simp)))
  obtain ⟨b1, hb1⟩ : ∃ b1, b1 = (w.alloc (.cells (bcells [70, 83]).toArray 5 (2, 3))).heap.size := ⟨_, rfl⟩
  have zb : b1 ≤ w1.heap.size := by rw [hb1]; exact hb.size
  have zw : w.heap.size ≤ b1 := by rw [hb1]; simp
  rw [← hb1] at R0
  clear hr hb z0 hb1
  go_wp2_with fail
  refine (rN_rd (mz := 18446744073709551615) R0.out (by decide) H0.out (by decide)).mono ?_
  rw [full_nat, E1.out]
  rintro e w2 ⟨rfl, hr1, ht1⟩
  have R1 := Lib.hid hr1
  have B1 := Lib.hid (B0.out.trans (ht1.below.mono zw))
  have z1 := Nat.le_trans zb ht1.size
  clear hr1 ht1
  go_wp2_with fail
  refine (rN_rd (mz := 4) R1.out (by decide) H1.out (by decide)).mono ?_
  rw [show (4 : Int).toNat = 4 from rfl, E2.out]
  rintro e w3 ⟨rfl, hr2, ht2⟩
  have R2 := Lib.hid hr2
  have B2 := Lib.hid (B1.out.trans (ht2.below.mono zw))
  have z2 := Nat.le_trans z1 ht2.size
  clear hr2 ht2
  go_wp2_with fail
  go_loopw [3, 14] (fun s i wr => ∃ (j : Nat) (A3 : Option Addr) (c3 : Nat), j ≤ k ∧ i = .int .u64 j ∧ s = .slice A3 j c3 ∧ wr.ownsRow b1 62 1 (.slice A3 j c3) j (ncells (Su.rdL j s2).1) ∧ RS 103 b1 5 wr p (Su.rdL j s2).2 ∧ Below w.heap.size w wr ∧ b1 ≤ wr.heap.size) (fun _ i _ => k - (intOf i).toNat)
  case atStart => exact ⟨0, none, 0, Nat.zero_le _, rfl, rfl, World.ownsRow_nil _ _ _ _, R2.out, B2.out, z2⟩
  case round =>
    obtain ⟨j, A3, c3, hj, rfl, rfl, ho, hr, hb, z3⟩ := hrel
    have O3 := Lib.hid ho
    have R3 := Lib.hid hr
    have B3 := Lib.hid hb
    clear ho hr hb
    by_cases hlt : j < k
    · obtain ⟨x, s4, e4⟩ : ∃ x s4, Cd.rdN Cd.full (Su.rdL j s2).2 = (x, s4) := ⟨_, _, rfl⟩
      have E4 := Lib.hid e4
      have NX : Hid (Su.rdL (j + 1) s2 = ((Su.rdL j s2).1 ++ [x], s4)) := Lib.hid (by rw [Su.rdL_snoc, e4])
      clear e4
      go_wp2_with fail
      refine (rN_rd (mz := 18446744073709551615) R3.out (by decide) (short_rdL H2.out j) (by decide)).mono ?_
      rw [full_nat, E4.out]
      rintro e w4 ⟨rfl, hr4, ht4⟩
      have R4 := Lib.hid hr4
      have B4 := Lib.hid (B3.out.trans (ht4.below.mono zw))
      have O4 := Lib.hid (own_tch O3.out ht4 (by decide))
      have z4 := Nat.le_trans z3 ht4.size
      clear hr4 ht4
      go_wp2_with (at_builtin; refine wpList_app _ rfl _ _ 108 rfl b1 62 ti (.int .u64 0) 1 8 Tryz.underlying108 hi iz0 iz1 iz2 rfl (by decide) _ j _ rfl (O4.out.alloc _) 0 _ 1 1 (ncells [x]) 62 rfl rfl (lies_num rfl) (ncells_one _) (by unfold maxLen; omega) (by omega) (by simp; omega) ?_)
      intro v' w5 hown hgrow _
      obtain ⟨A5, k5, rfl⟩ := own_slice hown
      have T5 := Lib.hid (napp_step (O4.out.alloc _) hgrow (by simp; omega))
      have O5 := Lib.hid hown
      have R5 := Lib.hid ((R4.out.alloc (.cells #[.int .u64 (x : Int)] 62)).tch T5.out (by decide) (by decide))
      have B5 := Lib.hid ((B4.out.alloc (by omega) _).trans (T5.out.below.mono zw))
      have z5 : b1 ≤ w5.heap.size := Nat.le_trans (by simp; omega) T5.out.size
      clear hown hgrow
      go_wp2
      go_roundw
      case rel => exact ⟨j + 1, A5, k5, by omega, by go_num, rfl, by rw [NX.out, ncells_app]; exact O5.out, by rw [NX.out]; exact R5.out, B5.out, z5⟩
      case measure => simp [intOf]; omega
    · obtain rfl : j = k := by omega
      have ll := Lib.hid (Su.rdL_len j s2)
      have rm := (own_room O3.out).2
      go_wp2
      go_ret2
      rw [NE.out]
      exact ⟨A3, j, c3, rfl, ll.out.symm, rm, own_less O3.out zw, B3.out⟩

set_option maxHeartbeats 1000000 in
theorem wBytes_c {B p : Nat} {l : List UInt8} {w : World} (h : WS B w p l) (hs : l.length ≤ 1099511627776) :
    Calls Tryz.prog 36 #[.pointer (some ⟨p, 0, none⟩)] w (CloneOk l w) := by
  obtain ⟨_, A, c, hp, ho⟩ := h
  have c0 : w.cell? ⟨p, 0, none⟩ = some (.slice A l.length c) := by simp [World.cell?, hp]
  have HO := Lib.hid ho
  clear hp ho
  go_enter Tryz.func36, Tryz.ntmps36
  go_wp2_with fail
  refine (clone_c (lies_own (B := 0) HO.out) (Nat.zero_le _) rfl hs).mono ?_
  rintro e w' ⟨A2, n2, c2, rfl, ho, hb⟩
  have HO2 := Lib.hid ho
  have HB := Lib.hid hb
  clear ho hb
  go_wp2
  go_ret
  exact ⟨A2, n2, c2, rfl, HO2.out, HB.out⟩

theorem lies4 {w : World} {a : List UInt8} {x y z v : Int} (h : [Value.int .u8 x, .int .u8 y, .int .u8 z, .int .u8 v] = bcells a) {g : Nat} (hg : g = w.heap.size) : Lies (w.alloc (.cells #[.int .u8 x, .int .u8 y, .int .u8 z, .int .u8 v] 5)) 0 5 (some ⟨g, 0, none⟩) (bcells a) := by
  subst hg
  rw [← h]
  exact Lies.of_blk (heap_alloc_new w _)

set_option maxHeartbeats 1000000 in
set_option maxRecDepth 100000 in
theorem suSlot_c {g n c : Nat} {A : Option Addr} {l : List Nat} {w : World} {B : Nat} {t : TypeId} (hL : Lies w B t A (ncells l)) (hn : n = l.length) (_hc : n ≤ c) (hg : U64 g) (hl : ∀ x ∈ l, U64 x) (hs : n ≤ 1000000000) :
    Calls Tryz.prog 102 #[.int .u64 (g : Int), .slice A n c] w (BErrOk w.heap.size (Su.slotE l) (Su.slotB g l) w) := by
  have HL := Lib.hid (hL.old (t' := 62))
  have HN := Lib.hid hn
  have HG := Lib.hid hg
  have HX := Lib.hid hl
  clear hL hn hg hl
  by_cases h4 : 4 < n
  · have e1 : Su.slotE l = 2 := by unfold Su.slotE; rw [if_pos (by rw [← HN.out]; exact h4)]
    have e2 : Su.slotB g l = [] := by unfold Su.slotB; rw [if_pos (by rw [← HN.out]; exact h4)]
    rw [e1, e2]
    clear e1 e2
    go_enter Tryz.func102, Tryz.ntmps102
    go_wp2
    go_ret2
    exact BErrOk.bad (Below.refl _ _)
  · have e1 : Su.slotE l = 0 := by unfold Su.slotE; rw [if_neg (by rw [← HN.out]; exact h4)]
    have e2 : Su.slotB g l = Su.slot g l := by unfold Su.slotB; rw [if_neg (by rw [← HN.out]; exact h4)]
    rw [e1, e2]
    clear e1 e2
    obtain ⟨ti, hi, iz0, iz1, iz2⟩ := info_parts Tryz.infoU8
    have kc := fun (w : World) (C : Array Value) (n c : Nat) => Lib.run_convert_bytes_const (P := Tryz.prog) w 23 5 C n c Tryz.underlying23 Tryz.underlying5
    have hw0 : WS w.heap.size (w.alloc (.cells #[.slice none 0 0] 70)) w.heap.size [] := ⟨Nat.le_refl _, none, 0, heap_alloc_new w _, World.ownsRow_nil _ _ _ _⟩
    have HW := Lib.hid hw0
    have L2 := Lib.hid (show Lies ((w.alloc (.cells #[.slice none 0 0] 70)).alloc (.cells #[.int .u64 (g : Int), .int .u64 (n : Int)] 62)) w.heap.size 62 (some ⟨w.heap.size + 1, 0, none⟩) ([(g : Int), (n : Int)].map (Value.int .u64)) by
      have e : (w.alloc (.cells #[.slice none 0 0] 70)).heap.size = w.heap.size + 1 := by simp
      rw [← e]
      exact Lies.of_blk (heap_alloc_new _ _))
    have bd := Lib.hid (show ∀ x ∈ [(g : Int), (n : Int)], 0 ≤ x ∧ x < 18446744073709551616 by
      intro x hx
      have q := HG.out.int
      simp only [List.mem_cons, List.not_mem_nil, or_false] at hx
      rcases hx with rfl | rfl <;> omega)
    have bl := Lib.hid (show ∀ x ∈ l.map (fun n : Nat => (n : Int)), 0 ≤ x ∧ x < 18446744073709551616 by
      intro x hx
      obtain ⟨y, hy, rfl⟩ := List.mem_map.1 hx
      have q := (HX.out y hy).int
      omega)
    have nl2 := Lib.hid (nums_len [(g : Int), (n : Int)])
    have nl3 := Lib.hid (nums_len (l.map (fun n : Nat => (n : Int))))
    have ml := Lib.hid (show (l.map (fun n : Nat => (n : Int))).length = n by rw [List.length_map, HN.out])
    have wr := Lib.hid (Su.wrote g l)
    have S0 := Lib.hid (((Below.refl w.heap.size w).alloc (Nat.le_refl _) (.cells #[.slice none 0 0] 70)).alloc (by simp) (.cells #[.int .u64 (g : Int), .int .u64 (n : Int)] 62))
    clear hw0
    go_enter Tryz.func102, Tryz.ntmps102
    go_wp2_with fail
    refine (wN_c (HW.out.alloc _) L2.out rfl bd.out (by simp)).mono ?_
    rintro e w1 ⟨rfl, hw1, t1⟩
    have W1 := Lib.hid hw1
    have B1 := Lib.hid (S0.out.trans t1.below)
    have z1 := B1.out.size
    clear hw1 t1 L2 HW S0
    go_wp2_with fail
    refine (wN_c (ns := l.map (fun n : Nat => (n : Int))) W1.out (by rw [List.map_map]; exact HL.out.below (Nat.le_refl _) B1.out) ml.out.symm bl.out (by have q2 := nl2.out; have q3 := nl3.out; have q4 := ml.out; simp only [List.length_append, List.length_cons, List.length_nil] at q2 q3 ⊢; omega)).mono ?_
    rintro e w2 ⟨rfl, hw2, t2⟩
    have W2 := Lib.hid hw2
    have B2 := Lib.hid (B1.out.trans t2.below)
    have z2 := B2.out.size
    clear hw2 t2 W1
    obtain ⟨ms, hms⟩ : ∃ ms, ms = [] ++ nums [(g : Int), (n : Int)] ++ nums (l.map fun n : Nat => (n : Int)) := ⟨_, rfl⟩
    have ML := Lib.hid (show 0 < ms.length ∧ ms.length ≤ 54 by
      have q2 := nl2.out
      have q3 := nl3.out
      rw [ml.out] at q3
      have q1 : 1 ≤ (nums [(g : Int), (n : Int)]).length := by
        have e : nums [(g : Int), (n : Int)] = Cd.num g ++ Cd.num n := by simp [nums]
        rw [e, List.length_append]
        have := (Su.num_len g).1
        omega
      rw [hms]
      simp only [List.length_append, List.length_nil, List.length_cons] at q1 q2 q3 ⊢
      omega)
    have EB := Lib.hid (show [70, 83] ++ ms = Su.body g l by rw [hms, ← wr.out, HN.out])
    rw [← hms] at W2
    clear hms wr nl2 nl3 ml bd bl
    go_wp2_with (first
      | (go_at_call 36; refine (wBytes_c (W2.out.alloc (.cells (bcells [70, 83]).toArray 5 (2, 3))) (by have := ML.out; omega)).mono ?_; rintro e w3 ⟨A3, n3, c3, rfl, ho3, hb3⟩; obtain ⟨rfl, hc3⟩ := own_room ho3; obtain ⟨ad3, rfl, _, hq3⟩ := (lies_own (B := 0) ho3) (fun q => by have q2 := congrArg List.length q; have q3 := ML.out.1; rw [bcells_len] at q2; simp only [List.length_nil] at q2; omega); have z3 := hb3.size; have FS3 := Lib.hid ((Lies.of_blk (B := 0) (heap_alloc_new w2 (.cells (bcells [70, 83]).toArray 5 (2, 3)))).old (t' := 5) |>.below (Nat.le_refl _) hb3); have B3 := Lib.hid (B2.out.trans (((Below.refl w2.heap.size w2).alloc (Nat.le_refl _) (.cells (bcells [70, 83]).toArray 5 (2, 3))).trans (hb3.mono (by simp)) |>.mono z2)); have Q3 := Lib.hid hq3; have z4 : w.heap.size ≤ w3.heap.size := B3.out.size; clear ho3 hb3 hq3 W2 kc)
      | (at_builtin; (refine wpList_new _ rfl _ _ 23 rfl w.heap.size 5 ti (.int .u8 0) 1 1 Tryz.underlying23 hi iz0 iz1 iz2 rfl _ _ (some ⟨w2.heap.size, 0, none⟩) 2 (bcells [70, 83]) rfl rfl FS3.out (by simp) ad3 _ _ (bcells ms) rfl (by rw [bcells_len, Nat.mul_one]) Q3.out (bcells_one _) ML.out.1 (by have := ML.out; unfold maxLen; omega) (by have := ML.out; omega) z4 ?_)))
    intro v' w4 hown hgrow
    obtain ⟨A4, c4, rfl⟩ := own_slice hown
    have B4 := Lib.hid (B3.out.trans ((Tch.refl w.heap.size [5] w3).grown hgrow z4 (fun k q => by cases q)).below)
    rw [← bcells_app, EB.out] at hown
    have BL := Lib.hid (show 2 + ms.length = (Su.body g l).length by rw [← EB.out, List.length_append]; rfl)
    rw [BL.out] at hown
    have O4 := Lib.hid hown
    have z5 : w.heap.size ≤ w4.heap.size := B4.out.size
    have LB := Lib.hid (show (Su.body g l).length ≤ 56 by rw [← BL.out]; have := ML.out; omega)
    have sl : Crc.sum (Su.body g l) < 4294967296 := Crc.more_lt (by decide) _
    clear hown hgrow
    go_wp2_with fail
    refine (crcSum_c _ _ _ (Su.body g l) _ (B := 0) (t := 5) (lies_own O4.out) BL.out (by have := LB.out; have := BL.out; omega)).mono ?_
    rintro e w5 ⟨rfl, rfl⟩
    go_wp2_with (at_builtin; go_loud (refine wpList_app _ rfl _ _ 23 rfl w.heap.size 5 ti (.int .u8 0) 1 1 Tryz.underlying23 hi iz0 iz1 iz2 rfl (by decide) _ (Su.body g l).length _ rfl (by rw [BL.out]; exact O4.out.alloc _) 0 _ 4 4 (bcells (Cd.fix (Crc.sum (Su.body g l)) 4)) 5 rfl rfl (lies4 (sum_cells sl) rfl) (bcells_one _) (by have := LB.out; unfold maxLen; omega) (by have := LB.out; omega) (by simp; omega) ?_))
    intro v' w6 hown hgrow _
    obtain ⟨A6, c6, rfl⟩ := own_slice hown
    rw [BL.out] at hgrow
    have B6 := Lib.hid (B4.out.trans (((Tch.refl w.heap.size [5] _).alloc z5 _).trans (app_step (O4.out.alloc _) hgrow (by simp; omega))).below)
    have es : bcells (Su.body g l) ++ bcells (Cd.fix (Crc.sum (Su.body g l)) 4) = bcells (Su.slot g l) := by rw [← bcells_app]; rfl
    rw [es] at hown
    have LS := Lib.hid (show (Su.body g l).length + 4 = (Su.slot g l).length by
      have e : Su.slot g l = Su.body g l ++ Cd.fix (Crc.sum (Su.body g l)) 4 := rfl
      rw [e, List.length_append, Cd.fix_len])
    have O6 := Lib.hid hown
    have rm := (own_room hown).2
    clear hown hgrow es
    go_wp2
    go_ret2
    exact ⟨A6, _, c6, rfl, LS.out, rm, O6.out, B6.out⟩

set_option maxHeartbeats 2000000 in
set_option maxRecDepth 100000 in
theorem suOf_c {A : Option Addr} {n c : Nat} {b : List UInt8} {w : World} {B : Nat} {t : TypeId} (hL : Lies w B t A (bcells b)) (hn : n = b.length) (hc : n ≤ c) (hs : n ≤ 1000000000) :
    Calls Tryz.prog 86 #[.slice A n c] w (NErrOk w.heap.size (Su.ofPick (Su.unslot b)) w) := by
  have HL := Lib.hid (hL.old (t' := 0))
  have HN := Lib.hid hn
  obtain ⟨g, l, hgl⟩ : ∃ g l, Su.nums6 b = (g, l) := ⟨_, _, rfl⟩
  have gd := Lib.hid (Su.nums6_good b)
  have UN := Lib.hid (Su.unslot_nums b)
  rw [hgl] at gd UN
  have GL := Lib.hid hgl
  have IP := Lib.hid (Su.is_pre b g l)
  have LP := Lib.hid (show 0 < (Su.slot g l).length by rw [Su.slot_len]; omega)
  clear hL hn hgl
  go_enter Tryz.func86, Tryz.ntmps86
  go_wp2_with fail
  refine (suNumbers_c HL.out HN.out hc hs).mono ?_
  rw [GL.out]
  rintro e w1 ⟨A1, n1, c1, rfl, hn1, hc1, ho1, hb1⟩
  have O1 := Lib.hid ho1
  have N1 := Lib.hid hn1
  have B1 := Lib.hid hb1
  clear ho1 hn1 hb1
  go_wp2_with fail
  refine (suSlot_c (lies_own (B := 0) O1.out) N1.out hc1 gd.out.gen gd.out.nums (by have := gd.out.few; have := N1.out; omega)).mono ?_
  have e1 : Su.slotE l = 0 := by unfold Su.slotE; rw [if_neg (by have := gd.out.few; omega)]
  have e2 : Su.slotB g l = Su.slot g l := by unfold Su.slotB; rw [if_neg (by have := gd.out.few; omega)]
  rw [e1, e2]
  rintro e w2 ⟨A2, n2, c2, rfl, hn2, hc2, ho2, hb2⟩
  have O2 := Lib.hid ho2
  have N2 := Lib.hid hn2
  have O12 := Lib.hid (own_below O1.out hb2)
  have B2 := Lib.hid (B1.out.trans (hb2.mono B1.out.size))
  clear ho2 hn2 hb2 e1 e2
  go_wp2_with fail
  refine (cutPrefix_c (l := b) (m := Su.slot g l) (HL.out.below (Nat.le_refl _) B2.out) (lies_own (B := 0) O2.out) HN.out N2.out hc LP.out).mono ?_
  rintro e w3 ⟨⟨A3, n3, c3, rfl, hn3, _, hl3⟩, rfl⟩
  by_cases hp : pre2 b (Su.slot g l) = true
  · have e3 : trim6 b (Su.slot g l) = b.drop (Su.slot g l).length := by unfold trim6; rw [if_pos hp]
    rw [e3] at hn3 hl3
    have L3 := Lib.hid hl3
    have N3 := Lib.hid hn3
    have n3s : n3 ≤ 1000000000 := by rw [hn3, List.length_drop]; have := HN.out; omega
    have IS := Lib.hid (show Su.is b g l = (b.drop (Su.slot g l).length).all (· == 0) by rw [IP.out, hp, Bool.true_and])
    have HP := Lib.hid hp
    clear hn3 hl3 e3 hp IP
    rw [HP.out]
    go_wp2_with fail
    refine (blank_c L3.out N3.out n3s).mono ?_
    rw [← IS.out]
    rintro e w4 ⟨rfl, j, rfl⟩
    cases hi : Su.is b g l with
    | true =>
      have U := Lib.hid (show Su.unslot b = some (g, l) by rw [UN.out, hi, if_pos rfl])
      clear hi
      go_wp2
      refine bodyPost_ret (v := .tuple #[.int .u64 (g : Int), .slice A1 n1 c1, .int .i64 0]) (by simp [results, Tryz.results86, go_sem]) rfl ?_
      rw [U.out]
      exact ⟨A1, n1, c1, rfl, N1.out, hc1, own_below O12.out (below_drewN (Below.refl _ _) j), below_drewN B2.out j⟩
    | false =>
      have U := Lib.hid (show Su.unslot b = none by rw [UN.out, hi]; exact if_neg (by simp))
      clear hi
      go_wp2
      refine bodyPost_ret (v := .tuple #[.int .u64 0, .slice none 0 0, .int .i64 60]) (by simp [results, Tryz.results86, go_sem]) rfl ?_
      rw [U.out]
      exact NErrOk.bad (below_drewN B2.out j)
  · have hp : pre2 b (Su.slot g l) = false := by simpa using hp
    have U := Lib.hid (show Su.unslot b = none by rw [UN.out, IP.out, hp]; exact if_neg (by simp))
    rw [hp]
    clear hn3 hl3 hp IP
    go_wp2
    refine bodyPost_ret (v := .tuple #[.int .u64 0, .slice none 0 0, .int .i64 60]) (by simp [results, Tryz.results86, go_sem]) rfl ?_
    rw [U.out]
    exact NErrOk.bad B2.out

theorem cd_then {F : Nat → Prop} {w w1 w2 : World} {p : Nat} {d : Dk.D} (hb1 : But F w.heap.size w w1) (hr2 : CD w2 (Up (Up F w.heap.size) w1.heap.size) p d) (hb2 : But (Up F w.heap.size) w1.heap.size w1 w2) : CD w2 (Up F w.heap.size) p d ∧ But F w.heap.size w w2 :=
  ⟨hr2.mono (fun _ hk => hk.elim id (fun q => Or.inr (Nat.le_trans hb1.size q))), hb1.call hb2 hb1.size (fun _ h => h)⟩
theorem cd_down {F : Nat → Prop} {w w1 w2 : World} {p : Nat} {d : Dk.D} (hb : Below w.heap.size w w1) (hr2 : CD w2 (Up F w1.heap.size) p d) (hb2 : But F w1.heap.size w1 w2) : CD w2 (Up F w.heap.size) p d ∧ But F w.heap.size w w2 :=
  ⟨hr2.mono (fun _ hk => hk.elim Or.inl (fun q => Or.inr (Nat.le_trans hb.size q))), (But.of_below hb F).trans (hb2.mono hb.size (fun _ h => h))⟩
theorem sec_sec {b : List UInt8} (h : b.length ≤ 64) : Dk.sec (Dk.sec b) = Dk.sec b := by
  have e : Dk.sec (Dk.sec b) = Dk.sec b ++ List.replicate (64 - (Dk.sec b).length) 0 := rfl
  rw [e, Dk.sec_len h]
  simp
theorem write_sec {d : Dk.D} {i : Int} {b : List UInt8} (h : b.length ≤ 64) : Dk.write d i (Dk.sec b) = Dk.write d i b := by
  unfold Dk.write Dk.put
  rw [if_neg (c := 64 < (Dk.sec b).length) (by rw [Dk.sec_len h]; omega), if_neg (c := 64 < b.length) (by omega), sec_sec h]
theorem splice_zeros (b : List UInt8) (m : Nat) : splice (List.replicate m (Value.int .u8 0)) 0 (bcells b) = bcells (b ++ List.replicate (m - b.length) 0) := by
  unfold splice
  rw [bcells_len, bcells_app, Nat.zero_add]
  simp [bcells, bcell]
theorem splice_sec {b : List UInt8} : splice (List.replicate 64 (Value.int .u8 0)) 0 (bcells b) = bcells (Dk.sec b) := splice_zeros b 64
theorem Tryz.zeroArr64 : (Tryz.prog.info? 124).map (fun i => (i.zero, i.size)) = some (some (.agg (List.replicate 64 (.int .u8 0)).toArray), 64) := by kernel_rfl

set_option maxHeartbeats 2000000 in
theorem suWrite_c {w : World} {G : Nat → Prop} {q : Nat} {d : Dk.D} {A : Option Addr} {n c : Nat} {b : List UInt8} {B : Nat} {t : TypeId} (h : CD w G q d) (hG : ∀ k, G k → k < w.heap.size) (hd : d.ok) (hl : d.left ≤ 9223372036854775807) (hcl : d.cache.length ≤ 10000001)
    (hL : Lies w B t A (bcells b)) (hn : n = b.length) (hs : n ≤ 64) (i : Int) :
    Calls Tryz.prog 83 #[.pointer (some ⟨q, 0, none⟩), .int .i64 i, .slice A n c] w (CdOk G q (Dk.write d i b).1 (Dk.write d i b).2 w) := by
  have H := Lib.hid h
  have HG := Lib.hid hG
  have HD := Lib.hid hd
  have HL := Lib.hid hl
  have HC := Lib.hid hcl
  have HN := Lib.hid hn
  have WS := Lib.hid (write_sec (d := d) (i := i) (b := b) (by omega))
  obtain ⟨Zs, hZs⟩ : ∃ Zs, Zs = List.replicate 64 (Value.int .u8 0) := ⟨_, rfl⟩
  have zi : (Tryz.prog.info? 124).map (fun i => (i.zero, i.size)) = some (some (.agg Zs.toArray), 64) := by rw [hZs]; exact Tryz.zeroArr64
  have ZI := Lib.hid zi
  have HMIN : Hid ((bcells b).length = Nat.min n 64) := Lib.hid (by rw [bcells_len, ← hn]; exact (Nat.min_eq_left hs).symm)
  have HPOS : Hid (0 < (bcells b).length → ∃ ad, A = some ad ∧ ∀ j v, (bcells b)[j]? = some v → (w.alloc (.cells Zs.toArray 124)).cell? (ad.add j) = some v) := Lib.hid fun hp => by
    obtain ⟨ad, e, _, hc⟩ := (hL.old (t' := t)).alloc (Nat.le_refl _) (.cells Zs.toArray 124) (fun q => by rw [q] at hp; cases hp)
    exact ⟨ad, e, hc⟩
  have LSL : Hid (0 + (bcells b).length ≤ Zs.length) := Lib.hid (by rw [hZs, bcells_len, ← hn, List.length_replicate]; omega)
  have HB0 := Lib.hid (show Below w.heap.size w (w.alloc (.cells Zs.toArray 124)) from (Below.refl _ _).alloc (Nat.le_refl _) _)
  have XE := Lib.hid (show splice Zs 0 (bcells b) = bcells (Dk.sec b) by rw [hZs]; exact splice_sec)
  have S64 := Lib.hid (Dk.sec_len (b := b) (by omega))
  clear h hG hd hl hcl hL hn hZs zi
  go_enter Tryz.func83, Tryz.ntmps83
  go_wp2_with (first | (refine wpList_alloc_zero rfl 124 rfl ZI.out ?_) | (refine wpList_copy_splice rfl (.tmp 8) (.tmp 9) 23 23 rfl 5 Tryz.underlying23 Tryz.sizeU8 (some ⟨w.heap.size, 0, none⟩) A 64 64 n c rfl rfl w.heap.size 0 Zs 124 (heap_alloc_new w _) (bcells b) HMIN.out (fun q => ⟨rfl, HPOS.out q⟩) LSL.out (bcells_one b) w.heap.size w HB0.out (Nat.le_refl _) ?_; intro w3 hg3 hb3))
  have g3 := hg3.out
  rw [XE.out] at g3
  have B3 := Lib.hid hb3
  have L3 := Lib.hid (Lies.of_blk (B := 0) g3)
  have H3 := Lib.hid (H.out.keep (fun k hk _ => hb3.block k (HG.out k hk)))
  have IN := Lib.hid (show bcells (Dk.sec b) ≠ [] → InF (fun k => ¬ G k ∧ k < w3.heap.size) (some ⟨w.heap.size, 0, none⟩) from fun _ ad e => by
    injection e with e
    subst e
    exact ⟨fun g => by have := HG.out _ g; simp at this, lt_of_block g3⟩)
  clear hg3 hb3 g3 HMIN HPOS LSL HB0
  go_wp2_with fail
  refine (cdWrite_c H3.out HD.out HL.out (by have := HC.out; omega) L3.out IN.out S64.out.symm (by omega) (by omega) i).mono ?_
  rw [WS.out]
  rintro e w4 ⟨rfl, hr4, hb4⟩
  obtain ⟨q1, q2⟩ := cd_down B3.out hr4 hb4
  have R4 := Lib.hid q1
  have B4 := Lib.hid q2
  clear hr4 hb4 q1 q2
  go_wp2
  go_ret
  exact ⟨rfl, R4.out, B4.out⟩

set_option maxHeartbeats 4000000 in
set_option maxRecDepth 100000 in
theorem suSave_c {w : World} {G : Nat → Prop} {q : Nat} {d : Dk.D} {g n c : Nat} {A : Option Addr} {l : List Nat} {B : Nat} {t : TypeId} (h : CD w G q d) (hG : ∀ k, G k → k < w.heap.size) (hd : d.ok) (hl : d.left ≤ 9223372036854775807) (hcl : d.cache.length ≤ 10000000)
    (hL : Lies w B t A (ncells l)) (hn : n = l.length) (hc : n ≤ c) (hg : U64 g) (hx : ∀ x ∈ l, U64 x) (hs : n ≤ 1000000000) :
    Calls Tryz.prog 84 #[.pointer (some ⟨q, 0, none⟩), .int .u64 (g : Int), .slice A n c] w (CdOk G q (Su.save d g l).1 (Su.save d g l).2 w) := by
  have H := Lib.hid h
  have HF := Lib.hid hG
  have HD := Lib.hid hd
  have HL := Lib.hid hl
  have HC := Lib.hid hcl
  have LN := Lib.hid hL
  have HN := Lib.hid hn
  have HG := Lib.hid hg
  have HX := Lib.hid hx
  clear h hG hd hl hcl hL hn hg hx
  by_cases h4 : 4 < n
  · rw [Su.save_long (by rw [← HN.out]; exact h4)]
    have se : Su.slotE l = 2 := by unfold Su.slotE; rw [if_pos (by rw [← HN.out]; exact h4)]
    have SE := Lib.hid se
    clear se
    go_enter Tryz.func84, Tryz.ntmps84
    go_wp2_with fail
    refine (suSlot_c LN.out HN.out hc HG.out HX.out hs).mono ?_
    rw [SE.out]
    rintro e w1 ⟨A1, n1, c1, rfl, _, _, _, hb1⟩
    have B1 := Lib.hid hb1
    clear hb1
    go_wp2
    go_ret
    exact ⟨rfl, (H.out.keep (fun k hk _ => B1.out.block k (HF.out k hk))).mono (fun _ h => Or.inl h), But.of_below B1.out G⟩
  · have SN := Lib.hid (show ¬ 4 < l.length by rw [← HN.out]; exact h4)
    have se : Su.slotE l = 0 := by unfold Su.slotE; rw [if_neg SN.out]
    have sb : Su.slotB g l = Su.slot g l := by unfold Su.slotB; rw [if_neg SN.out]
    have SE := Lib.hid se
    have SB := Lib.hid sb
    have SF := Su.slot_fits (g := g) (l := l) (by have := SN.out; omega)
    have gm : ((g % 2 : Nat) : Int) = (g : Int) % 2 := by omega
    have GM := Lib.hid gm
    clear se sb gm
    obtain ⟨e1, d1, h1⟩ : ∃ e1 d1, Dk.flush d = (e1, d1) := ⟨_, _, rfl⟩
    have H1 := Lib.hid h1
    have D1 := Lib.hid (show d1.ok by have q := Dk.flush_ok HD.out; rw [h1] at q; exact q)
    have L1 := Lib.hid (show d1.left ≤ 9223372036854775807 by have q := Dk.flush_left HL.out; rw [h1] at q; exact q)
    have C1 := Lib.hid (show d1.cache.length ≤ 10000000 by have q := Dk.flush_few HC.out; rw [h1] at q; exact q)
    obtain ⟨e2, d2, h2⟩ : ∃ e2 d2, Dk.write d1 ((g % 2 : Nat) : Int) (Su.slot g l) = (e2, d2) := ⟨_, _, rfl⟩
    have H2 := Lib.hid h2
    have D2 := Lib.hid (show d2.ok by have q := Dk.write_ok D1.out ((g % 2 : Nat) : Int) (Su.slot g l); rw [h2] at q; exact q)
    have L2 := Lib.hid (show d2.left ≤ 9223372036854775807 by have q := Dk.write_left L1.out ((g % 2 : Nat) : Int) (Su.slot g l); rw [h2] at q; exact q)
    have C2 := Lib.hid (show d2.cache.length ≤ 10000001 by have q := Dk.write_few C1.out ((g % 2 : Nat) : Int) (Su.slot g l); rw [h2] at q; exact q)
    clear h1 h2
    go_enter Tryz.func84, Tryz.ntmps84
    go_wp2_with fail
    refine (suSlot_c LN.out HN.out hc HG.out HX.out hs).mono ?_
    rw [SE.out, SB.out]
    rintro e w1 ⟨A1, n1, c1, rfl, hn1, hc1, ho1, hb1⟩
    obtain ⟨wt, hwt⟩ : ∃ wt, wt = Su.slot g l := ⟨_, rfl⟩
    rw [← hwt] at hn1 ho1 SF
    have WT := Lib.hid hwt
    subst hn1
    have B1 := Lib.hid hb1
    have O1 := Lib.hid ho1
    have R1 := Lib.hid (H.out.keep (fun k hk _ => hb1.block k (HF.out k hk)))
    have F1 := Lib.hid (fun k hk => Nat.lt_of_lt_of_le (HF.out k hk) hb1.size)
    clear hb1 ho1 hwt
    go_wp2_with fail
    refine (cdFlush_c R1.out HD.out HL.out (by have := HC.out; omega)).mono ?_
    rw [H1.out]
    rintro e w2 ⟨rfl, hr2, hb2⟩
    have R2 := Lib.hid hr2.cap
    have B2 := Lib.hid hb2
    have F2 := Lib.hid (show ∀ k, (Up G w1.heap.size k ∧ k < w2.heap.size) → k < w2.heap.size from fun _ h => h.2)
    clear hr2 hb2
    by_cases z1 : e1 = 0
    · subst z1
      go_wp2_with fail
      have O2 := Lib.hid (own_keep O1.out (fun k e => B2.out.block k (O1.out.lt k e).2 (fun f => by have := HF.out k f; have := (O1.out.lt k e).1; omega)))
      refine (suWrite_c R2.out F2.out D1.out L1.out (by have := C1.out; omega) (lies_own (B := 0) O2.out) rfl (by omega) _).mono ?_
      rw [← GM.out, WT.out, H2.out]
      rintro e w3 ⟨rfl, hr3, hb3⟩
      obtain ⟨q1, q2⟩ := cd_then B2.out (hr3.mono (fun _ k => k.elim (fun z => Or.inl z.1) Or.inr)) (hb3.mono (Nat.le_refl _) (fun _ k => k.1))
      have R3 := Lib.hid q1
      have B3 := Lib.hid q2
      clear hr3 hb3 q1 q2
      by_cases z2 : e2 = 0
      · subst z2
        have SV := Lib.hid (Su.save_three SN.out H1.out H2.out)
        go_wp2_with fail
        refine (cdFlush_c R3.out D2.out L2.out (by have := C2.out; omega)).mono ?_
        rintro e w4 ⟨rfl, hr4, hb4⟩
        obtain ⟨q1, q2⟩ := cd_then B3.out hr4 hb4
        obtain ⟨q3, q4⟩ := cd_down B1.out q1 q2
        have R4 := Lib.hid q3
        have B4 := Lib.hid q4
        clear hr4 hb4 q1 q2 q3 q4
        go_wp2
        go_ret
        rw [SV.out]
        exact ⟨rfl, R4.out, B4.out⟩
      · have zz : (e2 != 0) = true := by simp [z2]
        have SV := Lib.hid (Su.save_two (g := g) SN.out H1.out H2.out z2)
        clear z2
        go_wp2
        go_ret
        rw [SV.out]
        obtain ⟨q1, q2⟩ := cd_down B1.out R3.out B3.out
        exact ⟨rfl, q1, q2⟩
    · have zz : (e1 != 0) = true := by simp [z1]
      have SV := Lib.hid (Su.save_one (g := g) SN.out H1.out z1)
      clear z1
      go_wp2
      go_ret
      rw [SV.out]
      obtain ⟨q1, q2⟩ := cd_down B1.out (R2.out.mono (fun _ k => k.1)) B2.out
      exact ⟨rfl, q1, q2⟩

namespace Su
def fm (d : Dk.D) : Nat → Dk.D
  | 0 => d
  | k + 1 => (Dk.write (fm d k) (k : Int) []).2
def fe (d : Dk.D) (k : Nat) : Int := (Dk.write (fm d k) (k : Int) []).1
theorem format_bad {d : Dk.D} {l : List Nat} {k : Nat} (hk : k < 2) (h : ∀ j, j < k → fe d j = 0) (hz : fe d k ≠ 0) : format d l = (fe d k, fm d (k + 1)) := by
  have e0 : fe d 0 = (Dk.write d 0 []).1 := rfl
  have e1 : fe d 1 = (Dk.write (Dk.write d 0 []).2 1 []).1 := rfl
  rcases k with _ | _ | k
  · unfold format
    rw [if_neg (by rw [← e0]; exact hz)]
    rfl
  · unfold format
    rw [if_pos (by rw [← e0]; exact h 0 (by omega)), if_neg (by rw [← e1]; exact hz)]
    rfl
  · omega
theorem format_ok {d : Dk.D} {l : List Nat} (h : ∀ j, j < 2 → fe d j = 0) : format d l = save (fm d 2) 0 l := by
  have e0 : fe d 0 = (Dk.write d 0 []).1 := rfl
  have e1 : fe d 1 = (Dk.write (Dk.write d 0 []).2 1 []).1 := rfl
  unfold format
  rw [if_pos (by rw [← e0]; exact h 0 (by omega)), if_pos (by rw [← e1]; exact h 1 (by omega))]
  rfl
theorem fm_all {d : Dk.D} (hd : d.ok) (hl : d.left ≤ 9223372036854775807) (hc : d.cache.length ≤ 1000000) (k : Nat) : (fm d k).ok ∧ (fm d k).left ≤ 9223372036854775807 ∧ (fm d k).cache.length ≤ 1000000 + k := by
  induction k with
  | zero => exact ⟨hd, hl, hc⟩
  | succ k ih => exact ⟨Dk.write_ok ih.1 _ _, Dk.write_left ih.2.1 _ _, by have := Dk.write_few ih.2.2 (k : Int) []; exact this⟩
end Su

set_option maxHeartbeats 4000000 in
set_option maxRecDepth 100000 in
theorem suFormat_c {w : World} {G : Nat → Prop} {q : Nat} {d : Dk.D} {n c : Nat} {A : Option Addr} {l : List Nat} {B : Nat} {t : TypeId} (h : CD w G q d) (_hG : ∀ k, G k → k < w.heap.size) (hd : d.ok) (hl : d.left ≤ 9223372036854775807) (hcl : d.cache.length ≤ 1000000)
    (hL : Lies w B t A (ncells l)) (hLG : ncells l ≠ [] → InF (fun k => ¬ G k ∧ k < w.heap.size) A) (hn : n = l.length) (hc : n ≤ c) (hx : ∀ x ∈ l, U64 x) (hs : n ≤ 1000000000) :
    Calls Tryz.prog 70 #[.pointer (some ⟨q, 0, none⟩), .slice A n c] w (CdOk G q (Su.format d l).1 (Su.format d l).2 w) := by
  have H := Lib.hid (show CD w (fun b => Up G w.heap.size b ∧ b < w.heap.size) q d from (h.mono up_self).cap)
  have FA := Lib.hid (Su.fm_all hd hl hcl)
  have LN := Lib.hid hL
  have LG := Lib.hid hLG
  have HN := Lib.hid hn
  have HX := Lib.hid hx
  clear h hd hl hcl hL hLG hn hx
  go_enter Tryz.func70, Tryz.ntmps70
  go_wp2_with fail
  go_loopw [7] (fun i wr => ∃ k : Nat, k ≤ 2 ∧ i = .int .i64 k ∧ (∀ j, j < k → Su.fe d j = 0) ∧ CD wr (fun b => Up G w.heap.size b ∧ b < wr.heap.size) q (Su.fm d k) ∧ But G w.heap.size w wr) (fun i _ => 2 - (intOf i).toNat)
  case atStart => exact ⟨0, by omega, rfl, fun _ h => by omega, H.out, But.refl _ _ _⟩
  case round =>
    obtain ⟨k, hk, rfl, hf, hc0, hb0⟩ := hrel
    have C0 := Lib.hid hc0
    have B0 := Lib.hid hb0
    have F0 := Lib.hid hf
    have FK := Lib.hid (FA.out k)
    clear hc0 hb0 hf
    by_cases hlt : k < 2
    · obtain ⟨e1, he1⟩ : ∃ e1, Su.fe d k = e1 := ⟨_, rfl⟩
      have E1 := Lib.hid (show (Dk.write (Su.fm d k) (k : Int) []).1 = e1 from he1)
      have E2 := Lib.hid (show (Dk.write (Su.fm d k) (k : Int) []).2 = Su.fm d (k + 1) from rfl)
      have HE1 := Lib.hid he1
      clear he1
      go_wp2_with fail
      refine (suWrite_c (A := none) (n := 0) (c := 0) (b := []) (B := 0) (t := 0) C0.out (fun _ h => h.2) FK.out.1 FK.out.2.1 (by have := FK.out.2.2; omega) Lies.nil rfl (by omega) (k : Int)).mono ?_
      rw [E1.out, E2.out]
      rintro e w1 ⟨rfl, hr1, hb1⟩
      obtain ⟨q1, q2⟩ := cd_then B0.out (hr1.mono (fun _ k => k.elim (fun z => Or.inl z.1) Or.inr)) (hb1.mono (Nat.le_refl _) (fun _ k => k.1))
      have R1 := Lib.hid q1
      have B1 := Lib.hid q2
      clear hr1 hb1 q1 q2
      by_cases z1 : e1 = 0
      · subst z1
        go_wp2
        go_roundw
        case rel => exact ⟨k + 1, by omega, by go_num, fun j hj => by rcases Nat.lt_succ_iff_lt_or_eq.1 hj with q | q; exact F0.out j q; rw [q]; exact HE1.out, R1.out.cap, B1.out⟩
        case measure => simp [intOf]; omega
      · have zz : (e1 != 0) = true := by simp [z1]
        have FB := Lib.hid (Su.format_bad (l := l) hlt F0.out (by rw [HE1.out]; exact z1))
        clear z1
        go_wp2
        go_ret
        rw [FB.out, HE1.out]
        exact ⟨rfl, R1.out, B1.out⟩
    · obtain rfl : k = 2 := by omega
      have FO := Lib.hid (Su.format_ok (l := l) F0.out)
      have L0 := Lib.hid (LN.out.but LG.out B0.out)
      go_wp2_with fail
      refine (suSave_c (g := 0) C0.out (fun _ h => h.2) FK.out.1 FK.out.2.1 (by have := FK.out.2.2; omega) L0.out HN.out hc (U64.of (by decide)) HX.out hs).mono ?_
      rw [← FO.out]
      rintro e w1 ⟨rfl, hr1, hb1⟩
      obtain ⟨q1, q2⟩ := cd_then B0.out (hr1.mono (fun _ k => k.elim (fun z => Or.inl z.1) Or.inr)) (hb1.mono (Nat.le_refl _) (fun _ k => k.1))
      have R1 := Lib.hid q1
      have B1 := Lib.hid q2
      clear hr1 hb1 q1 q2
      go_wp2
      go_ret
      exact ⟨rfl, R1.out, B1.out⟩

namespace Su
def ac (d : Dk.D) : Nat → Option (Nat × List Nat)
  | 0 => none
  | k + 1 => pick (ac d k) (unslot (Dk.read d (k : Int)).1)
theorem load_bad {d : Dk.D} {k : Nat} (hk : k < 2) (h : ∀ j, j < k → (Dk.read d ((j : Nat) : Int)).2 = 0) (hz : (Dk.read d (k : Int)).2 ≠ 0) : load d = (0, [], (Dk.read d (k : Int)).2) := by
  rcases k with _ | _ | k
  · exact load_one (b := (Dk.read d 0).1) rfl hz
  · exact load_two (b := (Dk.read d 0).1) (c := (Dk.read d 1).1) (Prod.ext rfl (h 0 (by omega))) rfl hz
  · omega
theorem load_both {d : Dk.D} (h : ∀ j, j < 2 → (Dk.read d ((j : Nat) : Int)).2 = 0) : load d = ofPick (ac d 2) := by
  rw [load_all (b := (Dk.read d 0).1) (c := (Dk.read d 1).1) (Prod.ext rfl (h 0 (by omega))) (Prod.ext rfl (h 1 (by omega)))]
  rfl
theorem pick_none (a : Option (Nat × List Nat)) : pick a none = a := by cases a <;> rfl
end Su

set_option maxHeartbeats 4000000 in
set_option maxRecDepth 100000 in
theorem suLoad_c {w : World} {G : Nat → Prop} {q : Nat} {d : Dk.D} (h : CD w G q d) (hG : ∀ k, G k → k < w.heap.size) (hd : d.ok) (hcl : d.cache.length ≤ 10000000) :
    Calls Tryz.prog 71 #[.pointer (some ⟨q, 0, none⟩)] w (NErrOk w.heap.size (Su.load d) w) := by
  have H := Lib.hid h
  have HG := Lib.hid hG
  have HD := Lib.hid hd
  clear h hG hd
  go_enter Tryz.func71, Tryz.ntmps71
  go_wp2_with fail
  go_loopw [2, 3, 4, 11] (fun g s e i wr => ∃ (k : Nat) (A3 : Option Addr) (n3 c3 : Nat), k ≤ 2 ∧ i = .int .i64 k ∧ g = .int .u64 ((Su.ofPick (Su.ac d k)).1 : Int) ∧ s = .slice A3 n3 c3 ∧ e = .int .i64 (Su.ofPick (Su.ac d k)).2.2 ∧ n3 = (Su.ofPick (Su.ac d k)).2.1.length ∧ n3 ≤ c3 ∧ wr.ownsRow w.heap.size 62 1 (.slice A3 n3 c3) n3 (ncells (Su.ofPick (Su.ac d k)).2.1) ∧ (∀ j, j < k → (Dk.read d ((j : Nat) : Int)).2 = 0) ∧ Below w.heap.size w wr) (fun _ _ _ i _ => 2 - (intOf i).toNat)
  case atStart => exact ⟨0, none, 0, 0, by omega, rfl, rfl, rfl, rfl, rfl, Nat.le_refl _, World.ownsRow_nil _ _ _ _, fun _ h => by omega, Below.refl _ _⟩
  case round =>
    obtain ⟨k, A3, n3, c3, hk, rfl, rfl, rfl, rfl, hn3, hc3, ho3, hf, hb3⟩ := hrel
    have N3 := Lib.hid hn3
    have O3 := Lib.hid ho3
    have F3 := Lib.hid hf
    have B3 := Lib.hid hb3
    have z3 := hb3.size
    clear hn3 ho3 hf hb3
    by_cases hlt : k < 2
    · obtain ⟨b1, e1, h1⟩ : ∃ b e, Dk.read d (k : Int) = (b, e) := ⟨_, _, rfl⟩
      have K1 := Lib.hid (show b1.length ≤ 64 by have q := read_len HD.out (k : Int); rw [h1] at q; exact q)
      have H1 := Lib.hid h1
      have H3 := Lib.hid (H.out.keep (fun k hk _ => B3.out.block k (HG.out k hk)))
      clear h1
      go_wp2_with fail
      refine (cdRead_c H3.out HD.out (by omega) (k : Int)).mono ?_
      rw [H1.out]
      rintro e w1 ⟨A1, n1, c1, rfl, hn1, hc1, ho1, hb1⟩
      subst hn1
      have O1 := Lib.hid ho1
      have O31 := Lib.hid (own_below O3.out hb1)
      have B1 := Lib.hid (B3.out.trans (hb1.mono z3))
      have z1 := B1.out.size
      clear ho1 hb1
      by_cases q1 : e1 = 0
      · subst q1
        have F4 := Lib.hid (show ∀ j, j < k + 1 → (Dk.read d ((j : Nat) : Int)).2 = 0 from fun j hj => by
          rcases Nat.lt_succ_iff_lt_or_eq.1 hj with q | q
          · exact F3.out j q
          · rw [q, H1.out])
        have A4 := Lib.hid (show Su.ac d (k + 1) = Su.pick (Su.ac d k) (Su.unslot b1) by
          have e : Su.ac d (k + 1) = Su.pick (Su.ac d k) (Su.unslot (Dk.read d (k : Int)).1) := rfl
          rw [e, H1.out])
        go_wp2_with fail
        refine (suOf_c (lies_own (B := 0) O1.out) rfl hc1 (by have := K1.out; omega)).mono ?_
        rintro e w2 ⟨A5, n5, c5, rfl, hn5, hc5, ho5, hb5⟩
        have O5 := Lib.hid (own_less ho5 z1)
        have N5 := Lib.hid hn5
        have O35 := Lib.hid (own_below O31.out hb5)
        have B5 := Lib.hid (B1.out.trans (hb5.mono z1))
        clear ho5 hb5 hn5
        cases u1 : Su.unslot b1 with
        | none =>
          have U := Lib.hid (show Su.ac d (k + 1) = Su.ac d k by rw [A4.out, u1, Su.pick_none])
          clear u1
          dsimp only [Su.ofPick]
          go_wp2
          go_roundw
          case rel => exact ⟨k + 1, A3, n3, c3, by omega, by go_num, by rw [U.out]; rfl, rfl, by rw [U.out]; rfl, by rw [U.out]; exact N3.out, hc3, by rw [U.out]; exact O35.out, F4.out, B5.out⟩
          case measure => simp [intOf]; omega
        | some x =>
          obtain ⟨g5, l5⟩ := x
          rw [u1] at N5 O5
          cases u0 : Su.ac d k with
          | none =>
            have U := Lib.hid (show Su.ac d (k + 1) = some (g5, l5) by rw [A4.out, u1, u0]; rfl)
            clear u1 u0
            dsimp only [Su.ofPick] at N5 O5 ⊢
            go_wp2
            go_roundw
            case rel => exact ⟨k + 1, A5, n5, c5, by omega, by go_num, by rw [U.out]; rfl, rfl, by rw [U.out]; rfl, by rw [U.out]; exact N5.out, hc5, by rw [U.out]; exact O5.out, F4.out, B5.out⟩
            case measure => simp [intOf]; omega
          | some y =>
            obtain ⟨g0, l0⟩ := y
            by_cases hg : g0 < g5
            · have U := Lib.hid (show Su.ac d (k + 1) = some (g5, l5) by rw [A4.out, u1, u0]; exact if_pos hg)
              have dl : decide (g0 < g5) = true := by simp [hg]
              clear u1 u0 hg
              dsimp only [Su.ofPick] at N5 O5 ⊢
              go_wp2
              go_roundw
              case rel => exact ⟨k + 1, A5, n5, c5, by omega, by go_num, by rw [U.out]; rfl, rfl, by rw [U.out]; rfl, by rw [U.out]; exact N5.out, hc5, by rw [U.out]; exact O5.out, F4.out, B5.out⟩
              case measure => simp [intOf]; omega
            · have U := Lib.hid (show Su.ac d (k + 1) = some (g0, l0) by rw [A4.out, u1, u0]; exact if_neg hg)
              rw [u0] at N3 O35
              have dl : decide (g0 < g5) = false := by simp [hg]
              clear u1 u0 hg
              dsimp only [Su.ofPick] at N3 O35 ⊢
              go_wp2
              go_roundw
              case rel => exact ⟨k + 1, A3, n3, c3, by omega, by go_num, by rw [U.out]; rfl, rfl, by rw [U.out]; rfl, by rw [U.out]; exact N3.out, hc3, by rw [U.out]; exact O35.out, F4.out, B5.out⟩
              case measure => simp [intOf]; omega
      · have zz : (e1 != 0) = true := by simp [q1]
        have LB := Lib.hid (Su.load_bad hlt F3.out (by rw [H1.out]; exact q1))
        clear q1
        go_wp2
        refine bodyPost_ret (v := .tuple #[.int .u64 0, .slice none 0 0, .int .i64 e1]) (by simp [results, Tryz.results71, go_sem]) rfl ?_
        rw [LB.out, H1.out]
        exact NErrOk.bad B1.out
    · obtain rfl : k = 2 := by omega
      have LA := Lib.hid (Su.load_both F3.out)
      go_wp2
      refine bodyPost_ret (v := .tuple #[.int .u64 ((Su.ofPick (Su.ac d 2)).1 : Int), .slice A3 n3 c3, .int .i64 (Su.ofPick (Su.ac d 2)).2.2]) (by simp [results, Tryz.results71, go_sem]) rfl ?_
      rw [LA.out]
      exact ⟨A3, n3, c3, rfl, N3.out, hc3, O3.out, B3.out⟩
end Go.Proofs.YtpnfpeeijghamaaGreat
