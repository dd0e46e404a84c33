/- What the code's own super stands on: prefixes of bytes, blank bytes, the numbers that bytes begin with, a writer's bytes. -/
import Derived.Test.YthddpenpmjonkaaSv
import Derived.Test.YthddpenpmjonkaaRe
import Derived.Test.YthddpenpmjonkaaFp1
namespace Go.Proofs.Ythddpenpmjonkaa
open Go.RowKit
set_option maxRecDepth 100000

/-- Bytes begin with others. -/
def pre2 (l m : List UInt8) : Bool := decide (m.length ≤ l.length) && (l.take m.length == m)
def trim6 (l m : List UInt8) : List UInt8 := if pre2 l m = true then l.drop m.length else l

set_option maxHeartbeats 1000000 in
theorem hasPrefix_c {A A2 : Option Addr} {n c n2 c2 : Nat} {l m : List UInt8} {w : World} {B B2 : Nat} {t t2 : TypeId} (h : Lies w B t A (bcells l)) (h2 : Lies w B2 t2 A2 (bcells m)) (hn : n = l.length) (hn2 : n2 = m.length) (hc : n ≤ c) :
    Calls Try.prog 55 #[.slice A n c, .slice A2 n2 c2] w fun e w' => e = .returned (.bool (pre2 l m)) ∧ w = w' := by
  have H := Lib.hid h
  have H2 := Lib.hid h2
  have HN := Lib.hid hn
  have HN2 := Lib.hid hn2
  clear h h2
  by_cases hle : n2 ≤ n
  · have e1 : pre2 l m = (l.take m.length == m) := by unfold pre2; rw [decide_eq_true (by omega)]; rfl
    have LT := Lib.hid (show n2 = (l.take n2).length by rw [List.length_take]; omega)
    have T := Lib.hid (show Lies w B t A (bcells (l.take n2)) by rw [← bcells_take]; exact H.out.take n2)
    rw [e1, ← hn2]
    have hle2 : (n2 : Int) ≤ (n : Int) := by omega
    have hnc : n2 ≤ c := by omega
    have hnc2 : (n2 : Int) ≤ (c : Int) := by omega
    clear hn hn2 e1
    go_enter Try.func55, Try.ntmps55
    go_wp2_with fail
    refine (equal_c (l := l.take n2) (m := m) T.out H2.out LT.out HN2.out).mono ?_
    rintro e w' ⟨rfl, rfl⟩
    go_wp2
    go_ret
    exact ⟨rfl, rfl⟩
  · have e1 : pre2 l m = false := by unfold pre2; rw [decide_eq_false (by omega)]; rfl
    rw [e1]
    have hle2 : decide ((n2 : Int) ≤ (n : Int)) = false := by simp; omega
    clear hn hn2 e1
    go_enter Try.func55, Try.ntmps55
    go_wp2
    go_ret
    exact ⟨rfl, rfl⟩

set_option maxHeartbeats 1000000 in
theorem trimPrefix_c {A A2 : Option Addr} {n c n2 c2 : Nat} {l m : List UInt8} {w : World} {B B2 : Nat} {t t2 : TypeId} (h : Lies w B t A (bcells l)) (h2 : Lies w B2 t2 A2 (bcells m)) (hn : n = l.length) (hn2 : n2 = m.length) (hc : n ≤ c) (h0 : 0 < m.length) :
    Calls Try.prog 53 #[.slice A n c, .slice A2 n2 c2] w fun e w' => (∃ A' n' c', e = .returned (.slice A' n' c') ∧ n' = (trim6 l m).length ∧ n' ≤ c' ∧ Lies w B t A' (bcells (trim6 l m))) ∧ w = w' := by
  have H := Lib.hid h
  have H2 := Lib.hid h2
  have HN := Lib.hid hn
  have HN2 := Lib.hid hn2
  by_cases hp : pre2 l m = true
  · have e1 : trim6 l m = l.drop n2 := by unfold trim6; rw [if_pos hp, hn2]
    have hle : m.length ≤ l.length := by unfold pre2 at hp; simp at hp; exact hp.1
    have hle2 : (n2 : Int) ≤ (n : Int) := by omega
    obtain ⟨ad, rfl, _⟩ := h (by intro q; have := congrArg List.length q; rw [bcells_len] at this; simp only [List.length_nil] at this; omega)
    obtain ⟨A3, hA3⟩ : ∃ A3, (if c = n2 then some ad else some (ad.add n2)) = A3 := ⟨_, rfl⟩
    have T := Lib.hid (show Lies w B t A3 (bcells (l.drop n2)) by
      have q := h.cut n2 c (by rw [bcells_len]; omega)
      rw [bcells_drop] at q
      rw [← hA3]
      exact q)
    have L2 := Lib.hid (show n - n2 = (l.drop n2).length by rw [List.length_drop]; omega)
    have hnc : n - n2 ≤ c - n2 := by omega
    have HP := Lib.hid hp
    rw [e1]
    clear e1 h h2 hp hn hn2
    go_enter Try.func53, Try.ntmps53
    go_wp2_with fail
    refine (hasPrefix_c (l := l) (m := m) H.out H2.out HN.out HN2.out hc).mono ?_
    rw [HP.out]
    rintro e w' ⟨rfl, rfl⟩
    go_wp2
    go_ret
    exact ⟨⟨A3, _, _, rfl, L2.out, hnc, T.out⟩, rfl⟩
  · have hp2 : pre2 l m = false := by simpa using hp
    have e1 : trim6 l m = l := by unfold trim6; rw [if_neg hp]
    have HP := Lib.hid hp2
    rw [e1]
    clear e1 h h2 hp hp2 hn hn2
    go_enter Try.func53, Try.ntmps53
    go_wp2_with fail
    refine (hasPrefix_c (l := l) (m := m) H.out H2.out HN.out HN2.out hc).mono ?_
    rw [HP.out]
    rintro e w' ⟨rfl, rfl⟩
    go_wp2
    go_ret
    exact ⟨⟨A, n, c, rfl, HN.out, hc, H.out⟩, rfl⟩

set_option maxHeartbeats 1000000 in
theorem cutPrefix_c {A A2 : Option Addr} {n c n2 c2 : Nat} {l m : List UInt8} {w : World} {B B2 : Nat} {t t2 : TypeId} (h : Lies w B t A (bcells l)) (h2 : Lies w B2 t2 A2 (bcells m)) (hn : n = l.length) (hn2 : n2 = m.length) (hc : n ≤ c) (h0 : 0 < m.length) :
    Calls Try.prog 30 #[.slice A n c, .slice A2 n2 c2] w fun e w' => (∃ A' n' c', e = .returned (.tuple #[.slice A' n' c', .bool (pre2 l m)]) ∧ n' = (trim6 l m).length ∧ n' ≤ c' ∧ Lies w B t A' (bcells (trim6 l m))) ∧ w = w' := by
  have H := Lib.hid h
  have H2 := Lib.hid h2
  have HN := Lib.hid hn
  have HN2 := Lib.hid hn2
  by_cases hp : pre2 l m = true
  · have e1 : trim6 l m = l.drop n2 := by unfold trim6; rw [if_pos hp, hn2]
    have hle : m.length ≤ l.length := by unfold pre2 at hp; simp at hp; exact hp.1
    have hle2 : (n2 : Int) ≤ (n : Int) := by omega
    obtain ⟨ad, rfl, _⟩ := h (by intro q; have := congrArg List.length q; rw [bcells_len] at this; simp only [List.length_nil] at this; omega)
    obtain ⟨A3, hA3⟩ : ∃ A3, (if c = n2 then some ad else some (ad.add n2)) = A3 := ⟨_, rfl⟩
    have T := Lib.hid (show Lies w B t A3 (bcells (l.drop n2)) by
      have q := h.cut n2 c (by rw [bcells_len]; omega)
      rw [bcells_drop] at q
      rw [← hA3]
      exact q)
    have L2 := Lib.hid (show n - n2 = (l.drop n2).length by rw [List.length_drop]; omega)
    have hnc : n - n2 ≤ c - n2 := by omega
    have HP := Lib.hid hp
    rw [e1, hp]
    clear e1 h h2 hp hn hn2
    go_enter Try.func30, Try.ntmps30
    go_wp2_with fail
    refine (hasPrefix_c (l := l) (m := m) H.out H2.out HN.out HN2.out hc).mono ?_
    rw [HP.out]
    rintro e w' ⟨rfl, rfl⟩
    go_wp2
    go_ret2
    exact ⟨⟨A3, _, _, rfl, L2.out, hnc, T.out⟩, rfl⟩
  · have hp2 : pre2 l m = false := by simpa using hp
    have e1 : trim6 l m = l := by unfold trim6; rw [if_neg hp]
    have HP := Lib.hid hp2
    rw [e1, hp2]
    clear e1 h h2 hp hp2 hn hn2
    go_enter Try.func30, Try.ntmps30
    go_wp2_with fail
    refine (hasPrefix_c (l := l) (m := m) H.out H2.out HN.out HN2.out hc).mono ?_
    rw [HP.out]
    rintro e w' ⟨rfl, rfl⟩
    go_wp2
    go_ret2
    exact ⟨⟨A, n, c, rfl, HN.out, hc, H.out⟩, rfl⟩

set_option maxHeartbeats 1000000 in
theorem blank_c {A : Option Addr} {n c : Nat} {l : List UInt8} {w : World} {B : Nat} {t : TypeId} (h : Lies w B t A (bcells l)) (hn : n = l.length) (hs : n ≤ 1000000000) :
    Calls Try.prog 31 #[.slice A n c] w fun e w' => e = .returned (.bool (l.all (· == 0))) ∧ ∃ j, w' = w.drewN j := by
  have H := Lib.hid h
  clear h
  subst hn
  go_enter Try.func31, Try.ntmps31
  go_wp2_with fail
  go_loopw [7] (fun i wr => ∃ k j : Nat, k ≤ l.length ∧ i = .int .i64 k ∧ (l.take k).all (· == 0) = true ∧ wr = w.drewN j) (fun i _ => l.length - (intOf i).toNat)
  case atStart => exact ⟨0, 0, Nat.zero_le _, rfl, rfl, rfl⟩
  case round =>
    obtain ⟨k, j, hk, rfl, ha, rfl⟩ := hrel
    by_cases hlt : k < l.length
    · obtain ⟨ad, rfl, hc⟩ := H.out.byte hlt
      have k0 : 0 ≤ (k : Int) := by omega
      have k1 : (k : Int) < (l.length : Int) := by omega
      by_cases hz : l[k] = 0
      · have HA := Lib.hid (show (l.take (k + 1)).all (· == 0) = true by rw [take_next (List.getElem?_eq_getElem hlt), List.all_append, ha, hz]; rfl)
        rw [hz] at hc
        have q' : (((0 : UInt8).toNat : Int) != 0) = false := by decide
        clear ha hz
        go_wp2
        go_roundw
        case rel => exact ⟨k + 1, j, by omega, by go_num, HA.out, rfl⟩
        case measure => simp [intOf]; omega
      · have HA := Lib.hid (show l.all (· == 0) = false by
          rw [List.all_eq_false]
          exact ⟨l[k], List.getElem_mem hlt, by simpa using hz⟩)
        have q' : ((l[k].toNat : Int) != 0) = true := by
          have : l[k].toNat ≠ 0 := fun e => hz (UInt8.toNat.inj e)
          simp; omega
        generalize l[k] = x at *
        clear ha hz
        go_wp2
        go_ret
        rw [HA.out]
        exact ⟨rfl, j, rfl⟩
    · obtain rfl : k = l.length := by omega
      rw [List.take_length] at ha
      go_wp2
      go_ret
      rw [ha]
      exact ⟨rfl, j, rfl⟩

namespace Su
/-- The numbers with which bytes begin, whatever they are. -/
def nums6 (b : List UInt8) : Nat × List Nat := ((tell (some (trim6 b [70, 83]))).1, (tell (some (trim6 b [70, 83]))).2.1)
theorem nums6_good (b : List UInt8) : Good (nums6 b).1 (nums6 b).2 := tell_good _
theorem trim_slot {g : Nat} {l : List Nat} (t : List UInt8) : trim6 (slot g l ++ t) [70, 83] = (slot g l ++ t).drop 2 := by
  unfold trim6
  exact if_pos (by unfold pre2 slot body; simp)
theorem unslot_nums (b : List UInt8) : unslot b = if is b (nums6 b).1 (nums6 b).2 = true then some (nums6 b) else none := by
  by_cases hi : is b (nums6 b).1 (nums6 b).2 = true
  · rw [if_pos hi]
    exact unslot_iff.2 ⟨nums6_good b, is_iff.1 hi⟩
  · rw [if_neg hi]
    cases h : unslot b with
    | none => rfl
    | some x =>
      obtain ⟨g, l⟩ := x
      obtain ⟨hg, k, rfl⟩ := unslot_iff.1 h
      refine absurd ?_ hi
      have e : nums6 (slot g l ++ List.replicate k 0) = (g, l) := by
        unfold nums6
        rw [trim_slot, tell_slot hg]
      rw [e]
      exact is_iff.2 ⟨k, rfl⟩
theorem is_pre (b : List UInt8) (g : Nat) (l : List Nat) : is b g l = (pre2 b (slot g l) && (b.drop (slot g l).length).all (· == 0)) := by
  have e : (b.take (slot g l).length == slot g l) = decide (slot g l = b.take (slot g l).length) := by
    rw [Bool.eq_iff_iff, beq_iff_eq, decide_eq_true_eq]
    exact eq_comm
  unfold is pre2
  rw [e]
theorem wrote (g : Nat) (l : List Nat) : [70, 83] ++ ([] ++ nums [(g : Int), (l.length : Int)] ++ nums (l.map fun n : Nat => (n : Int))) = body g l := by
  have e : nums (l.map fun n : Nat => (n : Int)) = l.flatMap Cd.num := by
    unfold nums
    rw [List.flatMap_map]
    rfl
  rw [e]
  unfold nums body
  simp
end Su

/-- It returned a number and numbers of its own, and left all older memory alone. -/
def NumOk (B : Nat) (x : Nat × List Nat) (w : World) (e : Ending) (w' : World) : Prop :=
  ∃ A n c, e = .returned (.tuple #[.int .u64 (x.1 : Int), .slice A n c]) ∧ n = x.2.length ∧ n ≤ c ∧ w'.ownsRow B 22 1 (.slice A n c) n (ncells x.2) ∧ Below B w w'

set_option maxHeartbeats 4000000 in
set_option maxRecDepth 100000 in
theorem suNumbers_c {A : Option Addr} {n c : Nat} {b : List UInt8} {w : World} {B : Nat} {t : TypeId} (hL : Lies w B t A (bcells b)) (hn : n = b.length) (hc : n ≤ c) (hs : n ≤ 1000000000) :
    Calls Try.prog 29 #[.slice A n c] w (NumOk w.heap.size (Su.nums6 b) w) := by
  have HL := Lib.hid (hL.old (t' := 0))
  have HN := Lib.hid hn
  have kc := fun (w : World) (C : Array Value) (n c : Nat) => Lib.run_convert_bytes_const (P := Try.prog) w 24 5 C n c Try.underlying24 Try.underlying5
  obtain ⟨tr, htr⟩ : ∃ tr, tr = trim6 b [70, 83] := ⟨_, rfl⟩
  have TR := Lib.hid (show tr.length ≤ 1000000000 by
    rw [htr]
    unfold trim6
    split
    · rw [List.length_drop]; omega
    · omega)
  have H0 := Lib.hid (show ∀ l, some tr = some l → l.length ≤ 1099511627776 from fun l e => by injection e with e; subst e; have := TR.out; omega)
  obtain ⟨g, s1, e1⟩ : ∃ g s1, Cd.rdN Cd.full (some tr) = (g, s1) := ⟨_, _, rfl⟩
  obtain ⟨k, s2, e2⟩ : ∃ k s2, Cd.rdN 4 s1 = (k, s2) := ⟨_, _, rfl⟩
  have E1 := Lib.hid e1
  have E2 := Lib.hid e2
  have H1 := Lib.hid (show ∀ l, s1 = some l → l.length ≤ 1099511627776 by have q := short_rdN (m := Cd.full) H0.out; rw [e1] at q; exact q)
  have H2 := Lib.hid (show ∀ l, s2 = some l → l.length ≤ 1099511627776 by have q := short_rdN (m := 4) H1.out; rw [e2] at q; exact q)
  have k4 : k ≤ 4 := by have q := (Cd.rdN_lt 4 s1).2; rw [e2] at q; exact q
  have NE := Lib.hid (show Su.nums6 b = (g, (Su.rdL k s2).1) by
    unfold Su.nums6
    rw [← htr]
    unfold Su.tell
    simp only
    rw [e1]
    simp only
    rw [e2])
  have HTR := Lib.hid htr
  obtain ⟨ti, hi, iz0, iz1, iz2⟩ := info_parts Try.infoU64
  clear hL hn e1 e2 htr
  go_enter Try.func29, Try.ntmps29
  go_wp2_with fail
  refine (trimPrefix_c (l := b) (m := [70, 83]) (HL.out.alloc (Nat.le_refl _) _) (Lies.of_blk (B := 0) (heap_alloc_new w (.cells (bcells [70, 83]).toArray 5 (2, 3)))) HN.out rfl hc (by decide)).mono ?_
  rintro e w0 ⟨⟨A1, n1, c1, rfl, hn1, hc1, hl1⟩, rfl⟩
  rw [← HTR.out] at hn1 hl1
  have L1 := Lib.hid hl1
  have N1 := Lib.hid hn1
  clear hl1 hn1 kc
  go_wp2_with fail
  refine (read_c L1.out (by simp) N1.out (by have := TR.out; omega)).mono ?_
  rintro e w1 ⟨p, rfl, hr, hb⟩
  have z0 : (w.alloc (.cells (bcells [70, 83]).toArray 5 (2, 3))).heap.size = w.heap.size + 1 := by simp
  have R0 := Lib.hid hr
  have B0 := Lib.hid (((Below.refl w.heap.size w).alloc (Nat.le_refl _) (.cells (bcells [70, 83]).toArray 5 (2, 3))).trans (hb.mono (by simp)))
  obtain ⟨b1, hb1⟩ : ∃ b1, b1 = (w.alloc (.cells (bcells [70, 83]).toArray 5 (2, 3))).heap.size := ⟨_, rfl⟩
  have zb : b1 ≤ w1.heap.size := by rw [hb1]; exact hb.size
  have zw : w.heap.size ≤ b1 := by rw [hb1]; simp
  rw [← hb1] at R0
  clear hr hb z0 hb1
  go_wp2_with fail
  refine (rN_rd (mz := 18446744073709551615) R0.out (by decide) H0.out (by decide)).mono ?_
  rw [full_nat, E1.out]
  rintro e w2 ⟨rfl, hr1, ht1⟩
  have R1 := Lib.hid hr1
  have B1 := Lib.hid (B0.out.trans (ht1.below.mono zw))
  have z1 := Nat.le_trans zb ht1.size
  clear hr1 ht1
  go_wp2_with fail
  refine (rN_rd (mz := 4) R1.out (by decide) H1.out (by decide)).mono ?_
  rw [show (4 : Int).toNat = 4 from rfl, E2.out]
  rintro e w3 ⟨rfl, hr2, ht2⟩
  have R2 := Lib.hid hr2
  have B2 := Lib.hid (B1.out.trans (ht2.below.mono zw))
  have z2 := Nat.le_trans z1 ht2.size
  clear hr2 ht2
  go_wp2_with fail
  go_loopw [3, 14] (fun s i wr => ∃ (j : Nat) (A3 : Option Addr) (c3 : Nat), j ≤ k ∧ i = .int .u64 j ∧ s = .slice A3 j c3 ∧ wr.ownsRow b1 22 1 (.slice A3 j c3) j (ncells (Su.rdL j s2).1) ∧ RS 109 b1 5 wr p (Su.rdL j s2).2 ∧ Below w.heap.size w wr ∧ b1 ≤ wr.heap.size) (fun _ i _ => k - (intOf i).toNat)
  case atStart => exact ⟨0, none, 0, Nat.zero_le _, rfl, rfl, World.ownsRow_nil _ _ _ _, R2.out, B2.out, z2⟩
  case round =>
    obtain ⟨j, A3, c3, hj, rfl, rfl, ho, hr, hb, z3⟩ := hrel
    have O3 := Lib.hid ho
    have R3 := Lib.hid hr
    have B3 := Lib.hid hb
    clear ho hr hb
    by_cases hlt : j < k
    · obtain ⟨x, s4, e4⟩ : ∃ x s4, Cd.rdN Cd.full (Su.rdL j s2).2 = (x, s4) := ⟨_, _, rfl⟩
      have E4 := Lib.hid e4
      have NX : Hid (Su.rdL (j + 1) s2 = ((Su.rdL j s2).1 ++ [x], s4)) := Lib.hid (by rw [Su.rdL_snoc, e4])
      clear e4
      go_wp2_with fail
      refine (rN_rd (mz := 18446744073709551615) R3.out (by decide) (short_rdL H2.out j) (by decide)).mono ?_
      rw [full_nat, E4.out]
      rintro e w4 ⟨rfl, hr4, ht4⟩
      have R4 := Lib.hid hr4
      have B4 := Lib.hid (B3.out.trans (ht4.below.mono zw))
      have O4 := Lib.hid (own_tch O3.out ht4 (by decide))
      have z4 := Nat.le_trans z3 ht4.size
      clear hr4 ht4
      go_wp2_with (at_builtin; refine wpList_app _ rfl _ _ 23 rfl b1 22 ti (.int .u64 0) 1 8 Try.underlying23 hi iz0 iz1 iz2 rfl (by decide) _ j _ rfl (O4.out.alloc _) 0 _ 1 1 (ncells [x]) 22 rfl rfl (lies_num rfl) (ncells_one _) (by unfold maxLen; omega) (by omega) (by simp; omega) ?_)
      intro v' w5 hown hgrow _
      obtain ⟨A5, k5, rfl⟩ := own_slice hown
      have T5 := Lib.hid (napp_step (O4.out.alloc _) hgrow (by simp; omega))
      have O5 := Lib.hid hown
      have R5 := Lib.hid ((R4.out.alloc (.cells #[.int .u64 (x : Int)] 22)).tch T5.out (by decide) (by decide))
      have B5 := Lib.hid ((B4.out.alloc (by omega) _).trans (T5.out.below.mono zw))
      have z5 : b1 ≤ w5.heap.size := Nat.le_trans (by simp; omega) T5.out.size
      clear hown hgrow
      go_wp2
      go_roundw
      case rel => exact ⟨j + 1, A5, k5, by omega, by go_num, rfl, by rw [NX.out, ncells_app]; exact O5.out, by rw [NX.out]; exact R5.out, B5.out, z5⟩
      case measure => simp [intOf]; omega
    · obtain rfl : j = k := by omega
      have ll := Lib.hid (Su.rdL_len j s2)
      have rm := (own_room O3.out).2
      go_wp2
      go_ret2
      rw [NE.out]
      exact ⟨A3, j, c3, rfl, ll.out.symm, rm, own_less O3.out zw, B3.out⟩

set_option maxHeartbeats 1000000 in
theorem wBytes_c {B p : Nat} {l : List UInt8} {w : World} (h : WS B w p l) (hs : l.length ≤ 1099511627776) :
    Calls Try.prog 24 #[.pointer (some ⟨p, 0, none⟩)] w (CloneOk l w) := by
  obtain ⟨_, A, c, hp, ho⟩ := h
  have c0 : w.cell? ⟨p, 0, none⟩ = some (.slice A l.length c) := by simp [World.cell?, hp]
  have HO := Lib.hid ho
  clear hp ho
  go_enter Try.func24, Try.ntmps24
  go_wp2_with fail
  refine (clone_c (lies_own (B := 0) HO.out) (Nat.zero_le _) rfl hs).mono ?_
  rintro e w' ⟨A2, n2, c2, rfl, ho, hb⟩
  have HO2 := Lib.hid ho
  have HB := Lib.hid hb
  clear ho hb
  go_wp2
  go_ret
  exact ⟨A2, n2, c2, rfl, HO2.out, HB.out⟩
end Go.Proofs.Ythddpenpmjonkaa
