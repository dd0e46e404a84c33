/- Contracts of the document's own writers (factotumref01: Fixed, N, I, F, B, Flag). -/
import Derived.Test.YtobdaiiojclfkaaCw
namespace Go.Proofs.Ytobdaiiojclfkaa
open Go.RowKit

/-- It returned bytes of its own (from block B on), and touched no blocks but bytes from B on. -/
def AppOk (B : Nat) (l : List UInt8) (w : World) (e : Ending) (w' : World) : Prop :=
  ∃ A n c, e = .returned (.slice A n c) ∧ w'.ownsRow B 5 1 (.slice A n c) l.length (bcells l) ∧ Tch B [5] w w'
theorem AppOk.then {B : Nat} {l : List UInt8} {w w1 w' : World} {e : Ending} (h : AppOk B l w1 e w') (t : Tch B [5] w w1) : AppOk B l w e w' := by
  obtain ⟨A, n, c, h1, h2, h3⟩ := h
  exact ⟨A, n, c, h1, h2, t.trans h3⟩
theorem lies1 {w : World} {b : UInt8} {x : Int} (hx : x = (b.toNat : Int)) {g : Nat} (hg : g = w.heap.size) : Lies (w.alloc (.cells #[.int .u8 x] 5)) 0 5 (some ⟨g, 0, none⟩) (bcells [b]) := by
  subst hx; subst hg
  exact Lies.of_blk (heap_alloc_new w _)
/-- Behind an append of bytes. -/
theorem app_step {B : Nat} {w w1 : World} {v : Value} {n : Nat} {xs : List Value} (h : w.ownsRow B 5 1 v n xs) (hg : w.grownBy w1 v.ownBlock) (hB : B ≤ w.heap.size) : Tch B [5] w w1 :=
  grown_tch h hg (Nat.le_refl _) hB (by decide)

set_option maxHeartbeats 1000000 in
theorem fixed_c {B : Nat} {l : List UInt8} {A : Option Addr} {c m : Nat} {n z : Int} {k : Nat} {w : World} (hz : z = (k : Int)) (h : w.ownsRow B 5 1 (.slice A m c) l.length (bcells l)) (hB : B ≤ w.heap.size)
    (h0 : 0 ≤ n) (h1 : n < 18446744073709551616) (hk : k ≤ 8) (hs : l.length + 8 ≤ 1099511627776) :
    Calls Try.prog 60 #[.slice A m c, .int .u64 n, .int .i64 z] w (AppOk B (l ++ Cd.fix n.toNat k) w) := by
  have H1 := Lib.hid h1
  have HW := Lib.hid h
  obtain ⟨rfl, _⟩ := own_room h
  clear h1 h
  subst hz
  obtain ⟨i0, hi, hz0, hz1, hz2⟩ := info_parts Try.infoU8
  go_enter Try.func60, Try.ntmps60
  go_wp2_with fail
  go_loopw [0, 7] (fun b i wr => ∃ (j : Nat) (d : List UInt8) (A1 : Option Addr) (c1 : Nat), j ≤ k ∧ i = .int .i64 ((j : Int) - 1) ∧ b = .slice A1 (l.length + d.length) c1 ∧ d ++ Cd.fix n.toNat j = Cd.fix n.toNat k ∧ wr.ownsRow B 5 1 (.slice A1 (l.length + d.length) c1) (l.length + d.length) (bcells (l ++ d)) ∧ Tch B [5] w wr) (fun _ i _ => (intOf i + 1).toNat)
  case atStart => exact ⟨k, [], A, c, Nat.le_refl _, rfl, by simp, rfl, by simpa using HW.out, Tch.refl _ _ _⟩
  case round =>
    obtain ⟨j, d, A1, c1, hj, rfl, rfl, hd, ho, ht⟩ := hrel
    have HD := Lib.hid hd
    have dl : d.length + j = k := by have := congrArg List.length hd; simpa [Cd.fix_len] using this
    have dk : d.length ≤ 8 := by omega
    have DL := Lib.hid dl
    have HO := Lib.hid ho
    have hB2 := ht.size
    have HT := Lib.hid ht
    clear hd dl ho ht
    by_cases hz : 0 < j
    · obtain ⟨j, rfl⟩ : ∃ i, j = i + 1 := ⟨j - 1, by omega⟩
      go_wp2_with (at_builtin; refine wpList_app _ rfl _ _ 23 rfl B 5 i0 (.int .u8 0) 1 1 Try.underlying23 hi hz0 hz1 hz2 rfl (by decide) _ (l.length + d.length) (bcells (l ++ d)) rfl (HO.out.alloc _) 0 _ 1 1 (bcells [Cd.byt n.toNat j]) 5 rfl rfl (lies1 (byt_int h0 j) rfl) (bcells_one _) (by unfold maxLen; omega) (by omega) (by simp; omega) ?_)
      intro v' w1 hown' hgrow _
      obtain ⟨A2, k2, rfl⟩ := own_slice hown'
      have T1 := app_step (HO.out.alloc _) hgrow (by simp; omega)
      have HT1 := Lib.hid (HT.out.trans (((Tch.refl B _ wr).alloc (by omega) _).trans T1))
      have HO2 := Lib.hid hown'
      clear hown' hgrow T1
      go_wp2
      go_roundw
      case rel => exact ⟨j, d ++ [Cd.byt n.toNat j], A2, k2, by omega, by go_num, by simp [Nat.add_assoc], by rw [← HD.out, Cd.fix]; simp, by rw [← List.append_assoc, bcells_app (l ++ d)]; simpa [Nat.add_assoc] using HO2.out, HT1.out⟩
      case measure => simp [intOf] <;> omega
    · obtain rfl : j = 0 := by omega
      go_wp2
      go_ret
      have e : d = Cd.fix n.toNat k := by simpa [Cd.fix] using HD.out
      subst e
      exact ⟨A1, _, c1, rfl, by rw [List.length_append]; exact HO.out, HT.out⟩

set_option maxHeartbeats 1000000 in
set_option maxRecDepth 100000 in
theorem rN_c {B : Nat} {l : List UInt8} {A : Option Addr} {c m : Nat} {n : Int} {w : World} (h : w.ownsRow B 5 1 (.slice A m c) l.length (bcells l)) (hB : B ≤ w.heap.size)
    (h0 : 0 ≤ n) (h1 : n < 18446744073709551616) (hs : l.length + 9 ≤ 1000000000000) :
    Calls Try.prog 39 #[.slice A m c, .int .u64 n] w (AppOk B (l ++ Cd.num n.toNat) w) := by
  have H1 := Lib.hid h1
  have HO := Lib.hid h
  obtain ⟨rfl, _⟩ := own_room h
  clear h1 h
  obtain ⟨i0, hi, hz0, hz1, hz2⟩ := info_parts Try.infoU8
  by_cases hlo : n < 128
  · have E := Lib.hid (num_lo h0 hlo)
    go_enter Try.func39, Try.ntmps39
    go_wp2_with (at_builtin; refine wpList_app _ rfl _ _ 23 rfl B 5 i0 (.int .u8 0) 1 1 Try.underlying23 hi hz0 hz1 hz2 rfl (by decide) _ l.length (bcells l) rfl (HO.out.alloc _) 0 _ 1 1 (bcells [Cd.byt n.toNat 0]) 5 rfl rfl (lies1 E.out.1 rfl) (bcells_one _) (by unfold maxLen; omega) (by omega) (by simp; omega) ?_)
    intro v' w1 hown' hgrow _
    obtain ⟨A2, k2, rfl⟩ := own_slice hown'
    have T1 := app_step (HO.out.alloc _) hgrow (by simp; omega)
    have HT1 := Lib.hid (((Tch.refl B _ w).alloc (by omega) _).trans T1)
    have HO2 := Lib.hid hown'
    clear hown' hgrow T1
    go_wp2
    go_ret
    exact ⟨A2, _, k2, rfl, by rw [E.out.2, bcells_app, List.length_append]; exact HO2.out, HT1.out⟩
  · obtain ⟨b, E⟩ : ∃ b : UInt8, Hid (128 + (Cd.wid n.toNat : Int) = (b.toNat : Int) ∧ Cd.num n.toNat = [b] ++ Cd.fix n.toNat (Cd.wid n.toNat)) := ⟨_, num_hi (by omega)⟩
    have wp := Cd.wid_pos n.toNat
    go_enter Try.func39, Try.ntmps39
    go_wp2_with (first
      | (go_at_call 52; refine (wide_c _ _ h0).mono ?_; rintro e w' ⟨rfl, rfl⟩)
      | (at_builtin; refine wpList_app _ rfl _ _ 23 rfl B 5 i0 (.int .u8 0) 1 1 Try.underlying23 hi hz0 hz1 hz2 rfl (by decide) _ l.length (bcells l) rfl (HO.out.alloc _) 0 _ 1 1 (bcells [b]) 5 rfl rfl (lies1 E.out.1 rfl) (bcells_one _) (by unfold maxLen; omega) (by omega) (by simp; omega) ?_))
    intro v' w1 hown' hgrow _
    obtain ⟨A2, k2, rfl⟩ := own_slice hown'
    have T1 := app_step (HO.out.alloc _) hgrow (by simp; omega)
    have hz1 := T1.size
    have HT1 := Lib.hid (((Tch.refl B _ w).alloc (by omega) _).trans T1)
    have ho2 : w1.ownsRow B 5 1 (.slice A2 (l.length + 1) k2) (l ++ [b]).length (bcells (l ++ [b])) := by
      rw [bcells_app, List.length_append]; exact hown'
    have HO2 := Lib.hid ho2
    clear hown' hgrow T1 ho2
    go_wp2_with fail
    refine (fixed_c (l := l ++ [b]) (k := Cd.wid n.toNat) rfl HO2.out (by simp at hz1; omega) h0 H1.out wp.2 (by simp; omega)).mono ?_
    rintro e w' ⟨A3, m3, k3, rfl, ho3, t3⟩
    have HO3 := Lib.hid ho3
    have HT3 := Lib.hid t3
    clear ho3 t3
    go_wp2
    go_ret
    exact ⟨A3, m3, k3, rfl, by rw [E.out.2, ← List.append_assoc]; exact HO3.out, HT1.out.trans HT3.out⟩

theorem zig_minus2 {n : Int} (h0 : -9223372036854775808 ≤ n) (h1 : n < 0) : IntKind.u64.wrap (IntKind.u64.wrap (IntKind.u64.wrap (wrap64 (-wrap64 (n + 1))) * 2) + 1) = (Cd.zig n : Int) := by
  rw [← zig_minus h0 h1, Int.mul_comm 2]
theorem zig_plus2 {n : Int} (h1 : n < 9223372036854775808) (h0 : 0 ≤ n) : IntKind.u64.wrap (IntKind.u64.wrap n * 2) = (Cd.zig n : Int) := by
  rw [← zig_plus h1 h0, Int.mul_comm 2]

set_option maxHeartbeats 1000000 in
set_option maxRecDepth 100000 in
theorem rI_c {B : Nat} {l : List UInt8} {A : Option Addr} {c m : Nat} {n : Int} {w : World} (h : w.ownsRow B 5 1 (.slice A m c) l.length (bcells l)) (hB : B ≤ w.heap.size)
    (h0 : -9223372036854775808 ≤ n) (h1 : n < 9223372036854775808) (hs : l.length + 9 ≤ 1000000000000) :
    Calls Try.prog 40 #[.slice A m c, .int .i64 n] w (AppOk B (l ++ Cd.num (Cd.zig n)) w) := by
  have H0 := Lib.hid h0
  have H1 := Lib.hid h1
  have HZ := Lib.hid (Cd.zig_lt h0 h1)
  clear h0 h1
  have HO := Lib.hid h
  clear h
  by_cases hz : n < 0
  · go_enter Try.func40, Try.ntmps40
    go_wp2_with fail
    refine (rN_c HO.out hB (by rw [zig_minus2 H0.out hz]; omega) (by rw [zig_minus2 H0.out hz]; have := HZ.out; omega) hs).mono ?_
    rintro e w' ⟨A3, m3, k3, rfl, ho3, t3⟩
    have HO3 := Lib.hid ho3
    have HT3 := Lib.hid t3
    clear ho3 t3
    go_wp2
    go_ret
    exact ⟨A3, m3, k3, rfl, by have := HO3.out; rw [zig_minus2 H0.out hz, Int.toNat_natCast] at this; exact this, HT3.out⟩
  · go_enter Try.func40, Try.ntmps40
    go_wp2_with fail
    refine (rN_c HO.out hB (by rw [zig_plus2 H1.out (by omega)]; omega) (by rw [zig_plus2 H1.out (by omega)]; have := HZ.out; omega) hs).mono ?_
    rintro e w' ⟨A3, m3, k3, rfl, ho3, t3⟩
    have HO3 := Lib.hid ho3
    have HT3 := Lib.hid t3
    clear ho3 t3
    go_wp2
    go_ret
    exact ⟨A3, m3, k3, rfl, by have := HO3.out; rw [zig_plus2 H1.out (by omega), Int.toNat_natCast] at this; exact this, HT3.out⟩

set_option maxHeartbeats 1000000 in
theorem rF_c {B : Nat} {l : List UInt8} {A : Option Addr} {c m : Nat} {f : Nat} {w : World} (h : w.ownsRow B 5 1 (.slice A m c) l.length (bcells l)) (hB : B ≤ w.heap.size)
    (h1 : f < 18446744073709551616) (hs : l.length + 9 ≤ 1000000000000) :
    Calls Try.prog 41 #[.slice A m c, .float .f64 f] w (AppOk B (l ++ Cd.fix (Fl.key f).toNat 8) w) := by
  have kb := Lib.hid (Fl.key_bound f)
  have H1 := Lib.hid h1
  have HO := Lib.hid h
  clear h1 h
  go_enter Try.func41, Try.ntmps41
  go_wp2_with (go_at_call 61; refine (refKey_c _ _ H1.out).mono ?_; rintro e w' ⟨rfl, rfl⟩)
  refine (fixed_c (k := 8) rfl HO.out hB kb.out.1 kb.out.2 (by omega) (by omega)).mono ?_
  rintro e w' ⟨A3, m3, k3, rfl, ho3, t3⟩
  have HO3 := Lib.hid ho3
  have HT3 := Lib.hid t3
  clear ho3 t3
  go_wp2
  go_ret
  exact ⟨A3, m3, k3, rfl, HO3.out, HT3.out⟩

set_option maxHeartbeats 1000000 in
theorem rB_c {B : Nat} {l b : List UInt8} {A Ab : Option Addr} {c m n cb : Nat} {tb : TypeId} {w : World} (h : w.ownsRow B 5 1 (.slice A m c) l.length (bcells l)) (hB : B ≤ w.heap.size)
    (hL : Lies w B tb Ab (bcells b)) (ht : tb ≠ 5) (hn : n = b.length) (hs : l.length + b.length + 9 ≤ 1000000000000) :
    Calls Try.prog 42 #[.slice A m c, .slice Ab n cb] w (AppOk B (l ++ (Cd.num b.length ++ b)) w) := by
  have HO := Lib.hid h
  have HL := Lib.hid hL
  clear h hL
  subst hn
  have nl := num_len b.length
  obtain ⟨i0, hi, hz0, hz1, hz2⟩ := info_parts Try.infoU8
  go_enter Try.func42, Try.ntmps42
  go_wp2_with fail
  refine (rN_c HO.out hB (by omega) (by omega) (by omega)).mono ?_
  rintro e w' ⟨A3, m3, k3, rfl, ho3, t3⟩
  have hz3 := t3.size
  have HO3 := Lib.hid ho3
  have HT3 := Lib.hid t3
  clear ho3 t3
  go_wp2_with (at_builtin; refine wpList_app _ rfl _ _ 23 rfl B 5 i0 (.int .u8 0) 1 1 Try.underlying23 hi hz0 hz1 hz2 rfl (by decide) _ (l ++ Cd.num b.length).length (bcells (l ++ Cd.num b.length)) rfl HO3.out B _ b.length _ (bcells b) tb rfl (by rw [bcells_len]; omega) (HL.out.tch HT3.out (by simpa using ht)) (bcells_one _) (by rw [List.length_append]; unfold maxLen; omega) (by rw [List.length_append]; omega) (by omega) ?_)
  intro v' w1 hown' hgrow _
  obtain ⟨A2, k2, rfl⟩ := own_slice hown'
  have T1 := app_step HO3.out hgrow (by omega)
  have HT1 := Lib.hid (HT3.out.trans T1)
  have ho2 : w1.ownsRow B 5 1 (.slice A2 (l.length + (Cd.num b.length).length + b.length) k2) (l ++ (Cd.num b.length ++ b)).length (bcells (l ++ (Cd.num b.length ++ b))) := by
    rw [← List.append_assoc, bcells_app (l ++ Cd.num b.length) b]; simp only [List.length_append]; simpa using hown'
  have HO2 := Lib.hid ho2
  clear hown' hgrow T1 ho2
  go_wp2
  go_ret
  exact ⟨A2, _, k2, rfl, HO2.out, HT1.out⟩

set_option maxHeartbeats 1000000 in
theorem rG_c {B : Nat} {l : List UInt8} {A : Option Addr} {c m : Nat} {g : Bool} {w : World} (h : w.ownsRow B 5 1 (.slice A m c) l.length (bcells l)) (hB : B ≤ w.heap.size) (hs : l.length + 9 ≤ 1000000000000) :
    Calls Try.prog 43 #[.slice A m c, .bool g] w (AppOk B (l ++ [if g = true then 1 else 0]) w) := by
  have HO := Lib.hid h
  obtain ⟨rfl, _⟩ := own_room h
  clear h
  obtain ⟨i0, hi, hz0, hz1, hz2⟩ := info_parts Try.infoU8
  cases g
  · go_enter Try.func43, Try.ntmps43
    go_wp2_with (at_builtin; refine wpList_app _ rfl _ _ 23 rfl B 5 i0 (.int .u8 0) 1 1 Try.underlying23 hi hz0 hz1 hz2 rfl (by decide) _ l.length (bcells l) rfl (HO.out.alloc _) 0 _ 1 1 (bcells [0]) 5 rfl rfl (lies1 rfl rfl) (bcells_one _) (by unfold maxLen; omega) (by omega) (by simp; omega) ?_)
    intro v' w1 hown' hgrow _
    obtain ⟨A2, k2, rfl⟩ := own_slice hown'
    have T1 := app_step (HO.out.alloc _) hgrow (by simp; omega)
    have HT1 := Lib.hid (((Tch.refl B _ w).alloc (by omega) _).trans T1)
    have HO2 := Lib.hid hown'
    clear hown' hgrow T1
    go_wp2
    go_ret
    exact ⟨A2, _, k2, rfl, by rw [bcells_app, List.length_append]; exact HO2.out, HT1.out⟩
  · go_enter Try.func43, Try.ntmps43
    go_wp2_with (at_builtin; refine wpList_app _ rfl _ _ 23 rfl B 5 i0 (.int .u8 0) 1 1 Try.underlying23 hi hz0 hz1 hz2 rfl (by decide) _ l.length (bcells l) rfl (HO.out.alloc _) 0 _ 1 1 (bcells [1]) 5 rfl rfl (lies1 rfl rfl) (bcells_one _) (by unfold maxLen; omega) (by omega) (by simp; omega) ?_)
    intro v' w1 hown' hgrow _
    obtain ⟨A2, k2, rfl⟩ := own_slice hown'
    have T1 := app_step (HO.out.alloc _) hgrow (by simp; omega)
    have HT1 := Lib.hid (((Tch.refl B _ w).alloc (by omega) _).trans T1)
    have HO2 := Lib.hid hown'
    clear hown' hgrow T1
    go_wp2
    go_ret
    exact ⟨A2, _, k2, rfl, by rw [bcells_app, List.length_append]; exact HO2.out, HT1.out⟩
end Go.Proofs.Ytobdaiiojclfkaa
