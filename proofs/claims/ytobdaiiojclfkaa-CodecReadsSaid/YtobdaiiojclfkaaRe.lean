/- Contracts of codec.Reader's other methods, of bytes.Clone and codec.Read. -/
import Derived.Test.YtobdaiiojclfkaaRd
import Derived.Test.YtobdaiiojclfkaaCw
namespace Go.Proofs.Ytobdaiiojclfkaa
open Go.RowKit

/-- It returned bytes of its own, and left all that was there alone. -/
def CloneOk (l : List UInt8) (w : World) (e : Ending) (w' : World) : Prop :=
  ∃ A n c, e = .returned (.slice A n c) ∧ w'.ownsRow w.heap.size 5 1 (.slice A n c) l.length (bcells l) ∧ Below w.heap.size w w'

set_option maxHeartbeats 1000000 in
theorem clone_c {A : Option Addr} {n c : Nat} {l : List UInt8} {w : World} {B : Nat} {tb : TypeId} (hL : Lies w B tb A (bcells l)) (hB : B ≤ w.heap.size) (hn : n = l.length) (hs : l.length ≤ 1099511627776) :
    Calls Try.prog 46 #[.slice A n c] w (CloneOk l w) := by
  subst hn
  have HL := Lib.hid hL
  clear hL
  obtain ⟨i0, hi, hz0, hz1, hz2⟩ := info_parts Try.infoU8
  have q := fun (w : World) a n c n' c' => Lib.run_eql_slice_nil (P := Try.prog) w 23 5 a n c n' c' Try.underlying23
  cases A with
  | none =>
    have e : l = [] := by
      rcases l with _ | ⟨x, l⟩
      · rfl
      · obtain ⟨ad, q, _⟩ := HL.out (by simp [bcells])
        cases q
    subst e
    go_enter Try.func46, Try.ntmps46
    go_wp2
    go_ret
    exact ⟨none, 0, 0, rfl, World.ownsRow_nil _ _ _ _, Below.refl _ _⟩
  | some ad =>
    have ho : (w.alloc (.cells #[] 5)).ownsRow w.heap.size 5 1 (.slice (some ⟨w.heap.size, 0, none⟩) 0 0) 0 [] := World.ownsRow_made w #[] 0 (Nat.le_refl _) (by unfold maxLen; omega) rfl
    have HO := Lib.hid ho
    clear ho
    go_enter Try.func46, Try.ntmps46
    go_wp2_with (at_builtin; refine wpList_app _ rfl _ _ 23 rfl w.heap.size 5 i0 (.int .u8 0) 1 1 Try.underlying23 hi hz0 hz1 hz2 rfl (by decide) _ 0 [] rfl HO.out B _ l.length c (bcells l) tb rfl (by rw [bcells_len]; omega) (HL.out.alloc hB _) (bcells_one _) (by unfold maxLen; omega) (by omega) (by simp) ?_)
    intro v' w1 hown' hgrow _
    obtain ⟨A2, k2, rfl⟩ := own_slice hown'
    have T1 := app_below HO.out hgrow
    have ho2 : w1.ownsRow w.heap.size 5 1 (.slice A2 l.length k2) l.length (bcells l) := by simpa using hown'
    have HO2 := Lib.hid ho2
    have HT := Lib.hid T1
    clear hown' ho2 T1 hgrow
    go_wp2
    go_ret
    exact ⟨A2, _, k2, rfl, HO2.out, HT.out⟩

/-- A new reader of bytes. -/
def ReadOk (l : List UInt8) (w : World) (e : Ending) (w' : World) : Prop :=
  ∃ p, e = .returned (.pointer (some ⟨p, 0, none⟩)) ∧ RS 74 w.heap.size 5 w' p (some l) ∧ Below w.heap.size w w'
set_option maxHeartbeats 1000000 in
theorem read_c {A : Option Addr} {n c : Nat} {l : List UInt8} {w : World} {B : Nat} {tb : TypeId} (hL : Lies w B tb A (bcells l)) (hB : B ≤ w.heap.size) (hn : n = l.length) (hs : l.length ≤ 1099511627776) :
    Calls Try.prog 17 #[.slice A n c] w (ReadOk l w) := by
  subst hn
  go_enter Try.func17, Try.ntmps17
  go_wp2_with fail
  refine (clone_c hL hB rfl hs).mono ?_
  rintro e w' ⟨A2, n2, c2, rfl, ho, hb⟩
  obtain ⟨rfl, hc⟩ := own_room ho
  have hz := hb.size
  have hr : RS 74 w.heap.size 5 (w'.alloc (.cells #[.slice A2 l.length c2, .bool false] 74)) w'.heap.size (some l) :=
    ⟨hz, A2, c2, hc, heap_alloc_new w' _, (Lies.of_own (ho.alloc _))⟩
  have HR := Lib.hid hr
  have HB := Lib.hid (hb.alloc hz (.cells #[.slice A2 l.length c2, .bool false] 74))
  clear hr hb ho
  go_wp2
  go_ret
  exact ⟨_, rfl, HR.out, HB.out⟩

theorem full_nat : (18446744073709551615 : Int).toNat = Cd.full := by unfold Cd.full; rfl
theorem zag_odd {x : Nat} (hx : x < 18446744073709551616) (h : x % 2 = 1) : wrap64 (wrap64 (-wrap64 (IntKind.u64.wrap ((x : Int) / 2))) - 1) = Cd.zag x := by
  unfold Cd.zag; rw [if_pos h]; simp only [Fl.wrap_u64, wrap64]; omega
theorem zag_even {x : Nat} (hx : x < 18446744073709551616) (h : ¬ x % 2 = 1) : wrap64 (IntKind.u64.wrap ((x : Int) / 2)) = Cd.zag x := by
  unfold Cd.zag; rw [if_neg h]; simp only [Fl.wrap_u64, wrap64]; omega

set_option maxHeartbeats 1000000 in
set_option maxRecDepth 100000 in
theorem rI_rd {B p : Nat} {tb : TypeId} {w : World} {s : Option (List UInt8)} (h : RS 74 B tb w p s) (ht : tb ≠ 74) (hl : ∀ l, s = some l → l.length ≤ 1099511627776) :
    Calls Try.prog 20 #[.pointer (some ⟨p, 0, none⟩)] w fun e w' => e = .returned (.int .i64 (Cd.rdI s).1) ∧ RS 74 B tb w' p (Cd.rdI s).2 ∧ Tch B [74] w w' := by
  obtain ⟨x, s2, hx⟩ : ∃ x s2, Cd.rdN Cd.full s = (x, s2) := ⟨_, _, rfl⟩
  have e1 : Cd.rdI s = (Cd.zag x, s2) := by unfold Cd.rdI; rw [hx]
  have xl : x < 18446744073709551616 := by have := (Cd.rdN_lt Cd.full s).1; rw [hx] at this; exact this
  rw [e1]
  have HX := Lib.hid hx
  have XL := Lib.hid xl
  have HS := Lib.hid h
  have HLn := Lib.hid hl
  clear h hl hx xl e1
  have C : ∀ w, RS 74 B tb w p s → Calls Try.prog 18 #[.pointer (some ⟨p, 0, none⟩), .int .u64 18446744073709551615] w fun e w' => e = .returned (.int .u64 (x : Int)) ∧ RS 74 B tb w' p s2 ∧ Tch B [74] w w' := by
    intro w h
    have q := rN_rd (mz := 18446744073709551615) h ht HLn.out (by omega)
    rw [full_nat, HX.out] at q
    exact q
  have C := Lib.hid C
  by_cases hod : x % 2 = 1
  · have n1 : (((x : Int) % 2) == 1) = true := by simp; omega
    have Z := Lib.hid (zag_odd XL.out hod)
    clear hod
    go_enter Try.func20, Try.ntmps20
    go_wp2_with fail
    refine (C.out _ HS.out).mono ?_
    rintro e w' ⟨rfl, hr, hT⟩
    have HR := Lib.hid hr
    have HT := Lib.hid hT
    clear hr hT
    go_wp2
    go_ret
    exact ⟨ret_i64 Z.out, HR.out, HT.out⟩
  · have n1 : (((x : Int) % 2) == 1) = false := by simp; omega
    have Z := Lib.hid (zag_even XL.out hod)
    clear hod
    go_enter Try.func20, Try.ntmps20
    go_wp2_with fail
    refine (C.out _ HS.out).mono ?_
    rintro e w' ⟨rfl, hr, hT⟩
    have HR := Lib.hid hr
    have HT := Lib.hid hT
    clear hr hT
    go_wp2
    go_ret
    exact ⟨ret_i64 Z.out, HR.out, HT.out⟩

set_option maxHeartbeats 1000000 in
set_option maxRecDepth 100000 in
theorem rF_rd {B p : Nat} {tb : TypeId} {w : World} {s : Option (List UInt8)} (h : RS 74 B tb w p s) (ht : tb ≠ 74) (hl : ∀ l, s = some l → l.length ≤ 1099511627776) :
    Calls Try.prog 23 #[.pointer (some ⟨p, 0, none⟩)] w fun e w' => e = .returned (.float .f64 (Cd.rdF s).1) ∧ RS 74 B tb w' p (Cd.rdF s).2 ∧ Tch B [74] w w' := by
  obtain ⟨x, s2, hx⟩ : ∃ x s2, Cd.rdW 8 s = (x, s2) := ⟨_, _, rfl⟩
  have xl : x < 18446744073709551616 := by have := Cd.rdW_lt 8 s; rw [hx] at this; exact this
  have HX := Lib.hid hx
  have XL := Lib.hid xl
  have HS := Lib.hid h
  have HLn := Lib.hid hl
  clear h hl xl
  cases s2 with
  | none =>
    have e1 : Cd.rdF s = (0, none) := by unfold Cd.rdF; simp only [hx]
    rw [e1]
    clear e1 hx
    go_enter Try.func23, Try.ntmps23
    go_wp2_with fail
    refine (rwhole_at HX.out rfl HS.out ht HLn.out).mono ?_
    rintro e w' ⟨rfl, hr, hT⟩
    have HR := Lib.hid hr
    have HT := Lib.hid hT
    clear hr hT
    go_wp2_with fail
    refine (of_c _ _ (by omega) (by have := XL.out; omega)).mono ?_
    rintro e w' ⟨rfl, rfl⟩
    cases hf : Fl.fit (x : Int)
    all_goals
      go_wp2_with (first
        | (go_at_call 33; refine (failed_yes HR.out).mono ?_; rintro e w' ⟨rfl, rfl⟩)
        | (go_at_call 49; refine (fail_c HR.out).mono ?_; rintro e w' ⟨rfl, hr3, ht3⟩; have HR3 := Lib.hid hr3; have HT3 := Lib.hid ht3; clear hr3 ht3))
      go_ret
      exact ⟨rfl, HR3.out, HT.out.trans HT3.out⟩
  | some t =>
    cases hf : Fl.fit (x : Int)
    · have e1 : Cd.rdF s = (0, none) := by unfold Cd.rdF; simp [hx, hf]
      rw [e1]
      clear e1 hx
      go_enter Try.func23, Try.ntmps23
      go_wp2_with fail
      refine (rwhole_at HX.out rfl HS.out ht HLn.out).mono ?_
      rintro e w' ⟨rfl, hr, hT⟩
      have HR := Lib.hid hr
      have HT := Lib.hid hT
      clear hr hT
      go_wp2_with fail
      refine (of_c _ _ (by omega) (by have := XL.out; omega)).mono ?_
      rintro e w' ⟨rfl, rfl⟩
      go_wp2_with (first
        | (go_at_call 33; refine (failed_no HR.out).mono ?_; rintro e w' ⟨rfl, rfl⟩)
        | (go_at_call 49; refine (fail_c HR.out).mono ?_; rintro e w' ⟨rfl, hr3, ht3⟩; have HR3 := Lib.hid hr3; have HT3 := Lib.hid ht3; clear hr3 ht3))
      go_ret
      exact ⟨rfl, HR3.out, HT.out.trans HT3.out⟩
    · have e1 : Cd.rdF s = (Fl.wd (x : Int), some t) := by unfold Cd.rdF; simp [hx, hf]
      rw [e1]
      clear e1 hx
      go_enter Try.func23, Try.ntmps23
      go_wp2_with fail
      refine (rwhole_at HX.out rfl HS.out ht HLn.out).mono ?_
      rintro e w' ⟨rfl, hr, hT⟩
      have HR := Lib.hid hr
      have HT := Lib.hid hT
      clear hr hT
      go_wp2_with fail
      refine (of_c _ _ (by omega) (by have := XL.out; omega)).mono ?_
      rintro e w' ⟨rfl, rfl⟩
      go_wp2_with (go_at_call 33; refine (failed_no HR.out).mono ?_; rintro e w' ⟨rfl, rfl⟩)
      go_ret
      exact ⟨rfl, HR.out, HT.out⟩

theorem rdB_eq (most : Nat) (s : Option (List UInt8)) : Cd.rdB most s = (tk (Cd.rdN most s).1 (Cd.rdN most s).2, (Cd.rdW (Cd.rdN most s).1 (Cd.rdN most s).2).2) := by
  unfold Cd.rdB
  cases h : (Cd.rdN most s).2 with
  | none => rfl
  | some t =>
    simp only [tk, Cd.rdW]
    split <;> rfl

/-- It returned bytes, its own, and turned nothing but a reader. -/
def RBOk (t : TypeId) (B : Nat) (tb : TypeId) (p : Nat) (b : List UInt8) (s : Option (List UInt8)) (w : World) (e : Ending) (w' : World) : Prop :=
  ∃ A n c, e = .returned (.slice A n c) ∧ w'.ownsRow w.heap.size 5 1 (.slice A n c) b.length (bcells b) ∧ RS t B tb w' p s ∧ Tch B [t] w w'

set_option maxHeartbeats 1000000 in
set_option maxRecDepth 100000 in
theorem rB_rd {B p : Nat} {tb : TypeId} {w : World} {s : Option (List UInt8)} {mz : Int} (h : RS 74 B tb w p s) (ht : tb ≠ 74) (hl : ∀ l, s = some l → l.length ≤ 1099511627776) (m0 : 0 ≤ mz) (m1 : mz ≤ 1099511627776) :
    Calls Try.prog 25 #[.pointer (some ⟨p, 0, none⟩), .int .i64 mz] w (RBOk 74 B tb p (Cd.rdB mz.toNat s).1 (Cd.rdB mz.toNat s).2 w) := by
  obtain ⟨x, s2, hx⟩ : ∃ x s2, Cd.rdN mz.toNat s = (x, s2) := ⟨_, _, rfl⟩
  have xl : x ≤ 1099511627776 := by have := (Cd.rdN_lt mz.toNat s).2; rw [hx] at this; simp only [] at this; omega
  have l2 : ∀ l, s2 = some l → l.length ≤ 1099511627776 := by
    intro l e
    subst e
    cases s with
    | none => simp [Cd.rdN] at hx
    | some l0 =>
      have q := (Cd.read_num hx).1
      have := hl l0 rfl
      rw [q, List.length_append] at this
      omega
  have tl : (tk x s2).length ≤ 1099511627776 := by
    cases s2 with
    | none => simp [tk]
    | some l => have := l2 l rfl; unfold tk; simp only []; split <;> simp; omega
  have e1 := rdB_eq mz.toNat s
  rw [hx] at e1
  rw [e1]
  have HX := Lib.hid hx
  have HS := Lib.hid h
  have HLn := Lib.hid hl
  have HL2 := Lib.hid l2
  have hB := h.size
  clear h hl hx e1 l2
  go_enter Try.func25, Try.ntmps25
  go_wp2_with fail
  have q := rN_rd (mz := mz) HS.out ht HLn.out m0
  rw [HX.out] at q
  refine q.mono ?_
  clear q
  rintro e w' ⟨rfl, hr, hT⟩
  have HR := Lib.hid hr
  have HT := Lib.hid hT
  clear hr hT
  go_wp2_with fail
  refine (take_c rfl HR.out ht HL2.out).mono ?_
  rintro e w1 ⟨A, c, rfl, hc, hL, hR, hT⟩
  have HL := Lib.hid hL
  have HR2 := Lib.hid hR
  have HT2 := Lib.hid (HT.out.trans hT)
  have hz2 := HT2.out.size
  clear hL hR hT
  go_wp2_with fail
  refine (clone_c HL.out (by omega) rfl tl).mono ?_
  rintro e w2 ⟨A2, n2, c2, rfl, ho, hb⟩
  have HO := Lib.hid (own_less ho hz2)
  have HR3 := Lib.hid (HR2.out.below hb)
  have HT3 := Lib.hid (HT2.out.trans (Tch.of_below hb (by omega) [74]))
  clear ho hb
  go_wp2
  go_ret
  exact ⟨A2, n2, c2, rfl, HO.out, HR3.out, HT3.out⟩

theorem rdW_one (s : Option (List UInt8)) (h : s = none ∨ s = some []) : Cd.rdW 1 s = (0, none) := by
  rcases h with rfl | rfl
  · rfl
  · simp [Cd.rdW]

set_option maxHeartbeats 1000000 in
theorem rG_rd {B p : Nat} {tb : TypeId} {w : World} {s : Option (List UInt8)} (h : RS 74 B tb w p s) (ht : tb ≠ 74) (hl : ∀ l, s = some l → l.length ≤ 1099511627776) :
    Calls Try.prog 27 #[.pointer (some ⟨p, 0, none⟩)] w fun e w' => e = .returned (.bool (Cd.rdG s).1) ∧ RS 74 B tb w' p (Cd.rdG s).2 ∧ Tch B [74] w w' := by
  have HS := Lib.hid h
  have HLn := Lib.hid hl
  clear h hl
  have none_ : ∀ (e0 : Cd.rdW 1 s = (0, none)) (e1 : Cd.rdG s = (false, none)),
      Calls Try.prog 27 #[.pointer (some ⟨p, 0, none⟩)] w fun e w' => e = .returned (.bool (Cd.rdG s).1) ∧ RS 74 B tb w' p (Cd.rdG s).2 ∧ Tch B [74] w w' := by
    intro e0 e1
    rw [e1]
    have E0 := Lib.hid e0
    clear e0 e1
    go_enter Try.func27, Try.ntmps27
    go_wp2_with fail
    refine (rwhole_at E0.out rfl HS.out ht HLn.out).mono ?_
    rintro e w' ⟨rfl, hr, hT⟩
    have HR := Lib.hid hr
    have HT := Lib.hid hT
    clear hr hT
    go_wp2
    go_ret
    exact ⟨rfl, HR.out, HT.out⟩
  match s, HS, HLn, none_ with
  | none, HS, HLn, none_ => exact none_ rfl rfl
  | some [], HS, HLn, none_ => exact none_ (rdW_one _ (.inr rfl)) rfl
  | some (b :: t), HS, HLn, none_ =>
    clear none_
    have E0 := Lib.hid (rdW_head b t)
    by_cases h1 : b.toNat ≤ 1
    · have e1 : Cd.rdG (some (b :: t)) = (b.toNat == 1, some t) := by simp [Cd.rdG, h1]
      rw [e1]
      clear e1
      have n1 : ((b.toNat : Int) == 1) = (b.toNat == 1) := by rw [Bool.eq_iff_iff]; simp; omega
      go_enter Try.func27, Try.ntmps27
      go_wp2_with fail
      refine (rwhole_at E0.out rfl HS.out ht HLn.out).mono ?_
      rintro e w' ⟨rfl, hr, hT⟩
      have HR := Lib.hid hr
      have HT := Lib.hid hT
      clear hr hT
      go_wp2
      go_ret
      exact ⟨rfl, HR.out, HT.out⟩
    · have e1 : Cd.rdG (some (b :: t)) = (false, none) := by simp [Cd.rdG, h1]
      rw [e1]
      clear e1
      have n1 : ((b.toNat : Int) == 1) = false := by simp; omega
      go_enter Try.func27, Try.ntmps27
      go_wp2_with fail
      refine (rwhole_at E0.out rfl HS.out ht HLn.out).mono ?_
      rintro e w' ⟨rfl, hr, hT⟩
      have HR := Lib.hid hr
      have HT := Lib.hid hT
      clear hr hT
      go_wp2_with (go_at_call 49; refine (fail_c HR.out).mono ?_; rintro e w' ⟨rfl, hr3, ht3⟩; have HR3 := Lib.hid hr3; have HT3 := Lib.hid ht3; clear hr3 ht3)
      go_ret
      exact ⟨rfl, HR3.out, HT.out.trans HT3.out⟩

def leftOf : Option (List UInt8) → Nat
  | none => 0
  | some l => l.length
theorem left_rd {B p : Nat} {tb : TypeId} {w : World} {s : Option (List UInt8)} (h : RS 74 B tb w p s) :
    Calls Try.prog 29 #[.pointer (some ⟨p, 0, none⟩)] w fun e w' => e = .returned (.int .i64 (leftOf s : Int)) ∧ w = w' := by
  cases s with
  | none =>
    have c1 := cell_fst h.2
    clear h
    go_enter Try.func29, Try.ntmps29
    go_wp2
    go_ret
    exact ⟨rfl, rfl⟩
  | some l =>
    obtain ⟨_, A, c, _, hp, _⟩ := h
    have c1 := cell_fst hp
    clear hp
    go_enter Try.func29, Try.ntmps29
    go_wp2
    go_ret
    exact ⟨rfl, rfl⟩

def endOf : Option (List UInt8) → Int
  | some [] => 0
  | _ => 20
theorem end_rd {B p : Nat} {tb : TypeId} {w : World} {s : Option (List UInt8)} (h : RS 74 B tb w p s) :
    Calls Try.prog 30 #[.pointer (some ⟨p, 0, none⟩)] w fun e w' => e = .returned (.int .i64 (endOf s)) ∧ w = w' := by
  have HS := Lib.hid h
  clear h
  match s, HS with
  | none, HS =>
    go_enter Try.func30, Try.ntmps30
    go_wp2_with (go_at_call 33; refine (failed_yes HS.out).mono ?_; rintro e w' ⟨rfl, rfl⟩)
    go_ret
    exact ⟨rfl, rfl⟩
  | some [], HS =>
    go_enter Try.func30, Try.ntmps30
    go_wp2_with (first
      | (go_at_call 33; refine (failed_no HS.out).mono ?_; rintro e w' ⟨rfl, rfl⟩)
      | (go_at_call 29; refine (left_rd HS.out).mono ?_; rintro e w' ⟨rfl, rfl⟩))
    go_ret
    exact ⟨rfl, rfl⟩
  | some (b :: t), HS =>
    have lf : 0 < leftOf (some (b :: t)) := by simp [leftOf]
    go_enter Try.func30, Try.ntmps30
    go_wp2_with (first
      | (go_at_call 33; refine (failed_no HS.out).mono ?_; rintro e w' ⟨rfl, rfl⟩)
      | (go_at_call 29; refine (left_rd HS.out).mono ?_; rintro e w' ⟨rfl, rfl⟩))
    go_ret
    exact ⟨rfl, rfl⟩
end Go.Proofs.Ytobdaiiojclfkaa
