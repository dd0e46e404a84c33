/- Contracts of the document's own Reader's other methods. -/
import Derived.Test.YtobdaiiojclfkaaRr
namespace Go.Proofs.Ytobdaiiojclfkaa
open Go.RowKit

theorem zag_odd2 {x : Nat} (hx : x < 18446744073709551616) (h : ¬ x % 2 = 0) : wrap64 (wrap64 (-wrap64 (IntKind.u64.wrap ((x : Int) / 2))) - 1) = Cd.zag x := zag_odd hx (by omega)
theorem zag_even2 {x : Nat} (hx : x < 18446744073709551616) (h : x % 2 = 0) : wrap64 (IntKind.u64.wrap ((x : Int) / 2)) = Cd.zag x := zag_even hx (by omega)

set_option maxHeartbeats 1000000 in
set_option maxRecDepth 100000 in
theorem rI_rr {B p : Nat} {tb : TypeId} {w : World} {s : Option (List UInt8)} (h : RS 47 B tb w p s) (ht : tb ≠ 47) (hl : ∀ l, s = some l → l.length ≤ 1099511627776) :
    Calls Try.prog 21 #[.pointer (some ⟨p, 0, none⟩)] w fun e w' => e = .returned (.int .i64 (Cd.rdI s).1) ∧ RS 47 B tb w' p (Cd.rdI s).2 ∧ Tch B [47] w w' := by
  obtain ⟨x, s2, hx⟩ : ∃ x s2, Cd.rdN Cd.full s = (x, s2) := ⟨_, _, rfl⟩
  have e1 : Cd.rdI s = (Cd.zag x, s2) := by unfold Cd.rdI; rw [hx]
  have xl : x < 18446744073709551616 := by have := (Cd.rdN_lt Cd.full s).1; rw [hx] at this; exact this
  rw [e1]
  have HX := Lib.hid hx
  have XL := Lib.hid xl
  have HS := Lib.hid h
  have HLn := Lib.hid hl
  clear h hl hx xl e1
  have C : ∀ w, RS 47 B tb w p s → Calls Try.prog 19 #[.pointer (some ⟨p, 0, none⟩), .int .u64 18446744073709551615] w fun e w' => e = .returned (.int .u64 (x : Int)) ∧ RS 47 B tb w' p s2 ∧ Tch B [47] w w' := by
    intro w h
    have q := rN_rr (mz := 18446744073709551615) h ht HLn.out (by omega)
    rw [full_nat, HX.out] at q
    exact q
  have C := Lib.hid C
  by_cases hod : x % 2 = 0
  · have n1 : (((x : Int) % 2) == 0) = true := by simp; omega
    have Z := Lib.hid (zag_even2 XL.out hod)
    clear hod
    go_enter Try.func21, Try.ntmps21
    go_wp2_with fail
    refine (C.out _ HS.out).mono ?_
    rintro e w' ⟨rfl, hr, hT⟩
    have HR := Lib.hid hr
    have HT := Lib.hid hT
    clear hr hT
    go_wp2
    go_ret
    exact ⟨ret_i64 Z.out, HR.out, HT.out⟩
  · have n1 : (((x : Int) % 2) == 0) = false := by simp; omega
    have Z := Lib.hid (zag_odd2 XL.out hod)
    clear hod
    go_enter Try.func21, Try.ntmps21
    go_wp2_with fail
    refine (C.out _ HS.out).mono ?_
    rintro e w' ⟨rfl, hr, hT⟩
    have HR := Lib.hid hr
    have HT := Lib.hid hT
    clear hr hT
    go_wp2
    go_ret
    exact ⟨ret_i64 Z.out, HR.out, HT.out⟩

set_option maxHeartbeats 1000000 in
set_option maxRecDepth 100000 in
theorem rF_rr {B p : Nat} {tb : TypeId} {w : World} {s : Option (List UInt8)} (h : RS 47 B tb w p s) (ht : tb ≠ 47) (hl : ∀ l, s = some l → l.length ≤ 1099511627776) :
    Calls Try.prog 24 #[.pointer (some ⟨p, 0, none⟩)] w fun e w' => e = .returned (.float .f64 (Cd.rdF s).1) ∧ RS 47 B tb w' p (Cd.rdF s).2 ∧ Tch B [47] w w' := by
  obtain ⟨x, s2, hx⟩ : ∃ x s2, Cd.rdW 8 s = (x, s2) := ⟨_, _, rfl⟩
  have xl : x < 18446744073709551616 := by have := Cd.rdW_lt 8 s; rw [hx] at this; exact this
  have HX := Lib.hid hx
  have XL := Lib.hid xl
  have HS := Lib.hid h
  have HLn := Lib.hid hl
  clear h hl xl
  cases s2 with
  | none =>
    have e1 : Cd.rdF s = (0, none) := by unfold Cd.rdF; simp only [hx]
    rw [e1]
    clear e1 hx
    go_enter Try.func24, Try.ntmps24
    go_wp2_with fail
    refine (number_at HX.out rfl (by omega) HS.out ht HLn.out).mono ?_
    rintro e w' ⟨rfl, hr, hT⟩
    have HR := Lib.hid hr
    have HT := Lib.hid hT
    have bd := bad_of hr
    clear hr hT
    go_wp2
    go_ret
    exact ⟨rfl, HR.out, HT.out⟩
  | some t =>
    cases hf : Fl.fit (x : Int)
    · have e1 : Cd.rdF s = (0, none) := by unfold Cd.rdF; simp [hx, hf]
      rw [e1]
      clear e1 hx
      go_enter Try.func24, Try.ntmps24
      go_wp2_with fail
      refine (number_at HX.out rfl (by omega) HS.out ht HLn.out).mono ?_
      rintro e w' ⟨rfl, hr, hT⟩
      have HR := Lib.hid hr
      have HT := Lib.hid hT
      have bd := bad_of hr
      clear hr hT
      go_wp2_with fail
      refine (refOf_c _ _ (by omega) (by have := XL.out; omega)).mono ?_
      rintro e w1 ⟨rfl, hb⟩
      have HR1 := Lib.hid (HR.out.below hb)
      have HT1 := Lib.hid (HT.out.trans (Tch.of_below hb HR.out.size [47]))
      clear hb
      go_wp2_with (go_at_call 51; refine (rfail_c HR1.out).mono ?_; rintro e w' ⟨rfl, hr3, ht3⟩; have HR3 := Lib.hid hr3; have HT3 := Lib.hid ht3; clear hr3 ht3)
      go_ret
      exact ⟨rfl, HR3.out, HT1.out.trans HT3.out⟩
    · have e1 : Cd.rdF s = (Fl.wd (x : Int), some t) := by unfold Cd.rdF; simp [hx, hf]
      rw [e1]
      clear e1 hx
      go_enter Try.func24, Try.ntmps24
      go_wp2_with fail
      refine (number_at HX.out rfl (by omega) HS.out ht HLn.out).mono ?_
      rintro e w' ⟨rfl, hr, hT⟩
      have HR := Lib.hid hr
      have HT := Lib.hid hT
      have bd := bad_of hr
      clear hr hT
      go_wp2_with fail
      refine (refOf_c _ _ (by omega) (by have := XL.out; omega)).mono ?_
      rintro e w1 ⟨rfl, hb⟩
      have HR1 := Lib.hid (HR.out.below hb)
      have HT1 := Lib.hid (HT.out.trans (Tch.of_below hb HR.out.size [47]))
      clear hb
      go_wp2
      go_ret
      exact ⟨rfl, HR1.out, HT1.out⟩

set_option maxHeartbeats 2000000 in
set_option maxRecDepth 100000 in
theorem rB_rr {B p : Nat} {tb : TypeId} {w : World} {s : Option (List UInt8)} {mz : Int} (h : RS 47 B tb w p s) (ht : tb ≠ 47) (hl : ∀ l, s = some l → l.length ≤ 1099511627776) (m0 : 0 ≤ mz) (m1 : mz ≤ 1099511627776) :
    Calls Try.prog 26 #[.pointer (some ⟨p, 0, none⟩), .int .i64 mz] w (RBOk 47 B tb p (Cd.rdB mz.toNat s).1 (Cd.rdB mz.toNat s).2 w) := by
  obtain ⟨x, s2, hx⟩ : ∃ x s2, Cd.rdN mz.toNat s = (x, s2) := ⟨_, _, rfl⟩
  have xl : x ≤ 1099511627776 := by have := (Cd.rdN_lt mz.toNat s).2; rw [hx] at this; simp only [] at this; omega
  have l2 : ∀ l, s2 = some l → l.length ≤ 1099511627776 := by
    intro l e
    subst e
    cases s with
    | none => simp [Cd.rdN] at hx
    | some l0 =>
      have q := (Cd.read_num hx).1
      have := hl l0 rfl
      rw [q, List.length_append] at this
      omega
  have e1 := rdB_eq mz.toNat s
  rw [hx] at e1
  rw [e1]
  have HX := Lib.hid hx
  have HS := Lib.hid h
  have HLn := Lib.hid hl
  have hB := h.size
  clear h hl hx e1
  obtain ⟨i0, hi, iz0, iz1, iz2⟩ := info_parts Try.infoU8
  have C : ∀ w, RS 47 B tb w p s → Calls Try.prog 19 #[.pointer (some ⟨p, 0, none⟩), .int .u64 mz] w fun e w' => e = .returned (.int .u64 (x : Int)) ∧ RS 47 B tb w' p s2 ∧ Tch B [47] w w' := by
    intro w h
    have q := rN_rr (mz := mz) h ht HLn.out m0
    rw [HX.out] at q
    exact q
  have C := Lib.hid C
  cases s2 with
  | none =>
    go_enter Try.func26, Try.ntmps26
    go_wp2_with fail
    refine (C.out _ HS.out).mono ?_
    rintro e w' ⟨rfl, hr, hT⟩
    have HR := Lib.hid hr
    have HT := Lib.hid hT
    have bd := bad_of hr
    clear hr hT
    go_wp2_with (go_at_call 51; refine (rfail_c HR.out).mono ?_; rintro e w' ⟨rfl, hr3, ht3⟩; have HR3 := Lib.hid hr3; have HT3 := Lib.hid ht3; clear hr3 ht3)
    go_ret
    exact ⟨none, 0, 0, rfl, World.ownsRow_nil _ _ _ _, HR3.out, HT.out.trans HT3.out⟩
  | some l =>
    have ll := l2 l rfl
    clear l2
    by_cases hn : x ≤ l.length
    · go_enter Try.func26, Try.ntmps26
      go_wp2_with fail
      refine (C.out _ HS.out).mono ?_
      rintro e w' ⟨rfl, hr, hT⟩
      have bd := bad_of hr
      have HT := Lib.hid hT
      have HR := Lib.hid hr
      have hz := hT.size
      obtain ⟨hBp, A, c, hc, hp, hL⟩ := hr
      have c1 := cell_fst hp
      have HP := Lib.hid hp
      have HL := Lib.hid hL
      have tkl : (l.take x).length = x := by rw [List.length_take]; omega
      have TKL := Lib.hid tkl
      clear hp hL hT tkl
      go_wp2_with (at_builtin; refine wpList_app _ rfl _ _ 23 rfl w'.heap.size 5 i0 (.int .u8 0) 1 1 Try.underlying23 hi iz0 iz1 iz2 rfl (by decide) _ 0 [] rfl (World.ownsRow_nil _ _ _ _) B A x c (bcells (l.take x)) tb rfl (by rw [bcells_len, TKL.out]; omega) (by rw [← bcells_take]; exact HL.out.take x) (bcells_one _) (by unfold maxLen; omega) (by omega) (Nat.le_refl _) ?_)
      intro v' w1 hown' hgrow _
      obtain ⟨A2, k2, rfl⟩ := own_slice hown'
      have hb := app_below0 (World.ownsRow_nil w' w'.heap.size 5 1) hgrow (Nat.le_refl _)
      have hr1 := HR.out.below hb
      have HT1 := Lib.hid (HT.out.trans (Tch.of_below hb (by omega) [47]))
      have HO := Lib.hid (own_less hown' (b := w.heap.size) hz)
      have hp1 := hb.block p (lt_of_block HP.out)
      rw [HP.out] at hp1
      have d1 := cell_fst hp1
      have g1 := blk_free hp1 0
      have HP1 := Lib.hid hp1
      have HL1 := Lib.hid (HL.out.below (by omega) hb)
      clear hown' hgrow hb hr1 hp1 c1
      go_wp2
      all_goals go_ret
      · have hcx : c = x := by assumption
        have hd : l.drop x = [] := List.drop_eq_nil_of_le (by omega)
        have q := number_end (n := x) (c1 := 0) (A1 := A) hBp ht HP1.out rfl hn (by omega) (by rw [hd]; exact Lies.nil)
        have e : tk x (some l) = l.take x := by simp [tk, hn]
        rw [e]
        exact ⟨A2, x, k2, rfl, by rw [TKL.out]; exact own_far HO.out HP1.out (by decide) _, q.1, HT1.out.trans q.2⟩
      · have hcx : ¬ c = x := by assumption
        have q0 := HL1.out.cut x c (by rw [bcells_len]; omega)
        rw [if_neg hcx, bcells_drop] at q0
        have q := number_end (n := x) (c1 := c - x) hBp ht HP1.out rfl hn (by omega) q0
        have e : tk x (some l) = l.take x := by simp [tk, hn]
        rw [e]
        exact ⟨A2, x, k2, rfl, by rw [TKL.out]; exact own_far HO.out HP1.out (by decide) _, q.1, HT1.out.trans q.2⟩
    · have e2 : tk x (some l) = [] := by simp [tk, hn]
      have e3 : (Cd.rdW x (some l)).2 = none := by simp [Cd.rdW, hn]
      rw [e2, e3]
      clear e2 e3
      go_enter Try.func26, Try.ntmps26
      go_wp2_with fail
      refine (C.out _ HS.out).mono ?_
      rintro e w' ⟨rfl, hr, hT⟩
      have bd := bad_of hr
      have HT := Lib.hid hT
      have HR := Lib.hid hr
      obtain ⟨A, c, hc0, c10⟩ := lst_of hr
      have c1 : w'.cell? ⟨p, 0, none⟩ = some (.slice A l.length c) := c10
      clear hr hT hc0 c10
      go_wp2_with (go_at_call 51; refine (rfail_c HR.out).mono ?_; rintro e w' ⟨rfl, hr3, ht3⟩; have HR3 := Lib.hid hr3; have HT3 := Lib.hid ht3; clear hr3 ht3)
      go_ret
      exact ⟨none, 0, 0, rfl, World.ownsRow_nil _ _ _ _, HR3.out, HT.out.trans HT3.out⟩

set_option maxHeartbeats 1000000 in
theorem rG_rr {B p : Nat} {tb : TypeId} {w : World} {s : Option (List UInt8)} (h : RS 47 B tb w p s) (ht : tb ≠ 47) (hl : ∀ l, s = some l → l.length ≤ 1099511627776) :
    Calls Try.prog 28 #[.pointer (some ⟨p, 0, none⟩)] w fun e w' => e = .returned (.bool (Cd.rdG s).1) ∧ RS 47 B tb w' p (Cd.rdG s).2 ∧ Tch B [47] w w' := by
  have HS := Lib.hid h
  have HLn := Lib.hid hl
  have q := Cd.rdG_num s
  have e1 : (Cd.rdG s).1 = ((Cd.rdN 1 s).1 == 1) := by rw [← q]
  have e2 : (Cd.rdG s).2 = (Cd.rdN 1 s).2 := by rw [← q]
  have n1 : (((Cd.rdN 1 s).1 : Int) == 1) = (Cd.rdG s).1 := by rw [e1, Bool.eq_iff_iff]; simp; omega
  have N1 := Lib.hid n1
  rw [e2]
  clear h hl q e1 e2 n1
  go_enter Try.func28, Try.ntmps28
  go_wp2_with fail
  refine (rN_rr (mz := 1) HS.out ht HLn.out (by omega)).mono ?_
  rintro e w' ⟨rfl, hr, hT⟩
  have HR := Lib.hid hr
  have HT := Lib.hid hT
  clear hr hT
  go_wp2
  go_ret
  exact ⟨ret_bool N1.out, HR.out, HT.out⟩

theorem end_rr {B p : Nat} {tb : TypeId} {w : World} {s : Option (List UInt8)} (h : RS 47 B tb w p s) :
    Calls Try.prog 31 #[.pointer (some ⟨p, 0, none⟩)] w fun e w' => e = .returned (.int .i64 (endOf s)) ∧ w = w' := by
  cases s with
  | none =>
    have b1 := cell_snd h.2
    clear h
    go_enter Try.func31, Try.ntmps31
    go_wp2
    go_ret
    exact ⟨rfl, rfl⟩
  | some l =>
    obtain ⟨_, A, c, _, hp, _⟩ := h
    have c1 := cell_fst hp
    have b1 := cell_snd hp
    clear hp
    cases l with
    | nil =>
      have c2 : w.cell? ⟨p, 0, none⟩ = some (.slice A 0 c) := c1
      clear c1
      go_enter Try.func31, Try.ntmps31
      go_wp2
      go_ret
      exact ⟨rfl, rfl⟩
    | cons x t =>
      have c2 : w.cell? ⟨p, 0, none⟩ = some (.slice A (t.length + 1) c) := c1
      clear c1
      go_enter Try.func31, Try.ntmps31
      go_wp2
      go_ret
      exact ⟨rfl, rfl⟩
end Go.Proofs.Ytobdaiiojclfkaa
