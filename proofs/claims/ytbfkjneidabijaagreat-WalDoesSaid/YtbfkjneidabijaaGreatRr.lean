/- Contracts of the document's own Reader. -/
import Derived.Test.YtbfkjneidabijaaGreatRe
import Derived.Test.YtbfkjneidabijaaGreatPt
namespace Go.Proofs.YtbfkjneidabijaaGreat
open Go.RowKit
set_option maxRecDepth 100000

set_option maxHeartbeats 1000000 in
theorem rfail_c {B p : Nat} {tb : TypeId} {w : World} {s : Option (List UInt8)} (h : RS 135 B tb w p s) :
    Calls Tryz.prog 99 #[.pointer (some ⟨p, 0, none⟩)] w fun e w' => e = .returned (.tuple #[]) ∧ RS 135 B tb w' p none ∧ Tch B [135] w w' := by
  have hB := h.1
  obtain ⟨A, n, c, b, hp⟩ : ∃ A n c b, w.heap[p]? = some (.cells #[.slice A n c, .bool b] 135 (0, 0)) := by
    cases s with
    | none => exact ⟨_, _, _, _, h.2⟩
    | some l =>
      obtain ⟨_, A, c, _, hp, _⟩ := h
      exact ⟨_, _, _, _, hp⟩
  have c1 := cell_fst hp
  have c2 := cell_snd hp
  have f1 := blk_free hp 0
  have f2 := blk_free hp 1
  have hp2 := blk_set hp 1 (.bool true)
  have hp3 := blk_set hp2 0 (.slice none 0 0)
  have HT := Lib.hid (((Tch.refl B [135] w).setCell (p := ⟨p, 1, none⟩) hp (by simp) hB (.bool true)).setCell (p := ⟨p, 0, none⟩) hp2 (by simp) hB (.slice none 0 0))
  have H3 := Lib.hid hp3
  clear hp2 hp3 h hp
  go_enter Tryz.func99, Tryz.ntmps99
  go_wp2
  go_end0
  exact ⟨rfl, ⟨hB, by simpa using H3.out⟩, HT.out⟩

theorem mul_add_byte (x : Nat) (b : UInt8) : IntKind.u64.wrap (IntKind.u64.wrap ((x : Int) * 256) + IntKind.u64.wrap (b.toNat : Int)) = (((x * 256 + b.toNat) % 18446744073709551616 : Nat) : Int) := by
  have hb : b.toNat < 256 := b.toNat_lt
  simp only [Fl.wrap_u64]; omega

/-- Behind the loop: what is left is cut. -/
theorem number_end {B p : Nat} {t tb : TypeId} {w : World} {l : List UInt8} {n c0 c1 : Nat} {A A1 : Option Addr} {b : Bool} (hB : B ≤ p) (ht : tb ≠ t) (hp : w.heap[p]? = some (.cells #[.slice A l.length c0, .bool b] t (0, 0))) (hb : b = false) (hn : n ≤ l.length) (hc1 : l.length - n ≤ c1)
    (hL1 : Lies w B tb A1 (bcells (l.drop n))) : RS t B tb (w.setCell ⟨p, 0, none⟩ (.slice A1 (l.length - n) c1)) p (Cd.rdW n (some l)).2 ∧ Tch B [t] w (w.setCell ⟨p, 0, none⟩ (.slice A1 (l.length - n) c1)) := by
  subst hb
  have e2 : (Cd.rdW n (some l)).2 = some (l.drop n) := by simp [Cd.rdW, hn]
  have T := (Tch.refl B [t] w).setCell (p := ⟨p, 0, none⟩) hp (by simp) hB (.slice A1 (l.length - n) c1)
  have ht' : tb ∉ [t] := by simpa using ht
  rw [e2]
  exact ⟨⟨hB, A1, c1, by rw [List.length_drop]; omega, by rw [List.length_drop]; exact blk_set hp 0 _, hL1.tch T ht'⟩, T⟩

set_option maxHeartbeats 2000000 in
set_option maxRecDepth 100000 in
theorem number_c {B p : Nat} {tb : TypeId} {w : World} {s : Option (List UInt8)} {z : Int} {n : Nat} (hz : z = (n : Int)) (h1 : 1 ≤ n) (h : RS 135 B tb w p s) (ht : tb ≠ 135) (hl : ∀ l, s = some l → l.length ≤ 1099511627776) :
    Calls Tryz.prog 98 #[.pointer (some ⟨p, 0, none⟩), .int .i64 z] w fun e w' => e = .returned (.int .u64 ((Cd.rdW n s).1 : Int)) ∧ RS 135 B tb w' p (Cd.rdW n s).2 ∧ Tch B [135] w w' := by
  subst hz
  cases s with
  | none =>
    have c1 := cell_fst h.2
    have HR := Lib.hid h
    clear h
    go_enter Tryz.func98, Tryz.ntmps98
    go_wp2_with (go_at_call 99; refine (rfail_c HR.out).mono ?_; rintro e w' ⟨rfl, hr, ht⟩; have HR2 := Lib.hid hr; have HT := Lib.hid ht; clear hr ht)
    go_ret
    exact ⟨rfl, HR2.out, HT.out⟩
  | some l =>
    have ll := hl l rfl
    clear hl
    have hB := h.1
    have HR := Lib.hid h
    obtain ⟨_, A, c, hc, hp, hL⟩ := h
    have c1 := cell_fst hp
    have f1 := blk_free hp 0
    have HP := Lib.hid hp
    have HL := Lib.hid hL
    clear hp hL
    by_cases hn : n ≤ l.length
    · have ev : (Cd.rdW n (some l)).1 = Cd.val (l.take n) := by simp [Cd.rdW, hn]
      have EV := Lib.hid ev
      clear ev
      go_enter Tryz.func98, Tryz.ntmps98
      go_wp2_with fail
      go_loop [5, 24] (fun v i => ∃ k : Nat, k ≤ n ∧ i = .int .i64 k ∧ v = .int .u64 (Cd.val (l.take k) : Int)) (fun _ i => n - (intOf i).toNat)
      case atStart => exact ⟨0, by omega, rfl, by simp [Cd.val_nil]⟩
      case round =>
        obtain ⟨k, hk, rfl, rfl⟩ := hrel
        by_cases hlt : k < n
        · obtain ⟨ad, rfl, d0⟩ := HL.out.byte (k := k) (by omega)
          have HN := Lib.hid (take_next (List.getElem?_eq_getElem (show k < l.length by omega)))
          go_wp2
          go_round
          case rel => exact ⟨k + 1, by omega, by go_num, by rw [HN.out, Cd.val_snoc, mul_add_byte]⟩
          case measure => simp [intOf]; omega
        · obtain rfl : k = n := by omega
          go_wp2
          all_goals go_ret
          · have hcn : c = k := by assumption
            have hd : l.drop k = [] := List.drop_eq_nil_of_le (by omega)
            have q := number_end (n := k) (c1 := 0) (A1 := A) hB ht HP.out rfl hn (by omega) (by rw [hd]; exact Lies.nil)
            exact ⟨ret_u64 (by rw [EV.out]), q.1, q.2⟩
          · have hcn : ¬ c = k := by assumption
            have q0 := HL.out.cut k c (by rw [bcells_len]; omega)
            rw [if_neg hcn, bcells_drop] at q0
            have q := number_end (n := k) (c1 := c - k) hB ht HP.out rfl hn (by omega) q0
            exact ⟨ret_u64 (by rw [EV.out]), q.1, q.2⟩
    · have e : Cd.rdW n (some l) = (0, none) := by simp [Cd.rdW, hn]
      rw [e]
      clear e
      go_enter Tryz.func98, Tryz.ntmps98
      go_wp2_with (go_at_call 99; refine (rfail_c HR.out).mono ?_; rintro e w' ⟨rfl, hr, ht⟩; have HR2 := Lib.hid hr; have HT := Lib.hid ht; clear hr ht)
      go_ret
      exact ⟨rfl, HR2.out, HT.out⟩

theorem number_at {B p : Nat} {tb : TypeId} {w : World} {s s' : Option (List UInt8)} {z : Int} {n x : Nat} (he : Cd.rdW n s = (x, s')) (hz : z = (n : Int)) (h1 : 1 ≤ n) (h : RS 135 B tb w p s) (ht : tb ≠ 135) (hl : ∀ l, s = some l → l.length ≤ 1099511627776) :
    Calls Tryz.prog 98 #[.pointer (some ⟨p, 0, none⟩), .int .i64 z] w fun e w' => e = .returned (.int .u64 (x : Int)) ∧ RS 135 B tb w' p s' ∧ Tch B [135] w w' := by
  have q := number_c (z := z) (n := n) hz h1 h ht hl
  rw [he] at q
  exact q
theorem bad_of {t tb : TypeId} {B p : Nat} {w : World} {s : Option (List UInt8)} (h : RS t B tb w p s) : w.cell? ⟨p, 1, none⟩ = some (.bool s.isNone) := by
  cases s with
  | none => exact cell_snd h.2
  | some l =>
    obtain ⟨_, A, c, _, hp, _⟩ := h
    exact cell_snd hp
theorem lst_of {t tb : TypeId} {B p : Nat} {w : World} {s : Option (List UInt8)} (h : RS t B tb w p s) : ∃ A c, leftOf s ≤ c ∧ w.cell? ⟨p, 0, none⟩ = some (.slice A (leftOf s) c) := by
  cases s with
  | none => exact ⟨none, 0, Nat.le_refl _, cell_fst h.2⟩
  | some l =>
    obtain ⟨_, A, c, hc, hp, _⟩ := h
    exact ⟨A, c, hc, cell_fst hp⟩

set_option maxHeartbeats 4000000 in
set_option maxRecDepth 100000 in
theorem rN_rr {B p : Nat} {tb : TypeId} {w : World} {s : Option (List UInt8)} {mz : Int} (h : RS 135 B tb w p s) (ht : tb ≠ 135) (hl : ∀ l, s = some l → l.length ≤ 1099511627776) (m0 : 0 ≤ mz) :
    Calls Tryz.prog 82 #[.pointer (some ⟨p, 0, none⟩), .int .u64 mz] w fun e w' => e = .returned (.int .u64 ((Cd.rdN mz.toNat s).1 : Int)) ∧ RS 135 B tb w' p (Cd.rdN mz.toNat s).2 ∧ Tch B [135] w w' := by
  have HS := Lib.hid h
  have HX := Lib.hid hl
  clear h hl
  have start : ∀ (e0 : Cd.rdW 1 s = (0, none)) (e1 : Cd.rdN mz.toNat s = (0, none)),
      Calls Tryz.prog 82 #[.pointer (some ⟨p, 0, none⟩), .int .u64 mz] w fun e w' => e = .returned (.int .u64 ((Cd.rdN mz.toNat s).1 : Int)) ∧ RS 135 B tb w' p (Cd.rdN mz.toNat s).2 ∧ Tch B [135] w w' := by
    intro e0 e1
    rw [e1]
    have E0 := Lib.hid e0
    clear e0 e1
    go_enter Tryz.func82, Tryz.ntmps82
    go_wp2_with fail
    refine (number_at E0.out rfl (by omega) HS.out ht HX.out).mono ?_
    rintro e w' ⟨rfl, hr, hT⟩
    have HR := Lib.hid hr
    have HT := Lib.hid hT
    have bd := bad_of hr
    clear hr hT
    go_wp2
    go_ret
    exact ⟨rfl, HR.out, HT.out⟩
  match s, HS, HX, start with
  | none, HS, HX, start => exact start rfl rfl
  | some [], HS, HX, start => exact start (by simp [Cd.rdW]) rfl
  | some (b :: t), HS, HX, start =>
    clear start
    have hb : b.toNat < 256 := b.toNat_lt
    have tl : ∀ l, some t = some l → l.length ≤ 1099511627776 := by
      intro l e
      injection e with e
      subst e
      have := HX.out _ rfl
      simp at this
      omega
    have TL := Lib.hid tl
    have E0 := Lib.hid (rdW_head b t)
    clear tl
    by_cases h1 : b.toNat < 128
    · by_cases h2 : (b.toNat : Int) ≤ mz
      · have e1 : Cd.rdN mz.toNat (some (b :: t)) = (b.toNat, some t) := by simp only [Cd.rdN]; rw [if_pos h1, if_pos (by omega)]
        rw [e1]
        clear e1
        go_enter Tryz.func82, Tryz.ntmps82
        go_wp2_with fail
        refine (number_at E0.out rfl (by omega) HS.out ht HX.out).mono ?_
        rintro e w' ⟨rfl, hr, hT⟩
        have HR := Lib.hid hr
        have HT := Lib.hid hT
        have bd := bad_of hr
        clear hr hT
        go_wp2
        go_ret
        exact ⟨rfl, HR.out, HT.out⟩
      · have e1 : Cd.rdN mz.toNat (some (b :: t)) = (0, none) := by simp only [Cd.rdN]; rw [if_pos h1, if_neg (by omega)]
        rw [e1]
        clear e1
        go_enter Tryz.func82, Tryz.ntmps82
        go_wp2_with fail
        refine (number_at E0.out rfl (by omega) HS.out ht HX.out).mono ?_
        rintro e w' ⟨rfl, hr, hT⟩
        have HR := Lib.hid hr
        have HT := Lib.hid hT
        have bd := bad_of hr
        clear hr hT
        go_wp2_with fail
        refine (rfail_c HR.out).mono ?_
        rintro e w' ⟨rfl, hr, hT⟩
        have HR2 := Lib.hid hr
        have HT2 := Lib.hid (HT.out.trans hT)
        have bdHR2 := bad_of hr
        clear hr hT
        go_wp2
        go_ret
        exact ⟨rfl, HR2.out, HT2.out⟩
    · obtain ⟨v, s2, hv⟩ : ∃ v s2, Cd.rdW (b.toNat - 128) (some t) = (v, s2) := ⟨_, _, rfl⟩
      have vlt : v < 18446744073709551616 := by have := Cd.rdW_lt (b.toNat - 128) (some t); rw [hv] at this; exact this
      have e1 : Cd.rdN mz.toNat (some (b :: t)) = if s2.isSome = true ∧ 128 ≤ v ∧ Cd.wid v = b.toNat - 128 ∧ v ≤ mz.toNat then (v, s2) else (0, none) := by
        simp only [Cd.rdN]
        rw [if_neg h1]
        simp only [Cd.rdW] at hv
        by_cases hk : b.toNat - 128 ≤ t.length
        · rw [if_pos hk, Prod.mk.injEq] at hv
          obtain ⟨rfl, rfl⟩ := hv
          simp [hk]
        · rw [if_neg hk, Prod.mk.injEq] at hv
          obtain ⟨rfl, rfl⟩ := hv
          simp [hk]
      have s0 : s2 = none → v = 0 := fun q => by have := Cd.rdW_fail (k := b.toNat - 128) (s := some t) (by rw [hv]; exact q); rw [hv] at this; exact this
      have wp := Cd.wid_pos v
      have HV := Lib.hid hv
      have S0 := Lib.hid s0
      clear hv s0
      by_cases hk : b.toNat - 128 < 1 ∨ 8 < b.toNat - 128
      · rw [if_neg (by
          rintro ⟨_, q1, q2, _⟩
          rcases hk with hk | hk
          · have := wp.1; omega
          · have := wp.2; omega)] at e1
        have HK : b.toNat = 128 ∨ 136 < b.toNat := by omega
        clear vlt wp hk
        rcases HK with HK | HK
        · have n1 : (b.toNat : Int) = 128 := by omega
          have N1 := Lib.hid HK
          clear HK
          rw [e1]
          clear e1
          go_enter Tryz.func82, Tryz.ntmps82
          go_wp2_with fail
          refine (number_at E0.out rfl (by omega) HS.out ht HX.out).mono ?_
          rintro e w' ⟨rfl, hr, hT⟩
          have HR := Lib.hid hr
          have HT := Lib.hid hT
          have bd := bad_of hr
          clear hr hT
          rw [n1]
          go_wp2_with fail
          refine (rfail_c HR.out).mono ?_
          rintro e w' ⟨rfl, hr, hT⟩
          have HR2 := Lib.hid hr
          have HT2 := Lib.hid (HT.out.trans hT)
          have bdHR2 := bad_of hr
          clear hr hT
          go_wp2
          go_ret
          exact ⟨rfl, HR2.out, HT2.out⟩
        · rw [e1]
          clear e1
          go_enter Tryz.func82, Tryz.ntmps82
          go_wp2_with fail
          refine (number_at E0.out rfl (by omega) HS.out ht HX.out).mono ?_
          rintro e w' ⟨rfl, hr, hT⟩
          have HR := Lib.hid hr
          have HT := Lib.hid hT
          have bd := bad_of hr
          clear hr hT
          go_wp2_with fail
          refine (rfail_c HR.out).mono ?_
          rintro e w' ⟨rfl, hr, hT⟩
          have HR2 := Lib.hid hr
          have HT2 := Lib.hid (HT.out.trans hT)
          have bdHR2 := bad_of hr
          clear hr hT
          go_wp2
          go_ret
          exact ⟨rfl, HR2.out, HT2.out⟩
      · by_cases h3 : v < 128
        · rw [if_neg (by omega)] at e1
          have N1 := Lib.hid vlt
          clear vlt
          by_cases h2 : (v : Int) ≤ mz
          · rw [e1]
            clear e1
            go_enter Tryz.func82, Tryz.ntmps82
            go_wp2_with fail
            refine (number_at E0.out rfl (by omega) HS.out ht HX.out).mono ?_
            rintro e w' ⟨rfl, hr, hT⟩
            have HR := Lib.hid hr
            have HT := Lib.hid hT
            have bd := bad_of hr
            clear hr hT
            go_wp2_with fail
            refine (number_at HV.out (by omega) (by omega) HR.out ht TL.out).mono ?_
            rintro e w' ⟨rfl, hr, hT⟩
            have HR2 := Lib.hid hr
            have HT2 := Lib.hid (HT.out.trans hT)
            have bd2 := bad_of hr
            clear hr hT
            go_wp2_with fail
            refine (rfail_c HR2.out).mono ?_
            rintro e w' ⟨rfl, hr, hT⟩
            have HR3 := Lib.hid hr
            have HT3 := Lib.hid (HT2.out.trans hT)
            have bdHR3 := bad_of hr
            clear hr hT
            go_wp2
            go_ret
            exact ⟨rfl, HR3.out, HT3.out⟩
          · rw [e1]
            clear e1
            go_enter Tryz.func82, Tryz.ntmps82
            go_wp2_with fail
            refine (number_at E0.out rfl (by omega) HS.out ht HX.out).mono ?_
            rintro e w' ⟨rfl, hr, hT⟩
            have HR := Lib.hid hr
            have HT := Lib.hid hT
            have bd := bad_of hr
            clear hr hT
            go_wp2_with fail
            refine (number_at HV.out (by omega) (by omega) HR.out ht TL.out).mono ?_
            rintro e w' ⟨rfl, hr, hT⟩
            have HR2 := Lib.hid hr
            have HT2 := Lib.hid (HT.out.trans hT)
            have bd2 := bad_of hr
            clear hr hT
            go_wp2_with fail
            refine (rfail_c HR2.out).mono ?_
            rintro e w' ⟨rfl, hr, hT⟩
            have HR3 := Lib.hid hr
            have HT3 := Lib.hid (HT2.out.trans hT)
            have bdHR3 := bad_of hr
            clear hr hT
            go_wp2_with fail
            refine (rfail_c HR3.out).mono ?_
            rintro e w' ⟨rfl, hr, hT⟩
            have HR4 := Lib.hid hr
            have HT4 := Lib.hid (HT3.out.trans hT)
            have bdHR4 := bad_of hr
            clear hr hT
            go_wp2
            go_ret
            exact ⟨rfl, HR4.out, HT4.out⟩
        · by_cases h4 : Cd.wid v = b.toNat - 128
          · have n1 : ((Cd.wid v : Int) == ((b.toNat : Int) - 128)) = true := by simp; omega
            have n2 : ((Cd.wid v : Int) != ((b.toNat : Int) - 128)) = false := by simp; omega
            have hs2 : s2.isSome = true := by
              cases s2 with
              | none => have := S0.out rfl; omega
              | some _ => rfl
            obtain ⟨l2, rfl⟩ := Option.isSome_iff_exists.1 hs2
            by_cases h2 : (v : Int) ≤ mz
            · rw [if_pos ⟨rfl, by omega, h4, by omega⟩] at e1
              have N1 := Lib.hid vlt
              have N4 := Lib.hid h4
              clear vlt hs2 h4
              rw [e1]
              clear e1
              go_enter Tryz.func82, Tryz.ntmps82
              go_wp2_with fail
              refine (number_at E0.out rfl (by omega) HS.out ht HX.out).mono ?_
              rintro e w' ⟨rfl, hr, hT⟩
              have HR := Lib.hid hr
              have HT := Lib.hid hT
              have bd := bad_of hr
              clear hr hT
              go_wp2_with fail
              refine (number_at HV.out (by omega) (by omega) HR.out ht TL.out).mono ?_
              rintro e w' ⟨rfl, hr, hT⟩
              have HR2 := Lib.hid hr
              have HT2 := Lib.hid (HT.out.trans hT)
              have bd2 := bad_of hr
              clear hr hT
              go_wp2_with (go_at_call 100; refine (wide_c _ _ (by omega)).mono ?_; rintro e w' ⟨rfl, rfl⟩)
              go_ret
              exact ⟨rfl, HR2.out, HT2.out⟩
            · rw [if_neg (by omega)] at e1
              have N1 := Lib.hid vlt
              have N4 := Lib.hid h4
              clear vlt hs2 h4
              rw [e1]
              clear e1
              go_enter Tryz.func82, Tryz.ntmps82
              go_wp2_with fail
              refine (number_at E0.out rfl (by omega) HS.out ht HX.out).mono ?_
              rintro e w' ⟨rfl, hr, hT⟩
              have HR := Lib.hid hr
              have HT := Lib.hid hT
              have bd := bad_of hr
              clear hr hT
              go_wp2_with fail
              refine (number_at HV.out (by omega) (by omega) HR.out ht TL.out).mono ?_
              rintro e w' ⟨rfl, hr, hT⟩
              have HR2 := Lib.hid hr
              have HT2 := Lib.hid (HT.out.trans hT)
              have bd2 := bad_of hr
              clear hr hT
              go_wp2_with (go_at_call 100; refine (wide_c _ _ (by omega)).mono ?_; rintro e w' ⟨rfl, rfl⟩)
              refine (rfail_c HR2.out).mono ?_
              rintro e w' ⟨rfl, hr, hT⟩
              have HR3 := Lib.hid hr
              have HT3 := Lib.hid (HT2.out.trans hT)
              have bdHR3 := bad_of hr
              clear hr hT
              go_wp2
              go_ret
              exact ⟨rfl, HR3.out, HT3.out⟩
          · have n1 : ((Cd.wid v : Int) == ((b.toNat : Int) - 128)) = false := by simp; omega
            have n2 : ((Cd.wid v : Int) != ((b.toNat : Int) - 128)) = true := by simp; omega
            rw [if_neg (by omega)] at e1
            have N1 := Lib.hid vlt
            clear vlt
            by_cases h2 : (v : Int) ≤ mz
            · rw [e1]
              clear e1
              go_enter Tryz.func82, Tryz.ntmps82
              go_wp2_with fail
              refine (number_at E0.out rfl (by omega) HS.out ht HX.out).mono ?_
              rintro e w' ⟨rfl, hr, hT⟩
              have HR := Lib.hid hr
              have HT := Lib.hid hT
              have bd := bad_of hr
              clear hr hT
              go_wp2_with fail
              refine (number_at HV.out (by omega) (by omega) HR.out ht TL.out).mono ?_
              rintro e w' ⟨rfl, hr, hT⟩
              have HR2 := Lib.hid hr
              have HT2 := Lib.hid (HT.out.trans hT)
              have bd2 := bad_of hr
              clear hr hT
              go_wp2_with (go_at_call 100; refine (wide_c _ _ (by omega)).mono ?_; rintro e w' ⟨rfl, rfl⟩)
              refine (rfail_c HR2.out).mono ?_
              rintro e w' ⟨rfl, hr, hT⟩
              have HR3 := Lib.hid hr
              have HT3 := Lib.hid (HT2.out.trans hT)
              have bdHR3 := bad_of hr
              clear hr hT
              go_wp2
              go_ret
              exact ⟨rfl, HR3.out, HT3.out⟩
            · rw [e1]
              clear e1
              go_enter Tryz.func82, Tryz.ntmps82
              go_wp2_with fail
              refine (number_at E0.out rfl (by omega) HS.out ht HX.out).mono ?_
              rintro e w' ⟨rfl, hr, hT⟩
              have HR := Lib.hid hr
              have HT := Lib.hid hT
              have bd := bad_of hr
              clear hr hT
              go_wp2_with fail
              refine (number_at HV.out (by omega) (by omega) HR.out ht TL.out).mono ?_
              rintro e w' ⟨rfl, hr, hT⟩
              have HR2 := Lib.hid hr
              have HT2 := Lib.hid (HT.out.trans hT)
              have bd2 := bad_of hr
              clear hr hT
              go_wp2_with (go_at_call 100; refine (wide_c _ _ (by omega)).mono ?_; rintro e w' ⟨rfl, rfl⟩)
              refine (rfail_c HR2.out).mono ?_
              rintro e w' ⟨rfl, hr, hT⟩
              have HR3 := Lib.hid hr
              have HT3 := Lib.hid (HT2.out.trans hT)
              have bdHR3 := bad_of hr
              clear hr hT
              go_wp2_with fail
              refine (rfail_c HR3.out).mono ?_
              rintro e w' ⟨rfl, hr, hT⟩
              have HR4 := Lib.hid hr
              have HT4 := Lib.hid (HT3.out.trans hT)
              have bdHR4 := bad_of hr
              clear hr hT
              go_wp2
              go_ret
              exact ⟨rfl, HR4.out, HT4.out⟩
end Go.Proofs.YtbfkjneidabijaaGreat
