/- Contracts of the document's own Reader. Contracts of the document's own Reader's other methods. -/
import Derived.Test.YtbgdmmemahfpbaaRe
import Derived.Test.YtbgdmmemahfpbaaCw
namespace Go.Proofs.Ytbgdmmemahfpbaa
set_option maxRecDepth 100000

section
open Go.RowKit

set_option maxHeartbeats 1000000 in
theorem rfail_c {B p : Nat} {tb : TypeId} {w : World} {s : Option (List UInt8)} (h : RS 81 B tb w p s) :
    Calls Try.prog 104 #[.pointer (some ⟨p, 0, none⟩)] w fun e w' => e = .returned (.tuple #[]) ∧ RS 81 B tb w' p none ∧ Tch B [81] w w' := by
  have hB := h.1
  obtain ⟨A, n, c, b, hp⟩ : ∃ A n c b, w.heap[p]? = some (.cells #[.slice A n c, .bool b] 81 (0, 0)) := by
    cases s with
    | none => exact ⟨_, _, _, _, h.2⟩
    | some l =>
      obtain ⟨_, A, c, _, hp, _⟩ := h
      exact ⟨_, _, _, _, hp⟩
  have c1 := cell_fst hp
  have c2 := cell_snd hp
  have f1 := blk_free hp 0
  have f2 := blk_free hp 1
  have hp2 := blk_set hp 1 (.bool true)
  have hp3 := blk_set hp2 0 (.slice none 0 0)
  have HT := Lib.hid (((Tch.refl B [81] w).setCell (p := ⟨p, 1, none⟩) hp (by simp) hB (.bool true)).setCell (p := ⟨p, 0, none⟩) hp2 (by simp) hB (.slice none 0 0))
  have H3 := Lib.hid hp3
  clear hp2 hp3 h hp
  go_enter Try.func104, Try.ntmps104
  go_wp2
  go_end0
  exact ⟨rfl, ⟨hB, by simpa using H3.out⟩, HT.out⟩

theorem mul_add_byte (x : Nat) (b : UInt8) : IntKind.u64.wrap (IntKind.u64.wrap ((x : Int) * 256) + IntKind.u64.wrap (b.toNat : Int)) = (((x * 256 + b.toNat) % 18446744073709551616 : Nat) : Int) := by
  have hb : b.toNat < 256 := b.toNat_lt
  simp only [Fl.wrap_u64]; omega

/-- Behind the loop: what is left is cut. -/
theorem number_end {B p : Nat} {t tb : TypeId} {w : World} {l : List UInt8} {n c0 c1 : Nat} {A A1 : Option Addr} {b : Bool} (hB : B ≤ p) (ht : tb ≠ t) (hp : w.heap[p]? = some (.cells #[.slice A l.length c0, .bool b] t (0, 0))) (hb : b = false) (hn : n ≤ l.length) (hc1 : l.length - n ≤ c1)
    (hL1 : Lies w B tb A1 (bcells (l.drop n))) : RS t B tb (w.setCell ⟨p, 0, none⟩ (.slice A1 (l.length - n) c1)) p (Cd.rdW n (some l)).2 ∧ Tch B [t] w (w.setCell ⟨p, 0, none⟩ (.slice A1 (l.length - n) c1)) := by
  subst hb
  have e2 : (Cd.rdW n (some l)).2 = some (l.drop n) := by simp [Cd.rdW, hn]
  have T := (Tch.refl B [t] w).setCell (p := ⟨p, 0, none⟩) hp (by simp) hB (.slice A1 (l.length - n) c1)
  have ht' : tb ∉ [t] := by simpa using ht
  rw [e2]
  exact ⟨⟨hB, A1, c1, by rw [List.length_drop]; omega, by rw [List.length_drop]; exact blk_set hp 0 _, hL1.tch T ht'⟩, T⟩

set_option maxHeartbeats 2000000 in
set_option maxRecDepth 100000 in
theorem number_c {B p : Nat} {tb : TypeId} {w : World} {s : Option (List UInt8)} {z : Int} {n : Nat} (hz : z = (n : Int)) (h1 : 1 ≤ n) (h : RS 81 B tb w p s) (ht : tb ≠ 81) (hl : ∀ l, s = some l → l.length ≤ 1099511627776) :
    Calls Try.prog 103 #[.pointer (some ⟨p, 0, none⟩), .int .i64 z] w fun e w' => e = .returned (.int .u64 ((Cd.rdW n s).1 : Int)) ∧ RS 81 B tb w' p (Cd.rdW n s).2 ∧ Tch B [81] w w' := by
  subst hz
  cases s with
  | none =>
    have c1 := cell_fst h.2
    have HR := Lib.hid h
    clear h
    go_enter Try.func103, Try.ntmps103
    go_wp2_with (go_at_call 104; refine (rfail_c HR.out).mono ?_; rintro e w' ⟨rfl, hr, ht⟩; have HR2 := Lib.hid hr; have HT := Lib.hid ht; clear hr ht)
    go_ret
    exact ⟨rfl, HR2.out, HT.out⟩
  | some l =>
    have ll := hl l rfl
    clear hl
    have hB := h.1
    have HR := Lib.hid h
    obtain ⟨_, A, c, hc, hp, hL⟩ := h
    have c1 := cell_fst hp
    have f1 := blk_free hp 0
    have HP := Lib.hid hp
    have HL := Lib.hid hL
    clear hp hL
    by_cases hn : n ≤ l.length
    · have ev : (Cd.rdW n (some l)).1 = Cd.val (l.take n) := by simp [Cd.rdW, hn]
      have EV := Lib.hid ev
      clear ev
      go_enter Try.func103, Try.ntmps103
      go_wp2_with fail
      go_loop [5, 24] (fun v i => ∃ k : Nat, k ≤ n ∧ i = .int .i64 k ∧ v = .int .u64 (Cd.val (l.take k) : Int)) (fun _ i => n - (intOf i).toNat)
      case atStart => exact ⟨0, by omega, rfl, by simp [Cd.val_nil]⟩
      case round =>
        obtain ⟨k, hk, rfl, rfl⟩ := hrel
        by_cases hlt : k < n
        · obtain ⟨ad, rfl, d0⟩ := HL.out.byte (k := k) (by omega)
          have HN := Lib.hid (take_next (List.getElem?_eq_getElem (show k < l.length by omega)))
          go_wp2
          go_round
          case rel => exact ⟨k + 1, by omega, by go_num, by rw [HN.out, Cd.val_snoc, mul_add_byte]⟩
          case measure => simp [intOf]; omega
        · obtain rfl : k = n := by omega
          go_wp2
          all_goals go_ret
          · have hcn : c = k := by assumption
            have hd : l.drop k = [] := List.drop_eq_nil_of_le (by omega)
            have q := number_end (n := k) (c1 := 0) (A1 := A) hB ht HP.out rfl hn (by omega) (by rw [hd]; exact Lies.nil)
            exact ⟨ret_u64 (by rw [EV.out]), q.1, q.2⟩
          · have hcn : ¬ c = k := by assumption
            have q0 := HL.out.cut k c (by rw [bcells_len]; omega)
            rw [if_neg hcn, bcells_drop] at q0
            have q := number_end (n := k) (c1 := c - k) hB ht HP.out rfl hn (by omega) q0
            exact ⟨ret_u64 (by rw [EV.out]), q.1, q.2⟩
    · have e : Cd.rdW n (some l) = (0, none) := by simp [Cd.rdW, hn]
      rw [e]
      clear e
      go_enter Try.func103, Try.ntmps103
      go_wp2_with (go_at_call 104; refine (rfail_c HR.out).mono ?_; rintro e w' ⟨rfl, hr, ht⟩; have HR2 := Lib.hid hr; have HT := Lib.hid ht; clear hr ht)
      go_ret
      exact ⟨rfl, HR2.out, HT.out⟩

theorem number_at {B p : Nat} {tb : TypeId} {w : World} {s s' : Option (List UInt8)} {z : Int} {n x : Nat} (he : Cd.rdW n s = (x, s')) (hz : z = (n : Int)) (h1 : 1 ≤ n) (h : RS 81 B tb w p s) (ht : tb ≠ 81) (hl : ∀ l, s = some l → l.length ≤ 1099511627776) :
    Calls Try.prog 103 #[.pointer (some ⟨p, 0, none⟩), .int .i64 z] w fun e w' => e = .returned (.int .u64 (x : Int)) ∧ RS 81 B tb w' p s' ∧ Tch B [81] w w' := by
  have q := number_c (z := z) (n := n) hz h1 h ht hl
  rw [he] at q
  exact q
theorem bad_of {t tb : TypeId} {B p : Nat} {w : World} {s : Option (List UInt8)} (h : RS t B tb w p s) : w.cell? ⟨p, 1, none⟩ = some (.bool s.isNone) := by
  cases s with
  | none => exact cell_snd h.2
  | some l =>
    obtain ⟨_, A, c, _, hp, _⟩ := h
    exact cell_snd hp
theorem lst_of {t tb : TypeId} {B p : Nat} {w : World} {s : Option (List UInt8)} (h : RS t B tb w p s) : ∃ A c, leftOf s ≤ c ∧ w.cell? ⟨p, 0, none⟩ = some (.slice A (leftOf s) c) := by
  cases s with
  | none => exact ⟨none, 0, Nat.le_refl _, cell_fst h.2⟩
  | some l =>
    obtain ⟨_, A, c, hc, hp, _⟩ := h
    exact ⟨A, c, hc, cell_fst hp⟩

set_option maxHeartbeats 4000000 in
set_option maxRecDepth 100000 in
theorem rN_rr {B p : Nat} {tb : TypeId} {w : World} {s : Option (List UInt8)} {mz : Int} (h : RS 81 B tb w p s) (ht : tb ≠ 81) (hl : ∀ l, s = some l → l.length ≤ 1099511627776) (m0 : 0 ≤ mz) :
    Calls Try.prog 58 #[.pointer (some ⟨p, 0, none⟩), .int .u64 mz] w fun e w' => e = .returned (.int .u64 ((Cd.rdN mz.toNat s).1 : Int)) ∧ RS 81 B tb w' p (Cd.rdN mz.toNat s).2 ∧ Tch B [81] w w' := by
  have HS := Lib.hid h
  have HX := Lib.hid hl
  clear h hl
  have start : ∀ (e0 : Cd.rdW 1 s = (0, none)) (e1 : Cd.rdN mz.toNat s = (0, none)),
      Calls Try.prog 58 #[.pointer (some ⟨p, 0, none⟩), .int .u64 mz] w fun e w' => e = .returned (.int .u64 ((Cd.rdN mz.toNat s).1 : Int)) ∧ RS 81 B tb w' p (Cd.rdN mz.toNat s).2 ∧ Tch B [81] w w' := by
    intro e0 e1
    rw [e1]
    have E0 := Lib.hid e0
    clear e0 e1
    go_enter Try.func58, Try.ntmps58
    go_wp2_with fail
    refine (number_at E0.out rfl (by omega) HS.out ht HX.out).mono ?_
    rintro e w' ⟨rfl, hr, hT⟩
    have HR := Lib.hid hr
    have HT := Lib.hid hT
    have bd := bad_of hr
    clear hr hT
    go_wp2
    go_ret
    exact ⟨rfl, HR.out, HT.out⟩
  match s, HS, HX, start with
  | none, HS, HX, start => exact start rfl rfl
  | some [], HS, HX, start => exact start (by simp [Cd.rdW]) rfl
  | some (b :: t), HS, HX, start =>
    clear start
    have hb : b.toNat < 256 := b.toNat_lt
    have tl : ∀ l, some t = some l → l.length ≤ 1099511627776 := by
      intro l e
      injection e with e
      subst e
      have := HX.out _ rfl
      simp at this
      omega
    have TL := Lib.hid tl
    have E0 := Lib.hid (rdW_head b t)
    clear tl
    by_cases h1 : b.toNat < 128
    · by_cases h2 : (b.toNat : Int) ≤ mz
      · have e1 : Cd.rdN mz.toNat (some (b :: t)) = (b.toNat, some t) := by simp only [Cd.rdN]; rw [if_pos h1, if_pos (by omega)]
        rw [e1]
        clear e1
        go_enter Try.func58, Try.ntmps58
        go_wp2_with fail
        refine (number_at E0.out rfl (by omega) HS.out ht HX.out).mono ?_
        rintro e w' ⟨rfl, hr, hT⟩
        have HR := Lib.hid hr
        have HT := Lib.hid hT
        have bd := bad_of hr
        clear hr hT
        go_wp2
        go_ret
        exact ⟨rfl, HR.out, HT.out⟩
      · have e1 : Cd.rdN mz.toNat (some (b :: t)) = (0, none) := by simp only [Cd.rdN]; rw [if_pos h1, if_neg (by omega)]
        rw [e1]
        clear e1
        go_enter Try.func58, Try.ntmps58
        go_wp2_with fail
        refine (number_at E0.out rfl (by omega) HS.out ht HX.out).mono ?_
        rintro e w' ⟨rfl, hr, hT⟩
        have HR := Lib.hid hr
        have HT := Lib.hid hT
        have bd := bad_of hr
        clear hr hT
        go_wp2_with fail
        refine (rfail_c HR.out).mono ?_
        rintro e w' ⟨rfl, hr, hT⟩
        have HR2 := Lib.hid hr
        have HT2 := Lib.hid (HT.out.trans hT)
        have bdHR2 := bad_of hr
        clear hr hT
        go_wp2
        go_ret
        exact ⟨rfl, HR2.out, HT2.out⟩
    · obtain ⟨v, s2, hv⟩ : ∃ v s2, Cd.rdW (b.toNat - 128) (some t) = (v, s2) := ⟨_, _, rfl⟩
      have vlt : v < 18446744073709551616 := by have := Cd.rdW_lt (b.toNat - 128) (some t); rw [hv] at this; exact this
      have e1 : Cd.rdN mz.toNat (some (b :: t)) = if s2.isSome = true ∧ 128 ≤ v ∧ Cd.wid v = b.toNat - 128 ∧ v ≤ mz.toNat then (v, s2) else (0, none) := by
        simp only [Cd.rdN]
        rw [if_neg h1]
        simp only [Cd.rdW] at hv
        by_cases hk : b.toNat - 128 ≤ t.length
        · rw [if_pos hk, Prod.mk.injEq] at hv
          obtain ⟨rfl, rfl⟩ := hv
          simp [hk]
        · rw [if_neg hk, Prod.mk.injEq] at hv
          obtain ⟨rfl, rfl⟩ := hv
          simp [hk]
      have s0 : s2 = none → v = 0 := fun q => by have := Cd.rdW_fail (k := b.toNat - 128) (s := some t) (by rw [hv]; exact q); rw [hv] at this; exact this
      have wp := Cd.wid_pos v
      have HV := Lib.hid hv
      have S0 := Lib.hid s0
      clear hv s0
      by_cases hk : b.toNat - 128 < 1 ∨ 8 < b.toNat - 128
      · rw [if_neg (by
          rintro ⟨_, q1, q2, _⟩
          rcases hk with hk | hk
          · have := wp.1; omega
          · have := wp.2; omega)] at e1
        have HK : b.toNat = 128 ∨ 136 < b.toNat := by omega
        clear vlt wp hk
        rcases HK with HK | HK
        · have n1 : (b.toNat : Int) = 128 := by omega
          have N1 := Lib.hid HK
          clear HK
          rw [e1]
          clear e1
          go_enter Try.func58, Try.ntmps58
          go_wp2_with fail
          refine (number_at E0.out rfl (by omega) HS.out ht HX.out).mono ?_
          rintro e w' ⟨rfl, hr, hT⟩
          have HR := Lib.hid hr
          have HT := Lib.hid hT
          have bd := bad_of hr
          clear hr hT
          rw [n1]
          go_wp2_with fail
          refine (rfail_c HR.out).mono ?_
          rintro e w' ⟨rfl, hr, hT⟩
          have HR2 := Lib.hid hr
          have HT2 := Lib.hid (HT.out.trans hT)
          have bdHR2 := bad_of hr
          clear hr hT
          go_wp2
          go_ret
          exact ⟨rfl, HR2.out, HT2.out⟩
        · rw [e1]
          clear e1
          go_enter Try.func58, Try.ntmps58
          go_wp2_with fail
          refine (number_at E0.out rfl (by omega) HS.out ht HX.out).mono ?_
          rintro e w' ⟨rfl, hr, hT⟩
          have HR := Lib.hid hr
          have HT := Lib.hid hT
          have bd := bad_of hr
          clear hr hT
          go_wp2_with fail
          refine (rfail_c HR.out).mono ?_
          rintro e w' ⟨rfl, hr, hT⟩
          have HR2 := Lib.hid hr
          have HT2 := Lib.hid (HT.out.trans hT)
          have bdHR2 := bad_of hr
          clear hr hT
          go_wp2
          go_ret
          exact ⟨rfl, HR2.out, HT2.out⟩
      · by_cases h3 : v < 128
        · rw [if_neg (by omega)] at e1
          have N1 := Lib.hid vlt
          clear vlt
          by_cases h2 : (v : Int) ≤ mz
          · rw [e1]
            clear e1
            go_enter Try.func58, Try.ntmps58
            go_wp2_with fail
            refine (number_at E0.out rfl (by omega) HS.out ht HX.out).mono ?_
            rintro e w' ⟨rfl, hr, hT⟩
            have HR := Lib.hid hr
            have HT := Lib.hid hT
            have bd := bad_of hr
            clear hr hT
            go_wp2_with fail
            refine (number_at HV.out (by omega) (by omega) HR.out ht TL.out).mono ?_
            rintro e w' ⟨rfl, hr, hT⟩
            have HR2 := Lib.hid hr
            have HT2 := Lib.hid (HT.out.trans hT)
            have bd2 := bad_of hr
            clear hr hT
            go_wp2_with fail
            refine (rfail_c HR2.out).mono ?_
            rintro e w' ⟨rfl, hr, hT⟩
            have HR3 := Lib.hid hr
            have HT3 := Lib.hid (HT2.out.trans hT)
            have bdHR3 := bad_of hr
            clear hr hT
            go_wp2
            go_ret
            exact ⟨rfl, HR3.out, HT3.out⟩
          · rw [e1]
            clear e1
            go_enter Try.func58, Try.ntmps58
            go_wp2_with fail
            refine (number_at E0.out rfl (by omega) HS.out ht HX.out).mono ?_
            rintro e w' ⟨rfl, hr, hT⟩
            have HR := Lib.hid hr
            have HT := Lib.hid hT
            have bd := bad_of hr
            clear hr hT
            go_wp2_with fail
            refine (number_at HV.out (by omega) (by omega) HR.out ht TL.out).mono ?_
            rintro e w' ⟨rfl, hr, hT⟩
            have HR2 := Lib.hid hr
            have HT2 := Lib.hid (HT.out.trans hT)
            have bd2 := bad_of hr
            clear hr hT
            go_wp2_with fail
            refine (rfail_c HR2.out).mono ?_
            rintro e w' ⟨rfl, hr, hT⟩
            have HR3 := Lib.hid hr
            have HT3 := Lib.hid (HT2.out.trans hT)
            have bdHR3 := bad_of hr
            clear hr hT
            go_wp2_with fail
            refine (rfail_c HR3.out).mono ?_
            rintro e w' ⟨rfl, hr, hT⟩
            have HR4 := Lib.hid hr
            have HT4 := Lib.hid (HT3.out.trans hT)
            have bdHR4 := bad_of hr
            clear hr hT
            go_wp2
            go_ret
            exact ⟨rfl, HR4.out, HT4.out⟩
        · by_cases h4 : Cd.wid v = b.toNat - 128
          · have n1 : ((Cd.wid v : Int) == ((b.toNat : Int) - 128)) = true := by simp; omega
            have n2 : ((Cd.wid v : Int) != ((b.toNat : Int) - 128)) = false := by simp; omega
            have hs2 : s2.isSome = true := by
              cases s2 with
              | none => have := S0.out rfl; omega
              | some _ => rfl
            obtain ⟨l2, rfl⟩ := Option.isSome_iff_exists.1 hs2
            by_cases h2 : (v : Int) ≤ mz
            · rw [if_pos ⟨rfl, by omega, h4, by omega⟩] at e1
              have N1 := Lib.hid vlt
              have N4 := Lib.hid h4
              clear vlt hs2 h4
              rw [e1]
              clear e1
              go_enter Try.func58, Try.ntmps58
              go_wp2_with fail
              refine (number_at E0.out rfl (by omega) HS.out ht HX.out).mono ?_
              rintro e w' ⟨rfl, hr, hT⟩
              have HR := Lib.hid hr
              have HT := Lib.hid hT
              have bd := bad_of hr
              clear hr hT
              go_wp2_with fail
              refine (number_at HV.out (by omega) (by omega) HR.out ht TL.out).mono ?_
              rintro e w' ⟨rfl, hr, hT⟩
              have HR2 := Lib.hid hr
              have HT2 := Lib.hid (HT.out.trans hT)
              have bd2 := bad_of hr
              clear hr hT
              go_wp2_with (go_at_call 105; refine (wide_c _ _ (by omega)).mono ?_; rintro e w' ⟨rfl, rfl⟩)
              go_ret
              exact ⟨rfl, HR2.out, HT2.out⟩
            · rw [if_neg (by omega)] at e1
              have N1 := Lib.hid vlt
              have N4 := Lib.hid h4
              clear vlt hs2 h4
              rw [e1]
              clear e1
              go_enter Try.func58, Try.ntmps58
              go_wp2_with fail
              refine (number_at E0.out rfl (by omega) HS.out ht HX.out).mono ?_
              rintro e w' ⟨rfl, hr, hT⟩
              have HR := Lib.hid hr
              have HT := Lib.hid hT
              have bd := bad_of hr
              clear hr hT
              go_wp2_with fail
              refine (number_at HV.out (by omega) (by omega) HR.out ht TL.out).mono ?_
              rintro e w' ⟨rfl, hr, hT⟩
              have HR2 := Lib.hid hr
              have HT2 := Lib.hid (HT.out.trans hT)
              have bd2 := bad_of hr
              clear hr hT
              go_wp2_with (go_at_call 105; refine (wide_c _ _ (by omega)).mono ?_; rintro e w' ⟨rfl, rfl⟩)
              refine (rfail_c HR2.out).mono ?_
              rintro e w' ⟨rfl, hr, hT⟩
              have HR3 := Lib.hid hr
              have HT3 := Lib.hid (HT2.out.trans hT)
              have bdHR3 := bad_of hr
              clear hr hT
              go_wp2
              go_ret
              exact ⟨rfl, HR3.out, HT3.out⟩
          · have n1 : ((Cd.wid v : Int) == ((b.toNat : Int) - 128)) = false := by simp; omega
            have n2 : ((Cd.wid v : Int) != ((b.toNat : Int) - 128)) = true := by simp; omega
            rw [if_neg (by omega)] at e1
            have N1 := Lib.hid vlt
            clear vlt
            by_cases h2 : (v : Int) ≤ mz
            · rw [e1]
              clear e1
              go_enter Try.func58, Try.ntmps58
              go_wp2_with fail
              refine (number_at E0.out rfl (by omega) HS.out ht HX.out).mono ?_
              rintro e w' ⟨rfl, hr, hT⟩
              have HR := Lib.hid hr
              have HT := Lib.hid hT
              have bd := bad_of hr
              clear hr hT
              go_wp2_with fail
              refine (number_at HV.out (by omega) (by omega) HR.out ht TL.out).mono ?_
              rintro e w' ⟨rfl, hr, hT⟩
              have HR2 := Lib.hid hr
              have HT2 := Lib.hid (HT.out.trans hT)
              have bd2 := bad_of hr
              clear hr hT
              go_wp2_with (go_at_call 105; refine (wide_c _ _ (by omega)).mono ?_; rintro e w' ⟨rfl, rfl⟩)
              refine (rfail_c HR2.out).mono ?_
              rintro e w' ⟨rfl, hr, hT⟩
              have HR3 := Lib.hid hr
              have HT3 := Lib.hid (HT2.out.trans hT)
              have bdHR3 := bad_of hr
              clear hr hT
              go_wp2
              go_ret
              exact ⟨rfl, HR3.out, HT3.out⟩
            · rw [e1]
              clear e1
              go_enter Try.func58, Try.ntmps58
              go_wp2_with fail
              refine (number_at E0.out rfl (by omega) HS.out ht HX.out).mono ?_
              rintro e w' ⟨rfl, hr, hT⟩
              have HR := Lib.hid hr
              have HT := Lib.hid hT
              have bd := bad_of hr
              clear hr hT
              go_wp2_with fail
              refine (number_at HV.out (by omega) (by omega) HR.out ht TL.out).mono ?_
              rintro e w' ⟨rfl, hr, hT⟩
              have HR2 := Lib.hid hr
              have HT2 := Lib.hid (HT.out.trans hT)
              have bd2 := bad_of hr
              clear hr hT
              go_wp2_with (go_at_call 105; refine (wide_c _ _ (by omega)).mono ?_; rintro e w' ⟨rfl, rfl⟩)
              refine (rfail_c HR2.out).mono ?_
              rintro e w' ⟨rfl, hr, hT⟩
              have HR3 := Lib.hid hr
              have HT3 := Lib.hid (HT2.out.trans hT)
              have bdHR3 := bad_of hr
              clear hr hT
              go_wp2_with fail
              refine (rfail_c HR3.out).mono ?_
              rintro e w' ⟨rfl, hr, hT⟩
              have HR4 := Lib.hid hr
              have HT4 := Lib.hid (HT3.out.trans hT)
              have bdHR4 := bad_of hr
              clear hr hT
              go_wp2
              go_ret
              exact ⟨rfl, HR4.out, HT4.out⟩
end

section
open Go.RowKit

theorem zag_odd2 {x : Nat} (hx : x < 18446744073709551616) (h : ¬ x % 2 = 0) : wrap64 (wrap64 (-wrap64 (IntKind.u64.wrap ((x : Int) / 2))) - 1) = Cd.zag x := zag_odd hx (by omega)
theorem zag_even2 {x : Nat} (hx : x < 18446744073709551616) (h : x % 2 = 0) : wrap64 (IntKind.u64.wrap ((x : Int) / 2)) = Cd.zag x := zag_even hx (by omega)

set_option maxHeartbeats 1000000 in
set_option maxRecDepth 100000 in
theorem rF_rr {B p : Nat} {tb : TypeId} {w : World} {s : Option (List UInt8)} (h : RS 81 B tb w p s) (ht : tb ≠ 81) (hl : ∀ l, s = some l → l.length ≤ 1099511627776) :
    Calls Try.prog 107 #[.pointer (some ⟨p, 0, none⟩)] w fun e w' => e = .returned (.float .f64 (Cd.rdF s).1) ∧ RS 81 B tb w' p (Cd.rdF s).2 ∧ Tch B [81] w w' := by
  obtain ⟨x, s2, hx⟩ : ∃ x s2, Cd.rdW 8 s = (x, s2) := ⟨_, _, rfl⟩
  have xl : x < 18446744073709551616 := by have := Cd.rdW_lt 8 s; rw [hx] at this; exact this
  have HX := Lib.hid hx
  have XL := Lib.hid xl
  have HS := Lib.hid h
  have HLn := Lib.hid hl
  clear h hl xl
  cases s2 with
  | none =>
    have e1 : Cd.rdF s = (0, none) := by unfold Cd.rdF; simp only [hx]
    rw [e1]
    clear e1 hx
    go_enter Try.func107, Try.ntmps107
    go_wp2_with fail
    refine (number_at HX.out rfl (by omega) HS.out ht HLn.out).mono ?_
    rintro e w' ⟨rfl, hr, hT⟩
    have HR := Lib.hid hr
    have HT := Lib.hid hT
    have bd := bad_of hr
    clear hr hT
    go_wp2
    go_ret
    exact ⟨rfl, HR.out, HT.out⟩
  | some t =>
    cases hf : Fl.fit (x : Int)
    · have e1 : Cd.rdF s = (0, none) := by unfold Cd.rdF; simp [hx, hf]
      rw [e1]
      clear e1 hx
      go_enter Try.func107, Try.ntmps107
      go_wp2_with fail
      refine (number_at HX.out rfl (by omega) HS.out ht HLn.out).mono ?_
      rintro e w' ⟨rfl, hr, hT⟩
      have HR := Lib.hid hr
      have HT := Lib.hid hT
      have bd := bad_of hr
      clear hr hT
      go_wp2_with fail
      refine (refOf_c _ _ (by omega) (by have := XL.out; omega)).mono ?_
      rintro e w1 ⟨rfl, hb⟩
      have HR1 := Lib.hid (HR.out.below hb)
      have HT1 := Lib.hid (HT.out.trans (Tch.of_below hb HR.out.size [81]))
      clear hb
      go_wp2_with (go_at_call 104; refine (rfail_c HR1.out).mono ?_; rintro e w' ⟨rfl, hr3, ht3⟩; have HR3 := Lib.hid hr3; have HT3 := Lib.hid ht3; clear hr3 ht3)
      go_ret
      exact ⟨rfl, HR3.out, HT1.out.trans HT3.out⟩
    · have e1 : Cd.rdF s = (Fl.wd (x : Int), some t) := by unfold Cd.rdF; simp [hx, hf]
      rw [e1]
      clear e1 hx
      go_enter Try.func107, Try.ntmps107
      go_wp2_with fail
      refine (number_at HX.out rfl (by omega) HS.out ht HLn.out).mono ?_
      rintro e w' ⟨rfl, hr, hT⟩
      have HR := Lib.hid hr
      have HT := Lib.hid hT
      have bd := bad_of hr
      clear hr hT
      go_wp2_with fail
      refine (refOf_c _ _ (by omega) (by have := XL.out; omega)).mono ?_
      rintro e w1 ⟨rfl, hb⟩
      have HR1 := Lib.hid (HR.out.below hb)
      have HT1 := Lib.hid (HT.out.trans (Tch.of_below hb HR.out.size [81]))
      clear hb
      go_wp2
      go_ret
      exact ⟨rfl, HR1.out, HT1.out⟩

set_option maxHeartbeats 2000000 in
set_option maxRecDepth 100000 in
theorem rB_rr {B p : Nat} {tb : TypeId} {w : World} {s : Option (List UInt8)} {mz : Int} (h : RS 81 B tb w p s) (ht : tb ≠ 81) (hl : ∀ l, s = some l → l.length ≤ 1099511627776) (m0 : 0 ≤ mz) (m1 : mz ≤ 1099511627776) :
    Calls Try.prog 59 #[.pointer (some ⟨p, 0, none⟩), .int .i64 mz] w (RBOk 81 B tb p (Cd.rdB mz.toNat s).1 (Cd.rdB mz.toNat s).2 w) := by
  obtain ⟨x, s2, hx⟩ : ∃ x s2, Cd.rdN mz.toNat s = (x, s2) := ⟨_, _, rfl⟩
  have xl : x ≤ 1099511627776 := by have := (Cd.rdN_lt mz.toNat s).2; rw [hx] at this; simp only [] at this; omega
  have l2 : ∀ l, s2 = some l → l.length ≤ 1099511627776 := by
    intro l e
    subst e
    cases s with
    | none => simp [Cd.rdN] at hx
    | some l0 =>
      have q := (Cd.read_num hx).1
      have := hl l0 rfl
      rw [q, List.length_append] at this
      omega
  have e1 := rdB_eq mz.toNat s
  rw [hx] at e1
  rw [e1]
  have HX := Lib.hid hx
  have HS := Lib.hid h
  have HLn := Lib.hid hl
  have hB := h.size
  clear h hl hx e1
  obtain ⟨i0, hi, iz0, iz1, iz2⟩ := info_parts Try.infoU8
  have C : ∀ w, RS 81 B tb w p s → Calls Try.prog 58 #[.pointer (some ⟨p, 0, none⟩), .int .u64 mz] w fun e w' => e = .returned (.int .u64 (x : Int)) ∧ RS 81 B tb w' p s2 ∧ Tch B [81] w w' := by
    intro w h
    have q := rN_rr (mz := mz) h ht HLn.out m0
    rw [HX.out] at q
    exact q
  have C := Lib.hid C
  cases s2 with
  | none =>
    go_enter Try.func59, Try.ntmps59
    go_wp2_with fail
    refine (C.out _ HS.out).mono ?_
    rintro e w' ⟨rfl, hr, hT⟩
    have HR := Lib.hid hr
    have HT := Lib.hid hT
    have bd := bad_of hr
    clear hr hT
    go_wp2_with (go_at_call 104; refine (rfail_c HR.out).mono ?_; rintro e w' ⟨rfl, hr3, ht3⟩; have HR3 := Lib.hid hr3; have HT3 := Lib.hid ht3; clear hr3 ht3)
    go_ret
    exact ⟨none, 0, 0, rfl, World.ownsRow_nil _ _ _ _, HR3.out, HT.out.trans HT3.out⟩
  | some l =>
    have ll := l2 l rfl
    clear l2
    by_cases hn : x ≤ l.length
    · go_enter Try.func59, Try.ntmps59
      go_wp2_with fail
      refine (C.out _ HS.out).mono ?_
      rintro e w' ⟨rfl, hr, hT⟩
      have bd := bad_of hr
      have HT := Lib.hid hT
      have HR := Lib.hid hr
      have hz := hT.size
      obtain ⟨hBp, A, c, hc, hp, hL⟩ := hr
      have c1 := cell_fst hp
      have HP := Lib.hid hp
      have HL := Lib.hid hL
      have tkl : (l.take x).length = x := by rw [List.length_take]; omega
      have TKL := Lib.hid tkl
      clear hp hL hT tkl
      go_wp2_with (at_builtin; refine wpList_app _ rfl _ _ 47 rfl w'.heap.size 5 i0 (.int .u8 0) 1 1 Try.underlying47 hi iz0 iz1 iz2 rfl (by decide) _ 0 [] rfl (World.ownsRow_nil _ _ _ _) B A x c (bcells (l.take x)) tb rfl (by rw [bcells_len, TKL.out]; omega) (by rw [← bcells_take]; exact HL.out.take x) (bcells_one _) (by unfold maxLen; omega) (by omega) (Nat.le_refl _) ?_)
      intro v' w1 hown' hgrow _
      obtain ⟨A2, k2, rfl⟩ := own_slice hown'
      have hb := app_below0 (World.ownsRow_nil w' w'.heap.size 5 1) hgrow (Nat.le_refl _)
      have hr1 := HR.out.below hb
      have HT1 := Lib.hid (HT.out.trans (Tch.of_below hb (by omega) [81]))
      have HO := Lib.hid (own_less hown' (b := w.heap.size) hz)
      have hp1 := hb.block p (lt_of_block HP.out)
      rw [HP.out] at hp1
      have d1 := cell_fst hp1
      have g1 := blk_free hp1 0
      have HP1 := Lib.hid hp1
      have HL1 := Lib.hid (HL.out.below (by omega) hb)
      clear hown' hgrow hb hr1 hp1 c1
      go_wp2
      all_goals go_ret
      · have hcx : c = x := by assumption
        have hd : l.drop x = [] := List.drop_eq_nil_of_le (by omega)
        have q := number_end (n := x) (c1 := 0) (A1 := A) hBp ht HP1.out rfl hn (by omega) (by rw [hd]; exact Lies.nil)
        have e : tk x (some l) = l.take x := by simp [tk, hn]
        rw [e]
        exact ⟨A2, x, k2, rfl, by rw [TKL.out]; exact own_far HO.out HP1.out (by decide) _, q.1, HT1.out.trans q.2⟩
      · have hcx : ¬ c = x := by assumption
        have q0 := HL1.out.cut x c (by rw [bcells_len]; omega)
        rw [if_neg hcx, bcells_drop] at q0
        have q := number_end (n := x) (c1 := c - x) hBp ht HP1.out rfl hn (by omega) q0
        have e : tk x (some l) = l.take x := by simp [tk, hn]
        rw [e]
        exact ⟨A2, x, k2, rfl, by rw [TKL.out]; exact own_far HO.out HP1.out (by decide) _, q.1, HT1.out.trans q.2⟩
    · have e2 : tk x (some l) = [] := by simp [tk, hn]
      have e3 : (Cd.rdW x (some l)).2 = none := by simp [Cd.rdW, hn]
      rw [e2, e3]
      clear e2 e3
      go_enter Try.func59, Try.ntmps59
      go_wp2_with fail
      refine (C.out _ HS.out).mono ?_
      rintro e w' ⟨rfl, hr, hT⟩
      have bd := bad_of hr
      have HT := Lib.hid hT
      have HR := Lib.hid hr
      obtain ⟨A, c, hc0, c10⟩ := lst_of hr
      have c1 : w'.cell? ⟨p, 0, none⟩ = some (.slice A l.length c) := c10
      clear hr hT hc0 c10
      go_wp2_with (go_at_call 104; refine (rfail_c HR.out).mono ?_; rintro e w' ⟨rfl, hr3, ht3⟩; have HR3 := Lib.hid hr3; have HT3 := Lib.hid ht3; clear hr3 ht3)
      go_ret
      exact ⟨none, 0, 0, rfl, World.ownsRow_nil _ _ _ _, HR3.out, HT.out.trans HT3.out⟩

set_option maxHeartbeats 1000000 in
theorem rG_rr {B p : Nat} {tb : TypeId} {w : World} {s : Option (List UInt8)} (h : RS 81 B tb w p s) (ht : tb ≠ 81) (hl : ∀ l, s = some l → l.length ≤ 1099511627776) :
    Calls Try.prog 106 #[.pointer (some ⟨p, 0, none⟩)] w fun e w' => e = .returned (.bool (Cd.rdG s).1) ∧ RS 81 B tb w' p (Cd.rdG s).2 ∧ Tch B [81] w w' := by
  have HS := Lib.hid h
  have HLn := Lib.hid hl
  have q := Cd.rdG_num s
  have e1 : (Cd.rdG s).1 = ((Cd.rdN 1 s).1 == 1) := by rw [← q]
  have e2 : (Cd.rdG s).2 = (Cd.rdN 1 s).2 := by rw [← q]
  have n1 : (((Cd.rdN 1 s).1 : Int) == 1) = (Cd.rdG s).1 := by rw [e1, Bool.eq_iff_iff]; simp; omega
  have N1 := Lib.hid n1
  rw [e2]
  clear h hl q e1 e2 n1
  go_enter Try.func106, Try.ntmps106
  go_wp2_with fail
  refine (rN_rr (mz := 1) HS.out ht HLn.out (by omega)).mono ?_
  rintro e w' ⟨rfl, hr, hT⟩
  have HR := Lib.hid hr
  have HT := Lib.hid hT
  clear hr hT
  go_wp2
  go_ret
  exact ⟨ret_bool N1.out, HR.out, HT.out⟩

theorem end_rr {B p : Nat} {tb : TypeId} {w : World} {s : Option (List UInt8)} (h : RS 81 B tb w p s) :
    Calls Try.prog 61 #[.pointer (some ⟨p, 0, none⟩)] w fun e w' => e = .returned (.int .i64 (endOf s)) ∧ w = w' := by
  cases s with
  | none =>
    have b1 := cell_snd h.2
    clear h
    go_enter Try.func61, Try.ntmps61
    go_wp2
    go_ret
    exact ⟨rfl, rfl⟩
  | some l =>
    obtain ⟨_, A, c, _, hp, _⟩ := h
    have c1 := cell_fst hp
    have b1 := cell_snd hp
    clear hp
    cases l with
    | nil =>
      have c2 : w.cell? ⟨p, 0, none⟩ = some (.slice A 0 c) := c1
      clear c1
      go_enter Try.func61, Try.ntmps61
      go_wp2
      go_ret
      exact ⟨rfl, rfl⟩
    | cons x t =>
      have c2 : w.cell? ⟨p, 0, none⟩ = some (.slice A (t.length + 1) c) := c1
      clear c1
      go_enter Try.func61, Try.ntmps61
      go_wp2
      go_ret
      exact ⟨rfl, rfl⟩
end
end Go.Proofs.Ytbgdmmemahfpbaa
