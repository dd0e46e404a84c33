/- Stage 9: titles and tags. -/
import Derived.Test.YtbgdmmemahfpbaaTp
namespace Go.Proofs.Ytbgdmmemahfpbaa
open Go.RowKit Go.Lib
set_option maxRecDepth 100000

namespace T9
def tc (c : UInt8) : Bool := decide (32 ≤ c.toNat ∧ c.toNat ≤ 126)
def gc (c : UInt8) : Bool := decide ((97 ≤ c.toNat ∧ c.toNat ≤ 122) ∨ (48 ≤ c.toNat ∧ c.toNat ≤ 57) ∨ c.toNat = 45)
def title (l : List UInt8) : Bool := decide (1 ≤ l.length ∧ l.length ≤ 60) && l.all tc
def tag (l : List UInt8) : Bool := decide (1 ≤ l.length ∧ l.length ≤ 16) && l.all gc
end T9
theorem str_at {l : List UInt8} {s : ByteArray} (hs : s = str l) : s.size = l.length ∧ ∀ (n : Nat) (h : n < s.size), ((s[n]'h).toNat : Int) = ((l[n]!).toNat : Int) := by
  subst hs
  refine ⟨rfl, fun n h => ?_⟩
  have h' : n < l.length := h
  rw [getElem!_pos l n h']
  rfl
theorem all_take {p : UInt8 → Bool} {l : List UInt8} {i : Nat} (hi : i < l.length) : (l.take (i + 1)).all p = ((l.take i).all p && p l[i]!) := by
  rw [List.take_succ_eq_append_getElem hi, List.all_append, getElem!_pos l i hi]
  simp

theorem titleChar_c (c : UInt8) (w : World) : Calls Try.prog 51 #[.int .u8 (c.toNat : Int)] w fun e w' => e = .returned (.bool (T9.tc c)) ∧ w = w' := by
  have hc := c.toNat_lt
  go_enter Try.func51, Try.ntmps51
  go_wp2
  all_goals
    go_ret
    exact ⟨ret_bool (by unfold T9.tc; rw [Bool.eq_iff_iff]; simp; try omega), rfl⟩
theorem tagChar_c (c : UInt8) (w : World) : Calls Try.prog 52 #[.int .u8 (c.toNat : Int)] w fun e w' => e = .returned (.bool (T9.gc c)) ∧ w = w' := by
  have hc := c.toNat_lt
  go_enter Try.func52, Try.ntmps52
  go_wp2
  all_goals
    go_ret
    exact ⟨ret_bool (by unfold T9.gc; rw [Bool.eq_iff_iff]; simp; try omega), rfl⟩

set_option maxHeartbeats 400000 in
theorem isText_c {f : Nat} {p : UInt8 → Bool} (hf : ∀ (c : UInt8) (w : World), Calls Try.prog f #[.int .u8 (c.toNat : Int)] w fun e w' => e = .returned (.bool (p c)) ∧ w = w')
    (eg : ∀ args w, (callFunc f args).run Try.prog w = .ok (.enter f args) w) (l : List UInt8) (hl : l.length ≤ 1000000) (k : Nat) (w : World) :
    Calls Try.prog 50 #[.string (str l), .int .i64 (k : Int), .func (.func f) #[] #[]] w fun e w' => e = .returned (.bool (decide (1 ≤ l.length ∧ l.length ≤ k) && l.all p)) ∧ w = w' := by
  obtain ⟨s, hs⟩ : ∃ s, s = str l := ⟨_, rfl⟩
  obtain ⟨sz, hb⟩ := str_at hs
  rw [← hs]
  clear hs
  have SZ := Lib.hid sz
  by_cases h0 : 1 ≤ l.length ∧ l.length ≤ k
  · have k1 : ¬ s.size = 0 := by omega
    have k2 : (s.size : Int) ≤ (k : Int) := by omega
    have k3 : ¬ ((k : Int) < (s.size : Int)) := by omega
    have H0 := Lib.hid h0
    have sm : s.size ≤ 1000000 := by omega
    clear sz h0 hl
    go_enter Try.func50, Try.ntmps50
    go_wp2
    go_loopw [19] (fun s19 wr => ∃ i : Nat, s19 = .int .i64 i ∧ i ≤ s.size ∧ Hid ((l.take i).all p = true) ∧ w = wr) (fun s19 _ => s.size - (intOf s19).toNat)
    case atStart => exact ⟨0, rfl, Nat.zero_le _, Lib.hid (by simp), rfl⟩
    case round =>
      obtain ⟨i, rfl, hi, ha, rfl⟩ := hrel
      by_cases hlt : i < s.size
      · have hltz : (i : Int) < (s.size : Int) := by omega
        have hit := Lib.hid (all_take (p := p) (l := l) (i := i) (by have := SZ.out; omega))
        have ba := hb i hlt
        obtain ⟨x, hx⟩ : ∃ x, x = l[i]! := ⟨_, rfl⟩
        rw [← hx] at hit ba
        clear hx
        have hc := hf x
        cases hp : p x with
        | true =>
          rw [hp] at hc
          have HP := Lib.hid hp
          clear hp hb hf
          go_wp2_with fail
          refine (hc _).mono ?_
          rintro e w' ⟨rfl, rfl⟩
          go_wp2
          go_roundw
          case rel => exact ⟨i + 1, by go_num, by omega, Lib.hid (by rw [hit.out, ha.out, HP.out]; rfl), by simp⟩
          case measure => simp [intOf]; omega
        | false =>
          rw [hp] at hc
          have HP := Lib.hid hp
          clear hp hb hf
          go_wp2_with fail
          refine (hc _).mono ?_
          rintro e w' ⟨rfl, rfl⟩
          go_wp2
          go_ret
          refine ⟨ret_bool ?_, rfl⟩
          have : l.all p = false := by
            rw [← List.take_append_drop (i + 1) l, List.all_append, hit.out, HP.out]
            simp
          rw [this]
          simp
      · obtain rfl : i = s.size := by omega
        have hltz : ¬ ((s.size : Int) < (s.size : Int)) := by omega
        go_wp2
        go_ret
        refine ⟨ret_bool ?_, rfl⟩
        have h1 := ha.out
        rw [SZ.out, List.take_length] at h1
        rw [h1]
        simp [H0.out]
  · have H0 := Lib.hid h0
    have R : (decide (1 ≤ l.length ∧ l.length ≤ k) && l.all p) = false := by simp [h0]
    rw [R]
    by_cases h1 : s.size = 0
    · have k1 : ((s.size : Int) == 0) = true := by simp [h1]
      clear sz h0 hl R h1
      go_enter Try.func50, Try.ntmps50
      go_wp2
      go_ret
      exact ⟨rfl, rfl⟩
    · have k1 : ((s.size : Int) == 0) = false := by simp [h1]
      have k2 : ((k : Int) < (s.size : Int)) := by omega
      clear sz h0 hl R
      go_enter Try.func50, Try.ntmps50
      go_wp2
      go_ret
      exact ⟨rfl, rfl⟩
theorem title_c (l : List UInt8) (hl : l.length ≤ 1000000) (w : World) : Calls Try.prog 20 #[.string (str l)] w fun e w' => e = .returned (.bool (T9.title l)) ∧ w = w' := by
  have T : Calls Try.prog 50 #[.string (str l), .int .i64 ((60 : Nat) : Int), .func (.func 51) #[] #[]] w fun e w' => e = .returned (.bool (T9.title l)) ∧ w = w' := isText_c titleChar_c (by intro args w; rfl) l hl 60 w
  obtain ⟨b, hb⟩ : ∃ b, b = T9.title l := ⟨_, rfl⟩
  rw [← hb] at T ⊢
  go_enter Try.func20, Try.ntmps20
  go_wp2_with (go_at_call 50; refine T.mono ?_; rintro e w' ⟨rfl, rfl⟩)
  go_ret
  exact ⟨ret_bool hb.symm, rfl⟩
theorem tag_c (l : List UInt8) (hl : l.length ≤ 1000000) (w : World) : Calls Try.prog 22 #[.string (str l)] w fun e w' => e = .returned (.bool (T9.tag l)) ∧ w = w' := by
  have T : Calls Try.prog 50 #[.string (str l), .int .i64 ((16 : Nat) : Int), .func (.func 52) #[] #[]] w fun e w' => e = .returned (.bool (T9.tag l)) ∧ w = w' := isText_c tagChar_c (by intro args w; rfl) l hl 16 w
  obtain ⟨b, hb⟩ : ∃ b, b = T9.tag l := ⟨_, rfl⟩
  rw [← hb] at T ⊢
  go_enter Try.func22, Try.ntmps22
  go_wp2_with (go_at_call 50; refine T.mono ?_; rintro e w' ⟨rfl, rfl⟩)
  go_ret
  exact ⟨ret_bool hb.symm, rfl⟩

set_option maxHeartbeats 400000 in
theorem refTitle_c (l : List UInt8) (hl : l.length ≤ 1000000) (w : World) : Calls Try.prog 21 #[.string (str l)] w fun e w' => e = .returned (.bool (T9.title l)) ∧ w = w' := by
  obtain ⟨s, hs⟩ : ∃ s, s = str l := ⟨_, rfl⟩
  obtain ⟨sz, hb⟩ := str_at hs
  rw [← hs]
  clear hs
  have SZ := Lib.hid sz
  have HB := Lib.hid hb
  have sm : s.size ≤ 1000000 := by omega
  clear sz hl hb
  go_enter Try.func21, Try.ntmps21
  go_wp2
  go_loopw [3] (fun s3 wr => ∃ i : Nat, s3 = .int .i64 i ∧ i ≤ s.size ∧ Hid ((l.take i).all T9.tc = true) ∧ w = wr) (fun s3 _ => s.size - (intOf s3).toNat)
  case atStart => exact ⟨0, rfl, Nat.zero_le _, Lib.hid (by simp), rfl⟩
  case round =>
    obtain ⟨i, rfl, hi, ha, rfl⟩ := hrel
    by_cases hlt : i < s.size
    · have hltz : (i : Int) < (s.size : Int) := by omega
      have hit := Lib.hid (all_take (p := T9.tc) (l := l) (i := i) (by have := SZ.out; omega))
      have ba := HB.out i hlt
      obtain ⟨x, hx⟩ : ∃ x, x = l[i]! := ⟨_, rfl⟩
      rw [← hx] at hit ba
      clear hx
      have W : (32 ≤ x.toNat ∧ x.toNat ≤ 126) ↔ T9.tc x = true := by unfold T9.tc; simp
      by_cases hp : 32 ≤ x.toNat ∧ x.toNat ≤ 126
      · have HP := Lib.hid (W.1 hp)
        have p1 : ¬ ((x.toNat : Int) < 32) := by omega
        have p2 : ¬ ((126 : Int) < (x.toNat : Int)) := by omega
        clear W hp
        go_wp2
        go_roundw
        case rel => exact ⟨i + 1, by go_num, by omega, Lib.hid (by rw [hit.out, ha.out, HP.out]; rfl), by simp⟩
        case measure => simp [intOf]; omega
      · have HP := Lib.hid (show T9.tc x = false by rw [← Bool.not_eq_true]; exact fun q => hp (W.2 q))
        have R : T9.title l = false := by
          have : l.all T9.tc = false := by
            rw [← List.take_append_drop (i + 1) l, List.all_append, hit.out, HP.out]
            simp
          unfold T9.title
          rw [this]
          simp
        have RH := Lib.hid R
        by_cases p1 : (x.toNat : Int) < 32
        · clear W hp R
          go_wp2
          go_ret
          exact ⟨ret_bool RH.out.symm, rfl⟩
        · have p2 : (126 : Int) < (x.toNat : Int) := by omega
          clear W hp R
          go_wp2
          go_ret
          exact ⟨ret_bool RH.out.symm, rfl⟩
    · obtain rfl : i = s.size := by omega
      have hltz : ¬ ((s.size : Int) < (s.size : Int)) := by omega
      have h1 := ha.out
      rw [SZ.out, List.take_length] at h1
      have HA := Lib.hid h1
      clear ha h1
      go_wp2
      all_goals
        go_ret
        exact ⟨ret_bool (by unfold T9.title; rw [HA.out]; have := SZ.out; rw [Bool.eq_iff_iff]; simp; omega), rfl⟩

set_option maxHeartbeats 400000 in
theorem refTag_c (l : List UInt8) (hl : l.length ≤ 1000000) (w : World) : Calls Try.prog 23 #[.string (str l)] w fun e w' => e = .returned (.bool (T9.tag l)) ∧ w = w' := by
  obtain ⟨s, hs⟩ : ∃ s, s = str l := ⟨_, rfl⟩
  obtain ⟨sz, hb⟩ := str_at hs
  rw [← hs]
  clear hs
  have SZ := Lib.hid sz
  have HB := Lib.hid hb
  have sm : s.size ≤ 1000000 := by omega
  clear sz hl hb
  go_enter Try.func23, Try.ntmps23
  go_wp2
  go_loopw [3] (fun s3 wr => ∃ i : Nat, s3 = .int .i64 i ∧ i ≤ s.size ∧ Hid ((l.take i).all T9.gc = true) ∧ w = wr) (fun s3 _ => s.size - (intOf s3).toNat)
  case atStart => exact ⟨0, rfl, Nat.zero_le _, Lib.hid (by simp), rfl⟩
  case round =>
    obtain ⟨i, rfl, hi, ha, rfl⟩ := hrel
    by_cases hlt : i < s.size
    · have hltz : (i : Int) < (s.size : Int) := by omega
      have hit := Lib.hid (all_take (p := T9.gc) (l := l) (i := i) (by have := SZ.out; omega))
      have ba := HB.out i hlt
      obtain ⟨x, hx⟩ : ∃ x, x = l[i]! := ⟨_, rfl⟩
      rw [← hx] at hit ba
      clear hx
      have W : ((97 ≤ x.toNat ∧ x.toNat ≤ 122) ∨ (48 ≤ x.toNat ∧ x.toNat ≤ 57) ∨ x.toNat = 45) ↔ T9.gc x = true := by unfold T9.gc; rw [decide_eq_true_iff]
      rcases (by omega : x.toNat < 45 ∨ x.toNat = 45 ∨ (45 < x.toNat ∧ x.toNat < 48) ∨ (48 ≤ x.toNat ∧ x.toNat ≤ 57) ∨ (57 < x.toNat ∧ x.toNat < 97) ∨ (97 ≤ x.toNat ∧ x.toNat ≤ 122) ∨ 122 < x.toNat) with k | k | k | k | k | k | k
      · have p1 : (x.toNat : Int) < 97 := by omega
        have p3 : (x.toNat : Int) < 48 := by omega
        have p5 : ((x.toNat : Int) == 45) = false := by simp; omega
        have HP : Hid (T9.gc x = false) := Lib.hid (by rw [← Bool.not_eq_true]; exact fun q => absurd (W.2 q) (by omega))
        have R : T9.tag l = false := by
          have : l.all T9.gc = false := by
            rw [← List.take_append_drop (i + 1) l, List.all_append, hit.out, HP.out]
            simp
          unfold T9.tag
          rw [this]
          simp
        have RH := Lib.hid R
        clear W k R
        go_wp2
        go_ret
        exact ⟨ret_bool RH.out.symm, rfl⟩
      · have p1 : (x.toNat : Int) < 97 := by omega
        have p3 : (x.toNat : Int) < 48 := by omega
        have p5 : ((x.toNat : Int) == 45) = true := by simp; omega
        have HP := Lib.hid (W.1 (by omega))
        clear W k
        go_wp2
        go_roundw
        case rel => exact ⟨i + 1, by go_num, by omega, Lib.hid (by rw [hit.out, ha.out, HP.out]; rfl), by simp⟩
        case measure => simp [intOf]; omega
      · have p1 : (x.toNat : Int) < 97 := by omega
        have p3 : (x.toNat : Int) < 48 := by omega
        have p5 : ((x.toNat : Int) == 45) = false := by simp; omega
        have HP : Hid (T9.gc x = false) := Lib.hid (by rw [← Bool.not_eq_true]; exact fun q => absurd (W.2 q) (by omega))
        have R : T9.tag l = false := by
          have : l.all T9.gc = false := by
            rw [← List.take_append_drop (i + 1) l, List.all_append, hit.out, HP.out]
            simp
          unfold T9.tag
          rw [this]
          simp
        have RH := Lib.hid R
        clear W k R
        go_wp2
        go_ret
        exact ⟨ret_bool RH.out.symm, rfl⟩
      · have p1 : (x.toNat : Int) < 97 := by omega
        have p3 : (48 : Int) ≤ (x.toNat : Int) := by omega
        have p4 : (x.toNat : Int) ≤ 57 := by omega
        have HP := Lib.hid (W.1 (by omega))
        clear W k
        go_wp2
        go_roundw
        case rel => exact ⟨i + 1, by go_num, by omega, Lib.hid (by rw [hit.out, ha.out, HP.out]; rfl), by simp⟩
        case measure => simp [intOf]; omega
      · have p1 : (x.toNat : Int) < 97 := by omega
        have p3 : (48 : Int) ≤ (x.toNat : Int) := by omega
        have p4 : (57 : Int) < (x.toNat : Int) := by omega
        have p4' : decide ((x.toNat : Int) ≤ 57) = false := by simp; omega
        have p5 : ((x.toNat : Int) == 45) = false := by simp; omega
        have HP : Hid (T9.gc x = false) := Lib.hid (by rw [← Bool.not_eq_true]; exact fun q => absurd (W.2 q) (by omega))
        have R : T9.tag l = false := by
          have : l.all T9.gc = false := by
            rw [← List.take_append_drop (i + 1) l, List.all_append, hit.out, HP.out]
            simp
          unfold T9.tag
          rw [this]
          simp
        have RH := Lib.hid R
        clear W k R
        go_wp2
        go_ret
        exact ⟨ret_bool RH.out.symm, rfl⟩
      · have p1 : (97 : Int) ≤ (x.toNat : Int) := by omega
        have p2 : (x.toNat : Int) ≤ 122 := by omega
        have HP := Lib.hid (W.1 (by omega))
        clear W k
        go_wp2
        go_roundw
        case rel => exact ⟨i + 1, by go_num, by omega, Lib.hid (by rw [hit.out, ha.out, HP.out]; rfl), by simp⟩
        case measure => simp [intOf]; omega
      · have p1 : (97 : Int) ≤ (x.toNat : Int) := by omega
        have p2 : (122 : Int) < (x.toNat : Int) := by omega
        have p2' : decide ((x.toNat : Int) ≤ 122) = false := by simp; omega
        have p3 : (48 : Int) ≤ (x.toNat : Int) := by omega
        have p4 : (57 : Int) < (x.toNat : Int) := by omega
        have p4' : decide ((x.toNat : Int) ≤ 57) = false := by simp; omega
        have p5 : ((x.toNat : Int) == 45) = false := by simp; omega
        have HP : Hid (T9.gc x = false) := Lib.hid (by rw [← Bool.not_eq_true]; exact fun q => absurd (W.2 q) (by omega))
        have R : T9.tag l = false := by
          have : l.all T9.gc = false := by
            rw [← List.take_append_drop (i + 1) l, List.all_append, hit.out, HP.out]
            simp
          unfold T9.tag
          rw [this]
          simp
        have RH := Lib.hid R
        clear W k R
        go_wp2
        go_ret
        exact ⟨ret_bool RH.out.symm, rfl⟩
    · obtain rfl : i = s.size := by omega
      have hltz : ¬ ((s.size : Int) < (s.size : Int)) := by omega
      have h1 := ha.out
      rw [SZ.out, List.take_length] at h1
      have HA := Lib.hid h1
      clear ha h1
      go_wp2
      all_goals
        go_ret
        exact ⟨ret_bool (by unfold T9.tag; rw [HA.out]; have := SZ.out; rw [Bool.eq_iff_iff]; simp; omega), rfl⟩
end Go.Proofs.Ytbgdmmemahfpbaa
