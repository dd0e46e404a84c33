/- Stage 9: alike: texts, lists, tasks, states (written by wip/gen9eq.py). -/
import Derived.Test.YtbgdmmemahfpbaaTw
import Derived.Test.YtbgdmmemahfpbaaFo
namespace Go.Proofs.Ytbgdmmemahfpbaa
open Go.RowKit Go.Lib
set_option maxRecDepth 100000

theorem take_nxt {α : Type} {l : List α} {k : Nat} {x : α} (h : l[k]? = some x) : l.take (k + 1) = l.take k ++ [x] := by
  obtain ⟨q1, q2⟩ := List.getElem?_eq_some_iff.1 h
  rw [List.take_succ_eq_append_getElem q1, q2]

set_option maxHeartbeats 1000000 in
theorem refSameTags_c {A A2 : Option Addr} {n c n2 c2 : Nat} {ls ks : List (List UInt8)} {w : World} (h : GL w A ls) (h2 : GL w A2 ks) (hn : n = ls.length) (hn2 : n2 = ks.length) (hs : n ≤ 1000000) :
    Calls Try.prog 46 #[.slice A n c, .slice A2 n2 c2] w fun e w' => e = .returned (.bool (decide (ls = ks))) ∧ ∃ j, w' = w.drewN j := by
  have H := Lib.hid h
  have H2 := Lib.hid h2
  have HN := Lib.hid hn
  have HN2 := Lib.hid hn2
  clear h h2 hn hn2
  by_cases hl : n = n2
  · subst hl
    have HL := Lib.hid (HN.out.symm.trans HN2.out)
    go_enter Try.func46, Try.ntmps46
    go_wp2_with fail
    go_loopw [13] (fun i wr => ∃ k j : Nat, k ≤ n ∧ i = .int .i64 k ∧ ls.take k = ks.take k ∧ wr = w.drewN j) (fun i _ => n - (intOf i).toNat)
    case atStart => exact ⟨0, 0, Nat.zero_le _, rfl, rfl, rfl⟩
    case round =>
      obtain ⟨k, j, hk, rfl, he, rfl⟩ := hrel
      have HE := Lib.hid he
      clear he
      by_cases hlt : k < n
      · obtain ⟨ad, m, rfl, hm, hc⟩ := H.out.at_ (k := k) (by rw [← HN.out]; exact hlt)
        obtain ⟨ad2, m2, rfl, hm2, hc2⟩ := H2.out.at_ (k := k) (by rw [← HN2.out]; exact hlt)
        have HM := Lib.hid hm
        have HM2 := Lib.hid hm2
        clear hm hm2
        have k0 : 0 ≤ (k : Int) := by omega
        have k1 : (k : Int) < (n : Int) := by omega
        by_cases eq : m = m2
        · have EQ := Lib.hid eq
          have q1 : (m == m2) = true := by simp [eq]
          have q2 : (m != m2) = false := by simp [eq]
          clear eq
          go_wp2_with fail
          go_region
          go_wp2
          go_roundw
          case rel => exact ⟨k + 1, j + 1, by omega, by go_num, by rw [take_nxt HM.out, take_nxt HM2.out, HE.out, EQ.out], rfl⟩
          case measure => simp [intOf]; omega
        · have NE : Hid (¬ ls = ks) := Lib.hid fun e => eq (by
            have e1 := congrArg (·[k]?) e
            simp only [HM.out, HM2.out, Option.some.injEq] at e1
            exact e1)
          have q1 : (m == m2) = false := by simp [eq]
          have q2 : (m != m2) = true := by simp [eq]
          all_goals
            clear eq
            go_wp2_with fail
            go_region
            go_wp2
            go_ret
            exact ⟨ret_bool (by rw [decide_eq_false NE.out]), j + 1, rfl⟩
      · obtain rfl : k = n := by omega
        have HE2 := HE.out
        rw [HN.out, List.take_length, HL.out, List.take_length] at HE2
        have HE3 := Lib.hid HE2
        clear HE2
        go_wp2
        go_ret
        exact ⟨ret_bool (by rw [decide_eq_true HE3.out]), j, rfl⟩
  · have hl' : ¬ ls = ks := fun e => hl (by rw [HN.out, HN2.out, e])
    have HL := Lib.hid hl'
    clear hl'
    go_enter Try.func46, Try.ntmps46
    go_wp2
    go_ret
    exact ⟨ret_bool (by rw [decide_eq_false HL.out]), 0, rfl⟩

set_option maxHeartbeats 1000000 in
theorem equalS_c {A A2 : Option Addr} {n c n2 c2 : Nat} {ls ks : List (List UInt8)} {w : World} (h : GL w A ls) (h2 : GL w A2 ks) (hn : n = ls.length) (hn2 : n2 = ks.length) (hs : n ≤ 1000000) :
    Calls Try.prog 93 #[.slice A n c, .slice A2 n2 c2] w fun e w' => e = .returned (.bool (decide (ls = ks))) ∧ ∃ j, w' = w.drewN j := by
  have H := Lib.hid h
  have H2 := Lib.hid h2
  have HN := Lib.hid hn
  have HN2 := Lib.hid hn2
  clear h h2 hn hn2
  by_cases hl : n = n2
  · subst hl
    have HL := Lib.hid (HN.out.symm.trans HN2.out)
    go_enter Try.func93, Try.ntmps93
    go_wp2_with fail
    go_loopw [13] (fun i wr => ∃ k j : Nat, k ≤ n ∧ i = .int .i64 k ∧ ls.take k = ks.take k ∧ wr = w.drewN j) (fun i _ => n - (intOf i).toNat)
    case atStart => exact ⟨0, 0, Nat.zero_le _, rfl, rfl, rfl⟩
    case round =>
      obtain ⟨k, j, hk, rfl, he, rfl⟩ := hrel
      have HE := Lib.hid he
      clear he
      by_cases hlt : k < n
      · obtain ⟨ad, m, rfl, hm, hc⟩ := H.out.at_ (k := k) (by rw [← HN.out]; exact hlt)
        obtain ⟨ad2, m2, rfl, hm2, hc2⟩ := H2.out.at_ (k := k) (by rw [← HN2.out]; exact hlt)
        have HM := Lib.hid hm
        have HM2 := Lib.hid hm2
        clear hm hm2
        have k0 : 0 ≤ (k : Int) := by omega
        have k1 : (k : Int) < (n : Int) := by omega
        by_cases eq : m = m2
        · have EQ := Lib.hid eq
          have q1 : (m == m2) = true := by simp [eq]
          have q2 : (m != m2) = false := by simp [eq]
          clear eq
          go_wp2_with fail
          go_region
          go_wp2
          go_roundw
          case rel => exact ⟨k + 1, j + 1, by omega, by go_num, by rw [take_nxt HM.out, take_nxt HM2.out, HE.out, EQ.out], rfl⟩
          case measure => simp [intOf]; omega
        · have NE : Hid (¬ ls = ks) := Lib.hid fun e => eq (by
            have e1 := congrArg (·[k]?) e
            simp only [HM.out, HM2.out, Option.some.injEq] at e1
            exact e1)
          have q1 : (m == m2) = false := by simp [eq]
          have q2 : (m != m2) = true := by simp [eq]
          all_goals
            clear eq
            go_wp2_with fail
            go_region
            go_wp2
            go_ret
            exact ⟨ret_bool (by rw [decide_eq_false NE.out]), j + 1, rfl⟩
      · obtain rfl : k = n := by omega
        have HE2 := HE.out
        rw [HN.out, List.take_length, HL.out, List.take_length] at HE2
        have HE3 := Lib.hid HE2
        clear HE2
        go_wp2
        go_ret
        exact ⟨ret_bool (by rw [decide_eq_true HE3.out]), j, rfl⟩
  · have hl' : ¬ ls = ks := fun e => hl (by rw [HN.out, HN2.out, e])
    have HL := Lib.hid hl'
    clear hl'
    go_enter Try.func93, Try.ntmps93
    go_wp2
    go_ret
    exact ⟨ret_bool (by rw [decide_eq_false HL.out]), 0, rfl⟩

theorem li_ne {a b : T9.Li} (h : ¬ a = b) : (¬ (a.id : Int) = (b.id : Int)) ∨ (a.id : Int) = (b.id : Int) ∧ ¬ a.name = b.name := by
  by_cases e : a.id = b.id
  · exact .inr ⟨by omega, fun f => h (T9.Li.ext_iff'.2 ⟨e, f⟩)⟩
  · exact .inl (by omega)

set_option maxHeartbeats 1000000 in
theorem refSameLists_c {A A2 : Option Addr} {n c n2 c2 : Nat} {ls ks : List (T9.Li)} {w : World} (h : LL w A ls) (h2 : LL w A2 ks) (hn : n = ls.length) (hn2 : n2 = ks.length) (hs : n ≤ 1000000) :
    Calls Try.prog 38 #[.slice A n c, .slice A2 n2 c2] w fun e w' => e = .returned (.bool (decide (ls = ks))) ∧ ∃ j, w' = w.drewN j := by
  have H := Lib.hid h
  have H2 := Lib.hid h2
  have HN := Lib.hid hn
  have HN2 := Lib.hid hn2
  clear h h2 hn hn2
  by_cases hl : n = n2
  · subst hl
    have HL := Lib.hid (HN.out.symm.trans HN2.out)
    go_enter Try.func38, Try.ntmps38
    go_wp2_with fail
    go_loopw [13] (fun i wr => ∃ k j : Nat, k ≤ n ∧ i = .int .i64 k ∧ ls.take k = ks.take k ∧ wr = w.drewN j) (fun i _ => n - (intOf i).toNat)
    case atStart => exact ⟨0, 0, Nat.zero_le _, rfl, rfl, rfl⟩
    case round =>
      obtain ⟨k, j, hk, rfl, he, rfl⟩ := hrel
      have HE := Lib.hid he
      clear he
      by_cases hlt : k < n
      · obtain ⟨ad, m, rfl, hm, hc, hd⟩ := H.out.at_ (k := k) (by rw [← HN.out]; exact hlt)
        obtain ⟨ad2, m2, rfl, hm2, hc2, hd2⟩ := H2.out.at_ (k := k) (by rw [← HN2.out]; exact hlt)
        have HM := Lib.hid hm
        have HM2 := Lib.hid hm2
        clear hm hm2
        have k0 : 0 ≤ (k : Int) := by omega
        have k1 : (k : Int) < (n : Int) := by omega
        by_cases eq : m = m2
        · have EQ := Lib.hid eq
          have q1 : (m.id : Int) = (m2.id : Int) := by rw [eq]
          have q2 : m.name = m2.name := by rw [eq]
          clear eq
          go_wp2_with fail
          go_region
          go_wp2
          go_roundw
          case rel => exact ⟨k + 1, j + 1, by omega, by go_num, by rw [take_nxt HM.out, take_nxt HM2.out, HE.out, EQ.out], rfl⟩
          case measure => simp [intOf]; omega
        · have NE : Hid (¬ ls = ks) := Lib.hid fun e => eq (by
            have e1 := congrArg (·[k]?) e
            simp only [HM.out, HM2.out, Option.some.injEq] at e1
            exact e1)
          rcases li_ne eq with q1 | ⟨q1, q2⟩
          all_goals
            clear eq
            go_wp2_with fail
            go_region
            go_wp2
            go_ret
            exact ⟨ret_bool (by rw [decide_eq_false NE.out]), j + 1, rfl⟩
      · obtain rfl : k = n := by omega
        have HE2 := HE.out
        rw [HN.out, List.take_length, HL.out, List.take_length] at HE2
        have HE3 := Lib.hid HE2
        clear HE2
        go_wp2
        go_ret
        exact ⟨ret_bool (by rw [decide_eq_true HE3.out]), j, rfl⟩
  · have hl' : ¬ ls = ks := fun e => hl (by rw [HN.out, HN2.out, e])
    have HL := Lib.hid hl'
    clear hl'
    go_enter Try.func38, Try.ntmps38
    go_wp2
    go_ret
    exact ⟨ret_bool (by rw [decide_eq_false HL.out]), 0, rfl⟩

set_option maxHeartbeats 1000000 in
theorem equalL_c {A A2 : Option Addr} {n c n2 c2 : Nat} {ls ks : List (T9.Li)} {w : World} (h : LL w A ls) (h2 : LL w A2 ks) (hn : n = ls.length) (hn2 : n2 = ks.length) (hs : n ≤ 1000000) :
    Calls Try.prog 47 #[.slice A n c, .slice A2 n2 c2] w fun e w' => e = .returned (.bool (decide (ls = ks))) ∧ ∃ j, w' = w.drewN j := by
  have H := Lib.hid h
  have H2 := Lib.hid h2
  have HN := Lib.hid hn
  have HN2 := Lib.hid hn2
  clear h h2 hn hn2
  by_cases hl : n = n2
  · subst hl
    have HL := Lib.hid (HN.out.symm.trans HN2.out)
    go_enter Try.func47, Try.ntmps47
    go_wp2_with fail
    go_loopw [13] (fun i wr => ∃ k j : Nat, k ≤ n ∧ i = .int .i64 k ∧ ls.take k = ks.take k ∧ wr = w.drewN j) (fun i _ => n - (intOf i).toNat)
    case atStart => exact ⟨0, 0, Nat.zero_le _, rfl, rfl, rfl⟩
    case round =>
      obtain ⟨k, j, hk, rfl, he, rfl⟩ := hrel
      have HE := Lib.hid he
      clear he
      by_cases hlt : k < n
      · obtain ⟨ad, m, rfl, hm, hc, hd⟩ := H.out.at_ (k := k) (by rw [← HN.out]; exact hlt)
        obtain ⟨ad2, m2, rfl, hm2, hc2, hd2⟩ := H2.out.at_ (k := k) (by rw [← HN2.out]; exact hlt)
        have HM := Lib.hid hm
        have HM2 := Lib.hid hm2
        clear hm hm2
        have k0 : 0 ≤ (k : Int) := by omega
        have k1 : (k : Int) < (n : Int) := by omega
        by_cases eq : m = m2
        · have EQ := Lib.hid eq
          have q1 : (m.id : Int) = (m2.id : Int) := by rw [eq]
          have q2 : m.name = m2.name := by rw [eq]
          clear eq
          go_wp2_with fail
          go_region
          go_wp2
          go_roundw
          case rel => exact ⟨k + 1, j + 1, by omega, by go_num, by rw [take_nxt HM.out, take_nxt HM2.out, HE.out, EQ.out], rfl⟩
          case measure => simp [intOf]; omega
        · have NE : Hid (¬ ls = ks) := Lib.hid fun e => eq (by
            have e1 := congrArg (·[k]?) e
            simp only [HM.out, HM2.out, Option.some.injEq] at e1
            exact e1)
          rcases li_ne eq with q1 | ⟨q1, q2⟩
          all_goals
            clear eq
            go_wp2_with fail
            go_region
            go_wp2
            go_ret
            exact ⟨ret_bool (by rw [decide_eq_false NE.out]), j + 1, rfl⟩
      · obtain rfl : k = n := by omega
        have HE2 := HE.out
        rw [HN.out, List.take_length, HL.out, List.take_length] at HE2
        have HE3 := Lib.hid HE2
        clear HE2
        go_wp2
        go_ret
        exact ⟨ret_bool (by rw [decide_eq_true HE3.out]), j, rfl⟩
  · have hl' : ¬ ls = ks := fun e => hl (by rw [HN.out, HN2.out, e])
    have HL := Lib.hid hl'
    clear hl'
    go_enter Try.func47, Try.ntmps47
    go_wp2
    go_ret
    exact ⟨ret_bool (by rw [decide_eq_false HL.out]), 0, rfl⟩
end Go.Proofs.Ytbgdmmemahfpbaa
