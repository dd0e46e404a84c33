/- Stage 13: which tasks hold, in the document's words; the order that a query asks for. -/
import Derived.Test.YtnhpkcphgdkdiaaGa
import Derived.StillTailTactics
namespace Go.Proofs.Ytnhpkcphgdkdiaa
set_option maxRecDepth 100000
set_option linter.unusedSimpArgs false
section
open Go.RowKit Go.Lib Go.Shelf Go.Sort
set_option maxRecDepth 100000 in
set_option maxHeartbeats 4000000 in
theorem refHolds13_c {m : MTk} {q : T9.Qr} {w : World} (hf : m.fine w) (hs : m.t.tags.length ≤ 1000000) : Calls Try.prog 9 #[.agg (encK m).toArray, .agg (qcells q)] w fun e w' => e = .returned (.bool (T9.holds q m.t)) ∧ Below w.heap.size w w' := by
  obtain ⟨⟨ti, tl, tt, td, tr, te, tg⟩, A4, c4⟩ := m
  obtain ⟨ql, qd, qt, qs, qw, qm⟩ := q
  unfold encK
  unfold qcells T9.holds
  dsimp only at hs ⊢
  obtain ⟨w1, hw1⟩ : ∃ u, w.alloc (.cells #[.int .u64 (ti : Int), .int .u64 (tl : Int), .string (str tt), .bool td, .float .f64 tr, .float .f64 te, .slice A4 tg.length c4] 32) = u := ⟨_, rfl⟩
  obtain ⟨lb, b1, z1⟩ := new_seven hw1
  obtain ⟨w2, hw2⟩ : ∃ u, w1.alloc (.cells #[.int .u64 (ql : Int), .int .i64 qd, .string (str qt), .int .i64 qs, .bool qw, .int .i64 qm] 28) = u := ⟨_, rfl⟩
  obtain ⟨pb, b2, z2⟩ := new_six13 hw2
  rw [z1] at pb
  have B2 : Hid (Below w.heap.size w w2) := Lib.hid (b1.trans (b2.mono (by omega)))
  have lb2 := blk_keep lb b2
  have FI : Hid (GL w2 A4 tg) := Lib.hid (hf.stay B2.out).gl
  obtain ⟨n, hn⟩ : ∃ n, tg.length = n := ⟨_, rfl⟩
  rw [hn] at lb2 hw1 hs ⊢
  have HN := Lib.hid hn
  have TD := show td = true ∨ td = false by cases td <;> simp
  have TE : (Hid (qt = []) ∧ qt.isEmpty = true) ∨ (Hid (¬ qt = []) ∧ qt.isEmpty = false) := by
    cases qt with
    | nil => exact .inl ⟨Lib.hid rfl, rfl⟩
    | cons x t => exact .inr ⟨Lib.hid (by simp), rfl⟩
  have HTE := Lib.hid TE
  obtain ⟨l0, l1, l2, l3, l4, l5, l6⟩ := seven_cells lb2
  obtain ⟨p0, p1, p2, p3, p4, p5⟩ := six_cells13 pb
  obtain ⟨b0, hb0⟩ : ∃ b, qt.isEmpty = b := ⟨_, rfl⟩
  have HB0 : Hid (decide (qt = []) = b0) := Lib.hid (by rw [← hb0]; cases qt <;> simp)
  clear lb b1 pb b2 z2 hf lb2 hn TE
  go_enter Try.func9, Try.ntmps9
  go_wp2_with fail
  go_loopw [5, 15] (fun s5 s15 wr => ∃ (k : Nat) (b : Bool), k ≤ n ∧ s15 = .int .i64 k ∧ s5 = .bool b ∧ Hid (b = (decide (qt = []) || decide (qt ∈ tg.take k))) ∧ wr = w2) (fun _ s15 _ => n - (intOf s15).toNat)
  case atStart => exact ⟨0, b0, Nat.zero_le _, rfl, rfl, Lib.hid (by rw [HB0.out]; simp), rfl⟩
  case round =>
    obtain ⟨k, b, hk, rfl, rfl, HE, rfl⟩ := hrel
    by_cases hlt : k < n
    · obtain ⟨ad, m, rfl, hm, hc⟩ := FI.out.at_ (k := k) (by rw [HN.out]; exact hlt)
      have HM := Lib.hid hm
      clear hm
      have k0 : 0 ≤ (k : Int) := by omega
      have k1 : (k : Int) < (n : Int) := by omega
      have NX : Hid (tg.take (k + 1) = tg.take k ++ [m]) := Lib.hid (take_nxt HM.out)
      cases b with
      | true =>
        go_wp2
        go_roundw
        case rel => exact ⟨k + 1, true, by omega, by go_num, rfl, Lib.hid (by
          have := HE.out
          rw [NX.out]
          simp only [List.mem_append, List.mem_singleton]
          rcases Bool.or_eq_true_iff.1 this.symm with z | z
          · rw [z]; rfl
          · rw [decide_eq_true (p := (qt ∈ tg.take k ∨ qt = m)) (.inl (of_decide_eq_true z))]; simp), by trivial⟩
        case measure => simp [intOf]; omega
      | false =>
        by_cases eq : m = qt
        · have q1 : (m == qt) = true := by simp [eq]
          have EQ := Lib.hid eq
          clear eq
          go_wp2
          go_roundw
          case rel => exact ⟨k + 1, true, by omega, by go_num, rfl, Lib.hid (by rw [NX.out, EQ.out]; simp), by trivial⟩
          case measure => simp [intOf]; omega
        · have q1 : (m == qt) = false := by simp [eq]
          have EQ := Lib.hid eq
          clear eq
          go_wp2
          go_roundw
          case rel => exact ⟨k + 1, false, by omega, by go_num, rfl, Lib.hid (by
            have := HE.out
            rw [NX.out]
            simp only [List.mem_append, List.mem_singleton]
            have e := EQ.out
            have z := Bool.or_eq_false_iff.1 this.symm
            rw [z.1, Bool.false_or, decide_eq_false (fun y => by
              rcases y with y | y
              · exact of_decide_eq_false z.2 y
              · exact e y.symm)]), by trivial⟩
          case measure => simp [intOf]; omega
    · obtain rfl : k = n := by omega
      have k1 : ¬ (k : Int) < (k : Int) := by omega
      have HF : Hid (T9.okTag qt tg = b) := Lib.hid (by
        have := HE.out
        rw [← HN.out, List.take_length] at this
        rw [this]; rfl)
      have SL : (Hid (T9.okList ql tl = true) ∧ ((ql : Int) == 0) = true) ∨ (Hid (T9.okList ql tl = true) ∧ ((ql : Int) == 0) = false ∧ ((ql : Int) == (tl : Int)) = true) ∨ (Hid (T9.okList ql tl = false) ∧ ((ql : Int) == 0) = false ∧ ((ql : Int) == (tl : Int)) = false) := by
        by_cases e : ql = 0
        · exact .inl ⟨Lib.hid (by simp [T9.okList, e]), by simp [e]⟩
        · by_cases e2 : ql = tl
          · exact .inr (.inl ⟨Lib.hid (by simp [T9.okList, e2]), by simp; omega, by simp [e2]⟩)
          · exact .inr (.inr ⟨Lib.hid (by simp [T9.okList, e, e2]), by simp; omega, by simp; omega⟩)
      have SD : (Hid (T9.okDone qd td = true) ∧ (qd == 0) = true) ∨ (Hid (T9.okDone qd td = true) ∧ (qd == 0) = false ∧ (qd == 1) = true ∧ td = true) ∨ (Hid (T9.okDone qd td = false) ∧ (qd == 0) = false ∧ (qd == 1) = true ∧ (qd == 2) = false ∧ td = false) ∨ (Hid (T9.okDone qd td = !td) ∧ (qd == 0) = false ∧ (qd == 1) = false ∧ (qd == 2) = true) ∨ (Hid (T9.okDone qd td = false) ∧ (qd == 0) = false ∧ (qd == 1) = false ∧ (qd == 2) = false) := by
        by_cases e : qd = 0
        · subst e; exact .inl ⟨Lib.hid rfl, rfl⟩
        · by_cases e1 : qd = 1
          · subst e1
            cases td with
            | true => exact .inr (.inl ⟨Lib.hid rfl, rfl, rfl, rfl⟩)
            | false => exact .inr (.inr (.inl ⟨Lib.hid rfl, rfl, rfl, rfl, rfl⟩))
          · by_cases e2 : qd = 2
            · subst e2
              exact .inr (.inr (.inr (.inl ⟨Lib.hid (by cases td <;> rfl), rfl, rfl, rfl⟩)))
            · exact .inr (.inr (.inr (.inr ⟨Lib.hid (by simp [T9.okDone, e, e1, e2]), by simp [e], by simp [e1], by simp [e2]⟩)))
      rcases SL with ⟨OL, e1⟩ | ⟨OL, e1, e2⟩ | ⟨OL, e1, e2⟩
      all_goals rcases SD with ⟨OD, d1⟩ | ⟨OD, d1, d2, d4⟩ | ⟨OD, d1, d2, d3, d4⟩ | ⟨OD, d1, d2, d3⟩ | ⟨OD, d1, d2, d3⟩
      all_goals
        first | subst d4 | skip
        rcases TD with t1 | t1
        all_goals first | (cases t1; done) | skip
        all_goals
          first | subst t1 | skip
          cases b
          all_goals
            go_wp2
            go_ret
            exact ⟨ret_bool (by rw [HF.out, OL.out, OD.out]; rfl), B2.out⟩

/-- The first that isn't 0. -/
def orI (a b : Int) : Int := if a = 0 then b else a
theorem orI_c {g : Nat} {c : Nat} {a b : Int} {w : World} (h0 : w.cell? ⟨g, 0, none⟩ = some (.int .i64 a)) (h1 : w.cell? ⟨g, 1, none⟩ = some (.int .i64 b)) :
    Calls Try.prog 35 #[.slice (some ⟨g, 0, none⟩) 2 c] w fun e w' => e = .returned (.int .i64 (orI a b)) ∧ w = w' := by
  unfold orI
  by_cases ha : a = 0
  · subst ha
    rw [if_pos rfl]
    by_cases hb : b = 0
    · subst hb
      go_enter Try.func35, Try.ntmps35
      go_wp2_with fail
      refine wp_loop_rounds 3 ?_
      rw [rounds_succ]
      go_wp2_with fail
      rw [rounds_succ]
      go_wp2_with fail
      rw [rounds_succ]
      go_wp2_with fail
      go_ret
      exact ⟨rfl, rfl⟩
    · have q : (b != 0) = true := by simp [hb]
      clear hb
      go_enter Try.func35, Try.ntmps35
      go_wp2_with fail
      refine wp_loop_rounds 2 ?_
      rw [rounds_succ]
      go_wp2_with fail
      rw [rounds_succ]
      go_wp2_with fail
      go_ret
      exact ⟨rfl, rfl⟩
  · rw [if_neg ha]
    have q : (a != 0) = true := by simp [ha]
    clear ha
    go_enter Try.func35, Try.ntmps35
    go_wp2_with fail
    refine wp_loop_rounds 1 ?_
    rw [rounds_succ]
    go_wp2_with fail
    go_ret
    exact ⟨rfl, rfl⟩
def cmpF (a b : Nat) : Int := if Fl.lt a b = true then -1 else if Fl.lt b a = true then 1 else 0
theorem cmpF_c {a b : Nat} {w : World} (ha : a < 18446744073709551616) (hb : b < 18446744073709551616) :
    Calls Try.prog 37 #[.float .f64 a, .float .f64 b] w fun e w' => e = .returned (.int .i64 (cmpF a b)) ∧ w = w' := by
  unfold cmpF
  have C1 := Lib.hid (less_c a b w ha hb)
  have C2 := Lib.hid (less_c b a w hb ha)
  clear ha hb
  cases h : Fl.lt a b with
  | true =>
    rw [h] at C1
    rw [if_pos rfl]
    go_enter Try.func37, Try.ntmps37
    go_wp2_with fail
    refine C1.out.mono ?_
    rintro e w' ⟨rfl, rfl⟩
    go_wp2
    go_ret
    exact ⟨rfl, rfl⟩
  | false =>
    rw [h] at C1
    rw [if_neg (by decide)]
    cases k : Fl.lt b a with
    | true =>
      rw [k] at C2
      rw [if_pos rfl]
      go_enter Try.func37, Try.ntmps37
      go_wp2_with fail
      refine C1.out.mono ?_
      rintro e w' ⟨rfl, rfl⟩
      go_wp2_with fail
      refine C2.out.mono ?_
      rintro e w' ⟨rfl, rfl⟩
      go_wp2
      go_ret
      exact ⟨rfl, rfl⟩
    | false =>
      rw [k] at C2
      rw [if_neg (by decide)]
      go_enter Try.func37, Try.ntmps37
      go_wp2_with fail
      refine C1.out.mono ?_
      rintro e w' ⟨rfl, rfl⟩
      go_wp2_with fail
      refine C2.out.mono ?_
      rintro e w' ⟨rfl, rfl⟩
      go_wp2
      go_ret
      exact ⟨rfl, rfl⟩
end
end Go.Proofs.Ytnhpkcphgdkdiaa
