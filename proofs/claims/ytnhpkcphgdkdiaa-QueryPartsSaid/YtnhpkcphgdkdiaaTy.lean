/- Stage 9: alike: texts, lists, tasks, states (written by wip/gen9eq.py). Stage 9: tasks and states alike (written by wip/gen9eq2.py). -/
import Derived.Test.YtnhpkcphgdkdiaaTw
import Derived.Test.YtnhpkcphgdkdiaaFo
import Derived.StillTailTactics
namespace Go.Proofs.Ytnhpkcphgdkdiaa
set_option maxRecDepth 100000

section
open Go.RowKit Go.Lib

theorem take_nxt {α : Type} {l : List α} {k : Nat} {x : α} (h : l[k]? = some x) : l.take (k + 1) = l.take k ++ [x] := by
  obtain ⟨q1, q2⟩ := List.getElem?_eq_some_iff.1 h
  rw [List.take_succ_eq_append_getElem q1, q2]

set_option maxHeartbeats 1000000 in
theorem refSameTags_c {A A2 : Option Addr} {n c n2 c2 : Nat} {ls ks : List (List UInt8)} {w : World} (h : GL w A ls) (h2 : GL w A2 ks) (hn : n = ls.length) (hn2 : n2 = ks.length) (hs : n ≤ 1000000) :
    Calls Try.prog 25 #[.slice A n c, .slice A2 n2 c2] w fun e w' => e = .returned (.bool (decide (ls = ks))) ∧ ∃ j, w' = w.drewN j := by
  have H := Lib.hid h
  have H2 := Lib.hid h2
  have HN := Lib.hid hn
  have HN2 := Lib.hid hn2
  clear h h2 hn hn2
  by_cases hl : n = n2
  · subst hl
    have HL := Lib.hid (HN.out.symm.trans HN2.out)
    go_enter Try.func25, Try.ntmps25
    go_wp2_with fail
    go_loopw [13] (fun i wr => ∃ k j : Nat, k ≤ n ∧ i = .int .i64 k ∧ ls.take k = ks.take k ∧ wr = w.drewN j) (fun i _ => n - (intOf i).toNat)
    case atStart => exact ⟨0, 0, Nat.zero_le _, rfl, rfl, rfl⟩
    case round =>
      obtain ⟨k, j, hk, rfl, he, rfl⟩ := hrel
      have HE := Lib.hid he
      clear he
      by_cases hlt : k < n
      · obtain ⟨ad, m, rfl, hm, hc⟩ := H.out.at_ (k := k) (by rw [← HN.out]; exact hlt)
        obtain ⟨ad2, m2, rfl, hm2, hc2⟩ := H2.out.at_ (k := k) (by rw [← HN2.out]; exact hlt)
        have HM := Lib.hid hm
        have HM2 := Lib.hid hm2
        clear hm hm2
        have k0 : 0 ≤ (k : Int) := by omega
        have k1 : (k : Int) < (n : Int) := by omega
        by_cases eq : m = m2
        · have EQ := Lib.hid eq
          have q1 : (m == m2) = true := by simp [eq]
          have q2 : (m != m2) = false := by simp [eq]
          clear eq
          go_wp2_with fail
          go_region
          go_wp2
          go_roundw
          case rel => exact ⟨k + 1, j + 1, by omega, by go_num, by rw [take_nxt HM.out, take_nxt HM2.out, HE.out, EQ.out], rfl⟩
          case measure => simp [intOf]; omega
        · have NE : Hid (¬ ls = ks) := Lib.hid fun e => eq (by
            have e1 := congrArg (·[k]?) e
            simp only [HM.out, HM2.out, Option.some.injEq] at e1
            exact e1)
          have q1 : (m == m2) = false := by simp [eq]
          have q2 : (m != m2) = true := by simp [eq]
          all_goals
            clear eq
            go_wp2_with fail
            go_region
            go_wp2
            go_ret
            exact ⟨ret_bool (by rw [decide_eq_false NE.out]), j + 1, rfl⟩
      · obtain rfl : k = n := by omega
        have HE2 := HE.out
        rw [HN.out, List.take_length, HL.out, List.take_length] at HE2
        have HE3 := Lib.hid HE2
        clear HE2
        go_wp2
        go_ret
        exact ⟨ret_bool (by rw [decide_eq_true HE3.out]), j, rfl⟩
  · have hl' : ¬ ls = ks := fun e => hl (by rw [HN.out, HN2.out, e])
    have HL := Lib.hid hl'
    clear hl'
    go_enter Try.func25, Try.ntmps25
    go_wp2
    go_ret
    exact ⟨ret_bool (by rw [decide_eq_false HL.out]), 0, rfl⟩

theorem li_ne {a b : T9.Li} (h : ¬ a = b) : (¬ (a.id : Int) = (b.id : Int)) ∨ (a.id : Int) = (b.id : Int) ∧ ¬ a.name = b.name := by
  by_cases e : a.id = b.id
  · exact .inr ⟨by omega, fun f => h (T9.Li.ext_iff'.2 ⟨e, f⟩)⟩
  · exact .inl (by omega)

end

section
open Go.RowKit Go.Lib

theorem seven_box {a : MTk} : (.agg (encK a).toArray : Value) = .agg #[.int .u64 (a.t.id : Int), .int .u64 (a.t.list : Int), .string (str a.t.title), .bool a.t.done, .float .f64 a.t.rank, .float .f64 a.t.est, .slice a.A a.t.tags.length a.c] := rfl
def agg7 (a : MTk) : Obj := .cells #[.int .u64 (a.t.id : Int), .int .u64 (a.t.list : Int), .string (str a.t.title), .bool a.t.done, .float .f64 a.t.rank, .float .f64 a.t.est, .slice a.A a.t.tags.length a.c] 32

set_option maxHeartbeats 1000000 in
theorem refSameTask_c {a b : MTk} {w : World} (ha : a.fine w) (hb : b.fine w) (sa : a.t.short) (_sb : b.t.short) (oa : a.t.ok) (ob : b.t.ok) :
    Calls Try.prog 11 #[.agg (encK a).toArray, .agg (encK b).toArray] w fun e w' => e = .returned (.bool (T9.same1 a.t b.t)) ∧ Below w.heap.size w w' := by
  obtain ⟨w1, hw1⟩ : ∃ u, w.alloc (.cells #[.int .u64 (a.t.id : Int), .int .u64 (a.t.list : Int), .string (str a.t.title), .bool a.t.done, .float .f64 a.t.rank, .float .f64 a.t.est, .slice a.A a.t.tags.length a.c] 32) = u := ⟨_, rfl⟩
  obtain ⟨pb, b1, z1⟩ := new_seven hw1
  obtain ⟨w2, hw2⟩ : ∃ u, w1.alloc (.cells #[.int .u64 (b.t.id : Int), .int .u64 (b.t.list : Int), .string (str b.t.title), .bool b.t.done, .float .f64 b.t.rank, .float .f64 b.t.est, .slice b.A b.t.tags.length b.c] 32) = u := ⟨_, rfl⟩
  obtain ⟨pb2, b2, z2⟩ := new_seven hw2
  have B : Hid (Below w.heap.size w w2) := Lib.hid (b1.trans (b2.mono (by omega)))
  have pbb := (b2.block w.heap.size (by omega)).trans pb
  obtain ⟨p0, p1, p2, p3, p4, p5, p6⟩ := seven_cells pbb
  obtain ⟨q0, q1, q2, q3, q4, q5, q6⟩ := seven_cells pb2
  have oa1 := oa.2.2.1
  have oa2 := oa.2.2.2
  have ob1 := ob.2.2.1
  have ob2 := ob.2.2.2
  have EQT := Lib.hid (refSameTags_c (c := a.c) (c2 := b.c) (ha.gl.stay B.out) (hb.gl.stay B.out) rfl rfl sa.2.2)
  have HZ := Lib.hid z1
  rw [seven_box, seven_box]
  clear ha hb sa oa ob pb pb2 pbb b1 b2 z1 z2
  cases h1 : ((a.t.id : Int) == (b.t.id : Int)) with
  | false =>
    have R : Hid (T9.same1 a.t b.t = false) := Lib.hid (by
      unfold T9.same1
      have k := h1
      simp only [beq_eq_false_iff_ne, ne_eq, Int.natCast_inj] at k
      simp [k])
    go_enter Try.func11, Try.ntmps11
    go_wp2_with (first | (go_at_call 24; refine (refSame_c _ _ _ (by assumption) (by assumption)).mono ?_; rintro e w' ⟨rfl, rfl⟩) | (go_at_call 25; refine EQT.out.mono ?_; rintro e w' ⟨rfl, j, rfl⟩))
    go_ret
    exact ⟨ret_bool R.out.symm, B.out⟩
  | true =>
    cases h2 : ((a.t.list : Int) == (b.t.list : Int)) with
    | false =>
      have R : Hid (T9.same1 a.t b.t = false) := Lib.hid (by
        unfold T9.same1
        have k := h2
        simp only [beq_eq_false_iff_ne, ne_eq, Int.natCast_inj] at k
        simp [k])
      go_enter Try.func11, Try.ntmps11
      go_wp2_with (first | (go_at_call 24; refine (refSame_c _ _ _ (by assumption) (by assumption)).mono ?_; rintro e w' ⟨rfl, rfl⟩) | (go_at_call 25; refine EQT.out.mono ?_; rintro e w' ⟨rfl, j, rfl⟩))
      go_ret
      exact ⟨ret_bool R.out.symm, B.out⟩
    | true =>
      cases h3 : (a.t.title == b.t.title) with
      | false =>
        have R : Hid (T9.same1 a.t b.t = false) := Lib.hid (by
          unfold T9.same1
          have k := h3
          simp only [beq_eq_false_iff_ne, ne_eq] at k
          simp [k])
        go_enter Try.func11, Try.ntmps11
        go_wp2_with (first | (go_at_call 24; refine (refSame_c _ _ _ (by assumption) (by assumption)).mono ?_; rintro e w' ⟨rfl, rfl⟩) | (go_at_call 25; refine EQT.out.mono ?_; rintro e w' ⟨rfl, j, rfl⟩))
        go_ret
        exact ⟨ret_bool R.out.symm, B.out⟩
      | true =>
        cases h4 : (a.t.done == b.t.done) with
        | false =>
          have R : Hid (T9.same1 a.t b.t = false) := Lib.hid (by
            unfold T9.same1
            have k := h4
            simp only [beq_eq_false_iff_ne, ne_eq] at k
            simp [k])
          go_enter Try.func11, Try.ntmps11
          go_wp2_with (first | (go_at_call 24; refine (refSame_c _ _ _ (by assumption) (by assumption)).mono ?_; rintro e w' ⟨rfl, rfl⟩) | (go_at_call 25; refine EQT.out.mono ?_; rintro e w' ⟨rfl, j, rfl⟩))
          go_ret
          exact ⟨ret_bool R.out.symm, B.out⟩
        | true =>
          cases h5 : Fl.same a.t.rank b.t.rank with
          | false =>
            have R : Hid (T9.same1 a.t b.t = false) := Lib.hid (by
              unfold T9.same1
              have k := h5
              simp [k])
            go_enter Try.func11, Try.ntmps11
            go_wp2_with (first | (go_at_call 24; refine (refSame_c _ _ _ (by assumption) (by assumption)).mono ?_; rintro e w' ⟨rfl, rfl⟩) | (go_at_call 25; refine EQT.out.mono ?_; rintro e w' ⟨rfl, j, rfl⟩))
            go_ret
            exact ⟨ret_bool R.out.symm, B.out⟩
          | true =>
            cases h6 : Fl.same a.t.est b.t.est with
            | false =>
              have R : Hid (T9.same1 a.t b.t = false) := Lib.hid (by
                unfold T9.same1
                have k := h6
                simp [k])
              go_enter Try.func11, Try.ntmps11
              go_wp2_with (first | (go_at_call 24; refine (refSame_c _ _ _ (by assumption) (by assumption)).mono ?_; rintro e w' ⟨rfl, rfl⟩) | (go_at_call 25; refine EQT.out.mono ?_; rintro e w' ⟨rfl, j, rfl⟩))
              go_ret
              exact ⟨ret_bool R.out.symm, B.out⟩
            | true =>
              have R : Hid (T9.same1 a.t b.t = decide (a.t.tags = b.t.tags)) := Lib.hid (by
                unfold T9.same1
                simp only [beq_iff_eq, Int.natCast_inj] at h1 h2 h3 h4
                simp [h1, h2, h3, h4, h5, h6])
              go_enter Try.func11, Try.ntmps11
              go_wp2_with (first | (go_at_call 24; refine (refSame_c _ _ _ (by assumption) (by assumption)).mono ?_; rintro e w' ⟨rfl, rfl⟩) | (go_at_call 25; refine EQT.out.mono ?_; rintro e w' ⟨rfl, j, rfl⟩))
              go_ret
              exact ⟨ret_bool R.out.symm, below_drewN B.out j⟩

theorem T9.sameT_off {l m : List T9.Tk} {k : Nat} {a b : T9.Tk} (h : l[k]? = some a) (h2 : m[k]? = some b) (hq : T9.same1 a b = false) : T9.sameT l m = false := by
  induction l generalizing m k with
  | nil => simp at h
  | cons x l ih =>
    cases m with
    | nil => simp at h2
    | cons y m =>
      cases k with
      | zero =>
        simp only [List.getElem?_cons_zero, Option.some.injEq] at h h2
        subst h h2
        simp [T9.sameT, hq]
      | succ k =>
        simp only [List.getElem?_cons_succ] at h h2
        simp [T9.sameT, ih h h2]
theorem tks_at {ms : List MTk} {k : Nat} {m : MTk} (h : ms[k]? = some m) : (tks ms)[k]? = some m.t := by unfold tks; rw [List.getElem?_map, h]; rfl

end
end Go.Proofs.Ytnhpkcphgdkdiaa
