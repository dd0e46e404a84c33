/- Stage 9: the code's Right. -/
import Derived.Test.YtbgdmmemahfpbaaTv
namespace Go.Proofs.Ytbgdmmemahfpbaa
open Go.RowKit Go.Lib
set_option maxRecDepth 100000

theorem tks_drop {ms : List MTk} {i : Nat} {m : MTk} (h : ms[i]? = some m) : (tks ms).drop i = m.t :: (tks ms).drop (i + 1) := by
  obtain ⟨q1, q2⟩ := List.getElem?_eq_some_iff.1 h
  have e := List.drop_eq_getElem_cons q1
  rw [q2] at e
  unfold tks
  rw [← List.map_drop, e, List.map_cons, List.map_drop]
theorem drop_at {α : Type} {ls : List α} {i : Nat} {l : α} (h : ls[i]? = some l) : ls.drop i = l :: ls.drop (i + 1) := by
  obtain ⟨q1, q2⟩ := List.getElem?_eq_some_iff.1 h
  rw [List.drop_eq_getElem_cons q1, q2]
theorem any_take {α : Type} {ls : List α} {p : α → Bool} {i : Nat} {l : α} (h : ls[i]? = some l) : (ls.take (i + 1)).any p = ((ls.take i).any p || p l) := by
  obtain ⟨q1, q2⟩ := List.getElem?_eq_some_iff.1 h
  rw [List.take_succ_eq_append_getElem q1, q2]
  simp
theorem any_hit {α : Type} {ls : List α} {p : α → Bool} {i : Nat} {l : α} (h : ls[i]? = some l) (hp : p l = true) : ls.any p = true := List.any_eq_true.2 ⟨l, List.mem_of_getElem? h, hp⟩
theorem listsE_step {l : T9.Li} {a : Nat} {r : List T9.Li} (h : ¬ l.id ≤ a) (k : T9.title l.name = true) : T9.listsE a (l :: r) = T9.listsE l.id r := by
  show (if l.id ≤ a then 91 else if T9.title l.name = false then 94 else T9.listsE l.id r) = _
  rw [if_neg h, if_neg (by rw [k]; simp)]
theorem tasksE_step {ls : List T9.Li} {t : T9.Tk} {a : Nat} {r : List T9.Tk} (h : ¬ t.id ≤ a) (k : ¬ (ls.any fun l => l.id == t.list) = false) (f : T9.fieldsE t = 0) : T9.tasksE ls a (t :: r) = T9.tasksE ls t.id r := by
  show (if t.id ≤ a then 93 else if (ls.any fun l => l.id == t.list) = false then 91 else if T9.fieldsE t ≠ 0 then T9.fieldsE t else T9.tasksE ls t.id r) = _
  rw [if_neg h, if_neg k, if_neg (by simp [f])]
/-- A new block of two cells. -/
theorem new_two {w : World} {a b : Value} {t : TypeId} {u : World} (h : w.alloc (.cells #[a, b] t) = u) : u.heap[w.heap.size]? = some (.cells #[a, b] t (0, 0)) ∧ Below w.heap.size w u ∧ u.heap.size = w.heap.size + 1 := by
  subst h
  exact ⟨heap_alloc_new w _, (Below.refl _ w).alloc (Nat.le_refl _) _, by simp⟩
theorem new_seven {w : World} {a b c d e f g : Value} {t : TypeId} {u : World} (h : w.alloc (.cells #[a, b, c, d, e, f, g] t) = u) : u.heap[w.heap.size]? = some (.cells #[a, b, c, d, e, f, g] t (0, 0)) ∧ Below w.heap.size w u ∧ u.heap.size = w.heap.size + 1 := by
  subst h
  exact ⟨heap_alloc_new w _, (Below.refl _ w).alloc (Nat.le_refl _) _, by simp⟩

set_option maxHeartbeats 2000000 in
theorem rightTasks_c {A A2 : Option Addr} {n1 n2 c c2 : Nat} {ls : List T9.Li} {ms : List MTk} {w : World} (hl : LL w A ls) (hk : KL w A2 ms) (e1 : n1 = ls.length) (e2 : n2 = ms.length) (hs : (⟨ls, tks ms⟩ : T9.St).short) (hb : n1 ≤ c ∧ n2 ≤ c2) :
    Calls Try.prog 36 #[.agg #[.slice A n1 c, .slice A2 n2 c2]] w fun e w' => e = .returned (.int .i64 (T9.tasksE ls 0 (tks ms))) ∧ Below w.heap.size w w' := by
  have E1 := Lib.hid e1
  have E2 := Lib.hid e2
  have HS := Lib.hid hs
  obtain ⟨w1, hw1⟩ : ∃ u, w.alloc (.cells #[.slice A n1 c, .slice A2 n2 c2] 25) = u := ⟨_, rfl⟩
  obtain ⟨pb, b1, z1⟩ := new_two hw1
  have PB := Lib.hid pb
  have B1 := Lib.hid b1
  have HL := Lib.hid (hl.stay b1)
  have HK := Lib.hid (hk.stay b1)
  have Z1 := Lib.hid z1
  have sm1 : n1 ≤ 1000000 := by have := hs.2.2.1; simp at this; omega
  have sm2 : n2 ≤ 1000000 := by have := hs.2.2.2; rw [tks_len] at this; omega
  obtain ⟨p0, p1⟩ := two_cells pb
  clear hl hk e1 e2 hs pb b1 z1
  go_enter Try.func36, Try.ntmps36
  go_wp2
  go_step3
  go_wp2
  go_step3
  go_wp2
  go_loopw [3, 12] (fun s3 s12 wr => ∃ (a i : Nat), s3 = .int .u64 a ∧ s12 = .int .i64 i ∧ i ≤ n2 ∧ Hid (T9.tasksE ls 0 (tks ms) = T9.tasksE ls a ((tks ms).drop i)) ∧ Aside (Below w1.heap.size w1 wr)) (fun _ s12 _ => n2 - (intOf s12).toNat)
  case atStart => exact ⟨0, 0, rfl, rfl, Nat.zero_le _, Lib.hid rfl, Below.refl _ _⟩
  case round =>
    obtain ⟨wo, hwo⟩ : ∃ u, u = wr := ⟨_, rfl⟩
    subst hwo
    obtain ⟨a, i, rfl, rfl, hi, hU, hB⟩ := hrel
    have BR := Lib.hid hB.out
    clear hB
    by_cases hlt : i < n2
    · have hltz : (i : Int) < (n2 : Int) := by omega
      obtain ⟨ad, ⟨tk, A3, c3⟩, hA, hx, hf, r0, r1, r2, r3, r4, r5, r6⟩ := (HK.out.stay BR.out).at_ (k := i) (by have := E2.out; omega)
      subst hA
      have FI := Lib.hid hf
      have SH : Hid tk.short := Lib.hid (HS.out.2.1 tk (List.mem_map.2 ⟨_, List.mem_of_getElem? hx, rfl⟩))
      have U2 : Hid (T9.tasksE ls 0 (tks ms) = T9.tasksE ls a (tk :: (tks ms).drop (i + 1))) := Lib.hid (by rw [hU.out, tks_drop hx])
      dsimp only at r0 r1 r2 r3 r4 r5 r6
      obtain ⟨w2, hw2⟩ : ∃ u, wo.alloc (.cells #[.int .u64 (tk.id : Int), .int .u64 (tk.list : Int), .string (str tk.title), .bool tk.done, .float .f64 tk.rank, .float .f64 tk.est, .slice A3 tk.tags.length c3] 37) = u := ⟨_, rfl⟩
      obtain ⟨tb, b2, z2⟩ := new_seven hw2
      have TB := Lib.hid tb
      have B2 : Hid (Below w1.heap.size w1 w2) := Lib.hid (BR.out.trans (b2.mono BR.out.size))
      have B2' := Lib.hid b2
      have Z2 := Lib.hid z2
      have pb2 := (B2.out.block w.heap.size (by have := Z1.out; omega)).trans PB.out
      obtain ⟨t0, t1, t2, t3, t4, t5, t6⟩ := seven_cells tb
      obtain ⟨u0, u1⟩ := two_cells pb2
      clear hf hx tb b2 z2 pb2
      by_cases hid : tk.id ≤ a
      · have hz : (tk.id : Int) ≤ (a : Int) := by omega
        have R : Hid (T9.tasksE ls 0 (tks ms) = 93) := Lib.hid (by rw [U2.out]; unfold T9.tasksE; rw [if_pos hid])
        go_wp2
        rw [Exit.noGoto_ret]
        go_ret
        exact ⟨ret_i64 R.out.symm, B1.out.trans (B2.out.mono B1.out.size)⟩
      · have hz : ¬ ((tk.id : Int) ≤ (a : Int)) := by omega
        have NI := Lib.hid hid
        clear hid
        go_wp2
        go_loopw [25] (fun s25 wi => ∃ j : Nat, s25 = .int .i64 j ∧ j ≤ n1 ∧ Hid ((ls.take j).any (fun l => l.id == tk.list) = false) ∧ Aside (Below w2.heap.size w2 wi)) (fun s25 _ => n1 - (intOf s25).toNat)
        case atStart => exact ⟨0, rfl, Nat.zero_le _, Lib.hid (by simp), Below.refl _ _⟩
        case round =>
          obtain ⟨j, rfl, hj, hV, hC⟩ := hrel
          have CR := Lib.hid hC.out
          clear hC
          by_cases hlj : j < n1
          · have hljz : (j : Int) < (n1 : Int) := by omega
            obtain ⟨ad1, l, hA1, hx1, q0, q1⟩ := (HL.out.stay (B2.out.trans (CR.out.mono B2.out.size))).at_ (k := j) (by have := E1.out; omega)
            subst hA1
            have X1 := Lib.hid hx1
            obtain ⟨w3, hw3⟩ : ∃ u, wr.alloc (.cells #[.int .u64 (l.id : Int), .string (str l.name)] 41) = u := ⟨_, rfl⟩
            obtain ⟨lb, b3, z3⟩ := new_two hw3
            have B3 : Hid (Below w2.heap.size w2 w3) := Lib.hid (CR.out.trans (b3.mono CR.out.size))
            have tb3 := (B3.out.block wo.heap.size (by have := Z2.out; omega)).trans TB.out
            obtain ⟨t0, t1, t2, t3, t4, t5, t6⟩ := seven_cells tb3
            obtain ⟨l0, l1⟩ := two_cells lb
            clear hx1 lb b3 z3 tb3
            by_cases he : l.id = tk.list
            · have hez : ((l.id : Int) == (tk.list : Int)) = true := by rw [he]; simp
              have hez2 : ((l.id : Int) != (tk.list : Int)) = false := by rw [he]; simp
              have AN : Hid (¬ (ls.any fun l => l.id == tk.list) = false) := Lib.hid (by rw [any_hit X1.out (by simp [he])]; simp)
              have BF := Lib.hid (B2.out.trans (B3.out.mono B2.out.size))
              have RF : Hid (Calls Try.prog 89 #[.agg #[.int .u64 (tk.id : Int), .int .u64 (tk.list : Int), .string (str tk.title), .bool tk.done, .float .f64 tk.rank, .float .f64 tk.est, .slice A3 tk.tags.length c3]] w3 fun e w' => e = .returned (.int .i64 (T9.fieldsE tk)) ∧ Below w3.heap.size w3 w') := Lib.hid (rightFields_c (m := ⟨tk, A3, c3⟩) (FI.out.stay (B2'.out.trans (B3.out.mono B2'.out.size))) SH.out)
              clear he
              by_cases hf : T9.fieldsE tk = 0
              · have U3 : Hid (T9.tasksE ls 0 (tks ms) = T9.tasksE ls tk.id ((tks ms).drop (i + 1))) := Lib.hid (by rw [U2.out]; unfold T9.tasksE; rw [if_neg NI.out, if_neg AN.out, if_neg (by simp [hf])]; cases (tks ms).drop (i + 1) <;> rfl)
                rw [hf] at RF
                clear hf
                go_wp2_with fail
                refine RF.out.mono ?_
                rintro e w4 ⟨rfl, h4⟩
                have H4 := Lib.hid h4
                clear h4
                go_wp2
                go_roundw
                case rel => exact ⟨tk.id, i + 1, rfl, by go_num, by omega, U3, (BF.out.trans (H4.out.mono BF.out.size))⟩
                case measure => simp [intOf]; omega
              · have R : Hid (T9.tasksE ls 0 (tks ms) = T9.fieldsE tk) := Lib.hid (by rw [U2.out]; unfold T9.tasksE; rw [if_neg NI.out, if_neg AN.out, if_pos hf])
                have hfz : (T9.fieldsE tk == 0) = false := by simp [hf]
                have hfz2 : (T9.fieldsE tk != 0) = true := by simp [hf]
                go_wp2_with fail
                refine RF.out.mono ?_
                rintro e w4 ⟨rfl, h4⟩
                have H4 := Lib.hid h4
                clear h4
                go_wp2
                rw [Exit.noGoto_ret]
                go_ret
                exact ⟨ret_i64 R.out.symm, B1.out.trans ((BF.out.trans (H4.out.mono BF.out.size)).mono B1.out.size)⟩
            · have hez : ((l.id : Int) == (tk.list : Int)) = false := by simp; omega
              have hez2 : ((l.id : Int) != (tk.list : Int)) = true := by simp; omega
              have AN : Hid ((ls.take (j + 1)).any (fun l => l.id == tk.list) = false) := Lib.hid (by rw [any_take X1.out, hV.out]; simp [he])
              clear he
              go_wp2
              go_roundw
              case rel => exact ⟨j + 1, by go_num, by omega, AN, B3.out⟩
              case measure => simp [intOf]; omega
          · obtain rfl : j = n1 := by omega
            have hljz : ¬ ((j : Int) < (j : Int)) := by omega
            have R : Hid (T9.tasksE ls 0 (tks ms) = 91) := Lib.hid (by
              have := hV.out
              rw [E1.out, List.take_length] at this
              rw [U2.out]; unfold T9.tasksE; rw [if_neg NI.out, if_pos this])
            have BF := Lib.hid (B2.out.trans (CR.out.mono B2.out.size))
            go_wp2
            try rw [Exit.noGoto_ret]
            go_ret
            exact ⟨ret_i64 R.out.symm, B1.out.trans (BF.out.mono B1.out.size)⟩
    · obtain rfl : i = n2 := by omega
      have hltz : ¬ ((i : Int) < (i : Int)) := by omega
      have R : Hid (T9.tasksE ls 0 (tks ms) = 0) := Lib.hid (by rw [hU.out, E2.out, ← tks_len ms, List.drop_length]; rfl)
      go_wp2
      try rw [Exit.noGoto_ret]
      go_ret
      exact ⟨ret_i64 R.out.symm, B1.out.trans (BR.out.mono B1.out.size)⟩

set_option maxHeartbeats 2000000 in
theorem right_c {A A2 : Option Addr} {n1 n2 c c2 : Nat} {ls : List T9.Li} {ms : List MTk} {w : World} (hl : LL w A ls) (hk : KL w A2 ms) (e1 : n1 = ls.length) (e2 : n2 = ms.length) (hs : (⟨ls, tks ms⟩ : T9.St).short) (hb : n1 ≤ c ∧ n2 ≤ c2) :
    Calls Try.prog 10 #[.agg #[.slice A n1 c, .slice A2 n2 c2]] w fun e w' => e = .returned (.int .i64 (T9.rightE ⟨ls, tks ms⟩)) ∧ Below w.heap.size w w' := by
  have E1 := Lib.hid e1
  have E2 := Lib.hid e2
  have HS := Lib.hid hs
  obtain ⟨w1, hw1⟩ : ∃ u, w.alloc (.cells #[.slice A n1 c, .slice A2 n2 c2] 25) = u := ⟨_, rfl⟩
  obtain ⟨pb, b1, z1⟩ := new_two hw1
  have PB := Lib.hid pb
  have B1 := Lib.hid b1
  have HL := Lib.hid (hl.stay b1)
  have HK := Lib.hid (hk.stay b1)
  have Z1 := Lib.hid z1
  have sm1 : n1 ≤ 1000000 := by have := hs.2.2.1; simp at this; omega
  have sm2 : n2 ≤ 1000000 := by have := hs.2.2.2; rw [tks_len] at this; omega
  obtain ⟨p0, p1⟩ := two_cells pb
  have ET : Hid ((tks ms).length = n2) := Lib.hid (by rw [tks_len]; exact e2.symm)
  have HBC := Lib.hid hb
  clear hl hk e1 e2 hs pb b1 z1 hb
  by_cases hm1 : 20 < n1
  · have hmz : (20 : Int) < (n1 : Int) := by omega
    have R : Hid (T9.rightE ⟨ls, tks ms⟩ = 95) := Lib.hid (by unfold T9.rightE; rw [if_pos (.inl (by rw [← E1.out]; exact hm1))])
    go_enter Try.func10, Try.ntmps10
    go_wp2
    go_ret
    exact ⟨ret_i64 R.out.symm, B1.out⟩
  have hmz : ¬ ((20 : Int) < (n1 : Int)) := by omega
  by_cases hm2 : 60 < n2
  · have hmz2 : (60 : Int) < (n2 : Int) := by omega
    have R : Hid (T9.rightE ⟨ls, tks ms⟩ = 95) := Lib.hid (by unfold T9.rightE; rw [if_pos (.inr (by rw [ET.out]; exact hm2))])
    go_enter Try.func10, Try.ntmps10
    go_wp2
    go_ret
    exact ⟨ret_i64 R.out.symm, B1.out⟩
  have hmz2 : ¬ ((60 : Int) < (n2 : Int)) := by omega
  have R : Hid (T9.rightE ⟨ls, tks ms⟩ = if T9.listsE 0 ls ≠ 0 then T9.listsE 0 ls else T9.tasksE ls 0 (tks ms)) := Lib.hid (by unfold T9.rightE; rw [if_neg (by rw [ET.out, ← E1.out]; omega)])
  clear hm1 hm2
  go_enter Try.func10, Try.ntmps10
  go_wp2
  go_loopw [3, 19] (fun s3 s19 wr => ∃ (a i : Nat), s3 = .int .u64 a ∧ s19 = .int .i64 i ∧ i ≤ n1 ∧ Hid (T9.listsE 0 ls = T9.listsE a (ls.drop i)) ∧ Aside (Below w1.heap.size w1 wr)) (fun _ s19 _ => n1 - (intOf s19).toNat)
  case atStart => exact ⟨0, 0, rfl, rfl, Nat.zero_le _, Lib.hid rfl, Below.refl _ _⟩
  case round =>
    obtain ⟨a, i, rfl, rfl, hi, hU, hB⟩ := hrel
    have BR := Lib.hid hB.out
    clear hB
    have pbr := (BR.out.block w.heap.size (by have := Z1.out; omega)).trans PB.out
    by_cases hlt : i < n1
    · have hltz : (i : Int) < (n1 : Int) := by omega
      obtain ⟨ad, l, hA, hx, q0, q1⟩ := (HL.out.stay BR.out).at_ (k := i) (by have := E1.out; omega)
      subst hA
      have SH : Hid (l.name.length ≤ 1000000) := Lib.hid (HS.out.1 l (List.mem_of_getElem? hx))
      have U2 : Hid (T9.listsE 0 ls = T9.listsE a (l :: ls.drop (i + 1))) := Lib.hid (by rw [hU.out, drop_at hx])
      obtain ⟨w2, hw2⟩ : ∃ u, wr.alloc (.cells #[.int .u64 (l.id : Int), .string (str l.name)] 41) = u := ⟨_, rfl⟩
      obtain ⟨lb, b2, z2⟩ := new_two hw2
      have B2 : Hid (Below w1.heap.size w1 w2) := Lib.hid (BR.out.trans (b2.mono BR.out.size))
      obtain ⟨l0, l1⟩ := two_cells lb
      clear hx lb b2 z2 pbr
      by_cases hid : l.id ≤ a
      · have hz : (l.id : Int) ≤ (a : Int) := by omega
        have R2 : Hid (T9.rightE ⟨ls, tks ms⟩ = 91) := Lib.hid (by
          have : T9.listsE 0 ls = 91 := by rw [U2.out]; unfold T9.listsE; rw [if_pos hid]
          rw [R.out, this]; rfl)
        go_wp2
        go_ret
        exact ⟨ret_i64 R2.out.symm, B1.out.trans (B2.out.mono B1.out.size)⟩
      · have hz : ¬ ((l.id : Int) ≤ (a : Int)) := by omega
        have NI := Lib.hid hid
        have TC := title_c l.name SH.out
        clear hid
        cases hT : T9.title l.name with
        | false =>
          rw [hT] at TC
          have R2 : Hid (T9.rightE ⟨ls, tks ms⟩ = 94) := Lib.hid (by
            have : T9.listsE 0 ls = 94 := by rw [U2.out]; unfold T9.listsE; rw [if_neg NI.out, if_pos hT]
            rw [R.out, this]; rfl)
          clear hT
          go_wp2_with (go_at_call 20; refine (TC _).mono ?_; rintro e w' ⟨rfl, rfl⟩)
          go_ret
          exact ⟨ret_i64 R2.out.symm, B1.out.trans (B2.out.mono B1.out.size)⟩
        | true =>
          rw [hT] at TC
          have U3 : Hid (T9.listsE 0 ls = T9.listsE l.id (ls.drop (i + 1))) := Lib.hid (U2.out.trans (listsE_step NI.out hT))
          clear hT
          go_wp2_with (go_at_call 20; refine (TC _).mono ?_; rintro e w' ⟨rfl, rfl⟩)
          go_roundw
          case rel => exact ⟨l.id, i + 1, rfl, by go_num, by omega, U3, B2.out⟩
          case measure => simp [intOf]; omega
    · obtain rfl : i = n1 := by omega
      have hltz : ¬ ((i : Int) < (i : Int)) := by omega
      have R2 : Hid (T9.rightE ⟨ls, tks ms⟩ = T9.tasksE ls 0 (tks ms)) := Lib.hid (by
        have : T9.listsE 0 ls = 0 := by rw [hU.out, E1.out, List.drop_length]; rfl
        rw [R.out, this]; rfl)
      have RT := Lib.hid (rightTasks_c (HL.out.stay BR.out) (HK.out.stay BR.out) E1.out E2.out HS.out HBC.out)
      obtain ⟨r0, r1⟩ := two_cells pbr
      clear pbr
      go_wp2_with fail
      refine RT.out.mono ?_
      rintro e w4 ⟨rfl, h4⟩
      have H4 := Lib.hid h4
      clear h4
      go_wp2
      go_ret
      exact ⟨ret_i64 R2.out.symm, B1.out.trans ((BR.out.trans (H4.out.mono BR.out.size)).mono B1.out.size)⟩
end Go.Proofs.Ytbgdmmemahfpbaa
