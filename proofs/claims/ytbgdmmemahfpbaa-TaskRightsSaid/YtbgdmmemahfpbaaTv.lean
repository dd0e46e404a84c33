/- Stage 9: what is right: in plain words, and the code's. -/
import Derived.Test.YtbgdmmemahfpbaaTu
import Derived.Test.YtbgdmmemahfpbaaTq
namespace Go.Proofs.Ytbgdmmemahfpbaa
open Go.RowKit Go.Lib
set_option maxRecDepth 100000

namespace T9
def isC (b : Nat) : Bool := Fl.I b == Fl.I (Fl.canon b)
/-- Tags that rise behind a text, each of which may be. -/
def tagsUp : List UInt8 → List (List UInt8) → Bool
  | _, [] => true
  | a, t :: l => tag t && ltS a t && tagsUp t l
def fieldsE (t : Tk) : Int :=
  if title t.title = false then 94 else if (Fl.isN t.rank || !isC t.rank) = true then 100 else if isC t.est = false then 90 else if 4 < t.tags.length then 95 else if tagsUp [] t.tags = true then 0 else 94
def listsE (ahead : Nat) : List Li → Int
  | [] => 0
  | l :: r => if l.id ≤ ahead then 91 else if title l.name = false then 94 else listsE l.id r
def tasksE (ls : List Li) (ahead : Nat) : List Tk → Int
  | [] => 0
  | t :: r => if t.id ≤ ahead then 93 else if (ls.any fun l => l.id == t.list) = false then 91 else if fieldsE t ≠ 0 then fieldsE t else tasksE ls t.id r
def rightE (s : St) : Int :=
  if 20 < s.lists.length ∨ 60 < s.tasks.length then 95 else if listsE 0 s.lists ≠ 0 then listsE 0 s.lists else tasksE s.lists 0 s.tasks
/-- Texts that may be walked through. -/
def Tk.short (t : Tk) : Prop := t.title.length ≤ 1000000 ∧ (∀ x ∈ t.tags, x.length ≤ 1000000) ∧ t.tags.length ≤ 1000000
def St.short (s : St) : Prop := (∀ l ∈ s.lists, l.name.length ≤ 1000000) ∧ (∀ t ∈ s.tasks, t.short) ∧ s.lists.length ≤ 1000000 ∧ s.tasks.length ≤ 1000000
end T9
theorem le_yes {a x : List UInt8} (h : T9.ltS a x = false) : Op.bytesLess x a = true ∨ Op.bytesLess x a = false ∧ (x == a) = true := by
  have h : ¬ a < x := by simpa [T9.ltS] using h
  rcases List.le_iff_lt_or_eq.1 (List.not_lt.1 h) with r | r
  · exact .inl (less_yes r)
  · subst r
    exact .inr ⟨less_no (List.lt_irrefl _), by simp⟩
theorem le_no {a x : List UInt8} (h : T9.ltS a x = true) : Op.bytesLess x a = false ∧ (x == a) = false := by
  have h : a < x := by simpa [T9.ltS] using h
  refine ⟨less_no fun q => List.lt_irrefl _ (List.lt_trans q h), ?_⟩
  rw [beq_eq_false_iff_ne]
  rintro rfl
  exact List.lt_irrefl _ h
theorem taskIsCanon_c (b : Nat) (w : World) :
    Calls Try.prog 119 #[.float .f64 b] w fun e w' => e = .returned (.bool (T9.isC b)) ∧ w = w' := by
  go_enter Try.func119, Try.ntmps119
  go_wp2_with (first | (go_at_call 120; refine (float64bits_c _ _).mono ?_; rintro e w' ⟨rfl, rfl⟩) | (go_at_call 35; refine (canon_c _ _).mono ?_; rintro e w' ⟨rfl, rfl⟩))
  go_ret
  exact ⟨rfl, rfl⟩

set_option maxHeartbeats 1000000 in
theorem rightFields_c {m : MTk} {w : World} (hm : m.fine w) (hs : m.t.short) :
    Calls Try.prog 89 #[.agg (encK m).toArray] w fun e w' => e = .returned (.int .i64 (T9.fieldsE m.t)) ∧ Below w.heap.size w w' := by
  obtain ⟨tk, A, c⟩ := m
  have hm : (⟨tk, A, c⟩ : MTk).fine w := hm
  have hs : tk.short := hs
  show Calls Try.prog 89 #[.agg (encK ⟨tk, A, c⟩).toArray] w fun e w' => e = .returned (.int .i64 (T9.fieldsE tk)) ∧ Below w.heap.size w w'
  have HM := Lib.hid hm
  have HS := Lib.hid hs
  obtain ⟨w1, hw1⟩ : ∃ u, w.alloc (.cells #[.int .u64 (tk.id : Int), .int .u64 (tk.list : Int), .string (str tk.title), .bool tk.done, .float .f64 tk.rank, .float .f64 tk.est, .slice A tk.tags.length c] 37) = u := ⟨_, rfl⟩
  have pb : w1.heap[w.heap.size]? = some (.cells #[.int .u64 (tk.id : Int), .int .u64 (tk.list : Int), .string (str tk.title), .bool tk.done, .float .f64 tk.rank, .float .f64 tk.est, .slice A tk.tags.length c] 37 (0, 0)) := by rw [← hw1]; exact heap_alloc_new w _
  have B1 : Hid (Below w.heap.size w w1) := Lib.hid (by rw [← hw1]; exact (Below.refl _ w).alloc (Nat.le_refl _) _)
  have GL1 : Hid (GL w1 A tk.tags) := Lib.hid (hm.gl.stay B1.out)
  obtain ⟨p0, p1, p2, p3, p4, p5, p6⟩ := seven_cells pb
  have TC := title_c tk.title hs.1
  clear hm hs pb
  cases hT : T9.title tk.title with
  | false =>
    rw [hT] at TC
    have R : Hid (T9.fieldsE tk = 94) := Lib.hid (by unfold T9.fieldsE; rw [if_pos hT])
    clear hT
    unfold encK
    go_enter Try.func89, Try.ntmps89
    go_wp2_with (go_at_call 20; refine (TC _).mono ?_; rintro e w' ⟨rfl, rfl⟩)
    go_ret
    exact ⟨ret_i64 R.out.symm, B1.out⟩
  | true =>
    rw [hT] at TC
    have HT := Lib.hid hT
    clear hT
    cases hN : Fl.isN tk.rank with
    | true =>
      have R : Hid (T9.fieldsE tk = 100) := Lib.hid (by unfold T9.fieldsE; rw [if_neg (by rw [HT.out]; simp), if_pos (by rw [hN]; rfl)])
      unfold encK
      go_enter Try.func89, Try.ntmps89
      go_wp2_with (first | (go_at_call 20; refine (TC _).mono ?_; rintro e w' ⟨rfl, rfl⟩) | (go_at_call 87; refine (class_c _ _).mono ?_; rintro e w' ⟨rfl, rfl⟩) | (go_at_call 119; refine (taskIsCanon_c _ _).mono ?_; rintro e w' ⟨rfl, rfl⟩))
      go_ret
      exact ⟨ret_i64 R.out.symm, B1.out⟩
    | false =>
      cases hR : T9.isC tk.rank with
      | false =>
        have R : Hid (T9.fieldsE tk = 100) := Lib.hid (by unfold T9.fieldsE; rw [if_neg (by rw [HT.out]; simp), if_pos (by rw [hN, hR]; rfl)])
        unfold encK
        go_enter Try.func89, Try.ntmps89
        go_wp2_with (first | (go_at_call 20; refine (TC _).mono ?_; rintro e w' ⟨rfl, rfl⟩) | (go_at_call 87; refine (class_c _ _).mono ?_; rintro e w' ⟨rfl, rfl⟩) | (go_at_call 119; refine (taskIsCanon_c _ _).mono ?_; rintro e w' ⟨rfl, rfl⟩))
        go_ret
        exact ⟨ret_i64 R.out.symm, B1.out⟩
      | true =>
        have HNR : Hid ((Fl.isN tk.rank || !T9.isC tk.rank) = false) := Lib.hid (by rw [hN, hR]; rfl)
        cases hE : T9.isC tk.est with
        | false =>
          have R : Hid (T9.fieldsE tk = 90) := Lib.hid (by unfold T9.fieldsE; rw [if_neg (by rw [HT.out]; simp), if_neg (by rw [HNR.out]; simp), if_pos hE])
          unfold encK
          go_enter Try.func89, Try.ntmps89
          go_wp2_with (first | (go_at_call 20; refine (TC _).mono ?_; rintro e w' ⟨rfl, rfl⟩) | (go_at_call 87; refine (class_c _ _).mono ?_; rintro e w' ⟨rfl, rfl⟩) | (go_at_call 119; refine (taskIsCanon_c _ _).mono ?_; rintro e w' ⟨rfl, rfl⟩))
          go_ret
          exact ⟨ret_i64 R.out.symm, B1.out⟩
        | true =>
          have HE : Hid (T9.isC tk.est = true) := Lib.hid hE
          by_cases hL : 4 < tk.tags.length
          · have R : Hid (T9.fieldsE tk = 95) := Lib.hid (by unfold T9.fieldsE; rw [if_neg (by rw [HT.out]; simp), if_neg (by rw [HNR.out]; simp), if_neg (by rw [HE.out]; simp), if_pos hL])
            have hLz : (4 : Int) < (tk.tags.length : Int) := by omega
            unfold encK
            go_enter Try.func89, Try.ntmps89
            go_wp2_with (first | (go_at_call 20; refine (TC _).mono ?_; rintro e w' ⟨rfl, rfl⟩) | (go_at_call 87; refine (class_c _ _).mono ?_; rintro e w' ⟨rfl, rfl⟩) | (go_at_call 119; refine (taskIsCanon_c _ _).mono ?_; rintro e w' ⟨rfl, rfl⟩))
            go_ret
            exact ⟨ret_i64 R.out.symm, B1.out⟩
          · have R : Hid (T9.fieldsE tk = if T9.tagsUp [] tk.tags = true then 0 else 94) := Lib.hid (by unfold T9.fieldsE; rw [if_neg (by rw [HT.out]; simp), if_neg (by rw [HNR.out]; simp), if_neg (by rw [HE.out]; simp), if_neg hL])
            have hLz : ¬ ((4 : Int) < (tk.tags.length : Int)) := by omega
            obtain ⟨n, hn⟩ : ∃ n, n = tk.tags.length := ⟨_, rfl⟩
            have HNL := Lib.hid hn
            rw [← hn] at hw1 p6 hLz
            have hsm : n ≤ 4 := by omega
            unfold encK
            rw [← hn]
            clear hL hn
            go_enter Try.func89, Try.ntmps89
            go_wp2_with (first | (go_at_call 20; refine (TC _).mono ?_; rintro e w' ⟨rfl, rfl⟩) | (go_at_call 87; refine (class_c _ _).mono ?_; rintro e w' ⟨rfl, rfl⟩) | (go_at_call 119; refine (taskIsCanon_c _ _).mono ?_; rintro e w' ⟨rfl, rfl⟩))
            go_loopw [3, 35] (fun s3 s35 wr => ∃ (i : Nat) (a : List UInt8), s35 = .int .i64 i ∧ s3 = .string (str a) ∧ i ≤ n ∧ Hid (T9.tagsUp [] tk.tags = T9.tagsUp a (tk.tags.drop i)) ∧ w1 = wr) (fun _ s35 _ => n - (intOf s35).toNat)
            case atStart => exact ⟨0, [], rfl, rfl, Nat.zero_le _, Lib.hid rfl, rfl⟩
            case round =>
              obtain ⟨i, a, rfl, rfl, hi, hU, rfl⟩ := hrel
              by_cases hlt : i < n
              · have hltz : (i : Int) < (n : Int) := by omega
                obtain ⟨ad, x, hA, hx, hc⟩ := GL1.out.at_ (k := i) (by have := HNL.out; omega)
                subst hA
                have HX := Lib.hid (HS.out.2.1 x (List.mem_of_getElem? hx))
                have U2 : Hid (T9.tagsUp [] tk.tags = (T9.tag x && T9.ltS a x && T9.tagsUp x (tk.tags.drop (i + 1)))) := Lib.hid (by
                  obtain ⟨q1, q2⟩ := List.getElem?_eq_some_iff.1 hx
                  rw [hU.out, List.drop_eq_getElem_cons q1, q2]
                  rfl)
                have TG := tag_c x HX.out
                cases hg : T9.tag x with
                | false =>
                  rw [hg] at TG
                  have R2 : Hid (T9.fieldsE tk = 94) := Lib.hid (by rw [R.out, U2.out, hg]; rfl)
                  go_wp2_with (go_at_call 22; refine (TG _).mono ?_; rintro e w' ⟨rfl, rfl⟩)
                  go_ret
                  exact ⟨ret_i64 R2.out.symm, B1.out⟩
                | true =>
                  rw [hg] at TG
                  cases hl : T9.ltS a x with
                  | false =>
                    have R2 : Hid (T9.fieldsE tk = 94) := Lib.hid (by rw [R.out, U2.out, hg, hl]; rfl)
                    rcases le_yes hl with b1 | ⟨b1, b2⟩
                    all_goals
                      clear hg hl
                      go_wp2_with (go_at_call 22; refine (TG _).mono ?_; rintro e w' ⟨rfl, rfl⟩)
                      go_ret
                      exact ⟨ret_i64 R2.out.symm, B1.out⟩
                  | true =>
                    obtain ⟨b1, b2⟩ := le_no hl
                    have R2 := Lib.hid (show T9.tagsUp [] tk.tags = T9.tagsUp x (tk.tags.drop (i + 1)) by rw [U2.out, hg, hl]; rfl)
                    clear hg hl
                    go_wp2_with (go_at_call 22; refine (TG _).mono ?_; rintro e w' ⟨rfl, rfl⟩)
                    go_roundw
                    case rel => exact ⟨i + 1, x, by go_num, rfl, by omega, R2, by simp⟩
                    case measure => simp [intOf]; omega
              · obtain rfl : i = n := by omega
                have hltz : ¬ ((i : Int) < (i : Int)) := by omega
                go_wp2
                go_ret
                refine ⟨ret_i64 ?_, B1.out⟩
                rw [R.out, hU.out, HNL.out, List.drop_length]
                rfl
end Go.Proofs.Ytbgdmmemahfpbaa
