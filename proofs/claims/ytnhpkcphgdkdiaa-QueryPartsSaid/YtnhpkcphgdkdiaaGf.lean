/- Stage 13: why nothing is told; the tasks that hold. -/
import Derived.Test.YtnhpkcphgdkdiaaGe
namespace Go.Proofs.Ytnhpkcphgdkdiaa
set_option maxRecDepth 100000
set_option linter.unusedSimpArgs false
section
open Go.RowKit Go.Lib Go.Shelf Go.Sort
namespace T9
def badQ (q : Qr) : Bool := decide (q.done < 0) || decide (2 < q.done) || decide (q.sort < 0) || decide (3 < q.sort) || decide (q.limit < 0)
/-- The error for which nothing is told. -/
def wrongE (ls : List Li) (q : Qr) : Int := if badQ q = true then 130 else if q.list ≠ 0 ∧ (findL ls q.list).2 = false then 91 else 0
end T9
set_option maxRecDepth 100000 in
set_option maxHeartbeats 4000000 in
theorem wrong13_c {A A2 : Option Addr} {n1 n2 c c2 : Nat} {ls : List T9.Li} {q : T9.Qr} {w : World} (hl : LL w A ls) (e1 : n1 = ls.length) (hs : n1 ≤ 1000000) :
    Calls Try.prog 17 #[.agg #[.slice A n1 c, .slice A2 n2 c2], .agg (qcells q)] w fun e w' => e = .returned (.int .i64 (T9.wrongE ls q)) ∧ Below w.heap.size w w' := by
  obtain ⟨ql, qd, qt, qs, qw, qm⟩ := q
  unfold qcells
  dsimp only
  obtain ⟨w1, hw1⟩ : ∃ u, w.alloc (.cells #[.slice A n1 c, .slice A2 n2 c2] 25) = u := ⟨_, rfl⟩
  obtain ⟨lb, b1, z1⟩ := new_two hw1
  obtain ⟨w2, hw2⟩ : ∃ u, w1.alloc (.cells #[.int .u64 (ql : Int), .int .i64 qd, .string (str qt), .int .i64 qs, .bool qw, .int .i64 qm] 28) = u := ⟨_, rfl⟩
  obtain ⟨pb, b2, z2⟩ := new_six13 hw2
  rw [z1] at pb
  have B2 : Hid (Below w.heap.size w w2) := Lib.hid (b1.trans (b2.mono (by omega)))
  have PB := Lib.hid pb
  have CL := Lib.hid (fun (u : World) (hu : Below w2.heap.size w2 u) => lists_c (A2 := A2) (n2 := n2) (c := c) (c2 := c2) ((hl.stay B2.out).stay hu) e1 hs ql)
  have LB2 := blk_keep lb b2
  obtain ⟨l0, l1⟩ := two_cells LB2
  obtain ⟨p0, p1, p2, p3, p4, p5⟩ := six_cells13 pb
  clear lb b1 pb b2 z2 hl LB2 e1
  by_cases bad : T9.badQ ⟨ql, qd, qt, qs, qw, qm⟩ = true
  · have RE : Hid (T9.wrongE ls ⟨ql, qd, qt, qs, qw, qm⟩ = 130) := Lib.hid (by unfold T9.wrongE; rw [if_pos bad])
    have W : (qd < 0) ∨ (¬ qd < 0 ∧ 2 < qd) ∨ (¬ qd < 0 ∧ ¬ 2 < qd ∧ qs < 0) ∨ (¬ qd < 0 ∧ ¬ 2 < qd ∧ ¬ qs < 0 ∧ 3 < qs) ∨ (¬ qd < 0 ∧ ¬ 2 < qd ∧ ¬ qs < 0 ∧ ¬ 3 < qs ∧ qm < 0) := by
      unfold T9.badQ at bad
      simp only [Bool.or_eq_true, decide_eq_true_eq] at bad
      omega
    clear bad
    rcases W with h1 | ⟨h1, h2⟩ | ⟨h1, h2, h3⟩ | ⟨h1, h2, h3, h4⟩ | ⟨h1, h2, h3, h4, h5⟩
    all_goals
      go_enter Try.func17, Try.ntmps17
      go_wp2
      go_ret
      exact ⟨ret_i64 RE.out.symm, B2.out⟩
  · have bad2 : T9.badQ ⟨ql, qd, qt, qs, qw, qm⟩ = false := by simpa using bad
    have h : ¬ qd < 0 ∧ ¬ 2 < qd ∧ ¬ qs < 0 ∧ ¬ 3 < qs ∧ ¬ qm < 0 := by
      unfold T9.badQ at bad2
      simp only [Bool.or_eq_false_iff, decide_eq_false_iff_not] at bad2
      omega
    obtain ⟨h1, h2, h3, h4, h5⟩ := h
    obtain ⟨fl, hf⟩ : ∃ l, T9.findL ls ql = l := ⟨_, rfl⟩
    obtain ⟨⟨li, ln⟩, lb⟩ := fl
    have CF := Lib.hid (CL.out w2 (Below.refl _ _))
    unfold FLOk at CF
    rw [hf] at CF
    unfold encL at CF
    dsimp only at CF
    have W : (Hid (T9.wrongE ls ⟨ql, qd, qt, qs, qw, qm⟩ = 0) ∧ ((ql : Int) != 0) = false) ∨ (Hid (T9.wrongE ls ⟨ql, qd, qt, qs, qw, qm⟩ = 0) ∧ ((ql : Int) != 0) = true ∧ lb = true) ∨ (Hid (T9.wrongE ls ⟨ql, qd, qt, qs, qw, qm⟩ = 91) ∧ ((ql : Int) != 0) = true ∧ lb = false) := by
      unfold T9.wrongE
      dsimp only
      rw [if_neg bad, hf]
      by_cases e : ql = 0
      · exact .inl ⟨Lib.hid (by rw [if_neg (fun z => z.1 e)]), by simp [e]⟩
      · cases lb with
        | true => exact .inr (.inl ⟨Lib.hid (by rw [if_neg (by simp)]), by simp; omega, rfl⟩)
        | false => exact .inr (.inr ⟨Lib.hid (by rw [if_pos ⟨e, rfl⟩]), by simp; omega, rfl⟩)
    clear bad bad2 hf CL
    rcases W with ⟨RE, e1⟩ | ⟨RE, e1, rfl⟩ | ⟨RE, e1, rfl⟩
    all_goals
      go_enter Try.func17, Try.ntmps17
      go_wp2_with fail
      refine CF.out.mono ?_
      rintro e w3 ⟨rfl, h3⟩
      obtain ⟨w4, hw4⟩ : ∃ u, w3.alloc (.cells #[.int .u64 (li : Int), .string (str ln)] 49) = u := ⟨_, rfl⟩
      obtain ⟨_, b4, _⟩ := new_two hw4
      have B4 : Hid (Below w2.heap.size w2 w4) := Lib.hid (h3.trans (b4.mono h3.size))
      obtain ⟨p0, p1, p2, p3, p4, p5⟩ := six_cells13 (blk_keep PB.out B4.out)
      clear h3 b4
      go_wp2
      go_ret
      exact ⟨ret_i64 RE.out.symm, B2.out.trans (B4.out.mono B2.out.size)⟩

theorem own_down13 {w : World} {B B' size n : Nat} {e : TypeId} {v : Value} {xs : List Value} (h : w.ownsRow B e size v n xs) (hB : B' ≤ B) : w.ownsRow B' e size v n xs := by
  refine ⟨h.1, h.2.imp id ?_⟩
  rintro ⟨g, cap, cur, e, hb, r⟩
  exact ⟨g, cap, cur, e, Nat.le_trans hB hb, r⟩
/-- The tasks that hold: a row of the call's own. -/
def HeldOk (ms : List MTk) (q : T9.Qr) (w : World) (e : Ending) (w' : World) : Prop :=
  ∃ A c xs, e = .returned (.slice A xs.length c) ∧ w'.ownsRow w.heap.size 32 7 (.slice A xs.length c) xs.length (tkcells xs) ∧ xs = ms.filter (fun m => T9.holds q m.t) ∧ Below w.heap.size w w'
set_option maxRecDepth 100000 in
set_option maxHeartbeats 4000000 in
theorem held13_c {A A2 : Option Addr} {n1 n2 c c2 : Nat} {ms : List MTk} {q : T9.Qr} {w : World} (hk : KL w A2 ms) (e2 : n2 = ms.length) (hs : n2 ≤ 1000000) (hg : ∀ m ∈ ms, m.t.tags.length ≤ 1000000) :
    Calls Try.prog 18 #[.agg #[.slice A n1 c, .slice A2 n2 c2], .agg (qcells q)] w (HeldOk ms q w) := by
  have E2 := Lib.hid e2
  have HG := Lib.hid hg
  have CH := Lib.hid (fun (u : World) (m : MTk) (hf : m.fine u) (hs : m.t.tags.length ≤ 1000000) => holds13_c (q := q) hf hs)
  obtain ⟨ql, qd, qt, qs, qw, qm⟩ := q
  unfold qcells at CH ⊢
  dsimp only at CH ⊢
  obtain ⟨w0, hw0⟩ : ∃ u, w.alloc (.cells #[.slice A n1 c, .slice A2 n2 c2] 25) = u := ⟨_, rfl⟩
  obtain ⟨lb, b1, z1⟩ := new_two hw0
  obtain ⟨w1, hw1⟩ : ∃ u, w0.alloc (.cells #[.int .u64 (ql : Int), .int .i64 qd, .string (str qt), .int .i64 qs, .bool qw, .int .i64 qm] 28) = u := ⟨_, rfl⟩
  obtain ⟨pb, b2, z2⟩ := new_six13 hw1
  rw [z1] at pb
  have B1 : Hid (Below w.heap.size w w1) := Lib.hid (b1.trans (b2.mono (by omega)))
  have PB := Lib.hid pb
  have HK := Lib.hid (hk.stay B1.out)
  have LB2 := blk_keep lb b2
  obtain ⟨l0, l1⟩ := two_cells LB2
  clear lb b1 pb b2 z2 hk LB2 e2 hg
  go_enter Try.func18, Try.ntmps18
  go_wp2_with fail
  go_loopw [5, 11] (fun s5 s11 wr => ∃ (i k : Nat) (A3 : Option Addr) (c3 : Nat) (xs : List MTk), s11 = .int .i64 i ∧ i ≤ n2 ∧ s5 = .slice A3 k c3 ∧ k ≤ i ∧ Aside (wr.ownsRow w1.heap.size 32 7 (.slice A3 k c3) k (tkcells xs)) ∧ Aside (Below w1.heap.size w1 wr) ∧ Hid (xs.length = k ∧ xs = (ms.take i).filter (fun m => T9.holds ⟨ql, qd, qt, qs, qw, qm⟩ m.t))) (fun _ s11 _ => n2 - (intOf s11).toNat)
  case atStart => exact ⟨0, 0, none, 0, [], rfl, Nat.zero_le _, rfl, Nat.le_refl _, World.ownsRow_nil _ _ _ _, Below.refl _ _, Lib.hid ⟨rfl, rfl⟩⟩
  case round =>
    obtain ⟨i, k, A3, c3, xs, rfl, hi, rfl, hki, hO, hB, HI⟩ := hrel
    have OW := Lib.hid hO.out
    have BR := Lib.hid hB.out
    clear hO hB
    by_cases hlt : i < n2
    · have hltz : (i : Int) < (n2 : Int) := by omega
      obtain ⟨ad, ⟨tk, A4, c4⟩, hA, hx, hf, r0, r1, r2, r3, r4, r5, r6⟩ := (HK.out.stay BR.out).at_ (k := i) (by have := E2.out; omega)
      subst hA
      have X := Lib.hid hx
      have FI := Lib.hid hf
      dsimp only at r0 r1 r2 r3 r4 r5 r6
      obtain ⟨w2, hw2⟩ : ∃ u, wr.alloc (.cells #[.int .u64 (tk.id : Int), .int .u64 (tk.list : Int), .string (str tk.title), .bool tk.done, .float .f64 tk.rank, .float .f64 tk.est, .slice A4 tk.tags.length c4] 32) = u := ⟨_, rfl⟩
      obtain ⟨lb, b2, z2⟩ := new_seven hw2
      have B2 := Lib.hid b2
      have LB := Lib.hid lb
      obtain ⟨l0, l1, l2, l3, l4, l5, l6⟩ := seven_cells lb
      obtain ⟨p0, p1, p2, p3, p4, p5⟩ := six_cells13 (blk_keep (blk_keep PB.out BR.out) b2)
      have TKI : Hid (ms.take (i + 1) = ms.take i ++ [⟨tk, A4, c4⟩]) := Lib.hid (take_nxt X.out)
      have CC := Lib.hid (CH.out w2 ⟨tk, A4, c4⟩ (FI.out.stay B2.out) (HG.out _ (List.mem_of_getElem? X.out)))
      unfold encK at CC
      dsimp only at CC
      obtain ⟨b, hb⟩ : ∃ b, T9.holds ⟨ql, qd, qt, qs, qw, qm⟩ tk = b := ⟨_, rfl⟩
      rw [hb] at CC
      have HB := Lib.hid hb
      clear hx hf lb b2 hb
      cases b with
      | true =>
        have FL : Hid ((ms.take (i + 1)).filter (fun m => T9.holds ⟨ql, qd, qt, qs, qw, qm⟩ m.t) = xs ++ [⟨tk, A4, c4⟩]) := Lib.hid (by
          rw [TKI.out, List.filter_append, ← HI.out.2]
          simp [HB.out])
        go_wp2_with fail
        refine CC.out.mono ?_
        rintro e w4 ⟨rfl, h4⟩
        have H4 := Lib.hid h4
        have B4 : Hid (Below wr.heap.size wr w4) := Lib.hid (B2.out.trans (h4.mono B2.out.size))
        obtain ⟨l0, l1, l2, l3, l4, l5, l6⟩ := seven_cells (blk_keep LB.out h4)
        have hbs := buildSlK9 ⟨tk, A4, c4⟩ w4
        unfold encK at hbs
        dsimp only at hbs
        have OW4 := Lib.hid (own_below OW.out B4.out)
        have OWE := Lib.hid (OW4.out.alloc (.cells #[.int .u64 (tk.id : Int), .int .u64 (tk.list : Int), .string (str tk.title), .bool tk.done, .float .f64 tk.rank, .float .f64 tk.est, .slice A4 tk.tags.length c4] 32))
        have LE : Hid (Lies (w4.alloc (.cells #[.int .u64 (tk.id : Int), .int .u64 (tk.list : Int), .string (str tk.title), .bool tk.done, .float .f64 tk.rank, .float .f64 tk.est, .slice A4 tk.tags.length c4] 32)) 0 32 (some ⟨w4.heap.size, 0, none⟩) (encK ⟨tk, A4, c4⟩)) := Lib.hid (Lies.of_blk (heap_alloc_new w4 _))
        have zz : w1.heap.size ≤ w4.heap.size := Nat.le_trans BR.out.size B4.out.size
        have ZZ := Lib.hid zz
        obtain ⟨ti0, thi, tz0, tz1, tz2⟩ := info_parts Try.infoTk9
        clear h4
        go_wp2_with (at_builtin; refine wpList_app _ rfl _ _ 23 rfl w1.heap.size 32 ti0 _ 7 80 Try.underlying23 thi tz0 tz1 tz2 rfl (by decide) _ k (tkcells xs) rfl OWE.out 0 _ 1 1 (encK ⟨tk, A4, c4⟩) 32 rfl rfl LE.out (encK_one _) (by unfold maxLen; omega) (by omega) (by simp; omega) ?_)
        intro v6 w6 hown6 hgrow6 hor6
        obtain ⟨A6, k6, rfl⟩ := own_slice hown6
        have T6 : Hid (Tch w1.heap.size [32] w4 w6) := Lib.hid (((Tch.refl w1.heap.size [32] w4).alloc ZZ.out (.cells #[.int .u64 (tk.id : Int), .int .u64 (tk.list : Int), .string (str tk.title), .bool tk.done, .float .f64 tk.rank, .float .f64 tk.est, .slice A4 tk.tags.length c4] 32)).trans (grown_tch (B := w1.heap.size) (ts := [32]) OWE.out hgrow6 (Nat.le_refl _) (by have := ZZ.out; simp; omega) (by simp)))
        have HO6 := Lib.hid hown6
        clear hown6 hgrow6 hor6 hbs l0 l1 l2 l3 l4 l5 l6 zz
        go_wp2
        go_roundw
        case rel =>
          refine ⟨i + 1, k + 1, A6, k6, xs ++ [⟨tk, A4, c4⟩], by go_num, by omega, rfl, by omega, ?_, (BR.out.trans (B4.out.mono BR.out.size)).trans T6.out.below, Lib.hid ⟨by rw [List.length_append, HI.out.1]; rfl, FL.out.symm⟩⟩
          rw [tkcells_snoc]
          exact HO6.out
        case measure => simp [intOf]; omega
      | false =>
        have FL : Hid ((ms.take (i + 1)).filter (fun m => T9.holds ⟨ql, qd, qt, qs, qw, qm⟩ m.t) = xs) := Lib.hid (by
          rw [TKI.out, List.filter_append, ← HI.out.2]
          simp [HB.out])
        go_wp2_with fail
        refine CC.out.mono ?_
        rintro e w4 ⟨rfl, h4⟩
        have B4 : Hid (Below wr.heap.size wr w4) := Lib.hid (B2.out.trans (h4.mono B2.out.size))
        clear h4
        go_wp2
        go_roundw
        case rel => exact ⟨i + 1, k, A3, c3, xs, by go_num, by omega, rfl, by omega, own_below OW.out B4.out, BR.out.trans (B4.out.mono BR.out.size), Lib.hid ⟨HI.out.1, FL.out.symm⟩⟩
        case measure => simp [intOf]; omega
    · obtain rfl : i = n2 := by omega
      have hltz : ¬ ((i : Int) < (i : Int)) := by omega
      go_wp2
      go_ret
      have h2 := HI.out.2
      rw [E2.out, List.take_length] at h2
      have ow := OW.out
      rw [← HI.out.1] at ow
      exact ⟨A3, c3, xs, by rw [HI.out.1]; rfl, own_down13 ow B1.out.size, h2, B1.out.trans (BR.out.mono B1.out.size)⟩
end
end Go.Proofs.Ytnhpkcphgdkdiaa
