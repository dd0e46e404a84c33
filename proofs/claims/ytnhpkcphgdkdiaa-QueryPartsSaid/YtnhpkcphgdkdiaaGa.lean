/- Stage 13: queries of plain values; which tasks hold, in the code's words. -/
import Derived.Test.YtnhpkcphgdkdiaaKc
import Derived.Test.YtnhpkcphgdkdiaaTaa
namespace Go.Proofs.Ytnhpkcphgdkdiaa
set_option maxRecDepth 100000
set_option linter.unusedSimpArgs false
section
open Go.RowKit Go.Lib Go.Shelf
namespace T9
/-- A query. -/
structure Qr where
  list : Nat
  done : Int
  tag : List UInt8
  sort : Int
  down : Bool
  limit : Int
def okDone (d : Int) (b : Bool) : Bool := d == 0 || d == 1 && b || d == 2 && !b
def okTag (g : List UInt8) (ts : List (List UInt8)) : Bool := decide (g = []) || decide (g ∈ ts)
def okList (q l : Nat) : Bool := decide (q = 0) || decide (q = l)
/-- Whether a task holds. -/
def holds (q : Qr) (t : Tk) : Bool := okList q.list t.list && okDone q.done t.done && okTag q.tag t.tags
end T9
def qcells (q : T9.Qr) : Array Value := #[.int .u64 (q.list : Int), .int .i64 q.done, .string (str q.tag), .int .i64 q.sort, .bool q.down, .int .i64 q.limit]
theorem new_six13 {w : World} {a b c d e f : Value} {t : TypeId} {u : World} (h : w.alloc (.cells #[a, b, c, d, e, f] t) = u) : u.heap[w.heap.size]? = some (.cells #[a, b, c, d, e, f] t (0, 0)) ∧ Below w.heap.size w u ∧ u.heap.size = w.heap.size + 1 := by
  subst h
  exact ⟨heap_alloc_new w _, (Below.refl _ _).alloc (Nat.le_refl _) _, by simp⟩
theorem six_cells13 {w : World} {p : Nat} {t : TypeId} {a b c d e f : Value} {fr : Nat × Nat} (h : w.heap[p]? = some (.cells #[a, b, c, d, e, f] t fr)) : w.cell? ⟨p, 0, none⟩ = some a ∧ w.cell? ⟨p, 1, none⟩ = some b ∧ w.cell? ⟨p, 2, none⟩ = some c ∧ w.cell? ⟨p, 3, none⟩ = some d ∧ w.cell? ⟨p, 4, none⟩ = some e ∧ w.cell? ⟨p, 5, none⟩ = some f := by
  simp [World.cell?, h]

set_option maxHeartbeats 1000000 in
theorem indexS13_c {A : Option Addr} {n c : Nat} {ts : List (List UInt8)} {w : World} (h : GL w A ts) (hn : n = ts.length) (hs : n ≤ 1000000) (g : List UInt8) :
    Calls Try.prog 32 #[.slice A n c, .string (str g)] w fun e w' => (∃ i : Int, e = .returned (.int .i64 i) ∧ decide (0 ≤ i) = decide (g ∈ ts)) ∧ w = w' := by
  have H := Lib.hid h
  have HN := Lib.hid hn
  clear h hn
  go_enter Try.func32, Try.ntmps32
  go_wp2_with fail
  go_loopw [8] (fun s wr => ∃ k : Nat, k ≤ n ∧ s = .int .i64 k ∧ Hid (¬ g ∈ ts.take k) ∧ wr = w) (fun s _ => n - (intOf s).toNat)
  case atStart => exact ⟨0, Nat.zero_le _, rfl, Lib.hid (by simp), rfl⟩
  case round =>
    obtain ⟨k, hk, rfl, HE, rfl⟩ := hrel
    by_cases hlt : k < n
    · obtain ⟨ad, m, rfl, hm, hc⟩ := H.out.at_ (k := k) (by rw [← HN.out]; exact hlt)
      have HM := Lib.hid hm
      clear hm
      have k0 : 0 ≤ (k : Int) := by omega
      have k1 : (k : Int) < (n : Int) := by omega
      by_cases eq : g = m
      · have EQ := Lib.hid eq
        have q1 : (g == m) = true := by simp [eq]
        clear eq
        go_wp2
        go_ret
        exact ⟨⟨(k : Int), rfl, by rw [decide_eq_true (by omega : 0 ≤ (k : Int)), decide_eq_true (by rw [EQ.out]; exact List.mem_of_getElem? HM.out)]⟩, rfl⟩
      · have NE : Hid (¬ g ∈ ts.take (k + 1)) := Lib.hid (by
          rw [take_nxt HM.out]
          simp only [List.mem_append, List.mem_singleton, not_or]
          exact ⟨HE.out, eq⟩)
        have q1 : (g == m) = false := by simp [eq]
        clear eq
        go_wp2
        go_roundw
        case rel => exact ⟨k + 1, by omega, by go_num, NE, by trivial⟩
        case measure => simp [intOf]; omega
    · obtain rfl : k = n := by omega
      have k1 : ¬ (k : Int) < (k : Int) := by omega
      have HF := HE.out
      rw [HN.out, List.take_length] at HF
      have HF2 := Lib.hid HF
      clear HF
      go_wp2
      go_ret
      have HF3 := HF2.out
      exact ⟨⟨-1, rfl, by simp [HF3]⟩, rfl⟩
theorem contains13_c {A : Option Addr} {n c : Nat} {ts : List (List UInt8)} {w : World} (h : GL w A ts) (hn : n = ts.length) (hs : n ≤ 1000000) (g : List UInt8) :
    Calls Try.prog 16 #[.slice A n c, .string (str g)] w fun e w' => e = .returned (.bool (decide (g ∈ ts))) ∧ w = w' := by
  have C := Lib.hid (indexS13_c (c := c) h hn hs g)
  clear h hn
  go_enter Try.func16, Try.ntmps16
  go_wp2_with (go_at_call 32; refine C.out.mono ?_; rintro e w1 ⟨⟨i, rfl, hi⟩, rfl⟩; have HI := Lib.hid hi; clear hi)
  go_ret
  exact ⟨ret_bool HI.out, rfl⟩

set_option maxHeartbeats 1000000 in
theorem holdsDone13_c (m : MTk) (d : Int) (w : World) : Calls Try.prog 15 #[.agg (encK m).toArray, .int .i64 d] w fun e w' => e = .returned (.bool (T9.okDone d m.t.done)) ∧ Below w.heap.size w w' := by
  obtain ⟨tk, A4, c4⟩ := m
  unfold encK
  dsimp only
  obtain ⟨w1, hw1⟩ : ∃ u, w.alloc (.cells #[.int .u64 (tk.id : Int), .int .u64 (tk.list : Int), .string (str tk.title), .bool tk.done, .float .f64 tk.rank, .float .f64 tk.est, .slice A4 tk.tags.length c4] 32) = u := ⟨_, rfl⟩
  obtain ⟨lb, b1, z1⟩ := new_seven hw1
  obtain ⟨l0, l1, l2, l3, l4, l5, l6⟩ := seven_cells lb
  have B1 := Lib.hid b1
  clear lb b1 z1
  by_cases h0 : d = 0
  · subst h0
    go_enter Try.func15, Try.ntmps15
    go_wp2
    go_ret
    exact ⟨rfl, B1.out⟩
  · by_cases h1 : d = 1
    · subst h1
      go_enter Try.func15, Try.ntmps15
      go_wp2
      go_ret
      exact ⟨ret_bool (by cases tk.done <;> rfl), B1.out⟩
    · by_cases h2 : d = 2
      · subst h2
        go_enter Try.func15, Try.ntmps15
        go_wp2
        go_ret
        exact ⟨ret_bool (by cases tk.done <;> rfl), B1.out⟩
      · have q0 : (d == 0) = false := by simp [h0]
        have q1 : (d == 1) = false := by simp [h1]
        have q2 : (d == 2) = false := by simp [h2]
        clear h0 h1 h2
        go_enter Try.func15, Try.ntmps15
        go_wp2
        go_ret
        exact ⟨ret_bool (by unfold T9.okDone; rw [q0, q1, q2]; rfl), B1.out⟩

set_option maxRecDepth 100000 in
set_option maxHeartbeats 4000000 in
theorem holds13_c {m : MTk} {q : T9.Qr} {w : World} (hf : m.fine w) (hs : m.t.tags.length ≤ 1000000) : Calls Try.prog 8 #[.agg (encK m).toArray, .agg (qcells q)] w fun e w' => e = .returned (.bool (T9.holds q m.t)) ∧ Below w.heap.size w w' := by
  have CD := fun (v : World) => holdsDone13_c m q.done v
  obtain ⟨tk, A4, c4⟩ := m
  obtain ⟨ql, qd, qt, qs, qw, qm⟩ := q
  unfold encK at CD ⊢
  unfold qcells T9.holds
  dsimp only at CD hs ⊢
  obtain ⟨w1, hw1⟩ : ∃ u, w.alloc (.cells #[.int .u64 (tk.id : Int), .int .u64 (tk.list : Int), .string (str tk.title), .bool tk.done, .float .f64 tk.rank, .float .f64 tk.est, .slice A4 tk.tags.length c4] 32) = u := ⟨_, rfl⟩
  obtain ⟨lb, b1, z1⟩ := new_seven hw1
  obtain ⟨w2, hw2⟩ : ∃ u, w1.alloc (.cells #[.int .u64 (ql : Int), .int .i64 qd, .string (str qt), .int .i64 qs, .bool qw, .int .i64 qm] 28) = u := ⟨_, rfl⟩
  obtain ⟨pb, b2, z2⟩ := new_six13 hw2
  rw [z1] at pb
  have B2 : Hid (Below w.heap.size w w2) := Lib.hid (b1.trans (b2.mono (by omega)))
  have LB := Lib.hid (blk_keep lb b2)
  have PB := Lib.hid pb
  have FI := Lib.hid hf
  have HS := Lib.hid hs
  have CDH := Lib.hid CD
  obtain ⟨l0, l1, l2, l3, l4, l5, l6⟩ := seven_cells LB.out
  obtain ⟨p0, p1, p2, p3, p4, p5⟩ := six_cells13 pb
  clear lb b1 pb b2 z2 hf hs CD
  by_cases hL : T9.okList ql tk.list = true
  rotate_left
  · have hL2 : T9.okList ql tk.list = false := by simpa using hL
    have e1 : ((ql : Int) == 0) = false := by unfold T9.okList at hL; simp at hL ⊢; omega
    have e2 : ((ql : Int) == (tk.list : Int)) = false := by unfold T9.okList at hL; simp at hL ⊢; omega
    have HL := Lib.hid hL2
    clear hL hL2
    go_enter Try.func8, Try.ntmps8
    go_wp2
    go_ret
    exact ⟨ret_bool (by rw [HL.out]; rfl), B2.out⟩
  have HL := Lib.hid hL
  have SP : ((ql : Int) == 0) = true ∨ (((ql : Int) == 0) = false ∧ ((ql : Int) == (tk.list : Int)) = true) := by
    unfold T9.okList at hL
    by_cases e : ql = 0
    · exact .inl (by simp [e])
    · simp [e] at hL
      exact .inr ⟨by simp; omega, by simp [hL]⟩
  clear hL
  obtain ⟨bd, hbd⟩ : ∃ b, T9.okDone qd tk.done = b := ⟨_, rfl⟩
  rw [hbd] at CDH ⊢
  clear hbd
  have TG : (Hid (qt = []) ∧ qt.isEmpty = true) ∨ (Hid (¬ qt = []) ∧ qt.isEmpty = false) := by
    cases qt with
    | nil => exact .inl ⟨Lib.hid rfl, rfl⟩
    | cons x t => exact .inr ⟨Lib.hid (by simp), rfl⟩
  cases bd with
  | false =>
    clear TG
    rcases SP with e1 | ⟨e1, e2⟩
    all_goals
      go_enter Try.func8, Try.ntmps8
      go_wp2_with (go_at_call 15; refine (CDH.out _).mono ?_; rintro e w3 ⟨rfl, h3⟩)
      go_ret
      exact ⟨ret_bool (by rw [HL.out]; rfl), B2.out.trans (h3.mono B2.out.size)⟩
  | true =>
    rcases TG with ⟨QE, e3⟩ | ⟨QE, e3⟩
    · rcases SP with e1 | ⟨e1, e2⟩
      all_goals
        go_enter Try.func8, Try.ntmps8
        go_wp2_with (go_at_call 15; refine (CDH.out _).mono ?_; rintro e w3 ⟨rfl, h3⟩; have H3 := Lib.hid h3; obtain ⟨l0, l1, l2, l3, l4, l5, l6⟩ := seven_cells (blk_keep LB.out h3); obtain ⟨p0, p1, p2, p3, p4, p5⟩ := six_cells13 (blk_keep PB.out h3); clear h3)
        go_ret
        exact ⟨ret_bool (by rw [HL.out]; unfold T9.okTag; rw [decide_eq_true QE.out]; rfl), B2.out.trans (H3.out.mono B2.out.size)⟩
    · have CC := Lib.hid (fun (v : World) (hv : Below w2.heap.size w2 v) => contains13_c (c := c4) (((FI.out.stay B2.out).stay hv).gl) rfl (by exact HS.out) qt)
      dsimp only at CC
      rcases SP with e1 | ⟨e1, e2⟩
      all_goals
        go_enter Try.func8, Try.ntmps8
        go_wp2_with (first | (go_at_call 15; refine (CDH.out _).mono ?_; rintro e w3 ⟨rfl, h3⟩; have H3 := Lib.hid h3; obtain ⟨l0, l1, l2, l3, l4, l5, l6⟩ := seven_cells (blk_keep LB.out h3); obtain ⟨p0, p1, p2, p3, p4, p5⟩ := six_cells13 (blk_keep PB.out h3); clear h3) | (go_at_call 16; refine (CC.out _ H3.out).mono ?_; rintro e w4 ⟨rfl, rfl⟩))
        go_ret
        exact ⟨ret_bool (by rw [HL.out]; unfold T9.okTag; rw [decide_eq_false QE.out]; simp), B2.out.trans (H3.out.mono B2.out.size)⟩
end
end Go.Proofs.Ytnhpkcphgdkdiaa
