/- Stage 10: the order that a user chooses, and ranks between, of plain tasks. -/
import Derived.Test.YtnhpkcphgdkdiaaTp
import Derived.Test.YtnhpkcphgdkdiaaTa
namespace Go.Proofs.Ytnhpkcphgdkdiaa
set_option maxRecDepth 100000

namespace Sr
section
variable {α : Type} {lt : α → α → Bool}
theorem stb_perm [DecidableEq α] (h : WO lt) {l r : List α} (s : Stb lt l r) : r.Perm l := by
  rw [List.perm_iff_count]
  intro a
  have e := congrArg (List.count a) (s a)
  rw [List.count_filter (eqv_self h a), List.count_filter (eqv_self h a)] at e
  exact e
/-- In order, and no two of them alike: strictly. -/
theorem srt_str {r : List α} (hs : Srt lt r) (hd : r.Pairwise fun a b => eqv lt a b = false) : Str lt r := by
  unfold Str Srt at *
  refine (hs.and hd).imp fun {a b} hk => ?_
  obtain ⟨h, k⟩ := hk
  unfold eqv at k
  rw [h] at k
  simpa using k
theorem perm_uniq (h : WO lt) : ∀ {l r : List α}, Str lt l → Str lt r → l.Perm r → l = r
  | [], r, _, _, p => (List.nil_perm.1 p).symm
  | x :: l, [], _, _, p => absurd (List.perm_nil.1 p) (by simp)
  | x :: l, y :: r, hl, hr, p => by
    have hl' := List.pairwise_cons.1 hl
    have hr' := List.pairwise_cons.1 hr
    have hx : x ∈ y :: r := p.mem_iff.1 List.mem_cons_self
    have hy : y ∈ x :: l := p.mem_iff.2 List.mem_cons_self
    have e : x = y := by
      rcases List.mem_cons.1 hx with q | q
      · exact q
      · rcases List.mem_cons.1 hy with q2 | q2
        · exact q2.symm
        · have a := hr'.1 x q
          have b := hl'.1 y q2
          rw [h.asym a] at b
          cases b
    subst e
    rw [perm_uniq h hl'.2 hr'.2 (List.Perm.cons_inv p)]
end
end Sr

namespace Fl
/-- The float of a count. -/
def flo (k : Nat) : Nat := FloatKind.f64.nearest (k : Int)
theorem flo_ok : ∀ k, k ≤ 80 → flo k < 18446744073709551616 ∧ isN (flo k) = false ∧ (I (flo k) == I (canon (flo k))) = true ∧ flo k < 9223372036854775808 := by
  intro k hk
  have q : ∀ k : Fin 81, flo k.1 < 18446744073709551616 ∧ isN (flo k.1) = false ∧ (I (flo k.1) == I (canon (flo k.1))) = true ∧ flo k.1 < 9223372036854775808 := by decide +kernel
  exact q ⟨k, by omega⟩
/-- Floats of counts lie apart, and below infinity. -/
theorem flo_far : ∀ k, k ≤ 79 → pl (flo k) + 2 ≤ pl (flo (k + 1)) := by
  intro k hk
  have q : ∀ k : Fin 80, pl (flo k.1) + 2 ≤ pl (flo (k.1 + 1)) := by decide +kernel
  exact q ⟨k, by omega⟩
def pInf : Nat := 9218868437227405312
def nInf : Nat := 18442240474082181120
theorem inf_ok : pInf < 18446744073709551616 ∧ nInf < 18446744073709551616 ∧ isN pInf = false ∧ isN nInf = false ∧ pl pInf = inf ∧ pl nInf = -(inf : Int) := by decide +kernel
theorem flo_inf : ∀ k, k ≤ 80 → pl nInf + 2 ≤ pl (flo k) ∧ pl (flo k) + 2 ≤ pl pInf := by
  intro k hk
  have q : ∀ k : Fin 81, pl nInf + 2 ≤ pl (flo k.1) ∧ pl (flo k.1) + 2 ≤ pl pInf := by decide +kernel
  exact q ⟨k, by omega⟩
theorem flo_lt {i j : Nat} (h : i < j) (hj : j ≤ 80) : pl (flo i) < pl (flo j) := by
  induction j with
  | zero => omega
  | succ j ih =>
    have q := flo_far j (by omega)
    rcases Nat.lt_or_ge i j with r | r
    · have := ih r (by omega)
      omega
    · obtain rfl : i = j := by omega
      omega
/-- Where there is room, there is a float in the middle. -/
theorem mid_room {a b : Nat} (h : isN a = false) (k : pl a + 2 ≤ pl b) : midOk a b = true := by
  unfold midOk
  rw [h, stp_yes (lt_true.2 (by omega))]
  simp
  omega
theorem at10 {p : Int} (h1 : -(inf : Int) ≤ p) (h2 : p ≤ inf) : pl (W (atI p)) = p ∧ W (atI p) < 18446744073709551616 := by
  rw [inf_eq] at h1 h2
  by_cases hp : p < 0
  · have e : atI p = two63 - p := by unfold atI; rw [if_pos hp]
    have hw : (W (atI p) : Int) = 9223372036854775808 - p := by rw [e, W_eq, two63_eq]; omega
    have h3 : two63 ≤ W (atI p) := by rw [two63_eq]; omega
    have h4 : W (atI p) < 2 * two63 := by rw [two63_eq]; omega
    have hn : isN (W (atI p)) = false := by rw [isN_min h3 h4, inf_eq, two63_eq]; exact decide_eq_false (by omega)
    refine ⟨?_, by omega⟩
    rw [pl_num hn, sv_min h3 h4, two63_eq]
    omega
  · have e : atI p = p := by unfold atI; rw [if_neg hp]
    have hw : (W (atI p) : Int) = p := by rw [e, W_eq]; omega
    have h3 : W (atI p) < two63 := by rw [two63_eq]; omega
    have hn : isN (W (atI p)) = false := by rw [isN_pos h3, inf_eq]; exact decide_eq_false (by omega)
    refine ⟨?_, by omega⟩
    rw [pl_num hn, sv_pos h3]
    omega
theorem mid_in {a b : Nat} (h : midOk a b = true) : pl a < pl (midW a b) ∧ pl (midW a b) < pl b ∧ midW a b < 18446744073709551616 := by
  have hm := h
  unfold midOk at h
  rw [Bool.and_eq_true, Bool.not_eq_true', Bool.not_eq_true'] at h
  obtain ⟨h1, h2⟩ := h
  have hs : stp a b ≠ 0 := fun q => by rw [q] at h2; simp at h2
  have hl : lt a b = true := by
    cases q : lt a b with
    | true => rfl
    | false => exact absurd (stp_no q) hs
  have e := stp_yes hl
  have l9 := lt_true.1 hl
  have b1 := pl_bound b
  have a1 := pl_bound a
  have r := at10 (p := pl a + 1 + stp a b / 2) (by omega) (by omega)
  unfold midW
  rw [if_pos hm, r.1]
  exact ⟨by omega, by omega, r.2⟩
end Fl

namespace T9
def ltR (a b : Tk) : Bool := Fl.lt a.rank b.rank || (!Fl.lt b.rank a.rank && decide (a.id < b.id))
theorem ltR_iff {a b : Tk} : ltR a b = true ↔ Fl.pl a.rank < Fl.pl b.rank ∨ (Fl.pl a.rank = Fl.pl b.rank ∧ a.id < b.id) := by
  unfold ltR
  rw [Bool.or_eq_true, Bool.and_eq_true, Fl.lt_true, Bool.not_eq_true', Fl.lt_false, decide_eq_true_iff]
  omega
theorem ltR_not {a b : Tk} : ltR a b = false ↔ Fl.pl b.rank < Fl.pl a.rank ∨ (Fl.pl a.rank = Fl.pl b.rank ∧ b.id ≤ a.id) := by
  rw [← Bool.not_eq_true, ltR_iff]
  omega
theorem woR : Sr.WO ltR := ⟨fun a => by rw [ltR_not]; exact .inr ⟨rfl, Nat.le_refl _⟩, fun a b c h k => by rw [ltR_iff] at *; omega, fun a b c h => by rw [ltR_iff, ltR_iff] at *; omega⟩
theorem eqvR {a b : Tk} (h : a.id ≠ b.id) : Sr.eqv ltR a b = false := by
  cases e : Sr.eqv ltR a b with
  | false => rfl
  | true =>
    unfold Sr.eqv at e
    rw [Bool.and_eq_true, Bool.not_eq_true', Bool.not_eq_true', ltR_not, ltR_not] at e
    omega
/-- The tasks of a list. -/
def inList (ts : List Tk) (list : Nat) : List Tk := ts.filter fun t => t.list == list
/-- r: the tasks of the list in order. -/
def Ordd (ts : List Tk) (list : Nat) (r : List Tk) : Prop := Sr.Srt ltR r ∧ Sr.Stb ltR (inList ts list) r
theorem Ordd.perm {ts r : List Tk} {list : Nat} (h : Ordd ts list r) : r.Perm (inList ts list) := Sr.stb_perm woR h.2
/-- Ids unlike. -/
def Uni (ts : List Tk) : Prop := ts.Pairwise fun a b => a.id ≠ b.id
theorem Uni.filter {ts : List Tk} (h : Uni ts) (p : Tk → Bool) : Uni (ts.filter p) := List.Pairwise.filter p h
theorem Uni.perm {l r : List Tk} (h : Uni l) (p : r.Perm l) : Uni r := (p.pairwise_iff (fun q => Ne.symm q)).2 h
theorem Uni.str {r : List Tk} (h : Uni r) (hs : Sr.Srt ltR r) : Sr.Str ltR r := Sr.srt_str hs (h.imp fun q => eqvR q)
theorem Ordd.str {ts r : List Tk} {list : Nat} (h : Ordd ts list r) (u : Uni ts) : Sr.Str ltR r := ((u.filter _).perm h.perm).str h.1
theorem Ordd.is {ts r x : List Tk} {list : Nat} (h : Ordd ts list r) (u : Uni ts) (hx : Sr.Str ltR x) (p : x.Perm (inList ts list)) : r = x := Sr.perm_uniq woR (h.str u) hx (h.perm.trans p.symm)

/-- Where a task stands. -/
def plc (l : List Tk) (id : Nat) : Option Nat := l.findIdx? fun t => t.id == id
/-- The lower and the higher neighbour of what comes behind 'after'. -/
def btw (is : Bool) (l : List Tk) (after : Nat) : Nat × Int :=
  if is = false then (0, 91) else
  if after = 0 then (if Fl.midOk Fl.nInf ((l[0]?.map (·.rank)).getD Fl.pInf) = true then (Fl.midW Fl.nInf ((l[0]?.map (·.rank)).getD Fl.pInf), 0) else (0, 100)) else
  match plc l after with
  | none => (0, 93)
  | some k => if Fl.midOk ((l[k]?.map (·.rank)).getD 0) ((l[k + 1]?.map (·.rank)).getD Fl.pInf) = true then (Fl.midW ((l[k]?.map (·.rank)).getD 0) ((l[k + 1]?.map (·.rank)).getD Fl.pInf), 0) else (0, 100)
end T9
end Go.Proofs.Ytnhpkcphgdkdiaa
