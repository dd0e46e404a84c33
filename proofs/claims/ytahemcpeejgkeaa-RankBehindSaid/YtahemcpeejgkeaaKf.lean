/- Stage 10: rank.Between, rank.At. -/
import Derived.Test.YtahemcpeejgkeaaKe
import Derived.Test.YtahemcpeejgkeaaTad
namespace Go.Proofs.Ytahemcpeejgkeaa
open Go.Shelf Go.RowKit Go.Lib Go.Sort
set_option maxRecDepth 100000

theorem addr_zero10 (a : Addr) : a.add 0 = a := by
  cases a
  unfold Addr.add
  split <;> simp_all
namespace T9
theorem btw_zero {l : List Tk} {h : Nat} {b : Bool} (e : ((l[0]?).map (·.rank)).getD Fl.pInf = h) (hm : Fl.midOk Fl.nInf h = b) : btw true l 0 = if b = true then (Fl.midW Fl.nInf h, 0) else (0, 100) := by
  subst hm
  unfold btw
  rw [if_neg (by decide), if_pos rfl, e]
theorem btw_none {l : List Tk} {after : Nat} (ha : after ≠ 0) (hp : plc l after = none) : btw true l after = (0, 93) := by
  unfold btw
  rw [if_neg (by decide), if_neg ha, hp]
theorem btw_some {l : List Tk} {after k lo h : Nat} {b : Bool} (ha : after ≠ 0) (hp : plc l after = some k) (el : ((l[k]?).map (·.rank)).getD 0 = lo) (e : ((l[k + 1]?).map (·.rank)).getD Fl.pInf = h) (hm : Fl.midOk lo h = b) : btw true l after = if b = true then (Fl.midW lo h, 0) else (0, 100) := by
  subst hm
  unfold btw
  rw [if_neg (by decide), if_neg ha, hp]
  simp only
  rw [el, e]
end T9

/-- What Between told: no list, or what lies between in some order of the list's tasks. -/
def BtwOk (ls : List T9.Li) (ts : List T9.Tk) (list after : Nat) (w : World) (e : Ending) (w' : World) : Prop :=
  ∃ (f : Nat) (er : Int), e = .returned (.tuple #[.float .f64 f, .int .i64 er]) ∧ Below w.heap.size w w' ∧ f < 18446744073709551616 ∧ (((T9.findL ls list).2 = false ∧ er = 91) ∨ ∃ l, T9.Ordd ts list l ∧ T9.btw true l after = (f, er))

set_option linter.unusedSimpArgs false in
set_option maxHeartbeats 4000000 in
set_option maxRecDepth 100000 in
theorem between_c {A A2 : Option Addr} {n1 n2 c c2 : Nat} {ls : List T9.Li} {ms : List MTk} {w : World} (hl : LL w A ls) (hk : KL w A2 ms) (e1 : n1 = ls.length) (e2 : n2 = ms.length) (h1 : n1 ≤ 1000000) (hs : n2 ≤ 1000000) (hsh : ∀ m ∈ ms, m.t.tags.length ≤ 1000000) (hr : ∀ m ∈ ms, m.t.rank < 18446744073709551616) (list after : Nat) :
    Calls Try.prog 10 #[.agg #[.slice A n1 c, .slice A2 n2 c2], .int .u64 (list : Int), .int .u64 (after : Int)] w (BtwOk ls (tks ms) list after w) := by
  obtain ⟨w1, hw1⟩ : ∃ u, w.alloc (.cells #[.slice A n1 c, .slice A2 n2 c2] 25) = u := ⟨_, rfl⟩
  obtain ⟨pb, b1, z1⟩ := new_two hw1
  have PB := Lib.hid pb
  have B1 := Lib.hid b1
  have LC := Lib.hid (lists_c (c := c) (A2 := A2) (n2 := n2) (c2 := c2) (hl.stay b1) e1 h1 list)
  have HK := Lib.hid (hk.stay b1)
  have HR := Lib.hid hr
  have SH := Lib.hid hsh
  have E2 := Lib.hid e2
  have HS := Lib.hid hs
  obtain ⟨p0, p1⟩ := two_cells pb
  clear hl hk e1 e2 h1 hs hsh hr pb b1 z1
  obtain ⟨is, his⟩ : ∃ b, (T9.findL ls list).2 = b := ⟨_, rfl⟩
  have IS := Lib.hid his
  obtain ⟨l9, hl9⟩ : ∃ l, (T9.findL ls list).1 = l := ⟨_, rfl⟩
  unfold FLOk at LC
  rw [hl9] at LC
  unfold encL at LC
  rw [his] at LC
  clear hl9
  clear his
  go_enter Try.func10, Try.ntmps10
  go_wp2_with fail
  refine LC.out.mono ?_
  rintro e wa ⟨rfl, ha⟩
  obtain ⟨w2, hw2⟩ : ∃ u, wa.alloc (.cells #[.int .u64 (l9.id : Int), .string (str l9.name)] 45) = u := ⟨_, rfl⟩
  have h2 : Below w1.heap.size w1 w2 := by rw [← hw2]; exact ha.alloc ha.size _
  clear ha
  have B2 := Lib.hid (B1.out.trans (h2.mono B1.out.size))
  have H2 := Lib.hid h2
  clear h2 p0 p1
  cases is with
  | false =>
    go_wp2_with fail
    go_ret2
    exact ⟨0, 91, rfl, B2.out, by decide, .inl ⟨IS.out, rfl⟩⟩
  | true =>
    obtain ⟨p0, p1⟩ := two_cells (blk_keep PB.out H2.out)
    have OC := Lib.hid (order_c (A := A) (n1 := n1) (c := c) (c2 := c2) (HK.out.stay H2.out) E2.out HS.out SH.out HR.out list)
    go_wp2_with fail
    refine OC.out.mono ?_
    rintro e w3 ⟨A3, c3, xs, rfl, hk3, hc3, ho3, h3, _, _⟩
    have B3 := Lib.hid (B2.out.trans (h3.mono B2.out.size))
    have K3 := Lib.hid hk3
    have O3 := Lib.hid ho3
    have RX : Hid (∀ t ∈ tks xs, t.rank < 18446744073709551616) := Lib.hid fun t ht => by
      have q := (List.mem_filter.1 (ho3.perm.mem_iff.1 ht)).1
      obtain ⟨m, hm, rfl⟩ := List.mem_map.1 q
      exact HR.out m hm
    obtain ⟨n3, hn3⟩ : ∃ n, n = xs.length := ⟨_, rfl⟩
    have N3 := Lib.hid hn3
    have NX : Hid (n3 ≤ 1000000) := Lib.hid (by
      have q := ho3.perm.length_eq
      rw [tks_len, ← hn3] at q
      rw [q]
      exact Nat.le_trans (List.length_filter_le _ _) (by rw [tks_len, ← E2.out]; exact HS.out))
    have nx := NX.out
    rw [← hn3]
    have ip := Fl.inf_ok.1
    have im := Fl.inf_ok.2.1
    clear hk3 hc3 ho3 h3 hn3 p0 p1
    by_cases ha : after = 0
    · subst ha
      have BF := B3
      have haz : (((0 : Nat) : Int) != 0) = false := by decide
      by_cases hz : 0 < n3
      · have hzz : (0 : Int) < (n3 : Int) := by omega
        obtain ⟨ad, m, hA, hx, _, r0, r1, r2, r3, r4, r5, r6⟩ := K3.out.at_ (k := 0) (by rw [← N3.out]; exact hz)
        subst hA
        rw [Nat.zero_mul, addr_zero10] at r4
        clear r0 r1 r2 r3 r5 r6
        have hrk := RX.out m.t (List.mem_of_getElem? (tks_at hx))
        have EH : Hid ((((tks xs)[0]?).map (·.rank)).getD Fl.pInf = m.t.rank) := Lib.hid (by rw [tks_at hx]; rfl)
        clear hx
        cases hm : Fl.midOk Fl.nInf m.t.rank with
        | false =>
          have EQ := Lib.hid (T9.btw_zero EH.out hm)
          go_wp2_with (first | (go_at_call 26; refine (infM10_c _).mono ?_; rintro e w' ⟨rfl, rfl⟩) | (go_at_call 26; refine (infP10_c _).mono ?_; rintro e w' ⟨rfl, rfl⟩) | (go_at_call 28; refine (mid_c _ _ _ (by assumption) (by assumption)).mono ?_; rintro e w' ⟨rfl, rfl⟩))
          go_ret2
          exact ⟨0, 100, rfl, BF.out, by decide, .inr ⟨tks xs, O3.out, EQ.out⟩⟩
        | true =>
          have EQ := Lib.hid (T9.btw_zero EH.out hm)
          go_wp2_with (first | (go_at_call 26; refine (infM10_c _).mono ?_; rintro e w' ⟨rfl, rfl⟩) | (go_at_call 26; refine (infP10_c _).mono ?_; rintro e w' ⟨rfl, rfl⟩) | (go_at_call 28; refine (mid_c _ _ _ (by assumption) (by assumption)).mono ?_; rintro e w' ⟨rfl, rfl⟩))
          go_ret2
          exact ⟨_, 0, rfl, BF.out, (Fl.mid_in hm).2.2, .inr ⟨tks xs, O3.out, EQ.out⟩⟩
      · have hzz : ¬ ((0 : Int) < (n3 : Int)) := by omega
        have EH : Hid ((((tks xs)[0]?).map (·.rank)).getD Fl.pInf = Fl.pInf) := Lib.hid (by rw [List.getElem?_eq_none (by rw [tks_len, ← N3.out]; omega)]; rfl)
        cases hm : Fl.midOk Fl.nInf Fl.pInf with
        | false =>
          have EQ := Lib.hid (T9.btw_zero EH.out hm)
          go_wp2_with (first | (go_at_call 26; refine (infM10_c _).mono ?_; rintro e w' ⟨rfl, rfl⟩) | (go_at_call 26; refine (infP10_c _).mono ?_; rintro e w' ⟨rfl, rfl⟩) | (go_at_call 28; refine (mid_c _ _ _ (by assumption) (by assumption)).mono ?_; rintro e w' ⟨rfl, rfl⟩))
          go_ret2
          exact ⟨0, 100, rfl, BF.out, by decide, .inr ⟨tks xs, O3.out, EQ.out⟩⟩
        | true =>
          have EQ := Lib.hid (T9.btw_zero EH.out hm)
          go_wp2_with (first | (go_at_call 26; refine (infM10_c _).mono ?_; rintro e w' ⟨rfl, rfl⟩) | (go_at_call 26; refine (infP10_c _).mono ?_; rintro e w' ⟨rfl, rfl⟩) | (go_at_call 28; refine (mid_c _ _ _ (by assumption) (by assumption)).mono ?_; rintro e w' ⟨rfl, rfl⟩))
          go_ret2
          exact ⟨_, 0, rfl, BF.out, (Fl.mid_in hm).2.2, .inr ⟨tks xs, O3.out, EQ.out⟩⟩
    · have haz : ((after : Int) != 0) = true := by simp; omega
      have HA := Lib.hid ha
      have PL := Lib.hid (rankPlace_c (c := c3) (id := after) K3.out N3.out nx)
      clear ha
      cases hp : T9.plc (tks xs) after with
      | none =>
        have EQ := Lib.hid (T9.btw_none HA.out hp)
        rw [T9.plcI_none hp] at PL
        clear hp
        go_wp2_with (first | (go_at_call 26; refine (infM10_c _).mono ?_; rintro e w' ⟨rfl, rfl⟩) | (go_at_call 27; refine PL.out.mono ?_; rintro e w4 ⟨rfl, h4⟩; have H4 := Lib.hid h4; clear h4))
        go_ret2
        exact ⟨0, 93, rfl, B3.out.trans (H4.out.mono B3.out.size), by decide, .inr ⟨tks xs, O3.out, EQ.out⟩⟩
      | some k =>
        rw [T9.plcI_some hp] at PL
        have HP := Lib.hid hp
        obtain ⟨t, ht, _⟩ := T9.plc_some hp
        have hkn : k < n3 := by have := (List.getElem?_eq_some_iff.1 ht).1; rw [tks_len, ← N3.out] at this; exact this
        clear ht hp
        go_wp2_with (go_at_call 26; refine (infM10_c _).mono ?_; rintro e w' ⟨rfl, rfl⟩)
        refine PL.out.mono ?_
        rintro e w4 ⟨rfl, h4⟩
        have BF := Lib.hid (B3.out.trans (h4.mono B3.out.size))
        have K4 := Lib.hid (K3.out.stay h4)
        clear h4
        obtain ⟨ad, m, hA, hx, _, r0, r1, r2, r3, r4, r5, r6⟩ := K4.out.at_ (k := k) (by rw [← N3.out]; exact hkn)
        subst hA
        have hrk := RX.out m.t (List.mem_of_getElem? (tks_at hx))
        have EL : Hid ((((tks xs)[k]?).map (·.rank)).getD 0 = m.t.rank) := Lib.hid (by rw [tks_at hx]; rfl)
        clear hx r0 r1 r2 r3 r5 r6
        have k0 : ¬ ((k : Int) < 0) := by omega
        have hkz : (k : Int) < (n3 : Int) := by omega
        by_cases hz : k + 1 < n3
        · have hzz : (k : Int) + 1 < (n3 : Int) := by omega
          obtain ⟨ad', m', hA, hx, _, q0, q1, q2, q3, q4, q5, q6⟩ := K4.out.at_ (k := k + 1) (by rw [← N3.out]; exact hz)
          injection hA with hA
          subst hA
          have hrk' := RX.out m'.t (List.mem_of_getElem? (tks_at hx))
          have EH : Hid ((((tks xs)[k + 1]?).map (·.rank)).getD Fl.pInf = m'.t.rank) := Lib.hid (by rw [tks_at hx]; rfl)
          clear hx q0 q1 q2 q3 q5 q6
          cases hm : Fl.midOk m.t.rank m'.t.rank with
          | false =>
            have EQ := Lib.hid (T9.btw_some HA.out HP.out EL.out EH.out hm)
            go_wp2_with (first | (go_at_call 26; refine (infM10_c _).mono ?_; rintro e w' ⟨rfl, rfl⟩) | (go_at_call 26; refine (infP10_c _).mono ?_; rintro e w' ⟨rfl, rfl⟩) | (go_at_call 28; refine (mid_c _ _ _ (by assumption) (by assumption)).mono ?_; rintro e w' ⟨rfl, rfl⟩))
            go_ret2
            exact ⟨0, 100, rfl, BF.out, by decide, .inr ⟨tks xs, O3.out, EQ.out⟩⟩
          | true =>
            have EQ := Lib.hid (T9.btw_some HA.out HP.out EL.out EH.out hm)
            go_wp2_with (first | (go_at_call 26; refine (infM10_c _).mono ?_; rintro e w' ⟨rfl, rfl⟩) | (go_at_call 26; refine (infP10_c _).mono ?_; rintro e w' ⟨rfl, rfl⟩) | (go_at_call 28; refine (mid_c _ _ _ (by assumption) (by assumption)).mono ?_; rintro e w' ⟨rfl, rfl⟩))
            go_ret2
            exact ⟨_, 0, rfl, BF.out, (Fl.mid_in hm).2.2, .inr ⟨tks xs, O3.out, EQ.out⟩⟩
        · have hzz : ¬ ((k : Int) + 1 < (n3 : Int)) := by omega
          have EH : Hid ((((tks xs)[k + 1]?).map (·.rank)).getD Fl.pInf = Fl.pInf) := Lib.hid (by rw [List.getElem?_eq_none (by rw [tks_len, ← N3.out]; omega)]; rfl)
          cases hm : Fl.midOk m.t.rank Fl.pInf with
          | false =>
            have EQ := Lib.hid (T9.btw_some HA.out HP.out EL.out EH.out hm)
            go_wp2_with (first | (go_at_call 26; refine (infM10_c _).mono ?_; rintro e w' ⟨rfl, rfl⟩) | (go_at_call 26; refine (infP10_c _).mono ?_; rintro e w' ⟨rfl, rfl⟩) | (go_at_call 28; refine (mid_c _ _ _ (by assumption) (by assumption)).mono ?_; rintro e w' ⟨rfl, rfl⟩))
            go_ret2
            exact ⟨0, 100, rfl, BF.out, by decide, .inr ⟨tks xs, O3.out, EQ.out⟩⟩
          | true =>
            have EQ := Lib.hid (T9.btw_some HA.out HP.out EL.out EH.out hm)
            go_wp2_with (first | (go_at_call 26; refine (infM10_c _).mono ?_; rintro e w' ⟨rfl, rfl⟩) | (go_at_call 26; refine (infP10_c _).mono ?_; rintro e w' ⟨rfl, rfl⟩) | (go_at_call 28; refine (mid_c _ _ _ (by assumption) (by assumption)).mono ?_; rintro e w' ⟨rfl, rfl⟩))
            go_ret2
            exact ⟨_, 0, rfl, BF.out, (Fl.mid_in hm).2.2, .inr ⟨tks xs, O3.out, EQ.out⟩⟩
end Go.Proofs.Ytahemcpeejgkeaa
