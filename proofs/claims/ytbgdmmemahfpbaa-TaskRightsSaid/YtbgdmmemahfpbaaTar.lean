/- Stage 9: the document's Texts (written by wip/gen9tx.py). -/
import Derived.Test.YtbgdmmemahfpbaaTaq
namespace Go.Proofs.Ytbgdmmemahfpbaa
open Go.RowKit Go.Lib
set_option maxRecDepth 100000

theorem gcells_take9 (ts : List (List UInt8)) (k : Nat) : (gcells ts).take k = gcells (ts.take k) := by simp [gcells, List.map_take]
theorem gcells_drop9 (ts : List (List UInt8)) (k : Nat) : (gcells ts).drop k = gcells (ts.drop k) := by simp [gcells, List.map_drop]
/-- Texts in order were returned; all that there was is as it was. -/
def WTOk (ts : List (List UInt8)) (w : World) (e : Ending) (w' : World) : Prop := ∃ A c, e = .returned (.slice A ts.length c) ∧ Lies w' 0 9 A (gcells ts) ∧ ts.length ≤ c ∧ (A = none → c = 0) ∧ Below w.heap.size w w'

set_option linter.unusedSimpArgs false in
set_option maxHeartbeats 4000000 in
set_option maxRecDepth 100000 in
theorem texts_c {A0 : Option Addr} {n0 c0 : Nat} {xs : List (List UInt8)} {w : World} (h : GL w A0 xs) (hn : n0 = xs.length) (hs : n0 ≤ 1000) :
    Calls Try.prog 42 #[.slice A0 n0 c0] w (WTOk (Sr.canon T9.ltS xs) w) := by
  have HL := Lib.hid h
  have HN := Lib.hid hn
  clear h hn
  go_enter Try.func42, Try.ntmps42
  go_wp2_with fail
  go_loopw [3, 9] (fun s3 s9 wr => ∃ (k : Nat) (A : Option Addr) (n c : Nat), s3 = .slice A n c ∧ s9 = .int .i64 k ∧ k ≤ n0 ∧ n = (Sr.canon T9.ltS (xs.take k)).length ∧ n ≤ c ∧ (A = none → c = 0) ∧ Aside (Lies wr 0 9 A (gcells (Sr.canon T9.ltS (xs.take k)))) ∧ Aside (Below w.heap.size w wr)) (fun _ s9 _ => n0 - (intOf s9).toNat)
  case atStart => exact ⟨0, none, 0, 0, rfl, rfl, Nat.zero_le _, rfl, Nat.le_refl _, fun _ => rfl, (Lies.nil : Lies w 0 9 none (gcells (Sr.canon T9.ltS (xs.take 0)))), Below.refl _ _⟩
  case round =>
    obtain ⟨wo, hwo⟩ : ∃ u, u = wr := ⟨_, rfl⟩
    subst hwo
    obtain ⟨k, A, n, c, rfl, rfl, hk, hn, hc, hz, hG, hB⟩ := hrel
    obtain ⟨ts, hts⟩ : ∃ t, t = Sr.canon T9.ltS (xs.take k) := ⟨_, rfl⟩
    have hG := hG.out
    rw [← hts] at hn hG
    have LO := Lib.hid hG
    have BO := Lib.hid hB.out
    have TE := Lib.hid hts
    have TN := Lib.hid hn
    have TC := Lib.hid hc
    have TZ := Lib.hid hz
    have nk : n ≤ k := by
      rw [hn, hts]
      refine Nat.le_trans (Sr.canon_len _) ?_
      rw [List.length_take]
      omega
    clear hn hG hB hts hz
    by_cases hlt : k < n0
    · have hltz : (k : Int) < (n0 : Int) := by omega
      obtain ⟨ad0, x, hA, hx, r0⟩ := (HL.out.stay BO.out).at_ (k := k) (by rw [← HN.out]; exact hlt)
      subst hA
      have X := Lib.hid hx
      clear hx
      go_wp2_with fail
      go_loopw [6] (fun s6 wi => ∃ i : Nat, s6 = .int .i64 i ∧ i ≤ n ∧ Aside (∀ y ∈ ts.take i, T9.ltS y x = true) ∧ Aside (Lies wi 0 9 A (gcells ts)) ∧ Aside (Below w.heap.size w wi)) (fun s6 _ => n - (intOf s6).toNat)
      case atStart => exact ⟨0, rfl, Nat.zero_le _, (fun y hy => by simp at hy : ∀ y ∈ ts.take 0, T9.ltS y x = true), LO.out, BO.out⟩
      case round =>
        obtain ⟨i, rfl, hi, hI, hG, hB⟩ := hrel
        obtain ⟨wi, hwi⟩ : ∃ u, u = wr := ⟨_, rfl⟩
        subst hwi
        have HI := Lib.hid hI.out
        have LIT := Lib.hid hG.out
        have LI : Hid (GL wi A ts) := Lib.hid LIT.out.old
        have BI := Lib.hid hB.out
        clear hI hG hB
        by_cases hlt2 : i < n
        · have hltz2 : (i : Int) < (n : Int) := by omega
          have k0 : (0 : Int) ≤ (i : Int) := by omega
          have kc : i ≤ c := by omega
          have kci : (i : Int) ≤ (c : Int) := by omega
          have nci : (n : Int) ≤ (c : Int) := by omega
          have kni : (i : Int) ≤ (n : Int) := by omega
          have kn : i ≤ n := by omega
          obtain ⟨ad, y, hA, hy, r1⟩ := LI.out.at_ (k := i) (by rw [← TN.out]; exact hlt2)
          subst hA
          have Y := Lib.hid hy
          clear hy
          by_cases q : y < x
          · have q1 := less_yes q
            have QX : Hid (T9.ltS y x = true) := Lib.hid (decide_eq_true q)
            clear q
            go_wp2
            go_roundw
            case rel =>
              refine ⟨i + 1, by go_num, by omega, ?_, LIT.out, BI.out⟩
              intro z hz
              rw [take_nxt Y.out] at hz
              rcases List.mem_append.1 hz with h | h
              · exact HI.out z h
              · simp only [List.mem_cons, List.not_mem_nil, or_false] at h
                subst h
                exact QX.out
            case measure => simp [intOf]; omega
          · have q1 := less_no q
            have QN : Hid (T9.ltS y x = false) := Lib.hid (decide_eq_false q)
            by_cases e : y = x
            · have e1 : (y == x) = true := by rw [e]; exact beq_self_eq_true _
              have e2 : (str y == str x) = true := by rw [str_beq9]; exact decide_eq_true e
              have IO : Hid (Sr.ins T9.ltS x ts = ts) := Lib.hid (Sr.ins_old HI.out Y.out QN.out (by subst e; exact QN.out))
              clear q e
              go_wp2
              go_roundw
              case rel =>
                have EC : Sr.canon T9.ltS (xs.take (k + 1)) = ts := by rw [take_nxt X.out, Sr.canon_snoc, ← TE.out]; exact IO.out
                refine ⟨k + 1, some ad, n, c, rfl, by go_num, by omega, (by rw [EC]; exact TN.out), TC.out, (fun z => by cases z), ?_, BI.out⟩
                rw [EC]
                exact LIT.out
              case measure => simp [intOf]; omega
            · have e1 : (y == x) = false := by rw [beq_eq_false_iff_ne]; exact e
              have e2 : (str y == str x) = false := by rw [str_beq9]; exact decide_eq_false e
              have IN : Hid (Sr.ins T9.ltS x ts = ts.take i ++ x :: ts.drop i) := Lib.hid (Sr.ins_new HI.out fun z hz => by
                rw [Y.out] at hz
                injection hz with hz
                subst hz
                refine ⟨QN.out, decide_eq_true ?_⟩
                rcases List.le_iff_lt_or_eq.1 (List.not_lt.1 q) with r | r
                · exact r
                · exact absurd r.symm e)
              clear q e
              go_wp2_with fail
              obtain ⟨wz, hwz⟩ : ∃ u, wi = u := ⟨_, rfl⟩
              rw [hwz]
              have BZ : Hid (Below w.heap.size w wz) := Lib.hid (by rw [← hwz]; exact BI.out)
              have LZ : Hid (GL wz (some ad) ts) := Lib.hid (by rw [← hwz]; exact LI.out)
              obtain ⟨i0, hi0, hz0, hz1, hz2⟩ := info_parts Try.infoStr9
              refine wp_region_held_drew (S := fun _ => True) (by kernel_rfl) trivial (fun S0 => ?_)
              refine wpAnyH_take (i := 0) (v := ?_) rfl (by kernel_rfl) (by kernel_rfl) (by kernel_rfl) (fun _ _ _ h => h) (Or.inl ⟨by rfl, ?_⟩) S0 ?_
              rotate_left
              · intro u hu
                go_simp
                try rfl
              try simp only [Act.put, List.setIfInBounds_toArray, List.set_cons_zero, List.set_cons_succ, List.getElem_toArray, List.getElem_cons_zero, List.getElem_cons_succ]
              refine wpAnyH_take (i := 1) (v := ?_) rfl (by kernel_rfl) (by kernel_rfl) (by kernel_rfl) (fun _ _ _ h => h) (Or.inl ⟨by rfl, ?_⟩) S0 ?_
              rotate_left
              · intro u hu
                go_simp
                try rfl
              try simp only [Act.put, List.setIfInBounds_toArray, List.set_cons_zero, List.set_cons_succ, List.getElem_toArray, List.getElem_cons_zero, List.getElem_cons_succ]
              refine wpAnyH_take (i := 2) (v := ?_) rfl (by kernel_rfl) (by kernel_rfl) (by kernel_rfl) (fun _ _ _ h => h) (Or.inl ⟨by rfl, ?_⟩) S0 ?_
              rotate_left
              · intro u hu
                go_simp
                try rfl
              try simp only [Act.put, List.setIfInBounds_toArray, List.set_cons_zero, List.set_cons_succ, List.getElem_toArray, List.getElem_cons_zero, List.getElem_cons_succ]
              refine wpAnyH_take (i := 3) (v := ?_) rfl (by kernel_rfl) (by kernel_rfl) (by kernel_rfl) (fun _ _ _ h => h) (Or.inl ⟨by rfl, ?_⟩) S0 ?_
              rotate_left
              · intro u hu
                go_simp
                try rfl
              try simp only [Act.put, List.setIfInBounds_toArray, List.set_cons_zero, List.set_cons_succ, List.getElem_toArray, List.getElem_cons_zero, List.getElem_cons_succ]
              refine wpAnyH_take (i := 4) (v := ?_) rfl (by kernel_rfl) (by kernel_rfl) (by kernel_rfl) (fun _ _ _ h => h) (Or.inl ⟨by rfl, ?_⟩) S0 ?_
              rotate_left
              · intro u hu
                go_simp
                try rfl
              try simp only [Act.put, List.setIfInBounds_toArray, List.set_cons_zero, List.set_cons_succ, List.getElem_toArray, List.getElem_cons_zero, List.getElem_cons_succ]
              refine wpAnyH_take (i := 6) (v := ?_) rfl (by kernel_rfl) (by kernel_rfl) (by kernel_rfl) (fun _ _ _ h => h) (Or.inl ⟨by rfl, ?_⟩) S0 ?_
              rotate_left
              · intro u hu
                go_simp
                try rfl
              try simp only [Act.put, List.setIfInBounds_toArray, List.set_cons_zero, List.set_cons_succ, List.getElem_toArray, List.getElem_cons_zero, List.getElem_cons_succ]
              refine wpAnyH_take (i := 7) (v := ?_) rfl (by kernel_rfl) (by kernel_rfl) (by kernel_rfl) (fun _ _ _ h => h) (Or.inl ⟨by rfl, ?_⟩) S0 ?_
              rotate_left
              · intro u hu
                go_simp
                try rfl
              try simp only [Act.put, List.setIfInBounds_toArray, List.set_cons_zero, List.set_cons_succ, List.getElem_toArray, List.getElem_cons_zero, List.getElem_cons_succ]
              refine wpAnyH_take (i := 8) (v := ?_) rfl (by kernel_rfl) (by kernel_rfl) (by kernel_rfl) (fun _ _ _ h => h) (Or.inl ⟨by rfl, ?_⟩) S0 ?_
              rotate_left
              · intro u hu
                go_simp
                try rfl
              try simp only [Act.put, List.setIfInBounds_toArray, List.set_cons_zero, List.set_cons_succ, List.getElem_toArray, List.getElem_cons_zero, List.getElem_cons_succ]
              refine anyH_one9 (i := 5) (by kernel_rfl) rfl (fun K hK => ?_)
              go_simp
              have S1 := trivial
              refine hK _ _ S1 ?_
              clear hK K S0
              have S0 := S1
              clear S1
              try simp only [Act.put, List.setIfInBounds_toArray, List.set_cons_zero, List.set_cons_succ, List.getElem_toArray, List.getElem_cons_zero, List.getElem_cons_succ]
              obtain ⟨u5, hu5⟩ : ∃ u, (wz.alloc (.cells #[.string (str x)] 9)).drew = u := ⟨_, rfl⟩
              rw [hu5]
              have OW5 : u5.ownsRow wz.heap.size 9 1 (.slice (some ⟨wz.heap.size, 0, none⟩) 1 1) 1 [encS x] := by
                have o5 := own_one (w := wz) (e := 9) (xs := [encS x]) rfl (rfl : [encS x].length = 1)
                rw [← hu5]
                exact o5
              have B5 : Below wz.heap.size wz u5 := by rw [← hu5]; exact ((Below.refl wz.heap.size wz).alloc (Nat.le_refl _) _).drew
              have L5 : Lies u5 u5.heap.size 0 (if c = i then some ad else (some ad).map (·.add i)) (gcells (ts.drop i)) := by
                rw [← gcells_drop9]
                exact (Lies.stay LZ.out B5).cut i c (by rw [gcells_len, ← TN.out]; exact TC.out)
              have hlen5 : (gcells (ts.drop i)).length = (n - i) * 1 := by rw [gcells_len, List.length_drop, ← TN.out]; omega
              have hone5 : ∀ v ∈ (gcells (ts.drop i)), v.oneCell' = true := gcells_one _
              have ob5 : ∀ q, (Value.slice (some ⟨wz.heap.size, 0, none⟩) 1 1).ownBlock = some q → wz.heap.size ≤ q := fun q e => by injection e with e; rw [← e]; exact Nat.le_refl _
              have one9 : ∀ v ∈ [encS x], v.oneCell' = true := by intro v hv; simp at hv; subst hv; rfl
              refine anyH_one9 (i := 9) (by kernel_rfl) rfl (fun K hK => ?_)
              refine step_own rfl _ _ 35 rfl wz.heap.size 9 i0 _ 1 16 Try.underlying35 hi0 hz0 hz1 hz2 rfl (by decide) _ 1 [encS x] rfl OW5 u5.heap.size _ (n - i) (c - i) (gcells (ts.drop i)) 0 rfl hlen5 L5 hone5 (by unfold maxLen; omega) (by omega) B5.size ?_
              intro v6 w6 hown6 hgrow6 hor6
              obtain ⟨A6, k6, rfl⟩ := own_slice hown6
              obtain ⟨a6, hA6, _, hc6⟩ := (lies_own (B := 0) hown6) (by simp)
              subst hA6
              have B6 : Below wz.heap.size wz w6 := B5.grown hgrow6 B5.size ob5
              have S1 := trivial
              refine hK _ _ S1 ?_
              clear hgrow6 hor6 L5 hlen5 hone5 ob5 B5 OW5
              clear hK K S0
              have S0 := S1
              clear S1
              try simp only [Act.put, List.setIfInBounds_toArray, List.set_cons_zero, List.set_cons_succ, List.getElem_toArray, List.getElem_cons_zero, List.getElem_cons_succ]
              have L6 : Lies w6 w6.heap.size 0 (some ad) (gcells (ts.take i)) := by
                rw [← gcells_take9]
                exact (Lies.stay LZ.out B6).take _
              have hlen6 : (gcells (ts.take i)).length = i * 1 := by rw [gcells_len, List.length_take, ← TN.out, Nat.min_eq_left (by omega)]; omega
              refine anyH_one9 (i := 10) (by kernel_rfl) rfl (fun K hK => ?_)
              refine step_new rfl _ _ 35 rfl wz.heap.size 9 i0 _ 1 16 Try.underlying35 hi0 hz0 hz1 hz2 rfl w6.heap.size 0 (some ad) i (gcells (ts.take i)) rfl hlen6 L6 (by intro z; first | rfl | cases z) a6 (1 + (n - i)) k6 ([encS x] ++ (gcells (ts.drop i))) rfl hown6.1 hc6 (own_ones one9 (gcells_one _)) (by omega) (by unfold maxLen; omega) (by omega) B6.size ?_
              intro v7 w7 hown7 hgrow7 hblk7
              obtain ⟨A7, k7, rfl⟩ := own_slice hown7
              have B7 : Below wz.heap.size wz w7 := B6.grown hgrow7 B6.size (fun q e => by cases e)
              have S1 := trivial
              refine hK _ _ S1 ?_
              clear hgrow7 L6 hlen6
              clear hK K S0
              have S0 := S1
              clear S1
              try simp only [Act.put, List.setIfInBounds_toArray, List.set_cons_zero, List.set_cons_succ, List.getElem_toArray, List.getElem_cons_zero, List.getElem_cons_succ]
              refine wpAnyH_take (i := 11) (v := ?_) rfl (by kernel_rfl) (by kernel_rfl) (by kernel_rfl) (fun _ _ _ h => h) (Or.inl ⟨by rfl, ?_⟩) S0 ?_
              rotate_left
              · intro u hu
                go_simp
                try rfl
              try simp only [Act.put, List.setIfInBounds_toArray, List.set_cons_zero, List.set_cons_succ, List.getElem_toArray, List.getElem_cons_zero, List.getElem_cons_succ]
              refine wpAnyH_done (by kernel_rfl) ?_ _
              clear S0
              have HO7 := Lib.hid hown7
              have HB7 := Lib.hid B7
              have HK7 := Lib.hid hblk7
              clear hown7 B7 hblk7 hown6 hc6 B6
              generalize (if c = i then some ad else some (ad.add i)) = A8
              go_wp2
              go_roundw
              case rel =>
                have ENDL : (ts.take i ++ x :: ts.drop i).length = i + (1 + (n - i)) := by rw [List.length_append, List.length_cons, List.length_take, List.length_drop, ← TN.out, Nat.min_eq_left (by omega)]; omega
                have CELLS : gcells (ts.take i ++ x :: ts.drop i) = (gcells (ts.take i)) ++ ([encS x] ++ (gcells (ts.drop i))) := by simp [gcells]
                have EC : Sr.canon T9.ltS (xs.take (k + 1)) = (ts.take i ++ x :: ts.drop i) := by rw [take_nxt X.out, Sr.canon_snoc, ← TE.out]; exact IN.out
                refine ⟨k + 1, A7, _, k7, rfl, by go_num, by omega, (by rw [EC, ENDL]), (own_room HO7.out).2, (fun z => by subst z; cases HK7.out), ?_, BZ.out.trans (HB7.out.mono BZ.out.size)⟩
                rw [EC]
                show Lies w7 0 9 A7 (gcells (ts.take i ++ x :: ts.drop i))
                rw [CELLS]
                exact lies_own (B := 0) HO7.out
              case measure => simp [intOf]; omega
        · obtain rfl : i = n := by omega
          have hltz2 : ¬ ((i : Int) < (i : Int)) := by omega
          have IN : Hid (Sr.ins T9.ltS x ts = ts.take i ++ x :: ts.drop i) := Lib.hid (Sr.ins_new HI.out fun z hz => by
            have := (List.getElem?_eq_some_iff.1 hz).1
            have := TN.out
            omega)
          cases A with
          | none =>
            obtain rfl : c = 0 := TZ.out rfl
            obtain rfl : i = 0 := by omega
            obtain rfl : ts = [] := List.eq_nil_of_length_eq_zero TN.out.symm
            go_wp2_with fail
            obtain ⟨wz, hwz⟩ : ∃ u, wi = u := ⟨_, rfl⟩
            rw [hwz]
            have BZ : Hid (Below w.heap.size w wz) := Lib.hid (by rw [← hwz]; exact BI.out)
            have LZ : Hid (GL wz none ([] : List (List UInt8))) := Lib.hid (by rw [← hwz]; exact LI.out)
            obtain ⟨i0, hi0, hz0, hz1, hz2⟩ := info_parts Try.infoStr9
            refine wp_region_held_drew (S := fun _ => True) (by kernel_rfl) trivial (fun S0 => ?_)
            refine wpAnyH_take (i := 0) (v := ?_) rfl (by kernel_rfl) (by kernel_rfl) (by kernel_rfl) (fun _ _ _ h => h) (Or.inl ⟨by rfl, ?_⟩) S0 ?_
            rotate_left
            · intro u hu
              go_simp
              try rfl
            try simp only [Act.put, List.setIfInBounds_toArray, List.set_cons_zero, List.set_cons_succ, List.getElem_toArray, List.getElem_cons_zero, List.getElem_cons_succ]
            refine wpAnyH_take (i := 1) (v := ?_) rfl (by kernel_rfl) (by kernel_rfl) (by kernel_rfl) (fun _ _ _ h => h) (Or.inl ⟨by rfl, ?_⟩) S0 ?_
            rotate_left
            · intro u hu
              go_simp
              try rfl
            try simp only [Act.put, List.setIfInBounds_toArray, List.set_cons_zero, List.set_cons_succ, List.getElem_toArray, List.getElem_cons_zero, List.getElem_cons_succ]
            refine wpAnyH_take (i := 2) (v := ?_) rfl (by kernel_rfl) (by kernel_rfl) (by kernel_rfl) (fun _ _ _ h => h) (Or.inl ⟨by rfl, ?_⟩) S0 ?_
            rotate_left
            · intro u hu
              go_simp
              try rfl
            try simp only [Act.put, List.setIfInBounds_toArray, List.set_cons_zero, List.set_cons_succ, List.getElem_toArray, List.getElem_cons_zero, List.getElem_cons_succ]
            refine wpAnyH_take (i := 3) (v := ?_) rfl (by kernel_rfl) (by kernel_rfl) (by kernel_rfl) (fun _ _ _ h => h) (Or.inl ⟨by rfl, ?_⟩) S0 ?_
            rotate_left
            · intro u hu
              go_simp
              try rfl
            try simp only [Act.put, List.setIfInBounds_toArray, List.set_cons_zero, List.set_cons_succ, List.getElem_toArray, List.getElem_cons_zero, List.getElem_cons_succ]
            refine wpAnyH_take (i := 4) (v := ?_) rfl (by kernel_rfl) (by kernel_rfl) (by kernel_rfl) (fun _ _ _ h => h) (Or.inl ⟨by rfl, ?_⟩) S0 ?_
            rotate_left
            · intro u hu
              go_simp
              try rfl
            try simp only [Act.put, List.setIfInBounds_toArray, List.set_cons_zero, List.set_cons_succ, List.getElem_toArray, List.getElem_cons_zero, List.getElem_cons_succ]
            refine wpAnyH_take (i := 6) (v := ?_) rfl (by kernel_rfl) (by kernel_rfl) (by kernel_rfl) (fun _ _ _ h => h) (Or.inl ⟨by rfl, ?_⟩) S0 ?_
            rotate_left
            · intro u hu
              go_simp
              try rfl
            try simp only [Act.put, List.setIfInBounds_toArray, List.set_cons_zero, List.set_cons_succ, List.getElem_toArray, List.getElem_cons_zero, List.getElem_cons_succ]
            refine wpAnyH_take (i := 7) (v := ?_) rfl (by kernel_rfl) (by kernel_rfl) (by kernel_rfl) (fun _ _ _ h => h) (Or.inl ⟨by rfl, ?_⟩) S0 ?_
            rotate_left
            · intro u hu
              go_simp
              try rfl
            try simp only [Act.put, List.setIfInBounds_toArray, List.set_cons_zero, List.set_cons_succ, List.getElem_toArray, List.getElem_cons_zero, List.getElem_cons_succ]
            refine wpAnyH_take (i := 8) (v := ?_) rfl (by kernel_rfl) (by kernel_rfl) (by kernel_rfl) (fun _ _ _ h => h) (Or.inl ⟨by rfl, ?_⟩) S0 ?_
            rotate_left
            · intro u hu
              go_simp
              try rfl
            try simp only [Act.put, List.setIfInBounds_toArray, List.set_cons_zero, List.set_cons_succ, List.getElem_toArray, List.getElem_cons_zero, List.getElem_cons_succ]
            refine anyH_one9 (i := 5) (by kernel_rfl) rfl (fun K hK => ?_)
            go_simp
            have S1 := trivial
            refine hK _ _ S1 ?_
            clear hK K S0
            have S0 := S1
            clear S1
            try simp only [Act.put, List.setIfInBounds_toArray, List.set_cons_zero, List.set_cons_succ, List.getElem_toArray, List.getElem_cons_zero, List.getElem_cons_succ]
            obtain ⟨u5, hu5⟩ : ∃ u, (wz.alloc (.cells #[.string (str x)] 9)).drew = u := ⟨_, rfl⟩
            rw [hu5]
            have OW5 : u5.ownsRow wz.heap.size 9 1 (.slice (some ⟨wz.heap.size, 0, none⟩) 1 1) 1 [encS x] := by
              have o5 := own_one (w := wz) (e := 9) (xs := [encS x]) rfl (rfl : [encS x].length = 1)
              rw [← hu5]
              exact o5
            have B5 : Below wz.heap.size wz u5 := by rw [← hu5]; exact ((Below.refl wz.heap.size wz).alloc (Nat.le_refl _) _).drew
            have L5 : Lies u5 u5.heap.size 0 none ([] : List Value) := Lies.nil
            have hlen5 : ([] : List Value).length = 0 * 1 := by rfl
            have hone5 : ∀ v ∈ ([] : List Value), v.oneCell' = true := by simp
            have ob5 : ∀ q, (Value.slice (some ⟨wz.heap.size, 0, none⟩) 1 1).ownBlock = some q → wz.heap.size ≤ q := fun q e => by injection e with e; rw [← e]; exact Nat.le_refl _
            have one9 : ∀ v ∈ [encS x], v.oneCell' = true := by intro v hv; simp at hv; subst hv; rfl
            refine anyH_one9 (i := 9) (by kernel_rfl) rfl (fun K hK => ?_)
            refine step_own rfl _ _ 35 rfl wz.heap.size 9 i0 _ 1 16 Try.underlying35 hi0 hz0 hz1 hz2 rfl (by decide) _ 1 [encS x] rfl OW5 u5.heap.size _ 0 0 ([] : List Value) 0 rfl hlen5 L5 hone5 (by unfold maxLen; omega) (by omega) B5.size ?_
            intro v6 w6 hown6 hgrow6 hor6
            obtain ⟨A6, k6, rfl⟩ := own_slice hown6
            obtain ⟨a6, hA6, _, hc6⟩ := (lies_own (B := 0) hown6) (by simp)
            subst hA6
            have B6 : Below wz.heap.size wz w6 := B5.grown hgrow6 B5.size ob5
            have S1 := trivial
            refine hK _ _ S1 ?_
            clear hgrow6 hor6 L5 hlen5 hone5 ob5 B5 OW5
            clear hK K S0
            have S0 := S1
            clear S1
            try simp only [Act.put, List.setIfInBounds_toArray, List.set_cons_zero, List.set_cons_succ, List.getElem_toArray, List.getElem_cons_zero, List.getElem_cons_succ]
            have L6 : Lies w6 w6.heap.size 0 none ([] : List Value) := Lies.nil
            have hlen6 : ([] : List Value).length = 0 * 1 := by rfl
            refine anyH_one9 (i := 10) (by kernel_rfl) rfl (fun K hK => ?_)
            refine step_new rfl _ _ 35 rfl wz.heap.size 9 i0 _ 1 16 Try.underlying35 hi0 hz0 hz1 hz2 rfl w6.heap.size 0 none 0 ([] : List Value) rfl hlen6 L6 (by intro z; first | rfl | cases z) a6 (1 + 0) k6 ([encS x] ++ ([] : List Value)) rfl hown6.1 hc6 (own_ones one9 (by simp)) (by omega) (by unfold maxLen; omega) (by omega) B6.size ?_
            intro v7 w7 hown7 hgrow7 hblk7
            obtain ⟨A7, k7, rfl⟩ := own_slice hown7
            have B7 : Below wz.heap.size wz w7 := B6.grown hgrow7 B6.size (fun q e => by cases e)
            have S1 := trivial
            refine hK _ _ S1 ?_
            clear hgrow7 L6 hlen6
            clear hK K S0
            have S0 := S1
            clear S1
            try simp only [Act.put, List.setIfInBounds_toArray, List.set_cons_zero, List.set_cons_succ, List.getElem_toArray, List.getElem_cons_zero, List.getElem_cons_succ]
            refine wpAnyH_take (i := 11) (v := ?_) rfl (by kernel_rfl) (by kernel_rfl) (by kernel_rfl) (fun _ _ _ h => h) (Or.inl ⟨by rfl, ?_⟩) S0 ?_
            rotate_left
            · intro u hu
              go_simp
              try rfl
            try simp only [Act.put, List.setIfInBounds_toArray, List.set_cons_zero, List.set_cons_succ, List.getElem_toArray, List.getElem_cons_zero, List.getElem_cons_succ]
            refine wpAnyH_done (by kernel_rfl) ?_ _
            clear S0
            have HO7 := Lib.hid hown7
            have HB7 := Lib.hid B7
            have HK7 := Lib.hid hblk7
            clear hown7 B7 hblk7 hown6 hc6 B6
            go_wp2
            go_roundw
            case rel =>
              have ENDL : (List.take 0 [] ++ x :: List.drop 0 []).length = 0 + (1 + 0) := by rfl
              have CELLS : gcells (List.take 0 [] ++ x :: List.drop 0 []) = ([] : List Value) ++ ([encS x] ++ ([] : List Value)) := by simp [gcells]
              have EC : Sr.canon T9.ltS (xs.take (k + 1)) = (List.take 0 [] ++ x :: List.drop 0 []) := by rw [take_nxt X.out, Sr.canon_snoc, ← TE.out]; exact IN.out
              refine ⟨k + 1, A7, _, k7, rfl, by go_num, by omega, (by rw [EC, ENDL]), (own_room HO7.out).2, (fun z => by subst z; cases HK7.out), ?_, BZ.out.trans (HB7.out.mono BZ.out.size)⟩
              rw [EC]
              show Lies w7 0 9 A7 (gcells (List.take 0 [] ++ x :: List.drop 0 []))
              rw [CELLS]
              exact lies_own (B := 0) HO7.out
            case measure => simp [intOf]; omega
          | some ad =>
            have k0 : (0 : Int) ≤ (i : Int) := by omega
            have kci : (i : Int) ≤ (c : Int) := by omega
            have kk : i ≤ i := Nat.le_refl _
            go_wp2_with fail
            obtain ⟨wz, hwz⟩ : ∃ u, wi = u := ⟨_, rfl⟩
            rw [hwz]
            have BZ : Hid (Below w.heap.size w wz) := Lib.hid (by rw [← hwz]; exact BI.out)
            have LZ : Hid (GL wz (some ad) ts) := Lib.hid (by rw [← hwz]; exact LI.out)
            obtain ⟨i0, hi0, hz0, hz1, hz2⟩ := info_parts Try.infoStr9
            refine wp_region_held_drew (S := fun _ => True) (by kernel_rfl) trivial (fun S0 => ?_)
            refine wpAnyH_take (i := 0) (v := ?_) rfl (by kernel_rfl) (by kernel_rfl) (by kernel_rfl) (fun _ _ _ h => h) (Or.inl ⟨by rfl, ?_⟩) S0 ?_
            rotate_left
            · intro u hu
              go_simp
              try rfl
            try simp only [Act.put, List.setIfInBounds_toArray, List.set_cons_zero, List.set_cons_succ, List.getElem_toArray, List.getElem_cons_zero, List.getElem_cons_succ]
            refine wpAnyH_take (i := 1) (v := ?_) rfl (by kernel_rfl) (by kernel_rfl) (by kernel_rfl) (fun _ _ _ h => h) (Or.inl ⟨by rfl, ?_⟩) S0 ?_
            rotate_left
            · intro u hu
              go_simp
              try rfl
            try simp only [Act.put, List.setIfInBounds_toArray, List.set_cons_zero, List.set_cons_succ, List.getElem_toArray, List.getElem_cons_zero, List.getElem_cons_succ]
            refine wpAnyH_take (i := 2) (v := ?_) rfl (by kernel_rfl) (by kernel_rfl) (by kernel_rfl) (fun _ _ _ h => h) (Or.inl ⟨by rfl, ?_⟩) S0 ?_
            rotate_left
            · intro u hu
              go_simp
              try rfl
            try simp only [Act.put, List.setIfInBounds_toArray, List.set_cons_zero, List.set_cons_succ, List.getElem_toArray, List.getElem_cons_zero, List.getElem_cons_succ]
            refine wpAnyH_take (i := 3) (v := ?_) rfl (by kernel_rfl) (by kernel_rfl) (by kernel_rfl) (fun _ _ _ h => h) (Or.inl ⟨by rfl, ?_⟩) S0 ?_
            rotate_left
            · intro u hu
              go_simp
              try rfl
            try simp only [Act.put, List.setIfInBounds_toArray, List.set_cons_zero, List.set_cons_succ, List.getElem_toArray, List.getElem_cons_zero, List.getElem_cons_succ]
            refine wpAnyH_take (i := 4) (v := ?_) rfl (by kernel_rfl) (by kernel_rfl) (by kernel_rfl) (fun _ _ _ h => h) (Or.inl ⟨by rfl, ?_⟩) S0 ?_
            rotate_left
            · intro u hu
              go_simp
              try rfl
            try simp only [Act.put, List.setIfInBounds_toArray, List.set_cons_zero, List.set_cons_succ, List.getElem_toArray, List.getElem_cons_zero, List.getElem_cons_succ]
            refine wpAnyH_take (i := 6) (v := ?_) rfl (by kernel_rfl) (by kernel_rfl) (by kernel_rfl) (fun _ _ _ h => h) (Or.inl ⟨by rfl, ?_⟩) S0 ?_
            rotate_left
            · intro u hu
              go_simp
              try rfl
            try simp only [Act.put, List.setIfInBounds_toArray, List.set_cons_zero, List.set_cons_succ, List.getElem_toArray, List.getElem_cons_zero, List.getElem_cons_succ]
            refine wpAnyH_take (i := 7) (v := ?_) rfl (by kernel_rfl) (by kernel_rfl) (by kernel_rfl) (fun _ _ _ h => h) (Or.inl ⟨by rfl, ?_⟩) S0 ?_
            rotate_left
            · intro u hu
              go_simp
              try rfl
            try simp only [Act.put, List.setIfInBounds_toArray, List.set_cons_zero, List.set_cons_succ, List.getElem_toArray, List.getElem_cons_zero, List.getElem_cons_succ]
            refine wpAnyH_take (i := 8) (v := ?_) rfl (by kernel_rfl) (by kernel_rfl) (by kernel_rfl) (fun _ _ _ h => h) (Or.inl ⟨by rfl, ?_⟩) S0 ?_
            rotate_left
            · intro u hu
              go_simp
              try rfl
            try simp only [Act.put, List.setIfInBounds_toArray, List.set_cons_zero, List.set_cons_succ, List.getElem_toArray, List.getElem_cons_zero, List.getElem_cons_succ]
            refine anyH_one9 (i := 5) (by kernel_rfl) rfl (fun K hK => ?_)
            go_simp
            have S1 := trivial
            refine hK _ _ S1 ?_
            clear hK K S0
            have S0 := S1
            clear S1
            try simp only [Act.put, List.setIfInBounds_toArray, List.set_cons_zero, List.set_cons_succ, List.getElem_toArray, List.getElem_cons_zero, List.getElem_cons_succ]
            obtain ⟨u5, hu5⟩ : ∃ u, (wz.alloc (.cells #[.string (str x)] 9)).drew = u := ⟨_, rfl⟩
            rw [hu5]
            have OW5 : u5.ownsRow wz.heap.size 9 1 (.slice (some ⟨wz.heap.size, 0, none⟩) 1 1) 1 [encS x] := by
              have o5 := own_one (w := wz) (e := 9) (xs := [encS x]) rfl (rfl : [encS x].length = 1)
              rw [← hu5]
              exact o5
            have B5 : Below wz.heap.size wz u5 := by rw [← hu5]; exact ((Below.refl wz.heap.size wz).alloc (Nat.le_refl _) _).drew
            have L5 : Lies u5 u5.heap.size 0 (if c = i then some ad else (some ad).map (·.add i)) (gcells (ts.drop i)) := by
              rw [← gcells_drop9]
              exact (Lies.stay LZ.out B5).cut i c (by rw [gcells_len, ← TN.out]; exact TC.out)
            have hlen5 : (gcells (ts.drop i)).length = 0 * 1 := by rw [gcells_len, List.length_drop, ← TN.out]; omega
            have hone5 : ∀ v ∈ (gcells (ts.drop i)), v.oneCell' = true := gcells_one _
            have ob5 : ∀ q, (Value.slice (some ⟨wz.heap.size, 0, none⟩) 1 1).ownBlock = some q → wz.heap.size ≤ q := fun q e => by injection e with e; rw [← e]; exact Nat.le_refl _
            have one9 : ∀ v ∈ [encS x], v.oneCell' = true := by intro v hv; simp at hv; subst hv; rfl
            refine anyH_one9 (i := 9) (by kernel_rfl) rfl (fun K hK => ?_)
            refine step_own rfl _ _ 35 rfl wz.heap.size 9 i0 _ 1 16 Try.underlying35 hi0 hz0 hz1 hz2 rfl (by decide) _ 1 [encS x] rfl OW5 u5.heap.size _ 0 (c - i) (gcells (ts.drop i)) 0 rfl hlen5 L5 hone5 (by unfold maxLen; omega) (by omega) B5.size ?_
            intro v6 w6 hown6 hgrow6 hor6
            obtain ⟨A6, k6, rfl⟩ := own_slice hown6
            obtain ⟨a6, hA6, _, hc6⟩ := (lies_own (B := 0) hown6) (by simp)
            subst hA6
            have B6 : Below wz.heap.size wz w6 := B5.grown hgrow6 B5.size ob5
            have S1 := trivial
            refine hK _ _ S1 ?_
            clear hgrow6 hor6 L5 hlen5 hone5 ob5 B5 OW5
            clear hK K S0
            have S0 := S1
            clear S1
            try simp only [Act.put, List.setIfInBounds_toArray, List.set_cons_zero, List.set_cons_succ, List.getElem_toArray, List.getElem_cons_zero, List.getElem_cons_succ]
            have L6 : Lies w6 w6.heap.size 0 (some ad) (gcells (ts.take i)) := by
              rw [← gcells_take9]
              exact (Lies.stay LZ.out B6).take _
            have hlen6 : (gcells (ts.take i)).length = i * 1 := by rw [gcells_len, List.length_take, ← TN.out, Nat.min_eq_left (by omega)]; omega
            refine anyH_one9 (i := 10) (by kernel_rfl) rfl (fun K hK => ?_)
            refine step_new rfl _ _ 35 rfl wz.heap.size 9 i0 _ 1 16 Try.underlying35 hi0 hz0 hz1 hz2 rfl w6.heap.size 0 (some ad) i (gcells (ts.take i)) rfl hlen6 L6 (by intro z; first | rfl | cases z) a6 (1 + 0) k6 ([encS x] ++ (gcells (ts.drop i))) rfl hown6.1 hc6 (own_ones one9 (gcells_one _)) (by omega) (by unfold maxLen; omega) (by omega) B6.size ?_
            intro v7 w7 hown7 hgrow7 hblk7
            obtain ⟨A7, k7, rfl⟩ := own_slice hown7
            have B7 : Below wz.heap.size wz w7 := B6.grown hgrow7 B6.size (fun q e => by cases e)
            have S1 := trivial
            refine hK _ _ S1 ?_
            clear hgrow7 L6 hlen6
            clear hK K S0
            have S0 := S1
            clear S1
            try simp only [Act.put, List.setIfInBounds_toArray, List.set_cons_zero, List.set_cons_succ, List.getElem_toArray, List.getElem_cons_zero, List.getElem_cons_succ]
            refine wpAnyH_take (i := 11) (v := ?_) rfl (by kernel_rfl) (by kernel_rfl) (by kernel_rfl) (fun _ _ _ h => h) (Or.inl ⟨by rfl, ?_⟩) S0 ?_
            rotate_left
            · intro u hu
              go_simp
              try rfl
            try simp only [Act.put, List.setIfInBounds_toArray, List.set_cons_zero, List.set_cons_succ, List.getElem_toArray, List.getElem_cons_zero, List.getElem_cons_succ]
            refine wpAnyH_done (by kernel_rfl) ?_ _
            clear S0
            have HO7 := Lib.hid hown7
            have HB7 := Lib.hid B7
            have HK7 := Lib.hid hblk7
            clear hown7 B7 hblk7 hown6 hc6 B6
            generalize (if c = i then some ad else some (ad.add i)) = A8
            go_wp2
            go_roundw
            case rel =>
              have ENDL : (ts.take i ++ x :: ts.drop i).length = i + (1 + 0) := by rw [List.length_append, List.length_cons, List.length_take, List.length_drop, ← TN.out, Nat.min_eq_left (by omega)]; omega
              have CELLS : gcells (ts.take i ++ x :: ts.drop i) = (gcells (ts.take i)) ++ ([encS x] ++ (gcells (ts.drop i))) := by simp [gcells]
              have EC : Sr.canon T9.ltS (xs.take (k + 1)) = (ts.take i ++ x :: ts.drop i) := by rw [take_nxt X.out, Sr.canon_snoc, ← TE.out]; exact IN.out
              refine ⟨k + 1, A7, _, k7, rfl, by go_num, by omega, (by rw [EC, ENDL]), (own_room HO7.out).2, (fun z => by subst z; cases HK7.out), ?_, BZ.out.trans (HB7.out.mono BZ.out.size)⟩
              rw [EC]
              show Lies w7 0 9 A7 (gcells (ts.take i ++ x :: ts.drop i))
              rw [CELLS]
              exact lies_own (B := 0) HO7.out
            case measure => simp [intOf]; omega
    · obtain rfl : k = n0 := by omega
      have hltz : ¬ ((k : Int) < (k : Int)) := by omega
      have ET : ts = Sr.canon T9.ltS xs := by rw [TE.out, HN.out, List.take_length]
      have ET2 := Lib.hid ET
      clear ET
      go_wp2
      go_ret
      exact ⟨A, c, (by rw [← ET2.out, ← TN.out]; rfl), (by rw [← ET2.out]; exact LO.out), (by rw [← ET2.out, ← TN.out]; exact TC.out), TZ.out, BO.out⟩
end Go.Proofs.Ytbgdmmemahfpbaa
