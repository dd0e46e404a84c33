/- Stage 5: the law DiskKeeps, the walk. -/
import Derived.Test.YtogobeinckgjmaaDa
import Derived.Test.YtogobeinckgjmaaRg
import Derived.Test.YtogobeinckgjmaaApg
namespace Go.Proofs.Ytogobeinckgjmaa
open Go.RowKit

namespace Dk
theorem write_s (d : D) (i : Int) (b : List UInt8) : (write d i b).2.s = d.s := by
  unfold write
  repeat' split
  all_goals first | rfl | exact act_s d
theorem write_bad (d : D) (i : Int) (b : List UInt8) : (write d i b).2.bad = d.bad := by
  unfold write
  repeat' split
  all_goals first | rfl | exact act_bad d
theorem flush_bad (d : D) : (flush d).2.bad = d.bad := by
  unfold flush
  split
  all_goals exact act_bad d
/-- Whether the deed made this of the sector. -/
def hit (bb : List UInt8) (j : Int) (x : Dd) : Bool := decide (x.at_ = j) && decide (x.b.length ≤ 64) && (bb == sec x.b)
/-- What is cached came of these deeds. -/
def From (l : List Dd) (d : D) : Prop := ∀ c ∈ d.cache, ∃ x ∈ l, x.at_ = (c.1 : Int) ∧ x.b.length ≤ 64 ∧ c.2 = sec x.b
theorem From.write {l : List Dd} {k : Nat} {d : D} (h : From l d) (hl : Live k d) (x : Dd) : From (l ++ [x]) (write d x.at_ x.b).2 := by
  have up : From (l ++ [x]) d := fun c hc => by
    obtain ⟨y, hy, r⟩ := h c hc
    exact ⟨y, by simp [hy], r⟩
  unfold Dk.write
  split
  · exact up
  split
  · exact up
  rename_i hh
  split
  · exact up
  rename_i hb
  rw [act_live hl, if_pos rfl]
  intro c hc
  have hc2 : c ∈ d.cache ++ [(x.at_.toNat, sec x.b)] := hc
  rw [List.mem_append, List.mem_singleton] at hc2
  rcases hc2 with hc2 | rfl
  · exact up c hc2
  · have := has_iff.1 (show has d x.at_ = true by simpa using hh)
    exact ⟨x, by simp, by show x.at_ = ((x.at_.toNat : Nat) : Int); omega, by omega, rfl⟩
theorem keepSome_told {s : List (List UInt8)} {c : List (Nat × List UInt8)} {ks : List Bool} {i : Nat} (hi : i < s.length) : (keepSome s c ks).getD i [] = s.getD i [] ∨ ∃ x ∈ c, x.1 = i ∧ (keepSome s c ks).getD i [] = x.2 := by
  induction c generalizing s ks with
  | nil => exact Or.inl (by cases ks <;> rfl)
  | cons w c ih =>
    cases ks with
    | nil => exact Or.inl rfl
    | cons k ks =>
      have hs : i < (if k = true then s.set w.1 w.2 else s).length := by split <;> simpa using hi
      rcases ih (s := if k = true then s.set w.1 w.2 else s) (ks := ks) hs with q | ⟨x, hx, h1, h2⟩
      · by_cases hw : k = true ∧ w.1 = i
        · refine Or.inr ⟨w, by simp, hw.2, ?_⟩
          show (keepSome (if k = true then s.set w.1 w.2 else s) c ks).getD i [] = w.2
          rw [q, if_pos hw.1, ← hw.2, List.getD_eq_getElem?_getD, List.getElem?_set_self (by rw [hw.2]; exact hi)]
          rfl
        · refine Or.inl ?_
          show (keepSome (if k = true then s.set w.1 w.2 else s) c ks).getD i [] = s.getD i []
          rw [q]
          split
          · rename_i hk
            rw [List.getD_eq_getElem?_getD, List.getElem?_set_ne (fun e => hw ⟨hk, e⟩), List.getD_eq_getElem?_getD]
          · rfl
      · exact Or.inr ⟨x, by simp [hx], h1, h2⟩
end Dk

set_option maxHeartbeats 4000000 in
set_option maxRecDepth 100000 in
theorem diskKeeps_c {A1 A2 KA : Option Addr} {c1 c2 ck : Nat} {l1 l2 : List MDd} {ks : List Bool} {w : World} (n : Int) (h1 : DL w w.heap.size A1 l1) (h2 : DL w w.heap.size A2 l2) (hK : Lies w w.heap.size 0 KA (ks.map Value.bool)) (hck : ks.length ≤ ck) (hn1 : n ≤ 9223372036854775807) (hs1 : l1.length ≤ 9223372036854775807) (hs2 : l2.length ≤ 9223372036854775807) (hs3 : ks.length ≤ 9223372036854775807) :
    Calls Try.prog 4 #[.int .i64 n, .slice A1 l1.length c1, .slice A2 l2.length c2, .slice KA ks.length ck] w fun e w' => e = .returned (.bool true) ∧ Below w.heap.size w w' := by
  have H1 := Lib.hid h1
  have H2 := Lib.hid h2
  have HK := Lib.hid hK
  have HN := Lib.hid hn1
  have HCK := Lib.hid hck
  clear h1 h2 hK hn1 hck
  go_enter Try.func4, Try.ntmps4
  go_wp2_with fail
  refine (awake5 w).mono ?_
  rintro e w1 ⟨rfl, hb1⟩
  have B1 := Lib.hid hb1
  clear hb1
  have z1 := B1.out.size
  go_wp2_with fail
  refine (few5_c (H1.out.below (Nat.le_refl _) B1.out) z1 rfl hs1).mono ?_
  cases hf1 : Dk.few (dds l1)
  · rintro e w2 ⟨rfl, hb2⟩
    have B2 := Lib.hid (B1.out.trans (hb2.mono z1))
    clear hb2 hf1
    go_wp2
    go_ret
    exact ⟨rfl, B2.out⟩
  rintro e w2 ⟨rfl, hb2⟩
  have B2 := Lib.hid (B1.out.trans (hb2.mono z1))
  have F1 := Lib.hid (Dk.few_len hf1)
  have z2 := B2.out.size
  clear hb2 hf1
  go_wp2_with fail
  refine (few5_c (H2.out.below (Nat.le_refl _) B2.out) z2 rfl hs2).mono ?_
  cases hf2 : Dk.few (dds l2)
  · rintro e w3 ⟨rfl, hb3⟩
    have B3 := Lib.hid (B2.out.trans (hb3.mono z2))
    clear hb3 hf2
    go_wp2
    go_ret
    exact ⟨rfl, B3.out⟩
  rintro e w3 ⟨rfl, hb3⟩
  have B3 := Lib.hid (B2.out.trans (hb3.mono z2))
  have F2 := Lib.hid (Dk.few_len hf2)
  have z3 := B3.out.size
  clear hb3 hf2
  by_cases hn : 50 < n
  · go_wp2
    go_ret
    exact ⟨rfl, B3.out⟩
  by_cases hk : 100 < ks.length
  · have hk2 : (100 : Int) < (ks.length : Int) := by omega
    go_wp2
    go_ret
    exact ⟨rfl, B3.out⟩
  have hk2 : (ks.length : Int) ≤ 100 := by omega
  have k100 : ks.length ≤ 100 := by omega
  clear hk
  go_wp2_with fail
  refine (cdNew_c n _ HN.out).mono ?_
  intro e w4 hp
  obtain ⟨q, G4, rfl, hs4, _, hb4⟩ := CNewOk.step z3 hp
  have S4 := Lib.hid hs4
  have B4 := Lib.hid (B3.out.trans (hb4.mono z3))
  have z4 := B4.out.size
  clear hp hs4 hb4
  go_wp2_with fail
  go_loopw [46] (fun i wr => ∃ (j : Nat) (G : Nat → Prop) (D : Dk.D), j ≤ l1.length ∧ i = .int .i64 j ∧ CS wr w.heap.size G q D ∧ Dk.Live j D ∧ D.bad = (Dk.new n).bad ∧ Below w.heap.size w wr) (fun i _ => l1.length - (intOf i).toNat)
  case atStart => exact ⟨0, G4, _, Nat.zero_le _, rfl, S4.out, Dk.new_live n, rfl, B4.out⟩
  case round =>
    obtain ⟨j, G, D, hj, rfl, hs, hlv, hbad, hb⟩ := hrel
    have HS := Lib.hid hs
    have HLV := Lib.hid hlv
    have HBD := Lib.hid hbad
    have HB := Lib.hid hb
    have hz := hb.size
    have l40 : l1.length ≤ 40 := by have := F1.out.1; rw [dds_len] at this; exact this
    clear hs hlv hbad hb
    by_cases hlt : j < l1.length
    · obtain ⟨ad, m, rfl, hm, _, d0, d1, d2, d3, d4⟩ := (H1.out.below (Nat.le_refl _) HB.out).at_ hlt
      have FI := Lib.hid (H1.out.2 m (List.mem_of_getElem? hm))
      have BL : m.x.b.length ≤ 100 := (F1.out.2 m.x (List.mem_map.2 ⟨m, List.mem_of_getElem? hm, rfl⟩)).1
      clear hm
      have WA := Lib.hid ((Below.refl wr.heap.size wr).alloc (Nat.le_refl _) (.cells #[.int .i64 m.x.kind, .int .i64 m.x.at_, .slice m.A m.x.b.length m.c, .int .i64 m.x.n, .slice m.KA m.x.keep.length m.Kc] 32))
      go_wp2_with fail
      have HSa := Lib.hid (HS.out.keep WA.out)
      have HBa := Lib.hid (HB.out.trans (WA.out.mono hz))
      refine (cdWrite_c HSa.out.cd HLV.out.1 (by rw [HLV.out.2.1]; omega) (by have := HLV.out.2.2.2; omega) (FI.out.1.1.below (Nat.le_refl _) HBa.out) (FI.out.1.1.far HSa.out.old HBa.out.size) rfl (by omega) FI.out.1.2 m.x.at_).mono ?_
      intro e w5 hp
      obtain ⟨rfl, G5, hs5⟩ := CdOk.step HSa.out HBa.out.size hp
      have S5 := Lib.hid hs5.cs
      have B5 := Lib.hid (HBa.out.trans hs5.below)
      have L5 := Lib.hid (Dk.write_live HLV.out m.x.at_ m.x.b)
      have D5 := Lib.hid ((Dk.write_bad D m.x.at_ m.x.b).trans HBD.out)
      clear hp hs5
      generalize Dk.write D m.x.at_ m.x.b = r at *
      obtain ⟨er, D2⟩ := r
      dsimp only at S5 L5 D5 ⊢
      go_wp2
      go_roundw
      case rel => exact ⟨j + 1, G5, D2, by omega, by go_num, S5.out, L5.out, D5.out, B5.out⟩
      case measure => simp [intOf]; omega
    · obtain rfl : j = l1.length := by omega
      go_wp2_with fail
      refine (cdFlush_c HS.out.cd HLV.out.1 (by rw [HLV.out.2.1]; omega) (by have := HLV.out.2.2.2; omega)).mono ?_
      rw [Dk.flush_fine HLV.out]
      intro e w5 hp
      obtain ⟨rfl, G5, hs5⟩ := CdOk.step HS.out hz hp
      have S5 := Lib.hid hs5.cs
      have B5 := Lib.hid (HB.out.trans hs5.below)
      have z5 := B5.out.size
      have L5 := Lib.hid (Dk.flush_live HLV.out)
      have D5 := Lib.hid ((Dk.flush_bad D).trans HBD.out)
      have C5 := Lib.hid (show (Dk.flush D).2.cache = [] by unfold Dk.flush; rw [Dk.act_live HLV.out, if_pos rfl])
      clear hp hs5
      generalize (Dk.flush D).2 = E at *
      go_wp2_with fail
      refine (cdClone_c S5.out.cd L5.out.1).mono ?_
      intro e w6 hp
      obtain ⟨q2, H6, rfl, hs6, hd6, hb6⟩ := CNewOk.step z5 hp
      have T6 := Lib.hid hs6
      have S6 := Lib.hid (S5.out.keep hb6)
      have B6 := Lib.hid (B5.out.trans (hb6.mono z5))
      have z6 := B6.out.size
      have X6 : Hid (∀ k, H6 k → ¬ G5 k) := Lib.hid fun k hk g => hd6 k (S5.out.old k g).2 hk
      clear hp hs6 hb6 hd6
      have k40 : l2.length ≤ 40 := by have := F2.out.1; rw [dds_len] at this; exact this
      have K5 := Lib.hid (show Dk.From (dds (l2.take 0)) E from fun c hc => by rw [C5.out] at hc; cases hc)
      clear hlt hj
      go_wp2_with fail
      go_loopw [64] (fun i wr => ∃ (j : Nat) (G : Nat → Prop) (D : Dk.D), j ≤ l2.length ∧ i = .int .i64 j ∧ CS wr w.heap.size G q D ∧ CS wr w.heap.size H6 q2 (Dk.clone E) ∧ (∀ k, H6 k → ¬ G k) ∧ Dk.Live (l1.length + j) D ∧ D.bad = (Dk.new n).bad ∧ D.s = E.s ∧ Dk.From (dds (l2.take j)) D ∧ Below w.heap.size w wr) (fun i _ => l2.length - (intOf i).toNat)
      case atStart => exact ⟨0, G5, E, Nat.zero_le _, rfl, S6.out, T6.out, X6.out, L5.out, D5.out, rfl, K5.out, B6.out⟩
      case round =>
        obtain ⟨j, G, D, hj, rfl, hs, ht, hx, hlv, hbad, hds, hfr, hb⟩ := hrel
        have JS := Lib.hid hs
        have JT := Lib.hid ht
        have JX := Lib.hid hx
        have JL := Lib.hid hlv
        have JD := Lib.hid hbad
        have JE := Lib.hid hds
        have JF := Lib.hid hfr
        have JB := Lib.hid hb
        have hz2 := hb.size
        clear hs ht hx hlv hbad hds hfr hb
        by_cases hlt : j < l2.length
        · obtain ⟨ad, m, rfl, hm, _, d0, d1, d2, d3, d4⟩ := (H2.out.below (Nat.le_refl _) JB.out).at_ hlt
          have FI := Lib.hid (H2.out.2 m (List.mem_of_getElem? hm))
          have BL : m.x.b.length ≤ 100 := (F2.out.2 m.x (List.mem_map.2 ⟨m, List.mem_of_getElem? hm, rfl⟩)).1
          have TK : Hid (dds (l2.take (j + 1)) = dds (l2.take j) ++ [m.x]) := Lib.hid (by rw [take_next hm]; simp [dds])
          clear hm
          have WA := Lib.hid ((Below.refl wr.heap.size wr).alloc (Nat.le_refl _) (.cells #[.int .i64 m.x.kind, .int .i64 m.x.at_, .slice m.A m.x.b.length m.c, .int .i64 m.x.n, .slice m.KA m.x.keep.length m.Kc] 32))
          go_wp2_with fail
          have HSa := Lib.hid (JS.out.keep WA.out)
          have HBa := Lib.hid (JB.out.trans (WA.out.mono hz2))
          refine (cdWrite_c HSa.out.cd JL.out.1 (by rw [JL.out.2.1]; omega) (by have := JL.out.2.2.2; omega) (FI.out.1.1.below (Nat.le_refl _) HBa.out) (FI.out.1.1.far HSa.out.old HBa.out.size) rfl (by omega) FI.out.1.2 m.x.at_).mono ?_
          intro e w7 hp
          obtain ⟨rfl, G7, hs7⟩ := CdOk.step HSa.out HBa.out.size hp
          have S7 := Lib.hid hs7.cs
          have B7 := Lib.hid (HBa.out.trans hs7.below)
          have T7 := Lib.hid ((JT.out.keep WA.out).but hs7.but JX.out)
          have X7 : Hid (∀ k, H6 k → ¬ G7 k) := Lib.hid fun k hk g => JX.out k hk (hs7.new k (Nat.lt_of_lt_of_le (JT.out.old k hk).2 WA.out.size) g)
          have L7 := Lib.hid (Dk.write_live JL.out m.x.at_ m.x.b)
          have D7 := Lib.hid ((Dk.write_bad D m.x.at_ m.x.b).trans JD.out)
          have E7 := Lib.hid ((Dk.write_s D m.x.at_ m.x.b).trans JE.out)
          have F7 := Lib.hid (JF.out.write JL.out m.x)
          clear hp hs7
          generalize Dk.write D m.x.at_ m.x.b = r at *
          obtain ⟨er, D2⟩ := r
          dsimp only at S7 L7 D7 E7 F7 ⊢
          rw [← TK.out] at F7
          go_wp2
          go_roundw
          case rel => exact ⟨j + 1, G7, D2, by omega, by go_num, S7.out, T7.out, X7.out, L7.out, D7.out, E7.out, F7.out, B7.out⟩
          case measure => simp [intOf]; omega
        · obtain rfl : j = l2.length := by omega
          have FR : Hid (Dk.From (dds l2) D) := Lib.hid (by have := JF.out; rwa [List.take_length] at this)
          go_wp2_with fail
          refine (cdCrash_c (ks := ks) JS.out.cd JL.out.1 (by have := JL.out.2.2.2; omega) (HK.out.below (Nat.le_refl _) JB.out) (HK.out.far JS.out.old hz2) rfl (by omega) HCK.out).mono ?_
          intro e w8 hp
          obtain ⟨rfl, G8, hs8⟩ := CdOk0.step JS.out hz2 hp
          have S8 := Lib.hid hs8.cs
          have B8 := Lib.hid (JB.out.trans hs8.below)
          have z8 := B8.out.size
          have T8 := Lib.hid (JT.out.but hs8.but JX.out)
          have O8 := Lib.hid (Dk.crash_ok JL.out.1 ks)
          clear hp hs8
          have SZ : Hid ((Dk.crash D ks).s.length = E.s.length) := Lib.hid (by show (Dk.keepSome D.s D.cache ks).length = _; rw [Dk.keepSome_len, JE.out])
          have n50 : E.s.length ≤ 4096 := L5.out.1.few
          have SL := Lib.hid n50
          have RD8 : Hid (∀ k : Nat, k < E.s.length → Dk.read (Dk.crash D ks) (k : Int) = ((Dk.crash D ks).s.getD k [], 0) ∧ Dk.read (Dk.clone E) (k : Int) = (E.s.getD k [], 0) ∧ ((Dk.crash D ks).s.getD k [] = E.s.getD k [] ∨ ∃ x ∈ dds l2, x.at_ = (k : Int) ∧ x.b.length ≤ 64 ∧ (Dk.crash D ks).s.getD k [] = Dk.sec x.b)) := by
            refine Lib.hid fun k hk => ⟨?_, ?_, ?_⟩
            · have b0 : (Dk.crash D ks).bad.getD k false = false := by
                show D.bad.getD k false = false
                rw [JD.out]
                simp [Dk.new, Dk.fresh, List.getD_eq_getElem?_getD, List.getElem?_replicate]
                try split <;> rfl
              unfold Dk.read
              rw [if_neg (by simp [Dk.crash]), if_neg (by rw [Dk.has_iff.2 ⟨by omega, by rw [SZ.out]; omega⟩]; simp), if_neg (by rw [Int.toNat_natCast, b0]; simp)]
              rfl
            · unfold Dk.read
              rw [if_neg (by simp [Dk.clone, Dk.fresh]), if_neg (by rw [Dk.has_iff.2 ⟨by omega, by show (k : Int) < (E.s.length : Int); omega⟩]; simp), if_neg]
              · rfl
              · rw [Int.toNat_natCast]
                simp [Dk.clone, Dk.fresh, List.getD_eq_getElem?_getD, List.getElem?_replicate]
                try split <;> simp
            · rcases Dk.keepSome_told (s := D.s) (c := D.cache) (ks := ks) (i := k) (by rw [JE.out]; exact hk) with q | ⟨x, hx, h1, h2⟩
              · exact Or.inl (by rw [← JE.out]; exact q)
              · obtain ⟨y, hy, y1, y2, y3⟩ := FR.out x hx
                exact Or.inr ⟨y, hy, by rw [y1, h1], y2, by rw [← y3]; exact h2⟩
          clear n50
          go_wp2_with fail
          go_loopw [15] (fun i wr => ∃ j : Nat, j ≤ E.s.length ∧ i = .int .i64 j ∧ Below w8.heap.size w8 wr) (fun i _ => E.s.length - (intOf i).toNat)
          case atStart => exact ⟨0, Nat.zero_le _, rfl, Below.refl _ _⟩
          case round =>
            obtain ⟨j, hj, rfl, hb⟩ := hrel
            have BR := Lib.hid hb
            have S9 := Lib.hid (S8.out.keep hb)
            have zr := hb.size
            clear hb
            go_wp2_with fail
            refine (cdSize_c S9.out.cd).mono ?_
            rw [SZ.out]
            rintro e w9 ⟨rfl, hb⟩
            have B9 := Lib.hid (BR.out.trans (hb.mono zr))
            have z9 := B9.out.size
            clear hb
            by_cases hlt : j < E.s.length
            · have hlt2 : (j : Int) < (E.s.length : Int) := by omega
              obtain ⟨bb, cc, r9⟩ : ∃ bb cc : List UInt8, Dk.read (Dk.crash D ks) (j : Int) = (bb, 0) ∧ Dk.read (Dk.clone E) (j : Int) = (cc, 0) ∧ (bb = cc ∨ ∃ x ∈ dds l2, x.at_ = (j : Int) ∧ x.b.length ≤ 64 ∧ bb = Dk.sec x.b) := ⟨_, _, RD8.out j hlt⟩
              have R9 := Lib.hid r9
              clear r9
              have S10 := Lib.hid (S8.out.keep B9.out)
              clear hlt
              go_wp2_with fail
              refine (cdRead_c S10.out.cd O8.out (by show (0 : Nat) ≤ _; omega) j).mono ?_
              rw [R9.out.1]
              rintro e w10 ⟨A10, n10, c10, rfl, hl10, hn10, ho10, hb⟩
              subst hl10
              have B10 := Lib.hid (B9.out.trans (hb.mono z9))
              have z10 := B10.out.size
              have W10 := Lib.hid ho10
              have T10 := Lib.hid (T8.out.keep B10.out)
              clear hb ho10
              go_wp2_with fail
              refine (cdRead_c T10.out.cd (Dk.clone_ok L5.out.1) (by show (0 : Nat) ≤ _; omega) j).mono ?_
              rw [R9.out.2.1]
              rintro e w11 ⟨A11, n11, c11, rfl, hl11, hn11, ho11, hb⟩
              subst hl11
              have B11 := Lib.hid (B10.out.trans (hb.mono z10))
              have z11 := B11.out.size
              have W11 := Lib.hid (own_below W10.out hb)
              have V11 := Lib.hid ho11
              clear hb ho11
              have g1 := conv_at (c := c10) (lies_own (B := 0) W11.out) rfl
              have g2 := conv_at (c := c11) (lies_own (B := 0) V11.out) rfl
              have END : Hid (((bb == cc) || (dds l2).any (Dk.hit bb j)) = true) := by
                refine Lib.hid ?_
                rcases R9.out.2.2 with q | ⟨x, hx, h1, h2, h3⟩
                · rw [q]; simp
                · rw [Bool.or_eq_true, List.any_eq_true]
                  exact Or.inr ⟨x, hx, by unfold Dk.hit; simp [h1, h2, h3]⟩
              go_wp2_with fail
              clear g1 g2
              have j4 : j < 4096 := by have := SL.out; omega
              go_loopw [20, 109] (fun v i wr => ∃ t : Nat, t ≤ l2.length ∧ v = .bool ((bb == cc) || (dds (l2.take t)).any (Dk.hit bb j)) ∧ i = .int .i64 t ∧ Below w11.heap.size w11 wr) (fun _ i _ => l2.length - (intOf i).toNat)
              case atStart => exact ⟨0, Nat.zero_le _, by simp [dds], rfl, Below.refl _ _⟩
              case round =>
                obtain ⟨t, ht, rfl, rfl, hb⟩ := hrel
                have BT := Lib.hid hb
                have zt := hb.size
                clear hb
                by_cases hlt3 : t < l2.length
                · have BW := Lib.hid (B8.out.trans ((B11.out.trans (BT.out.mono z11)).mono z8))
                  obtain ⟨ad, m, rfl, hm, _, d0, d1, d2, d3, d4⟩ := (H2.out.below (Nat.le_refl _) BW.out).at_ hlt3
                  have TK : Hid (((bb == cc) || (dds (l2.take (t + 1))).any (Dk.hit bb j)) = (((bb == cc) || (dds (l2.take t)).any (Dk.hit bb j)) || Dk.hit bb j m.x)) := Lib.hid (by rw [take_next hm]; simp [dds, Bool.or_assoc])
                  have FI := Lib.hid (H2.out.2 m (List.mem_of_getElem? hm))
                  clear hm
                  cases hv : ((bb == cc) || (dds (l2.take t)).any (Dk.hit bb j))
                  · rw [hv, Bool.false_or] at TK
                    clear hv
                    have WA := Lib.hid ((Below.refl wr.heap.size wr).alloc (Nat.le_refl _) (.cells #[.int .i64 m.x.kind, .int .i64 m.x.at_, .slice m.A m.x.b.length m.c, .int .i64 m.x.n, .slice m.KA m.x.keep.length m.Kc] 32))
                    have G1 : Hid ((wr.alloc (.cells #[.int .i64 m.x.kind, .int .i64 m.x.at_, .slice m.A m.x.b.length m.c, .int .i64 m.x.n, .slice m.KA m.x.keep.length m.Kc] 32)).cell? ⟨wr.heap.size, 1, none⟩ = some (.int .i64 m.x.at_)) := Lib.hid (cell_of_row _ _ _ _ _ _ (heap_alloc_new wr _))
                    have G2 : Hid ((wr.alloc (.cells #[.int .i64 m.x.kind, .int .i64 m.x.at_, .slice m.A m.x.b.length m.c, .int .i64 m.x.n, .slice m.KA m.x.keep.length m.Kc] 32)).cell? ⟨wr.heap.size, 2, none⟩ = some (.slice m.A m.x.b.length m.c)) := Lib.hid (cell_of_row _ _ _ _ _ _ (heap_alloc_new wr _))
                    by_cases hat : m.x.at_ = (j : Int)
                    · have hat2 : (m.x.at_ == (j : Int)) = true := by simp [hat]
                      by_cases hle : m.x.b.length ≤ 64
                      · have HT : Hid (Dk.hit bb j m.x = (bb == Dk.sec m.x.b)) := Lib.hid (by unfold Dk.hit; simp [hat, hle])
                        have hle2 : decide ((m.x.b.length : Int) ≤ 64) = true := by simp; omega
                        obtain ⟨tu, hu0, iu0, iu1, iu2⟩ := info_parts Try.infoU8
                        have BV := Lib.hid (BT.out.trans (WA.out.mono zt))
                        have BZ := Lib.hid (BW.out.trans (WA.out.mono BW.out.size))
                        have LM := Lib.hid (FI.out.1.1.below (Nat.le_refl _) BZ.out)
                        have KC : Hid (∀ u, Below w11.heap.size w11 u → (convert 29 9 (.slice A10 bb.length c10)).run Try.prog u = .ok (.string (str bb)) u) := Lib.hid fun u hu => conv_at (lies_own (B := 0) (own_below W11.out hu)) rfl
                        have SLN := Lib.hid (Dk.sec_len hle)
                        have s1 : IntKind.i64.wrap (64 - (m.x.b.length : Int)) = ((64 - m.x.b.length : Nat) : Int) := by rw [IntWalk.i64_in _ (by omega)]; omega
                        have glt : wr.heap.size < (wr.alloc (.cells #[.int .i64 m.x.kind, .int .i64 m.x.at_, .slice m.A m.x.b.length m.c, .int .i64 m.x.n, .slice m.KA m.x.keep.length m.Kc] 32)).heap.size := by simp
                        clear hat
                        go_wp2_with fail
                        generalize (wr.alloc (.cells #[.int .i64 m.x.kind, .int .i64 m.x.at_, .slice m.A m.x.b.length m.c, .int .i64 m.x.n, .slice m.KA m.x.keep.length m.Kc] 32)) = V at *
                        refine Any.begin (S := fun u => u.cell? ⟨wr.heap.size, 1, none⟩ = some (.int .i64 m.x.at_) ∧ u.cell? ⟨wr.heap.size, 2, none⟩ = some (.slice m.A m.x.b.length m.c) ∧ (convert 29 9 (.slice A10 bb.length c10)).run Try.prog u = .ok (.string (str bb)) u) (st := 27) (by kernel_rfl) ?_
                        have S0 : _ ∧ _ ∧ _ := ⟨G1.out, G2.out, KC.out V.drew BV.out.drew⟩
                        refine Any.take (st := 27) (i := 0) (v := ?_) rfl (by kernel_rfl) (by kernel_rfl) (by kernel_rfl) rfl (by kernel_rfl) (fun _ _ _ h => h) (Or.inl ⟨by rfl, ?_⟩) (by assumption) ?_
                        rotate_left
                        · intro u hu
                          go_simp
                          try rfl
                        try simp only [Act.put, List.setIfInBounds_toArray, List.set_cons_zero, List.set_cons_succ, List.getElem_toArray, List.getElem_cons_zero]
                        refine Any.take (st := 27) (i := 1) (v := ?_) rfl (by kernel_rfl) (by kernel_rfl) (by kernel_rfl) rfl (by kernel_rfl) (fun _ _ _ h => h) (Or.inl ⟨by rfl, ?_⟩) (by assumption) ?_
                        rotate_left
                        · intro u hu
                          go_simp
                          try rfl
                        try simp only [Act.put, List.setIfInBounds_toArray, List.set_cons_zero, List.set_cons_succ, List.getElem_toArray, List.getElem_cons_zero, List.getElem_cons_succ]
                        refine Any.take (st := 27) (i := 2) (v := ?_) rfl (by kernel_rfl) (by kernel_rfl) (by kernel_rfl) rfl (by kernel_rfl) (fun _ _ _ h => h) (Or.inl ⟨by rfl, ?_⟩) (by assumption) ?_
                        rotate_left
                        · intro u hu
                          go_simp
                          try rfl
                        try simp only [Act.put, List.setIfInBounds_toArray, List.set_cons_zero, List.set_cons_succ, List.getElem_toArray, List.getElem_cons_zero, List.getElem_cons_succ]
                        refine Any.take (st := 27) (i := 3) (v := ?_) rfl (by kernel_rfl) (by kernel_rfl) (by kernel_rfl) rfl (by kernel_rfl) (fun _ _ _ h => h) (Or.inl ⟨by rfl, ?_⟩) (by assumption) ?_
                        rotate_left
                        · intro u hu
                          obtain ⟨u1, u2, u3⟩ := hu
                          go_simp
                          try rfl
                        try simp only [Act.put, List.setIfInBounds_toArray, List.set_cons_zero, List.set_cons_succ, List.getElem_toArray, List.getElem_cons_zero, List.getElem_cons_succ]
                        refine Any.take (st := 27) (i := 4) (v := ?_) rfl (by kernel_rfl) (by kernel_rfl) (by kernel_rfl) rfl (by kernel_rfl) (fun _ _ _ h => h) (Or.inl ⟨by rfl, ?_⟩) (by assumption) ?_
                        rotate_left
                        · intro u hu
                          go_simp
                          try rfl
                        try simp only [Act.put, List.setIfInBounds_toArray, List.set_cons_zero, List.set_cons_succ, List.getElem_toArray, List.getElem_cons_zero, List.getElem_cons_succ]
                        refine Any.take (st := 27) (i := 5) (v := ?_) rfl (by kernel_rfl) (by kernel_rfl) (by kernel_rfl) rfl (by kernel_rfl) (fun _ _ _ h => h) (Or.inl ⟨by rfl, ?_⟩) (by assumption) ?_
                        rotate_left
                        · intro u hu
                          go_simp
                          try rfl
                        try simp only [Act.put, List.setIfInBounds_toArray, List.set_cons_zero, List.set_cons_succ, List.getElem_toArray, List.getElem_cons_zero, List.getElem_cons_succ]
                        refine Any.take (st := 27) (i := 6) (v := ?_) rfl (by kernel_rfl) (by kernel_rfl) (by kernel_rfl) rfl (by kernel_rfl) (fun _ _ _ h => h) (Or.inl ⟨by rfl, ?_⟩) (by assumption) ?_
                        rotate_left
                        · intro u hu
                          go_simp
                          try rfl
                        try simp only [Act.put, List.setIfInBounds_toArray, List.set_cons_zero, List.set_cons_succ, List.getElem_toArray, List.getElem_cons_zero, List.getElem_cons_succ]
                        refine Any.take (st := 27) (i := 7) (v := ?_) rfl (by kernel_rfl) (by kernel_rfl) (by kernel_rfl) rfl (by kernel_rfl) (fun _ _ _ h => h) (Or.inl ⟨by rfl, ?_⟩) (by assumption) ?_
                        rotate_left
                        · intro u hu
                          go_simp
                          try rfl
                        try simp only [Act.put, List.setIfInBounds_toArray, List.set_cons_zero, List.set_cons_succ, List.getElem_toArray, List.getElem_cons_zero, List.getElem_cons_succ]
                        refine Any.take (st := 27) (i := 8) (v := ?_) rfl (by kernel_rfl) (by kernel_rfl) (by kernel_rfl) rfl (by kernel_rfl) (fun _ _ _ h => h) (Or.inl ⟨by rfl, ?_⟩) (by assumption) ?_
                        rotate_left
                        · intro u hu
                          obtain ⟨u1, u2, u3⟩ := hu
                          go_simp
                          try rfl
                        try simp only [Act.put, List.setIfInBounds_toArray, List.set_cons_zero, List.set_cons_succ, List.getElem_toArray, List.getElem_cons_zero, List.getElem_cons_succ]
                        refine Any.take (st := 27) (i := 9) (v := ?_) rfl (by kernel_rfl) (by kernel_rfl) (by kernel_rfl) rfl (by kernel_rfl) (fun _ _ _ h => h) (Or.inl ⟨by rfl, ?_⟩) (by assumption) ?_
                        rotate_left
                        · intro u hu
                          go_simp
                          try rfl
                        try simp only [Act.put, List.setIfInBounds_toArray, List.set_cons_zero, List.set_cons_succ, List.getElem_toArray, List.getElem_cons_zero, List.getElem_cons_succ]
                        refine Any.take (st := 27) (i := 10) (v := ?_) rfl (by kernel_rfl) (by kernel_rfl) (by kernel_rfl) rfl (by kernel_rfl) (fun _ _ _ h => h) (Or.inl ⟨by rfl, ?_⟩) (by assumption) ?_
                        rotate_left
                        · intro u hu
                          go_simp
                          try rfl
                        try simp only [Act.put, List.setIfInBounds_toArray, List.set_cons_zero, List.set_cons_succ, List.getElem_toArray, List.getElem_cons_zero, List.getElem_cons_succ]
                        refine Any.take (st := 27) (i := 11) (v := ?_) rfl (by kernel_rfl) (by kernel_rfl) (by kernel_rfl) rfl (by kernel_rfl) (fun _ _ _ h => h) (Or.inl ⟨by rfl, ?_⟩) (by assumption) ?_
                        rotate_left
                        · intro u hu
                          go_simp
                          try rfl
                        try simp only [Act.put, List.setIfInBounds_toArray, List.set_cons_zero, List.set_cons_succ, List.getElem_toArray, List.getElem_cons_zero, List.getElem_cons_succ]
                        refine Any.take (st := 27) (i := 12) (v := ?_) rfl (by kernel_rfl) (by kernel_rfl) (by kernel_rfl) rfl (by kernel_rfl) (fun _ _ _ h => h) (Or.inl ⟨by rfl, ?_⟩) (by assumption) ?_
                        rotate_left
                        · intro u hu
                          go_simp
                          try rfl
                        try simp only [Act.put, List.setIfInBounds_toArray, List.set_cons_zero, List.set_cons_succ, List.getElem_toArray, List.getElem_cons_zero, List.getElem_cons_succ]
                        refine Any.take (st := 27) (i := 13) (v := ?_) rfl (by kernel_rfl) (by kernel_rfl) (by kernel_rfl) rfl (by kernel_rfl) (fun _ _ _ h => h) (Or.inl ⟨by rfl, ?_⟩) (by assumption) ?_
                        rotate_left
                        · intro u hu
                          go_simp
                          try rfl
                        try simp only [Act.put, List.setIfInBounds_toArray, List.set_cons_zero, List.set_cons_succ, List.getElem_toArray, List.getElem_cons_zero, List.getElem_cons_succ]
                        refine Any.take (st := 27) (i := 14) (v := ?_) rfl (by kernel_rfl) (by kernel_rfl) (by kernel_rfl) rfl (by kernel_rfl) (fun _ _ _ h => h) (Or.inl ⟨by rfl, ?_⟩) (by assumption) ?_
                        rotate_left
                        · intro u hu
                          obtain ⟨u1, u2, u3⟩ := hu
                          go_simp
                          try rfl
                        try simp only [Act.put, List.setIfInBounds_toArray, List.set_cons_zero, List.set_cons_succ, List.getElem_toArray, List.getElem_cons_zero, List.getElem_cons_succ]
                        refine Any.take (st := 27) (i := 15) (v := ?_) rfl (by kernel_rfl) (by kernel_rfl) (by kernel_rfl) rfl (by kernel_rfl) (fun _ _ _ h => h) (Or.inl ⟨by rfl, ?_⟩) (by assumption) ?_
                        rotate_left
                        · intro u hu
                          go_simp
                          try rfl
                        try simp only [Act.put, List.setIfInBounds_toArray, List.set_cons_zero, List.set_cons_succ, List.getElem_toArray, List.getElem_cons_zero, List.getElem_cons_succ]
                        refine Any.take (st := 27) (i := 16) (v := ?_) rfl (by kernel_rfl) (by kernel_rfl) (by kernel_rfl) rfl (by kernel_rfl) (fun _ _ _ h => h) (Or.inl ⟨by rfl, ?_⟩) (by assumption) ?_
                        rotate_left
                        · intro u hu
                          obtain ⟨u1, u2, u3⟩ := hu
                          go_simp
                          try rfl
                        try simp only [Act.put, List.setIfInBounds_toArray, List.set_cons_zero, List.set_cons_succ, List.getElem_toArray, List.getElem_cons_zero, List.getElem_cons_succ]
                        refine Any.take (st := 27) (i := 18) (v := ?_) rfl (by kernel_rfl) (by kernel_rfl) (by kernel_rfl) rfl (by kernel_rfl) (fun _ _ _ h => h) (Or.inl ⟨by rfl, ?_⟩) (by assumption) ?_
                        rotate_left
                        · intro u hu
                          go_simp
                          try rfl
                        try simp only [Act.put, List.setIfInBounds_toArray, List.set_cons_zero, List.set_cons_succ, List.getElem_toArray, List.getElem_cons_zero, List.getElem_cons_succ]
                        refine Any.take (st := 27) (i := 19) (v := ?_) rfl (by kernel_rfl) (by kernel_rfl) (by kernel_rfl) rfl (by kernel_rfl) (fun _ _ _ h => h) (Or.inl ⟨by rfl, ?_⟩) (by assumption) ?_
                        rotate_left
                        · intro u hu
                          obtain ⟨u1, u2, u3⟩ := hu
                          go_simp
                          try rfl
                        try simp only [Act.put, List.setIfInBounds_toArray, List.set_cons_zero, List.set_cons_succ, List.getElem_toArray, List.getElem_cons_zero, List.getElem_cons_succ]
                        refine Any.take (st := 27) (i := 20) (v := ?_) rfl (by kernel_rfl) (by kernel_rfl) (by kernel_rfl) rfl (by kernel_rfl) (fun _ _ _ h => h) (Or.inl ⟨by rfl, ?_⟩) (by assumption) ?_
                        rotate_left
                        · intro u hu
                          go_simp
                          try rfl
                        try simp only [Act.put, List.setIfInBounds_toArray, List.set_cons_zero, List.set_cons_succ, List.getElem_toArray, List.getElem_cons_zero, List.getElem_cons_succ]
                        refine Any.take (st := 27) (i := 21) (v := ?_) rfl (by kernel_rfl) (by kernel_rfl) (by kernel_rfl) rfl (by kernel_rfl) (fun _ _ _ h => h) (Or.inl ⟨by rfl, ?_⟩) (by assumption) ?_
                        rotate_left
                        · intro u hu
                          go_simp
                          try rfl
                        try simp only [Act.put, List.setIfInBounds_toArray, List.set_cons_zero, List.set_cons_succ, List.getElem_toArray, List.getElem_cons_zero, List.getElem_cons_succ]
                        clear s1
                        refine Any.one (i := 17) (by kernel_rfl) rfl (fun K hK => ?_)
                        refine step_owng (by rfl) _ _ 29 rfl V.heap.size 5 tu (.int .u8 0) 1 1 Try.underlying29 hu0 iu0 iu1 iu2 rfl (by decide) _ 0 [] rfl (World.ownsRow_nil _ _ _ _) w.heap.size m.A m.x.b.length m.c (bcells m.x.b) 0 rfl (by rw [bcells_len]; omega) (by exact LM.out) (bcells_one _) (by unfold maxLen; omega) (by omega) (Nat.le_refl _) ?_
                        intro v2 w2 hown2 hgrow2 _
                        rw [Nat.zero_add, List.nil_append] at hown2
                        obtain ⟨A2, k2, rfl⟩ := own_slice hown2
                        have b2 : Below V.heap.size V w2 := (Below.refl V.heap.size V).drew.grown hgrow2 (Nat.le_refl _) (fun k e => by cases e)
                        have S2 : _ ∧ _ ∧ _ := ⟨(b2.cell (p := ⟨wr.heap.size, 1, none⟩) glt).trans G1.out, (b2.cell (p := ⟨wr.heap.size, 2, none⟩) glt).trans G2.out, KC.out w2 (BV.out.trans (b2.mono BV.out.size))⟩
                        refine hK _ _ (fun _ => S2) ?_
                        clear hK K hgrow2
                        try simp only [Act.put, List.setIfInBounds_toArray, List.set_cons_zero, List.set_cons_succ, List.getElem_toArray, List.getElem_cons_zero, List.getElem_cons_succ]
                        refine Any.one (i := 22) (by kernel_rfl) rfl (fun K hK => ?_)
                        refine step_zerosg (by rfl) _ _ 29 3 rfl V.heap.size 5 tu (.int .u8 0) 1 .i64 .i64 Try.underlying29 Try.underlying3 hu0 iu0 iu1 iu2 rfl rfl _ m.x.b.length _ rfl hown2 (64 - m.x.b.length) rfl (by unfold maxLen; omega) (by omega) b2.size ?_
                        intro v3 w3 hown3 hgrow3 _
                        have e64 : m.x.b.length + (64 - m.x.b.length) = 64 := by omega
                        have esec : bcells m.x.b ++ List.replicate (64 - m.x.b.length) (.int .u8 0) = bcells (Dk.sec m.x.b) := by
                          unfold Dk.sec bcells
                          rw [List.map_append, List.map_replicate]
                          rfl
                        rw [e64, esec] at hown3
                        obtain ⟨A3, k3, rfl⟩ := own_slice hown3
                        have b3 : Below V.heap.size V w3 := b2.grown hgrow3 b2.size (fun k e => (hown2.lt k e).1)
                        have S3 : _ ∧ _ ∧ _ := ⟨(b3.cell (p := ⟨wr.heap.size, 1, none⟩) glt).trans G1.out, (b3.cell (p := ⟨wr.heap.size, 2, none⟩) glt).trans G2.out, KC.out w3 (BV.out.trans (b3.mono BV.out.size))⟩
                        refine hK _ _ (fun _ => S3) ?_
                        clear hK K hgrow3 hown2 e64 esec b2 S2 S0
                        try simp only [Act.put, List.setIfInBounds_toArray, List.set_cons_zero, List.set_cons_succ, List.getElem_toArray, List.getElem_cons_zero, List.getElem_cons_succ]
                        have g3 := conv_at (c := k3) (lies_own (B := 0) hown3) SLN.out.symm
                        refine Any.one (i := 23) (by kernel_rfl) rfl (fun K hK => ?_)
                        go_simp
                        refine hK _ _ (fun _ => S3) ?_
                        clear hK K
                        try simp only [Act.put, List.setIfInBounds_toArray, List.set_cons_zero, List.set_cons_succ, List.getElem_toArray, List.getElem_cons_zero, List.getElem_cons_succ]
                        refine Any.one (i := 24) (by kernel_rfl) rfl (fun K hK => ?_)
                        go_simp
                        refine hK _ _ (fun _ => S3) ?_
                        clear hK K
                        try simp only [Act.put, List.setIfInBounds_toArray, List.set_cons_zero, List.set_cons_succ, List.getElem_toArray, List.getElem_cons_zero, List.getElem_cons_succ]
                        refine Any.one (i := 25) (by kernel_rfl) rfl (fun K hK => ?_)
                        go_simp
                        refine hK _ _ (fun _ => S3) ?_
                        clear hK K
                        try simp only [Act.put, List.setIfInBounds_toArray, List.set_cons_zero, List.set_cons_succ, List.getElem_toArray, List.getElem_cons_zero, List.getElem_cons_succ]
                        refine Any.one (i := 26) (by kernel_rfl) rfl (fun K hK => ?_)
                        go_simp
                        refine hK _ _ (fun _ => S3) ?_
                        clear hK K
                        try simp only [Act.put, List.setIfInBounds_toArray, List.set_cons_zero, List.set_cons_succ, List.getElem_toArray, List.getElem_cons_zero, List.getElem_cons_succ]
                        refine Any.one (i := 27) (by kernel_rfl) rfl (fun K hK => ?_)
                        go_simp
                        refine hK _ _ (fun q => absurd rfl q) ?_
                        clear hK K
                        try simp only [Act.put, List.setIfInBounds_toArray, List.set_cons_zero, List.set_cons_succ, List.getElem_toArray, List.getElem_cons_zero, List.getElem_cons_succ]
                        refine Any.done (by kernel_rfl) ?_
                        have B3 := Lib.hid b3
                        clear b3 S3 g3 hown3
                        go_wp2
                        go_roundw
                        case rel => exact ⟨t + 1, by omega, by rw [TK.out, HT.out], by go_num, BV.out.trans (B3.out.mono BV.out.size)⟩
                        case measure => simp [intOf]; omega
                      · have HT : Hid (Dk.hit bb j m.x = false) := Lib.hid (by unfold Dk.hit; simp [hle])
                        have hle2 : decide ((m.x.b.length : Int) ≤ 64) = false := by simp; omega
                        clear hat
                        go_wp2_with fail
                        refine Any.begin (S := fun u => u.cell? ⟨wr.heap.size, 1, none⟩ = some (.int .i64 m.x.at_) ∧ u.cell? ⟨wr.heap.size, 2, none⟩ = some (.slice m.A m.x.b.length m.c)) (st := 27) (by kernel_rfl) ?_
                        have S0 : _ ∧ _ := ⟨G1.out, G2.out⟩
                        refine Any.take (st := 27) (i := 0) (v := ?_) rfl (by kernel_rfl) (by kernel_rfl) (by kernel_rfl) rfl (by kernel_rfl) (fun _ _ _ h => h) (Or.inl ⟨by rfl, ?_⟩) (by assumption) ?_
                        rotate_left
                        · intro u hu
                          go_simp
                          try rfl
                        try simp only [Act.put, List.setIfInBounds_toArray, List.set_cons_zero, List.set_cons_succ, List.getElem_toArray, List.getElem_cons_zero]
                        refine Any.take (st := 27) (i := 1) (v := ?_) rfl (by kernel_rfl) (by kernel_rfl) (by kernel_rfl) rfl (by kernel_rfl) (fun _ _ _ h => h) (Or.inl ⟨by rfl, ?_⟩) (by assumption) ?_
                        rotate_left
                        · intro u hu
                          go_simp
                          try rfl
                        try simp only [Act.put, List.setIfInBounds_toArray, List.set_cons_zero, List.set_cons_succ, List.getElem_toArray, List.getElem_cons_zero, List.getElem_cons_succ]
                        refine Any.take (st := 27) (i := 2) (v := ?_) rfl (by kernel_rfl) (by kernel_rfl) (by kernel_rfl) rfl (by kernel_rfl) (fun _ _ _ h => h) (Or.inl ⟨by rfl, ?_⟩) (by assumption) ?_
                        rotate_left
                        · intro u hu
                          go_simp
                          try rfl
                        try simp only [Act.put, List.setIfInBounds_toArray, List.set_cons_zero, List.set_cons_succ, List.getElem_toArray, List.getElem_cons_zero, List.getElem_cons_succ]
                        refine Any.take (st := 27) (i := 3) (v := ?_) rfl (by kernel_rfl) (by kernel_rfl) (by kernel_rfl) rfl (by kernel_rfl) (fun _ _ _ h => h) (Or.inl ⟨by rfl, ?_⟩) (by assumption) ?_
                        rotate_left
                        · intro u hu
                          obtain ⟨u1, u2⟩ := hu
                          go_simp
                          try rfl
                        try simp only [Act.put, List.setIfInBounds_toArray, List.set_cons_zero, List.set_cons_succ, List.getElem_toArray, List.getElem_cons_zero, List.getElem_cons_succ]
                        refine Any.take (st := 27) (i := 4) (v := ?_) rfl (by kernel_rfl) (by kernel_rfl) (by kernel_rfl) rfl (by kernel_rfl) (fun _ _ _ h => h) (Or.inl ⟨by rfl, ?_⟩) (by assumption) ?_
                        rotate_left
                        · intro u hu
                          go_simp
                          try rfl
                        try simp only [Act.put, List.setIfInBounds_toArray, List.set_cons_zero, List.set_cons_succ, List.getElem_toArray, List.getElem_cons_zero, List.getElem_cons_succ]
                        refine Any.take (st := 27) (i := 5) (v := ?_) rfl (by kernel_rfl) (by kernel_rfl) (by kernel_rfl) rfl (by kernel_rfl) (fun _ _ _ h => h) (Or.inl ⟨by rfl, ?_⟩) (by assumption) ?_
                        rotate_left
                        · intro u hu
                          go_simp
                          try rfl
                        try simp only [Act.put, List.setIfInBounds_toArray, List.set_cons_zero, List.set_cons_succ, List.getElem_toArray, List.getElem_cons_zero, List.getElem_cons_succ]
                        refine Any.take (st := 27) (i := 6) (v := ?_) rfl (by kernel_rfl) (by kernel_rfl) (by kernel_rfl) rfl (by kernel_rfl) (fun _ _ _ h => h) (Or.inl ⟨by rfl, ?_⟩) (by assumption) ?_
                        rotate_left
                        · intro u hu
                          go_simp
                          try rfl
                        try simp only [Act.put, List.setIfInBounds_toArray, List.set_cons_zero, List.set_cons_succ, List.getElem_toArray, List.getElem_cons_zero, List.getElem_cons_succ]
                        refine Any.take (st := 27) (i := 7) (v := ?_) rfl (by kernel_rfl) (by kernel_rfl) (by kernel_rfl) rfl (by kernel_rfl) (fun _ _ _ h => h) (Or.inl ⟨by rfl, ?_⟩) (by assumption) ?_
                        rotate_left
                        · intro u hu
                          go_simp
                          try rfl
                        try simp only [Act.put, List.setIfInBounds_toArray, List.set_cons_zero, List.set_cons_succ, List.getElem_toArray, List.getElem_cons_zero, List.getElem_cons_succ]
                        refine Any.take (st := 27) (i := 8) (v := ?_) rfl (by kernel_rfl) (by kernel_rfl) (by kernel_rfl) rfl (by kernel_rfl) (fun _ _ _ h => h) (Or.inl ⟨by rfl, ?_⟩) (by assumption) ?_
                        rotate_left
                        · intro u hu
                          obtain ⟨u1, u2⟩ := hu
                          go_simp
                          try rfl
                        try simp only [Act.put, List.setIfInBounds_toArray, List.set_cons_zero, List.set_cons_succ, List.getElem_toArray, List.getElem_cons_zero, List.getElem_cons_succ]
                        refine Any.take (st := 27) (i := 9) (v := ?_) rfl (by kernel_rfl) (by kernel_rfl) (by kernel_rfl) rfl (by kernel_rfl) (fun _ _ _ h => h) (Or.inl ⟨by rfl, ?_⟩) (by assumption) ?_
                        rotate_left
                        · intro u hu
                          go_simp
                          try rfl
                        try simp only [Act.put, List.setIfInBounds_toArray, List.set_cons_zero, List.set_cons_succ, List.getElem_toArray, List.getElem_cons_zero, List.getElem_cons_succ]
                        refine Any.take (st := 27) (i := 10) (v := ?_) rfl (by kernel_rfl) (by kernel_rfl) (by kernel_rfl) rfl (by kernel_rfl) (fun _ _ _ h => h) (Or.inl ⟨by rfl, ?_⟩) (by assumption) ?_
                        rotate_left
                        · intro u hu
                          go_simp
                          try rfl
                        try simp only [Act.put, List.setIfInBounds_toArray, List.set_cons_zero, List.set_cons_succ, List.getElem_toArray, List.getElem_cons_zero, List.getElem_cons_succ]
                        refine Any.take (st := 27) (i := 11) (v := ?_) rfl (by kernel_rfl) (by kernel_rfl) (by kernel_rfl) rfl (by kernel_rfl) (fun _ _ _ h => h) (Or.inl ⟨by rfl, ?_⟩) (by assumption) ?_
                        rotate_left
                        · intro u hu
                          go_simp
                          try rfl
                        try simp only [Act.put, List.setIfInBounds_toArray, List.set_cons_zero, List.set_cons_succ, List.getElem_toArray, List.getElem_cons_zero, List.getElem_cons_succ]
                        refine Any.take (st := 27) (i := 12) (v := ?_) rfl (by kernel_rfl) (by kernel_rfl) (by kernel_rfl) rfl (by kernel_rfl) (fun _ _ _ h => h) (Or.inl ⟨by rfl, ?_⟩) (by assumption) ?_
                        rotate_left
                        · intro u hu
                          go_simp
                          try rfl
                        try simp only [Act.put, List.setIfInBounds_toArray, List.set_cons_zero, List.set_cons_succ, List.getElem_toArray, List.getElem_cons_zero, List.getElem_cons_succ]
                        refine Any.take (st := 27) (i := 13) (v := undef) rfl (by kernel_rfl) (by kernel_rfl) (by kernel_rfl) rfl (by kernel_rfl) (fun _ _ _ h => h) (Or.inr ⟨by rfl, rfl⟩) (by assumption) ?_
                        try simp only [Act.put, List.setIfInBounds_toArray, List.set_cons_zero, List.set_cons_succ, List.getElem_toArray, List.getElem_cons_zero, List.getElem_cons_succ]
                        refine Any.take (st := 27) (i := 14) (v := undef) rfl (by kernel_rfl) (by kernel_rfl) (by kernel_rfl) rfl (by kernel_rfl) (fun _ _ _ h => h) (Or.inr ⟨by rfl, rfl⟩) (by assumption) ?_
                        try simp only [Act.put, List.setIfInBounds_toArray, List.set_cons_zero, List.set_cons_succ, List.getElem_toArray, List.getElem_cons_zero, List.getElem_cons_succ]
                        refine Any.take (st := 27) (i := 15) (v := undef) rfl (by kernel_rfl) (by kernel_rfl) (by kernel_rfl) rfl (by kernel_rfl) (fun _ _ _ h => h) (Or.inr ⟨by rfl, rfl⟩) (by assumption) ?_
                        try simp only [Act.put, List.setIfInBounds_toArray, List.set_cons_zero, List.set_cons_succ, List.getElem_toArray, List.getElem_cons_zero, List.getElem_cons_succ]
                        refine Any.take (st := 27) (i := 16) (v := undef) rfl (by kernel_rfl) (by kernel_rfl) (by kernel_rfl) rfl (by kernel_rfl) (fun _ _ _ h => h) (Or.inr ⟨by rfl, rfl⟩) (by assumption) ?_
                        try simp only [Act.put, List.setIfInBounds_toArray, List.set_cons_zero, List.set_cons_succ, List.getElem_toArray, List.getElem_cons_zero, List.getElem_cons_succ]
                        refine Any.take (st := 27) (i := 17) (v := undef) rfl (by kernel_rfl) (by kernel_rfl) (by kernel_rfl) rfl (by kernel_rfl) (fun _ _ _ h => h) (Or.inr ⟨by rfl, rfl⟩) (by assumption) ?_
                        try simp only [Act.put, List.setIfInBounds_toArray, List.set_cons_zero, List.set_cons_succ, List.getElem_toArray, List.getElem_cons_zero, List.getElem_cons_succ]
                        refine Any.take (st := 27) (i := 18) (v := undef) rfl (by kernel_rfl) (by kernel_rfl) (by kernel_rfl) rfl (by kernel_rfl) (fun _ _ _ h => h) (Or.inr ⟨by rfl, rfl⟩) (by assumption) ?_
                        try simp only [Act.put, List.setIfInBounds_toArray, List.set_cons_zero, List.set_cons_succ, List.getElem_toArray, List.getElem_cons_zero, List.getElem_cons_succ]
                        refine Any.take (st := 27) (i := 19) (v := undef) rfl (by kernel_rfl) (by kernel_rfl) (by kernel_rfl) rfl (by kernel_rfl) (fun _ _ _ h => h) (Or.inr ⟨by rfl, rfl⟩) (by assumption) ?_
                        try simp only [Act.put, List.setIfInBounds_toArray, List.set_cons_zero, List.set_cons_succ, List.getElem_toArray, List.getElem_cons_zero, List.getElem_cons_succ]
                        refine Any.take (st := 27) (i := 20) (v := undef) rfl (by kernel_rfl) (by kernel_rfl) (by kernel_rfl) rfl (by kernel_rfl) (fun _ _ _ h => h) (Or.inr ⟨by rfl, rfl⟩) (by assumption) ?_
                        try simp only [Act.put, List.setIfInBounds_toArray, List.set_cons_zero, List.set_cons_succ, List.getElem_toArray, List.getElem_cons_zero, List.getElem_cons_succ]
                        refine Any.take (st := 27) (i := 21) (v := undef) rfl (by kernel_rfl) (by kernel_rfl) (by kernel_rfl) rfl (by kernel_rfl) (fun _ _ _ h => h) (Or.inr ⟨by rfl, rfl⟩) (by assumption) ?_
                        try simp only [Act.put, List.setIfInBounds_toArray, List.set_cons_zero, List.set_cons_succ, List.getElem_toArray, List.getElem_cons_zero, List.getElem_cons_succ]
                        refine Any.take (st := 27) (i := 22) (v := undef) rfl (by kernel_rfl) (by kernel_rfl) (by kernel_rfl) rfl (by kernel_rfl) (fun _ _ _ h => h) (Or.inr ⟨by rfl, rfl⟩) (by assumption) ?_
                        try simp only [Act.put, List.setIfInBounds_toArray, List.set_cons_zero, List.set_cons_succ, List.getElem_toArray, List.getElem_cons_zero, List.getElem_cons_succ]
                        refine Any.take (st := 27) (i := 23) (v := undef) rfl (by kernel_rfl) (by kernel_rfl) (by kernel_rfl) rfl (by kernel_rfl) (fun _ _ _ h => h) (Or.inr ⟨by rfl, rfl⟩) (by assumption) ?_
                        try simp only [Act.put, List.setIfInBounds_toArray, List.set_cons_zero, List.set_cons_succ, List.getElem_toArray, List.getElem_cons_zero, List.getElem_cons_succ]
                        refine Any.take (st := 27) (i := 24) (v := undef) rfl (by kernel_rfl) (by kernel_rfl) (by kernel_rfl) rfl (by kernel_rfl) (fun _ _ _ h => h) (Or.inr ⟨by rfl, rfl⟩) (by assumption) ?_
                        try simp only [Act.put, List.setIfInBounds_toArray, List.set_cons_zero, List.set_cons_succ, List.getElem_toArray, List.getElem_cons_zero, List.getElem_cons_succ]
                        refine Any.take (st := 27) (i := 25) (v := ?_) rfl (by kernel_rfl) (by kernel_rfl) (by kernel_rfl) rfl (by kernel_rfl) (fun _ _ _ h => h) (Or.inl ⟨by rfl, ?_⟩) (by assumption) ?_
                        rotate_left
                        · intro u hu
                          go_simp
                          try rfl
                        try simp only [Act.put, List.setIfInBounds_toArray, List.set_cons_zero, List.set_cons_succ, List.getElem_toArray, List.getElem_cons_zero, List.getElem_cons_succ]
                        refine Any.take (st := 27) (i := 26) (v := ?_) rfl (by kernel_rfl) (by kernel_rfl) (by kernel_rfl) rfl (by kernel_rfl) (fun _ _ _ h => h) (Or.inl ⟨by rfl, ?_⟩) (by assumption) ?_
                        rotate_left
                        · intro u hu
                          go_simp
                          try rfl
                        try simp only [Act.put, List.setIfInBounds_toArray, List.set_cons_zero, List.set_cons_succ, List.getElem_toArray, List.getElem_cons_zero, List.getElem_cons_succ]
                        refine Any.one (i := 27) (by kernel_rfl) rfl (fun K hK => ?_)
                        go_simp
                        refine hK _ _ (fun q => absurd rfl q) ?_
                        clear hK K
                        try simp only [Act.put, List.setIfInBounds_toArray, List.set_cons_zero, List.set_cons_succ, List.getElem_toArray, List.getElem_cons_zero, List.getElem_cons_succ]
                        refine Any.done (by kernel_rfl) ?_
                        clear S0
                        go_wp2
                        go_roundw
                        case rel => exact ⟨t + 1, by omega, by rw [TK.out, HT.out], by go_num, (BT.out.trans (WA.out.mono zt)).drew⟩
                        case measure => simp [intOf]; omega
                    · have hat2 : (m.x.at_ == (j : Int)) = false := by simpa using hat
                      have HT : Hid (Dk.hit bb j m.x = false) := Lib.hid (by unfold Dk.hit; simp [hat])
                      clear hat
                      go_wp2_with fail
                      refine Any.begin (S := fun u => u.cell? ⟨wr.heap.size, 1, none⟩ = some (.int .i64 m.x.at_) ∧ u.cell? ⟨wr.heap.size, 2, none⟩ = some (.slice m.A m.x.b.length m.c)) (st := 27) (by kernel_rfl) ?_
                      have S0 : _ ∧ _ := ⟨G1.out, G2.out⟩
                      refine Any.take (st := 27) (i := 0) (v := ?_) rfl (by kernel_rfl) (by kernel_rfl) (by kernel_rfl) rfl (by kernel_rfl) (fun _ _ _ h => h) (Or.inl ⟨by rfl, ?_⟩) (by assumption) ?_
                      rotate_left
                      · intro u hu
                        go_simp
                        try rfl
                      try simp only [Act.put, List.setIfInBounds_toArray, List.set_cons_zero, List.set_cons_succ, List.getElem_toArray, List.getElem_cons_zero]
                      refine Any.take (st := 27) (i := 1) (v := ?_) rfl (by kernel_rfl) (by kernel_rfl) (by kernel_rfl) rfl (by kernel_rfl) (fun _ _ _ h => h) (Or.inl ⟨by rfl, ?_⟩) (by assumption) ?_
                      rotate_left
                      · intro u hu
                        go_simp
                        try rfl
                      try simp only [Act.put, List.setIfInBounds_toArray, List.set_cons_zero, List.set_cons_succ, List.getElem_toArray, List.getElem_cons_zero, List.getElem_cons_succ]
                      refine Any.take (st := 27) (i := 2) (v := ?_) rfl (by kernel_rfl) (by kernel_rfl) (by kernel_rfl) rfl (by kernel_rfl) (fun _ _ _ h => h) (Or.inl ⟨by rfl, ?_⟩) (by assumption) ?_
                      rotate_left
                      · intro u hu
                        go_simp
                        try rfl
                      try simp only [Act.put, List.setIfInBounds_toArray, List.set_cons_zero, List.set_cons_succ, List.getElem_toArray, List.getElem_cons_zero, List.getElem_cons_succ]
                      refine Any.take (st := 27) (i := 3) (v := ?_) rfl (by kernel_rfl) (by kernel_rfl) (by kernel_rfl) rfl (by kernel_rfl) (fun _ _ _ h => h) (Or.inl ⟨by rfl, ?_⟩) (by assumption) ?_
                      rotate_left
                      · intro u hu
                        obtain ⟨u1, u2⟩ := hu
                        go_simp
                        try rfl
                      try simp only [Act.put, List.setIfInBounds_toArray, List.set_cons_zero, List.set_cons_succ, List.getElem_toArray, List.getElem_cons_zero, List.getElem_cons_succ]
                      refine Any.take (st := 27) (i := 4) (v := ?_) rfl (by kernel_rfl) (by kernel_rfl) (by kernel_rfl) rfl (by kernel_rfl) (fun _ _ _ h => h) (Or.inl ⟨by rfl, ?_⟩) (by assumption) ?_
                      rotate_left
                      · intro u hu
                        go_simp
                        try rfl
                      try simp only [Act.put, List.setIfInBounds_toArray, List.set_cons_zero, List.set_cons_succ, List.getElem_toArray, List.getElem_cons_zero, List.getElem_cons_succ]
                      refine Any.take (st := 27) (i := 5) (v := ?_) rfl (by kernel_rfl) (by kernel_rfl) (by kernel_rfl) rfl (by kernel_rfl) (fun _ _ _ h => h) (Or.inl ⟨by rfl, ?_⟩) (by assumption) ?_
                      rotate_left
                      · intro u hu
                        go_simp
                        try rfl
                      try simp only [Act.put, List.setIfInBounds_toArray, List.set_cons_zero, List.set_cons_succ, List.getElem_toArray, List.getElem_cons_zero, List.getElem_cons_succ]
                      refine Any.take (st := 27) (i := 6) (v := ?_) rfl (by kernel_rfl) (by kernel_rfl) (by kernel_rfl) rfl (by kernel_rfl) (fun _ _ _ h => h) (Or.inl ⟨by rfl, ?_⟩) (by assumption) ?_
                      rotate_left
                      · intro u hu
                        go_simp
                        try rfl
                      try simp only [Act.put, List.setIfInBounds_toArray, List.set_cons_zero, List.set_cons_succ, List.getElem_toArray, List.getElem_cons_zero, List.getElem_cons_succ]
                      refine Any.take (st := 27) (i := 7) (v := undef) rfl (by kernel_rfl) (by kernel_rfl) (by kernel_rfl) rfl (by kernel_rfl) (fun _ _ _ h => h) (Or.inr ⟨by rfl, rfl⟩) (by assumption) ?_
                      try simp only [Act.put, List.setIfInBounds_toArray, List.set_cons_zero, List.set_cons_succ, List.getElem_toArray, List.getElem_cons_zero, List.getElem_cons_succ]
                      refine Any.take (st := 27) (i := 8) (v := undef) rfl (by kernel_rfl) (by kernel_rfl) (by kernel_rfl) rfl (by kernel_rfl) (fun _ _ _ h => h) (Or.inr ⟨by rfl, rfl⟩) (by assumption) ?_
                      try simp only [Act.put, List.setIfInBounds_toArray, List.set_cons_zero, List.set_cons_succ, List.getElem_toArray, List.getElem_cons_zero, List.getElem_cons_succ]
                      refine Any.take (st := 27) (i := 9) (v := undef) rfl (by kernel_rfl) (by kernel_rfl) (by kernel_rfl) rfl (by kernel_rfl) (fun _ _ _ h => h) (Or.inr ⟨by rfl, rfl⟩) (by assumption) ?_
                      try simp only [Act.put, List.setIfInBounds_toArray, List.set_cons_zero, List.set_cons_succ, List.getElem_toArray, List.getElem_cons_zero, List.getElem_cons_succ]
                      refine Any.take (st := 27) (i := 10) (v := undef) rfl (by kernel_rfl) (by kernel_rfl) (by kernel_rfl) rfl (by kernel_rfl) (fun _ _ _ h => h) (Or.inr ⟨by rfl, rfl⟩) (by assumption) ?_
                      try simp only [Act.put, List.setIfInBounds_toArray, List.set_cons_zero, List.set_cons_succ, List.getElem_toArray, List.getElem_cons_zero, List.getElem_cons_succ]
                      refine Any.take (st := 27) (i := 11) (v := ?_) rfl (by kernel_rfl) (by kernel_rfl) (by kernel_rfl) rfl (by kernel_rfl) (fun _ _ _ h => h) (Or.inl ⟨by rfl, ?_⟩) (by assumption) ?_
                      rotate_left
                      · intro u hu
                        go_simp
                        try rfl
                      try simp only [Act.put, List.setIfInBounds_toArray, List.set_cons_zero, List.set_cons_succ, List.getElem_toArray, List.getElem_cons_zero, List.getElem_cons_succ]
                      refine Any.take (st := 27) (i := 12) (v := ?_) rfl (by kernel_rfl) (by kernel_rfl) (by kernel_rfl) rfl (by kernel_rfl) (fun _ _ _ h => h) (Or.inl ⟨by rfl, ?_⟩) (by assumption) ?_
                      rotate_left
                      · intro u hu
                        go_simp
                        try rfl
                      try simp only [Act.put, List.setIfInBounds_toArray, List.set_cons_zero, List.set_cons_succ, List.getElem_toArray, List.getElem_cons_zero, List.getElem_cons_succ]
                      refine Any.take (st := 27) (i := 13) (v := undef) rfl (by kernel_rfl) (by kernel_rfl) (by kernel_rfl) rfl (by kernel_rfl) (fun _ _ _ h => h) (Or.inr ⟨by rfl, rfl⟩) (by assumption) ?_
                      try simp only [Act.put, List.setIfInBounds_toArray, List.set_cons_zero, List.set_cons_succ, List.getElem_toArray, List.getElem_cons_zero, List.getElem_cons_succ]
                      refine Any.take (st := 27) (i := 14) (v := undef) rfl (by kernel_rfl) (by kernel_rfl) (by kernel_rfl) rfl (by kernel_rfl) (fun _ _ _ h => h) (Or.inr ⟨by rfl, rfl⟩) (by assumption) ?_
                      try simp only [Act.put, List.setIfInBounds_toArray, List.set_cons_zero, List.set_cons_succ, List.getElem_toArray, List.getElem_cons_zero, List.getElem_cons_succ]
                      refine Any.take (st := 27) (i := 15) (v := undef) rfl (by kernel_rfl) (by kernel_rfl) (by kernel_rfl) rfl (by kernel_rfl) (fun _ _ _ h => h) (Or.inr ⟨by rfl, rfl⟩) (by assumption) ?_
                      try simp only [Act.put, List.setIfInBounds_toArray, List.set_cons_zero, List.set_cons_succ, List.getElem_toArray, List.getElem_cons_zero, List.getElem_cons_succ]
                      refine Any.take (st := 27) (i := 16) (v := undef) rfl (by kernel_rfl) (by kernel_rfl) (by kernel_rfl) rfl (by kernel_rfl) (fun _ _ _ h => h) (Or.inr ⟨by rfl, rfl⟩) (by assumption) ?_
                      try simp only [Act.put, List.setIfInBounds_toArray, List.set_cons_zero, List.set_cons_succ, List.getElem_toArray, List.getElem_cons_zero, List.getElem_cons_succ]
                      refine Any.take (st := 27) (i := 17) (v := undef) rfl (by kernel_rfl) (by kernel_rfl) (by kernel_rfl) rfl (by kernel_rfl) (fun _ _ _ h => h) (Or.inr ⟨by rfl, rfl⟩) (by assumption) ?_
                      try simp only [Act.put, List.setIfInBounds_toArray, List.set_cons_zero, List.set_cons_succ, List.getElem_toArray, List.getElem_cons_zero, List.getElem_cons_succ]
                      refine Any.take (st := 27) (i := 18) (v := undef) rfl (by kernel_rfl) (by kernel_rfl) (by kernel_rfl) rfl (by kernel_rfl) (fun _ _ _ h => h) (Or.inr ⟨by rfl, rfl⟩) (by assumption) ?_
                      try simp only [Act.put, List.setIfInBounds_toArray, List.set_cons_zero, List.set_cons_succ, List.getElem_toArray, List.getElem_cons_zero, List.getElem_cons_succ]
                      refine Any.take (st := 27) (i := 19) (v := undef) rfl (by kernel_rfl) (by kernel_rfl) (by kernel_rfl) rfl (by kernel_rfl) (fun _ _ _ h => h) (Or.inr ⟨by rfl, rfl⟩) (by assumption) ?_
                      try simp only [Act.put, List.setIfInBounds_toArray, List.set_cons_zero, List.set_cons_succ, List.getElem_toArray, List.getElem_cons_zero, List.getElem_cons_succ]
                      refine Any.take (st := 27) (i := 20) (v := undef) rfl (by kernel_rfl) (by kernel_rfl) (by kernel_rfl) rfl (by kernel_rfl) (fun _ _ _ h => h) (Or.inr ⟨by rfl, rfl⟩) (by assumption) ?_
                      try simp only [Act.put, List.setIfInBounds_toArray, List.set_cons_zero, List.set_cons_succ, List.getElem_toArray, List.getElem_cons_zero, List.getElem_cons_succ]
                      refine Any.take (st := 27) (i := 21) (v := undef) rfl (by kernel_rfl) (by kernel_rfl) (by kernel_rfl) rfl (by kernel_rfl) (fun _ _ _ h => h) (Or.inr ⟨by rfl, rfl⟩) (by assumption) ?_
                      try simp only [Act.put, List.setIfInBounds_toArray, List.set_cons_zero, List.set_cons_succ, List.getElem_toArray, List.getElem_cons_zero, List.getElem_cons_succ]
                      refine Any.take (st := 27) (i := 22) (v := undef) rfl (by kernel_rfl) (by kernel_rfl) (by kernel_rfl) rfl (by kernel_rfl) (fun _ _ _ h => h) (Or.inr ⟨by rfl, rfl⟩) (by assumption) ?_
                      try simp only [Act.put, List.setIfInBounds_toArray, List.set_cons_zero, List.set_cons_succ, List.getElem_toArray, List.getElem_cons_zero, List.getElem_cons_succ]
                      refine Any.take (st := 27) (i := 23) (v := undef) rfl (by kernel_rfl) (by kernel_rfl) (by kernel_rfl) rfl (by kernel_rfl) (fun _ _ _ h => h) (Or.inr ⟨by rfl, rfl⟩) (by assumption) ?_
                      try simp only [Act.put, List.setIfInBounds_toArray, List.set_cons_zero, List.set_cons_succ, List.getElem_toArray, List.getElem_cons_zero, List.getElem_cons_succ]
                      refine Any.take (st := 27) (i := 24) (v := undef) rfl (by kernel_rfl) (by kernel_rfl) (by kernel_rfl) rfl (by kernel_rfl) (fun _ _ _ h => h) (Or.inr ⟨by rfl, rfl⟩) (by assumption) ?_
                      try simp only [Act.put, List.setIfInBounds_toArray, List.set_cons_zero, List.set_cons_succ, List.getElem_toArray, List.getElem_cons_zero, List.getElem_cons_succ]
                      refine Any.take (st := 27) (i := 25) (v := ?_) rfl (by kernel_rfl) (by kernel_rfl) (by kernel_rfl) rfl (by kernel_rfl) (fun _ _ _ h => h) (Or.inl ⟨by rfl, ?_⟩) (by assumption) ?_
                      rotate_left
                      · intro u hu
                        go_simp
                        try rfl
                      try simp only [Act.put, List.setIfInBounds_toArray, List.set_cons_zero, List.set_cons_succ, List.getElem_toArray, List.getElem_cons_zero, List.getElem_cons_succ]
                      refine Any.take (st := 27) (i := 26) (v := ?_) rfl (by kernel_rfl) (by kernel_rfl) (by kernel_rfl) rfl (by kernel_rfl) (fun _ _ _ h => h) (Or.inl ⟨by rfl, ?_⟩) (by assumption) ?_
                      rotate_left
                      · intro u hu
                        go_simp
                        try rfl
                      try simp only [Act.put, List.setIfInBounds_toArray, List.set_cons_zero, List.set_cons_succ, List.getElem_toArray, List.getElem_cons_zero, List.getElem_cons_succ]
                      refine Any.one (i := 27) (by kernel_rfl) rfl (fun K hK => ?_)
                      go_simp
                      refine hK _ _ (fun q => absurd rfl q) ?_
                      clear hK K
                      try simp only [Act.put, List.setIfInBounds_toArray, List.set_cons_zero, List.set_cons_succ, List.getElem_toArray, List.getElem_cons_zero, List.getElem_cons_succ]
                      refine Any.done (by kernel_rfl) ?_
                      clear S0
                      go_wp2
                      go_roundw
                      case rel => exact ⟨t + 1, by omega, by rw [TK.out, HT.out], by go_num, (BT.out.trans (WA.out.mono zt)).drew⟩
                      case measure => simp [intOf]; omega
                  · rw [hv] at TK
                    clear hv
                    have WA := Lib.hid ((Below.refl wr.heap.size wr).alloc (Nat.le_refl _) (.cells #[.int .i64 m.x.kind, .int .i64 m.x.at_, .slice m.A m.x.b.length m.c, .int .i64 m.x.n, .slice m.KA m.x.keep.length m.Kc] 32))
                    go_wp2_with fail
                    refine Any.begin (S := fun _ => True) (st := 27) (by kernel_rfl) ?_
                    have S0 : True := trivial
                    refine Any.take (st := 27) (i := 0) (v := ?_) rfl (by kernel_rfl) (by kernel_rfl) (by kernel_rfl) rfl (by kernel_rfl) (fun _ _ _ h => h) (Or.inl ⟨by rfl, ?_⟩) (by assumption) ?_
                    rotate_left
                    · intro u hu
                      go_simp
                      try rfl
                    try simp only [Act.put, List.setIfInBounds_toArray, List.set_cons_zero, List.set_cons_succ, List.getElem_toArray, List.getElem_cons_zero]
                    refine Any.take (st := 27) (i := 1) (v := ?_) rfl (by kernel_rfl) (by kernel_rfl) (by kernel_rfl) rfl (by kernel_rfl) (fun _ _ _ h => h) (Or.inl ⟨by rfl, ?_⟩) (by assumption) ?_
                    rotate_left
                    · intro u hu
                      go_simp
                      try rfl
                    try simp only [Act.put, List.setIfInBounds_toArray, List.set_cons_zero, List.set_cons_succ, List.getElem_toArray, List.getElem_cons_zero, List.getElem_cons_succ]
                    refine Any.take (st := 27) (i := 2) (v := undef) rfl (by kernel_rfl) (by kernel_rfl) (by kernel_rfl) rfl (by kernel_rfl) (fun _ _ _ h => h) (Or.inr ⟨by rfl, rfl⟩) (by assumption) ?_
                    try simp only [Act.put, List.setIfInBounds_toArray, List.set_cons_zero, List.set_cons_succ, List.getElem_toArray, List.getElem_cons_zero, List.getElem_cons_succ]
                    refine Any.take (st := 27) (i := 3) (v := undef) rfl (by kernel_rfl) (by kernel_rfl) (by kernel_rfl) rfl (by kernel_rfl) (fun _ _ _ h => h) (Or.inr ⟨by rfl, rfl⟩) (by assumption) ?_
                    try simp only [Act.put, List.setIfInBounds_toArray, List.set_cons_zero, List.set_cons_succ, List.getElem_toArray, List.getElem_cons_zero, List.getElem_cons_succ]
                    refine Any.take (st := 27) (i := 4) (v := undef) rfl (by kernel_rfl) (by kernel_rfl) (by kernel_rfl) rfl (by kernel_rfl) (fun _ _ _ h => h) (Or.inr ⟨by rfl, rfl⟩) (by assumption) ?_
                    try simp only [Act.put, List.setIfInBounds_toArray, List.set_cons_zero, List.set_cons_succ, List.getElem_toArray, List.getElem_cons_zero, List.getElem_cons_succ]
                    refine Any.take (st := 27) (i := 5) (v := undef) rfl (by kernel_rfl) (by kernel_rfl) (by kernel_rfl) rfl (by kernel_rfl) (fun _ _ _ h => h) (Or.inr ⟨by rfl, rfl⟩) (by assumption) ?_
                    try simp only [Act.put, List.setIfInBounds_toArray, List.set_cons_zero, List.set_cons_succ, List.getElem_toArray, List.getElem_cons_zero, List.getElem_cons_succ]
                    refine Any.take (st := 27) (i := 6) (v := undef) rfl (by kernel_rfl) (by kernel_rfl) (by kernel_rfl) rfl (by kernel_rfl) (fun _ _ _ h => h) (Or.inr ⟨by rfl, rfl⟩) (by assumption) ?_
                    try simp only [Act.put, List.setIfInBounds_toArray, List.set_cons_zero, List.set_cons_succ, List.getElem_toArray, List.getElem_cons_zero, List.getElem_cons_succ]
                    refine Any.take (st := 27) (i := 7) (v := undef) rfl (by kernel_rfl) (by kernel_rfl) (by kernel_rfl) rfl (by kernel_rfl) (fun _ _ _ h => h) (Or.inr ⟨by rfl, rfl⟩) (by assumption) ?_
                    try simp only [Act.put, List.setIfInBounds_toArray, List.set_cons_zero, List.set_cons_succ, List.getElem_toArray, List.getElem_cons_zero, List.getElem_cons_succ]
                    refine Any.take (st := 27) (i := 8) (v := undef) rfl (by kernel_rfl) (by kernel_rfl) (by kernel_rfl) rfl (by kernel_rfl) (fun _ _ _ h => h) (Or.inr ⟨by rfl, rfl⟩) (by assumption) ?_
                    try simp only [Act.put, List.setIfInBounds_toArray, List.set_cons_zero, List.set_cons_succ, List.getElem_toArray, List.getElem_cons_zero, List.getElem_cons_succ]
                    refine Any.take (st := 27) (i := 9) (v := undef) rfl (by kernel_rfl) (by kernel_rfl) (by kernel_rfl) rfl (by kernel_rfl) (fun _ _ _ h => h) (Or.inr ⟨by rfl, rfl⟩) (by assumption) ?_
                    try simp only [Act.put, List.setIfInBounds_toArray, List.set_cons_zero, List.set_cons_succ, List.getElem_toArray, List.getElem_cons_zero, List.getElem_cons_succ]
                    refine Any.take (st := 27) (i := 10) (v := undef) rfl (by kernel_rfl) (by kernel_rfl) (by kernel_rfl) rfl (by kernel_rfl) (fun _ _ _ h => h) (Or.inr ⟨by rfl, rfl⟩) (by assumption) ?_
                    try simp only [Act.put, List.setIfInBounds_toArray, List.set_cons_zero, List.set_cons_succ, List.getElem_toArray, List.getElem_cons_zero, List.getElem_cons_succ]
                    refine Any.take (st := 27) (i := 11) (v := undef) rfl (by kernel_rfl) (by kernel_rfl) (by kernel_rfl) rfl (by kernel_rfl) (fun _ _ _ h => h) (Or.inr ⟨by rfl, rfl⟩) (by assumption) ?_
                    try simp only [Act.put, List.setIfInBounds_toArray, List.set_cons_zero, List.set_cons_succ, List.getElem_toArray, List.getElem_cons_zero, List.getElem_cons_succ]
                    refine Any.take (st := 27) (i := 12) (v := undef) rfl (by kernel_rfl) (by kernel_rfl) (by kernel_rfl) rfl (by kernel_rfl) (fun _ _ _ h => h) (Or.inr ⟨by rfl, rfl⟩) (by assumption) ?_
                    try simp only [Act.put, List.setIfInBounds_toArray, List.set_cons_zero, List.set_cons_succ, List.getElem_toArray, List.getElem_cons_zero, List.getElem_cons_succ]
                    refine Any.take (st := 27) (i := 13) (v := undef) rfl (by kernel_rfl) (by kernel_rfl) (by kernel_rfl) rfl (by kernel_rfl) (fun _ _ _ h => h) (Or.inr ⟨by rfl, rfl⟩) (by assumption) ?_
                    try simp only [Act.put, List.setIfInBounds_toArray, List.set_cons_zero, List.set_cons_succ, List.getElem_toArray, List.getElem_cons_zero, List.getElem_cons_succ]
                    refine Any.take (st := 27) (i := 14) (v := undef) rfl (by kernel_rfl) (by kernel_rfl) (by kernel_rfl) rfl (by kernel_rfl) (fun _ _ _ h => h) (Or.inr ⟨by rfl, rfl⟩) (by assumption) ?_
                    try simp only [Act.put, List.setIfInBounds_toArray, List.set_cons_zero, List.set_cons_succ, List.getElem_toArray, List.getElem_cons_zero, List.getElem_cons_succ]
                    refine Any.take (st := 27) (i := 15) (v := undef) rfl (by kernel_rfl) (by kernel_rfl) (by kernel_rfl) rfl (by kernel_rfl) (fun _ _ _ h => h) (Or.inr ⟨by rfl, rfl⟩) (by assumption) ?_
                    try simp only [Act.put, List.setIfInBounds_toArray, List.set_cons_zero, List.set_cons_succ, List.getElem_toArray, List.getElem_cons_zero, List.getElem_cons_succ]
                    refine Any.take (st := 27) (i := 16) (v := undef) rfl (by kernel_rfl) (by kernel_rfl) (by kernel_rfl) rfl (by kernel_rfl) (fun _ _ _ h => h) (Or.inr ⟨by rfl, rfl⟩) (by assumption) ?_
                    try simp only [Act.put, List.setIfInBounds_toArray, List.set_cons_zero, List.set_cons_succ, List.getElem_toArray, List.getElem_cons_zero, List.getElem_cons_succ]
                    refine Any.take (st := 27) (i := 17) (v := undef) rfl (by kernel_rfl) (by kernel_rfl) (by kernel_rfl) rfl (by kernel_rfl) (fun _ _ _ h => h) (Or.inr ⟨by rfl, rfl⟩) (by assumption) ?_
                    try simp only [Act.put, List.setIfInBounds_toArray, List.set_cons_zero, List.set_cons_succ, List.getElem_toArray, List.getElem_cons_zero, List.getElem_cons_succ]
                    refine Any.take (st := 27) (i := 18) (v := undef) rfl (by kernel_rfl) (by kernel_rfl) (by kernel_rfl) rfl (by kernel_rfl) (fun _ _ _ h => h) (Or.inr ⟨by rfl, rfl⟩) (by assumption) ?_
                    try simp only [Act.put, List.setIfInBounds_toArray, List.set_cons_zero, List.set_cons_succ, List.getElem_toArray, List.getElem_cons_zero, List.getElem_cons_succ]
                    refine Any.take (st := 27) (i := 19) (v := undef) rfl (by kernel_rfl) (by kernel_rfl) (by kernel_rfl) rfl (by kernel_rfl) (fun _ _ _ h => h) (Or.inr ⟨by rfl, rfl⟩) (by assumption) ?_
                    try simp only [Act.put, List.setIfInBounds_toArray, List.set_cons_zero, List.set_cons_succ, List.getElem_toArray, List.getElem_cons_zero, List.getElem_cons_succ]
                    refine Any.take (st := 27) (i := 20) (v := undef) rfl (by kernel_rfl) (by kernel_rfl) (by kernel_rfl) rfl (by kernel_rfl) (fun _ _ _ h => h) (Or.inr ⟨by rfl, rfl⟩) (by assumption) ?_
                    try simp only [Act.put, List.setIfInBounds_toArray, List.set_cons_zero, List.set_cons_succ, List.getElem_toArray, List.getElem_cons_zero, List.getElem_cons_succ]
                    refine Any.take (st := 27) (i := 21) (v := undef) rfl (by kernel_rfl) (by kernel_rfl) (by kernel_rfl) rfl (by kernel_rfl) (fun _ _ _ h => h) (Or.inr ⟨by rfl, rfl⟩) (by assumption) ?_
                    try simp only [Act.put, List.setIfInBounds_toArray, List.set_cons_zero, List.set_cons_succ, List.getElem_toArray, List.getElem_cons_zero, List.getElem_cons_succ]
                    refine Any.take (st := 27) (i := 22) (v := undef) rfl (by kernel_rfl) (by kernel_rfl) (by kernel_rfl) rfl (by kernel_rfl) (fun _ _ _ h => h) (Or.inr ⟨by rfl, rfl⟩) (by assumption) ?_
                    try simp only [Act.put, List.setIfInBounds_toArray, List.set_cons_zero, List.set_cons_succ, List.getElem_toArray, List.getElem_cons_zero, List.getElem_cons_succ]
                    refine Any.take (st := 27) (i := 23) (v := undef) rfl (by kernel_rfl) (by kernel_rfl) (by kernel_rfl) rfl (by kernel_rfl) (fun _ _ _ h => h) (Or.inr ⟨by rfl, rfl⟩) (by assumption) ?_
                    try simp only [Act.put, List.setIfInBounds_toArray, List.set_cons_zero, List.set_cons_succ, List.getElem_toArray, List.getElem_cons_zero, List.getElem_cons_succ]
                    refine Any.take (st := 27) (i := 24) (v := undef) rfl (by kernel_rfl) (by kernel_rfl) (by kernel_rfl) rfl (by kernel_rfl) (fun _ _ _ h => h) (Or.inr ⟨by rfl, rfl⟩) (by assumption) ?_
                    try simp only [Act.put, List.setIfInBounds_toArray, List.set_cons_zero, List.set_cons_succ, List.getElem_toArray, List.getElem_cons_zero, List.getElem_cons_succ]
                    refine Any.take (st := 27) (i := 25) (v := undef) rfl (by kernel_rfl) (by kernel_rfl) (by kernel_rfl) rfl (by kernel_rfl) (fun _ _ _ h => h) (Or.inr ⟨by rfl, rfl⟩) (by assumption) ?_
                    try simp only [Act.put, List.setIfInBounds_toArray, List.set_cons_zero, List.set_cons_succ, List.getElem_toArray, List.getElem_cons_zero, List.getElem_cons_succ]
                    refine Any.take (st := 27) (i := 26) (v := ?_) rfl (by kernel_rfl) (by kernel_rfl) (by kernel_rfl) rfl (by kernel_rfl) (fun _ _ _ h => h) (Or.inl ⟨by rfl, ?_⟩) (by assumption) ?_
                    rotate_left
                    · intro u hu
                      go_simp
                      try rfl
                    try simp only [Act.put, List.setIfInBounds_toArray, List.set_cons_zero, List.set_cons_succ, List.getElem_toArray, List.getElem_cons_zero, List.getElem_cons_succ]
                    refine Any.one (i := 27) (by kernel_rfl) rfl (fun K hK => ?_)
                    go_simp
                    refine hK _ _ (fun q => absurd rfl q) ?_
                    clear hK K
                    try simp only [Act.put, List.setIfInBounds_toArray, List.set_cons_zero, List.set_cons_succ, List.getElem_toArray, List.getElem_cons_zero, List.getElem_cons_succ]
                    refine Any.done (by kernel_rfl) ?_
                    clear S0
                    go_wp2
                    go_roundw
                    case rel => exact ⟨t + 1, by omega, by rw [TK.out, Bool.true_or], by go_num, (BT.out.trans (WA.out.mono zt)).drew⟩
                    case measure => simp [intOf]; omega
                · obtain rfl : t = l2.length := by omega
                  have e := END.out
                  rw [List.take_length]
                  rw [e]
                  clear e
                  go_wp2
                  go_roundw
                  case rel => exact ⟨j + 1, by omega, by go_num, B11.out.trans (BT.out.mono z11)⟩
                  case measure => simp [intOf]; omega
            · obtain rfl : j = E.s.length := by omega
              go_wp2_with fail
              refine (cdCached_c (S8.out.keep B9.out).cd).mono ?_
              rintro e w10 ⟨rfl, hb⟩
              have B10 := Lib.hid (B9.out.trans (hb.mono z9))
              clear hb
              rw [show (Dk.crash D ks).cache = [] from rfl]
              go_wp2
              go_ret
              exact ⟨rfl, B8.out.trans (B10.out.mono z8)⟩
end Go.Proofs.Ytogobeinckgjmaa
