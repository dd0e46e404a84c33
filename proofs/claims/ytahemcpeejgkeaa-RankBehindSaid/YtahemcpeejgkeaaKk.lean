/- Stage 10: the walk of RankBehind. -/
import Derived.Test.YtahemcpeejgkeaaKj
namespace Go.Proofs.Ytahemcpeejgkeaa
open Go.Shelf Go.RowKit Go.Lib Go.Sort
set_option maxRecDepth 100000

theorem findK_none {ts : List T9.Tk} {id : Nat} (h : (T9.findK ts id).2 = false) : ∀ t ∈ ts, t.id ≠ id := by
  unfold T9.findK at h
  cases e : ts.find? (fun t => t.id == id) with
  | some t => rw [e] at h; cases h
  | none =>
    intro t ht
    have q := List.find?_eq_none.1 e t ht
    simpa using q
@[go_sem] theorem buildKn10 (a b : Int) (f : Nat) (w : World) : (Instr.build 36 #[(0, .int .u64 a), (1, .int .u64 b), (2, .string ⟨#[116]⟩), (4, .float .f64 f)]).run Try.prog w = .ok (.agg #[.int .u64 a, .int .u64 b, .string ⟨#[116]⟩, .bool false, .float .f64 f, .float .f64 0, .slice none 0 0]) w := run_build w 36 _ _ (by kernel_rfl)
theorem buildSlN10 (id list f : Nat) (w : World) : (Instr.buildSlice 23 1 #[(0, .agg #[.int .u64 (id : Int), .int .u64 (list : Int), .string ⟨#[116]⟩, .bool false, .float .f64 f, .float .f64 0, .slice none 0 0])]).run Try.prog w = .ok (.slice (some ⟨w.heap.size, 0, none⟩) 1 1) (w.alloc (.cells #[.int .u64 (id : Int), .int .u64 (list : Int), .string ⟨#[116]⟩, .bool false, .float .f64 f, .float .f64 0, .slice none 0 0] 36)) := buildSlK10 ⟨⟨id, list, [116], false, f, 0, []⟩, none, 0⟩ w

set_option linter.unusedSimpArgs false in
set_option maxHeartbeats 4000000 in
set_option maxRecDepth 100000 in
theorem rankBehind_c {s : MSt} {list after id : Nat} {w : World} (hs : SM s w) (ks : s.st.ok) (fs : s.far) :
    Calls Try.prog 4 #[s.val, .int .u64 (list : Int), .int .u64 (after : Int), .int .u64 (id : Int)] w fun e w' => e = .returned (.bool true) ∧ Below w.heap.size w w' := by
  obtain ⟨w1, hw1⟩ : ∃ u, w.alloc (.cells #[.slice s.A s.ls.length s.c, .slice s.A2 s.ms.length s.c2] 25) = u := ⟨_, rfl⟩
  obtain ⟨pb1, b1, z1⟩ := new_two hw1
  have B1 : Hid (Below w.heap.size w w1) := Lib.hid b1
  have S1 : Hid (SBox s w.heap.size w1) := Lib.hid ⟨pb1, hs.stay b1⟩
  have HS0 := Lib.hid hs
  have KS := Lib.hid ks
  have FS := Lib.hid fs
  have AW := Lib.hid (awake10_c w1)
  unfold MSt.val
  clear hs ks fs pb1 b1 z1
  go_enter Try.func4, Try.ntmps4
  go_wp2_with fail
  refine AW.out.mono ?_
  rintro e w2 ⟨rfl, h2⟩
  have S2 := Lib.hid (S1.out.stay h2)
  have B2 := Lib.hid (B1.out.trans (h2.mono B1.out.size))
  clear h2
  obtain ⟨x0, x1⟩ := S2.out.cells
  have LS := Lib.hid (light9_c (c := s.c) (c2 := s.c2) S2.out.s.l S2.out.s.k rfl rfl FS.out)
  go_wp2_with fail
  refine LS.out.mono ?_
  rintro e w3 ⟨bb, rfl, hb, h3⟩
  have S3 := Lib.hid (S2.out.stay h3)
  have B3 := Lib.hid (B2.out.trans (h3.mono B2.out.size))
  clear h3 x0 x1
  cases bb with
  | false =>
    clear hb
    go_wp2_with fail
    go_ret
    exact ⟨rfl, B3.out⟩
  | true =>
    have LTS := Lib.hid (hb rfl)
    clear hb
    obtain ⟨x0, x1⟩ := S3.out.cells
    have few : s.ls.length ≤ 25 ∧ s.ms.length ≤ 70 := ⟨LTS.out.nl, by have := LTS.out.nt; rw [tks_len] at this; exact this⟩
    have FEW := Lib.hid few
    have TG : Hid (∀ m ∈ s.ms, m.t.tags.length ≤ 8) := Lib.hid fun m hm => LTS.out.few m.t (List.mem_map.2 ⟨m, hm, rfl⟩)
    clear few
    have RC := Lib.hid (right_c S3.out.s.l S3.out.s.k rfl rfl LTS.out.short ⟨S3.out.s.lc, S3.out.s.kc⟩)
    obtain ⟨r, hr⟩ : ∃ r, T9.rightE ⟨s.ls, tks s.ms⟩ = r := ⟨_, rfl⟩
    rw [hr] at RC
    by_cases r0 : r = 0
    · subst r0
      have R0 := Lib.hid hr
      clear hr
      go_wp2_with fail
      refine RC.out.mono ?_
      rintro e w4 ⟨rfl, h4⟩
      have S4 := Lib.hid (S3.out.stay h4)
      have B4 := Lib.hid (B3.out.trans (h4.mono B3.out.size))
      clear h4 x0 x1
      obtain ⟨x0, x1⟩ := S4.out.cells
      by_cases hid0 : id = 0
      · subst hid0
        have iz : (((0 : Nat) : Int) == 0) = true := by decide
        go_wp2_with fail
        go_ret
        exact ⟨rfl, B4.out⟩
      have iz : ((id : Int) == 0) = false := by simp; omega
      have HID := Lib.hid hid0
      clear hid0
      have FC := Lib.hid (refTask_c (A := s.A) (n1 := s.ls.length) (c := s.c) (c2 := s.c2) S4.out.s.k rfl (by have := FEW.out; omega) id)
      obtain ⟨is, his⟩ : ∃ b, (T9.findK (tks s.ms) id).2 = b := ⟨_, rfl⟩
      have IS := Lib.hid his
      unfold FKOk at FC
      rw [his] at FC
      clear his
      go_wp2_with fail
      refine FC.out.mono ?_
      rintro e wa ⟨⟨tk, A5, c5⟩, rfl, _, _, ha⟩
      unfold encK
      dsimp only
      obtain ⟨w5, hw5⟩ : ∃ u, wa.alloc (.cells #[.int .u64 (tk.id : Int), .int .u64 (tk.list : Int), .string (str tk.title), .bool tk.done, .float .f64 tk.rank, .float .f64 tk.est, .slice A5 tk.tags.length c5] 36) = u := ⟨_, rfl⟩
      have h5 : Below w4.heap.size w4 w5 := by rw [← hw5]; exact ha.alloc ha.size _
      have S5 := Lib.hid (S4.out.stay h5)
      have B5 := Lib.hid (B4.out.trans (h5.mono B4.out.size))
      clear ha h5 x0 x1
      cases is with
      | true =>
        go_wp2_with fail
        go_ret
        exact ⟨rfl, B5.out⟩
      | false =>
        have NI : Hid (∀ t ∈ tks s.ms, t.id ≠ id) := Lib.hid (findK_none IS.out)
        obtain ⟨x0, x1⟩ := S5.out.cells
        have BT := Lib.hid (between_c (c := s.c) (c2 := s.c2) S5.out.s.l S5.out.s.k rfl rfl (by have := FEW.out; omega) (by have := FEW.out; omega) (fun m hm => by have := TG.out m hm; omega) (fun m hm => (KS.out.2 _ (List.mem_map.2 ⟨m, hm, rfl⟩)).2.2.1) list after)
        go_wp2_with fail
        refine BT.out.mono ?_
        rintro e w6 ⟨f, er, rfl, h6, hf, hb⟩
        have S6 := Lib.hid (S5.out.stay h6)
        have B6 := Lib.hid (B5.out.trans (h6.mono B5.out.size))
        clear h6 x0 x1
        by_cases e0 : er = 0
        · subst e0
          have ez : ((0 : Int) != 0) = false := by decide
          obtain ⟨l, ol, hbt⟩ : ∃ l, T9.Ordd (tks s.ms) list l ∧ T9.btw true l after = (f, 0) := by
            rcases hb with ⟨_, q⟩ | ⟨l, a, b⟩
            · exact absurd q (by decide)
            · exact ⟨l, a, b⟩
          have OL := Lib.hid ol
          have HB := Lib.hid hbt
          have HF := Lib.hid hf
          obtain ⟨x0, x1⟩ := S6.out.cells
          have fr1 := blk_free S6.out.b 1
          obtain ⟨ti0, thi, tz0, tz1, tz2⟩ := info_parts Try.infoTk9
          obtain ⟨nk, hnk⟩ : ∃ n, n = s.ms.length := ⟨_, rfl⟩
          have NK := Lib.hid hnk
          have nkb : nk ≤ 70 := by rw [hnk]; exact FEW.out.2
          rw [← hnk] at x1 ⊢
          clear hb ol hbt hf hnk
          go_wp2_with (at_builtin; refine wpList_app _ rfl _ _ 23 rfl w6.heap.size 36 ti0 _ 7 80 Try.underlying23 thi tz0 tz1 tz2 rfl (by decide) _ 0 [] rfl (World.ownsRow_nil _ _ _ _) w6.heap.size s.A2 nk s.c2 (tkcells s.ms) 0 rfl (by rw [tkcells_len, NK.out]) S6.out.s.k.1 (tkcells_one _) (by unfold maxLen; omega) (by omega) (Nat.le_refl _) ?_)
          intro v7 w7 hown7 hgrow7 _
          obtain ⟨A7, k7, rfl⟩ := own_slice hown7
          have B67 := Lib.hid (app_below0 (World.ownsRow_nil w6 w6.heap.size 36 7) hgrow7 (Nat.le_refl _))
          have O7 : Hid (w7.ownsRow w6.heap.size 36 7 (.slice A7 nk k7) nk (tkcells s.ms)) := Lib.hid (by simpa using hown7)
          have sb7 := (B67.out.block w.heap.size (lt_of_block S6.out.b)).trans S6.out.b
          have SB7 := Lib.hid sb7
          have hbs := buildSlN10 id list f w7
          have OWE := Lib.hid (O7.out.alloc (.cells #[.int .u64 (id : Int), .int .u64 (list : Int), .string ⟨#[116]⟩, .bool false, .float .f64 f, .float .f64 0, .slice none 0 0] 36))
          have LE : Hid (Lies (w7.alloc (.cells #[.int .u64 (id : Int), .int .u64 (list : Int), .string ⟨#[116]⟩, .bool false, .float .f64 f, .float .f64 0, .slice none 0 0] 36)) 0 36 (some ⟨w7.heap.size, 0, none⟩) (encK ⟨⟨id, list, [116], false, f, 0, []⟩, none, 0⟩)) := Lib.hid (Lies.of_blk (heap_alloc_new w7 _))
          have ZZ := Lib.hid B67.out.size
          have zz := ZZ.out
          clear hown7 hgrow7
          go_wp2_with (at_builtin; refine wpList_app _ rfl _ _ 23 rfl w6.heap.size 36 ti0 _ 7 80 Try.underlying23 thi tz0 tz1 tz2 rfl (by decide) _ nk (tkcells s.ms) rfl OWE.out 0 _ 1 1 (encK ⟨⟨id, list, [116], false, f, 0, []⟩, none, 0⟩) 36 rfl rfl LE.out (encK_one _) (by unfold maxLen; omega) (by omega) (by simp; omega) ?_)
          intro v8 w8 hown8 hgrow8 _
          obtain ⟨A8, k8, rfl⟩ := own_slice hown8
          have T8 : Hid (Tch w6.heap.size [36] w7 w8) := Lib.hid (((Tch.refl w6.heap.size [36] w7).alloc ZZ.out (.cells #[.int .u64 (id : Int), .int .u64 (list : Int), .string ⟨#[116]⟩, .bool false, .float .f64 f, .float .f64 0, .slice none 0 0] 36)).trans (grown_tch (B := w6.heap.size) (ts := [36]) OWE.out hgrow8 (Nat.le_refl _) (by have := ZZ.out; simp; omega) (by simp)))
          have O8 := Lib.hid hown8
          have sb8 := T8.out.blk SB7.out (by decide)
          have SB8 := Lib.hid sb8
          have y1 := (two_cells sb8).2
          have y0 := (two_cells sb8).1
          have gf1 := blk_free sb8 1
          have Y8 : Ty w8 w.heap.size 25 := ⟨_, _, sb8⟩
          obtain ⟨w9, hw9⟩ : ∃ u, w8.setCell ⟨w.heap.size, 1, none⟩ (.slice A8 (nk + 1) k8) = u := ⟨_, rfl⟩
          have T9' : Hid (Tch w.heap.size [25] w8 w9) := Lib.hid (by rw [← hw9]; exact (Tch.refl _ _ w8).setTy (p := ⟨w.heap.size, 1, none⟩) Y8 (by simp) (Nat.le_refl _) _)
          have SB9 : Hid (w9.heap[w.heap.size]? = some (.cells #[.slice s.A s.ls.length s.c, .slice A8 (nk + 1) k8] 25 (0, 0))) := Lib.hid (by rw [← hw9]; exact (blk_set sb8 1 (.slice A8 (nk + 1) k8)).trans rfl)
          have B9 : Hid (Below w.heap.size w w9) := Lib.hid (((B6.out.trans (B67.out.mono B6.out.size)).trans (T8.out.below.mono B6.out.size)).trans T9'.out.below)
          have K9 : Hid (KL w9 A8 (s.ms ++ [⟨⟨id, list, [116], false, f, 0, []⟩, none, 0⟩])) := Lib.hid (by
            refine ⟨?_, fun m hm => ?_⟩
            · rw [tkcells_snoc]
              exact (lies_own (B := 0) (t := 36) (own_tch O8.out T9'.out (by decide))).old
            · rcases List.mem_append.1 hm with q | q
              · exact (HS0.out.k.2 m q).stay B9.out
              · rw [List.mem_singleton] at q
                subst q
                exact ⟨Lies.nil, Nat.le_refl _⟩)
          have OC := Lib.hid (order_c (A := s.A) (n1 := s.ls.length) (c := s.c) (c2 := k8) (n2 := nk + 1) K9.out (by rw [List.length_append, NK.out]; rfl) (by omega) (fun m hm => by
            rcases List.mem_append.1 hm with q | q
            · have := TG.out m q; omega
            · rw [List.mem_singleton] at q; subst q; exact Nat.zero_le _) (fun m hm => by
            rcases List.mem_append.1 hm with q | q
            · exact (KS.out.2 _ (List.mem_map.2 ⟨m, q, rfl⟩)).2.2.1
            · rw [List.mem_singleton] at q; subst q; exact HF.out) list)
          have z0 := (two_cells SB9.out).1
          have z1 := (two_cells SB9.out).2
          clear hown8 hgrow8 hbs sb7 sb8 Y8 zz x0 x1
          go_wp2_with fail
          refine OC.out.mono ?_
          rintro e wb ⟨A3, c3, xs, rfl, hk3, hc3, ho3, h10, _, _⟩
          have BA := Lib.hid (B9.out.trans (h10.mono B9.out.size))
          have BH := Lib.hid (T9.behind_order (new := (⟨id, list, [116], false, f, 0, []⟩ : T9.Tk)) R0.out OL.out (by rw [tks_snoc] at ho3; exact ho3) rfl rfl NI.out HB.out)
          obtain ⟨n3, hn3⟩ : ∃ n, n = xs.length := ⟨_, rfl⟩
          have N3 := Lib.hid hn3
          have n3b : n3 ≤ 1000000 := by
            have q := ho3.perm.length_eq
            rw [tks_len, ← hn3] at q
            rw [q]
            refine Nat.le_trans (List.length_filter_le _ _) ?_
            rw [tks_len, List.length_append, ← NK.out]
            show nk + 1 ≤ _
            omega
          have PC := Lib.hid (refPlace_c (c := c3) (id := id) hk3 hn3 n3b)
          have K3 := Lib.hid hk3
          rw [← hn3]
          clear hk3 hc3 ho3 h10 hn3 z0 z1
          by_cases a0 : after = 0
          · subst a0
            have pz := T9.plcI_some (BH.out.1 rfl)
            rw [pz] at PC
            have az : (((0 : Nat) : Int) == 0) = true := by decide
            clear pz
            go_wp2_with fail
            refine PC.out.mono ?_
            rintro e wc ⟨rfl, h11⟩
            have BC := Lib.hid (BA.out.trans (h11.mono BA.out.size))
            clear h11
            go_wp2_with fail
            go_ret
            exact ⟨rfl, BC.out⟩
          · obtain ⟨k, t, hp, hr3, ht⟩ := BH.out.2 a0
            have pz := T9.plcI_some hp
            rw [pz] at PC
            have az : ((after : Int) == 0) = false := by simp; omega
            have HR3 := Lib.hid hr3
            have HT3 := Lib.hid ht
            have kn : k < n3 := by
              have q := (List.getElem?_eq_some_iff.1 hr3).1
              rw [tks_len, ← N3.out] at q
              exact q
            clear pz hp hr3 ht a0
            rw [show ((k + 1 : Nat) : Int) = (k : Int) + 1 by omega] at PC
            go_wp2_with fail
            refine PC.out.mono ?_
            rintro e wc ⟨rfl, h11⟩
            have BC := Lib.hid (BA.out.trans (h11.mono BA.out.size))
            obtain ⟨ad, p, hA, hx, _, r0, r1, r2, r3, r4, r5, r6⟩ := (K3.out.stay h11).at_ (k := k) (by rw [← N3.out]; exact kn)
            subst hA
            have ep : p.t.id = after := by
              have q := tks_at hx
              rw [HR3.out] at q
              injection q with q
              rw [← q]
              exact HT3.out
            rw [ep] at r0
            have k1 : (0 : Int) < (k : Int) + 1 := by omega
            have kw : IntKind.i64.wrap ((k : Int) + 1 - 1) = (k : Int) := by rw [IntKind.wrap_i64]; omega
            have knz : (k : Int) < (n3 : Int) := by omega
            have k0 : (0 : Int) ≤ (k : Int) := by omega
            clear h11 hx ep r1 r2 r3 r4 r5 r6
            go_wp2_with fail
            go_ret
            exact ⟨rfl, BC.out⟩
        · have ez : (er != 0) = true := by simp [e0]
          have ez2 : (er == 0) = false := by simp [e0]
          clear hb
          go_wp2_with fail
          go_ret
          exact ⟨rfl, B6.out⟩
    · have rz : (r != 0) = true := by simp [r0]
      have rz2 : (r == 0) = false := by simp [r0]
      clear hr
      go_wp2_with fail
      refine RC.out.mono ?_
      rintro e w4 ⟨rfl, h4⟩
      have B4 := Lib.hid (B3.out.trans (h4.mono B3.out.size))
      clear h4
      go_wp2_with fail
      go_ret
      exact ⟨rfl, B4.out⟩
end Go.Proofs.Ytahemcpeejgkeaa
