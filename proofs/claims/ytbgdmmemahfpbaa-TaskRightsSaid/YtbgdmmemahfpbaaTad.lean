/- Stage 9: the walk of TaskFinds. -/
import Derived.Test.YtbgdmmemahfpbaaTac
import Derived.Lib.QuietBelow
namespace Go.Proofs.Ytbgdmmemahfpbaa
open Go.RowKit Go.Lib Go.Sort
set_option maxRecDepth 100000

theorem two_box {l : T9.Li} : (.agg (encL l).toArray : Value) = .agg #[.int .u64 (l.id : Int), .string (str l.name)] := rfl
theorem blk_keep {w w' : World} {g : Nat} {o : Obj} (hb : w.heap[g]? = some o) (h : Below w.heap.size w w') : w'.heap[g]? = some o := (h.block g (lt_of_block hb)).trans hb
/-- What a world holds of a state: its box, its lists, its tasks. -/
structure SBox (m : MSt) (g : Nat) (w : World) : Prop where
  b : w.heap[g]? = some (.cells #[.slice m.A m.ls.length m.c, .slice m.A2 m.ms.length m.c2] 25 (0, 0))
  s : SM m w
theorem SBox.stay {m : MSt} {g : Nat} {w w' : World} (h : SBox m g w) (hb : Below w.heap.size w w') : SBox m g w' := ⟨blk_keep h.b hb, h.s.stay hb⟩
theorem SBox.cells {m : MSt} {g : Nat} {w : World} (h : SBox m g w) : w.cell? ⟨g, 0, none⟩ = some (.slice m.A m.ls.length m.c) ∧ w.cell? ⟨g, 1, none⟩ = some (.slice m.A2 m.ms.length m.c2) := two_cells h.b
/-- Tags whose count is one that Go can have. -/
def MSt.far (m : MSt) : Prop := ∀ t ∈ m.ms, t.t.tags.length ≤ maxLen
theorem findK_ok {ts : List T9.Tk} {id : Nat} (h : ∀ t ∈ ts, t.ok) : (T9.findK ts id).1.ok := by
  unfold T9.findK
  cases q : ts.find? (fun t => t.id == id) with
  | none => exact ⟨by decide, by decide, by decide, by decide⟩
  | some t => exact h t (List.mem_of_find?_eq_some q)
theorem findK_short {ts : List T9.Tk} {id : Nat} (h : ∀ t ∈ ts, t.short) : (T9.findK ts id).1.short := by
  unfold T9.findK
  cases q : ts.find? (fun t => t.id == id) with
  | none => exact ⟨by decide, by simp, by decide⟩
  | some t => exact h t (List.mem_of_find?_eq_some q)
theorem Calls.regrown_same {P : Program} {f : FuncId} {args : Array Value} {w : World} {d : Nat} {os : Array Obj} {v : Value}
    (h : Calls P f args (grow (redrawn w d) os) fun e w' => e = .returned v ∧ grow (redrawn w d) os = w') : Calls P f args (grow (redrawn w d) os) fun e w'' => e = .returned v ∧ ∃ p : Regrown, w'' = grow (redrawn w p.d) p.os :=
  h.mono fun _ _ ⟨he, hw⟩ => ⟨he, ⟨d, os⟩, hw.symm⟩

set_option maxHeartbeats 1000000 in
set_option maxRecDepth 100000 in
theorem taskFinds_c {s o : MSt} {id : Nat} {l : List UInt8} {w : World} (hs : SM s w) (ho : SM o w) (ks : s.st.ok) (ko : o.st.ok) (fs : s.far) (fo : o.far) :
    Calls Try.prog 4 #[s.val, o.val, .int .u64 (id : Int), .string (str l)] w fun e w' => e = .returned (.bool true) ∧ Below w.heap.size w w' := by
  obtain ⟨w0, hw0⟩ : ∃ u, w.alloc (.cells #[.slice s.A s.ls.length s.c, .slice s.A2 s.ms.length s.c2] 25) = u := ⟨_, rfl⟩
  obtain ⟨pb0, b0, z0⟩ := new_two hw0
  obtain ⟨w1, hw1⟩ : ∃ u, w0.alloc (.cells #[.slice o.A o.ls.length o.c, .slice o.A2 o.ms.length o.c2] 25) = u := ⟨_, rfl⟩
  obtain ⟨pb1, b1, z1⟩ := new_two hw1
  rw [z0] at pb1
  have B1 : Hid (Below w.heap.size w w1) := Lib.hid (b0.trans (b1.mono (by omega)))
  have S1 : Hid (SBox s w.heap.size w1) := Lib.hid ⟨blk_keep pb0 b1, hs.stay B1.out⟩
  have O1 : Hid (SBox o (w.heap.size + 1) w1) := Lib.hid ⟨pb1, ho.stay B1.out⟩
  have KS := Lib.hid ks
  have KO := Lib.hid ko
  have FS := Lib.hid fs
  have FO := Lib.hid fo
  have AW := Lib.hid (awake9_c w1)
  unfold MSt.val
  clear hs ho ks ko fs fo pb0 pb1 b0 b1 z1
  go_enter Try.func4, Try.ntmps4
  go_wp2_with fail
  refine AW.out.mono ?_
  rintro e w2 ⟨rfl, h2⟩
  have S2 := Lib.hid (S1.out.stay h2)
  have O2 := Lib.hid (O1.out.stay h2)
  have B2 := Lib.hid (B1.out.trans (h2.mono B1.out.size))
  clear h2
  obtain ⟨x0, x1⟩ := S2.out.cells
  have LS := Lib.hid (light9_c (c := s.c) (c2 := s.c2) S2.out.s.l S2.out.s.k rfl rfl FS.out)
  go_wp2_with fail
  refine LS.out.mono ?_
  rintro e w3 ⟨b, rfl, hb, h3⟩
  have S3 := Lib.hid (S2.out.stay h3)
  have O3 := Lib.hid (O2.out.stay h3)
  have B3 := Lib.hid (B2.out.trans (h3.mono B2.out.size))
  clear h3 x0 x1
  cases b with
  | false =>
    clear hb
    go_wp2_with fail
    go_ret
    exact ⟨rfl, B3.out⟩
  | true =>
    have LTS := Lib.hid (hb rfl)
    clear hb
    obtain ⟨x0, x1⟩ := O3.out.cells
    have LO := Lib.hid (light9_c (c := o.c) (c2 := o.c2) O3.out.s.l O3.out.s.k rfl rfl FO.out)
    go_wp2_with fail
    refine LO.out.mono ?_
    rintro e w4 ⟨b, rfl, hb, h4⟩
    have S4 := Lib.hid (S3.out.stay h4)
    have O4 := Lib.hid (O3.out.stay h4)
    have B4 := Lib.hid (B3.out.trans (h4.mono B3.out.size))
    clear h4 x0 x1
    cases b with
    | false =>
      clear hb
      go_wp2_with fail
      go_ret
      exact ⟨rfl, B4.out⟩
    | true =>
      have LTO := Lib.hid (hb rfl)
      clear hb
      have sz : (str l).size = l.length := rfl
      by_cases hl : 200 < l.length
      · have hlz : (200 : Int) < ((str l).size : Int) := by rw [sz]; omega
        clear sz
        go_wp2_with fail
        go_ret
        exact ⟨rfl, B4.out⟩
      · have hlz : ¬ ((200 : Int) < ((str l).size : Int)) := by rw [sz]; omega
        have hl2 : l.length ≤ 200 := by omega
        clear sz
        obtain ⟨x0, x1⟩ := S4.out.cells
        have few : s.ls.length ≤ 1000000 ∧ s.ms.length ≤ 1000000 := ⟨by have := LTS.out.nl; simp at this; omega, by have := LTS.out.nt; rw [tks_len] at this; omega⟩
        have SHM : Hid (∀ m ∈ s.ms, m.t.short) := Lib.hid fun m hm => LTS.out.short.2.1 m.t (List.mem_map.2 ⟨m, hm, rfl⟩)
        have F1 := Lib.hid (find_c (A := s.A) (c := s.c) (n1 := s.ls.length) (c2 := s.c2) S4.out.s.k rfl few.2 SHM.out id)
        go_wp2_with fail
        refine F1.out.mono ?_
        rintro e w5 ⟨m1, he, hm1, hf1, h5⟩
        rw [seven_box] at he
        subst he
        have M1 := Lib.hid hm1
        obtain ⟨v1, hv1⟩ : ∃ v, v = (T9.findK (tks s.ms) id).2 := ⟨_, rfl⟩
        rw [← hv1]
        have HV1 := Lib.hid hv1
        clear hv1
        obtain ⟨w6, hw6⟩ : ∃ u, w5.alloc (.cells #[.int .u64 (m1.t.id : Int), .int .u64 (m1.t.list : Int), .string (str m1.t.title), .bool m1.t.done, .float .f64 m1.t.rank, .float .f64 m1.t.est, .slice m1.A m1.t.tags.length m1.c] 37) = u := ⟨_, rfl⟩
        obtain ⟨tb, b6, z6⟩ := new_seven hw6
        have h6 := Lib.hid (h5.trans (b6.mono h5.size))
        have S6 := Lib.hid (S4.out.stay h6.out)
        have O6 := Lib.hid (O4.out.stay h6.out)
        have B6 := Lib.hid (B4.out.trans (h6.out.mono B4.out.size))
        have MF6 := Lib.hid (hf1.stay b6)
        have T6 := Lib.hid tb
        clear h5 hf1 hm1 tb b6 z6 x0 x1
        obtain ⟨x0, x1⟩ := S6.out.cells
        have F2 := Lib.hid (refTask_c (A := s.A) (c := s.c) (n1 := s.ls.length) (c2 := s.c2) S6.out.s.k rfl few.2 id)
        go_wp2_with fail
        refine F2.out.mono ?_
        rintro e w7 ⟨m2, he, hm2, hf2, h7⟩
        rw [seven_box, ← HV1.out] at he
        subst he
        have M2 := Lib.hid hm2
        obtain ⟨w8, hw8⟩ : ∃ u, w7.alloc (.cells #[.int .u64 (m2.t.id : Int), .int .u64 (m2.t.list : Int), .string (str m2.t.title), .bool m2.t.done, .float .f64 m2.t.rank, .float .f64 m2.t.est, .slice m2.A m2.t.tags.length m2.c] 37) = u := ⟨_, rfl⟩
        obtain ⟨tb, b8, z8⟩ := new_seven hw8
        have h8 := Lib.hid (h7.trans (b8.mono h7.size))
        have S8 := Lib.hid (S6.out.stay h8.out)
        have O8 := Lib.hid (O6.out.stay h8.out)
        have B8 := Lib.hid (B6.out.trans (h8.out.mono B6.out.size))
        have MF8 := Lib.hid (MF6.out.stay h8.out)
        have NF8 := Lib.hid (hf2.stay b8)
        have T8 := Lib.hid (blk_keep T6.out h8.out)
        have U8 := Lib.hid tb
        clear h7 hf2 hm2 tb b8 z8 x0 x1
        obtain ⟨x0, x1⟩ := S8.out.cells
        have F3 := Lib.hid (lists_c (A2 := s.A2) (c := s.c) (n2 := s.ms.length) (c2 := s.c2) S8.out.s.l rfl few.1 id)
        go_wp2_with fail
        refine F3.out.mono ?_
        rintro e w9 ⟨he, h9⟩
        obtain ⟨lf, hlf⟩ : ∃ v, v = (T9.findL s.ls id).1 := ⟨_, rfl⟩
        obtain ⟨v2, hv2⟩ : ∃ v, v = (T9.findL s.ls id).2 := ⟨_, rfl⟩
        rw [two_box, ← hlf, ← hv2] at he
        subst he
        have HLF := Lib.hid hlf
        have HV2 := Lib.hid hv2
        clear hlf hv2
        obtain ⟨w10, hw10⟩ : ∃ u, w9.alloc (.cells #[.int .u64 (lf.id : Int), .string (str lf.name)] 41) = u := ⟨_, rfl⟩
        obtain ⟨tb, b10, z10⟩ := new_two hw10
        have h10 := Lib.hid (h9.trans (b10.mono h9.size))
        have S10 := Lib.hid (S8.out.stay h10.out)
        have O10 := Lib.hid (O8.out.stay h10.out)
        have B10 := Lib.hid (B8.out.trans (h10.out.mono B8.out.size))
        have MF10 := Lib.hid (MF8.out.stay h10.out)
        have NF10 := Lib.hid (NF8.out.stay h10.out)
        have T10 := Lib.hid (blk_keep T8.out h10.out)
        have U10 := Lib.hid (blk_keep U8.out h10.out)
        have L10 := Lib.hid tb
        clear h9 tb b10 z10 x0 x1
        obtain ⟨x0, x1⟩ := S10.out.cells
        have F4 := Lib.hid (refList_c (A2 := s.A2) (c := s.c) (n2 := s.ms.length) (c2 := s.c2) S10.out.s.l rfl few.1 id)
        go_wp2_with fail
        refine F4.out.mono ?_
        rintro e w11 ⟨he, h11⟩
        rw [two_box, ← HLF.out, ← HV2.out] at he
        subst he
        obtain ⟨w12, hw12⟩ : ∃ u, w11.alloc (.cells #[.int .u64 (lf.id : Int), .string (str lf.name)] 41) = u := ⟨_, rfl⟩
        obtain ⟨tb, b12, z12⟩ := new_two hw12
        have h12 := Lib.hid (h11.trans (b12.mono h11.size))
        have S12 := Lib.hid (S10.out.stay h12.out)
        have O12 := Lib.hid (O10.out.stay h12.out)
        have B12 := Lib.hid (B10.out.trans (h12.out.mono B10.out.size))
        have MF12 := Lib.hid (MF10.out.stay h12.out)
        have NF12 := Lib.hid (NF10.out.stay h12.out)
        have T12 := Lib.hid (blk_keep T10.out h12.out)
        have U12 := Lib.hid (blk_keep U10.out h12.out)
        have L12 := Lib.hid (blk_keep L10.out h12.out)
        have LL12 := Lib.hid tb
        clear h11 tb b12 z12 x0 x1
        obtain ⟨tz0, tz1, tz2, tz3, tz4, tz5, tz6⟩ := seven_cells T12.out
        have t0 := fun d os => cell_regrown tz0 d os
        have t1 := fun d os => cell_regrown tz1 d os
        have t2 := fun d os => cell_regrown tz2 d os
        have t3 := fun d os => cell_regrown tz3 d os
        have t4 := fun d os => cell_regrown tz4 d os
        have t5 := fun d os => cell_regrown tz5 d os
        have t6 := fun d os => cell_regrown tz6 d os
        clear tz0 tz1 tz2 tz3 tz4 tz5 tz6
        obtain ⟨uz0, uz1, uz2, uz3, uz4, uz5, uz6⟩ := seven_cells U12.out
        have u0 := fun d os => cell_regrown uz0 d os
        have u1 := fun d os => cell_regrown uz1 d os
        have u2 := fun d os => cell_regrown uz2 d os
        have u3 := fun d os => cell_regrown uz3 d os
        have u4 := fun d os => cell_regrown uz4 d os
        have u5 := fun d os => cell_regrown uz5 d os
        have u6 := fun d os => cell_regrown uz6 d os
        clear uz0 uz1 uz2 uz3 uz4 uz5 uz6
        obtain ⟨pz0, pz1⟩ := two_cells L12.out
        have p0 := fun d os => cell_regrown pz0 d os
        have p1 := fun d os => cell_regrown pz1 d os
        clear pz0 pz1
        obtain ⟨qz0, qz1⟩ := two_cells LL12.out
        have q0 := fun d os => cell_regrown qz0 d os
        have q1 := fun d os => cell_regrown qz1 d os
        clear qz0 qz1
        obtain ⟨xz0, xz1⟩ := S12.out.cells
        have x0 := fun d os => cell_regrown xz0 d os
        have x1 := fun d os => cell_regrown xz1 d os
        clear xz0 xz1
        obtain ⟨yz0, yz1⟩ := O12.out.cells
        have y0 := fun d os => cell_regrown yz0 d os
        have y1 := fun d os => cell_regrown yz1 d os
        clear yz0 yz1
        obtain ⟨v3, hv3⟩ : ∃ v, v = T9.same s.st o.st := ⟨_, rfl⟩
        obtain ⟨v4, hv4⟩ : ∃ v, v = T9.title l := ⟨_, rfl⟩
        obtain ⟨v5, hv5⟩ : ∃ v, v = T9.tag l := ⟨_, rfl⟩
        have cST := fun d os => Calls.regrown_of (w := w12) (d := d) (os := os) (v := .bool true) (show Calls Try.prog 18 #[.agg #[.int .u64 (m1.t.id : Int), .int .u64 (m1.t.list : Int), .string (str m1.t.title), .bool m1.t.done, .float .f64 m1.t.rank, .float .f64 m1.t.est, .slice m1.A m1.t.tags.length m1.c], .agg #[.int .u64 (m2.t.id : Int), .int .u64 (m2.t.list : Int), .string (str m2.t.title), .bool m2.t.done, .float .f64 m2.t.rank, .float .f64 m2.t.est, .slice m2.A m2.t.tags.length m2.c]] _ _ from by
          have ok1 := findK_ok (id := id) KS.out.2
          have sh1 := findK_short (id := id) LTS.out.short.2.1
          have q := refSameTask_c (MF12.out.stay (below_regrown w12 d os)) (NF12.out.stay (below_regrown w12 d os)) (by rw [M1.out]; exact sh1) (by rw [M2.out]; exact sh1) (by rw [M1.out]; exact ok1) (by rw [M2.out]; exact ok1)
          rw [M1.out.trans M2.out.symm, T9.same1_refl] at q
          exact q)
        have cS1 := fun d os => Calls.regrown_of (w := w12) (d := d) (os := os) (v := .bool v3) (show Calls Try.prog 19 #[.agg #[.slice s.A s.ls.length s.c, .slice s.A2 s.ms.length s.c2], .agg #[.slice o.A o.ls.length o.c, .slice o.A2 o.ms.length o.c2]] _ _ from by
          rw [hv3]
          exact sameSt_c (S12.out.s.stay (below_regrown w12 d os)) (O12.out.s.stay (below_regrown w12 d os)) LTS.out.short LTO.out.short KS.out KO.out)
        have cS2 := fun d os => Calls.regrown_of (w := w12) (d := d) (os := os) (v := .bool v3) (show Calls Try.prog 12 #[.agg #[.slice s.A s.ls.length s.c, .slice s.A2 s.ms.length s.c2], .agg #[.slice o.A o.ls.length o.c, .slice o.A2 o.ms.length o.c2]] _ _ from by
          rw [hv3]
          exact refSameSt_c (S12.out.s.stay (below_regrown w12 d os)) (O12.out.s.stay (below_regrown w12 d os)) LTS.out.short LTO.out.short KS.out KO.out)
        have cS3 := fun d os => Calls.regrown_of (w := w12) (d := d) (os := os) (v := .bool true) (show Calls Try.prog 19 #[.agg #[.slice s.A s.ls.length s.c, .slice s.A2 s.ms.length s.c2], .agg #[.slice s.A s.ls.length s.c, .slice s.A2 s.ms.length s.c2]] _ _ from by
          have q := sameSt_c (S12.out.s.stay (below_regrown w12 d os)) (S12.out.s.stay (below_regrown w12 d os)) LTS.out.short LTS.out.short KS.out KS.out
          rw [T9.same_refl] at q
          exact q)
        have cT1 := fun d os => Calls.regrown_same (w := w12) (d := d) (os := os) (v := .bool v4) (by rw [hv4]; exact title_c l (by omega) _)
        have cT2 := fun d os => Calls.regrown_same (w := w12) (d := d) (os := os) (v := .bool v4) (by rw [hv4]; exact refTitle_c l (by omega) _)
        have cT3 := fun d os => Calls.regrown_same (w := w12) (d := d) (os := os) (v := .bool v5) (by rw [hv5]; exact tag_c l (by omega) _)
        have cT4 := fun d os => Calls.regrown_same (w := w12) (d := d) (os := os) (v := .bool v5) (by rw [hv5]; exact refTag_c l (by omega) _)
        clear hv3 hv4 hv5 few hl hl2
        go_wp2_with fail
        refine wp_region_quiet_below mixed9 (by kernel_rfl) ?_
        repeat (quiet_step (first | (go_at_call 18; with_reducible exact cST _ _) | (go_at_call 19; with_reducible exact cS1 _ _) | (go_at_call 12; with_reducible exact cS2 _ _) | (go_at_call 19; with_reducible exact cS3 _ _) | (go_at_call 20; with_reducible exact cT1 _ _) | (go_at_call 21; with_reducible exact cT2 _ _) | (go_at_call 22; with_reducible exact cT3 _ _) | (go_at_call 23; with_reducible exact cT4 _ _)))
        refine wpQuiet_nil ?_
        intro _ hw'
        obtain ⟨⟨dq, osq⟩, hw''⟩ := hw'
        subst hw''
        go_wp2
        go_ret
        exact ⟨rfl, B12.out.trans ((below_regrown w12 dq osq).mono B12.out.size)⟩
end Go.Proofs.Ytbgdmmemahfpbaa
