/- Stage 9: the walk of TaskRights (written by wip/gen9ri.py behind wip/XTat.head). -/
import Derived.Test.YtbgdmmemahfpbaaTas
import Derived.Test.YtbgdmmemahfpbaaTaf
import Derived.Test.YtbgdmmemahfpbaaTt
namespace Go.Proofs.Ytbgdmmemahfpbaa
open Go.RowKit Go.Lib Go.Sort
set_option maxRecDepth 100000

theorem T9.norm_norm (t : T9.Tk) : T9.norm (T9.norm t) = T9.norm t := by
  show (⟨t.id, t.list, t.title, t.done, Fl.canon (Fl.canon t.rank), Fl.canon (Fl.canon t.est), Sr.canon T9.ltS (Sr.canon T9.ltS t.tags)⟩ : T9.Tk) = ⟨t.id, t.list, t.title, t.done, Fl.canon t.rank, Fl.canon t.est, Sr.canon T9.ltS t.tags⟩
  rw [Fl.canon_canon, Fl.canon_canon, Sr.canon_canon T9.woS]
theorem T9.canon_canon (s : T9.St) : T9.canon (T9.canon s) = T9.canon s := by
  show (⟨Sr.canon T9.ltL (Sr.canon T9.ltL s.lists), (Sr.canon T9.ltK ((Sr.canon T9.ltK s.tasks).map T9.norm)).map T9.norm⟩ : T9.St) = ⟨Sr.canon T9.ltL s.lists, (Sr.canon T9.ltK s.tasks).map T9.norm⟩
  rw [Sr.canon_canon T9.woL, Sr.canon_map (lt := T9.ltK) (lt' := T9.ltK) (f := T9.norm) (fun _ _ => rfl), Sr.canon_canon T9.woK, List.map_map]
  congr 1
  exact List.map_congr_left fun t _ => T9.norm_norm t
theorem T9.canon_light {s : T9.St} (h : s.light) : (T9.canon s).light := by
  have q : ∀ t ∈ (T9.canon s).tasks, ∃ u ∈ s.tasks, T9.norm u = t := fun t ht => by
    obtain ⟨u, hu, e⟩ := List.mem_map.1 ht
    exact ⟨u, Sr.canon_mem hu, e⟩
  refine ⟨Nat.le_trans (Sr.canon_len _) h.nl, ?_, fun l hl => h.name l (Sr.canon_mem hl), ?_, ?_, ?_⟩
  · show ((Sr.canon T9.ltK s.tasks).map T9.norm).length ≤ 70
    rw [List.length_map]
    exact Nat.le_trans (Sr.canon_len _) h.nt
  · intro t ht
    obtain ⟨u, hu, rfl⟩ := q t ht
    exact h.title u hu
  · intro t ht
    obtain ⟨u, hu, rfl⟩ := q t ht
    exact Nat.le_trans (Sr.canon_len _) (h.few u hu)
  · intro t ht x hx
    obtain ⟨u, hu, rfl⟩ := q t ht
    exact h.tag u hu x (Sr.canon_mem hx)
theorem T9.canon_ok {s : T9.St} (h : s.ok) : (T9.canon s).ok := by
  refine ⟨fun l hl => h.1 l (Sr.canon_mem hl), fun t ht => ?_⟩
  obtain ⟨u, hu, rfl⟩ := List.mem_map.1 ht
  obtain ⟨a, b, c, d⟩ := h.2 u (Sr.canon_mem hu)
  exact ⟨a, b, Fl.canon_lt c, Fl.canon_lt d⟩

set_option linter.unusedSimpArgs false in
set_option maxHeartbeats 4000000 in
set_option maxRecDepth 100000 in
theorem taskRights_c {s : MSt} {w : World} (hs : SM s w) (ks : s.st.ok) (fs : s.far) :
    Calls Try.prog 3 #[s.val] w fun e w' => e = .returned (.bool true) ∧ Below w.heap.size w w' := by
  obtain ⟨w1, hw1⟩ : ∃ u, w.alloc (.cells #[.slice s.A s.ls.length s.c, .slice s.A2 s.ms.length s.c2] 25) = u := ⟨_, rfl⟩
  obtain ⟨pb1, b1, z1⟩ := new_two hw1
  have B1 : Hid (Below w.heap.size w w1) := Lib.hid b1
  have S1 : Hid (SBox s w.heap.size w1) := Lib.hid ⟨pb1, hs.stay b1⟩
  have KS := Lib.hid ks
  have FS := Lib.hid fs
  have AW := Lib.hid (awake9_c w1)
  unfold MSt.val
  clear hs ks fs pb1 b1 z1
  go_enter Try.func3, Try.ntmps3
  go_wp2_with fail
  refine AW.out.mono ?_
  rintro e w2 ⟨rfl, h2⟩
  have S2 := Lib.hid (S1.out.stay h2)
  have B2 := Lib.hid (B1.out.trans (h2.mono B1.out.size))
  clear h2
  obtain ⟨x0, x1⟩ := S2.out.cells
  have LS := Lib.hid (light9_c (c := s.c) (c2 := s.c2) S2.out.s.l S2.out.s.k rfl rfl FS.out)
  go_wp2_with fail
  refine LS.out.mono ?_
  rintro e w3 ⟨bb, rfl, hb, h3⟩
  have S3 := Lib.hid (S2.out.stay h3)
  have B3 := Lib.hid (B2.out.trans (h3.mono B2.out.size))
  clear h3 x0 x1
  cases bb with
  | false =>
    clear hb
    go_wp2_with fail
    go_ret
    exact ⟨rfl, B3.out⟩
  | true =>
    have LTS := Lib.hid (hb rfl)
    clear hb
    obtain ⟨x0, x1⟩ := S3.out.cells
    have few : s.ls.length ≤ 25 ∧ s.ms.length ≤ 70 := ⟨LTS.out.nl, by have := LTS.out.nt; rw [tks_len] at this; exact this⟩
    have FEW := Lib.hid few
    have TG : Hid (∀ m ∈ s.ms, m.t.tags.length ≤ 8) := Lib.hid fun m hm => LTS.out.few m.t (List.mem_map.2 ⟨m, hm, rfl⟩)
    have CT := Lib.hid (canonT_c (c := s.c) (c2 := s.c2) S3.out.s.l S3.out.s.k rfl rfl (by omega) (by omega) (fun m hm => by have := TG.out m hm; omega))
    clear few
    go_wp2_with fail
    refine CT.out.mono ?_
    rintro e w7 ⟨m, rfl, hm, hms, h7⟩
    unfold MSt.val
    have HM : Hid (m.st = T9.canon s.st) := Lib.hid hms
    have ML : Hid m.st.light := Lib.hid (by rw [hms]; exact T9.canon_light LTS.out)
    have MO : Hid m.st.ok := Lib.hid (by rw [hms]; exact T9.canon_ok KS.out)
    have MF : Hid (m.ls.length ≤ 25 ∧ m.ms.length ≤ 70) := Lib.hid ⟨ML.out.nl, by have := ML.out.nt; unfold MSt.st at this; rw [tks_len] at this; exact this⟩
    have MT : Hid (∀ q ∈ m.ms, q.t.tags.length ≤ 8) := Lib.hid fun q hq => ML.out.few q.t (List.mem_map.2 ⟨q, hq, rfl⟩)
    obtain ⟨w8, hw8⟩ : ∃ u, w7.alloc (.cells #[.slice m.A m.ls.length m.c, .slice m.A2 m.ms.length m.c2] 25) = u := ⟨_, rfl⟩
    obtain ⟨pb8, b8, z8⟩ := new_two hw8
    have h8 := Lib.hid (h7.trans (b8.mono h7.size))
    have S8 := Lib.hid (S3.out.stay h8.out)
    have M8 : Hid (SBox m w7.heap.size w8) := Lib.hid ⟨pb8, hm.stay b8⟩
    have B8 := Lib.hid (B3.out.trans (h8.out.mono B3.out.size))
    obtain ⟨r, hr⟩ : ∃ r, T9.rightE ⟨s.ls, tks s.ms⟩ = r := ⟨_, rfl⟩
    have HR := Lib.hid hr
    have lb : (r == r) = true := beq_self_eq_true _
    clear h7 hm hms pb8 b8 z8 x0 x1 hr
    go_wp2_with fail
    refine wp_region_held_drew (S := fun u => Below w8.heap.size w8 u) (by kernel_rfl) ((Below.refl _ _).drew) (fun S0 => ?_)
    refine wpAnyH_take (i := 0) (v := ?_) rfl (by kernel_rfl) (by kernel_rfl) (by kernel_rfl) (fun _ _ _ h => h) (Or.inl ⟨by rfl, ?_⟩) S0 ?_
    rotate_left
    · intro u hu
      obtain ⟨x0, x1⟩ := (S8.out.stay hu).cells
      go_simp
      try rfl
    try simp only [Act.put, List.setIfInBounds_toArray, List.set_cons_zero, List.set_cons_succ, List.getElem_toArray, List.getElem_cons_zero, List.getElem_cons_succ]
    refine wpAnyH_take (i := 2) (v := ?_) rfl (by kernel_rfl) (by kernel_rfl) (by kernel_rfl) (fun _ _ _ h => h) (Or.inl ⟨by rfl, ?_⟩) S0 ?_
    rotate_left
    · intro u hu
      obtain ⟨x0, x1⟩ := (S8.out.stay hu).cells
      go_simp
      try rfl
    try simp only [Act.put, List.setIfInBounds_toArray, List.set_cons_zero, List.set_cons_succ, List.getElem_toArray, List.getElem_cons_zero, List.getElem_cons_succ]
    refine anyH_one9 (i := 1) (by kernel_rfl) rfl (fun K hK => ?_)
    go_simp
    refine (right_c (S8.out.stay S0).s.l (S8.out.stay S0).s.k rfl rfl LTS.out.short ⟨(S8.out.stay S0).s.lc, (S8.out.stay S0).s.kc⟩).mono ?_
    rintro e wa ⟨rfl, ha⟩
    rw [HR.out]
    have S1 := S0.trans (ha.mono S0.size)
    clear ha
    refine hK _ _ S1 ?_
    clear hK K S0
    have S0 := S1
    clear S1
    try simp only [Act.put, List.setIfInBounds_toArray, List.set_cons_zero, List.set_cons_succ, List.getElem_toArray, List.getElem_cons_zero, List.getElem_cons_succ]
    refine anyH_one9 (i := 3) (by kernel_rfl) rfl (fun K hK => ?_)
    go_simp
    refine (refRight_c (S8.out.stay S0).s.l (S8.out.stay S0).s.k rfl rfl LTS.out.short).mono ?_
    rintro e wb ⟨rfl, ha⟩
    rw [HR.out]
    have S1 := S0.trans (ha.mono S0.size)
    clear ha
    refine hK _ _ S1 ?_
    clear hK K S0
    have S0 := S1
    clear S1
    try simp only [Act.put, List.setIfInBounds_toArray, List.set_cons_zero, List.set_cons_succ, List.getElem_toArray, List.getElem_cons_zero, List.getElem_cons_succ]
    refine wpAnyH_take (i := 4) (v := ?_) rfl (by kernel_rfl) (by kernel_rfl) (by kernel_rfl) (fun _ _ _ h => h) (Or.inl ⟨by rfl, ?_⟩) S0 ?_
    rotate_left
    · intro u hu
      go_simp
      try rfl
    try simp only [Act.put, List.setIfInBounds_toArray, List.set_cons_zero, List.set_cons_succ, List.getElem_toArray, List.getElem_cons_zero, List.getElem_cons_succ]
    refine wpAnyH_take (i := 5) (v := ?_) rfl (by kernel_rfl) (by kernel_rfl) (by kernel_rfl) (fun _ _ _ h => h) (Or.inl ⟨by rfl, ?_⟩) S0 ?_
    rotate_left
    · intro u hu
      go_simp
      try rfl
    try simp only [Act.put, List.setIfInBounds_toArray, List.set_cons_zero, List.set_cons_succ, List.getElem_toArray, List.getElem_cons_zero, List.getElem_cons_succ]
    refine wpAnyH_take (i := 6) (v := ?_) rfl (by kernel_rfl) (by kernel_rfl) (by kernel_rfl) (fun _ _ _ h => h) (Or.inl ⟨by rfl, ?_⟩) S0 ?_
    rotate_left
    · intro u hu
      obtain ⟨y0, y1⟩ := (M8.out.stay hu).cells
      go_simp
      try rfl
    try simp only [Act.put, List.setIfInBounds_toArray, List.set_cons_zero, List.set_cons_succ, List.getElem_toArray, List.getElem_cons_zero, List.getElem_cons_succ]
    refine wpAnyH_take (i := 7) (v := ?_) rfl (by kernel_rfl) (by kernel_rfl) (by kernel_rfl) (fun _ _ _ h => h) (Or.inl ⟨by rfl, ?_⟩) S0 ?_
    rotate_left
    · intro u hu
      obtain ⟨x0, x1⟩ := (S8.out.stay hu).cells
      go_simp
      try rfl
    try simp only [Act.put, List.setIfInBounds_toArray, List.set_cons_zero, List.set_cons_succ, List.getElem_toArray, List.getElem_cons_zero, List.getElem_cons_succ]
    refine anyH_one9 (i := 8) (by kernel_rfl) rfl (fun K hK => ?_)
    go_simp
    refine (canonR_c (S8.out.stay S0).s.l (S8.out.stay S0).s.k rfl rfl (by have := FEW.out; omega) (by have := FEW.out; omega) (fun q hq => by have := TG.out q hq; omega)).mono ?_
    rintro e wc ⟨m2, rfl, hm2, hms2, ha⟩
    unfold MSt.val
    have HM2 : Hid (m2.st = T9.canon s.st) := Lib.hid hms2
    have SM2 := Lib.hid hm2
    have BC := Lib.hid (S0.trans (ha.mono S0.size))
    have S1 := BC.out
    clear ha hm2 hms2
    refine hK _ _ S1 ?_
    clear hK K S0
    have S0 := S1
    clear S1
    try simp only [Act.put, List.setIfInBounds_toArray, List.set_cons_zero, List.set_cons_succ, List.getElem_toArray, List.getElem_cons_zero, List.getElem_cons_succ]
    refine anyH_one9 (i := 9) (by kernel_rfl) rfl (fun K hK => ?_)
    go_simp
    refine (refSameSt_c (a := m) (b := m2) (M8.out.stay S0).s SM2.out ML.out.short (by rw [HM2.out, ← HM.out]; exact ML.out.short) MO.out (by rw [HM2.out, ← HM.out]; exact MO.out)).mono ?_
    rintro e wd ⟨he, ha⟩
    rw [HM2.out, HM.out, T9.same_refl] at he
    subst he
    have S1 := S0.trans (ha.mono S0.size)
    clear ha
    refine hK _ _ S1 ?_
    clear hK K S0
    have S0 := S1
    clear S1
    try simp only [Act.put, List.setIfInBounds_toArray, List.set_cons_zero, List.set_cons_succ, List.getElem_toArray, List.getElem_cons_zero, List.getElem_cons_succ]
    refine wpAnyH_take (i := 10) (v := ?_) rfl (by kernel_rfl) (by kernel_rfl) (by kernel_rfl) (fun _ _ _ h => h) (Or.inl ⟨by rfl, ?_⟩) S0 ?_
    rotate_left
    · intro u hu
      go_simp
      try rfl
    try simp only [Act.put, List.setIfInBounds_toArray, List.set_cons_zero, List.set_cons_succ, List.getElem_toArray, List.getElem_cons_zero, List.getElem_cons_succ]
    refine wpAnyH_take (i := 11) (v := ?_) rfl (by kernel_rfl) (by kernel_rfl) (by kernel_rfl) (fun _ _ _ h => h) (Or.inl ⟨by rfl, ?_⟩) S0 ?_
    rotate_left
    · intro u hu
      go_simp
      try rfl
    try simp only [Act.put, List.setIfInBounds_toArray, List.set_cons_zero, List.set_cons_succ, List.getElem_toArray, List.getElem_cons_zero, List.getElem_cons_succ]
    refine wpAnyH_take (i := 12) (v := ?_) rfl (by kernel_rfl) (by kernel_rfl) (by kernel_rfl) (fun _ _ _ h => h) (Or.inl ⟨by rfl, ?_⟩) S0 ?_
    rotate_left
    · intro u hu
      obtain ⟨y0, y1⟩ := (M8.out.stay hu).cells
      go_simp
      try rfl
    try simp only [Act.put, List.setIfInBounds_toArray, List.set_cons_zero, List.set_cons_succ, List.getElem_toArray, List.getElem_cons_zero, List.getElem_cons_succ]
    refine wpAnyH_take (i := 14) (v := ?_) rfl (by kernel_rfl) (by kernel_rfl) (by kernel_rfl) (fun _ _ _ h => h) (Or.inl ⟨by rfl, ?_⟩) S0 ?_
    rotate_left
    · intro u hu
      obtain ⟨y0, y1⟩ := (M8.out.stay hu).cells
      go_simp
      try rfl
    try simp only [Act.put, List.setIfInBounds_toArray, List.set_cons_zero, List.set_cons_succ, List.getElem_toArray, List.getElem_cons_zero, List.getElem_cons_succ]
    refine anyH_one9 (i := 13) (by kernel_rfl) rfl (fun K hK => ?_)
    go_simp
    refine (canonT_c (M8.out.stay S0).s.l (M8.out.stay S0).s.k rfl rfl (by have := MF.out; omega) (by have := MF.out; omega) (fun q hq => by have := MT.out q hq; omega)).mono ?_
    rintro e we ⟨m3, rfl, hm3, hms3, ha⟩
    unfold MSt.val
    have HM3 : Hid (m3.st = T9.canon s.st) := Lib.hid (hms3.trans (by show T9.canon m.st = _; rw [HM.out, T9.canon_canon]))
    have SM3 := Lib.hid hm3
    have S1 := S0.trans (ha.mono S0.size)
    clear ha hm3 hms3
    refine hK _ _ S1 ?_
    clear hK K S0
    have S0 := S1
    clear S1
    try simp only [Act.put, List.setIfInBounds_toArray, List.set_cons_zero, List.set_cons_succ, List.getElem_toArray, List.getElem_cons_zero, List.getElem_cons_succ]
    refine anyH_one9 (i := 15) (by kernel_rfl) rfl (fun K hK => ?_)
    go_simp
    refine (refSameSt_c (a := m3) (b := m) SM3.out (M8.out.stay S0).s (by rw [HM3.out, ← HM.out]; exact ML.out.short) ML.out.short (by rw [HM3.out, ← HM.out]; exact MO.out) MO.out).mono ?_
    rintro e wf ⟨he, ha⟩
    rw [HM3.out, HM.out, T9.same_refl] at he
    subst he
    have S1 := S0.trans (ha.mono S0.size)
    have BD := Lib.hid S1
    clear ha
    refine hK _ _ S1 ?_
    clear hK K S0
    have S0 := S1
    clear S1
    try simp only [Act.put, List.setIfInBounds_toArray, List.set_cons_zero, List.set_cons_succ, List.getElem_toArray, List.getElem_cons_zero, List.getElem_cons_succ]
    refine wpAnyH_take (i := 16) (v := ?_) rfl (by kernel_rfl) (by kernel_rfl) (by kernel_rfl) (fun _ _ _ h => h) (Or.inl ⟨by rfl, ?_⟩) S0 ?_
    rotate_left
    · intro u hu
      go_simp
      try rfl
    try simp only [Act.put, List.setIfInBounds_toArray, List.set_cons_zero, List.set_cons_succ, List.getElem_toArray, List.getElem_cons_zero, List.getElem_cons_succ]
    refine wpAnyH_take (i := 17) (v := ?_) rfl (by kernel_rfl) (by kernel_rfl) (by kernel_rfl) (fun _ _ _ h => h) (Or.inl ⟨by rfl, ?_⟩) S0 ?_
    rotate_left
    · intro u hu
      go_simp
      try rfl
    try simp only [Act.put, List.setIfInBounds_toArray, List.set_cons_zero, List.set_cons_succ, List.getElem_toArray, List.getElem_cons_zero, List.getElem_cons_succ]
    refine wpAnyH_done (by kernel_rfl) ?_ _
    clear S0
    go_wp2
    go_ret
    exact ⟨rfl, B8.out.trans (BD.out.mono B8.out.size)⟩
end Go.Proofs.Ytbgdmmemahfpbaa
