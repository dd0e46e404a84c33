/- Stage 11: the walk of MutateRight (written by wip/gen11.py). -/
import Derived.Test.YtjaaehbllkbiaaaGreatMf
import Derived.Test.YtjaaehbllkbiaaaGreatTaa
namespace Go.Proofs.YtjaaehbllkbiaaaGreat
open Go.RowKit Go.Lib
set_option maxRecDepth 100000

set_option linter.unusedSimpArgs false in
set_option maxHeartbeats 4000000 in
set_option maxRecDepth 100000 in
theorem mutateRight_c {s : MSt} {m : T9.Mu} {w : World} (hs : SM s w) (ks : s.st.ok) (fs : s.far) (km : m.ok) :
  Calls Tryz.prog 4 #[s.val, m.val] w fun e w' => e = .returned (.bool true) ∧ Below w.heap.size w w' := by
 obtain ⟨w0, hw0⟩ : ∃ u, w.alloc (.cells #[.slice s.A s.ls.length s.c, .slice s.A2 s.ms.length s.c2] 25) = u := ⟨_, rfl⟩
 obtain ⟨pb0, b0, z0⟩ := new_two hw0
 obtain ⟨w1, hw1⟩ : ∃ u, w0.alloc (.cells #[.int .i64 m.kind, .int .u64 (m.id : Int), .int .u64 (m.list : Int), .string (str m.text), .float .f64 m.f, .bool m.flag] 29) = u := ⟨_, rfl⟩
 obtain ⟨pb1, b1, z1⟩ := new_six11 hw1
 have B1 : Hid (Below w.heap.size w w1) := Lib.hid (b0.trans (b1.mono (by omega)))
 have S1 : Hid (SBox s w.heap.size w1) := Lib.hid ⟨blk_keep pb0 b1, hs.stay B1.out⟩
 have M1 : Hid (MBox m w0.heap.size w1) := Lib.hid pb1
 have KS := Lib.hid ks
 have FS := Lib.hid fs
 have KM := Lib.hid km
 have AW := Lib.hid (awake11_c w1)
 unfold MSt.val T9.Mu.val
 clear hs ks fs km pb0 b0 z0 pb1 b1 z1
 go_enter Tryz.func4, Tryz.ntmps4
 go_wp2_with fail
 refine AW.out.mono ?_
 rintro e w2 ⟨rfl, h2⟩
 have S2 := Lib.hid (S1.out.stay h2)
 have M2 := Lib.hid (M1.out.stay h2)
 have B2 := Lib.hid (B1.out.trans (h2.mono B1.out.size))
 clear h2
 obtain ⟨x0, x1⟩ := S2.out.cells
 have LS := Lib.hid (light9_c (c := s.c) (c2 := s.c2) S2.out.s.l S2.out.s.k rfl rfl FS.out)
 go_wp2_with fail
 refine LS.out.mono ?_
 rintro e w3 ⟨bb, rfl, hb, h3⟩
 have S3 := Lib.hid (S2.out.stay h3)
 have M3 := Lib.hid (M2.out.stay h3)
 have B3 := Lib.hid (B2.out.trans (h3.mono B2.out.size))
 clear h3 x0 x1
 cases bb with
 | false =>
  clear hb
  go_wp2_with fail
  go_ret
  exact ⟨rfl, B3.out⟩
 | true =>
  have LTS := Lib.hid (hb rfl)
  clear hb
  obtain ⟨m0, m1, m2, m3, m4, m5⟩ := six_cells11 M3.out
  obtain ⟨lb, hlb⟩ : ∃ b, decide (m.text.length ≤ 200) = b := ⟨_, rfl⟩
  have LM := Lib.hid (light11_c (m := m) (w := w3))
  unfold T9.Mu.val at LM
  rw [hlb] at LM
  have HLB := Lib.hid hlb
  clear hlb
  go_wp2_with fail
  refine LM.out.mono ?_
  rintro e w4 ⟨rfl, h4⟩
  have S4 := Lib.hid (S3.out.stay h4)
  have M4 := Lib.hid (M3.out.stay h4)
  have B4 := Lib.hid (B3.out.trans (h4.mono B3.out.size))
  clear h4 m0 m1 m2 m3 m4 m5
  cases lb with
  | false =>
   go_wp2_with fail
   go_ret
   exact ⟨rfl, B4.out⟩
  | true =>
   have TL := Lib.hid (of_decide_eq_true HLB.out)
   obtain ⟨x0, x1⟩ := S4.out.cells
   obtain ⟨m0, m1, m2, m3, m4, m5⟩ := six_cells11 M4.out
   have AC := Lib.hid (mutApply_c S4.out.s LTS.out KS.out TL.out KM.out)
   unfold MSt.val T9.Mu.val at AC
   go_wp2_with fail
   refine AC.out.mono ?_
   rintro e w5 ⟨q, er, rfl, hq, h5, hst, her⟩
   unfold MSt.val
   obtain ⟨w6, hw6⟩ : ∃ u, w5.alloc (.cells #[.slice q.A q.ls.length q.c, .slice q.A2 q.ms.length q.c2] 25) = u := ⟨_, rfl⟩
   obtain ⟨qb, b6, z6⟩ := new_two hw6
   have h6 := h5.trans (b6.mono h5.size)
   have S6 := Lib.hid (S4.out.stay h6)
   have M6 := Lib.hid (M4.out.stay h6)
   have Q6 : Hid (SBox q w5.heap.size w6) := Lib.hid ⟨qb, hq.stay b6⟩
   have B6 := Lib.hid (B4.out.trans (h6.mono B4.out.size))
   obtain ⟨q0, q1⟩ := Q6.out.cells
   have HST := Lib.hid hst
   have HER := Lib.hid her
   clear hq h5 hst her qb b6 z6 h6 x0 x1 m0 m1 m2 m3 m4 m5
   by_cases e0 : er = 0
   ·subst e0
    obtain ⟨a1, a2, a3, a4⟩ := applyM_ok HER.out.symm
    have QR : Hid (T9.rightE ⟨q.ls, tks q.ms⟩ = 0) := Lib.hid (by
     have e : (⟨q.ls, tks q.ms⟩ : T9.St) = q.st := rfl
     rw [e, HST.out, a4]
     exact T9.doM_right a1 a2 a3)
    have RC := Lib.hid (right_c Q6.out.s.l Q6.out.s.k rfl rfl (right_short QR.out) ⟨Q6.out.s.lc, Q6.out.s.kc⟩)
    rw [QR.out] at RC
    have ez : ((0 : Int) != 0) = false := by decide
    clear a1 a2 a3 a4
    go_wp2_with fail
    refine RC.out.mono ?_
    rintro e w7 ⟨rfl, h7⟩
    have B7 := Lib.hid (B6.out.trans (h7.mono B6.out.size))
    clear h7
    go_wp2_with fail
    go_ret
    exact ⟨rfl, B7.out⟩
   ·have ez : (er != 0) = true := by simp [e0]
    have ez2 : (er == 0) = false := by simp [e0]
    have qe : q.st = ⟨[], []⟩ := by rw [HST.out]; exact applyM_bad (by rw [← HER.out]; exact e0)
    have n1 : q.ls.length = 0 := by rw [show q.ls = [] from congrArg T9.St.lists qe]; rfl
    have n2 : q.ms.length = 0 := by rw [← tks_len, show tks q.ms = [] from congrArg T9.St.tasks qe]; rfl
    rw [n1] at q0 hw6 ⊢
    rw [n2] at q1 hw6 ⊢
    clear qe n1 n2
    go_wp2_with fail
    go_ret
    exact ⟨rfl, B6.out⟩
end Go.Proofs.YtjaaehbllkbiaaaGreat
