/- The law WireBack: the row. Every input,no condition. -/
import Derived.Test.YtcedlgedmkghgaaZ46
import Derived.Test.YtcedlgedmkghgaaZ49
import Derived.Test.YtcedlgedmkghgaaZ50
import Derived.Test.YtcedlgedmkghgaaZ22
import Derived.Test.YtcedlgedmkghgaaZ23
import Derived.Test.YtcedlgedmkghgaaZ39
import Derived.ProofKit
namespace Go.Proofs.Ytcedlgedmkghgaa
set_option maxHeartbeats 16000000
open Go.Lib
set_option linter.unusedSimpArgs false
set_option maxRecDepth 100000
section
section
open Go.RowKit Go.Lib
theorem rT {m:dL} {w:World} (h:WM m w) (hf:m.fit) :
  Calls Try.prog 3 #[m.val] w fun e w'=>e=.returned (.bool true)∧Below w.heap.size w w':=by
 obtain⟨w1,hw1⟩:∃ u,w.alloc (.cells #[.int .i64 m.kind,.int .u64 (m.line:Int),.int .u64 (m.aQ:Int),.int .u64 (m.bZ:Int),.int .u64 (m.cu:Int),.slice m.A m.is.length m.c,.slice m.A1 m.las.length m.c1,.slice m.s.A m.s.ls.length m.s.c,.slice m.s.A2 m.s.ms.length m.s.c2] 30)=u:=⟨_,rfl⟩
 obtain⟨lb,b1,_⟩:=bF hw1
 have B1:=hid b1
 have LB:=hid lb
 have H1:=hid (h.stay b1)
 have AW:=hid (tT w1)
 have LT:∀ u,Below w1.heap.size w1 u→Hid (Calls Try.prog 5 #[m.val] u (ve m u)):=fun u hu=>hid (qY (H1.out.stay hu) hf)
 have HF:=hid hf
 have KT:=hid LT
 unfold dL.val at KT
 clear LT lb b1 h hf
 unfold dL.val
 go_enter Try.func3,Try.ntmps3
 go_wp2_with fail
 refine AW.out.mono ?_
 rintro e w2 ⟨rfl,c2⟩
 have C2:=hid c2
 obtain⟨l0,l1,l2,l3,l4,l5,l6,l7,l8⟩:=ai (ak LB.out c2)
 clear c2
 go_wp2_with fail
 refine (KT.out w2 C2.out).out.mono ?_
 rintro e w3 ⟨b,rfl,hb,c3⟩
 have C3:=hid (C2.out.trans (c3.mono C2.out.size))
 have HB:=hid hb
 clear hb c3 l0 l1 l2 l3 l4 l5 l6 l7 l8
 cases b
 ·go_wp2
  go_ret
  exact⟨rfl,B1.out.trans (C3.out.mono B1.out.size)⟩
 have FE:=hid (HB.out (by simp))
 have SH:Hid m.s.st.short:=hid FE.out.s.short
 obtain⟨l0,l1,l2,l3,l4,l5,l6,l7,l8⟩:=ai (ak LB.out C3.out)
 have PU:=hid (sS (H1.out.stay C3.out) HF.out.ok FE.out.t SH.out (Nat.le_trans H1.out.ic HF.out.ic) (Nat.le_trans H1.out.ac HF.out.ac))
 unfold iM dL.val at PU
 by_cases hok:T9.okW m.mg=true
 case neg =>
  have V:T9.bU m.mg=150:=by unfold T9.bU;rw [if_neg hok]
  rw [if_neg hok,V] at PU
  clear hok V
  go_wp2_with fail
  refine PU.out.mono ?_
  rintro e w4 ⟨A4,n4,c4,rfl,hn4,-,-,hb4⟩
  have C4:=hid (C3.out.trans (hb4.mono C3.out.size))
  replace hn4:n4=0:=hn4
  subst hn4
  clear hb4
  go_wp2
  go_ret
  exact⟨ag (by simp),B1.out.trans (C4.out.mono B1.out.size)⟩
 have V:T9.bU m.mg=0:=by unfold T9.bU;rw [if_pos hok]
 have BK:=hid (T9.wT HF.out.ok hok)
 have LW:=hid (T9.nz hok)
 rw [if_pos hok,V] at PU
 clear hok V
 go_wp2_with fail
 refine PU.out.mono ?_
 rintro e w4 ⟨A4,n4,c4,rfl,hn4,hc4,vY,hb4⟩
 have C4:=hid (C3.out.trans (hb4.mono C3.out.size))
 have OF:=hid (xY (aB (B:=0) (t:=5) vY) hn4 hc4 (by rw [hn4,Fr.eG];have:=LW.out;omega) (Nat.zero_le _))
 clear hn4 hc4 vY hb4 l0 l1 l2 l3 l4 l5 l6 l7 l8
 go_wp2_with fail
 refine OF.out.mono ?_
 rintro e w5 ⟨m2,rfl,hm2,uY,hb5⟩
 rw [BK.out] at uY ⊢
 have C5:=hid (C4.out.trans (hb5.mono C4.out.size))
 obtain⟨w6,hw6⟩:∃ u,w5.alloc (.cells #[.int .i64 m2.kind,.int .u64 (m2.line:Int),.int .u64 (m2.aQ:Int),.int .u64 (m2.bZ:Int),.int .u64 (m2.cu:Int),.slice m2.A m2.is.length m2.c,.slice m2.A1 m2.las.length m2.c1,.slice m2.s.A m2.s.ls.length m2.s.c,.slice m2.s.A2 m2.s.ms.length m2.s.c2] 30)=u:=⟨_,rfl⟩
 obtain⟨qb,b6,_⟩:=bF hw6
 have C6:=hid (C5.out.trans (b6.mono C5.out.size))
 obtain⟨q0,q1,q2,q3,q4,q5,q6,q7,q8⟩:=ai qb
 obtain⟨l0,l1,l2,l3,l4,l5,l6,l7,l8⟩:=ai (ak LB.out C6.out)
 replace uY:m2.mg=m.mg:=uY
 have RS9:=hid (qa (w:=w6) (hm2.stay b6).wm (H1.out.stay C6.out) (by rw [uY];exact HF.out.ok) HF.out.ok (by have:=congrArg Mg.st uY;have e:m2.s.st=m.s.st:=this;rw [e];exact SH.out) SH.out (by have:=congrArg Mg.items uY;have e:m2.is=m.is:=this;rw [e];have:=FE.out.i;omega) (by have:=congrArg Mg.lasts uY;have e:m2.las=m.las:=this;rw [e];have:=FE.out.a;omega))
 rw [uY,T9.rH] at RS9
 unfold dL.val at RS9 ⊢
 clear hm2 uY hb5 qb b6
 go_wp2_with fail
 refine RS9.out.mono ?_
 rintro e w7 ⟨rfl,c7⟩
 have C7:=hid (C6.out.trans (c7.mono C6.out.size))
 clear c7
 go_wp2
 go_ret
 exact⟨ag (by simp),B1.out.trans (C7.out.mono B1.out.size)⟩
end
end
section
open Go.ChangeShapes Go.WideShapes Go.ChangeAt Go.RowKit
theorem jW (os:Os) (started:os.Started) (H:Type) (enc:TypeId × Value→H) :
  ReturnsInHanded {} Try.checked os 3 .any (Rows.wireBackSpec.pre6 enc Try.prog Try.f3 Rows.wireBackRow.domain false) (Rows.wireBackSpec.post enc Try.prog Try.f3 false true false false):=by
 refine returnsInHanded_of_change (C:=Try.checked) Try.own2 started (by kernel_rfl) Try.func3
  (ChangeSpec.witness6 (enc:=enc) (C:=Try.checked) false ⟨#[],#[.agg #[.int .i64 0,.int .u64 0,.int .u64 0,.int .u64 0,.int .u64 0,.slice none 0 0,.slice none 0 0,.slice none 0 0,.slice none 0 0]],[]⟩ 8 (by kernel_rfl) (by kernel_rfl) (by kernel_rfl) (by kernel_rfl)) ?_
 intro W base args ds gs before hval0 hW hcnd _
 have hval:∀ (j:Nat) t v,Try.f3.params[j]?=some t→args[j]?=some v→Value.okWide Try.prog W .any base t v:=hval0
 have hW':=hW
 obtain⟨p,q,hA0,hV,rfl,hfz,hnd⟩:=hW
 have hA:DataW.TrodAll enc Try.prog W 0 (fun _=>true) true Try.f3.params.toList args.toList ds p:=hA0
 rw [Try.params3] at hA hval
 obtain⟨v0,d0,rfl,rfl,h0⟩:=trodAll_one hA
 obtain⟨m0,e0,hs0,hf0⟩:=rq (hval 0 30 v0 rfl rfl) h0
 subst e0
 refine (rT hs0 hf0).mono fun e W' ⟨he,hw⟩=>?_
 subst he
 refine⟨_,rfl,xg (tb:=4) Try.laidOut2 ?_ rfl (by kernel_rfl) Try.underlying4 hW' hw ?_ ?_ ?_⟩
 ·intro t ht
  rw [Try.params3] at ht
  simp at ht
  subst ht
  all_goals exact⟨by kernel_rfl,of_decide_eq_true (by kernel_rfl)⟩
 all_goals
  obtain⟨rfl,rfl⟩:=trodVars_none hV
  rfl
theorem wireBack_holds:Rows.WireBackSaid :=
 OpenClaim.holds_of_wide 3 Try.f3 rfl rfl rfl rfl rfl rfl rfl ⟨rfl,rfl,rfl,rfl,rfl⟩ rfl rfl rfl rfl rfl (by kernel_rfl) Try.func3 (by kernel_rfl)
  (of_decide_eq_true (by kernel_rfl)) (by unfold Func.isWrapper;first | (rw [if_pos (by decide +kernel)];kernel_rfl) | (rw [if_neg (by decide +kernel)];exact⟨rfl,rfl⟩))
  (fun os started H enc _=>jW os started H enc)
end
end Go.Proofs.Ytcedlgedmkghgaa
