import Derived.Test.YtcedlgedmkghgaaZ32
namespace Go.Proofs.Ytcedlgedmkghgaa
set_option maxHeartbeats 16000000
open Go.Lib
set_option linter.unusedSimpArgs false
set_option maxRecDepth 100000
section
open Go.RowKit Go.Lib
theorem cchkD_c {k:Int} {id list f:Nat} {text:List UInt8} {flag:Bool} {w:World} (hk:k=11∨k=12∨k=13) (ht:text.length≤1000000):Calls Try.prog 73 #[.agg #[.int .i64 k,.int .u64 (id:Int),.int .u64 (list:Int),.string (str text),.float .f64 f,.bool flag]] w fun e w'=>e=.returned (.int .i64 (T9.aM ⟨k,id,list,text,f,flag⟩))∧Below w.heap.size w w':=by
 obtain⟨V,hV⟩:∃ v,T9.aM ⟨k,id,list,text,f,flag⟩=v:=⟨_,rfl⟩
 rw [hV]
 obtain⟨c1,hc1⟩:∃ b,T9.j6 f=b:=⟨_,rfl⟩
 obtain⟨c2,hc2⟩:∃ b,T9.title text=b:=⟨_,rfl⟩
 obtain⟨c3,hc3⟩:∃ b,T9.tag text=b:=⟨_,rfl⟩
 obtain⟨w1,hw1⟩:∃ u,w.alloc (.cells #[.int .i64 k,.int .u64 (id:Int),.int .u64 (list:Int),.string (str text),.float .f64 f,.bool flag] 49)=u:=⟨_,rfl⟩
 obtain⟨pb,b1,z1⟩:=bu hw1
 obtain⟨p0,p1,p2,p3,p4,p5⟩:=au pb
 have IC:=hid fun W=>fZ f W
 have TC:=hid fun W=>gW text ht W
 have GC:=hid fun W=>ql text ht W
 have CL:=hid fun W=>bK f W
 rw [hc1] at IC
 rw [hc2] at TC
 rw [hc3] at GC
 have PB:=hid pb
 have B0:=hid b1
 have HC1:=hid hc1
 have HC2:=hid hc2
 have HC3:=hid hc3
 have HV:=hid hV
 clear pb b1 z1 ht hc1 hc2 hc3 hV
 rcases hk with rfl | rfl | rfl
 have NM:=hid (uA w1)
 obtain⟨w2,hw2,q0,⟨r0,r1,r2,r3,r4,r5⟩,B1⟩:=fJ 4 PB.out B0.out
 obtain⟨N1,N2,N4,N6,N8,iI,iJ,iK,iL,dC⟩:=fK (b1:=false) (b2:=false) (b4:=true) (b6:=true) (b8:=false) (b16:=false) (qE:=false) (b32:=false) (qF:=false) (iA:=false) q0 (by kernel_rfl)
 go_enter Try.func73,Try.ntmps73
 go_wp2_with (go_at_call 87;refine NM.out.mono ?_;rintro e w' ⟨rfl,rfl⟩)
 rcases aV c1 with rfl | rfl
 rotate_left
 go_wp2_with (((go_at_call 89;refine (IC.out _).mono ?_));rintro e w' ⟨rfl,rfl⟩)
 rcases (bJ list).symm with⟨ji,j3,jY⟩ | ⟨ji,j3,jY⟩
 rotate_left
 go_wp2_with ((first | (with_reducible refine N1.out.mono ?_) | (with_reducible refine N6.out.mono ?_));rintro e w' ⟨rfl,rfl⟩)
 rcases (jS text).symm with⟨zt,te,te2⟩ | ⟨zt,te,te2⟩
 rotate_left
 go_wp2_with (((with_reducible refine iJ.out.mono ?_));rintro e w' ⟨rfl,rfl⟩)
 rcases iY (Fl.kP f 0) with⟨zf,yf⟩ | ⟨zf,yf⟩
 rotate_left
 go_wp2_with (((with_reducible refine iL.out.mono ?_));rintro e w' ⟨rfl,rfl⟩)
 rcases (aV flag).symm with rfl | rfl
 rotate_left
 go_wp2_with ((first | (with_reducible refine dC.out.mono ?_) | (with_reducible refine N1.out.mono ?_) | (with_reducible refine N2.out.mono ?_));rintro e w' ⟨rfl,rfl⟩)
 rcases bJ id with⟨jh,jZ,jX⟩ | ⟨jh,jZ,jX⟩
 rotate_left
 go_wp2_with ((first | (with_reducible refine N4.out.mono ?_) | (with_reducible refine N8.out.mono ?_) | (go_at_call 56;refine (TC.out _).mono ?_) | (with_reducible refine iI.out.mono ?_) | (go_at_call 90;refine (GC.out _).mono ?_) | (with_reducible refine iK.out.mono ?_) | (go_at_call 77;refine (CL.out _).mono ?_));rintro e w' ⟨rfl,rfl⟩)
 rotate_left
 have NM:=hid (uB w1)
 obtain⟨w2,hw2,q0,⟨r0,r1,r2,r3,r4,r5⟩,B1⟩:=fJ 1 PB.out B0.out
 obtain⟨N1,N2,N4,N6,N8,iI,iJ,iK,iL,dC⟩:=fK (b1:=true) (b2:=false) (b4:=false) (b6:=false) (b8:=false) (b16:=false) (qE:=false) (b32:=false) (qF:=false) (iA:=false) q0 (by kernel_rfl)
 go_enter Try.func73,Try.ntmps73
 go_wp2_with (go_at_call 87;refine NM.out.mono ?_;rintro e w' ⟨rfl,rfl⟩)
 rcases aV c1 with rfl | rfl
 rotate_left
 go_wp2_with ((first | (go_at_call 89;refine (IC.out _).mono ?_) | (with_reducible refine N1.out.mono ?_));rintro e w' ⟨rfl,rfl⟩)
 rcases (bJ id).symm with⟨jh,jZ,jX⟩ | ⟨jh,jZ,jX⟩
 rotate_left
 go_wp2_with (((with_reducible refine N6.out.mono ?_));rintro e w' ⟨rfl,rfl⟩)
 rcases (jS text).symm with⟨zt,te,te2⟩ | ⟨zt,te,te2⟩
 rotate_left
 go_wp2_with (((with_reducible refine iJ.out.mono ?_));rintro e w' ⟨rfl,rfl⟩)
 rcases iY (Fl.kP f 0) with⟨zf,yf⟩ | ⟨zf,yf⟩
 rotate_left
 go_wp2_with (((with_reducible refine iL.out.mono ?_));rintro e w' ⟨rfl,rfl⟩)
 rcases (aV flag).symm with rfl | rfl
 rotate_left
 go_wp2_with (((with_reducible refine dC.out.mono ?_));rintro e w' ⟨rfl,rfl⟩)
 rcases bJ list with⟨ji,j3,jY⟩ | ⟨ji,j3,jY⟩
 rotate_left
 go_wp2_with ((first | (with_reducible refine N1.out.mono ?_) | (with_reducible refine N2.out.mono ?_) | (with_reducible refine N4.out.mono ?_) | (with_reducible refine N8.out.mono ?_) | (go_at_call 56;refine (TC.out _).mono ?_) | (with_reducible refine iI.out.mono ?_) | (go_at_call 90;refine (GC.out _).mono ?_) | (with_reducible refine iK.out.mono ?_) | (go_at_call 77;refine (CL.out _).mono ?_));rintro e w' ⟨rfl,rfl⟩)
 rotate_left
 have NM:=hid (uC w1)
 obtain⟨w2,hw2,q0,⟨r0,r1,r2,r3,r4,r5⟩,B1⟩:=fJ 1 PB.out B0.out
 obtain⟨N1,N2,N4,N6,N8,iI,iJ,iK,iL,dC⟩:=fK (b1:=true) (b2:=false) (b4:=false) (b6:=false) (b8:=false) (b16:=false) (qE:=false) (b32:=false) (qF:=false) (iA:=false) q0 (by kernel_rfl)
 go_enter Try.func73,Try.ntmps73
 go_wp2_with (go_at_call 87;refine NM.out.mono ?_;rintro e w' ⟨rfl,rfl⟩)
 rcases aV c1 with rfl | rfl
 rotate_left
 go_wp2_with ((first | (go_at_call 89;refine (IC.out _).mono ?_) | (with_reducible refine N1.out.mono ?_));rintro e w' ⟨rfl,rfl⟩)
 rcases (bJ id).symm with⟨jh,jZ,jX⟩ | ⟨jh,jZ,jX⟩
 rotate_left
 go_wp2_with (((with_reducible refine N6.out.mono ?_));rintro e w' ⟨rfl,rfl⟩)
 rcases (jS text).symm with⟨zt,te,te2⟩ | ⟨zt,te,te2⟩
 rotate_left
 go_wp2_with (((with_reducible refine iJ.out.mono ?_));rintro e w' ⟨rfl,rfl⟩)
 rcases iY (Fl.kP f 0) with⟨zf,yf⟩ | ⟨zf,yf⟩
 rotate_left
 go_wp2_with (((with_reducible refine iL.out.mono ?_));rintro e w' ⟨rfl,rfl⟩)
 rcases (aV flag).symm with rfl | rfl
 rotate_left
 go_wp2_with (((with_reducible refine dC.out.mono ?_));rintro e w' ⟨rfl,rfl⟩)
 rcases bJ list with⟨ji,j3,jY⟩ | ⟨ji,j3,jY⟩
 rotate_left
 go_wp2_with ((first | (with_reducible refine N1.out.mono ?_) | (with_reducible refine N2.out.mono ?_) | (with_reducible refine N4.out.mono ?_) | (with_reducible refine N8.out.mono ?_) | (go_at_call 56;refine (TC.out _).mono ?_) | (with_reducible refine iI.out.mono ?_) | (go_at_call 90;refine (GC.out _).mono ?_) | (with_reducible refine iK.out.mono ?_) | (go_at_call 77;refine (CL.out _).mono ?_));rintro e w' ⟨rfl,rfl⟩)
 rotate_left
 all_goals
  try go_wp2_with ((first | (go_at_call 89;refine (IC.out _).mono ?_) | (with_reducible refine N1.out.mono ?_) | (with_reducible refine N2.out.mono ?_) | (with_reducible refine N4.out.mono ?_) | (with_reducible refine N6.out.mono ?_) | (with_reducible refine N8.out.mono ?_) | (with_reducible refine iI.out.mono ?_) | (with_reducible refine iJ.out.mono ?_) | (with_reducible refine iK.out.mono ?_) | (with_reducible refine iL.out.mono ?_) | (with_reducible refine dC.out.mono ?_) | (go_at_call 56;refine (TC.out _).mono ?_) | (go_at_call 90;refine (GC.out _).mono ?_) | (go_at_call 77;refine (CL.out _).mono ?_));rintro e w' ⟨rfl,rfl⟩)
  go_ret
  have hV:=HV.out
  have q1:=HC1.out
  have q2:=HC2.out
  have q3:=HC3.out
  try have z1:=jh.out
  try have z2:=ji.out
  try have z3:=zt.out
  simp [T9.aM,T9.extra,T9.nId,T9.jO,T9.jP,T9.nF,T9.pI,T9.ofL,T9.nS, *] at hV
  subst hV
  exact⟨rfl,B1.out⟩
end
end Go.Proofs.Ytcedlgedmkghgaa
