import Derived.Test.YtdjiiknefhepdaaGreatZ43
namespace Go.Proofs.YtdjiiknefhepdaaGreat
set_option maxHeartbeats 16000000
open Go.Lib Go.Proofs.Tryz
set_option linter.unusedSimpArgs false
set_option maxRecDepth 100000
section
open Go.RowKit Go.Lib
theorem cchkC_c {k:Int} {id list f:Nat} {text:List UInt8} {flag:Bool} {w:World} (hk:k=7∨k=8∨k=9∨k=10) (ht:text.length≤1000000):Calls prog 55 #[.agg #[.int .i64 k,.int .u64 (id:Int),.int .u64 (list:Int),.string (str text),.float .f64 f,.bool flag]] w fun e w'=>e=.returned (.int .i64 (T9.bL ⟨k,id,list,text,f,flag⟩))∧Below w.heap.size w w':=by
 obtain⟨V,hV⟩:∃ v,T9.bL ⟨k,id,list,text,f,flag⟩=v:=⟨_,rfl⟩
 rw [hV]
 obtain⟨c1,hc1⟩:∃ b,T9.nC f=b:=⟨_,rfl⟩
 obtain⟨c2,hc2⟩:∃ b,T9.title text=b:=⟨_,rfl⟩
 obtain⟨c3,hc3⟩:∃ b,T9.tag text=b:=⟨_,rfl⟩
 obtain⟨w1,hw1⟩:∃ u,w.alloc (.cells #[.int .i64 k,.int .u64 (id:Int),.int .u64 (list:Int),.string (str text),.float .f64 f,.bool flag] 56)=u:=⟨_,rfl⟩
 obtain⟨pb,b1,z1⟩:=bu hw1
 obtain⟨p0,p1,p2,p3,p4,p5⟩:=ag pb
 have IC:=hid fun W=>lT f W
 have TC:=hid fun W=>nD text ht W
 have GC:=hid fun W=>yo text ht W
 have CL:=hid fun W=>fI f W
 rw [hc1] at IC
 rw [hc2] at TC
 rw [hc3] at GC
 have PB:=hid pb
 have B0:=hid b1
 have HC1:=hid hc1
 have Es:=hid hc2
 have HC3:=hid hc3
 have HV:=hid hV
 clear pb b1 z1 ht hc1 hc2 hc3 hV
 rcases hk with rfl | rfl | rfl | rfl
 have NM:=hid (Ii w1)
 obtain⟨w2,hw2,q0,⟨r0,r1,r2,r3,r4,r5⟩,B1⟩:=lK 36 PB.out B0.out
 obtain⟨N1,N2,N4,N6,N8,pg,oU,pU,pF,iT⟩:=lh (b1:=false) (b2:=false) (b4:=true) (b6:=true) (b8:=false) (b16:=false) (Ao:=false) (b32:=true) (Bf:=true) (oL:=false) q0 (by kernel_rfl)
 go_enter func55,ntmps55
 go_wp2_with (go_at_call 96;refine NM.out.mono ?_;rintro e w' ⟨rfl,rfl⟩)
 rcases dQ c1 with rfl | rfl
 rotate_left
 go_wp2_with (((go_at_call 98;refine (IC.out _).mono ?_));rintro e w' ⟨rfl,rfl⟩)
 rcases (fG list).symm with⟨iX,jF,jJ⟩ | ⟨iX,jF,jJ⟩
 rotate_left
 go_wp2_with ((first | (with_reducible refine N1.out.mono ?_) | (with_reducible refine N6.out.mono ?_));rintro e w' ⟨rfl,rfl⟩)
 rcases (qX text).symm with⟨zt,te,te2⟩ | ⟨zt,te,te2⟩
 rotate_left
 go_wp2_with ((first | (with_reducible refine oU.out.mono ?_) | (with_reducible refine pF.out.mono ?_));rintro e w' ⟨rfl,rfl⟩)
 rcases (dQ flag).symm with rfl | rfl
 rotate_left
 go_wp2_with ((first | (with_reducible refine iT.out.mono ?_) | (with_reducible refine N1.out.mono ?_) | (with_reducible refine N2.out.mono ?_));rintro e w' ⟨rfl,rfl⟩)
 rcases fG id with⟨iV,jE,jL⟩ | ⟨iV,jE,jL⟩
 rotate_left
 go_wp2_with ((first | (with_reducible refine N4.out.mono ?_) | (with_reducible refine N8.out.mono ?_) | (go_at_call 50;refine (TC.out _).mono ?_) | (with_reducible refine pg.out.mono ?_) | (go_at_call 99;refine (GC.out _).mono ?_));rintro e w' ⟨rfl,rfl⟩)
 rcases (dQ (Fl.dx f)).symm with zn | zn
 rotate_left
 go_wp2_with ((first | (with_reducible refine pU.out.mono ?_) | (go_at_call 89;refine (CL.out _).mono ?_));rintro e w' ⟨rfl,rfl⟩)
 rotate_left
 have NM:=hid (Fe w1)
 obtain⟨w2,hw2,q0,⟨r0,r1,r2,r3,r4,r5⟩,B1⟩:=lK 68 PB.out B0.out
 obtain⟨N1,N2,N4,N6,N8,pg,oU,pU,pF,iT⟩:=lh (b1:=false) (b2:=false) (b4:=true) (b6:=true) (b8:=false) (b16:=false) (Ao:=false) (b32:=false) (Bf:=true) (oL:=false) q0 (by kernel_rfl)
 go_enter func55,ntmps55
 go_wp2_with (go_at_call 96;refine NM.out.mono ?_;rintro e w' ⟨rfl,rfl⟩)
 rcases dQ c1 with rfl | rfl
 rotate_left
 go_wp2_with (((go_at_call 98;refine (IC.out _).mono ?_));rintro e w' ⟨rfl,rfl⟩)
 rcases (fG list).symm with⟨iX,jF,jJ⟩ | ⟨iX,jF,jJ⟩
 rotate_left
 go_wp2_with ((first | (with_reducible refine N1.out.mono ?_) | (with_reducible refine N6.out.mono ?_));rintro e w' ⟨rfl,rfl⟩)
 rcases (qX text).symm with⟨zt,te,te2⟩ | ⟨zt,te,te2⟩
 rotate_left
 go_wp2_with ((first | (with_reducible refine oU.out.mono ?_) | (with_reducible refine pF.out.mono ?_));rintro e w' ⟨rfl,rfl⟩)
 rcases (dQ flag).symm with rfl | rfl
 rotate_left
 go_wp2_with ((first | (with_reducible refine iT.out.mono ?_) | (with_reducible refine N1.out.mono ?_) | (with_reducible refine N2.out.mono ?_));rintro e w' ⟨rfl,rfl⟩)
 rcases fG id with⟨iV,jE,jL⟩ | ⟨iV,jE,jL⟩
 rotate_left
 go_wp2_with ((first | (with_reducible refine N4.out.mono ?_) | (with_reducible refine N8.out.mono ?_) | (go_at_call 50;refine (TC.out _).mono ?_) | (with_reducible refine pg.out.mono ?_) | (go_at_call 99;refine (GC.out _).mono ?_) | (with_reducible refine pU.out.mono ?_) | (go_at_call 89;refine (CL.out _).mono ?_));rintro e w' ⟨rfl,rfl⟩)
 rotate_left
 have NM:=hid (Hu w1)
 obtain⟨w2,hw2,q0,⟨r0,r1,r2,r3,r4,r5⟩,B1⟩:=lK 20 PB.out B0.out
 obtain⟨N1,N2,N4,N6,N8,pg,oU,pU,pF,iT⟩:=lh (b1:=false) (b2:=false) (b4:=true) (b6:=true) (b8:=false) (b16:=true) (Ao:=true) (b32:=false) (Bf:=false) (oL:=false) q0 (by kernel_rfl)
 go_enter func55,ntmps55
 go_wp2_with (go_at_call 96;refine NM.out.mono ?_;rintro e w' ⟨rfl,rfl⟩)
 rcases dQ c1 with rfl | rfl
 rotate_left
 go_wp2_with (((go_at_call 98;refine (IC.out _).mono ?_));rintro e w' ⟨rfl,rfl⟩)
 rcases (fG list).symm with⟨iX,jF,jJ⟩ | ⟨iX,jF,jJ⟩
 rotate_left
 go_wp2_with ((first | (with_reducible refine N1.out.mono ?_) | (with_reducible refine N6.out.mono ?_) | (with_reducible refine oU.out.mono ?_));rintro e w' ⟨rfl,rfl⟩)
 rcases oZ (Fl.om f 0) with⟨zf,yf⟩ | ⟨zf,yf⟩
 rotate_left
 go_wp2_with (((with_reducible refine pF.out.mono ?_));rintro e w' ⟨rfl,rfl⟩)
 rcases (dQ flag).symm with rfl | rfl
 rotate_left
 go_wp2_with ((first | (with_reducible refine iT.out.mono ?_) | (with_reducible refine N1.out.mono ?_) | (with_reducible refine N2.out.mono ?_));rintro e w' ⟨rfl,rfl⟩)
 rcases fG id with⟨iV,jE,jL⟩ | ⟨iV,jE,jL⟩
 rotate_left
 go_wp2_with ((first | (with_reducible refine N4.out.mono ?_) | (with_reducible refine N8.out.mono ?_) | (go_at_call 50;refine (TC.out _).mono ?_));rintro e w' ⟨rfl,rfl⟩)
 rcases dQ c3 with rfl | rfl
 rotate_left
 go_wp2_with ((first | (with_reducible refine pg.out.mono ?_) | (go_at_call 99;refine (GC.out _).mono ?_) | (with_reducible refine pU.out.mono ?_) | (go_at_call 89;refine (CL.out _).mono ?_));rintro e w' ⟨rfl,rfl⟩)
 rotate_left
 have NM:=hid (EI w1)
 obtain⟨w2,hw2,q0,⟨r0,r1,r2,r3,r4,r5⟩,B1⟩:=lK 20 PB.out B0.out
 obtain⟨N1,N2,N4,N6,N8,pg,oU,pU,pF,iT⟩:=lh (b1:=false) (b2:=false) (b4:=true) (b6:=true) (b8:=false) (b16:=true) (Ao:=true) (b32:=false) (Bf:=false) (oL:=false) q0 (by kernel_rfl)
 go_enter func55,ntmps55
 go_wp2_with (go_at_call 96;refine NM.out.mono ?_;rintro e w' ⟨rfl,rfl⟩)
 rcases dQ c1 with rfl | rfl
 rotate_left
 go_wp2_with (((go_at_call 98;refine (IC.out _).mono ?_));rintro e w' ⟨rfl,rfl⟩)
 rcases (fG list).symm with⟨iX,jF,jJ⟩ | ⟨iX,jF,jJ⟩
 rotate_left
 go_wp2_with ((first | (with_reducible refine N1.out.mono ?_) | (with_reducible refine N6.out.mono ?_) | (with_reducible refine oU.out.mono ?_));rintro e w' ⟨rfl,rfl⟩)
 rcases oZ (Fl.om f 0) with⟨zf,yf⟩ | ⟨zf,yf⟩
 rotate_left
 go_wp2_with (((with_reducible refine pF.out.mono ?_));rintro e w' ⟨rfl,rfl⟩)
 rcases (dQ flag).symm with rfl | rfl
 rotate_left
 go_wp2_with ((first | (with_reducible refine iT.out.mono ?_) | (with_reducible refine N1.out.mono ?_) | (with_reducible refine N2.out.mono ?_));rintro e w' ⟨rfl,rfl⟩)
 rcases fG id with⟨iV,jE,jL⟩ | ⟨iV,jE,jL⟩
 rotate_left
 go_wp2_with ((first | (with_reducible refine N4.out.mono ?_) | (with_reducible refine N8.out.mono ?_) | (go_at_call 50;refine (TC.out _).mono ?_));rintro e w' ⟨rfl,rfl⟩)
 rcases dQ c3 with rfl | rfl
 rotate_left
 go_wp2_with ((first | (with_reducible refine pg.out.mono ?_) | (go_at_call 99;refine (GC.out _).mono ?_) | (with_reducible refine pU.out.mono ?_) | (go_at_call 89;refine (CL.out _).mono ?_));rintro e w' ⟨rfl,rfl⟩)
 rotate_left
 all_goals
  try go_wp2_with ((first | (go_at_call 98;refine (IC.out _).mono ?_) | (with_reducible refine N1.out.mono ?_) | (with_reducible refine N2.out.mono ?_) | (with_reducible refine N4.out.mono ?_) | (with_reducible refine N6.out.mono ?_) | (with_reducible refine N8.out.mono ?_) | (with_reducible refine pg.out.mono ?_) | (with_reducible refine oU.out.mono ?_) | (with_reducible refine pU.out.mono ?_) | (with_reducible refine pF.out.mono ?_) | (with_reducible refine iT.out.mono ?_) | (go_at_call 50;refine (TC.out _).mono ?_) | (go_at_call 99;refine (GC.out _).mono ?_) | (go_at_call 89;refine (CL.out _).mono ?_));rintro e w' ⟨rfl,rfl⟩)
  go_ret
  have hV:=HV.out
  have q1:=HC1.out
  have q2:=Es.out
  have q3:=HC3.out
  try have z1:=iV.out
  try have z2:=iX.out
  try have z3:=zt.out
  simp [T9.bL,T9.extra,T9.nId,T9.og,T9.p9,T9.nF,T9.um,T9.ofL,T9.qK, *] at hV
  subst hV
  exact⟨rfl,B1.out⟩
end
section
open Go.RowKit Go.Lib
theorem cchkD_c {k:Int} {id list f:Nat} {text:List UInt8} {flag:Bool} {w:World} (hk:k=11∨k=12∨k=13) (ht:text.length≤1000000):Calls prog 55 #[.agg #[.int .i64 k,.int .u64 (id:Int),.int .u64 (list:Int),.string (str text),.float .f64 f,.bool flag]] w fun e w'=>e=.returned (.int .i64 (T9.bL ⟨k,id,list,text,f,flag⟩))∧Below w.heap.size w w':=by
 obtain⟨V,hV⟩:∃ v,T9.bL ⟨k,id,list,text,f,flag⟩=v:=⟨_,rfl⟩
 rw [hV]
 obtain⟨c1,hc1⟩:∃ b,T9.nC f=b:=⟨_,rfl⟩
 obtain⟨c2,hc2⟩:∃ b,T9.title text=b:=⟨_,rfl⟩
 obtain⟨c3,hc3⟩:∃ b,T9.tag text=b:=⟨_,rfl⟩
 obtain⟨w1,hw1⟩:∃ u,w.alloc (.cells #[.int .i64 k,.int .u64 (id:Int),.int .u64 (list:Int),.string (str text),.float .f64 f,.bool flag] 56)=u:=⟨_,rfl⟩
 obtain⟨pb,b1,z1⟩:=bu hw1
 obtain⟨p0,p1,p2,p3,p4,p5⟩:=ag pb
 have IC:=hid fun W=>lT f W
 have TC:=hid fun W=>nD text ht W
 have GC:=hid fun W=>yo text ht W
 have CL:=hid fun W=>fI f W
 rw [hc1] at IC
 rw [hc2] at TC
 rw [hc3] at GC
 have PB:=hid pb
 have B0:=hid b1
 have HC1:=hid hc1
 have Es:=hid hc2
 have HC3:=hid hc3
 have HV:=hid hV
 clear pb b1 z1 ht hc1 hc2 hc3 hV
 rcases hk with rfl | rfl | rfl
 have NM:=hid (Ee w1)
 obtain⟨w2,hw2,q0,⟨r0,r1,r2,r3,r4,r5⟩,B1⟩:=lK 4 PB.out B0.out
 obtain⟨N1,N2,N4,N6,N8,pg,oU,pU,pF,iT⟩:=lh (b1:=false) (b2:=false) (b4:=true) (b6:=true) (b8:=false) (b16:=false) (Ao:=false) (b32:=false) (Bf:=false) (oL:=false) q0 (by kernel_rfl)
 go_enter func55,ntmps55
 go_wp2_with (go_at_call 96;refine NM.out.mono ?_;rintro e w' ⟨rfl,rfl⟩)
 rcases dQ c1 with rfl | rfl
 rotate_left
 go_wp2_with (((go_at_call 98;refine (IC.out _).mono ?_));rintro e w' ⟨rfl,rfl⟩)
 rcases (fG list).symm with⟨iX,jF,jJ⟩ | ⟨iX,jF,jJ⟩
 rotate_left
 go_wp2_with ((first | (with_reducible refine N1.out.mono ?_) | (with_reducible refine N6.out.mono ?_));rintro e w' ⟨rfl,rfl⟩)
 rcases (qX text).symm with⟨zt,te,te2⟩ | ⟨zt,te,te2⟩
 rotate_left
 go_wp2_with (((with_reducible refine oU.out.mono ?_));rintro e w' ⟨rfl,rfl⟩)
 rcases oZ (Fl.om f 0) with⟨zf,yf⟩ | ⟨zf,yf⟩
 rotate_left
 go_wp2_with (((with_reducible refine pF.out.mono ?_));rintro e w' ⟨rfl,rfl⟩)
 rcases (dQ flag).symm with rfl | rfl
 rotate_left
 go_wp2_with ((first | (with_reducible refine iT.out.mono ?_) | (with_reducible refine N1.out.mono ?_) | (with_reducible refine N2.out.mono ?_));rintro e w' ⟨rfl,rfl⟩)
 rcases fG id with⟨iV,jE,jL⟩ | ⟨iV,jE,jL⟩
 rotate_left
 go_wp2_with ((first | (with_reducible refine N4.out.mono ?_) | (with_reducible refine N8.out.mono ?_) | (go_at_call 50;refine (TC.out _).mono ?_) | (with_reducible refine pg.out.mono ?_) | (go_at_call 99;refine (GC.out _).mono ?_) | (with_reducible refine pU.out.mono ?_) | (go_at_call 89;refine (CL.out _).mono ?_));rintro e w' ⟨rfl,rfl⟩)
 rotate_left
 have NM:=hid (Ej w1)
 obtain⟨w2,hw2,q0,⟨r0,r1,r2,r3,r4,r5⟩,B1⟩:=lK 1 PB.out B0.out
 obtain⟨N1,N2,N4,N6,N8,pg,oU,pU,pF,iT⟩:=lh (b1:=true) (b2:=false) (b4:=false) (b6:=false) (b8:=false) (b16:=false) (Ao:=false) (b32:=false) (Bf:=false) (oL:=false) q0 (by kernel_rfl)
 go_enter func55,ntmps55
 go_wp2_with (go_at_call 96;refine NM.out.mono ?_;rintro e w' ⟨rfl,rfl⟩)
 rcases dQ c1 with rfl | rfl
 rotate_left
 go_wp2_with ((first | (go_at_call 98;refine (IC.out _).mono ?_) | (with_reducible refine N1.out.mono ?_));rintro e w' ⟨rfl,rfl⟩)
 rcases (fG id).symm with⟨iV,jE,jL⟩ | ⟨iV,jE,jL⟩
 rotate_left
 go_wp2_with (((with_reducible refine N6.out.mono ?_));rintro e w' ⟨rfl,rfl⟩)
 rcases (qX text).symm with⟨zt,te,te2⟩ | ⟨zt,te,te2⟩
 rotate_left
 go_wp2_with (((with_reducible refine oU.out.mono ?_));rintro e w' ⟨rfl,rfl⟩)
 rcases oZ (Fl.om f 0) with⟨zf,yf⟩ | ⟨zf,yf⟩
 rotate_left
 go_wp2_with (((with_reducible refine pF.out.mono ?_));rintro e w' ⟨rfl,rfl⟩)
 rcases (dQ flag).symm with rfl | rfl
 rotate_left
 go_wp2_with (((with_reducible refine iT.out.mono ?_));rintro e w' ⟨rfl,rfl⟩)
 rcases fG list with⟨iX,jF,jJ⟩ | ⟨iX,jF,jJ⟩
 rotate_left
 go_wp2_with ((first | (with_reducible refine N1.out.mono ?_) | (with_reducible refine N2.out.mono ?_) | (with_reducible refine N4.out.mono ?_) | (with_reducible refine N8.out.mono ?_) | (go_at_call 50;refine (TC.out _).mono ?_) | (with_reducible refine pg.out.mono ?_) | (go_at_call 99;refine (GC.out _).mono ?_) | (with_reducible refine pU.out.mono ?_) | (go_at_call 89;refine (CL.out _).mono ?_));rintro e w' ⟨rfl,rfl⟩)
 rotate_left
 have NM:=hid (Dq w1)
 obtain⟨w2,hw2,q0,⟨r0,r1,r2,r3,r4,r5⟩,B1⟩:=lK 1 PB.out B0.out
 obtain⟨N1,N2,N4,N6,N8,pg,oU,pU,pF,iT⟩:=lh (b1:=true) (b2:=false) (b4:=false) (b6:=false) (b8:=false) (b16:=false) (Ao:=false) (b32:=false) (Bf:=false) (oL:=false) q0 (by kernel_rfl)
 go_enter func55,ntmps55
 go_wp2_with (go_at_call 96;refine NM.out.mono ?_;rintro e w' ⟨rfl,rfl⟩)
 rcases dQ c1 with rfl | rfl
 rotate_left
 go_wp2_with ((first | (go_at_call 98;refine (IC.out _).mono ?_) | (with_reducible refine N1.out.mono ?_));rintro e w' ⟨rfl,rfl⟩)
 rcases (fG id).symm with⟨iV,jE,jL⟩ | ⟨iV,jE,jL⟩
 rotate_left
 go_wp2_with (((with_reducible refine N6.out.mono ?_));rintro e w' ⟨rfl,rfl⟩)
 rcases (qX text).symm with⟨zt,te,te2⟩ | ⟨zt,te,te2⟩
 rotate_left
 go_wp2_with (((with_reducible refine oU.out.mono ?_));rintro e w' ⟨rfl,rfl⟩)
 rcases oZ (Fl.om f 0) with⟨zf,yf⟩ | ⟨zf,yf⟩
 rotate_left
 go_wp2_with (((with_reducible refine pF.out.mono ?_));rintro e w' ⟨rfl,rfl⟩)
 rcases (dQ flag).symm with rfl | rfl
 rotate_left
 go_wp2_with (((with_reducible refine iT.out.mono ?_));rintro e w' ⟨rfl,rfl⟩)
 rcases fG list with⟨iX,jF,jJ⟩ | ⟨iX,jF,jJ⟩
 rotate_left
 go_wp2_with ((first | (with_reducible refine N1.out.mono ?_) | (with_reducible refine N2.out.mono ?_) | (with_reducible refine N4.out.mono ?_) | (with_reducible refine N8.out.mono ?_) | (go_at_call 50;refine (TC.out _).mono ?_) | (with_reducible refine pg.out.mono ?_) | (go_at_call 99;refine (GC.out _).mono ?_) | (with_reducible refine pU.out.mono ?_) | (go_at_call 89;refine (CL.out _).mono ?_));rintro e w' ⟨rfl,rfl⟩)
 rotate_left
 all_goals
  try go_wp2_with ((first | (go_at_call 98;refine (IC.out _).mono ?_) | (with_reducible refine N1.out.mono ?_) | (with_reducible refine N2.out.mono ?_) | (with_reducible refine N4.out.mono ?_) | (with_reducible refine N6.out.mono ?_) | (with_reducible refine N8.out.mono ?_) | (with_reducible refine pg.out.mono ?_) | (with_reducible refine oU.out.mono ?_) | (with_reducible refine pU.out.mono ?_) | (with_reducible refine pF.out.mono ?_) | (with_reducible refine iT.out.mono ?_) | (go_at_call 50;refine (TC.out _).mono ?_) | (go_at_call 99;refine (GC.out _).mono ?_) | (go_at_call 89;refine (CL.out _).mono ?_));rintro e w' ⟨rfl,rfl⟩)
  go_ret
  have hV:=HV.out
  have q1:=HC1.out
  have q2:=Es.out
  have q3:=HC3.out
  try have z1:=iV.out
  try have z2:=iX.out
  try have z3:=zt.out
  simp [T9.bL,T9.extra,T9.nId,T9.og,T9.p9,T9.nF,T9.um,T9.ofL,T9.qK, *] at hV
  subst hV
  exact⟨rfl,B1.out⟩
end
end Go.Proofs.YtdjiiknefhepdaaGreat
