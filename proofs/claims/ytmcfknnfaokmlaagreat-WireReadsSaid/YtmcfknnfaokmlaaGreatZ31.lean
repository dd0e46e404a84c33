import Derived.Test.YtmcfknnfaokmlaaGreatZ30
namespace Go.Proofs.YtmcfknnfaokmlaaGreat
set_option maxHeartbeats 16000000
open Go.Lib Go.Proofs.Tryz
set_option linter.unusedSimpArgs false
set_option maxRecDepth 100000
section
open Go.RowKit Go.Lib
theorem cchkA_c {k:Int} {id list f:Nat} {text:List UInt8} {flag:Bool} {w:World} (hk:k=1∨k=2∨k=3) (ht:text.length≤1000000):Calls prog 105 #[.agg #[.int .i64 k,.int .u64 (id:Int),.int .u64 (list:Int),.string (str text),.float .f64 f,.bool flag]] w fun e w'=>e=.returned (.int .i64 (T9.aU ⟨k,id,list,text,f,flag⟩))∧Below w.heap.size w w':=by
 obtain⟨V,hV⟩:∃ v,T9.aU ⟨k,id,list,text,f,flag⟩=v:=⟨_,rfl⟩
 rw [hV]
 obtain⟨c1,hc1⟩:∃ b,T9.jr f=b:=⟨_,rfl⟩
 obtain⟨c2,hc2⟩:∃ b,T9.title text=b:=⟨_,rfl⟩
 obtain⟨c3,hc3⟩:∃ b,T9.tag text=b:=⟨_,rfl⟩
 obtain⟨w1,hw1⟩:∃ u,w.alloc (.cells #[.int .i64 k,.int .u64 (id:Int),.int .u64 (list:Int),.string (str text),.float .f64 f,.bool flag] 55)=u:=⟨_,rfl⟩
 obtain⟨pb,b1,z1⟩:=a_ hw1
 obtain⟨p0,p1,p2,p3,p4,p5⟩:=au pb
 have IC:=hid fun W=>iU f W
 have TC:=hid fun W=>kr text ht W
 have GC:=hid fun W=>wI text ht W
 have CL:=hid fun W=>dN f W
 rw [hc1] at IC
 rw [hc2] at TC
 rw [hc3] at GC
 have PB:=hid pb
 have B0:=hid b1
 have HC1:=hid hc1
 have HC2:=hid hc2
 have HC3:=hid hc3
 have HV:=hid hV
 clear pb b1 z1 ht hc1 hc2 hc3 hV
 rcases hk with rfl | rfl | rfl
 have NM:=hid (CZ w1)
 obtain⟨w2,hw2,q0,⟨r0,r1,r2,r3,r4,r5⟩,B1⟩:=iG 10 PB.out B0.out
 obtain⟨N1,N2,N4,N6,N8,lw,lC,lD,lF,fe⟩:=iH (b1:=false) (b2:=true) (b4:=false) (b6:=true) (b8:=true) (b16:=false) (xq:=true) (b32:=false) (xu:=false) (kP:=false) q0 (by kernel_rfl)
 go_enter func105,ntmps105
 go_wp2_with (go_at_call 129;refine NM.out.mono ?_;rintro e w' ⟨rfl,rfl⟩)
 rcases bX c1 with rfl | rfl
 rotate_left
 go_wp2_with (((go_at_call 131;refine (IC.out _).mono ?_));rintro e w' ⟨rfl,rfl⟩)
 rcases (dL list).symm with⟨fH,gJ,gH⟩ | ⟨fH,gJ,gH⟩
 rotate_left
 go_wp2_with ((first | (with_reducible refine N1.out.mono ?_) | (with_reducible refine N6.out.mono ?_) | (with_reducible refine lC.out.mono ?_));rintro e w' ⟨rfl,rfl⟩)
 rcases lX (Fl.kC f 0) with⟨zf,yf⟩ | ⟨zf,yf⟩
 rotate_left
 go_wp2_with (((with_reducible refine lF.out.mono ?_));rintro e w' ⟨rfl,rfl⟩)
 rcases (bX flag).symm with rfl | rfl
 rotate_left
 go_wp2_with ((first | (with_reducible refine fe.out.mono ?_) | (with_reducible refine N1.out.mono ?_));rintro e w' ⟨rfl,rfl⟩)
 rcases dL id with⟨fG,gI,gG⟩ | ⟨fG,gI,gG⟩
 rotate_left
 go_wp2_with ((first | (with_reducible refine N2.out.mono ?_) | (with_reducible refine N4.out.mono ?_));rintro e w' ⟨rfl,rfl⟩)
 rcases bX c2 with rfl | rfl
 rotate_left
 go_wp2_with ((first | (with_reducible refine N8.out.mono ?_) | (go_at_call 72;refine (TC.out _).mono ?_) | (with_reducible refine lw.out.mono ?_) | (go_at_call 132;refine (GC.out _).mono ?_) | (with_reducible refine lD.out.mono ?_) | (go_at_call 125;refine (CL.out _).mono ?_));rintro e w' ⟨rfl,rfl⟩)
 rotate_left
 have NM:=hid (C8 w1)
 obtain⟨w2,hw2,q0,⟨r0,r1,r2,r3,r4,r5⟩,B1⟩:=iG 2 PB.out B0.out
 obtain⟨N1,N2,N4,N6,N8,lw,lC,lD,lF,fe⟩:=iH (b1:=false) (b2:=true) (b4:=false) (b6:=true) (b8:=false) (b16:=false) (xq:=false) (b32:=false) (xu:=false) (kP:=false) q0 (by kernel_rfl)
 go_enter func105,ntmps105
 go_wp2_with (go_at_call 129;refine NM.out.mono ?_;rintro e w' ⟨rfl,rfl⟩)
 rcases bX c1 with rfl | rfl
 rotate_left
 go_wp2_with (((go_at_call 131;refine (IC.out _).mono ?_));rintro e w' ⟨rfl,rfl⟩)
 rcases (dL list).symm with⟨fH,gJ,gH⟩ | ⟨fH,gJ,gH⟩
 rotate_left
 go_wp2_with ((first | (with_reducible refine N1.out.mono ?_) | (with_reducible refine N6.out.mono ?_));rintro e w' ⟨rfl,rfl⟩)
 rcases (nZ text).symm with⟨zt,te,te2⟩ | ⟨zt,te,te2⟩
 rotate_left
 go_wp2_with (((with_reducible refine lC.out.mono ?_));rintro e w' ⟨rfl,rfl⟩)
 rcases lX (Fl.kC f 0) with⟨zf,yf⟩ | ⟨zf,yf⟩
 rotate_left
 go_wp2_with (((with_reducible refine lF.out.mono ?_));rintro e w' ⟨rfl,rfl⟩)
 rcases (bX flag).symm with rfl | rfl
 rotate_left
 go_wp2_with ((first | (with_reducible refine fe.out.mono ?_) | (with_reducible refine N1.out.mono ?_));rintro e w' ⟨rfl,rfl⟩)
 rcases dL id with⟨fG,gI,gG⟩ | ⟨fG,gI,gG⟩
 rotate_left
 go_wp2_with ((first | (with_reducible refine N2.out.mono ?_) | (with_reducible refine N4.out.mono ?_) | (with_reducible refine N8.out.mono ?_) | (go_at_call 72;refine (TC.out _).mono ?_) | (with_reducible refine lw.out.mono ?_) | (go_at_call 132;refine (GC.out _).mono ?_) | (with_reducible refine lD.out.mono ?_) | (go_at_call 125;refine (CL.out _).mono ?_));rintro e w' ⟨rfl,rfl⟩)
 rotate_left
 have NM:=hid (C_ w1)
 obtain⟨w2,hw2,q0,⟨r0,r1,r2,r3,r4,r5⟩,B1⟩:=iG 45 PB.out B0.out
 obtain⟨N1,N2,N4,N6,N8,lw,lC,lD,lF,fe⟩:=iH (b1:=true) (b2:=false) (b4:=true) (b6:=true) (b8:=true) (b16:=false) (xq:=true) (b32:=true) (xu:=true) (kP:=false) q0 (by kernel_rfl)
 go_enter func105,ntmps105
 go_wp2_with (go_at_call 129;refine NM.out.mono ?_;rintro e w' ⟨rfl,rfl⟩)
 rcases bX c1 with rfl | rfl
 rotate_left
 go_wp2_with ((first | (go_at_call 131;refine (IC.out _).mono ?_) | (with_reducible refine N1.out.mono ?_) | (with_reducible refine N6.out.mono ?_) | (with_reducible refine lC.out.mono ?_) | (with_reducible refine lF.out.mono ?_));rintro e w' ⟨rfl,rfl⟩)
 rcases (bX flag).symm with rfl | rfl
 rotate_left
 go_wp2_with (((with_reducible refine fe.out.mono ?_));rintro e w' ⟨rfl,rfl⟩)
 rcases dL list with⟨fH,gJ,gH⟩ | ⟨fH,gJ,gH⟩
 rotate_left
 go_wp2_with ((first | (with_reducible refine N1.out.mono ?_) | (with_reducible refine N2.out.mono ?_));rintro e w' ⟨rfl,rfl⟩)
 rcases dL id with⟨fG,gI,gG⟩ | ⟨fG,gI,gG⟩
 rotate_left
 go_wp2_with (((with_reducible refine N4.out.mono ?_));rintro e w' ⟨rfl,rfl⟩)
 rcases bX c2 with rfl | rfl
 rotate_left
 go_wp2_with ((first | (with_reducible refine N8.out.mono ?_) | (go_at_call 72;refine (TC.out _).mono ?_) | (with_reducible refine lw.out.mono ?_) | (go_at_call 132;refine (GC.out _).mono ?_));rintro e w' ⟨rfl,rfl⟩)
 rcases (bX (Fl.bK f)).symm with zn | zn
 rotate_left
 go_wp2_with ((first | (with_reducible refine lD.out.mono ?_) | (go_at_call 125;refine (CL.out _).mono ?_));rintro e w' ⟨rfl,rfl⟩)
 rotate_left
 all_goals
  try go_wp2_with ((first | (go_at_call 131;refine (IC.out _).mono ?_) | (with_reducible refine N1.out.mono ?_) | (with_reducible refine N2.out.mono ?_) | (with_reducible refine N4.out.mono ?_) | (with_reducible refine N6.out.mono ?_) | (with_reducible refine N8.out.mono ?_) | (with_reducible refine lw.out.mono ?_) | (with_reducible refine lC.out.mono ?_) | (with_reducible refine lD.out.mono ?_) | (with_reducible refine lF.out.mono ?_) | (with_reducible refine fe.out.mono ?_) | (go_at_call 72;refine (TC.out _).mono ?_) | (go_at_call 132;refine (GC.out _).mono ?_) | (go_at_call 125;refine (CL.out _).mono ?_));rintro e w' ⟨rfl,rfl⟩)
  go_ret
  have hV:=HV.out
  have q1:=HC1.out
  have q2:=HC2.out
  have q3:=HC3.out
  try have z1:=fG.out
  try have z2:=fH.out
  try have z3:=zt.out
  simp [T9.aU,T9.extra,T9.nId,T9.kG,T9.kH,T9.nF,T9.pQ,T9.ofL,T9.pR, *] at hV
  subst hV
  exact⟨rfl,B1.out⟩
end
end Go.Proofs.YtmcfknnfaokmlaaGreat
