import Derived.Test.YtmcfknnfaokmlaaGreatZ30
import Derived.Test.YtmcfknnfaokmlaaGreatZ31
import Derived.Test.YtmcfknnfaokmlaaGreatZ32
import Derived.Test.YtmcfknnfaokmlaaGreatZ33
namespace Go.Proofs.YtmcfknnfaokmlaaGreat
set_option maxHeartbeats 16000000
open Go.Lib Go.Proofs.Tryz
set_option linter.unusedSimpArgs false
set_option maxRecDepth 100000
section
open Go.RowKit Go.Lib
theorem cchkD_c {k:Int} {id list f:Nat} {text:List UInt8} {flag:Bool} {w:World} (hk:k=11∨k=12∨k=13) (ht:text.length≤1000000):Calls prog 105 #[.agg #[.int .i64 k,.int .u64 (id:Int),.int .u64 (list:Int),.string (str text),.float .f64 f,.bool flag]] w fun e w'=>e=.returned (.int .i64 (T9.aU ⟨k,id,list,text,f,flag⟩))∧Below w.heap.size w w':=by
 obtain⟨V,hV⟩:∃ v,T9.aU ⟨k,id,list,text,f,flag⟩=v:=⟨_,rfl⟩
 rw [hV]
 obtain⟨c1,hc1⟩:∃ b,T9.jr f=b:=⟨_,rfl⟩
 obtain⟨c2,hc2⟩:∃ b,T9.title text=b:=⟨_,rfl⟩
 obtain⟨c3,hc3⟩:∃ b,T9.tag text=b:=⟨_,rfl⟩
 obtain⟨w1,hw1⟩:∃ u,w.alloc (.cells #[.int .i64 k,.int .u64 (id:Int),.int .u64 (list:Int),.string (str text),.float .f64 f,.bool flag] 55)=u:=⟨_,rfl⟩
 obtain⟨pb,b1,z1⟩:=a_ hw1
 obtain⟨p0,p1,p2,p3,p4,p5⟩:=au pb
 have IC:=hid fun W=>iU f W
 have TC:=hid fun W=>kr text ht W
 have GC:=hid fun W=>wI text ht W
 have CL:=hid fun W=>dN f W
 rw [hc1] at IC
 rw [hc2] at TC
 rw [hc3] at GC
 have PB:=hid pb
 have B0:=hid b1
 have HC1:=hid hc1
 have HC2:=hid hc2
 have HC3:=hid hc3
 have HV:=hid hV
 clear pb b1 z1 ht hc1 hc2 hc3 hV
 rcases hk with rfl | rfl | rfl
 have NM:=hid (Ad w1)
 obtain⟨w2,hw2,q0,⟨r0,r1,r2,r3,r4,r5⟩,B1⟩:=iG 4 PB.out B0.out
 obtain⟨N1,N2,N4,N6,N8,lw,lC,lD,lF,fe⟩:=iH (b1:=false) (b2:=false) (b4:=true) (b6:=true) (b8:=false) (b16:=false) (xq:=false) (b32:=false) (xu:=false) (kP:=false) q0 (by kernel_rfl)
 go_enter func105,ntmps105
 go_wp2_with (go_at_call 129;refine NM.out.mono ?_;rintro e w' ⟨rfl,rfl⟩)
 rcases bX c1 with rfl | rfl
 rotate_left
 go_wp2_with (((go_at_call 131;refine (IC.out _).mono ?_));rintro e w' ⟨rfl,rfl⟩)
 rcases (dL list).symm with⟨fH,gJ,gH⟩ | ⟨fH,gJ,gH⟩
 rotate_left
 go_wp2_with ((first | (with_reducible refine N1.out.mono ?_) | (with_reducible refine N6.out.mono ?_));rintro e w' ⟨rfl,rfl⟩)
 rcases (nZ text).symm with⟨zt,te,te2⟩ | ⟨zt,te,te2⟩
 rotate_left
 go_wp2_with (((with_reducible refine lC.out.mono ?_));rintro e w' ⟨rfl,rfl⟩)
 rcases lX (Fl.kC f 0) with⟨zf,yf⟩ | ⟨zf,yf⟩
 rotate_left
 go_wp2_with (((with_reducible refine lF.out.mono ?_));rintro e w' ⟨rfl,rfl⟩)
 rcases (bX flag).symm with rfl | rfl
 rotate_left
 go_wp2_with ((first | (with_reducible refine fe.out.mono ?_) | (with_reducible refine N1.out.mono ?_) | (with_reducible refine N2.out.mono ?_));rintro e w' ⟨rfl,rfl⟩)
 rcases dL id with⟨fG,gI,gG⟩ | ⟨fG,gI,gG⟩
 rotate_left
 go_wp2_with ((first | (with_reducible refine N4.out.mono ?_) | (with_reducible refine N8.out.mono ?_) | (go_at_call 72;refine (TC.out _).mono ?_) | (with_reducible refine lw.out.mono ?_) | (go_at_call 132;refine (GC.out _).mono ?_) | (with_reducible refine lD.out.mono ?_) | (go_at_call 125;refine (CL.out _).mono ?_));rintro e w' ⟨rfl,rfl⟩)
 rotate_left
 have NM:=hid (Ae w1)
 obtain⟨w2,hw2,q0,⟨r0,r1,r2,r3,r4,r5⟩,B1⟩:=iG 1 PB.out B0.out
 obtain⟨N1,N2,N4,N6,N8,lw,lC,lD,lF,fe⟩:=iH (b1:=true) (b2:=false) (b4:=false) (b6:=false) (b8:=false) (b16:=false) (xq:=false) (b32:=false) (xu:=false) (kP:=false) q0 (by kernel_rfl)
 go_enter func105,ntmps105
 go_wp2_with (go_at_call 129;refine NM.out.mono ?_;rintro e w' ⟨rfl,rfl⟩)
 rcases bX c1 with rfl | rfl
 rotate_left
 go_wp2_with ((first | (go_at_call 131;refine (IC.out _).mono ?_) | (with_reducible refine N1.out.mono ?_));rintro e w' ⟨rfl,rfl⟩)
 rcases (dL id).symm with⟨fG,gI,gG⟩ | ⟨fG,gI,gG⟩
 rotate_left
 go_wp2_with (((with_reducible refine N6.out.mono ?_));rintro e w' ⟨rfl,rfl⟩)
 rcases (nZ text).symm with⟨zt,te,te2⟩ | ⟨zt,te,te2⟩
 rotate_left
 go_wp2_with (((with_reducible refine lC.out.mono ?_));rintro e w' ⟨rfl,rfl⟩)
 rcases lX (Fl.kC f 0) with⟨zf,yf⟩ | ⟨zf,yf⟩
 rotate_left
 go_wp2_with (((with_reducible refine lF.out.mono ?_));rintro e w' ⟨rfl,rfl⟩)
 rcases (bX flag).symm with rfl | rfl
 rotate_left
 go_wp2_with (((with_reducible refine fe.out.mono ?_));rintro e w' ⟨rfl,rfl⟩)
 rcases dL list with⟨fH,gJ,gH⟩ | ⟨fH,gJ,gH⟩
 rotate_left
 go_wp2_with ((first | (with_reducible refine N1.out.mono ?_) | (with_reducible refine N2.out.mono ?_) | (with_reducible refine N4.out.mono ?_) | (with_reducible refine N8.out.mono ?_) | (go_at_call 72;refine (TC.out _).mono ?_) | (with_reducible refine lw.out.mono ?_) | (go_at_call 132;refine (GC.out _).mono ?_) | (with_reducible refine lD.out.mono ?_) | (go_at_call 125;refine (CL.out _).mono ?_));rintro e w' ⟨rfl,rfl⟩)
 rotate_left
 have NM:=hid (Ag w1)
 obtain⟨w2,hw2,q0,⟨r0,r1,r2,r3,r4,r5⟩,B1⟩:=iG 1 PB.out B0.out
 obtain⟨N1,N2,N4,N6,N8,lw,lC,lD,lF,fe⟩:=iH (b1:=true) (b2:=false) (b4:=false) (b6:=false) (b8:=false) (b16:=false) (xq:=false) (b32:=false) (xu:=false) (kP:=false) q0 (by kernel_rfl)
 go_enter func105,ntmps105
 go_wp2_with (go_at_call 129;refine NM.out.mono ?_;rintro e w' ⟨rfl,rfl⟩)
 rcases bX c1 with rfl | rfl
 rotate_left
 go_wp2_with ((first | (go_at_call 131;refine (IC.out _).mono ?_) | (with_reducible refine N1.out.mono ?_));rintro e w' ⟨rfl,rfl⟩)
 rcases (dL id).symm with⟨fG,gI,gG⟩ | ⟨fG,gI,gG⟩
 rotate_left
 go_wp2_with (((with_reducible refine N6.out.mono ?_));rintro e w' ⟨rfl,rfl⟩)
 rcases (nZ text).symm with⟨zt,te,te2⟩ | ⟨zt,te,te2⟩
 rotate_left
 go_wp2_with (((with_reducible refine lC.out.mono ?_));rintro e w' ⟨rfl,rfl⟩)
 rcases lX (Fl.kC f 0) with⟨zf,yf⟩ | ⟨zf,yf⟩
 rotate_left
 go_wp2_with (((with_reducible refine lF.out.mono ?_));rintro e w' ⟨rfl,rfl⟩)
 rcases (bX flag).symm with rfl | rfl
 rotate_left
 go_wp2_with (((with_reducible refine fe.out.mono ?_));rintro e w' ⟨rfl,rfl⟩)
 rcases dL list with⟨fH,gJ,gH⟩ | ⟨fH,gJ,gH⟩
 rotate_left
 go_wp2_with ((first | (with_reducible refine N1.out.mono ?_) | (with_reducible refine N2.out.mono ?_) | (with_reducible refine N4.out.mono ?_) | (with_reducible refine N8.out.mono ?_) | (go_at_call 72;refine (TC.out _).mono ?_) | (with_reducible refine lw.out.mono ?_) | (go_at_call 132;refine (GC.out _).mono ?_) | (with_reducible refine lD.out.mono ?_) | (go_at_call 125;refine (CL.out _).mono ?_));rintro e w' ⟨rfl,rfl⟩)
 rotate_left
 all_goals
  try go_wp2_with ((first | (go_at_call 131;refine (IC.out _).mono ?_) | (with_reducible refine N1.out.mono ?_) | (with_reducible refine N2.out.mono ?_) | (with_reducible refine N4.out.mono ?_) | (with_reducible refine N6.out.mono ?_) | (with_reducible refine N8.out.mono ?_) | (with_reducible refine lw.out.mono ?_) | (with_reducible refine lC.out.mono ?_) | (with_reducible refine lD.out.mono ?_) | (with_reducible refine lF.out.mono ?_) | (with_reducible refine fe.out.mono ?_) | (go_at_call 72;refine (TC.out _).mono ?_) | (go_at_call 132;refine (GC.out _).mono ?_) | (go_at_call 125;refine (CL.out _).mono ?_));rintro e w' ⟨rfl,rfl⟩)
  go_ret
  have hV:=HV.out
  have q1:=HC1.out
  have q2:=HC2.out
  have q3:=HC3.out
  try have z1:=fG.out
  try have z2:=fH.out
  try have z3:=zt.out
  simp [T9.aU,T9.extra,T9.nId,T9.kG,T9.kH,T9.nF,T9.pQ,T9.ofL,T9.pR, *] at hV
  subst hV
  exact⟨rfl,B1.out⟩
end
section
open Go.RowKit Go.Lib
theorem Ah {k:Int} (hk:¬ (1≤k∧k≤13)) (w:World):Calls prog 129 #[.int .i64 k] w fun e w'=>e=.returned (.int .i64 0)∧w=w':=by
 have e1:(k==1)=false:=by rw [beq_eq_false_iff_ne];omega
 have e2:(k==2)=false:=by rw [beq_eq_false_iff_ne];omega
 have e3:(k==3)=false:=by rw [beq_eq_false_iff_ne];omega
 have e4:(k==4)=false:=by rw [beq_eq_false_iff_ne];omega
 have e5:(k==5)=false:=by rw [beq_eq_false_iff_ne];omega
 have e6:(k==6)=false:=by rw [beq_eq_false_iff_ne];omega
 have e7:(k==7)=false:=by rw [beq_eq_false_iff_ne];omega
 have e8:(k==8)=false:=by rw [beq_eq_false_iff_ne];omega
 have e9:(k==9)=false:=by rw [beq_eq_false_iff_ne];omega
 have e10:(k==10)=false:=by rw [beq_eq_false_iff_ne];omega
 have e11:(k==11)=false:=by rw [beq_eq_false_iff_ne];omega
 have e12:(k==12)=false:=by rw [beq_eq_false_iff_ne];omega
 have e13:(k==13)=false:=by rw [beq_eq_false_iff_ne];omega
 clear hk
 go_enter func129,ntmps129
 go_wp2
 go_ret
 exact⟨rfl,rfl⟩
theorem Cf {k:Int} {id list f:Nat} {text:List UInt8} {flag:Bool} {w:World} (hk:¬ (1≤k∧k≤13)):Calls prog 105 #[.agg #[.int .i64 k,.int .u64 (id:Int),.int .u64 (list:Int),.string (str text),.float .f64 f,.bool flag]] w fun e w'=>e=.returned (.int .i64 (T9.aU ⟨k,id,list,text,f,flag⟩))∧Below w.heap.size w w':=by
 have V:=hid (show T9.aU ⟨k,id,list,text,f,flag⟩=110 by unfold T9.aU;rw [if_pos hk])
 obtain⟨w1,hw1⟩:∃ u,w.alloc (.cells #[.int .i64 k,.int .u64 (id:Int),.int .u64 (list:Int),.string (str text),.float .f64 f,.bool flag] 55)=u:=⟨_,rfl⟩
 obtain⟨pb,b1,z1⟩:=a_ hw1
 obtain⟨p0,p1,p2,p3,p4,p5⟩:=au pb
 have B1:=hid (b1.trans ((Below.refl _ w1).alloc (Nat.le_refl _) (.cells #[.int .i64 0] 3) |>.mono (by omega:w.heap.size≤w1.heap.size)))
 have NM:=hid (Ah hk w1)
 clear pb b1 z1 hk
 go_enter func105,ntmps105
 go_wp2_with (go_at_call 129;refine NM.out.mono ?_;rintro e w' ⟨rfl,rfl⟩)
 go_ret
 exact⟨az V.out.symm,B1.out⟩
theorem pO {m:T9.Mu} {w:World} (ht:m.text.length≤200):Calls prog 105 #[m.val] w fun e w'=>e=.returned (.int .i64 (T9.aU m))∧Below w.heap.size w w':=by
 obtain⟨k,id,list,text,f,flag⟩:=m
 have hz:text.length≤1000000:=Nat.le_trans (show text.length≤200 from ht) (by decide)
 clear ht
 by_cases hk:1≤k∧k≤13
 ·by_cases h3:k≤3
  ·exact cchkA_c (k:=k) (by omega) hz
  by_cases h6:k≤6
  ·exact cchkB_c (k:=k) (by omega) hz
  by_cases h10:k≤10
  ·exact cchkC_c (k:=k) (by omega) hz
  ·exact cchkD_c (k:=k) (by omega) hz
 ·exact Cf hk
end
end Go.Proofs.YtmcfknnfaokmlaaGreat
