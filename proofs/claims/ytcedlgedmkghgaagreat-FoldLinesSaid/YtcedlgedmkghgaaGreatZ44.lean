import Derived.Test.YtcedlgedmkghgaaGreatZ43
namespace Go.Proofs.YtcedlgedmkghgaaGreat
set_option maxHeartbeats 16000000
open Go.Lib Go.Proofs.Tryz
set_option linter.unusedSimpArgs false
set_option maxRecDepth 100000
section
open Go.RowKit Go.Lib
theorem cchkC_c {k:Int} {id list f:Nat} {text:List UInt8} {flag:Bool} {w:World} (hk:k=7∨k=8∨k=9∨k=10) (ht:text.length≤1000000):Calls prog 141 #[.agg #[.int .i64 k,.int .u64 (id:Int),.int .u64 (list:Int),.string (str text),.float .f64 f,.bool flag]] w fun e w'=>e=.returned (.int .i64 (T9.bN ⟨k,id,list,text,f,flag⟩))∧Below w.heap.size w w':=by
 obtain⟨V,hV⟩:∃ v,T9.bN ⟨k,id,list,text,f,flag⟩=v:=⟨_,rfl⟩
 rw [hV]
 obtain⟨c1,hc1⟩:∃ b,T9.mR f=b:=⟨_,rfl⟩
 obtain⟨c2,hc2⟩:∃ b,T9.title text=b:=⟨_,rfl⟩
 obtain⟨c3,hc3⟩:∃ b,T9.tag text=b:=⟨_,rfl⟩
 obtain⟨w1,hw1⟩:∃ u,w.alloc (.cells #[.int .i64 k,.int .u64 (id:Int),.int .u64 (list:Int),.string (str text),.float .f64 f,.bool flag] 65)=u:=⟨_,rfl⟩
 obtain⟨pb,b1,z1⟩:=bu hw1
 obtain⟨p0,p1,p2,p3,p4,p5⟩:=ag pb
 have IC:=hid fun W=>kZ f W
 have TC:=hid fun W=>nu text ht W
 have GC:=hid fun W=>zF text ht W
 have CL:=hid fun W=>fG f W
 rw [hc1] at IC
 rw [hc2] at TC
 rw [hc3] at GC
 have PB:=hid pb
 have B0:=hid b1
 have HC1:=hid hc1
 have De:=hid hc2
 have HC3:=hid hc3
 have HV:=hid hV
 clear pb b1 z1 ht hc1 hc2 hc3 hV
 rcases hk with rfl | rfl | rfl | rfl
 have NM:=hid (Ia w1)
 obtain⟨w2,hw2,q0,⟨r0,r1,r2,r3,r4,r5⟩,B1⟩:=kP 36 PB.out B0.out
 obtain⟨N1,N2,N4,N6,N8,oH,oI,oJ,oK,iO⟩:=kQ (b1:=false) (b2:=false) (b4:=true) (b6:=true) (b8:=false) (b16:=false) (Ai:=false) (b32:=true) (Aj:=true) (nX:=false) q0 (by kernel_rfl)
 go_enter func141,ntmps141
 go_wp2_with (go_at_call 193;refine NM.out.mono ?_;rintro e w' ⟨rfl,rfl⟩)
 rcases dR c1 with rfl | rfl
 rotate_left
 go_wp2_with (((go_at_call 195;refine (IC.out _).mono ?_));rintro e w' ⟨rfl,rfl⟩)
 rcases (fF list).symm with⟨iV,jL,jJ⟩ | ⟨iV,jL,jJ⟩
 rotate_left
 go_wp2_with ((first | (with_reducible refine N1.out.mono ?_) | (with_reducible refine N6.out.mono ?_));rintro e w' ⟨rfl,rfl⟩)
 rcases (qR text).symm with⟨zt,te,te2⟩ | ⟨zt,te,te2⟩
 rotate_left
 go_wp2_with ((first | (with_reducible refine oI.out.mono ?_) | (with_reducible refine oK.out.mono ?_));rintro e w' ⟨rfl,rfl⟩)
 rcases (dR flag).symm with rfl | rfl
 rotate_left
 go_wp2_with ((first | (with_reducible refine iO.out.mono ?_) | (with_reducible refine N1.out.mono ?_) | (with_reducible refine N2.out.mono ?_));rintro e w' ⟨rfl,rfl⟩)
 rcases fF id with⟨iU,jK,jI⟩ | ⟨iU,jK,jI⟩
 rotate_left
 go_wp2_with ((first | (with_reducible refine N4.out.mono ?_) | (with_reducible refine N8.out.mono ?_) | (go_at_call 98;refine (TC.out _).mono ?_) | (with_reducible refine oH.out.mono ?_) | (go_at_call 196;refine (GC.out _).mono ?_));rintro e w' ⟨rfl,rfl⟩)
 rcases (dR (Fl.dw f)).symm with zn | zn
 rotate_left
 go_wp2_with ((first | (with_reducible refine oJ.out.mono ?_) | (go_at_call 186;refine (CL.out _).mono ?_));rintro e w' ⟨rfl,rfl⟩)
 rotate_left
 have NM:=hid (Ib w1)
 obtain⟨w2,hw2,q0,⟨r0,r1,r2,r3,r4,r5⟩,B1⟩:=kP 68 PB.out B0.out
 obtain⟨N1,N2,N4,N6,N8,oH,oI,oJ,oK,iO⟩:=kQ (b1:=false) (b2:=false) (b4:=true) (b6:=true) (b8:=false) (b16:=false) (Ai:=false) (b32:=false) (Aj:=true) (nX:=false) q0 (by kernel_rfl)
 go_enter func141,ntmps141
 go_wp2_with (go_at_call 193;refine NM.out.mono ?_;rintro e w' ⟨rfl,rfl⟩)
 rcases dR c1 with rfl | rfl
 rotate_left
 go_wp2_with (((go_at_call 195;refine (IC.out _).mono ?_));rintro e w' ⟨rfl,rfl⟩)
 rcases (fF list).symm with⟨iV,jL,jJ⟩ | ⟨iV,jL,jJ⟩
 rotate_left
 go_wp2_with ((first | (with_reducible refine N1.out.mono ?_) | (with_reducible refine N6.out.mono ?_));rintro e w' ⟨rfl,rfl⟩)
 rcases (qR text).symm with⟨zt,te,te2⟩ | ⟨zt,te,te2⟩
 rotate_left
 go_wp2_with ((first | (with_reducible refine oI.out.mono ?_) | (with_reducible refine oK.out.mono ?_));rintro e w' ⟨rfl,rfl⟩)
 rcases (dR flag).symm with rfl | rfl
 rotate_left
 go_wp2_with ((first | (with_reducible refine iO.out.mono ?_) | (with_reducible refine N1.out.mono ?_) | (with_reducible refine N2.out.mono ?_));rintro e w' ⟨rfl,rfl⟩)
 rcases fF id with⟨iU,jK,jI⟩ | ⟨iU,jK,jI⟩
 rotate_left
 go_wp2_with ((first | (with_reducible refine N4.out.mono ?_) | (with_reducible refine N8.out.mono ?_) | (go_at_call 98;refine (TC.out _).mono ?_) | (with_reducible refine oH.out.mono ?_) | (go_at_call 196;refine (GC.out _).mono ?_) | (with_reducible refine oJ.out.mono ?_) | (go_at_call 186;refine (CL.out _).mono ?_));rintro e w' ⟨rfl,rfl⟩)
 rotate_left
 have NM:=hid (Ic w1)
 obtain⟨w2,hw2,q0,⟨r0,r1,r2,r3,r4,r5⟩,B1⟩:=kP 20 PB.out B0.out
 obtain⟨N1,N2,N4,N6,N8,oH,oI,oJ,oK,iO⟩:=kQ (b1:=false) (b2:=false) (b4:=true) (b6:=true) (b8:=false) (b16:=true) (Ai:=true) (b32:=false) (Aj:=false) (nX:=false) q0 (by kernel_rfl)
 go_enter func141,ntmps141
 go_wp2_with (go_at_call 193;refine NM.out.mono ?_;rintro e w' ⟨rfl,rfl⟩)
 rcases dR c1 with rfl | rfl
 rotate_left
 go_wp2_with (((go_at_call 195;refine (IC.out _).mono ?_));rintro e w' ⟨rfl,rfl⟩)
 rcases (fF list).symm with⟨iV,jL,jJ⟩ | ⟨iV,jL,jJ⟩
 rotate_left
 go_wp2_with ((first | (with_reducible refine N1.out.mono ?_) | (with_reducible refine N6.out.mono ?_) | (with_reducible refine oI.out.mono ?_));rintro e w' ⟨rfl,rfl⟩)
 rcases pq (Fl.nO f 0) with⟨zf,yf⟩ | ⟨zf,yf⟩
 rotate_left
 go_wp2_with (((with_reducible refine oK.out.mono ?_));rintro e w' ⟨rfl,rfl⟩)
 rcases (dR flag).symm with rfl | rfl
 rotate_left
 go_wp2_with ((first | (with_reducible refine iO.out.mono ?_) | (with_reducible refine N1.out.mono ?_) | (with_reducible refine N2.out.mono ?_));rintro e w' ⟨rfl,rfl⟩)
 rcases fF id with⟨iU,jK,jI⟩ | ⟨iU,jK,jI⟩
 rotate_left
 go_wp2_with ((first | (with_reducible refine N4.out.mono ?_) | (with_reducible refine N8.out.mono ?_) | (go_at_call 98;refine (TC.out _).mono ?_));rintro e w' ⟨rfl,rfl⟩)
 rcases dR c3 with rfl | rfl
 rotate_left
 go_wp2_with ((first | (with_reducible refine oH.out.mono ?_) | (go_at_call 196;refine (GC.out _).mono ?_) | (with_reducible refine oJ.out.mono ?_) | (go_at_call 186;refine (CL.out _).mono ?_));rintro e w' ⟨rfl,rfl⟩)
 rotate_left
 have NM:=hid (Ei w1)
 obtain⟨w2,hw2,q0,⟨r0,r1,r2,r3,r4,r5⟩,B1⟩:=kP 20 PB.out B0.out
 obtain⟨N1,N2,N4,N6,N8,oH,oI,oJ,oK,iO⟩:=kQ (b1:=false) (b2:=false) (b4:=true) (b6:=true) (b8:=false) (b16:=true) (Ai:=true) (b32:=false) (Aj:=false) (nX:=false) q0 (by kernel_rfl)
 go_enter func141,ntmps141
 go_wp2_with (go_at_call 193;refine NM.out.mono ?_;rintro e w' ⟨rfl,rfl⟩)
 rcases dR c1 with rfl | rfl
 rotate_left
 go_wp2_with (((go_at_call 195;refine (IC.out _).mono ?_));rintro e w' ⟨rfl,rfl⟩)
 rcases (fF list).symm with⟨iV,jL,jJ⟩ | ⟨iV,jL,jJ⟩
 rotate_left
 go_wp2_with ((first | (with_reducible refine N1.out.mono ?_) | (with_reducible refine N6.out.mono ?_) | (with_reducible refine oI.out.mono ?_));rintro e w' ⟨rfl,rfl⟩)
 rcases pq (Fl.nO f 0) with⟨zf,yf⟩ | ⟨zf,yf⟩
 rotate_left
 go_wp2_with (((with_reducible refine oK.out.mono ?_));rintro e w' ⟨rfl,rfl⟩)
 rcases (dR flag).symm with rfl | rfl
 rotate_left
 go_wp2_with ((first | (with_reducible refine iO.out.mono ?_) | (with_reducible refine N1.out.mono ?_) | (with_reducible refine N2.out.mono ?_));rintro e w' ⟨rfl,rfl⟩)
 rcases fF id with⟨iU,jK,jI⟩ | ⟨iU,jK,jI⟩
 rotate_left
 go_wp2_with ((first | (with_reducible refine N4.out.mono ?_) | (with_reducible refine N8.out.mono ?_) | (go_at_call 98;refine (TC.out _).mono ?_));rintro e w' ⟨rfl,rfl⟩)
 rcases dR c3 with rfl | rfl
 rotate_left
 go_wp2_with ((first | (with_reducible refine oH.out.mono ?_) | (go_at_call 196;refine (GC.out _).mono ?_) | (with_reducible refine oJ.out.mono ?_) | (go_at_call 186;refine (CL.out _).mono ?_));rintro e w' ⟨rfl,rfl⟩)
 rotate_left
 all_goals
  try go_wp2_with ((first | (go_at_call 195;refine (IC.out _).mono ?_) | (with_reducible refine N1.out.mono ?_) | (with_reducible refine N2.out.mono ?_) | (with_reducible refine N4.out.mono ?_) | (with_reducible refine N6.out.mono ?_) | (with_reducible refine N8.out.mono ?_) | (with_reducible refine oH.out.mono ?_) | (with_reducible refine oI.out.mono ?_) | (with_reducible refine oJ.out.mono ?_) | (with_reducible refine oK.out.mono ?_) | (with_reducible refine iO.out.mono ?_) | (go_at_call 98;refine (TC.out _).mono ?_) | (go_at_call 196;refine (GC.out _).mono ?_) | (go_at_call 186;refine (CL.out _).mono ?_));rintro e w' ⟨rfl,rfl⟩)
  go_ret
  have hV:=HV.out
  have q1:=HC1.out
  have q2:=De.out
  have q3:=HC3.out
  try have z1:=iU.out
  try have z2:=iV.out
  try have z3:=zt.out
  simp [T9.bN,T9.extra,T9.nId,T9.nT,T9.o_,T9.nF,T9.tq,T9.ofL,T9.qw, *] at hV
  subst hV
  exact⟨rfl,B1.out⟩
end
section
open Go.RowKit Go.Lib
theorem cchkD_c {k:Int} {id list f:Nat} {text:List UInt8} {flag:Bool} {w:World} (hk:k=11∨k=12∨k=13) (ht:text.length≤1000000):Calls prog 141 #[.agg #[.int .i64 k,.int .u64 (id:Int),.int .u64 (list:Int),.string (str text),.float .f64 f,.bool flag]] w fun e w'=>e=.returned (.int .i64 (T9.bN ⟨k,id,list,text,f,flag⟩))∧Below w.heap.size w w':=by
 obtain⟨V,hV⟩:∃ v,T9.bN ⟨k,id,list,text,f,flag⟩=v:=⟨_,rfl⟩
 rw [hV]
 obtain⟨c1,hc1⟩:∃ b,T9.mR f=b:=⟨_,rfl⟩
 obtain⟨c2,hc2⟩:∃ b,T9.title text=b:=⟨_,rfl⟩
 obtain⟨c3,hc3⟩:∃ b,T9.tag text=b:=⟨_,rfl⟩
 obtain⟨w1,hw1⟩:∃ u,w.alloc (.cells #[.int .i64 k,.int .u64 (id:Int),.int .u64 (list:Int),.string (str text),.float .f64 f,.bool flag] 65)=u:=⟨_,rfl⟩
 obtain⟨pb,b1,z1⟩:=bu hw1
 obtain⟨p0,p1,p2,p3,p4,p5⟩:=ag pb
 have IC:=hid fun W=>kZ f W
 have TC:=hid fun W=>nu text ht W
 have GC:=hid fun W=>zF text ht W
 have CL:=hid fun W=>fG f W
 rw [hc1] at IC
 rw [hc2] at TC
 rw [hc3] at GC
 have PB:=hid pb
 have B0:=hid b1
 have HC1:=hid hc1
 have De:=hid hc2
 have HC3:=hid hc3
 have HV:=hid hV
 clear pb b1 z1 ht hc1 hc2 hc3 hV
 rcases hk with rfl | rfl | rfl
 have NM:=hid (Ej w1)
 obtain⟨w2,hw2,q0,⟨r0,r1,r2,r3,r4,r5⟩,B1⟩:=kP 4 PB.out B0.out
 obtain⟨N1,N2,N4,N6,N8,oH,oI,oJ,oK,iO⟩:=kQ (b1:=false) (b2:=false) (b4:=true) (b6:=true) (b8:=false) (b16:=false) (Ai:=false) (b32:=false) (Aj:=false) (nX:=false) q0 (by kernel_rfl)
 go_enter func141,ntmps141
 go_wp2_with (go_at_call 193;refine NM.out.mono ?_;rintro e w' ⟨rfl,rfl⟩)
 rcases dR c1 with rfl | rfl
 rotate_left
 go_wp2_with (((go_at_call 195;refine (IC.out _).mono ?_));rintro e w' ⟨rfl,rfl⟩)
 rcases (fF list).symm with⟨iV,jL,jJ⟩ | ⟨iV,jL,jJ⟩
 rotate_left
 go_wp2_with ((first | (with_reducible refine N1.out.mono ?_) | (with_reducible refine N6.out.mono ?_));rintro e w' ⟨rfl,rfl⟩)
 rcases (qR text).symm with⟨zt,te,te2⟩ | ⟨zt,te,te2⟩
 rotate_left
 go_wp2_with (((with_reducible refine oI.out.mono ?_));rintro e w' ⟨rfl,rfl⟩)
 rcases pq (Fl.nO f 0) with⟨zf,yf⟩ | ⟨zf,yf⟩
 rotate_left
 go_wp2_with (((with_reducible refine oK.out.mono ?_));rintro e w' ⟨rfl,rfl⟩)
 rcases (dR flag).symm with rfl | rfl
 rotate_left
 go_wp2_with ((first | (with_reducible refine iO.out.mono ?_) | (with_reducible refine N1.out.mono ?_) | (with_reducible refine N2.out.mono ?_));rintro e w' ⟨rfl,rfl⟩)
 rcases fF id with⟨iU,jK,jI⟩ | ⟨iU,jK,jI⟩
 rotate_left
 go_wp2_with ((first | (with_reducible refine N4.out.mono ?_) | (with_reducible refine N8.out.mono ?_) | (go_at_call 98;refine (TC.out _).mono ?_) | (with_reducible refine oH.out.mono ?_) | (go_at_call 196;refine (GC.out _).mono ?_) | (with_reducible refine oJ.out.mono ?_) | (go_at_call 186;refine (CL.out _).mono ?_));rintro e w' ⟨rfl,rfl⟩)
 rotate_left
 have NM:=hid (El w1)
 obtain⟨w2,hw2,q0,⟨r0,r1,r2,r3,r4,r5⟩,B1⟩:=kP 1 PB.out B0.out
 obtain⟨N1,N2,N4,N6,N8,oH,oI,oJ,oK,iO⟩:=kQ (b1:=true) (b2:=false) (b4:=false) (b6:=false) (b8:=false) (b16:=false) (Ai:=false) (b32:=false) (Aj:=false) (nX:=false) q0 (by kernel_rfl)
 go_enter func141,ntmps141
 go_wp2_with (go_at_call 193;refine NM.out.mono ?_;rintro e w' ⟨rfl,rfl⟩)
 rcases dR c1 with rfl | rfl
 rotate_left
 go_wp2_with ((first | (go_at_call 195;refine (IC.out _).mono ?_) | (with_reducible refine N1.out.mono ?_));rintro e w' ⟨rfl,rfl⟩)
 rcases (fF id).symm with⟨iU,jK,jI⟩ | ⟨iU,jK,jI⟩
 rotate_left
 go_wp2_with (((with_reducible refine N6.out.mono ?_));rintro e w' ⟨rfl,rfl⟩)
 rcases (qR text).symm with⟨zt,te,te2⟩ | ⟨zt,te,te2⟩
 rotate_left
 go_wp2_with (((with_reducible refine oI.out.mono ?_));rintro e w' ⟨rfl,rfl⟩)
 rcases pq (Fl.nO f 0) with⟨zf,yf⟩ | ⟨zf,yf⟩
 rotate_left
 go_wp2_with (((with_reducible refine oK.out.mono ?_));rintro e w' ⟨rfl,rfl⟩)
 rcases (dR flag).symm with rfl | rfl
 rotate_left
 go_wp2_with (((with_reducible refine iO.out.mono ?_));rintro e w' ⟨rfl,rfl⟩)
 rcases fF list with⟨iV,jL,jJ⟩ | ⟨iV,jL,jJ⟩
 rotate_left
 go_wp2_with ((first | (with_reducible refine N1.out.mono ?_) | (with_reducible refine N2.out.mono ?_) | (with_reducible refine N4.out.mono ?_) | (with_reducible refine N8.out.mono ?_) | (go_at_call 98;refine (TC.out _).mono ?_) | (with_reducible refine oH.out.mono ?_) | (go_at_call 196;refine (GC.out _).mono ?_) | (with_reducible refine oJ.out.mono ?_) | (go_at_call 186;refine (CL.out _).mono ?_));rintro e w' ⟨rfl,rfl⟩)
 rotate_left
 have NM:=hid (Em w1)
 obtain⟨w2,hw2,q0,⟨r0,r1,r2,r3,r4,r5⟩,B1⟩:=kP 1 PB.out B0.out
 obtain⟨N1,N2,N4,N6,N8,oH,oI,oJ,oK,iO⟩:=kQ (b1:=true) (b2:=false) (b4:=false) (b6:=false) (b8:=false) (b16:=false) (Ai:=false) (b32:=false) (Aj:=false) (nX:=false) q0 (by kernel_rfl)
 go_enter func141,ntmps141
 go_wp2_with (go_at_call 193;refine NM.out.mono ?_;rintro e w' ⟨rfl,rfl⟩)
 rcases dR c1 with rfl | rfl
 rotate_left
 go_wp2_with ((first | (go_at_call 195;refine (IC.out _).mono ?_) | (with_reducible refine N1.out.mono ?_));rintro e w' ⟨rfl,rfl⟩)
 rcases (fF id).symm with⟨iU,jK,jI⟩ | ⟨iU,jK,jI⟩
 rotate_left
 go_wp2_with (((with_reducible refine N6.out.mono ?_));rintro e w' ⟨rfl,rfl⟩)
 rcases (qR text).symm with⟨zt,te,te2⟩ | ⟨zt,te,te2⟩
 rotate_left
 go_wp2_with (((with_reducible refine oI.out.mono ?_));rintro e w' ⟨rfl,rfl⟩)
 rcases pq (Fl.nO f 0) with⟨zf,yf⟩ | ⟨zf,yf⟩
 rotate_left
 go_wp2_with (((with_reducible refine oK.out.mono ?_));rintro e w' ⟨rfl,rfl⟩)
 rcases (dR flag).symm with rfl | rfl
 rotate_left
 go_wp2_with (((with_reducible refine iO.out.mono ?_));rintro e w' ⟨rfl,rfl⟩)
 rcases fF list with⟨iV,jL,jJ⟩ | ⟨iV,jL,jJ⟩
 rotate_left
 go_wp2_with ((first | (with_reducible refine N1.out.mono ?_) | (with_reducible refine N2.out.mono ?_) | (with_reducible refine N4.out.mono ?_) | (with_reducible refine N8.out.mono ?_) | (go_at_call 98;refine (TC.out _).mono ?_) | (with_reducible refine oH.out.mono ?_) | (go_at_call 196;refine (GC.out _).mono ?_) | (with_reducible refine oJ.out.mono ?_) | (go_at_call 186;refine (CL.out _).mono ?_));rintro e w' ⟨rfl,rfl⟩)
 rotate_left
 all_goals
  try go_wp2_with ((first | (go_at_call 195;refine (IC.out _).mono ?_) | (with_reducible refine N1.out.mono ?_) | (with_reducible refine N2.out.mono ?_) | (with_reducible refine N4.out.mono ?_) | (with_reducible refine N6.out.mono ?_) | (with_reducible refine N8.out.mono ?_) | (with_reducible refine oH.out.mono ?_) | (with_reducible refine oI.out.mono ?_) | (with_reducible refine oJ.out.mono ?_) | (with_reducible refine oK.out.mono ?_) | (with_reducible refine iO.out.mono ?_) | (go_at_call 98;refine (TC.out _).mono ?_) | (go_at_call 196;refine (GC.out _).mono ?_) | (go_at_call 186;refine (CL.out _).mono ?_));rintro e w' ⟨rfl,rfl⟩)
  go_ret
  have hV:=HV.out
  have q1:=HC1.out
  have q2:=De.out
  have q3:=HC3.out
  try have z1:=iU.out
  try have z2:=iV.out
  try have z3:=zt.out
  simp [T9.bN,T9.extra,T9.nId,T9.nT,T9.o_,T9.nF,T9.tq,T9.ofL,T9.qw, *] at hV
  subst hV
  exact⟨rfl,B1.out⟩
end
section
open Go.RowKit Go.Lib
theorem En {k:Int} (hk:¬ (1≤k∧k≤13)) (w:World):Calls prog 193 #[.int .i64 k] w fun e w'=>e=.returned (.int .i64 0)∧w=w':=by
 have e1:(k==1)=false:=by rw [beq_eq_false_iff_ne];omega
 have e2:(k==2)=false:=by rw [beq_eq_false_iff_ne];omega
 have e3:(k==3)=false:=by rw [beq_eq_false_iff_ne];omega
 have e4:(k==4)=false:=by rw [beq_eq_false_iff_ne];omega
 have e5:(k==5)=false:=by rw [beq_eq_false_iff_ne];omega
 have e6:(k==6)=false:=by rw [beq_eq_false_iff_ne];omega
 have e7:(k==7)=false:=by rw [beq_eq_false_iff_ne];omega
 have e8:(k==8)=false:=by rw [beq_eq_false_iff_ne];omega
 have e9:(k==9)=false:=by rw [beq_eq_false_iff_ne];omega
 have e10:(k==10)=false:=by rw [beq_eq_false_iff_ne];omega
 have e11:(k==11)=false:=by rw [beq_eq_false_iff_ne];omega
 have e12:(k==12)=false:=by rw [beq_eq_false_iff_ne];omega
 have e13:(k==13)=false:=by rw [beq_eq_false_iff_ne];omega
 clear hk
 go_enter func193,ntmps193
 go_wp2
 go_ret
 exact⟨rfl,rfl⟩
theorem FY {k:Int} {id list f:Nat} {text:List UInt8} {flag:Bool} {w:World} (hk:¬ (1≤k∧k≤13)):Calls prog 141 #[.agg #[.int .i64 k,.int .u64 (id:Int),.int .u64 (list:Int),.string (str text),.float .f64 f,.bool flag]] w fun e w'=>e=.returned (.int .i64 (T9.bN ⟨k,id,list,text,f,flag⟩))∧Below w.heap.size w w':=by
 have V:=hid (show T9.bN ⟨k,id,list,text,f,flag⟩=110 by unfold T9.bN;rw [if_pos hk])
 obtain⟨w1,hw1⟩:∃ u,w.alloc (.cells #[.int .i64 k,.int .u64 (id:Int),.int .u64 (list:Int),.string (str text),.float .f64 f,.bool flag] 65)=u:=⟨_,rfl⟩
 obtain⟨pb,b1,z1⟩:=bu hw1
 obtain⟨p0,p1,p2,p3,p4,p5⟩:=ag pb
 have B1:=hid (b1.trans ((Below.refl _ w1).alloc (Nat.le_refl _) (.cells #[.int .i64 0] 3) |>.mono (by omega:w.heap.size≤w1.heap.size)))
 have NM:=hid (En hk w1)
 clear pb b1 z1 hk
 go_enter func141,ntmps141
 go_wp2_with (go_at_call 193;refine NM.out.mono ?_;rintro e w' ⟨rfl,rfl⟩)
 go_ret
 exact⟨a_ V.out.symm,B1.out⟩
theorem sZ {m:T9.Mu} {w:World} (ht:m.text.length≤200):Calls prog 141 #[m.val] w fun e w'=>e=.returned (.int .i64 (T9.bN m))∧Below w.heap.size w w':=by
 obtain⟨k,id,list,text,f,flag⟩:=m
 have hz:text.length≤1000000:=Nat.le_trans (show text.length≤200 from ht) (by decide)
 clear ht
 by_cases hk:1≤k∧k≤13
 ·by_cases h3:k≤3
  ·exact cchkA_c (k:=k) (by omega) hz
  by_cases h6:k≤6
  ·exact cchkB_c (k:=k) (by omega) hz
  by_cases h10:k≤10
  ·exact cchkC_c (k:=k) (by omega) hz
  ·exact cchkD_c (k:=k) (by omega) hz
 ·exact FY hk
end
end Go.Proofs.YtcedlgedmkghgaaGreat
