import Derived.Test.YtcmiompdjjiojaaGreatZ13
namespace Go.Proofs.YtcmiompdjjiojaaGreat
set_option maxHeartbeats 16000000
open Go.Lib Go.Proofs.Tryz
set_option linter.unusedSimpArgs false
set_option maxRecDepth 100000
section
open Go.RowKit Go.Lib
theorem cchkA_c {k:Int} {id list f:Nat} {text:List UInt8} {flag:Bool} {w:World} (hk:k=1∨k=2∨k=3) (ht:text.length≤1000000):Calls prog 78 #[.agg #[.int .i64 k,.int .u64 (id:Int),.int .u64 (list:Int),.string (str text),.float .f64 f,.bool flag]] w fun e w'=>e=.returned (.int .i64 (T9.bN ⟨k,id,list,text,f,flag⟩))∧Below w.heap.size w w':=by
 obtain⟨V,hV⟩:=nm (T9.bN ⟨k,id,list,text,f,flag⟩)
 rw [hV]
 obtain⟨c1,hc1⟩:=nm (T9.n_ f)
 obtain⟨c2,hc2⟩:=nm (T9.title text)
 obtain⟨c3,hc3⟩:=nm (T9.tag text)
 obtain⟨w1,hw1⟩:=nm (w.alloc (.cells #[.int .i64 k,.int .u64 (id:Int),.int .u64 (list:Int),.string (str text),.float .f64 f,.bool flag] 57))
 obtain⟨pb,b1,z1⟩:=bn hw1
 obtain⟨p0,p1,p2,p3,p4,p5⟩:=ag pb
 have IC:=hid fun W=>lX f W
 have TC:=hid fun W=>oz text ht W
 have GC:=hid fun W=>Ci text ht W
 have CL:=hid fun W=>fJ f W
 rw [hc1] at IC
 rw [hc2] at TC
 rw [hc3] at GC
 have PB:=hid pb
 have B0:=hid b1
 have HC1:=hid hc1
 have Ga:=hid hc2
 have HC3:=hid hc3
 have HV:=hid hV
 clear pb b1 z1 ht hc1 hc2 hc3 hV
 rcases hk with rfl | rfl | rfl
 have NM:=hid (Kv w1)
 obtain⟨w2,hw2,q0,⟨r0,r1,r2,r3,r4,r5⟩,B1⟩:=lI 10 PB.out B0.out
 obtain⟨N1,N2,N4,N6,N8,qa,qb,qd,qf,ja⟩:=lJ (b1:=false) (b2:=true) (b4:=false) (b6:=true) (b8:=true) (b16:=false) (De:=true) (b32:=false) (Df:=false) (pF:=false) q0 (by kernel_rfl)
 go_enter func78,ntmps78
 go_wp2_with (go_at_call 96;refine NM.out.mono ?_;rintro e w' ⟨rfl,rfl⟩)
 rcases dR c1 with rfl | rfl
 rotate_left
 go_wp2_with (((go_at_call 98;refine (IC.out _).mono ?_));rintro e w' ⟨rfl,rfl⟩)
 rcases (fI list).symm with⟨ji,jX,jV⟩ | ⟨ji,jX,jV⟩
 rotate_left
 go_wp2_with ((first | (with_reducible refine N1.out.mono ?_) | (with_reducible refine N6.out.mono ?_) | (with_reducible refine qb.out.mono ?_));rintro e w' ⟨rfl,rfl⟩)
 rcases qO (Fl.oU f 0) with⟨zf,yf⟩ | ⟨zf,yf⟩
 rotate_left
 go_wp2_with (((with_reducible refine qf.out.mono ?_));rintro e w' ⟨rfl,rfl⟩)
 rcases (dR flag).symm with rfl | rfl
 rotate_left
 go_wp2_with ((first | (with_reducible refine ja.out.mono ?_) | (with_reducible refine N1.out.mono ?_));rintro e w' ⟨rfl,rfl⟩)
 rcases fI id with⟨jh,jW,jU⟩ | ⟨jh,jW,jU⟩
 rotate_left
 go_wp2_with ((first | (with_reducible refine N2.out.mono ?_) | (with_reducible refine N4.out.mono ?_));rintro e w' ⟨rfl,rfl⟩)
 rcases dR c2 with rfl | rfl
 rotate_left
 go_wp2_with ((first | (with_reducible refine N8.out.mono ?_) | (go_at_call 91;refine (TC.out _).mono ?_) | (with_reducible refine qa.out.mono ?_) | (go_at_call 99;refine (GC.out _).mono ?_) | (with_reducible refine qd.out.mono ?_) | (go_at_call 100;refine (CL.out _).mono ?_));rintro e w' ⟨rfl,rfl⟩)
 rotate_left
 have NM:=hid (Kw w1)
 obtain⟨w2,hw2,q0,⟨r0,r1,r2,r3,r4,r5⟩,B1⟩:=lI 2 PB.out B0.out
 obtain⟨N1,N2,N4,N6,N8,qa,qb,qd,qf,ja⟩:=lJ (b1:=false) (b2:=true) (b4:=false) (b6:=true) (b8:=false) (b16:=false) (De:=false) (b32:=false) (Df:=false) (pF:=false) q0 (by kernel_rfl)
 go_enter func78,ntmps78
 go_wp2_with (go_at_call 96;refine NM.out.mono ?_;rintro e w' ⟨rfl,rfl⟩)
 rcases dR c1 with rfl | rfl
 rotate_left
 go_wp2_with (((go_at_call 98;refine (IC.out _).mono ?_));rintro e w' ⟨rfl,rfl⟩)
 rcases (fI list).symm with⟨ji,jX,jV⟩ | ⟨ji,jX,jV⟩
 rotate_left
 go_wp2_with ((first | (with_reducible refine N1.out.mono ?_) | (with_reducible refine N6.out.mono ?_));rintro e w' ⟨rfl,rfl⟩)
 rcases (sV text).symm with⟨zt,te,te2⟩ | ⟨zt,te,te2⟩
 rotate_left
 go_wp2_with (((with_reducible refine qb.out.mono ?_));rintro e w' ⟨rfl,rfl⟩)
 rcases qO (Fl.oU f 0) with⟨zf,yf⟩ | ⟨zf,yf⟩
 rotate_left
 go_wp2_with (((with_reducible refine qf.out.mono ?_));rintro e w' ⟨rfl,rfl⟩)
 rcases (dR flag).symm with rfl | rfl
 rotate_left
 go_wp2_with ((first | (with_reducible refine ja.out.mono ?_) | (with_reducible refine N1.out.mono ?_));rintro e w' ⟨rfl,rfl⟩)
 rcases fI id with⟨jh,jW,jU⟩ | ⟨jh,jW,jU⟩
 rotate_left
 go_wp2_with ((first | (with_reducible refine N2.out.mono ?_) | (with_reducible refine N4.out.mono ?_) | (with_reducible refine N8.out.mono ?_) | (go_at_call 91;refine (TC.out _).mono ?_) | (with_reducible refine qa.out.mono ?_) | (go_at_call 99;refine (GC.out _).mono ?_) | (with_reducible refine qd.out.mono ?_) | (go_at_call 100;refine (CL.out _).mono ?_));rintro e w' ⟨rfl,rfl⟩)
 rotate_left
 have NM:=hid (Ky w1)
 obtain⟨w2,hw2,q0,⟨r0,r1,r2,r3,r4,r5⟩,B1⟩:=lI 45 PB.out B0.out
 obtain⟨N1,N2,N4,N6,N8,qa,qb,qd,qf,ja⟩:=lJ (b1:=true) (b2:=false) (b4:=true) (b6:=true) (b8:=true) (b16:=false) (De:=true) (b32:=true) (Df:=true) (pF:=false) q0 (by kernel_rfl)
 go_enter func78,ntmps78
 go_wp2_with (go_at_call 96;refine NM.out.mono ?_;rintro e w' ⟨rfl,rfl⟩)
 rcases dR c1 with rfl | rfl
 rotate_left
 go_wp2_with ((first | (go_at_call 98;refine (IC.out _).mono ?_) | (with_reducible refine N1.out.mono ?_) | (with_reducible refine N6.out.mono ?_) | (with_reducible refine qb.out.mono ?_) | (with_reducible refine qf.out.mono ?_));rintro e w' ⟨rfl,rfl⟩)
 rcases (dR flag).symm with rfl | rfl
 rotate_left
 go_wp2_with (((with_reducible refine ja.out.mono ?_));rintro e w' ⟨rfl,rfl⟩)
 rcases fI list with⟨ji,jX,jV⟩ | ⟨ji,jX,jV⟩
 rotate_left
 go_wp2_with ((first | (with_reducible refine N1.out.mono ?_) | (with_reducible refine N2.out.mono ?_));rintro e w' ⟨rfl,rfl⟩)
 rcases fI id with⟨jh,jW,jU⟩ | ⟨jh,jW,jU⟩
 rotate_left
 go_wp2_with (((with_reducible refine N4.out.mono ?_));rintro e w' ⟨rfl,rfl⟩)
 rcases dR c2 with rfl | rfl
 rotate_left
 go_wp2_with ((first | (with_reducible refine N8.out.mono ?_) | (go_at_call 91;refine (TC.out _).mono ?_) | (with_reducible refine qa.out.mono ?_) | (go_at_call 99;refine (GC.out _).mono ?_));rintro e w' ⟨rfl,rfl⟩)
 rcases (dR (Fl.dz f)).symm with zn | zn
 rotate_left
 go_wp2_with ((first | (with_reducible refine qd.out.mono ?_) | (go_at_call 100;refine (CL.out _).mono ?_));rintro e w' ⟨rfl,rfl⟩)
 rotate_left
 all_goals
  try go_wp2_with ((first | (go_at_call 98;refine (IC.out _).mono ?_) | (with_reducible refine N1.out.mono ?_) | (with_reducible refine N2.out.mono ?_) | (with_reducible refine N4.out.mono ?_) | (with_reducible refine N6.out.mono ?_) | (with_reducible refine N8.out.mono ?_) | (with_reducible refine qa.out.mono ?_) | (with_reducible refine qb.out.mono ?_) | (with_reducible refine qd.out.mono ?_) | (with_reducible refine qf.out.mono ?_) | (with_reducible refine ja.out.mono ?_) | (go_at_call 91;refine (TC.out _).mono ?_) | (go_at_call 99;refine (GC.out _).mono ?_) | (go_at_call 100;refine (CL.out _).mono ?_));rintro e w' ⟨rfl,rfl⟩)
  go_ret
  have hV:=HV.out
  have q1:=HC1.out
  have q2:=Ga.out
  have q3:=HC3.out
  try have z1:=jh.out
  try have z2:=ji.out
  try have z3:=zt.out
  simp [T9.bN,T9.extra,T9.nId,T9.o9,T9.qM,T9.nF,T9.vo,T9.ofL,T9.sw, *] at hV
  subst hV
  exact⟨rfl,B1.out⟩
end
end Go.Proofs.YtcmiompdjjiojaaGreat
