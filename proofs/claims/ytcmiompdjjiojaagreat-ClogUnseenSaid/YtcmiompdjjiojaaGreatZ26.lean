import Derived.Test.YtcmiompdjjiojaaGreatZ25
namespace Go.Proofs.YtcmiompdjjiojaaGreat
set_option maxHeartbeats 16000000
open Go.Lib Go.Proofs.Tryz
set_option linter.unusedSimpArgs false
set_option maxRecDepth 100000
section
open Go.RowKit Go.Lib
theorem chkB_c {k:Int} {id list f:Nat} {text:List UInt8} {flag:Bool} {w:World} (hk:k=7∨k=8∨k=9∨k=10∨k=11∨k=12∨k=13) (ht:text.length≤1000000):Calls prog 51 #[.agg #[.int .i64 k,.int .u64 (id:Int),.int .u64 (list:Int),.string (str text),.float .f64 f,.bool flag]] w fun e w'=>e=.returned (.int .i64 (T9.bN ⟨k,id,list,text,f,flag⟩))∧Below w.heap.size w w':=by
 obtain⟨V,hV⟩:=nm (T9.bN ⟨k,id,list,text,f,flag⟩)
 rw [hV]
 obtain⟨c1,hc1⟩:=nm (T9.n_ f)
 obtain⟨c2,hc2⟩:=nm (T9.title text)
 obtain⟨c3,hc3⟩:=nm (T9.tag text)
 obtain⟨w1,hw1⟩:=nm (w.alloc (.cells #[.int .i64 k,.int .u64 (id:Int),.int .u64 (list:Int),.string (str text),.float .f64 f,.bool flag] 57))
 obtain⟨pb,b1,z1⟩:=bn hw1
 obtain⟨p0,p1,p2,p3,p4,p5⟩:=ag pb
 have B1:=hid b1
 have IC:=hid (eQ f w1)
 have TC:=hid (kJ text ht w1)
 have GC:=hid (qR text ht w1)
 rw [hc1] at IC
 rw [hc2] at TC
 rw [hc3] at GC
 clear pb b1 z1 ht
 rcases hk with rfl | rfl | rfl | rfl | rfl | rfl | rfl
 rcases gQ c1 with rfl | rfl
 rotate_left
 rcases (jM list).symm with⟨ji,jX,jV⟩ | ⟨ji,jX,jV⟩
 rotate_left
 rcases (Ct text).symm with⟨zt,te,te2⟩ | ⟨rfl,te,te2⟩
 rotate_left
 rcases (gQ flag).symm with rfl | rfl
 rotate_left
 rcases jM id with⟨jh,jW,jU⟩ | ⟨jh,jW,jU⟩
 rotate_left
 rcases (gQ (Fl.dz f)).symm with zn | zn
 rotate_left
 rotate_left
 rcases gQ c1 with rfl | rfl
 rotate_left
 rcases (jM list).symm with⟨ji,jX,jV⟩ | ⟨ji,jX,jV⟩
 rotate_left
 rcases (Ct text).symm with⟨zt,te,te2⟩ | ⟨rfl,te,te2⟩
 rotate_left
 rcases (gQ flag).symm with rfl | rfl
 rotate_left
 rcases jM id with⟨jh,jW,jU⟩ | ⟨jh,jW,jU⟩
 rotate_left
 rcases (gQ (Fl.dz f)).symm with zn | zn
 rotate_left
 rotate_left
 rcases gQ c1 with rfl | rfl
 rotate_left
 rcases (jM list).symm with⟨ji,jX,jV⟩ | ⟨ji,jX,jV⟩
 rotate_left
 rcases (gQ flag).symm with rfl | rfl
 rotate_left
 rcases yY (Fl.oU f 0) with⟨zf,yf⟩ | ⟨zf,yf⟩
 rotate_left
 rcases jM id with⟨jh,jW,jU⟩ | ⟨jh,jW,jU⟩
 rotate_left
 rcases gQ c3 with rfl | rfl
 rotate_left
 rotate_left
 rcases gQ c1 with rfl | rfl
 rotate_left
 rcases (jM list).symm with⟨ji,jX,jV⟩ | ⟨ji,jX,jV⟩
 rotate_left
 rcases (gQ flag).symm with rfl | rfl
 rotate_left
 rcases yY (Fl.oU f 0) with⟨zf,yf⟩ | ⟨zf,yf⟩
 rotate_left
 rcases jM id with⟨jh,jW,jU⟩ | ⟨jh,jW,jU⟩
 rotate_left
 rcases gQ c3 with rfl | rfl
 rotate_left
 rotate_left
 rcases gQ c1 with rfl | rfl
 rotate_left
 rcases (jM list).symm with⟨ji,jX,jV⟩ | ⟨ji,jX,jV⟩
 rotate_left
 rcases (Ct text).symm with⟨zt,te,te2⟩ | ⟨rfl,te,te2⟩
 rotate_left
 rcases (gQ flag).symm with rfl | rfl
 rotate_left
 rcases yY (Fl.oU f 0) with⟨zf,yf⟩ | ⟨zf,yf⟩
 rotate_left
 rcases jM id with⟨jh,jW,jU⟩ | ⟨jh,jW,jU⟩
 rotate_left
 rotate_left
 rcases gQ c1 with rfl | rfl
 rotate_left
 rcases (jM id).symm with⟨jh,jW,jU⟩ | ⟨jh,jW,jU⟩
 rotate_left
 rcases (Ct text).symm with⟨zt,te,te2⟩ | ⟨rfl,te,te2⟩
 rotate_left
 rcases (gQ flag).symm with rfl | rfl
 rotate_left
 rcases yY (Fl.oU f 0) with⟨zf,yf⟩ | ⟨zf,yf⟩
 rotate_left
 rcases jM list with⟨ji,jX,jV⟩ | ⟨ji,jX,jV⟩
 rotate_left
 rotate_left
 rcases gQ c1 with rfl | rfl
 rotate_left
 rcases (jM id).symm with⟨jh,jW,jU⟩ | ⟨jh,jW,jU⟩
 rotate_left
 rcases (Ct text).symm with⟨zt,te,te2⟩ | ⟨rfl,te,te2⟩
 rotate_left
 rcases (gQ flag).symm with rfl | rfl
 rotate_left
 rcases yY (Fl.oU f 0) with⟨zf,yf⟩ | ⟨zf,yf⟩
 rotate_left
 rcases jM list with⟨ji,jX,jV⟩ | ⟨ji,jX,jV⟩
 rotate_left
 rotate_left
 all_goals
  simp [T9.bN,T9.extra,T9.nId,T9.o9,T9.qM,T9.nF,T9.vo,T9.ofL,T9.sw, *] at hV
  subst hV
  try clear jh
  try clear ji
  go_enter func51,ntmps51
  go_wp2_with (first | (go_at_call 60;refine IC.out.mono ?_;rintro e w' ⟨rfl,rfl⟩) | (go_at_call 58;refine TC.out.mono ?_;rintro e w' ⟨rfl,rfl⟩) | (go_at_call 61;refine GC.out.mono ?_;rintro e w' ⟨rfl,rfl⟩))
  go_ret
  exact⟨rfl,B1.out⟩
theorem chkNo_c {k:Int} {id list f:Nat} {text:List UInt8} {flag:Bool} {w:World} (hk:¬ (1≤k∧k≤13)):Calls prog 51 #[.agg #[.int .i64 k,.int .u64 (id:Int),.int .u64 (list:Int),.string (str text),.float .f64 f,.bool flag]] w fun e w'=>e=.returned (.int .i64 (T9.bN ⟨k,id,list,text,f,flag⟩))∧Below w.heap.size w w':=by
 obtain⟨w1,hw1⟩:=nm (w.alloc (.cells #[.int .i64 k,.int .u64 (id:Int),.int .u64 (list:Int),.string (str text),.float .f64 f,.bool flag] 57))
 obtain⟨pb,b1,z1⟩:=bn hw1
 obtain⟨p0,p1,p2,p3,p4,p5⟩:=ag pb
 have B1:=hid b1
 have V:=hid (show T9.bN ⟨k,id,list,text,f,flag⟩=110 by unfold T9.bN;rw [if_pos hk])
 have e1:(k==1)=false:=by rw [beq_eq_false_iff_ne];omega
 have e2:(k==2)=false:=by rw [beq_eq_false_iff_ne];omega
 have e3:(k==3)=false:=by rw [beq_eq_false_iff_ne];omega
 have e4:(k==4)=false:=by rw [beq_eq_false_iff_ne];omega
 have e5:(k==5)=false:=by rw [beq_eq_false_iff_ne];omega
 have e6:(k==6)=false:=by rw [beq_eq_false_iff_ne];omega
 have e7:(k==7)=false:=by rw [beq_eq_false_iff_ne];omega
 have e8:(k==8)=false:=by rw [beq_eq_false_iff_ne];omega
 have e9:(k==9)=false:=by rw [beq_eq_false_iff_ne];omega
 have e10:(k==10)=false:=by rw [beq_eq_false_iff_ne];omega
 have e11:(k==11)=false:=by rw [beq_eq_false_iff_ne];omega
 have e12:(k==12)=false:=by rw [beq_eq_false_iff_ne];omega
 have e13:(k==13)=false:=by rw [beq_eq_false_iff_ne];omega
 clear pb b1 z1 hk
 go_enter func51,ntmps51
 go_wp2_with fail
 go_ret
 exact⟨aZ V.out.symm,B1.out⟩
theorem Eo {m:T9.Mu} {w:World} (ht:m.text.length≤1000000):Calls prog 51 #[m.val] w fun e w'=>e=.returned (.int .i64 (T9.bN m))∧Below w.heap.size w w':=by
 obtain⟨k,id,list,text,f,flag⟩:=m
 by_cases hk:1≤k∧k≤13
 ·by_cases h6:k≤6
  ·exact chkA_c (k:=k) (by omega) ht
  ·exact chkB_c (k:=k) (by omega) ht
 ·exact chkNo_c hk
end
end Go.Proofs.YtcmiompdjjiojaaGreat
