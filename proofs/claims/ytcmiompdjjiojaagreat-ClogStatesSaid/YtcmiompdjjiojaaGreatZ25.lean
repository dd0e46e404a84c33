import Derived.Test.YtcmiompdjjiojaaGreatZ24
namespace Go.Proofs.YtcmiompdjjiojaaGreat
set_option maxHeartbeats 16000000
open Go.Lib Go.Proofs.Tryz
set_option linter.unusedSimpArgs false
set_option maxRecDepth 100000
section
open Go.RowKit Go.Lib
theorem jM (n:Nat):(n=0∧((n:Int) != 0)=false∧((n:Int)==0)=true)∨(¬ n=0∧((n:Int) != 0)=true∧((n:Int)==0)=false):=by
 by_cases h:n=0
 ·subst h;exact Or.inl ⟨rfl,rfl,rfl⟩
 ·exact Or.inr ⟨h,by rw [bne_iff_ne];omega,by rw [beq_eq_false_iff_ne];omega⟩
theorem gQ (b:Bool):b=false∨b=true:=by cases b;exact Or.inl rfl;exact Or.inr rfl
theorem yY (b:Bool):(b=false∧(!b)=true)∨(b=true∧(!b)=false):=by cases b;exact Or.inl ⟨rfl,rfl⟩;exact Or.inr ⟨rfl,rfl⟩
theorem Ct (l:List UInt8):(l=[]∧l.isEmpty=true∧(!l.isEmpty)=false)∨(¬ l=[]∧l.isEmpty=false∧(!l.isEmpty)=true):=by
 cases l with
 | nil=>exact Or.inl ⟨rfl,rfl,rfl⟩
 | cons a l=>exact Or.inr ⟨by simp,rfl,rfl⟩
theorem chkA_c {k:Int} {id list f:Nat} {text:List UInt8} {flag:Bool} {w:World} (hk:k=1∨k=2∨k=3∨k=4∨k=5∨k=6) (ht:text.length≤1000000):Calls prog 51 #[.agg #[.int .i64 k,.int .u64 (id:Int),.int .u64 (list:Int),.string (str text),.float .f64 f,.bool flag]] w fun e w'=>e=.returned (.int .i64 (T9.bN ⟨k,id,list,text,f,flag⟩))∧Below w.heap.size w w':=by
 obtain⟨V,hV⟩:=nm (T9.bN ⟨k,id,list,text,f,flag⟩)
 rw [hV]
 obtain⟨c1,hc1⟩:=nm (T9.n_ f)
 obtain⟨c2,hc2⟩:=nm (T9.title text)
 obtain⟨c3,hc3⟩:=nm (T9.tag text)
 obtain⟨w1,hw1⟩:=nm (w.alloc (.cells #[.int .i64 k,.int .u64 (id:Int),.int .u64 (list:Int),.string (str text),.float .f64 f,.bool flag] 57))
 obtain⟨pb,b1,z1⟩:=bn hw1
 obtain⟨p0,p1,p2,p3,p4,p5⟩:=ag pb
 have B1:=hid b1
 have IC:=hid (eQ f w1)
 have TC:=hid (kJ text ht w1)
 have GC:=hid (qR text ht w1)
 rw [hc1] at IC
 rw [hc2] at TC
 rw [hc3] at GC
 clear pb b1 z1 ht
 rcases hk with rfl | rfl | rfl | rfl | rfl | rfl
 rcases gQ c1 with rfl | rfl
 rotate_left
 rcases (jM list).symm with⟨ji,jX,jV⟩ | ⟨ji,jX,jV⟩
 rotate_left
 rcases (gQ flag).symm with rfl | rfl
 rotate_left
 rcases yY (Fl.oU f 0) with⟨zf,yf⟩ | ⟨zf,yf⟩
 rotate_left
 rcases jM id with⟨jh,jW,jU⟩ | ⟨jh,jW,jU⟩
 rotate_left
 rcases gQ c2 with rfl | rfl
 rotate_left
 rotate_left
 rcases gQ c1 with rfl | rfl
 rotate_left
 rcases (jM list).symm with⟨ji,jX,jV⟩ | ⟨ji,jX,jV⟩
 rotate_left
 rcases (Ct text).symm with⟨zt,te,te2⟩ | ⟨rfl,te,te2⟩
 rotate_left
 rcases (gQ flag).symm with rfl | rfl
 rotate_left
 rcases yY (Fl.oU f 0) with⟨zf,yf⟩ | ⟨zf,yf⟩
 rotate_left
 rcases jM id with⟨jh,jW,jU⟩ | ⟨jh,jW,jU⟩
 rotate_left
 rotate_left
 rcases gQ c1 with rfl | rfl
 rotate_left
 rcases (gQ flag).symm with rfl | rfl
 rotate_left
 rcases jM list with⟨ji,jX,jV⟩ | ⟨ji,jX,jV⟩
 rotate_left
 rcases jM id with⟨jh,jW,jU⟩ | ⟨jh,jW,jU⟩
 rotate_left
 rcases gQ c2 with rfl | rfl
 rotate_left
 rcases (gQ (Fl.dz f)).symm with zn | zn
 rotate_left
 rotate_left
 rcases gQ c1 with rfl | rfl
 rotate_left
 rcases (jM list).symm with⟨ji,jX,jV⟩ | ⟨ji,jX,jV⟩
 rotate_left
 rcases (gQ flag).symm with rfl | rfl
 rotate_left
 rcases yY (Fl.oU f 0) with⟨zf,yf⟩ | ⟨zf,yf⟩
 rotate_left
 rcases jM id with⟨jh,jW,jU⟩ | ⟨jh,jW,jU⟩
 rotate_left
 rcases gQ c2 with rfl | rfl
 rotate_left
 rotate_left
 rcases gQ c1 with rfl | rfl
 rotate_left
 rcases (jM list).symm with⟨ji,jX,jV⟩ | ⟨ji,jX,jV⟩
 rotate_left
 rcases (Ct text).symm with⟨zt,te,te2⟩ | ⟨rfl,te,te2⟩
 rotate_left
 rcases yY (Fl.oU f 0) with⟨zf,yf⟩ | ⟨zf,yf⟩
 rotate_left
 rcases jM id with⟨jh,jW,jU⟩ | ⟨jh,jW,jU⟩
 rotate_left
 rotate_left
 rcases gQ c1 with rfl | rfl
 rotate_left
 rcases (Ct text).symm with⟨zt,te,te2⟩ | ⟨rfl,te,te2⟩
 rotate_left
 rcases (gQ flag).symm with rfl | rfl
 rotate_left
 rcases jM list with⟨ji,jX,jV⟩ | ⟨ji,jX,jV⟩
 rotate_left
 rcases jM id with⟨jh,jW,jU⟩ | ⟨jh,jW,jU⟩
 rotate_left
 rcases (gQ (Fl.dz f)).symm with zn | zn
 rotate_left
 rotate_left
 all_goals
  simp [T9.bN,T9.extra,T9.nId,T9.o9,T9.qM,T9.nF,T9.vo,T9.ofL,T9.sw, *] at hV
  subst hV
  try clear jh
  try clear ji
  go_enter func51,ntmps51
  go_wp2_with (first | (go_at_call 60;refine IC.out.mono ?_;rintro e w' ⟨rfl,rfl⟩) | (go_at_call 58;refine TC.out.mono ?_;rintro e w' ⟨rfl,rfl⟩) | (go_at_call 61;refine GC.out.mono ?_;rintro e w' ⟨rfl,rfl⟩))
  go_ret
  exact⟨rfl,B1.out⟩
end
end Go.Proofs.YtcmiompdjjiojaaGreat
