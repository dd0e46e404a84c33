import Derived.Test.YtmcfknnfaokmlaaGreatZ23
import Derived.Test.YtmcfknnfaokmlaaGreatZ41
namespace Go.Proofs.YtmcfknnfaokmlaaGreat
set_option maxHeartbeats 16000000
open Go.Lib Go.Proofs.Tryz
set_option linter.unusedSimpArgs false
set_option maxRecDepth 100000
section
open Go.RowKit Go.Lib
theorem gu (n:Nat):(n=0∧((n:Int) != 0)=false∧((n:Int)==0)=true)∨(¬ n=0∧((n:Int) != 0)=true∧((n:Int)==0)=false):=by
 by_cases h:n=0
 ·subst h;exact Or.inl ⟨rfl,rfl,rfl⟩
 ·exact Or.inr ⟨h,by rw [bne_iff_ne];omega,by rw [beq_eq_false_iff_ne];omega⟩
theorem d_ (b:Bool):b=false∨b=true:=by cases b;exact Or.inl rfl;exact Or.inr rfl
theorem t_ (b:Bool):(b=false∧(!b)=true)∨(b=true∧(!b)=false):=by cases b;exact Or.inl ⟨rfl,rfl⟩;exact Or.inr ⟨rfl,rfl⟩
theorem wP (l:List UInt8):(l=[]∧l.isEmpty=true∧(!l.isEmpty)=false)∨(¬ l=[]∧l.isEmpty=false∧(!l.isEmpty)=true):=by
 cases l with
 | nil=>exact Or.inl ⟨rfl,rfl,rfl⟩
 | cons a l=>exact Or.inr ⟨by simp,rfl,rfl⟩
theorem chkA_c {k:Int} {id list f:Nat} {text:List UInt8} {flag:Bool} {w:World} (hk:k=1∨k=2∨k=3∨k=4∨k=5∨k=6) (ht:text.length≤1000000):Calls prog 33 #[.agg #[.int .i64 k,.int .u64 (id:Int),.int .u64 (list:Int),.string (str text),.float .f64 f,.bool flag]] w fun e w'=>e=.returned (.int .i64 (T9.aU ⟨k,id,list,text,f,flag⟩))∧Below w.heap.size w w':=by
 obtain⟨V,hV⟩:∃ v,T9.aU ⟨k,id,list,text,f,flag⟩=v:=⟨_,rfl⟩
 rw [hV]
 obtain⟨c1,hc1⟩:∃ b,T9.jr f=b:=⟨_,rfl⟩
 obtain⟨c2,hc2⟩:∃ b,T9.title text=b:=⟨_,rfl⟩
 obtain⟨c3,hc3⟩:∃ b,T9.tag text=b:=⟨_,rfl⟩
 obtain⟨w1,hw1⟩:∃ u,w.alloc (.cells #[.int .i64 k,.int .u64 (id:Int),.int .u64 (list:Int),.string (str text),.float .f64 f,.bool flag] 55)=u:=⟨_,rfl⟩
 obtain⟨pb,b1,z1⟩:=a_ hw1
 obtain⟨p0,p1,p2,p3,p4,p5⟩:=au pb
 have B1:=hid b1
 have IC:=hid (dm f w1)
 have TC:=hid (gY text ht w1)
 have GC:=hid (mq text ht w1)
 rw [hc1] at IC
 rw [hc2] at TC
 rw [hc3] at GC
 clear pb b1 z1 ht
 rcases hk with rfl | rfl | rfl | rfl | rfl | rfl
 rcases d_ c1 with rfl | rfl
 rotate_left
 rcases (gu list).symm with⟨fH,gJ,gH⟩ | ⟨fH,gJ,gH⟩
 rotate_left
 rcases (d_ flag).symm with rfl | rfl
 rotate_left
 rcases t_ (Fl.kC f 0) with⟨zf,yf⟩ | ⟨zf,yf⟩
 rotate_left
 rcases gu id with⟨fG,gI,gG⟩ | ⟨fG,gI,gG⟩
 rotate_left
 rcases d_ c2 with rfl | rfl
 rotate_left
 rotate_left
 rcases d_ c1 with rfl | rfl
 rotate_left
 rcases (gu list).symm with⟨fH,gJ,gH⟩ | ⟨fH,gJ,gH⟩
 rotate_left
 rcases (wP text).symm with⟨zt,te,te2⟩ | ⟨rfl,te,te2⟩
 rotate_left
 rcases (d_ flag).symm with rfl | rfl
 rotate_left
 rcases t_ (Fl.kC f 0) with⟨zf,yf⟩ | ⟨zf,yf⟩
 rotate_left
 rcases gu id with⟨fG,gI,gG⟩ | ⟨fG,gI,gG⟩
 rotate_left
 rotate_left
 rcases d_ c1 with rfl | rfl
 rotate_left
 rcases (d_ flag).symm with rfl | rfl
 rotate_left
 rcases gu list with⟨fH,gJ,gH⟩ | ⟨fH,gJ,gH⟩
 rotate_left
 rcases gu id with⟨fG,gI,gG⟩ | ⟨fG,gI,gG⟩
 rotate_left
 rcases d_ c2 with rfl | rfl
 rotate_left
 rcases (d_ (Fl.bK f)).symm with zn | zn
 rotate_left
 rotate_left
 rcases d_ c1 with rfl | rfl
 rotate_left
 rcases (gu list).symm with⟨fH,gJ,gH⟩ | ⟨fH,gJ,gH⟩
 rotate_left
 rcases (d_ flag).symm with rfl | rfl
 rotate_left
 rcases t_ (Fl.kC f 0) with⟨zf,yf⟩ | ⟨zf,yf⟩
 rotate_left
 rcases gu id with⟨fG,gI,gG⟩ | ⟨fG,gI,gG⟩
 rotate_left
 rcases d_ c2 with rfl | rfl
 rotate_left
 rotate_left
 rcases d_ c1 with rfl | rfl
 rotate_left
 rcases (gu list).symm with⟨fH,gJ,gH⟩ | ⟨fH,gJ,gH⟩
 rotate_left
 rcases (wP text).symm with⟨zt,te,te2⟩ | ⟨rfl,te,te2⟩
 rotate_left
 rcases t_ (Fl.kC f 0) with⟨zf,yf⟩ | ⟨zf,yf⟩
 rotate_left
 rcases gu id with⟨fG,gI,gG⟩ | ⟨fG,gI,gG⟩
 rotate_left
 rotate_left
 rcases d_ c1 with rfl | rfl
 rotate_left
 rcases (wP text).symm with⟨zt,te,te2⟩ | ⟨rfl,te,te2⟩
 rotate_left
 rcases (d_ flag).symm with rfl | rfl
 rotate_left
 rcases gu list with⟨fH,gJ,gH⟩ | ⟨fH,gJ,gH⟩
 rotate_left
 rcases gu id with⟨fG,gI,gG⟩ | ⟨fG,gI,gG⟩
 rotate_left
 rcases (d_ (Fl.bK f)).symm with zn | zn
 rotate_left
 rotate_left
 all_goals
  simp [T9.aU,T9.extra,T9.nId,T9.kG,T9.kH,T9.nF,T9.pQ,T9.ofL,T9.pR, *] at hV
  subst hV
  try clear fG
  try clear fH
  go_enter func33,ntmps33
  go_wp2_with (first | (go_at_call 74;refine IC.out.mono ?_;rintro e w' ⟨rfl,rfl⟩) | (go_at_call 76;refine TC.out.mono ?_;rintro e w' ⟨rfl,rfl⟩) | (go_at_call 75;refine GC.out.mono ?_;rintro e w' ⟨rfl,rfl⟩))
  go_ret
  exact⟨rfl,B1.out⟩
end
section
open Go.RowKit Go.Lib
theorem chkB_c {k:Int} {id list f:Nat} {text:List UInt8} {flag:Bool} {w:World} (hk:k=7∨k=8∨k=9∨k=10∨k=11∨k=12∨k=13) (ht:text.length≤1000000):Calls prog 33 #[.agg #[.int .i64 k,.int .u64 (id:Int),.int .u64 (list:Int),.string (str text),.float .f64 f,.bool flag]] w fun e w'=>e=.returned (.int .i64 (T9.aU ⟨k,id,list,text,f,flag⟩))∧Below w.heap.size w w':=by
 obtain⟨V,hV⟩:∃ v,T9.aU ⟨k,id,list,text,f,flag⟩=v:=⟨_,rfl⟩
 rw [hV]
 obtain⟨c1,hc1⟩:∃ b,T9.jr f=b:=⟨_,rfl⟩
 obtain⟨c2,hc2⟩:∃ b,T9.title text=b:=⟨_,rfl⟩
 obtain⟨c3,hc3⟩:∃ b,T9.tag text=b:=⟨_,rfl⟩
 obtain⟨w1,hw1⟩:∃ u,w.alloc (.cells #[.int .i64 k,.int .u64 (id:Int),.int .u64 (list:Int),.string (str text),.float .f64 f,.bool flag] 55)=u:=⟨_,rfl⟩
 obtain⟨pb,b1,z1⟩:=a_ hw1
 obtain⟨p0,p1,p2,p3,p4,p5⟩:=au pb
 have B1:=hid b1
 have IC:=hid (dm f w1)
 have TC:=hid (gY text ht w1)
 have GC:=hid (mq text ht w1)
 rw [hc1] at IC
 rw [hc2] at TC
 rw [hc3] at GC
 clear pb b1 z1 ht
 rcases hk with rfl | rfl | rfl | rfl | rfl | rfl | rfl
 rcases d_ c1 with rfl | rfl
 rotate_left
 rcases (gu list).symm with⟨fH,gJ,gH⟩ | ⟨fH,gJ,gH⟩
 rotate_left
 rcases (wP text).symm with⟨zt,te,te2⟩ | ⟨rfl,te,te2⟩
 rotate_left
 rcases (d_ flag).symm with rfl | rfl
 rotate_left
 rcases gu id with⟨fG,gI,gG⟩ | ⟨fG,gI,gG⟩
 rotate_left
 rcases (d_ (Fl.bK f)).symm with zn | zn
 rotate_left
 rotate_left
 rcases d_ c1 with rfl | rfl
 rotate_left
 rcases (gu list).symm with⟨fH,gJ,gH⟩ | ⟨fH,gJ,gH⟩
 rotate_left
 rcases (wP text).symm with⟨zt,te,te2⟩ | ⟨rfl,te,te2⟩
 rotate_left
 rcases (d_ flag).symm with rfl | rfl
 rotate_left
 rcases gu id with⟨fG,gI,gG⟩ | ⟨fG,gI,gG⟩
 rotate_left
 rcases (d_ (Fl.bK f)).symm with zn | zn
 rotate_left
 rotate_left
 rcases d_ c1 with rfl | rfl
 rotate_left
 rcases (gu list).symm with⟨fH,gJ,gH⟩ | ⟨fH,gJ,gH⟩
 rotate_left
 rcases (d_ flag).symm with rfl | rfl
 rotate_left
 rcases t_ (Fl.kC f 0) with⟨zf,yf⟩ | ⟨zf,yf⟩
 rotate_left
 rcases gu id with⟨fG,gI,gG⟩ | ⟨fG,gI,gG⟩
 rotate_left
 rcases d_ c3 with rfl | rfl
 rotate_left
 rotate_left
 rcases d_ c1 with rfl | rfl
 rotate_left
 rcases (gu list).symm with⟨fH,gJ,gH⟩ | ⟨fH,gJ,gH⟩
 rotate_left
 rcases (d_ flag).symm with rfl | rfl
 rotate_left
 rcases t_ (Fl.kC f 0) with⟨zf,yf⟩ | ⟨zf,yf⟩
 rotate_left
 rcases gu id with⟨fG,gI,gG⟩ | ⟨fG,gI,gG⟩
 rotate_left
 rcases d_ c3 with rfl | rfl
 rotate_left
 rotate_left
 rcases d_ c1 with rfl | rfl
 rotate_left
 rcases (gu list).symm with⟨fH,gJ,gH⟩ | ⟨fH,gJ,gH⟩
 rotate_left
 rcases (wP text).symm with⟨zt,te,te2⟩ | ⟨rfl,te,te2⟩
 rotate_left
 rcases (d_ flag).symm with rfl | rfl
 rotate_left
 rcases t_ (Fl.kC f 0) with⟨zf,yf⟩ | ⟨zf,yf⟩
 rotate_left
 rcases gu id with⟨fG,gI,gG⟩ | ⟨fG,gI,gG⟩
 rotate_left
 rotate_left
 rcases d_ c1 with rfl | rfl
 rotate_left
 rcases (gu id).symm with⟨fG,gI,gG⟩ | ⟨fG,gI,gG⟩
 rotate_left
 rcases (wP text).symm with⟨zt,te,te2⟩ | ⟨rfl,te,te2⟩
 rotate_left
 rcases (d_ flag).symm with rfl | rfl
 rotate_left
 rcases t_ (Fl.kC f 0) with⟨zf,yf⟩ | ⟨zf,yf⟩
 rotate_left
 rcases gu list with⟨fH,gJ,gH⟩ | ⟨fH,gJ,gH⟩
 rotate_left
 rotate_left
 rcases d_ c1 with rfl | rfl
 rotate_left
 rcases (gu id).symm with⟨fG,gI,gG⟩ | ⟨fG,gI,gG⟩
 rotate_left
 rcases (wP text).symm with⟨zt,te,te2⟩ | ⟨rfl,te,te2⟩
 rotate_left
 rcases (d_ flag).symm with rfl | rfl
 rotate_left
 rcases t_ (Fl.kC f 0) with⟨zf,yf⟩ | ⟨zf,yf⟩
 rotate_left
 rcases gu list with⟨fH,gJ,gH⟩ | ⟨fH,gJ,gH⟩
 rotate_left
 rotate_left
 all_goals
  simp [T9.aU,T9.extra,T9.nId,T9.kG,T9.kH,T9.nF,T9.pQ,T9.ofL,T9.pR, *] at hV
  subst hV
  try clear fG
  try clear fH
  go_enter func33,ntmps33
  go_wp2_with (first | (go_at_call 74;refine IC.out.mono ?_;rintro e w' ⟨rfl,rfl⟩) | (go_at_call 76;refine TC.out.mono ?_;rintro e w' ⟨rfl,rfl⟩) | (go_at_call 75;refine GC.out.mono ?_;rintro e w' ⟨rfl,rfl⟩))
  go_ret
  exact⟨rfl,B1.out⟩
theorem chkNo_c {k:Int} {id list f:Nat} {text:List UInt8} {flag:Bool} {w:World} (hk:¬ (1≤k∧k≤13)):Calls prog 33 #[.agg #[.int .i64 k,.int .u64 (id:Int),.int .u64 (list:Int),.string (str text),.float .f64 f,.bool flag]] w fun e w'=>e=.returned (.int .i64 (T9.aU ⟨k,id,list,text,f,flag⟩))∧Below w.heap.size w w':=by
 obtain⟨w1,hw1⟩:∃ u,w.alloc (.cells #[.int .i64 k,.int .u64 (id:Int),.int .u64 (list:Int),.string (str text),.float .f64 f,.bool flag] 55)=u:=⟨_,rfl⟩
 obtain⟨pb,b1,z1⟩:=a_ hw1
 obtain⟨p0,p1,p2,p3,p4,p5⟩:=au pb
 have B1:=hid b1
 have V:=hid (show T9.aU ⟨k,id,list,text,f,flag⟩=110 by unfold T9.aU;rw [if_pos hk])
 have e1:(k==1)=false:=by rw [beq_eq_false_iff_ne];omega
 have e2:(k==2)=false:=by rw [beq_eq_false_iff_ne];omega
 have e3:(k==3)=false:=by rw [beq_eq_false_iff_ne];omega
 have e4:(k==4)=false:=by rw [beq_eq_false_iff_ne];omega
 have e5:(k==5)=false:=by rw [beq_eq_false_iff_ne];omega
 have e6:(k==6)=false:=by rw [beq_eq_false_iff_ne];omega
 have e7:(k==7)=false:=by rw [beq_eq_false_iff_ne];omega
 have e8:(k==8)=false:=by rw [beq_eq_false_iff_ne];omega
 have e9:(k==9)=false:=by rw [beq_eq_false_iff_ne];omega
 have e10:(k==10)=false:=by rw [beq_eq_false_iff_ne];omega
 have e11:(k==11)=false:=by rw [beq_eq_false_iff_ne];omega
 have e12:(k==12)=false:=by rw [beq_eq_false_iff_ne];omega
 have e13:(k==13)=false:=by rw [beq_eq_false_iff_ne];omega
 clear pb b1 z1 hk
 go_enter func33,ntmps33
 go_wp2_with fail
 go_ret
 exact⟨az V.out.symm,B1.out⟩
theorem qf {m:T9.Mu} {w:World} (ht:m.text.length≤1000000):Calls prog 33 #[m.val] w fun e w'=>e=.returned (.int .i64 (T9.aU m))∧Below w.heap.size w w':=by
 obtain⟨k,id,list,text,f,flag⟩:=m
 by_cases hk:1≤k∧k≤13
 ·by_cases h6:k≤6
  ·exact chkA_c (k:=k) (by omega) ht
  ·exact chkB_c (k:=k) (by omega) ht
 ·exact chkNo_c hk
end
end Go.Proofs.YtmcfknnfaokmlaaGreat
