import Derived.Test.YtcedlgedmkghgaaZ33
import Derived.Test.YtcedlgedmkghgaaZ34
import Derived.Test.YtcedlgedmkghgaaZ35
import Derived.Test.YtcedlgedmkghgaaZ36
namespace Go.Proofs.Ytcedlgedmkghgaa
set_option maxHeartbeats 16000000
open Go.Lib
set_option linter.unusedSimpArgs false
set_option maxRecDepth 100000
section
open Go.RowKit Go.Lib
theorem uD {k:Int} (hk:¬ (1≤k∧k≤13)) (w:World):Calls Try.prog 87 #[.int .i64 k] w fun e w'=>e=.returned (.int .i64 0)∧w=w':=by
 have e1:(k==1)=false:=by rw [beq_eq_false_iff_ne];omega
 have e2:(k==2)=false:=by rw [beq_eq_false_iff_ne];omega
 have e3:(k==3)=false:=by rw [beq_eq_false_iff_ne];omega
 have e4:(k==4)=false:=by rw [beq_eq_false_iff_ne];omega
 have e5:(k==5)=false:=by rw [beq_eq_false_iff_ne];omega
 have e6:(k==6)=false:=by rw [beq_eq_false_iff_ne];omega
 have e7:(k==7)=false:=by rw [beq_eq_false_iff_ne];omega
 have e8:(k==8)=false:=by rw [beq_eq_false_iff_ne];omega
 have e9:(k==9)=false:=by rw [beq_eq_false_iff_ne];omega
 have e10:(k==10)=false:=by rw [beq_eq_false_iff_ne];omega
 have e11:(k==11)=false:=by rw [beq_eq_false_iff_ne];omega
 have e12:(k==12)=false:=by rw [beq_eq_false_iff_ne];omega
 have e13:(k==13)=false:=by rw [beq_eq_false_iff_ne];omega
 clear hk
 go_enter Try.func87,Try.ntmps87
 go_wp2
 go_ret
 exact⟨rfl,rfl⟩
theorem vK {k:Int} {id list f:Nat} {text:List UInt8} {flag:Bool} {w:World} (hk:¬ (1≤k∧k≤13)):Calls Try.prog 73 #[.agg #[.int .i64 k,.int .u64 (id:Int),.int .u64 (list:Int),.string (str text),.float .f64 f,.bool flag]] w fun e w'=>e=.returned (.int .i64 (T9.aM ⟨k,id,list,text,f,flag⟩))∧Below w.heap.size w w':=by
 have V:=hid (show T9.aM ⟨k,id,list,text,f,flag⟩=110 by unfold T9.aM;rw [if_pos hk])
 obtain⟨w1,hw1⟩:∃ u,w.alloc (.cells #[.int .i64 k,.int .u64 (id:Int),.int .u64 (list:Int),.string (str text),.float .f64 f,.bool flag] 49)=u:=⟨_,rfl⟩
 obtain⟨pb,b1,z1⟩:=bu hw1
 obtain⟨p0,p1,p2,p3,p4,p5⟩:=au pb
 have B1:=hid (b1.trans ((Below.refl _ w1).alloc (Nat.le_refl _) (.cells #[.int .i64 0] 3) |>.mono (by omega:w.heap.size≤w1.heap.size)))
 have NM:=hid (uD hk w1)
 clear pb b1 z1 hk
 go_enter Try.func73,Try.ntmps73
 go_wp2_with (go_at_call 87;refine NM.out.mono ?_;rintro e w' ⟨rfl,rfl⟩)
 go_ret
 exact⟨aK V.out.symm,B1.out⟩
theorem kX {m:T9.Mu} {w:World} (ht:m.text.length≤200):Calls Try.prog 73 #[m.val] w fun e w'=>e=.returned (.int .i64 (T9.aM m))∧Below w.heap.size w w':=by
 obtain⟨k,id,list,text,f,flag⟩:=m
 have hz:text.length≤1000000:=Nat.le_trans (show text.length≤200 from ht) (by decide)
 clear ht
 by_cases hk:1≤k∧k≤13
 ·by_cases h3:k≤3
  ·exact cchkA_c (k:=k) (by omega) hz
  by_cases h6:k≤6
  ·exact cchkB_c (k:=k) (by omega) hz
  by_cases h10:k≤10
  ·exact cchkC_c (k:=k) (by omega) hz
  ·exact cchkD_c (k:=k) (by omega) hz
 ·exact vK hk
end
end Go.Proofs.Ytcedlgedmkghgaa
