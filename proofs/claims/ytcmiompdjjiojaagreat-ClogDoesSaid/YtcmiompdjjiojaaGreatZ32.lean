import Derived.Test.YtcmiompdjjiojaaGreatZ28
import Derived.Test.YtcmiompdjjiojaaGreatZ29
import Derived.Test.YtcmiompdjjiojaaGreatZ30
import Derived.Test.YtcmiompdjjiojaaGreatZ31
namespace Go.Proofs.YtcmiompdjjiojaaGreat
set_option maxHeartbeats 16000000
open Go.Lib Go.Proofs.Tryz
set_option linter.unusedSimpArgs false
set_option maxRecDepth 100000
section
open Go.RowKit Go.Lib
theorem Hl {k:Int} (hk:¬ (1≤k∧k≤13)) (w:World):Calls prog 96 #[.int .i64 k] w fun e w'=>e=.returned (.int .i64 0)∧w=w':=by
 have e1:(k==1)=false:=by rw [beq_eq_false_iff_ne];omega
 have e2:(k==2)=false:=by rw [beq_eq_false_iff_ne];omega
 have e3:(k==3)=false:=by rw [beq_eq_false_iff_ne];omega
 have e4:(k==4)=false:=by rw [beq_eq_false_iff_ne];omega
 have e5:(k==5)=false:=by rw [beq_eq_false_iff_ne];omega
 have e6:(k==6)=false:=by rw [beq_eq_false_iff_ne];omega
 have e7:(k==7)=false:=by rw [beq_eq_false_iff_ne];omega
 have e8:(k==8)=false:=by rw [beq_eq_false_iff_ne];omega
 have e9:(k==9)=false:=by rw [beq_eq_false_iff_ne];omega
 have e10:(k==10)=false:=by rw [beq_eq_false_iff_ne];omega
 have e11:(k==11)=false:=by rw [beq_eq_false_iff_ne];omega
 have e12:(k==12)=false:=by rw [beq_eq_false_iff_ne];omega
 have e13:(k==13)=false:=by rw [beq_eq_false_iff_ne];omega
 clear hk
 go_enter func96,ntmps96
 go_wp2
 go_ret
 exact⟨rfl,rfl⟩
theorem Jq {k:Int} {id list f:Nat} {text:List UInt8} {flag:Bool} {w:World} (hk:¬ (1≤k∧k≤13)):Calls prog 78 #[.agg #[.int .i64 k,.int .u64 (id:Int),.int .u64 (list:Int),.string (str text),.float .f64 f,.bool flag]] w fun e w'=>e=.returned (.int .i64 (T9.bN ⟨k,id,list,text,f,flag⟩))∧Below w.heap.size w w':=by
 have V:=hid (show T9.bN ⟨k,id,list,text,f,flag⟩=110 by unfold T9.bN;rw [if_pos hk])
 obtain⟨w1,hw1⟩:=nm (w.alloc (.cells #[.int .i64 k,.int .u64 (id:Int),.int .u64 (list:Int),.string (str text),.float .f64 f,.bool flag] 57))
 obtain⟨pb,b1,z1⟩:=bn hw1
 obtain⟨p0,p1,p2,p3,p4,p5⟩:=ag pb
 have B1:=hid (b1.trans ((Below.refl _ w1).alloc (Nat.le_refl _) (.cells #[.int .i64 0] 3) |>.mono (by omega:w.heap.size≤w1.heap.size)))
 have NM:=hid (Hl hk w1)
 clear pb b1 z1 hk
 go_enter func78,ntmps78
 go_wp2_with (go_at_call 96;refine NM.out.mono ?_;rintro e w' ⟨rfl,rfl⟩)
 go_ret
 exact⟨aZ V.out.symm,B1.out⟩
theorem vk {m:T9.Mu} {w:World} (ht:m.text.length≤200):Calls prog 78 #[m.val] w fun e w'=>e=.returned (.int .i64 (T9.bN m))∧Below w.heap.size w w':=by
 obtain⟨k,id,list,text,f,flag⟩:=m
 have hz:text.length≤1000000:=Nat.le_trans (show text.length≤200 from ht) (by decide)
 clear ht
 by_cases hk:1≤k∧k≤13
 ·by_cases h3:k≤3
  ·exact cchkA_c (k:=k) (by omega) hz
  by_cases h6:k≤6
  ·exact cchkB_c (k:=k) (by omega) hz
  by_cases h10:k≤10
  ·exact cchkC_c (k:=k) (by omega) hz
  ·exact cchkD_c (k:=k) (by omega) hz
 ·exact Jq hk
end
end Go.Proofs.YtcmiompdjjiojaaGreat
