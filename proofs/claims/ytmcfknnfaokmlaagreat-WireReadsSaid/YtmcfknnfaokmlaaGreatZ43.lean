import Derived.Test.YtmcfknnfaokmlaaGreatZ40
import Derived.Test.YtmcfknnfaokmlaaGreatZ42
import Derived.Test.YtmcfknnfaokmlaaGreatZ41
import Derived.Deep.DeepCutAuto
import Derived.Deep.CutBlock
import Derived.BigQuiet
namespace Go.Proofs.YtmcfknnfaokmlaaGreat
set_option maxHeartbeats 16000000
open Go.Lib Go.Proofs.Tryz
set_option linter.unusedSimpArgs false
set_option maxRecDepth 100000
section
section
open Go.RowKit Go.Lib
theorem T9.r9 {m:Mg} (h:T9.dz m=false):T9.okW m=false:=by unfold T9.okW;rw [h];simp
theorem T9.kT {m:Mg} (h:T9.dh m=false):T9.okW m=false:=by unfold T9.okW;rw [h];simp
theorem T9.rY {m:Mg} (h:T9.eQ m.items=false):T9.okW m=false:=by unfold T9.okW;rw [h];simp
theorem T9.rZ {m:Mg} (h:T9.dX m.lasts=false):T9.okW m=false:=by unfold T9.okW;rw [h];simp
theorem T9.Aj {m:Mg} (h:T9.aH m.st≠0):T9.okW m=false:=by unfold T9.okW;rw [decide_eq_false h];simp
theorem T9.Dq {m:Mg} (h:m.aK=0):T9.okW m=false:=by unfold T9.okW;rw [h];simp
theorem T9.fO {m:Mg} (h:T9.okW m=false):T9.bA m=150:=by unfold T9.bA;rw [h];rfl
def T9.qY (f1 f2 f3 f4 f5 f6:Bool) (line aK bE bI ni nl:Nat) (ns:Bool):Bool:=((aK:Int)==0) || ((!f1 && ((line:Int) != 0)) || ((!f2 && ((bE:Int) != 0)) || ((!f3 && ((bI:Int) != 0)) || ((!f4 && decide ((0:Int)<(ni:Int))) || ((!f5 && decide ((0:Int)<(nl:Int))) || (!f6 && ns))))))
def T9.notN (k:Int) (line aK bE bI ni nl ns:Nat):Bool:=T9.qY (T9.oG k) (T9.oF k) (T9.yX k) (T9.lU k) (T9.lV k) (T9.lW k) line aK bE bI ni nl (decide ((0:Int)<(ns:Int)))
theorem T9.notN_is {m:Mg} (h:1≤m.kind∧m.kind≤8):T9.notN m.kind m.line m.aK m.bE m.bI m.items.length m.lasts.length (m.st.lists.length+m.st.tasks.length)=(decide (m.aK=0) || !T9.dz m):=by
 have z:∀ n:Nat,((n:Int) != 0)=!(n==0):=fun n=>by rw [bne,← aZ n 0];rfl
 have z0:∀ n:Nat,((n:Int)==0)=decide (n=0):=fun n=>by by_cases q:n=0 <;> simp [q]
 have y:∀ n:Nat,decide ((0:Int)<(n:Int))=!decide (n=0):=fun n=>by by_cases q:n=0 <;> simp [q];omega
 unfold T9.notN T9.qY T9.dz
 rw [decide_eq_true h,z,z,z,z0,y,y,y]
 cases decide (m.aK=0) <;> simp [Bool.not_and,Bool.not_or,Bool.or_assoc]
def T9.notE (k:Int) (ni nl:Nat):Bool:=((k==3) && ((ni:Int)==0)) || (((k==4) && ((nl:Int)==0)) || (decide ((8:Int)<(ni:Int)) || decide ((2000:Int)<(nl:Int))))
theorem T9.Dj {m:Mg} (h:T9.notE m.kind m.items.length m.lasts.length=true):T9.okW m=false:=by
 unfold T9.notE at h
 simp only [Bool.or_eq_true,Bool.and_eq_true,beq_iff_eq,decide_eq_true_eq] at h
 rcases h with⟨h1,h2⟩ | ⟨h1,h2⟩ | h | h
 ·exact T9.kT (by unfold T9.dh;rw [decide_eq_true h1,decide_eq_false (by omega:¬ 0<m.items.length)];simp)
 ·exact T9.kT (by unfold T9.dh;rw [decide_eq_true h1,decide_eq_false (by omega:¬ 0<m.lasts.length)];simp)
 ·exact T9.rY (by unfold T9.eQ;rw [decide_eq_false (by omega)];rfl)
 ·exact T9.rZ (by unfold T9.dX;rw [decide_eq_false (by omega)];rfl)
theorem T9.notE_no {k:Int} {ni nl:Nat} (h:T9.notE k ni nl=false):(k=3→0<ni)∧(k=4→0<nl)∧ni≤8∧nl≤2000:=by
 unfold T9.notE at h
 simp only [Bool.or_eq_false_iff,Bool.and_eq_false_iff,beq_eq_false_iff_ne,decide_eq_false_iff_not,ne_eq] at h
 obtain⟨h1,h2,h3,h4⟩:=h
 exact⟨fun q=>by rcases h1 with h1 | h1 <;> omega,fun q=>by rcases h2 with h2 | h2 <;> omega,by omega,by omega⟩
theorem T9.okW_yes {m:Mg} (h1:(decide (m.aK=0) || !T9.dz m)=false) (h2:(m.kind=3→0<m.items.length)∧(m.kind=4→0<m.lasts.length)∧m.items.length≤8∧m.lasts.length≤2000) (h3:m.items.all T9.lu=true) (h4:T9.bT 0 m.lasts=true) (h5:T9.aH m.st=0) (h6:m.kind=7→m.bE≤m.bI∧m.bI - m.bE=m.items.length):T9.okW m=true:=by
 simp only [Bool.or_eq_false_iff,decide_eq_false_iff_not,Bool.not_eq_false'] at h1
 have e:T9.dh m=true:=by
  unfold T9.dh
  by_cases k3:m.kind=3
  ·have:=h2.1 k3
   simp [k3,this]
  by_cases k4:m.kind=4
  ·have:=h2.2.1 k4
   simp [k4,this]
  by_cases k7:m.kind=7
  ·have:=h6 k7
   simp [k7,this.1,this.2]
  simp [k3,k4,k7]
 unfold T9.okW T9.eQ T9.dX
 rw [h1.2,e,h3,h4,decide_eq_true h2.2.2.1,decide_eq_true h2.2.2.2,decide_eq_true h5]
 simp [h1.1]
theorem ja {m:dR} {w:World} (h:WM m w) (ho:m.mg.ok) (ht:∀ x∈m.is,x.m.text.length≤200) (hs:m.s.st.short) :
  Calls prog 10 #[m.val] w fun e w'=>e=.returned (.int .i64 (T9.bA m.mg))∧Below w.heap.size w w':=by
 obtain⟨w1,hw1⟩:∃ u,w.alloc (.cells #[.int .i64 m.kind,.int .u64 (m.line:Int),.int .u64 (m.aK:Int),.int .u64 (m.bE:Int),.int .u64 (m.bI:Int),.slice m.A m.is.length m.c,.slice m.A1 m.las.length m.c1,.slice m.s.A m.s.ls.length m.s.c,.slice m.s.A2 m.s.ms.length m.s.c2] 30)=u:=⟨_,rfl⟩
 obtain⟨lb,b1,_⟩:=bD hw1
 have h1:=h.stay b1
 obtain⟨l0,l1,l2,l3,l4,l5,l6,l7,l8⟩:=ag lb
 have tl:(m.mg.st.tasks).length=m.s.ms.length:=bv _
 have hwl:wrap64 ((m.s.ls.length:Int)+(m.s.ms.length:Int))=((m.s.ls.length+m.s.ms.length:Nat):Int):=by
  have:=hs.2.2.1;have:=hs.2.2.2;have e:m.s.st.tasks.length=m.s.ms.length:=bv _;have e2:m.s.st.lists.length=m.s.ls.length:=rfl
  unfold wrap64;omega
 have NN:1≤m.kind∧m.kind≤8→T9.notN m.kind m.line m.aK m.bE m.bI m.is.length m.las.length (m.s.ls.length+m.s.ms.length)=(decide (m.aK=0) || !T9.dz m.mg):=fun q=>by have:=T9.notN_is (m:=m.mg) q;rw [tl] at this;exact this
 have RC:∀ u,Below w1.heap.size w1 u→Hid (Calls prog 34 #[.agg #[.slice m.s.A m.s.ls.length m.s.c,.slice m.s.A2 m.s.ms.length m.s.c2]] u fun e w'=>e=.returned (.int .i64 (T9.aH m.s.st))∧Below u.heap.size u w'):=fun u hu=>hid (qg (h1.s.stay hu).l (h1.s.stay hu).k rfl rfl hs)
 have HI:=hid h1.i
 have HA:=hid h1.a
 obtain⟨M,hM⟩:∃ x,m.mg=x:=⟨_,rfl⟩
 have B1:=hid b1
 have LB:=hid lb
 have HT:=hid ht
 have HN:=hid NN
 have HM:=hid (show M=⟨m.kind,m.line,m.aK,m.bE,m.bI,m.is,m.las,m.s.st⟩ from hM.symm)
 have KC:=hid RC
 have HF:=hid (show m.bE<18446744073709551616∧m.bI<18446744073709551616 from⟨ho.f,ho.t⟩)
 rw [hM] at HN ⊢
 unfold dR.val
 obtain⟨k,line,aK,bE,bI,is,A,c,las,A1,c1,ls,SA,sc,ms,SA2,sc2⟩:=m
 dsimp only at *
 clear lb b1 h hs ht ho h1 tl NN RC hM
 go_enter func10,ntmps10
 go_upto_block 0 with fail
 go_cut [3,4,5,6,7,8] (fun s3 s4 s5 s6 s7 s8 wd=>∃ f1 f2 f3 f4 f5 f6:Bool,s3=.bool f1∧s4=.bool f2∧s5=.bool f3∧s6=.bool f4∧s7=.bool f5∧s8=.bool f6∧Hid (T9.oG k=f1∧T9.oF k=f2∧T9.yX k=f3∧T9.lU k=f4∧T9.lV k=f5∧T9.lW k=f6)∧Hid (1≤k∧k≤8)∧wd=w1)
 case first=>as_aux_lemma =>
  by_cases hkk:1≤k∧k≤8
  ·have:k=1∨k=2∨k=3∨k=4∨k=5∨k=6∨k=7∨k=8:=by omega
   clear hkk
   rcases this with rfl | rfl | rfl | rfl | rfl | rfl | rfl | rfl
   all_goals
    go_wp2_with fail
    go_meet
    case rel=>exact⟨_,_,_,_,_,_,rfl,rfl,rfl,rfl,rfl,rfl,hid (by decide),hid (by decide),rfl⟩
  ·have V:Hid (T9.bA M=150):=hid (T9.fO (T9.r9 (by rw [HM.out];unfold T9.dz;rw [decide_eq_false hkk];simp)))
   have n1:(k==1)=false:=by simp;omega
   have n2:(k==2)=false:=by simp;omega
   have n3:(k==3)=false:=by simp;omega
   have n4:(k==4)=false:=by simp;omega
   have n5:(k==5)=false:=by simp;omega
   have n6:(k==6)=false:=by simp;omega
   have n7:(k==7)=false:=by simp;omega
   have n8:(k==8)=false:=by simp;omega
   clear hkk
   go_wp2
   go_ret
   exact⟨by rw [V.out] <;> rfl,B1.out⟩
 case rest =>
 obtain⟨f1,f2,f3,f4,f5,f6,rfl,rfl,rfl,rfl,rfl,rfl,HFS,HR,hwd⟩:=hcut
 have hwd:=hwd.symm
 subst hwd
 go_upto_region 19 with fail
 obtain⟨ns,hns⟩:∃ b,decide ((0:Int)<(ls.length:Int)+(ms.length:Int))=b:=⟨_,rfl⟩
 simp only [hns]
 have H9:=hid hns
 clear hns
 go_cut [96] (fun s96 wd=>s96=.bool (T9.qY f1 f2 f3 f4 f5 f6 line aK bE bI is.length las.length ns)∧wd=w1)
 case first=>as_aux_lemma =>
  have PT:(f1=true∧f2=false∧f3=false∧f4=false∧f5=false∧f6=false)∨(f1=true∧f2=false∧f3=false∧f4=true∧f5=false∧f6=false)∨(f1=false∧f2=false∧f3=false∧f4=false∧f5=true∧f6=false)∨(f1=true∧f2=true∧f3=false∧f4=false∧f5=false∧f6=false)∨(f1=false∧f2=true∧f3=true∧f4=true∧f5=false∧f6=false)∨(f1=false∧f2=false∧f3=true∧f4=false∧f5=true∧f6=true):=by
   have hkk:=HR.out
   obtain⟨e1,e2,e3,e4,e5,e6⟩:=HFS.out
   have:k=1∨k=2∨k=3∨k=4∨k=5∨k=6∨k=7∨k=8:=by omega
   rw [← e1,← e2,← e3,← e4,← e5,← e6]
   rcases this with rfl | rfl | rfl | rfl | rfl | rfl | rfl | rfl <;> decide
  have P1:∀ n:Nat,(0:Int)<(n:Int)+1:=fun n=>by omega
  have P2:∀ n q:Nat,(0:Int)<(n:Int)+1+(q:Int):=fun n q=>by omega
  have P3:∀ n:Nat,(((n:Int)+1)==0)=false:=fun n=>by simp;omega
  have P4:∀ n:Nat,(((n:Int)+1) != 0)=true:=fun n=>by simp;omega
  clear HM HT HI HA KC HF HN HFS HR B1 LB hwl
  rcases PT with⟨rfl,rfl,rfl,rfl,rfl,rfl⟩ | ⟨rfl,rfl,rfl,rfl,rfl,rfl⟩ | ⟨rfl,rfl,rfl,rfl,rfl,rfl⟩ | ⟨rfl,rfl,rfl,rfl,rfl,rfl⟩ | ⟨rfl,rfl,rfl,rfl,rfl,rfl⟩ | ⟨rfl,rfl,rfl,rfl,rfl,rfl⟩
  ·cases aK
   rotate_left
   cases bE
   cases bI
   cases is
   cases las
   cases ns
   all_goals as_aux_lemma =>
    go_wp2_with fail
    go_meet
    case rel=>exact⟨congrArg Value.bool (by unfold T9.qY;simp;try omega),rfl⟩
  ·cases aK
   rotate_left
   cases bE
   cases bI
   cases las
   cases ns
   all_goals as_aux_lemma =>
    go_wp2_with fail
    go_meet
    case rel=>exact⟨congrArg Value.bool (by unfold T9.qY;simp;try omega),rfl⟩
  ·cases aK
   rotate_left
   cases line
   cases bE
   cases bI
   cases is
   cases ns
   all_goals as_aux_lemma =>
    go_wp2_with fail
    go_meet
    case rel=>exact⟨congrArg Value.bool (by unfold T9.qY;simp;try omega),rfl⟩
  ·cases aK
   rotate_left
   cases bI
   cases is
   cases las
   cases ns
   all_goals as_aux_lemma =>
    go_wp2_with fail
    go_meet
    case rel=>exact⟨congrArg Value.bool (by unfold T9.qY;simp;try omega),rfl⟩
  ·cases aK
   rotate_left
   cases line
   cases las
   cases ns
   all_goals as_aux_lemma =>
    go_wp2_with fail
    go_meet
    case rel=>exact⟨congrArg Value.bool (by unfold T9.qY;simp;try omega),rfl⟩
  ·cases aK
   rotate_left
   cases line
   cases bE
   cases is
   all_goals as_aux_lemma =>
    go_wp2_with fail
    go_meet
    case rel=>exact⟨congrArg Value.bool (by unfold T9.qY;simp;try omega),rfl⟩
 case rest =>
 obtain⟨rfl,hwd⟩:=hcut
 have hwd:=hwd.symm
 subst hwd
 obtain⟨r,hr⟩:∃ r,T9.qY f1 f2 f3 f4 f5 f6 line aK bE bI is.length las.length ns=r:=⟨_,rfl⟩
 have h_:Hid ((decide (aK=0) || !T9.dz M)=r):=hid (by
  obtain⟨e1,e2,e3,e4,e5,e6⟩:=HFS.out
  have q:=HN.out HR.out
  unfold T9.notN at q
  rw [e1,e2,e3,e4,e5,e6,show (((ls.length+ms.length:Nat):Int))=(ls.length:Int)+(ms.length:Int) from by push_cast;rfl,H9.out,hr] at q
  exact q.symm)
 rw [hr]
 clear hr
 cases r
 case true =>
  have V:Hid (T9.bA M=150):=hid (T9.fO (by
   have q:=h_.out
   by_cases hb:aK=0
   ·exact T9.Dq (by rw [HM.out];exact hb)
   ·rw [decide_eq_false hb] at q
    exact T9.r9 (by simpa using q)))
  go_wp2
  go_ret
  exact⟨by rw [V.out] <;> rfl,B1.out⟩
 go_upto_region 21 with fail
 go_cut [128] (fun s128 wd=>s128=.bool (T9.notE k is.length las.length)∧wd=w1)
 case first=>as_aux_lemma =>
  clear HM HT HI HA KC HF HN HFS HR B1 LB hwl h_
  by_cases k3:k=3
  ·subst k3
   rcases is with _ | ⟨x,t⟩
   ·skip
    go_wp2_with fail
    go_meet
    case rel=>exact⟨congrArg Value.bool (by unfold T9.notE;simp),rfl⟩
   ·skip
    have P3:((((t.length:Nat):Int)+1)==0)=false:=by simp;omega
    by_cases y1:(8:Int)<(t.length:Int)+1
    rotate_left
    by_cases y2:(2000:Int)<(las.length:Int)
    all_goals
     go_wp2_with fail
     go_meet
     case rel=>exact⟨congrArg Value.bool (by unfold T9.notE;simp;try omega),rfl⟩
  have n3:(k==3)=false:=by simp [k3]
  by_cases k4:k=4
  ·subst k4
   clear k3 n3
   rcases las with _ | ⟨x,t⟩
   ·skip
    go_wp2_with fail
    go_meet
    case rel=>exact⟨congrArg Value.bool (by unfold T9.notE;simp),rfl⟩
   ·skip
    have P3:((((t.length:Nat):Int)+1)==0)=false:=by simp;omega
    by_cases y1:(8:Int)<(is.length:Int)
    rotate_left
    by_cases y2:(2000:Int)<(t.length:Int)+1
    all_goals
     go_wp2_with fail
     go_meet
     case rel=>exact⟨congrArg Value.bool (by unfold T9.notE;simp;try omega),rfl⟩
  have n4:(k==4)=false:=by simp [k4]
  clear k3 k4
  by_cases y1:(8:Int)<(is.length:Int)
  rotate_left
  by_cases y2:(2000:Int)<(las.length:Int)
  all_goals
   go_wp2_with fail
   go_meet
   case rel=>exact⟨congrArg Value.bool (by unfold T9.notE;simp [n3,n4];try omega),rfl⟩
 case rest =>
 obtain⟨rfl,hwd⟩:=hcut
 have hwd:=hwd.symm
 subst hwd
 obtain⟨r,hr⟩:∃ r,T9.notE k is.length las.length=r:=⟨_,rfl⟩
 have HE2:=hid hr
 rw [hr]
 clear hr
 cases r
 case true =>
  have V:Hid (T9.bA M=150):=hid (T9.fO (T9.Dj (by rw [HM.out];exact HE2.out)))
  go_wp2
  go_ret
  exact⟨by rw [V.out] <;> rfl,B1.out⟩
 have NE:=hid (T9.notE_no HE2.out)
 have hl8:is.length≤8:=NE.out.2.2.1
 have hl2:las.length≤2000:=NE.out.2.2.2
 clear hwl
 go_wp2_with fail
 go_loopw [132] (fun s132 wr=>∃ i:Nat,s132=.int .i64 i∧i≤is.length∧Hid ((is.take i).all T9.lu=true)∧Aside (Below w1.heap.size w1 wr)) (fun s132 _=>is.length - (intOf s132).toNat)
 case atStart=>exact⟨0,rfl,Nat.zero_le _,hid (by simp),Below.refl _ _⟩
 case round =>
  obtain⟨wo,hwo⟩:∃ u,u=wr:=⟨_,rfl⟩
  subst hwo
  obtain⟨i,rfl,hi,HU,hB⟩:=hrel
  have BR:=hid hB.out
  clear hB
  by_cases hlt:i<is.length
  ·have hltz:(i:Int)<(is.length:Int):=by omega
   obtain⟨ad,x,hA,hx,r0,r1,r2,r3,r4,r5,r6,r7⟩:=(HI.out.stay BR.out).at_ (k:=i) hlt
   subst hA
   have X:=hid hx
   obtain⟨wa,hwa⟩:∃ u,wo.alloc (.cells #[.int .u64 (x.who:Int),.int .u64 (x.id:Int),.int .i64 x.m.kind,.int .u64 (x.m.id:Int),.int .u64 (x.m.list:Int),.string (str x.m.text),.float .f64 x.m.f,.bool x.m.flag] 57)=u:=⟨_,rfl⟩
   obtain⟨lb,ba,_⟩:=bi hwa
   have BA:Hid (Below w1.heap.size w1 wa):=hid (BR.out.trans (ba.mono BR.out.size))
   obtain⟨m0,m1,m2,m3,m4,m5,m6,m7⟩:=ay lb
   have NO:T9.lu x=false→Hid (T9.bA M=150):=fun q=>hid (T9.fO (T9.rY (by
    rw [HM.out]
    unfold T9.eQ
    rw [List.all_eq_false.2 ⟨x,List.mem_of_getElem? X.out,by simp [q]⟩]
    simp)))
   have CK:=hid (qf (m:=x.m) (w:=wa) (by have:=HT.out x (List.mem_of_getElem? X.out);omega))
   unfold T9.Mu.val at CK
   clear hx lb ba
   by_cases h1:x.who=0
   ·have V:=NO (by unfold T9.lu;simp [h1])
    have e1:((x.who:Int)==0)=true:=by simp [h1]
    clear NO h1
    go_wp2
    go_ret
    exact⟨by rw [V.out] <;> rfl,B1.out.trans (BA.out.mono B1.out.size)⟩
   have e1:((x.who:Int)==0)=false:=by simp [h1]
   by_cases h2:x.id=0
   ·have V:=NO (by unfold T9.lu;simp [h2])
    have e2:((x.id:Int)==0)=true:=by simp [h2]
    clear NO h2 h1
    go_wp2
    go_ret
    exact⟨by rw [V.out] <;> rfl,B1.out.trans (BA.out.mono B1.out.size)⟩
   have e2:((x.id:Int)==0)=false:=by simp [h2]
   obtain⟨ce,hce⟩:∃ v,T9.aU x.m=v:=⟨_,rfl⟩
   rw [hce] at CK
   by_cases h3:ce=0
   case neg =>
    have V:=NO (by unfold T9.lu;rw [hce,decide_eq_false h3];simp)
    have z1:(ce==0)=false:=by simp [h3]
    have z2:(ce != 0)=true:=by simp [h3]
    clear NO h1 h2 h3 hce
    go_wp2_with fail
    refine CK.out.mono ?_
    rintro e w3 ⟨rfl,c3⟩
    have C3:=hid (BA.out.trans (c3.mono BA.out.size))
    clear c3
    go_wp2
    go_ret
    exact⟨by rw [V.out] <;> rfl,B1.out.trans (C3.out.mono B1.out.size)⟩
   subst h3
   have OKX:Hid (T9.lu x=true):=hid (by unfold T9.lu;rw [hce];simp [h1,h2])
   clear NO h1 h2 hce
   go_wp2_with fail
   refine CK.out.mono ?_
   rintro e w3 ⟨rfl,c3⟩
   have C3:=hid (BA.out.trans (c3.mono BA.out.size))
   clear c3
   go_wp2
   go_roundw
   case rel=>exact⟨i+1,by go_num,by omega,hid (by rw [aF X.out,List.all_append,HU.out];simp [OKX.out]),C3.out⟩
   case measure=>simp [intOf];omega
  ·obtain rfl:i=is.length:=by omega
   have hltz:¬ ((is.length:Int)<(is.length:Int)):=by omega
   have AI:Hid (is.all T9.lu=true):=hid (by have:=HU.out;rwa [List.take_length] at this)
   obtain⟨l0,l1,l2,l3,l4,l5,l6,l7,l8⟩:=ag (ah LB.out BR.out)
   clear HU
   go_wp2_with fail
   go_loopw [154] (fun s154 wr=>∃ i:Nat,s154=.int .i64 i∧i≤las.length∧Hid (T9.bT 0 (las.take i)=true)∧Aside (Below w1.heap.size w1 wr)) (fun s154 _=>las.length - (intOf s154).toNat)
   case atStart=>exact⟨0,rfl,Nat.zero_le _,hid rfl,BR.out⟩
   case round =>
    obtain⟨j,rfl,hj,HU,hB⟩:=hrel
    have BS:=hid hB.out
    clear hB l0 l1 l2 l3 l4 l5 l6 l7 l8
    by_cases hlt2:j<las.length
    ·have eD:(j:Int)<(las.length:Int):=by omega
     obtain⟨ad,x,hA,hx,r0,r1⟩:=(HA.out.stay BS.out).at_ (k:=j) hlt2
     subst hA
     obtain⟨xw,xi⟩:=x
     dsimp only at r0 r1
     have X:=hid hx
     obtain⟨wa,hwa⟩:∃ u,wr.alloc (.cells #[.int .u64 (xw:Int),.int .u64 (xi:Int)] 61)=u:=⟨_,rfl⟩
     obtain⟨lb,ba,_⟩:=aM hwa
     have BA:Hid (Below w1.heap.size w1 wa):=hid (BS.out.trans (ba.mono BS.out.size))
     obtain⟨m0,m1⟩:=ai lb
     obtain⟨l0,l1,l2,l3,l4,l5,l6,l7,l8⟩:=ag (ah LB.out BA.out)
     have SN:Hid (T9.bT 0 (las.take (j+1))=(decide (T9.gB 0 (las.take j)<xw) && decide (0<xi))):=hid (by rw [aF hx,T9.jH,HU.out,Bool.true_and])
     have NO:T9.bT 0 (las.take (j+1))=false→Hid (T9.bA M=150):=fun q=>hid (T9.fO (T9.rZ (by rw [HM.out];unfold T9.dX;rw [T9.qp q];simp)))
     clear hx lb ba
     by_cases h1:xw=0
     ·have V:=NO (by rw [SN.out,h1];simp)
      have e1:((xw:Int)==0)=true:=by simp [h1]
      clear NO h1
      go_wp2_with fail
      go_quiet (fail)
      go_wp2
      go_ret
      exact⟨by rw [V.out] <;> rfl,B1.out.trans ((below_drewN BA.out _).mono B1.out.size)⟩
     have e1:((xw:Int)==0)=false:=by simp [h1]
     by_cases h2:xi=0
     ·have V:=NO (by rw [SN.out,h2];simp)
      have e2:((xi:Int)==0)=true:=by simp [h2]
      clear NO h2 h1
      go_wp2_with fail
      go_quiet (fail)
      go_wp2
      go_ret
      exact⟨by rw [V.out] <;> rfl,B1.out.trans ((below_drewN BA.out _).mono B1.out.size)⟩
     have e2:((xi:Int)==0)=false:=by simp [h2]
     by_cases h3:j=0
     ·have F:Hid (T9.bT 0 (las.take (j+1))=true):=hid (by rw [SN.out,h3];simp [T9.gB];omega)
      have d1:decide ((0:Int)<(j:Int))=false:=by simp <;> omega
      have d3:decide (0<j)=false:=by simp <;> omega
      have d4:¬ (0:Int)<(j:Int):=by omega
      have d5:¬ 0<j:=by omega
      clear NO h1 h2 h3
      go_wp2_with fail
      go_quiet (fail)
      go_wp2
      go_roundw
      case rel=>exact⟨j+1,by go_num,by omega,F,below_drewN BA.out _⟩
      case measure=>simp [intOf];omega
     obtain⟨q,rfl⟩:∃ q,j=q+1:=⟨j - 1,by omega⟩
     obtain⟨iD,y,hA2,hy,r2,r3⟩:=(HA.out.stay BA.out).at_ (k:=q) (by omega)
     injection hA2 with hA2
     subst hA2
     obtain⟨yw,yi⟩:=y
     dsimp only at r2 r3
     have LST:Hid (T9.gB 0 (las.take (q+1))=yw):=hid (by rw [aF hy,T9.jy])
     have d1:decide ((0:Int)<((q+1:Nat):Int))=true:=by simp <;> omega
     have d1':decide ((0:Int)<(q:Int)+1)=true:=by simp <;> omega
     have sw:wrap64 (((q+1:Nat):Int) - 1)=(q:Int):=by unfold wrap64;omega
     have sw':IntKind.i64.wrap (((q+1:Nat):Int) - 1)=(q:Int):=by rw [IntKind.wrap_i64];omega
     have sw2:IntKind.i64.wrap (q:Int)=(q:Int):=by rw [IntKind.wrap_i64];omega
     have q0:0≤(q:Int):=by omega
     have q1:(q:Int)<(las.length:Int):=by omega
     clear hy r3 h3
     by_cases h4:xw≤yw
     ·have V:=NO (by rw [SN.out,LST.out,decide_eq_false (by omega)];rfl)
      have d2:decide ((xw:Int)≤(yw:Int))=true:=by simp <;> omega
      have d3:decide (xw≤yw)=true:=by simp <;> omega
      have d4:decide (yw<xw)=false:=by simp <;> omega
      have d5:(xw:Int)≤(yw:Int):=by omega
      clear NO h1 h2 h4
      go_wp2_with fail
      go_quiet (fail)
      go_wp2
      go_ret
      exact⟨by rw [V.out] <;> rfl,B1.out.trans ((below_drewN BA.out _).mono B1.out.size)⟩
     have F:Hid (T9.bT 0 (las.take (q+1+1))=true):=hid (by rw [SN.out,LST.out,decide_eq_true (by omega),decide_eq_true (by omega)];rfl)
     have d2:decide ((xw:Int)≤(yw:Int))=false:=by simp <;> omega
     have d3:decide (xw≤yw)=false:=by simp <;> omega
     have d4:decide (yw<xw)=true:=by simp <;> omega
     have d5:¬ (xw:Int)≤(yw:Int):=by omega
     clear NO h1 h2 h4
     go_wp2_with fail
     go_quiet (fail)
     go_wp2
     go_roundw
     case rel=>exact⟨q+1+1,by go_num,by omega,F,below_drewN BA.out _⟩
     case measure=>simp [intOf];omega
    ·obtain rfl:j=las.length:=by omega
     have eD:¬ ((las.length:Int)<(las.length:Int)):=by omega
     have AL:Hid (T9.bT 0 las=true):=hid (by have:=HU.out;rwa [List.take_length] at this)
     obtain⟨l0,l1,l2,l3,l4,l5,l6,l7,l8⟩:=ag (ah LB.out BS.out)
     obtain⟨re,hre⟩:∃ b,T9.aH M.st=b:=⟨_,rfl⟩
     have RK:=hid ((KC.out wr BS.out).out)
     have Cx:=hre
     rw [HM.out] at Cx
     have Cx:T9.aH (ji.st ⟨ls,SA,sc,ms,SA2,sc2⟩)=re:=Cx
     rw [Cx] at RK
     have HRE:=hid hre
     clear HU hre Cx
     by_cases h5:re=0
     case neg =>
      have V:Hid (T9.bA M=150):=hid (T9.fO (T9.Aj (by rw [HRE.out];exact h5)))
      have z1:(re==0)=false:=by simp [h5]
      have z2:(re != 0)=true:=by simp [h5]
      clear h5
      go_wp2_with fail
      refine RK.out.mono ?_
      rintro e w3 ⟨rfl,c3⟩
      have C3:=hid (BS.out.trans (c3.mono BS.out.size))
      clear c3
      go_wp2
      go_ret
      exact⟨by rw [V.out] <;> rfl,B1.out.trans (C3.out.mono B1.out.size)⟩
     subst h5
     have YES:(k=7→bE≤bI∧bI - bE=is.length)→Hid (T9.bA M=0):=fun q=>hid (T9.mV.2 (T9.okW_yes (m:=M) (by rw [HM.out];have:=h_.out;rw [HM.out] at this;exact this) (by rw [HM.out];exact NE.out) (by rw [HM.out];exact AI.out) (by rw [HM.out];exact AL.out) HRE.out (by rw [HM.out];exact q)))
     have NOE:k=7→¬ (bE≤bI∧bI - bE=is.length)→Hid (T9.bA M=150):=fun q1 q2=>hid (T9.fO (T9.kT (by rw [HM.out];unfold T9.dh;dsimp only;rw [decide_eq_true q1,decide_eq_false q2];simp)))
     go_wp2_with fail
     refine RK.out.mono ?_
     rintro e w3 ⟨rfl,c3⟩
     have C3:=hid (BS.out.trans (c3.mono BS.out.size))
     obtain⟨l0,l1,l2,l3,l4,l5,l6,l7,l8⟩:=ag (ah LB.out C3.out)
     clear c3
     by_cases k7:k=7
     case neg =>
      have V:=YES (fun q=>absurd q k7)
      have n7:(k==7)=false:=by simp [k7]
      clear YES NOE k7
      go_wp2
      go_ret
      exact⟨by rw [V.out] <;> rfl,B1.out.trans (C3.out.mono B1.out.size)⟩
     have n7:(k==7)=true:=by simp [k7]
     by_cases h6:bI<bE
     ·have V:=NOE k7 (by omega)
      have z:(bI:Int)<(bE:Int):=by omega
      have z':decide ((bI:Int)<(bE:Int))=true:=by simp;omega
      clear YES NOE k7 h6
      go_wp2
      go_ret
      exact⟨by rw [V.out] <;> rfl,B1.out.trans (C3.out.mono B1.out.size)⟩
     have z:¬ (bI:Int)<(bE:Int):=by omega
     have z':decide ((bI:Int)<(bE:Int))=false:=by simp;omega
     have wl:IntKind.u64.wrap (is.length:Int)=(is.length:Int):=by rw [Fl.wrap_u64];omega
     have ws2:IntKind.u64.wrap ((bI:Int) - (bE:Int))=((bI - bE:Nat):Int):=by have:=HF.out;rw [Fl.wrap_u64];omega
     by_cases h7:bI - bE=is.length
     ·have V:=YES (fun _=>⟨by omega,h7⟩)
      have z2:(((bI - bE:Nat):Int) != (is.length:Int))=false:=by simp [h7]
      obtain⟨u,hu⟩:∃ u,bI - bE=u:=⟨_,rfl⟩
      rw [hu] at ws2 z2
      clear YES NOE k7 h6 h7 hu
      go_wp2
      go_ret
      exact⟨by rw [V.out] <;> rfl,B1.out.trans (C3.out.mono B1.out.size)⟩
     ·have V:=NOE k7 (by omega)
      have z2:(((bI - bE:Nat):Int) != (is.length:Int))=true:=by rw [bne,aZ];simp [h7]
      obtain⟨u,hu⟩:∃ u,bI - bE=u:=⟨_,rfl⟩
      rw [hu] at ws2 z2
      clear YES NOE k7 h6 h7 hu
      go_wp2
      go_ret
      exact⟨by rw [V.out] <;> rfl,B1.out.trans (C3.out.mono B1.out.size)⟩
end
end
end Go.Proofs.YtmcfknnfaokmlaaGreat
