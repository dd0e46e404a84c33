import Derived.Test.YtcedlgedmkghgaaGreatZ14
import Derived.Test.YtcedlgedmkghgaaGreatZ32
import Derived.Test.YtcedlgedmkghgaaGreatZ38
import Derived.Test.YtcedlgedmkghgaaGreatZ37
import Derived.Test.YtcedlgedmkghgaaGreatZ26
import Derived.Test.YtcedlgedmkghgaaGreatZ31
namespace Go.Proofs.YtcedlgedmkghgaaGreat
set_option maxHeartbeats 16000000
open Go.Lib Go.Proofs.Tryz
set_option linter.unusedSimpArgs false
set_option maxRecDepth 100000
section
open Go.RowKit Go.Lib
theorem IK {ls:List T9.Li} {A:Option Addr} {n1 c:Nat} {ms:List aL} {A2:Option Addr} {n2 c2:Nat} {id list f:Nat} {text:List UInt8} {flag:Bool} {w:World} (hS:DS ⟨ls,A,c,ms,A2,c2⟩ w) (hB:DB ⟨ls,ay ms⟩) (e1:n1=ls.length) (e2:n2=ms.length) :
  Calls prog 75 #[.agg #[.slice A n1 c,.slice A2 n2 c2],.agg #[.int .i64 3,.int .u64 (id:Int),.int .u64 (list:Int),.string (str text),.float .f64 f,.bool flag]] w (oF ⟨ls,ay ms⟩ ⟨3,id,list,text,f,flag⟩ w):=by
 have E1:=hid e1
 have E2:=hid e2
 have HB:=hid hB
 have N1:Hid (n1≤1000):=hid (by rw [e1];exact hB.n1)
 have N2:Hid (n2≤1000):=hid (by have:=hB.n2;rw [e2,← aI];exact this)
 obtain⟨w1,hw1⟩:∃ u,w.alloc (.cells #[.slice A n1 c,.slice A2 n2 c2] 25)=u:=⟨_,rfl⟩
 obtain⟨a1,b1,z1⟩:=ak hw1
 obtain⟨w2,hw2⟩:∃ u,w1.alloc (.cells #[.int .i64 3,.int .u64 (id:Int),.int .u64 (list:Int),.string (str text),.float .f64 f,.bool flag] 65)=u:=⟨_,rfl⟩
 obtain⟨a2,b2,z2⟩:=bu hw2
 obtain⟨w3,hw3⟩:∃ u,w2.alloc (.cells #[.slice none 0 0,.slice none 0 0] 25)=u:=⟨_,rfl⟩
 obtain⟨a3,b3,z3⟩:=ak hw3
 rw [z1] at a2
 rw [z2,z1] at a3
 have zz:w3.heap.size=w.heap.size+3:=by omega
 have PB:Hid (w3.heap[w.heap.size]?=some (.cells #[.slice A n1 c,.slice A2 n2 c2] 25 (0,0))):=hid (ae (ae a1 b2) b3)
 have MB:Hid (w3.heap[w.heap.size+1]?=some (.cells #[.int .i64 3,.int .u64 (id:Int),.int .u64 (list:Int),.string (str text),.float .f64 f,.bool flag] 65 (0,0))):=hid (ae a2 b3)
 have RB:Hid (w3.heap[w.heap.size+2]?=some (.cells #[.slice none 0 0,.slice none 0 0] 25 (0,0))):=hid a3
 have B3:Hid (Below w.heap.size w w3):=hid ((b1.trans (b2.mono (by omega))).trans (b3.mono (by omega)))
 have D3:=hid (hS.stay B3.out)
 have C1:=hid (bv (A2:=A2) (n2:=n2) (c:=c) (c2:=c2) (show LL w3 A ls from D3.out.l.old) e1 (by have:=N1.out;omega) id)
 obtain⟨p0,p1⟩:=aa PB.out
 obtain⟨m0,m1,m2,m3,m4,m5⟩:=ag MB.out
 have ZZ:=hid zz
 have qD:=z1
 have qE:w2.heap.size=w.heap.size+2:=by omega
 clear hS hB e1 e2 a1 a2 a3 b1 b2 b3 z1 z2 z3 zz
 go_enter func75,ntmps75
 go_wp2_with fail
 refine C1.out.mono ?_
 rintro e w4 ⟨rfl,hb4⟩
 clear hw1 hw2 hw3 C1 qD qE p0 p1 m0 m1 m2 m3 m4 m5
 obtain⟨i1,t1,hf1⟩:∃ i t,T9.aX ls id=(⟨i,t⟩,T9.bC ls id):=⟨(T9.aX ls id).1.id,(T9.aX ls id).1.name,by rw [← bF]⟩
 rw [hf1]
 obtain⟨w5,fQ⟩:∃ u,w4.alloc (.cells #[.int .u64 (i1:Int),.string (str t1)] 71)=u:=⟨_,rfl⟩
 obtain⟨-,b5,-⟩:=ak fQ
 have B5:Hid (Below w3.heap.size w3 w5):=hid (hb4.trans (b5.mono hb4.size))
 have C2:=hid (bv (A2:=A2) (n2:=n2) (c:=c) (c2:=c2) (show LL w5 A ls from (D3.out.stay B5.out).l.old) E1.out (by have:=N1.out;omega) list)
 obtain⟨p0,p1⟩:=aa (ae PB.out B5.out)
 obtain⟨m0,m1,m2,m3,m4,m5⟩:=ag (ae MB.out B5.out)
 obtain⟨p4,p5⟩:=aa (ae PB.out hb4)
 unfold bf
 dsimp only
 clear hf1 b5 hb4
 go_wp2_with fail
 refine C2.out.mono ?_
 rintro e w6 ⟨rfl,hb6⟩
 clear fQ C2 p0 p1 p4 p5 m0 m1 m2 m3 m4 m5
 obtain⟨i2,t2,hf2⟩:∃ i t,T9.aX ls list=(⟨i,t⟩,T9.bC ls list):=⟨(T9.aX ls list).1.id,(T9.aX ls list).1.name,by rw [← bF]⟩
 rw [hf2]
 obtain⟨w7,hw7⟩:∃ u,w6.alloc (.cells #[.int .u64 (i2:Int),.string (str t2)] 71)=u:=⟨_,rfl⟩
 obtain⟨-,b7,-⟩:=ak hw7
 have B7:Hid (Below w3.heap.size w3 w7):=hid (B5.out.trans ((hb6.trans (b7.mono hb6.size)).mono B5.out.size))
 have C3:=hid (dE (A:=A) (n1:=n1) (c:=c) (c2:=c2) (D3.out.stay B7.out).kl E2.out (by have:=N2.out;omega) (D3.out.stay B7.out).t id)
 obtain⟨p0,p1⟩:=aa (ae PB.out B7.out)
 obtain⟨m0,m1,m2,m3,m4,m5⟩:=ag (ae MB.out B7.out)
 unfold bf
 dsimp only
 clear hf2 b7 hb6
 go_wp2_with fail
 refine C3.out.mono ?_
 rintro e w8 ⟨⟨tk,A4,c4⟩,rfl,htk,hft,fM⟩
 clear hw7 C3 p0 p1 m0 m1 m2 m3 m4 m5
 have uw:Hid (tk=(T9.dH (ay ms) id).1):=hid htk
 rw [dY]
 obtain⟨w9,jD⟩:∃ u,w8.alloc (.cells #[.int .u64 (tk.id:Int),.int .u64 (tk.list:Int),.string (str tk.title),.bool tk.done,.float .f64 tk.rank,.float .f64 tk.est,.slice A4 tk.tags.length c4] 74)=u:=⟨_,rfl⟩
 obtain⟨jF,b9,-⟩:=bn jD
 have B9:Hid (Below w3.heap.size w3 w9):=hid (B7.out.trans ((fM.trans (b9.mono fM.size)).mono B7.out.size))
 have LB:=hid jF
 have ZG:Hid (w.heap.size+3≤w8.heap.size∧w8.heap.size<w9.heap.size):=hid ⟨by have:=ZZ.out;have:=B7.out.size;have:=fM.size;omega,lt_of_block jF⟩
 have FT:=hid (hft.stay b9)
 have D9:=hid (D3.out.stay B9.out)
 have P9:=hid (ae PB.out B9.out)
 have M9:=hid (ae MB.out B9.out)
 have R9:=hid (ae RB.out B9.out)
 have BW:=hid (B3.out.trans (B9.out.mono B3.out.size))
 obtain⟨p0,p1⟩:=aa P9.out
 obtain⟨m0,m1,m2,m3,m4,m5⟩:=ag M9.out
 obtain⟨r0,r1⟩:=aa R9.out
 have jC:=af R9.out 0
 have jl:=af R9.out 1
 unfold az
 dsimp only
 clear htk hft fM jF b9 PB MB RB D3
 cases hhHH:T9.d_ (ay ms) id with
 | true =>
  have HH:=hid hhHH
  clear hhHH
  have V:=hid (T9.Gf (s:=⟨ls,ay ms⟩) (list:=list) (f:=f) (text:=text) (flag:=flag) HH.out)
  have KB:Hid (((w9.setCell ⟨w.heap.size+2,0,none⟩ (.slice A n1 c)).setCell ⟨w.heap.size+2,1,none⟩ (.slice A2 n2 c2)).heap[w.heap.size+2]?=some (.cells #[.slice A n1 c,.slice A2 n2 c2] 25 (0,0))):=hid (ah (ah R9.out 0 _) 1 _)
  obtain⟨k0,k1⟩:=aa KB.out
  go_wp2
  refine bodyPost_ret (v:=.tuple #[.agg #[.slice A n1 c,.slice A2 n2 c2],.int .i64 (T9.eB ⟨ls,ay ms⟩ ⟨3,id,list,text,f,flag⟩).1]) (by rw [V.out];simp [results,results75,go_sem,k0,k1]) rfl ?_
  refine⟨⟨ls,A,c,ms,A2,c2⟩,_,by rw [E1.out,E2.out];rfl,rfl,(fun z=>by rw [V.out] at z;cases z),?_⟩
  exact (BW.out.setCell (by show w.heap.size≤w.heap.size+2;omega) _).setCell (by show w.heap.size≤w.heap.size+2;omega) _
 | false =>
  have HH:=hid hhHH
  clear hhHH
  cases hhH2:T9.bC ls list with
  | false =>
   have H2:=hid hhH2
   clear hhH2
   have V:=hid (T9.Gg (s:=⟨ls,ay ms⟩) (f:=f) (text:=text) (flag:=flag) HH.out H2.out)
   have KB:Hid (((w9.setCell ⟨w.heap.size+2,0,none⟩ (.slice A n1 c)).setCell ⟨w.heap.size+2,1,none⟩ (.slice A2 n2 c2)).heap[w.heap.size+2]?=some (.cells #[.slice A n1 c,.slice A2 n2 c2] 25 (0,0))):=hid (ah (ah R9.out 0 _) 1 _)
   obtain⟨k0,k1⟩:=aa KB.out
   go_wp2
   refine bodyPost_ret (v:=.tuple #[.agg #[.slice A n1 c,.slice A2 n2 c2],.int .i64 (T9.eB ⟨ls,ay ms⟩ ⟨3,id,list,text,f,flag⟩).1]) (by rw [V.out];simp [results,results75,go_sem,k0,k1]) rfl ?_
   refine⟨⟨ls,A,c,ms,A2,c2⟩,_,by rw [E1.out,E2.out];rfl,rfl,(fun z=>by rw [V.out] at z;cases z),?_⟩
   exact (BW.out.setCell (by show w.heap.size≤w.heap.size+2;omega) _).setCell (by show w.heap.size≤w.heap.size+2;omega) _
  | true =>
   have H2:=hid hhH2
   clear hhH2
   by_cases hc:60≤n2
   ·have hcz:(60:Int)≤(n2:Int):=by omega
    have HC:Hid (60≤(ay ms).length):=hid (by rw [aI,← E2.out];exact hc)
    clear hc
    have V:=hid (T9.Gh (s:=⟨ls,ay ms⟩) (f:=f) (text:=text) (flag:=flag) HH.out H2.out HC.out)
    have KB:Hid (((w9.setCell ⟨w.heap.size+2,0,none⟩ (.slice A n1 c)).setCell ⟨w.heap.size+2,1,none⟩ (.slice A2 n2 c2)).heap[w.heap.size+2]?=some (.cells #[.slice A n1 c,.slice A2 n2 c2] 25 (0,0))):=hid (ah (ah R9.out 0 _) 1 _)
    obtain⟨k0,k1⟩:=aa KB.out
    go_wp2
    refine bodyPost_ret (v:=.tuple #[.agg #[.slice A n1 c,.slice A2 n2 c2],.int .i64 (T9.eB ⟨ls,ay ms⟩ ⟨3,id,list,text,f,flag⟩).1]) (by rw [V.out];simp [results,results75,go_sem,k0,k1]) rfl ?_
    refine⟨⟨ls,A,c,ms,A2,c2⟩,_,by rw [E1.out,E2.out];rfl,rfl,(fun z=>by rw [V.out] at z;cases z),?_⟩
    exact (BW.out.setCell (by show w.heap.size≤w.heap.size+2;omega) _).setCell (by show w.heap.size≤w.heap.size+2;omega) _
   have hcz:¬ ((60:Int)≤(n2:Int)):=by omega
   have HC:Hid (¬ 60≤(ay ms).length):=hid (by rw [aI,← E2.out];exact hc)
   clear hc
   have hbk:=bk11 (id:Int) (list:Int) (str text) f Fl.ig
   have Dd:=hid (D9.out.stay (Below.refl _ w9).drew)
   have FX:Hid ((⟨⟨id,list,text,false,f,Fl.ig,[]⟩,none,0⟩:aL).bU w9.drew):=hid ⟨au.nil,Nat.le_refl _⟩
   have C5:=hid (eY (x:=(⟨⟨id,list,text,false,f,Fl.ig,[]⟩,none,0⟩:aL)) Dd.out.k Dd.out.t FX.out E2.out (by rw [E2.out];exact Dd.out.kc) Dd.out.zk N2.out)
   dsimp only at C5
   clear FX
   go_wp2_with fail
   clear jD p0 p1 m0 m1 m2 m3 m4 m5 r0 r1 jC jl
   refine Any.begin (S:=fun u=>Below w9.heap.size w9 u) (st:=14) wX ?_
   have S0:=(Below.refl w9.heap.size w9).drew
   refine pU 0 ?_ rfl (by kernel_rfl) rfl (by kernel_rfl) rfl ?_ S0 ?_
   rotate_left
   ·intro u hu;go_simp;try rfl
   try simp only [Act.put,pS]
   refine pU 2 ?_ rfl (by kernel_rfl) rfl (by kernel_rfl) rfl ?_ S0 ?_
   rotate_left
   ·intro u hu;go_simp;try rfl
   try simp only [Act.put,pS]
   refine pU 4 ?_ rfl (by kernel_rfl) rfl (by kernel_rfl) rfl ?_ S0 ?_
   rotate_left
   ·intro u hu;go_simp;try rfl
   try simp only [Act.put,pS]
   refine pU 6 ?_ rfl (by kernel_rfl) rfl (by kernel_rfl) rfl ?_ S0 ?_
   rotate_left
   ·intro u hu;go_simp;try rfl
   try simp only [Act.put,pS]
   refine pU 8 ?_ rfl (by kernel_rfl) rfl (by kernel_rfl) rfl ?_ S0 ?_
   rotate_left
   ·intro u hu;go_simp;try rfl
   try simp only [Act.put,pS]
   refine pU 1 ?_ rfl (by kernel_rfl) rfl (by kernel_rfl) rfl ?_ S0 ?_
   rotate_left
   ·intro u hu;obtain⟨y0,y1⟩:=aa (ae P9.out hu);go_simp;try rfl
   try simp only [Act.put,pS]
   refine pU 3 ?_ rfl (by kernel_rfl) rfl (by kernel_rfl) rfl ?_ S0 ?_
   rotate_left
   ·intro u hu;obtain⟨y0,y1,y2,y3,y4,y5⟩:=ag (ae M9.out hu);go_simp;try rfl
   try simp only [Act.put,pS]
   refine pU 5 ?_ rfl (by kernel_rfl) rfl (by kernel_rfl) rfl ?_ S0 ?_
   rotate_left
   ·intro u hu;obtain⟨y0,y1,y2,y3,y4,y5⟩:=ag (ae M9.out hu);go_simp;try rfl
   try simp only [Act.put,pS]
   refine pU 7 ?_ rfl (by kernel_rfl) rfl (by kernel_rfl) rfl ?_ S0 ?_
   rotate_left
   ·intro u hu;obtain⟨y0,y1,y2,y3,y4,y5⟩:=ag (ae M9.out hu);go_simp;try rfl
   try simp only [Act.put,pS]
   refine pU 9 ?_ rfl (by kernel_rfl) rfl (by kernel_rfl) rfl ?_ S0 ?_
   rotate_left
   ·intro u hu;obtain⟨y0,y1,y2,y3,y4,y5⟩:=ag (ae M9.out hu);go_simp;try rfl
   try simp only [Act.put,pS]
   refine Any.one (i:=10) (by kernel_rfl) rfl (fun K hK=>?_)
   go_simp
   refine (tK none 0 (fun _=>0) _).mono ?_
   rintro e w' ⟨rfl,rfl⟩
   rw [show Fl.canon (Fl.Dt false (fun _=>0) 0)=Fl.ig by decide +kernel]
   have S1:=S0
   refine hK _ _ (fun _=>S1) ?_
   clear hK K S0
   have S0:=S1
   clear S1
   try simp only [Act.put,pS]
   refine Any.one (i:=11) (by kernel_rfl) rfl (fun K hK=>?_)
   go_simp
   have S1:=S0
   refine hK _ _ (fun _=>S1) ?_
   clear hK K S0
   have S0:=S1
   clear S1
   try simp only [Act.put,pS]
   refine Any.one (i:=12) (by kernel_rfl) rfl (fun K hK=>?_)
   go_simp
   refine C5.out.mono ?_
   rintro e j4 ⟨df,c11,rfl,mh,mF,gz,jy,dS⟩
   have Fe:Hid (Below w9.heap.size w9 j4):=hid ((Below.refl w9.heap.size w9).drew.trans dS)
   obtain⟨ys,hys⟩:∃ z,Sr.ins iy (⟨⟨id,list,text,false,f,Fl.ig,[]⟩,none,0⟩:aL) ms=z:=⟨_,rfl⟩
   rw [hys] at mh mF gz ⊢
   obtain⟨n11,gy⟩:∃ z,ys.length=z:=⟨_,rfl⟩
   rw [gy]
   have L11:=hid mh
   have T11:=hid mF
   have LC11:=hid gz
   have ZA11:=hid jy
   have HYS:=hid hys
   have HN11:=hid gy
   have jB:=hid (ae P9.out Fe.out)
   have og:=af jB.out 1
   clear mh mF gz jy dS hys gy
   have S1:=Fe.out
   refine hK _ _ (fun _=>S1) ?_
   clear hK K S0
   have S0:=S1
   clear S1
   try simp only [Act.put,pS]
   refine Any.one (i:=13) (by kernel_rfl) rfl (fun K hK=>?_)
   go_simp
   have S1:=S0
   refine hK _ _ (fun _=>S1) ?_
   clear hK K S0
   have S0:=S1
   clear S1
   try simp only [Act.put,pS]
   refine Any.one (i:=14) (by kernel_rfl) rfl (fun K hK=>?_)
   go_simp
   obtain⟨q0,q1⟩:=aa jB.out
   go_simp
   refine hK _ _ (fun z=>absurd rfl z) ?_
   clear hK K S0
   try simp only [Act.put,pS]
   refine Any.done (by kernel_rfl) ?_
   have qH:=ae R9.out Fe.out
   obtain⟨wc,hwc⟩:∃ u,j4.setCell ⟨w.heap.size,1,none⟩ (.slice df n11 c11)=u:=⟨_,rfl⟩
   have PF:Hid (wc.heap[w.heap.size]?=some (.cells #[.slice A n1 c,.slice df n11 c11] 25 (0,0))):=hid (by rw [← hwc];exact ah jB.out 1 _)
   have RF:Hid (wc.heap[w.heap.size+2]?=some (.cells #[.slice none 0 0,.slice none 0 0] 25 (0,0))):=hid (by rw [← hwc];exact av qH (p:=⟨w.heap.size,1,none⟩) (by show w.heap.size+2≠w.heap.size;omega) _)
   have yp:Ty j4 w.heap.size 25:=⟨_,_,jB.out⟩
   have TA:=(aN.refl 0 [25] j4).aC (p:=⟨w.heap.size,1,none⟩) yp (by simp) (Nat.zero_le _) (.slice df n11 c11)
   rw [hwc] at TA
   have DX:DS ⟨ls,A,c,ys,df,c11⟩ j4:=⟨(D9.out.stay Fe.out).l,L11.out,T11.out,D9.out.lc,LC11.out,D9.out.za,ZA11.out⟩
   have DF:=hid (DX.bH TA (by decide) (by decide) (by decide))
   have BF:Hid (Below w.heap.size w wc):=hid (by rw [← hwc];exact (BW.out.trans (Fe.out.mono BW.out.size)).setCell (Nat.le_refl _) _)
   have DM:Hid (T9.eB ⟨ls,ay ms⟩ ⟨3,id,list,text,f,flag⟩=(0,⟨ls,Sr.ins T9.iT ⟨id,list,text,false,f,Fl.ig,[]⟩ (ay ms)⟩)):=hid (T9.Gi (s:=⟨ls,ay ms⟩) (list:=list) (f:=f) (text:=text) (flag:=flag) HH.out H2.out HC.out)
   have QS:Hid ((⟨ls,A,c,ys,df,c11⟩:aW).st=⟨ls,Sr.ins T9.iT ⟨id,list,text,false,f,Fl.ig,[]⟩ (ay ms)⟩):=hid (by
    rw [← HYS.out]
    show (⟨ls,ay (Sr.ins iy (⟨⟨id,list,text,false,f,Fl.ig,[]⟩,none,0⟩:aL) ms)⟩:T9.St)=_
    rw [jo])
   have QV:Hid (Ending.returned (.tuple #[.agg #[.slice A n1 c,.slice df n11 c11],.int .i64 0])=Ending.returned (.tuple #[(⟨ls,A,c,ys,df,c11⟩:aW).val,.int .i64 0])):=hid (by rw [← HN11.out,E1.out];rfl)
   clear qH yp TA DX
   obtain⟨p0,p1⟩:=aa PF.out
   obtain⟨r0,r1⟩:=aa RF.out
   have jC:=af RF.out 0
   have jl:=af RF.out 1
   have KB:Hid (((wc.setCell ⟨w.heap.size+2,0,none⟩ (.slice A n1 c)).setCell ⟨w.heap.size+2,1,none⟩ (.slice df n11 c11)).heap[w.heap.size+2]?=some (.cells #[.slice A n1 c,.slice df n11 c11] 25 (0,0))):=hid (ah (ah RF.out 0 _) 1 _)
   have yr:Ty wc (w.heap.size+2) 25:=⟨_,_,RF.out⟩
   have TF:=hid (((aN.refl 0 [25] wc).aC (p:=⟨w.heap.size+2,0,none⟩) yr (by simp) (Nat.zero_le _) (.slice A n1 c)).aC (p:=⟨w.heap.size+2,1,none⟩) (yr.set _ _) (by simp) (Nat.zero_le _) (.slice df n11 c11))
   obtain⟨k0,k1⟩:=aa KB.out
   clear yr
   go_wp2
   refine bodyPost_ret (v:=.tuple #[.agg #[.slice A n1 c,.slice df n11 c11],.int .i64 0]) (by simp [results,results75,go_sem,k0,k1]) rfl ?_
   refine⟨⟨ls,A,c,ys,df,c11⟩,0,QV.out,by rw [DM.out],fun _=>⟨by rw [DM.out];exact QS.out,DF.out.bH TF.out (by decide) (by decide) (by decide)⟩,?_⟩
   exact (BF.out.setCell (by show w.heap.size≤w.heap.size+2;omega) _).setCell (by show w.heap.size≤w.heap.size+2;omega) _
end
end Go.Proofs.YtcedlgedmkghgaaGreat
