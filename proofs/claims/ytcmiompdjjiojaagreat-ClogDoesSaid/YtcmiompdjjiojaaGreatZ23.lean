import Derived.Test.YtcmiompdjjiojaaGreatZ20
import Derived.Test.YtcmiompdjjiojaaGreatZ19
namespace Go.Proofs.YtcmiompdjjiojaaGreat
set_option maxHeartbeats 16000000
open Go.Lib Go.Proofs.Tryz
set_option linter.unusedSimpArgs false
set_option maxRecDepth 100000
section
open Go.RowKit Go.Lib
theorem Lt {ls:List T9.Li} {A:Option Addr} {n1 c:Nat} {ms:List aN} {A2:Option Addr} {n2 c2:Nat} {id list f:Nat} {text:List UInt8} {flag:Bool} {w:World} (hS:DS ⟨ls,A,c,ms,A2,c2⟩ w) (hB:DB ⟨ls,ay ms⟩) (e1:n1=ls.length) (e2:n2=ms.length) :
  Calls prog 52 #[.agg #[.slice A n1 c,.slice A2 n2 c2],.agg #[.int .i64 3,.int .u64 (id:Int),.int .u64 (list:Int),.string (str text),.float .f64 f,.bool flag]] w (p9 ⟨ls,ay ms⟩ ⟨3,id,list,text,f,flag⟩ w):=by
 have E1:=hid e1
 have E2:=hid e2
 have HB:=hid hB
 have N1:Hid (n1≤1000):=hid (by rw [e1];exact hB.n1)
 have N2:Hid (n2≤1000):=hid (by have:=hB.n2;rw [e2,← aK];exact this)
 obtain⟨w1,hw1⟩:=nm (w.alloc (.cells #[.slice A n1 c,.slice A2 n2 c2] 26))
 obtain⟨a1,b1,z1⟩:=aj hw1
 obtain⟨w2,hw2⟩:=nm (w1.alloc (.cells #[.int .i64 3,.int .u64 (id:Int),.int .u64 (list:Int),.string (str text),.float .f64 f,.bool flag] 57))
 obtain⟨a2,b2,z2⟩:=bn hw2
 obtain⟨w3,hw3⟩:=nm (w2.alloc (.cells #[.slice none 0 0,.slice none 0 0] 26))
 obtain⟨a3,b3,z3⟩:=aj hw3
 rw [z1] at a2
 rw [z2,z1] at a3
 have zz:w3.heap.size=w.heap.size+3:=by omega
 have PB:Hid (w3.heap[w.heap.size]?=some (.cells #[.slice A n1 c,.slice A2 n2 c2] 26 (0,0))):=hid (ae (ae a1 b2) b3)
 have MB:Hid (w3.heap[w.heap.size+1]?=some (.cells #[.int .i64 3,.int .u64 (id:Int),.int .u64 (list:Int),.string (str text),.float .f64 f,.bool flag] 57 (0,0))):=hid (ae a2 b3)
 have RB:Hid (w3.heap[w.heap.size+2]?=some (.cells #[.slice none 0 0,.slice none 0 0] 26 (0,0))):=hid a3
 have B3:Hid (Below w.heap.size w w3):=hid ((b1.trans (b2.mono (by omega))).trans (b3.mono (by omega)))
 have D3:=hid (hS.stay B3.out)
 have C1:=hid (bv (A2:=A2) (n2:=n2) (c:=c) (c2:=c2) (show LL w3 A ls from D3.out.l.old) e1 (by have:=N1.out;omega) id)
 obtain⟨p0,p1⟩:=aa PB.out
 obtain⟨m0,m1,m2,m3,m4,m5⟩:=ag MB.out
 have ZZ:=hid zz
 have rA:=z1
 have rC:w2.heap.size=w.heap.size+2:=by omega
 clear hS hB e1 e2 a1 a2 a3 b1 b2 b3 z1 z2 z3 zz
 go_enter func52,ntmps52
 go_wp2_with fail
 refine C1.out.mono ?_
 rintro e w4 ⟨rfl,hb4⟩
 clear hw1 hw2 hw3 C1 rA rC p0 p1 m0 m1 m2 m3 m4 m5
 obtain⟨i1,t1,hf1⟩:∃ i t,T9.aW ls id=(⟨i,t⟩,T9.bC ls id):=⟨(T9.aW ls id).1.id,(T9.aW ls id).1.name,by rw [← bF]⟩
 rw [hf1]
 obtain⟨w5,fV⟩:=nm (w4.alloc (.cells #[.int .u64 (i1:Int),.string (str t1)] 61))
 obtain⟨-,b5,-⟩:=aj fV
 have B5:Hid (Below w3.heap.size w3 w5):=hid (hb4.trans (b5.mono hb4.size))
 have C2:=hid (bv (A2:=A2) (n2:=n2) (c:=c) (c2:=c2) (show LL w5 A ls from (D3.out.stay B5.out).l.old) E1.out (by have:=N1.out;omega) list)
 obtain⟨p0,p1⟩:=aa (ae PB.out B5.out)
 obtain⟨m0,m1,m2,m3,m4,m5⟩:=ag (ae MB.out B5.out)
 obtain⟨p4,p5⟩:=aa (ae PB.out hb4)
 unfold a_
 dsimp only
 clear hf1 b5 hb4
 go_wp2_with fail
 refine C2.out.mono ?_
 rintro e w6 ⟨rfl,hb6⟩
 clear fV C2 p0 p1 p4 p5 m0 m1 m2 m3 m4 m5
 obtain⟨i2,t2,hf2⟩:∃ i t,T9.aW ls list=(⟨i,t⟩,T9.bC ls list):=⟨(T9.aW ls list).1.id,(T9.aW ls list).1.name,by rw [← bF]⟩
 rw [hf2]
 obtain⟨w7,hw7⟩:=nm (w6.alloc (.cells #[.int .u64 (i2:Int),.string (str t2)] 61))
 obtain⟨-,b7,-⟩:=aj hw7
 have B7:Hid (Below w3.heap.size w3 w7):=hid (B5.out.trans ((hb6.trans (b7.mono hb6.size)).mono B5.out.size))
 have C3:=hid (dG (A:=A) (n1:=n1) (c:=c) (c2:=c2) (D3.out.stay B7.out).kl E2.out (by have:=N2.out;omega) (D3.out.stay B7.out).t id)
 obtain⟨p0,p1⟩:=aa (ae PB.out B7.out)
 obtain⟨m0,m1,m2,m3,m4,m5⟩:=ag (ae MB.out B7.out)
 unfold a_
 dsimp only
 clear hf2 b7 hb6
 go_wp2_with fail
 refine C3.out.mono ?_
 rintro e w8 ⟨⟨tk,A4,c4⟩,rfl,htk,hft,gp⟩
 clear hw7 C3 p0 p1 m0 m1 m2 m3 m4 m5
 have wL:Hid (tk=(T9.dJ (ay ms) id).1):=hid htk
 rw [d_]
 obtain⟨w9,kQ⟩:=nm (w8.alloc (.cells #[.int .u64 (tk.id:Int),.int .u64 (tk.list:Int),.string (str tk.title),.bool tk.done,.float .f64 tk.rank,.float .f64 tk.est,.slice A4 tk.tags.length c4] 64))
 obtain⟨jR,b9,-⟩:=bf kQ
 have B9:Hid (Below w3.heap.size w3 w9):=hid (B7.out.trans ((gp.trans (b9.mono gp.size)).mono B7.out.size))
 have LB:=hid jR
 have ZG:Hid (w.heap.size+3≤w8.heap.size∧w8.heap.size<w9.heap.size):=hid ⟨by have:=ZZ.out;have:=B7.out.size;have:=gp.size;omega,lt_of_block jR⟩
 have FT:=hid (hft.stay b9)
 have D9:=hid (D3.out.stay B9.out)
 have P9:=hid (ae PB.out B9.out)
 have M9:=hid (ae MB.out B9.out)
 have R9:=hid (ae RB.out B9.out)
 have BW:=hid (B3.out.trans (B9.out.mono B3.out.size))
 obtain⟨p0,p1⟩:=aa P9.out
 obtain⟨m0,m1,m2,m3,m4,m5⟩:=ag M9.out
 obtain⟨r0,r1⟩:=aa R9.out
 have jO:=af R9.out 0
 have jB:=af R9.out 1
 unfold aA
 dsimp only
 clear htk hft gp jR b9 PB MB RB D3
 cases hhHH:T9.eB (ay ms) id with
 | true =>
  have HH:=hid hhHH
  clear hhHH
  have V:=hid (T9.JG (s:=⟨ls,ay ms⟩) (list:=list) (f:=f) (text:=text) (flag:=flag) HH.out)
  have KB:Hid (((w9.setCell ⟨w.heap.size+2,0,none⟩ (.slice A n1 c)).setCell ⟨w.heap.size+2,1,none⟩ (.slice A2 n2 c2)).heap[w.heap.size+2]?=some (.cells #[.slice A n1 c,.slice A2 n2 c2] 26 (0,0))):=hid (ah (ah R9.out 0 _) 1 _)
  obtain⟨k0,k1⟩:=aa KB.out
  go_wp2
  refine bodyPost_ret (v:=.tuple #[.agg #[.slice A n1 c,.slice A2 n2 c2],.int .i64 (T9.eD ⟨ls,ay ms⟩ ⟨3,id,list,text,f,flag⟩).1]) (by rw [V.out];simp [results,results52,go_sem,k0,k1]) rfl ?_
  refine⟨⟨ls,A,c,ms,A2,c2⟩,_,by rw [E1.out,E2.out];rfl,rfl,(fun z=>by rw [V.out] at z;cases z),?_⟩
  exact (BW.out.setCell (by show w.heap.size≤w.heap.size+2;omega) _).setCell (by show w.heap.size≤w.heap.size+2;omega) _
 | false =>
  have HH:=hid hhHH
  clear hhHH
  cases hhH2:T9.bC ls list with
  | false =>
   have H2:=hid hhH2
   clear hhH2
   have V:=hid (T9.JH (s:=⟨ls,ay ms⟩) (f:=f) (text:=text) (flag:=flag) HH.out H2.out)
   have KB:Hid (((w9.setCell ⟨w.heap.size+2,0,none⟩ (.slice A n1 c)).setCell ⟨w.heap.size+2,1,none⟩ (.slice A2 n2 c2)).heap[w.heap.size+2]?=some (.cells #[.slice A n1 c,.slice A2 n2 c2] 26 (0,0))):=hid (ah (ah R9.out 0 _) 1 _)
   obtain⟨k0,k1⟩:=aa KB.out
   go_wp2
   refine bodyPost_ret (v:=.tuple #[.agg #[.slice A n1 c,.slice A2 n2 c2],.int .i64 (T9.eD ⟨ls,ay ms⟩ ⟨3,id,list,text,f,flag⟩).1]) (by rw [V.out];simp [results,results52,go_sem,k0,k1]) rfl ?_
   refine⟨⟨ls,A,c,ms,A2,c2⟩,_,by rw [E1.out,E2.out];rfl,rfl,(fun z=>by rw [V.out] at z;cases z),?_⟩
   exact (BW.out.setCell (by show w.heap.size≤w.heap.size+2;omega) _).setCell (by show w.heap.size≤w.heap.size+2;omega) _
  | true =>
   have H2:=hid hhH2
   clear hhH2
   by_cases hc:60≤n2
   ·have hcz:(60:Int)≤(n2:Int):=by omega
    have HC:Hid (60≤(ay ms).length):=hid (by rw [aK,← E2.out];exact hc)
    clear hc
    have V:=hid (T9.JI (s:=⟨ls,ay ms⟩) (f:=f) (text:=text) (flag:=flag) HH.out H2.out HC.out)
    have KB:Hid (((w9.setCell ⟨w.heap.size+2,0,none⟩ (.slice A n1 c)).setCell ⟨w.heap.size+2,1,none⟩ (.slice A2 n2 c2)).heap[w.heap.size+2]?=some (.cells #[.slice A n1 c,.slice A2 n2 c2] 26 (0,0))):=hid (ah (ah R9.out 0 _) 1 _)
    obtain⟨k0,k1⟩:=aa KB.out
    go_wp2
    refine bodyPost_ret (v:=.tuple #[.agg #[.slice A n1 c,.slice A2 n2 c2],.int .i64 (T9.eD ⟨ls,ay ms⟩ ⟨3,id,list,text,f,flag⟩).1]) (by rw [V.out];simp [results,results52,go_sem,k0,k1]) rfl ?_
    refine⟨⟨ls,A,c,ms,A2,c2⟩,_,by rw [E1.out,E2.out];rfl,rfl,(fun z=>by rw [V.out] at z;cases z),?_⟩
    exact (BW.out.setCell (by show w.heap.size≤w.heap.size+2;omega) _).setCell (by show w.heap.size≤w.heap.size+2;omega) _
   have hcz:¬ ((60:Int)≤(n2:Int)):=by omega
   have HC:Hid (¬ 60≤(ay ms).length):=hid (by rw [aK,← E2.out];exact hc)
   clear hc
   have hbk:=bk11 (id:Int) (list:Int) (str text) f Fl.iF
   have Dd:=hid (D9.out.stay (Below.refl _ w9).drew)
   have FX:Hid ((⟨⟨id,list,text,false,f,Fl.iF,[]⟩,none,0⟩:aN).bS w9.drew):=hid ⟨au.nil,Nat.le_refl _⟩
   have C5:=hid (fo (x:=(⟨⟨id,list,text,false,f,Fl.iF,[]⟩,none,0⟩:aN)) Dd.out.k Dd.out.t FX.out E2.out (by rw [E2.out];exact Dd.out.kc) Dd.out.zk N2.out)
   dsimp only at C5
   clear FX
   go_wp2_with fail
   clear kQ p0 p1 m0 m1 m2 m3 m4 m5 r0 r1 jO jB
   refine Any.begin (S:=fun u=>Below w9.heap.size w9 u) (st:=14) yX ?_
   have S0:=(Below.refl w9.heap.size w9).drew
   refine rq 0 ?_ rfl (by kernel_rfl) rfl (by kernel_rfl) rfl ?_ S0 ?_
   rotate_left
   ·intro u hu;go_simp;try rfl
   try simp only [Act.put,pS]
   refine rq 2 ?_ rfl (by kernel_rfl) rfl (by kernel_rfl) rfl ?_ S0 ?_
   rotate_left
   ·intro u hu;go_simp;try rfl
   try simp only [Act.put,pS]
   refine rq 4 ?_ rfl (by kernel_rfl) rfl (by kernel_rfl) rfl ?_ S0 ?_
   rotate_left
   ·intro u hu;go_simp;try rfl
   try simp only [Act.put,pS]
   refine rq 6 ?_ rfl (by kernel_rfl) rfl (by kernel_rfl) rfl ?_ S0 ?_
   rotate_left
   ·intro u hu;go_simp;try rfl
   try simp only [Act.put,pS]
   refine rq 8 ?_ rfl (by kernel_rfl) rfl (by kernel_rfl) rfl ?_ S0 ?_
   rotate_left
   ·intro u hu;go_simp;try rfl
   try simp only [Act.put,pS]
   refine rq 1 ?_ rfl (by kernel_rfl) rfl (by kernel_rfl) rfl ?_ S0 ?_
   rotate_left
   ·intro u hu;obtain⟨y0,y1⟩:=aa (ae P9.out hu);go_simp;try rfl
   try simp only [Act.put,pS]
   refine rq 3 ?_ rfl (by kernel_rfl) rfl (by kernel_rfl) rfl ?_ S0 ?_
   rotate_left
   ·intro u hu;obtain⟨y0,y1,y2,y3,y4,y5⟩:=ag (ae M9.out hu);go_simp;try rfl
   try simp only [Act.put,pS]
   refine rq 5 ?_ rfl (by kernel_rfl) rfl (by kernel_rfl) rfl ?_ S0 ?_
   rotate_left
   ·intro u hu;obtain⟨y0,y1,y2,y3,y4,y5⟩:=ag (ae M9.out hu);go_simp;try rfl
   try simp only [Act.put,pS]
   refine rq 7 ?_ rfl (by kernel_rfl) rfl (by kernel_rfl) rfl ?_ S0 ?_
   rotate_left
   ·intro u hu;obtain⟨y0,y1,y2,y3,y4,y5⟩:=ag (ae M9.out hu);go_simp;try rfl
   try simp only [Act.put,pS]
   refine rq 9 ?_ rfl (by kernel_rfl) rfl (by kernel_rfl) rfl ?_ S0 ?_
   rotate_left
   ·intro u hu;obtain⟨y0,y1,y2,y3,y4,y5⟩:=ag (ae M9.out hu);go_simp;try rfl
   try simp only [Act.put,pS]
   refine Any.one (i:=10) (by kernel_rfl) rfl (fun K hK=>?_)
   go_simp
   refine (vO none 0 (fun _=>0) _).mono ?_
   rintro e w' ⟨rfl,rfl⟩
   rw [show Fl.canon (Fl.Gl false (fun _=>0) 0)=Fl.iF by decide +kernel]
   have S1:=S0
   refine hK _ _ (fun _=>S1) ?_
   clear hK K S0
   have S0:=S1
   clear S1
   try simp only [Act.put,pS]
   refine Any.one (i:=11) (by kernel_rfl) rfl (fun K hK=>?_)
   go_simp
   have S1:=S0
   refine hK _ _ (fun _=>S1) ?_
   clear hK K S0
   have S0:=S1
   clear S1
   try simp only [Act.put,pS]
   refine Any.one (i:=12) (by kernel_rfl) rfl (fun K hK=>?_)
   go_simp
   refine C5.out.mono ?_
   rintro e kC ⟨cK,c11,rfl,ny,nO,gH,jL,dS⟩
   have IV:Hid (Below w9.heap.size w9 kC):=hid ((Below.refl w9.heap.size w9).drew.trans dS)
   obtain⟨ys,hys⟩:=nm (Sr.ins iI (⟨⟨id,list,text,false,f,Fl.iF,[]⟩,none,0⟩:aN) ms)
   rw [hys] at ny nO gH ⊢
   obtain⟨n11,fU⟩:=nm ys.length
   rw [fU]
   have L11:=hid ny
   have T11:=hid nO
   have LC11:=hid gH
   have ZA11:=hid jL
   have HYS:=hid hys
   have HN11:=hid fU
   have jN:=hid (ae P9.out IV.out)
   have pJ:=af jN.out 1
   clear ny nO gH jL dS hys fU
   have S1:=IV.out
   refine hK _ _ (fun _=>S1) ?_
   clear hK K S0
   have S0:=S1
   clear S1
   try simp only [Act.put,pS]
   refine Any.one (i:=13) (by kernel_rfl) rfl (fun K hK=>?_)
   go_simp
   have S1:=S0
   refine hK _ _ (fun _=>S1) ?_
   clear hK K S0
   have S0:=S1
   clear S1
   try simp only [Act.put,pS]
   refine Any.one (i:=14) (by kernel_rfl) rfl (fun K hK=>?_)
   go_simp
   obtain⟨q0,q1⟩:=aa jN.out
   go_simp
   refine hK _ _ (fun z=>absurd rfl z) ?_
   clear hK K S0
   try simp only [Act.put,pS]
   refine Any.done (by kernel_rfl) ?_
   have qg:=ae R9.out IV.out
   obtain⟨wc,hwc⟩:=nm (kC.setCell ⟨w.heap.size,1,none⟩ (.slice cK n11 c11))
   have PF:Hid (wc.heap[w.heap.size]?=some (.cells #[.slice A n1 c,.slice cK n11 c11] 26 (0,0))):=hid (by rw [← hwc];exact ah jN.out 1 _)
   have RF:Hid (wc.heap[w.heap.size+2]?=some (.cells #[.slice none 0 0,.slice none 0 0] 26 (0,0))):=hid (by rw [← hwc];exact az qg (p:=⟨w.heap.size,1,none⟩) (by show w.heap.size+2≠w.heap.size;omega) _)
   have yp:Ty kC w.heap.size 26:=⟨_,_,jN.out⟩
   have TA:=(aM.refl 0 [26] kC).aB (p:=⟨w.heap.size,1,none⟩) yp (by simp) (Nat.zero_le _) (.slice cK n11 c11)
   rw [hwc] at TA
   have DX:DS ⟨ls,A,c,ys,cK,c11⟩ kC:=⟨(D9.out.stay IV.out).l,L11.out,T11.out,D9.out.lc,LC11.out,D9.out.za,ZA11.out⟩
   have DF:=hid (DX.bE TA (by decide) (by decide) (by decide))
   have BF:Hid (Below w.heap.size w wc):=hid (by rw [← hwc];exact (BW.out.trans (IV.out.mono BW.out.size)).setCell (Nat.le_refl _) _)
   have DM:Hid (T9.eD ⟨ls,ay ms⟩ ⟨3,id,list,text,f,flag⟩=(0,⟨ls,Sr.ins T9.jg ⟨id,list,text,false,f,Fl.iF,[]⟩ (ay ms)⟩)):=hid (T9.JJ (s:=⟨ls,ay ms⟩) (list:=list) (f:=f) (text:=text) (flag:=flag) HH.out H2.out HC.out)
   have QS:Hid ((⟨ls,A,c,ys,cK,c11⟩:aQ).st=⟨ls,Sr.ins T9.jg ⟨id,list,text,false,f,Fl.iF,[]⟩ (ay ms)⟩):=hid (by
    rw [← HYS.out]
    show (⟨ls,ay (Sr.ins iI (⟨⟨id,list,text,false,f,Fl.iF,[]⟩,none,0⟩:aN) ms)⟩:T9.St)=_
    rw [jD])
   have QV:Hid (Ending.returned (.tuple #[.agg #[.slice A n1 c,.slice cK n11 c11],.int .i64 0])=Ending.returned (.tuple #[(⟨ls,A,c,ys,cK,c11⟩:aQ).val,.int .i64 0])):=hid (by rw [← HN11.out,E1.out];rfl)
   clear qg yp TA DX
   obtain⟨p0,p1⟩:=aa PF.out
   obtain⟨r0,r1⟩:=aa RF.out
   have jO:=af RF.out 0
   have jB:=af RF.out 1
   have KB:Hid (((wc.setCell ⟨w.heap.size+2,0,none⟩ (.slice A n1 c)).setCell ⟨w.heap.size+2,1,none⟩ (.slice cK n11 c11)).heap[w.heap.size+2]?=some (.cells #[.slice A n1 c,.slice cK n11 c11] 26 (0,0))):=hid (ah (ah RF.out 0 _) 1 _)
   have yr:Ty wc (w.heap.size+2) 26:=⟨_,_,RF.out⟩
   have TF:=hid (((aM.refl 0 [26] wc).aB (p:=⟨w.heap.size+2,0,none⟩) yr (by simp) (Nat.zero_le _) (.slice A n1 c)).aB (p:=⟨w.heap.size+2,1,none⟩) (yr.set _ _) (by simp) (Nat.zero_le _) (.slice cK n11 c11))
   obtain⟨k0,k1⟩:=aa KB.out
   clear yr
   go_wp2
   refine bodyPost_ret (v:=.tuple #[.agg #[.slice A n1 c,.slice cK n11 c11],.int .i64 0]) (by simp [results,results52,go_sem,k0,k1]) rfl ?_
   refine⟨⟨ls,A,c,ys,cK,c11⟩,0,QV.out,by rw [DM.out],fun _=>⟨by rw [DM.out];exact QS.out,DF.out.bE TF.out (by decide) (by decide) (by decide)⟩,?_⟩
   exact (BF.out.setCell (by show w.heap.size≤w.heap.size+2;omega) _).setCell (by show w.heap.size≤w.heap.size+2;omega) _
end
end Go.Proofs.YtcmiompdjjiojaaGreat
