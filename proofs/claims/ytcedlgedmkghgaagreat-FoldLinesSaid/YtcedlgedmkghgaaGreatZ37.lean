import Derived.Test.YtcedlgedmkghgaaGreatZ32
import Derived.Test.YtcedlgedmkghgaaGreatZ26
import Derived.Test.YtcedlgedmkghgaaGreatZ31
import Derived.Test.YtcedlgedmkghgaaGreatZ3
import Derived.LoopN
import Derived.Deep.Draws
namespace Go.Proofs.YtcedlgedmkghgaaGreat
set_option maxHeartbeats 16000000
open Go.Lib Go.Proofs.Tryz
set_option linter.unusedSimpArgs false
set_option maxRecDepth 100000
section
open Go.RowKit Go.Lib
theorem IQ {ls:List T9.Li} {A:Option Addr} {n1 c:Nat} {ms:List aL} {A2:Option Addr} {n2 c2:Nat} {id list f:Nat} {text:List UInt8} {flag:Bool} {w:World} (hS:DS ⟨ls,A,c,ms,A2,c2⟩ w) (hB:DB ⟨ls,ay ms⟩) (e1:n1=ls.length) (e2:n2=ms.length) :
  Calls prog 75 #[.agg #[.slice A n1 c,.slice A2 n2 c2],.agg #[.int .i64 6,.int .u64 (id:Int),.int .u64 (list:Int),.string (str text),.float .f64 f,.bool flag]] w (oF ⟨ls,ay ms⟩ ⟨6,id,list,text,f,flag⟩ w):=by
 have E1:=hid e1
 have E2:=hid e2
 have HB:=hid hB
 have N1:Hid (n1≤1000):=hid (by rw [e1];exact hB.n1)
 have N2:Hid (n2≤1000):=hid (by have:=hB.n2;rw [e2,← aI];exact this)
 obtain⟨w1,hw1⟩:∃ u,w.alloc (.cells #[.slice A n1 c,.slice A2 n2 c2] 25)=u:=⟨_,rfl⟩
 obtain⟨a1,b1,z1⟩:=ak hw1
 obtain⟨w2,hw2⟩:∃ u,w1.alloc (.cells #[.int .i64 6,.int .u64 (id:Int),.int .u64 (list:Int),.string (str text),.float .f64 f,.bool flag] 65)=u:=⟨_,rfl⟩
 obtain⟨a2,b2,z2⟩:=bu hw2
 obtain⟨w3,hw3⟩:∃ u,w2.alloc (.cells #[.slice none 0 0,.slice none 0 0] 25)=u:=⟨_,rfl⟩
 obtain⟨a3,b3,z3⟩:=ak hw3
 rw [z1] at a2
 rw [z2,z1] at a3
 have zz:w3.heap.size=w.heap.size+3:=by omega
 have PB:Hid (w3.heap[w.heap.size]?=some (.cells #[.slice A n1 c,.slice A2 n2 c2] 25 (0,0))):=hid (ae (ae a1 b2) b3)
 have MB:Hid (w3.heap[w.heap.size+1]?=some (.cells #[.int .i64 6,.int .u64 (id:Int),.int .u64 (list:Int),.string (str text),.float .f64 f,.bool flag] 65 (0,0))):=hid (ae a2 b3)
 have RB:Hid (w3.heap[w.heap.size+2]?=some (.cells #[.slice none 0 0,.slice none 0 0] 25 (0,0))):=hid a3
 have B3:Hid (Below w.heap.size w w3):=hid ((b1.trans (b2.mono (by omega))).trans (b3.mono (by omega)))
 have D3:=hid (hS.stay B3.out)
 have C1:=hid (bv (A2:=A2) (n2:=n2) (c:=c) (c2:=c2) (show LL w3 A ls from D3.out.l.old) e1 (by have:=N1.out;omega) id)
 obtain⟨p0,p1⟩:=aa PB.out
 obtain⟨m0,m1,m2,m3,m4,m5⟩:=ag MB.out
 have ZZ:=hid zz
 have qD:=z1
 have qE:w2.heap.size=w.heap.size+2:=by omega
 clear hS hB e1 e2 a1 a2 a3 b1 b2 b3 z1 z2 z3 zz
 go_enter func75,ntmps75
 go_wp2_with fail
 refine C1.out.mono ?_
 rintro e w4 ⟨rfl,hb4⟩
 clear hw1 hw2 hw3 C1 qD qE p0 p1 m0 m1 m2 m3 m4 m5
 obtain⟨i1,t1,hf1⟩:∃ i t,T9.aX ls id=(⟨i,t⟩,T9.bC ls id):=⟨(T9.aX ls id).1.id,(T9.aX ls id).1.name,by rw [← bF]⟩
 rw [hf1]
 obtain⟨w5,fQ⟩:∃ u,w4.alloc (.cells #[.int .u64 (i1:Int),.string (str t1)] 71)=u:=⟨_,rfl⟩
 obtain⟨-,b5,-⟩:=ak fQ
 have B5:Hid (Below w3.heap.size w3 w5):=hid (hb4.trans (b5.mono hb4.size))
 have C2:=hid (bv (A2:=A2) (n2:=n2) (c:=c) (c2:=c2) (show LL w5 A ls from (D3.out.stay B5.out).l.old) E1.out (by have:=N1.out;omega) list)
 obtain⟨p0,p1⟩:=aa (ae PB.out B5.out)
 obtain⟨m0,m1,m2,m3,m4,m5⟩:=ag (ae MB.out B5.out)
 obtain⟨p4,p5⟩:=aa (ae PB.out hb4)
 unfold bf
 dsimp only
 clear hf1 b5 hb4
 go_wp2_with fail
 refine C2.out.mono ?_
 rintro e w6 ⟨rfl,hb6⟩
 clear fQ C2 p0 p1 p4 p5 m0 m1 m2 m3 m4 m5
 obtain⟨i2,t2,hf2⟩:∃ i t,T9.aX ls list=(⟨i,t⟩,T9.bC ls list):=⟨(T9.aX ls list).1.id,(T9.aX ls list).1.name,by rw [← bF]⟩
 rw [hf2]
 obtain⟨w7,hw7⟩:∃ u,w6.alloc (.cells #[.int .u64 (i2:Int),.string (str t2)] 71)=u:=⟨_,rfl⟩
 obtain⟨-,b7,-⟩:=ak hw7
 have B7:Hid (Below w3.heap.size w3 w7):=hid (B5.out.trans ((hb6.trans (b7.mono hb6.size)).mono B5.out.size))
 have C3:=hid (dE (A:=A) (n1:=n1) (c:=c) (c2:=c2) (D3.out.stay B7.out).kl E2.out (by have:=N2.out;omega) (D3.out.stay B7.out).t id)
 obtain⟨p0,p1⟩:=aa (ae PB.out B7.out)
 obtain⟨m0,m1,m2,m3,m4,m5⟩:=ag (ae MB.out B7.out)
 unfold bf
 dsimp only
 clear hf2 b7 hb6
 go_wp2_with fail
 refine C3.out.mono ?_
 rintro e w8 ⟨⟨tk,A4,c4⟩,rfl,htk,hft,fM⟩
 clear hw7 C3 p0 p1 m0 m1 m2 m3 m4 m5
 have uw:Hid (tk=(T9.dH (ay ms) id).1):=hid htk
 rw [dY]
 obtain⟨w9,jD⟩:∃ u,w8.alloc (.cells #[.int .u64 (tk.id:Int),.int .u64 (tk.list:Int),.string (str tk.title),.bool tk.done,.float .f64 tk.rank,.float .f64 tk.est,.slice A4 tk.tags.length c4] 74)=u:=⟨_,rfl⟩
 obtain⟨jF,b9,-⟩:=bn jD
 have B9:Hid (Below w3.heap.size w3 w9):=hid (B7.out.trans ((fM.trans (b9.mono fM.size)).mono B7.out.size))
 have LB:=hid jF
 have ZG:Hid (w.heap.size+3≤w8.heap.size∧w8.heap.size<w9.heap.size):=hid ⟨by have:=ZZ.out;have:=B7.out.size;have:=fM.size;omega,lt_of_block jF⟩
 have FT:=hid (hft.stay b9)
 have D9:=hid (D3.out.stay B9.out)
 have P9:=hid (ae PB.out B9.out)
 have M9:=hid (ae MB.out B9.out)
 have R9:=hid (ae RB.out B9.out)
 have BW:=hid (B3.out.trans (B9.out.mono B3.out.size))
 obtain⟨p0,p1⟩:=aa P9.out
 obtain⟨m0,m1,m2,m3,m4,m5⟩:=ag M9.out
 obtain⟨r0,r1⟩:=aa R9.out
 have jC:=af R9.out 0
 have jl:=af R9.out 1
 unfold az
 dsimp only
 clear htk hft fM jF b9 PB MB RB D3
 cases hhHH:T9.d_ (ay ms) id with
 | false =>
  have HH:=hid hhHH
  clear hhHH
  have V:=hid (T9.lV (k:=6) (s:=⟨ls,ay ms⟩) (list:=list) (f:=f) (text:=text) (flag:=flag) (by omega) HH.out)
  have KB:Hid (((w9.setCell ⟨w.heap.size+2,0,none⟩ (.slice A n1 c)).setCell ⟨w.heap.size+2,1,none⟩ (.slice A2 n2 c2)).heap[w.heap.size+2]?=some (.cells #[.slice A n1 c,.slice A2 n2 c2] 25 (0,0))):=hid (ah (ah R9.out 0 _) 1 _)
  obtain⟨k0,k1⟩:=aa KB.out
  go_wp2
  refine bodyPost_ret (v:=.tuple #[.agg #[.slice A n1 c,.slice A2 n2 c2],.int .i64 (T9.eB ⟨ls,ay ms⟩ ⟨6,id,list,text,f,flag⟩).1]) (by rw [V.out];simp [results,results75,go_sem,k0,k1]) rfl ?_
  refine⟨⟨ls,A,c,ms,A2,c2⟩,_,by rw [E1.out,E2.out];rfl,rfl,(fun z=>by rw [V.out] at z;cases z),?_⟩
  exact (BW.out.setCell (by show w.heap.size≤w.heap.size+2;omega) _).setCell (by show w.heap.size≤w.heap.size+2;omega) _
 | true =>
  have HH:=hid hhHH
  clear hhHH
  cases hhH2:T9.bC ls list with
  | true =>
   have H2:=hid hhH2
   clear hhH2
   have C4:=hid (fD (c:=c2) D9.out.kl D9.out.t E2.out N2.out 0 false id)
   go_wp2_with fail
   refine C4.out.mono ?_
   rintro e gT ⟨bX,c10,xs,rfl,l10,nU,fT,gF,hts,bD,iF⟩
   clear C4 p0 p1 m0 m1 m2 m3 m4 m5 r0 r1 jC jl jD
   have TS:=hid hts
   have lL:=hid iF
   clear iF
   obtain⟨n10,dn⟩:∃ z,xs.length=z:=⟨_,rfl⟩
   have gW:=hid dn
   rw [dn]
   have fU:=ae P9.out bD
   have lM:=ae R9.out bD
   have oG:=ae M9.out bD
   obtain⟨q0,q1⟩:=aa fU
   have og:=af fU 1
   obtain⟨wa,dA⟩:∃ u,gT.setCell ⟨w.heap.size,1,none⟩ (.slice bX n10 c10)=u:=⟨_,rfl⟩
   have PF:Hid (wa.heap[w.heap.size]?=some (.cells #[.slice A n1 c,.slice bX n10 c10] 25 (0,0))):=hid (by rw [← dA];exact ah fU 1 _)
   have RF:Hid (wa.heap[w.heap.size+2]?=some (.cells #[.slice none 0 0,.slice none 0 0] 25 (0,0))):=hid (by rw [← dA];exact av lM (p:=⟨w.heap.size,1,none⟩) (by show w.heap.size+2≠w.heap.size;omega) _)
   have MF:Hid (wa.heap[w.heap.size+1]?=some (.cells #[.int .i64 6,.int .u64 (id:Int),.int .u64 (list:Int),.string (str text),.float .f64 f,.bool flag] 65 (0,0))):=hid (by rw [← dA];exact av oG (p:=⟨w.heap.size,1,none⟩) (by show w.heap.size+1≠w.heap.size;omega) _)
   have yp:Ty gT w.heap.size 25:=⟨_,_,fU⟩
   have TA:=(aN.refl 0 [25] gT).aC (p:=⟨w.heap.size,1,none⟩) yp (by simp) (Nat.zero_le _) (.slice bX n10 c10)
   rw [dA] at TA
   have iX:=D9.out.stay bD
   have DX:DS ⟨ls,A,c,xs,bX,c10⟩ gT:=⟨iX.l,l10,nU,iX.lc,fT,iX.za,gF⟩
   have DF:=hid (DX.bH TA (by decide) (by decide) (by decide))
   have BF:Hid (Below w.heap.size w wa):=hid (by rw [← dA];exact (BW.out.trans (bD.mono BW.out.size)).setCell (Nat.le_refl _) _)
   have QV:Hid (Ending.returned (.tuple #[.agg #[.slice A n1 c,.slice bX n10 c10],.int .i64 0])=Ending.returned (.tuple #[(⟨ls,A,c,xs,bX,c10⟩:aW).val,.int .i64 0])):=hid (by rw [← dn,E1.out];rfl)
   have jE:=hid bD
   have YP:=hid yp
   clear bD fU lM oG yp TA iX DX dn l10 fT gF nU hts
   obtain⟨m0,m1,m2,m3,m4,m5⟩:=ag MF.out
   have jO:Hid (wa.heap[w8.heap.size]?=some (.cells #[.int .u64 (tk.id:Int),.int .u64 (tk.list:Int),.string (str tk.title),.bool tk.done,.float .f64 tk.rank,.float .f64 tk.est,.slice A4 tk.tags.length c4] 74 (0,0))):=hid (by rw [← dA];exact av (ae LB.out jE.out) (p:=⟨w.heap.size,1,none⟩) (by show w8.heap.size≠w.heap.size;have:=ZG.out;omega) _)
   have zX:Hid (au wa 0 9 A4 (aB tk.tags)):=hid (by rw [← dA];exact aF (bG FT.out.1 jE.out) YP.out (by decide))
   have pW:Hid (wa.ownsRow w9.heap.size 74 7 (.slice bX n10 c10) n10 (ai xs)):=hid (by
    have o:=lL.out
    rw [gW.out] at o
    refine dz o (fun z hz=>?_)
    have q:=(bM o z hz).1
    have:=ZG.out
    rw [← dA]
    exact Below.heap_setCell _ ⟨w.heap.size,1,none⟩ _ z (by show z≠w.heap.size;omega))
   obtain⟨u0,u1,u2,u3,u4,u5,u6⟩:=aj jO.out
   have fu:=af jO.out 4
   have fu1:=af jO.out 1
   obtain⟨wb,hwb⟩:∃ u,((wa.setCell ⟨w8.heap.size,1,none⟩ (.int .u64 (list:Int))).setCell ⟨w8.heap.size,4,none⟩ (.float .f64 f)).drew=u:=⟨_,rfl⟩
   have z_:Hid (wb.heap[w8.heap.size]?=some (.cells #[.int .u64 (tk.id:Int),.int .u64 (list:Int),.string (str tk.title),.bool tk.done,.float .f64 f,.float .f64 tk.est,.slice A4 tk.tags.length c4] 74 (0,0))):=hid (by rw [← hwb];exact ah (ah jO.out 1 _) 4 _)
   have rM:Hid (wb.heap[w.heap.size]?=some (.cells #[.slice A n1 c,.slice bX n10 c10] 25 (0,0))):=hid (by rw [← hwb];exact av (av PF.out (p:=⟨w8.heap.size,1,none⟩) (by show w.heap.size≠w8.heap.size;have:=ZG.out;omega) _) (p:=⟨w8.heap.size,4,none⟩) (by show w.heap.size≠w8.heap.size;have:=ZG.out;omega) _)
   have Ad:Hid (wb.heap[w.heap.size+2]?=some (.cells #[.slice none 0 0,.slice none 0 0] 25 (0,0))):=hid (by rw [← hwb];exact av (av RF.out (p:=⟨w8.heap.size,1,none⟩) (by show w.heap.size+2≠w8.heap.size;have:=ZG.out;omega) _) (p:=⟨w8.heap.size,4,none⟩) (by show w.heap.size+2≠w8.heap.size;have:=ZG.out;omega) _)
   have rJ:Hid (wb.ownsRow w9.heap.size 74 7 (.slice bX n10 c10) n10 (ai xs)):=hid (dz pW.out (fun z hz=>by
    have q:=(bM pW.out z hz).1
    have:=ZG.out
    rw [← hwb]
    exact (Below.heap_setCell _ ⟨w8.heap.size,4,none⟩ _ z (by show z≠w8.heap.size;omega)).trans (Below.heap_setCell _ ⟨w8.heap.size,1,none⟩ _ z (by show z≠w8.heap.size;omega))))
   have yt:Ty wa w8.heap.size 74:=⟨_,_,jO.out⟩
   have Tb:Hid (∀ m∈xs,m.bU wb):=hid fun m hm=>by rw [← hwb];exact⟨(aF (aF (DF.out.t m hm).1 yt (by decide)) (yt.set _ _) (by decide)).drew,(DF.out.t m hm).2⟩
   have Lb:Hid (au wb 0 71 A (aJ ls)):=hid (by rw [← hwb];exact (aF (aF DF.out.l yt (by decide)) (yt.set _ _) (by decide)).drew)
   have zY:Hid ((⟨{ tk with list:=list,rank:=f },A4,c4⟩:aL).bU wb):=hid (by rw [← hwb];exact⟨(aF (aF zX.out yt (by decide)) (yt.set _ _) (by decide)).drew,FT.out.2⟩)
   have Bb:Hid (Below w.heap.size w wb):=hid (by rw [← hwb];exact ((BF.out.setCell (by show w.heap.size≤w8.heap.size;have:=ZG.out;omega) _).setCell (by show w.heap.size≤w8.heap.size;have:=ZG.out;omega) _).drew)
   have Ab:Hid (n10≤1000):=hid (by
    rw [← gW.out,← aI,TS.out]
    exact Nat.le_trans (List.length_filter_le _ _) HB.out.n2)
   have fu4:=af (show (wa.setCell ⟨w8.heap.size,1,none⟩ (.int .u64 (list:Int))).heap[w8.heap.size]?=_ from ah jO.out 1 _) 4
   have C5:=hid (eY (x:=(⟨{ tk with list:=list,rank:=f },A4,c4⟩:aL)) (aG (B:=0) rJ.out) Tb.out zY.out gW.out.symm (aO rJ.out).2 DF.out.zk Ab.out)
   dsimp only at C5
   obtain⟨p0,p1⟩:=aa rM.out
   obtain⟨v0,v1,v2,v3,v4,v5,v6⟩:=aj z_.out
   clear yt
   go_wp2_with fail
   go_region
   go_wp2_with fail
   refine C5.out.mono ?_
   rintro e j4 ⟨df,c11,rfl,mh,mF,gz,jy,dS⟩
   clear C5 q0 q1 og dA hwb m0 m1 m2 m3 m4 m5 u0 u1 u2 u3 u4 u5 u6 fu p0 p1 v0 v1 v2 v3 v4 v5 v6 PF RF DF BF QV
   obtain⟨ys,hys⟩:∃ z,Sr.ins iy (⟨{ tk with list:=list,rank:=f },A4,c4⟩:aL) xs=z:=⟨_,rfl⟩
   rw [hys] at mh mF gz ⊢
   obtain⟨n11,gy⟩:∃ z,ys.length=z:=⟨_,rfl⟩
   rw [gy]
   have jB:=ae rM.out dS
   have qH:=ae Ad.out dS
   obtain⟨q0,q1⟩:=aa jB
   have og:=af jB 1
   obtain⟨wc,hwc⟩:∃ u,j4.setCell ⟨w.heap.size,1,none⟩ (.slice df n11 c11)=u:=⟨_,rfl⟩
   have PF:Hid (wc.heap[w.heap.size]?=some (.cells #[.slice A n1 c,.slice df n11 c11] 25 (0,0))):=hid (by rw [← hwc];exact ah jB 1 _)
   have RF:Hid (wc.heap[w.heap.size+2]?=some (.cells #[.slice none 0 0,.slice none 0 0] 25 (0,0))):=hid (by rw [← hwc];exact av qH (p:=⟨w.heap.size,1,none⟩) (by show w.heap.size+2≠w.heap.size;omega) _)
   have yp:Ty j4 w.heap.size 25:=⟨_,_,jB⟩
   have TA:=(aN.refl 0 [25] j4).aC (p:=⟨w.heap.size,1,none⟩) yp (by simp) (Nat.zero_le _) (.slice df n11 c11)
   rw [hwc] at TA
   have DX:DS ⟨ls,A,c,ys,df,c11⟩ j4:=⟨bG Lb.out dS,mh,mF,D9.out.lc,gz,D9.out.za,jy⟩
   have DF:=hid (DX.bH TA (by decide) (by decide) (by decide))
   have BF:Hid (Below w.heap.size w wc):=hid (by rw [← hwc];exact (Bb.out.trans (dS.mono Bb.out.size)).setCell (Nat.le_refl _) _)
   have DM:Hid (T9.eB ⟨ls,ay ms⟩ ⟨6,id,list,text,f,flag⟩=(0,⟨ls,Sr.ins T9.iT { tk with list:=list,rank:=f } (T9.wo (ay ms) 0 false id)⟩)):=hid (by
    rw [T9.lW (k:=6) (s:=⟨ls,ay ms⟩) (list:=list) (f:=f) (text:=text) (flag:=flag) (by omega) HH.out,← uw.out]
    simp [T9.oD,H2.out])
   have QS:Hid ((⟨ls,A,c,ys,df,c11⟩:aW).st=⟨ls,Sr.ins T9.iT { tk with list:=list,rank:=f } (T9.wo (ay ms) 0 false id)⟩):=hid (by
    rw [← hys,← TS.out]
    show (⟨ls,ay (Sr.ins iy (⟨{ tk with list:=list,rank:=f },A4,c4⟩:aL) xs)⟩:T9.St)=_
    rw [jo])
   have QV:Hid (Ending.returned (.tuple #[.agg #[.slice A n1 c,.slice df n11 c11],.int .i64 0])=Ending.returned (.tuple #[(⟨ls,A,c,ys,df,c11⟩:aW).val,.int .i64 0])):=hid (by rw [← gy,E1.out];rfl)
   clear dS jB qH yp TA DX gy mh gz jy mF hys
   obtain⟨p0,p1⟩:=aa PF.out
   obtain⟨r0,r1⟩:=aa RF.out
   have jC:=af RF.out 0
   have jl:=af RF.out 1
   have KB:Hid (((wc.setCell ⟨w.heap.size+2,0,none⟩ (.slice A n1 c)).setCell ⟨w.heap.size+2,1,none⟩ (.slice df n11 c11)).heap[w.heap.size+2]?=some (.cells #[.slice A n1 c,.slice df n11 c11] 25 (0,0))):=hid (ah (ah RF.out 0 _) 1 _)
   have yr:Ty wc (w.heap.size+2) 25:=⟨_,_,RF.out⟩
   have TF:=hid (((aN.refl 0 [25] wc).aC (p:=⟨w.heap.size+2,0,none⟩) yr (by simp) (Nat.zero_le _) (.slice A n1 c)).aC (p:=⟨w.heap.size+2,1,none⟩) (yr.set _ _) (by simp) (Nat.zero_le _) (.slice df n11 c11))
   obtain⟨k0,k1⟩:=aa KB.out
   clear yr
   go_wp2
   refine bodyPost_ret (v:=.tuple #[.agg #[.slice A n1 c,.slice df n11 c11],.int .i64 0]) (by simp [results,results75,go_sem,k0,k1]) rfl ?_
   refine⟨⟨ls,A,c,ys,df,c11⟩,0,QV.out,by rw [DM.out],fun _=>⟨by rw [DM.out];exact QS.out,DF.out.bH TF.out (by decide) (by decide) (by decide)⟩,?_⟩
   exact (BF.out.setCell (by show w.heap.size≤w.heap.size+2;omega) _).setCell (by show w.heap.size≤w.heap.size+2;omega) _
  | false =>
   have H2:=hid hhH2
   clear hhH2
   have C4:=hid (fD (c:=c2) D9.out.kl D9.out.t E2.out N2.out 0 false id)
   go_wp2_with fail
   refine C4.out.mono ?_
   rintro e gT ⟨bX,c10,xs,rfl,l10,nU,fT,gF,hts,bD,iF⟩
   clear C4 p0 p1 m0 m1 m2 m3 m4 m5 r0 r1 jC jl jD
   have TS:=hid hts
   have lL:=hid iF
   clear iF
   obtain⟨n10,dn⟩:∃ z,xs.length=z:=⟨_,rfl⟩
   have gW:=hid dn
   rw [dn]
   have fU:=ae P9.out bD
   have lM:=ae R9.out bD
   have oG:=ae M9.out bD
   obtain⟨q0,q1⟩:=aa fU
   have og:=af fU 1
   obtain⟨wa,dA⟩:∃ u,gT.setCell ⟨w.heap.size,1,none⟩ (.slice bX n10 c10)=u:=⟨_,rfl⟩
   have PF:Hid (wa.heap[w.heap.size]?=some (.cells #[.slice A n1 c,.slice bX n10 c10] 25 (0,0))):=hid (by rw [← dA];exact ah fU 1 _)
   have RF:Hid (wa.heap[w.heap.size+2]?=some (.cells #[.slice none 0 0,.slice none 0 0] 25 (0,0))):=hid (by rw [← dA];exact av lM (p:=⟨w.heap.size,1,none⟩) (by show w.heap.size+2≠w.heap.size;omega) _)
   have MF:Hid (wa.heap[w.heap.size+1]?=some (.cells #[.int .i64 6,.int .u64 (id:Int),.int .u64 (list:Int),.string (str text),.float .f64 f,.bool flag] 65 (0,0))):=hid (by rw [← dA];exact av oG (p:=⟨w.heap.size,1,none⟩) (by show w.heap.size+1≠w.heap.size;omega) _)
   have yp:Ty gT w.heap.size 25:=⟨_,_,fU⟩
   have TA:=(aN.refl 0 [25] gT).aC (p:=⟨w.heap.size,1,none⟩) yp (by simp) (Nat.zero_le _) (.slice bX n10 c10)
   rw [dA] at TA
   have iX:=D9.out.stay bD
   have DX:DS ⟨ls,A,c,xs,bX,c10⟩ gT:=⟨iX.l,l10,nU,iX.lc,fT,iX.za,gF⟩
   have DF:=hid (DX.bH TA (by decide) (by decide) (by decide))
   have BF:Hid (Below w.heap.size w wa):=hid (by rw [← dA];exact (BW.out.trans (bD.mono BW.out.size)).setCell (Nat.le_refl _) _)
   have QV:Hid (Ending.returned (.tuple #[.agg #[.slice A n1 c,.slice bX n10 c10],.int .i64 0])=Ending.returned (.tuple #[(⟨ls,A,c,xs,bX,c10⟩:aW).val,.int .i64 0])):=hid (by rw [← dn,E1.out];rfl)
   have jE:=hid bD
   have YP:=hid yp
   clear bD fU lM oG yp TA iX DX dn l10 fT gF nU hts
   obtain⟨m0,m1,m2,m3,m4,m5⟩:=ag MF.out
   have jO:Hid (wa.heap[w8.heap.size]?=some (.cells #[.int .u64 (tk.id:Int),.int .u64 (tk.list:Int),.string (str tk.title),.bool tk.done,.float .f64 tk.rank,.float .f64 tk.est,.slice A4 tk.tags.length c4] 74 (0,0))):=hid (by rw [← dA];exact av (ae LB.out jE.out) (p:=⟨w.heap.size,1,none⟩) (by show w8.heap.size≠w.heap.size;have:=ZG.out;omega) _)
   have zX:Hid (au wa 0 9 A4 (aB tk.tags)):=hid (by rw [← dA];exact aF (bG FT.out.1 jE.out) YP.out (by decide))
   have pW:Hid (wa.ownsRow w9.heap.size 74 7 (.slice bX n10 c10) n10 (ai xs)):=hid (by
    have o:=lL.out
    rw [gW.out] at o
    refine dz o (fun z hz=>?_)
    have q:=(bM o z hz).1
    have:=ZG.out
    rw [← dA]
    exact Below.heap_setCell _ ⟨w.heap.size,1,none⟩ _ z (by show z≠w.heap.size;omega))
   obtain⟨u0,u1,u2,u3,u4,u5,u6⟩:=aj jO.out
   have fu:=af jO.out 4
   have fu1:=af jO.out 1
   obtain⟨wb,hwb⟩:∃ u,((wa.setCell ⟨w8.heap.size,1,none⟩ (.int .u64 (list:Int))).setCell ⟨w8.heap.size,4,none⟩ (.float .f64 f)).drew=u:=⟨_,rfl⟩
   have z_:Hid (wb.heap[w8.heap.size]?=some (.cells #[.int .u64 (tk.id:Int),.int .u64 (list:Int),.string (str tk.title),.bool tk.done,.float .f64 f,.float .f64 tk.est,.slice A4 tk.tags.length c4] 74 (0,0))):=hid (by rw [← hwb];exact ah (ah jO.out 1 _) 4 _)
   have rM:Hid (wb.heap[w.heap.size]?=some (.cells #[.slice A n1 c,.slice bX n10 c10] 25 (0,0))):=hid (by rw [← hwb];exact av (av PF.out (p:=⟨w8.heap.size,1,none⟩) (by show w.heap.size≠w8.heap.size;have:=ZG.out;omega) _) (p:=⟨w8.heap.size,4,none⟩) (by show w.heap.size≠w8.heap.size;have:=ZG.out;omega) _)
   have Ad:Hid (wb.heap[w.heap.size+2]?=some (.cells #[.slice none 0 0,.slice none 0 0] 25 (0,0))):=hid (by rw [← hwb];exact av (av RF.out (p:=⟨w8.heap.size,1,none⟩) (by show w.heap.size+2≠w8.heap.size;have:=ZG.out;omega) _) (p:=⟨w8.heap.size,4,none⟩) (by show w.heap.size+2≠w8.heap.size;have:=ZG.out;omega) _)
   have rJ:Hid (wb.ownsRow w9.heap.size 74 7 (.slice bX n10 c10) n10 (ai xs)):=hid (dz pW.out (fun z hz=>by
    have q:=(bM pW.out z hz).1
    have:=ZG.out
    rw [← hwb]
    exact (Below.heap_setCell _ ⟨w8.heap.size,4,none⟩ _ z (by show z≠w8.heap.size;omega)).trans (Below.heap_setCell _ ⟨w8.heap.size,1,none⟩ _ z (by show z≠w8.heap.size;omega))))
   have yt:Ty wa w8.heap.size 74:=⟨_,_,jO.out⟩
   have Tb:Hid (∀ m∈xs,m.bU wb):=hid fun m hm=>by rw [← hwb];exact⟨(aF (aF (DF.out.t m hm).1 yt (by decide)) (yt.set _ _) (by decide)).drew,(DF.out.t m hm).2⟩
   have Lb:Hid (au wb 0 71 A (aJ ls)):=hid (by rw [← hwb];exact (aF (aF DF.out.l yt (by decide)) (yt.set _ _) (by decide)).drew)
   have zY:Hid ((⟨{ tk with list:=list,rank:=f },A4,c4⟩:aL).bU wb):=hid (by rw [← hwb];exact⟨(aF (aF zX.out yt (by decide)) (yt.set _ _) (by decide)).drew,FT.out.2⟩)
   have Bb:Hid (Below w.heap.size w wb):=hid (by rw [← hwb];exact ((BF.out.setCell (by show w.heap.size≤w8.heap.size;have:=ZG.out;omega) _).setCell (by show w.heap.size≤w8.heap.size;have:=ZG.out;omega) _).drew)
   have Ab:Hid (n10≤1000):=hid (by
    rw [← gW.out,← aI,TS.out]
    exact Nat.le_trans (List.length_filter_le _ _) HB.out.n2)
   have fu4:=af (show (wa.setCell ⟨w8.heap.size,1,none⟩ (.int .u64 (list:Int))).heap[w8.heap.size]?=_ from ah jO.out 1 _) 4
   have C5:=hid (eY (x:=(⟨{ tk with list:=list,rank:=f },A4,c4⟩:aL)) (aG (B:=0) rJ.out) Tb.out zY.out gW.out.symm (aO rJ.out).2 DF.out.zk Ab.out)
   dsimp only at C5
   obtain⟨p0,p1⟩:=aa rM.out
   obtain⟨v0,v1,v2,v3,v4,v5,v6⟩:=aj z_.out
   clear yt
   go_wp2_with fail
   go_region
   go_wp2_with fail
   refine C5.out.mono ?_
   rintro e j4 ⟨df,c11,rfl,mh,mF,gz,jy,dS⟩
   clear C5 q0 q1 og dA hwb m0 m1 m2 m3 m4 m5 u0 u1 u2 u3 u4 u5 u6 fu p0 p1 v0 v1 v2 v3 v4 v5 v6 PF RF DF BF QV
   obtain⟨ys,hys⟩:∃ z,Sr.ins iy (⟨{ tk with list:=list,rank:=f },A4,c4⟩:aL) xs=z:=⟨_,rfl⟩
   rw [hys] at mh mF gz ⊢
   obtain⟨n11,gy⟩:∃ z,ys.length=z:=⟨_,rfl⟩
   rw [gy]
   have jB:=ae rM.out dS
   have qH:=ae Ad.out dS
   obtain⟨q0,q1⟩:=aa jB
   have og:=af jB 1
   obtain⟨wc,hwc⟩:∃ u,j4.setCell ⟨w.heap.size,1,none⟩ (.slice df n11 c11)=u:=⟨_,rfl⟩
   have PF:Hid (wc.heap[w.heap.size]?=some (.cells #[.slice A n1 c,.slice df n11 c11] 25 (0,0))):=hid (by rw [← hwc];exact ah jB 1 _)
   have RF:Hid (wc.heap[w.heap.size+2]?=some (.cells #[.slice none 0 0,.slice none 0 0] 25 (0,0))):=hid (by rw [← hwc];exact av qH (p:=⟨w.heap.size,1,none⟩) (by show w.heap.size+2≠w.heap.size;omega) _)
   have yp:Ty j4 w.heap.size 25:=⟨_,_,jB⟩
   have TA:=(aN.refl 0 [25] j4).aC (p:=⟨w.heap.size,1,none⟩) yp (by simp) (Nat.zero_le _) (.slice df n11 c11)
   rw [hwc] at TA
   have DX:DS ⟨ls,A,c,ys,df,c11⟩ j4:=⟨bG Lb.out dS,mh,mF,D9.out.lc,gz,D9.out.za,jy⟩
   have DF:=hid (DX.bH TA (by decide) (by decide) (by decide))
   have BF:Hid (Below w.heap.size w wc):=hid (by rw [← hwc];exact (Bb.out.trans (dS.mono Bb.out.size)).setCell (Nat.le_refl _) _)
   have DM:Hid (T9.eB ⟨ls,ay ms⟩ ⟨6,id,list,text,f,flag⟩=(91,⟨ls,Sr.ins T9.iT { tk with list:=list,rank:=f } (T9.wo (ay ms) 0 false id)⟩)):=hid (by
    rw [T9.lW (k:=6) (s:=⟨ls,ay ms⟩) (list:=list) (f:=f) (text:=text) (flag:=flag) (by omega) HH.out,← uw.out]
    simp [T9.oD,H2.out])
   have QS:Hid ((⟨ls,A,c,ys,df,c11⟩:aW).st=⟨ls,Sr.ins T9.iT { tk with list:=list,rank:=f } (T9.wo (ay ms) 0 false id)⟩):=hid (by
    rw [← hys,← TS.out]
    show (⟨ls,ay (Sr.ins iy (⟨{ tk with list:=list,rank:=f },A4,c4⟩:aL) xs)⟩:T9.St)=_
    rw [jo])
   have QV:Hid (Ending.returned (.tuple #[.agg #[.slice A n1 c,.slice df n11 c11],.int .i64 91])=Ending.returned (.tuple #[(⟨ls,A,c,ys,df,c11⟩:aW).val,.int .i64 91])):=hid (by rw [← gy,E1.out];rfl)
   clear dS jB qH yp TA DX gy mh gz jy mF hys
   obtain⟨p0,p1⟩:=aa PF.out
   obtain⟨r0,r1⟩:=aa RF.out
   have jC:=af RF.out 0
   have jl:=af RF.out 1
   have KB:Hid (((wc.setCell ⟨w.heap.size+2,0,none⟩ (.slice A n1 c)).setCell ⟨w.heap.size+2,1,none⟩ (.slice df n11 c11)).heap[w.heap.size+2]?=some (.cells #[.slice A n1 c,.slice df n11 c11] 25 (0,0))):=hid (ah (ah RF.out 0 _) 1 _)
   have yr:Ty wc (w.heap.size+2) 25:=⟨_,_,RF.out⟩
   have TF:=hid (((aN.refl 0 [25] wc).aC (p:=⟨w.heap.size+2,0,none⟩) yr (by simp) (Nat.zero_le _) (.slice A n1 c)).aC (p:=⟨w.heap.size+2,1,none⟩) (yr.set _ _) (by simp) (Nat.zero_le _) (.slice df n11 c11))
   obtain⟨k0,k1⟩:=aa KB.out
   clear yr
   go_wp2
   refine bodyPost_ret (v:=.tuple #[.agg #[.slice A n1 c,.slice df n11 c11],.int .i64 91]) (by simp [results,results75,go_sem,k0,k1]) rfl ?_
   refine⟨⟨ls,A,c,ys,df,c11⟩,91,QV.out,by rw [DM.out],fun _=>⟨by rw [DM.out];exact QS.out,DF.out.bH TF.out (by decide) (by decide) (by decide)⟩,?_⟩
   exact (BF.out.setCell (by show w.heap.size≤w.heap.size+2;omega) _).setCell (by show w.heap.size≤w.heap.size+2;omega) _
end
section
open Go.RowKit
namespace Fl
def addO (o:Option Nat) (x:Nat):Option Nat:=o.bind fun t=>floatBits .add .f64 t x
def sumO (B:Nat→Nat):Nat→Option Nat
 | 0=>some 0
 | k+1=>if dw (B k)=true then sumO B k else addO (sumO B k) (B k)
def Rel (o:Option Nat) (t:Nat):Prop:=(∃ r,o=some r∧t=r)∨(o=none∧dw t=true)
def canonO (o:Option Nat):Nat:=match o with | some r=>canon r | none=>ig
theorem Rel.canon {o:Option Nat} {t:Nat} (h:Rel o t):Fl.canon t=canonO o:=by
 rcases h with⟨r,rfl,rfl⟩ | ⟨rfl,h⟩
 ·rfl
 ·exact p_ h
theorem add_nan {t:Nat} (h:dw t=true) (x:Nat):floatBits .add .f64 t x=none:=by
 obtain⟨n,u,e⟩:=tJ FloatKind.f64.format t wF (by rw [oN,qg];exact of_decide_eq_true h)
 show FloatKind.f64.format.add t x=none
 unfold Ieee.Format.add
 rw [e];rfl
theorem Rel.some {o:Option Nat} {t x r:Nat} (h:Rel o t) (e:floatBits .add .f64 t x=some r):Rel (addO o x) r:=by
 rcases h with⟨q,rfl,rfl⟩ | ⟨rfl,h⟩
 ·exact Or.inl ⟨r,e,rfl⟩
 ·rw [add_nan h] at e;cases e
theorem Rel.none {o:Option Nat} {t x r:Nat} (h:Rel o t) (e:floatBits .add .f64 t x=none) (hr:dw r=true):Rel (addO o x) r:=by
 rcases h with⟨q,rfl,rfl⟩ | ⟨rfl,h⟩
 ·exact Or.inr ⟨e,hr⟩
 ·exact Or.inr ⟨rfl,hr⟩
end Fl
@[go_sem] theorem cls_ne (b : Nat) : (Fl.uB b != 0) = !Fl.dw b := by rw [bne, Fl.oL]
namespace Fl
def ahead (up:Bool) (x y:Nat):Bool:=if up=true then lt y x else lt x y
def Dt (up:Bool) (B:Nat→Nat):Nat→Nat
 | 0=>ig
 | k+1=>if dw (B k)=true then Dt up B k else if dw (Dt up B k)=true∨ahead up (B k) (Dt up B k)=true then B k else Dt up B k
end Fl
theorem Ie (w:World) :
  Calls prog 190 #[] w fun e w'=>e=.returned (.float .f64 Fl.ig)∧w=w':=by
 go_enter func190,ntmps190
 go_wp2_with fail
 go_ret
 exact⟨rfl,rfl⟩
theorem tK (a:Option Addr) (cap:Nat) (B:Nat→Nat) (w:World) :
  Calls prog 136 #[.slice a 0 cap] w fun e w'=>e=.returned (.float .f64 (Fl.canon (Fl.Dt false B 0)))∧w=w':=by
 go_enter func136,ntmps136
 go_wp2_with (first
    | (go_at_call 190;refine (Ie _).mono ?_;rintro e w' ⟨rfl,rfl⟩)
    | (go_at_call 130;refine (iG _ _).mono ?_;rintro e w' ⟨rfl,rfl⟩))
 refine wp_loop_rounds 1 ?_
 rw [rounds_succ]
 go_wp2_with (first
    | (go_at_call 190;refine (Ie _).mono ?_;rintro e w' ⟨rfl,rfl⟩)
    | (go_at_call 130;refine (iG _ _).mono ?_;rintro e w' ⟨rfl,rfl⟩))
 go_ret
 exact⟨rfl,rfl⟩
end
end Go.Proofs.YtcedlgedmkghgaaGreat
