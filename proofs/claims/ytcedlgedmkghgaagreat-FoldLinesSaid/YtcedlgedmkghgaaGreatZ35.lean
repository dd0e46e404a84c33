import Derived.Test.YtcedlgedmkghgaaGreatZ32
import Derived.Test.YtcedlgedmkghgaaGreatZ26
import Derived.Test.YtcedlgedmkghgaaGreatZ31
namespace Go.Proofs.YtcedlgedmkghgaaGreat
set_option maxHeartbeats 16000000
open Go.Lib Go.Proofs.Tryz
set_option linter.unusedSimpArgs false
set_option maxRecDepth 100000
section
open Go.RowKit Go.Lib
theorem IJ {ls:List T9.Li} {A:Option Addr} {n1 c:Nat} {ms:List aL} {A2:Option Addr} {n2 c2:Nat} {id list f:Nat} {text:List UInt8} {flag:Bool} {w:World} (hS:DS ⟨ls,A,c,ms,A2,c2⟩ w) (hB:DB ⟨ls,ay ms⟩) (e1:n1=ls.length) (e2:n2=ms.length) :
  Calls prog 75 #[.agg #[.slice A n1 c,.slice A2 n2 c2],.agg #[.int .i64 2,.int .u64 (id:Int),.int .u64 (list:Int),.string (str text),.float .f64 f,.bool flag]] w (oF ⟨ls,ay ms⟩ ⟨2,id,list,text,f,flag⟩ w):=by
 have E1:=hid e1
 have E2:=hid e2
 have HB:=hid hB
 have N1:Hid (n1≤1000):=hid (by rw [e1];exact hB.n1)
 have N2:Hid (n2≤1000):=hid (by have:=hB.n2;rw [e2,← aI];exact this)
 obtain⟨w1,hw1⟩:∃ u,w.alloc (.cells #[.slice A n1 c,.slice A2 n2 c2] 25)=u:=⟨_,rfl⟩
 obtain⟨a1,b1,z1⟩:=ak hw1
 obtain⟨w2,hw2⟩:∃ u,w1.alloc (.cells #[.int .i64 2,.int .u64 (id:Int),.int .u64 (list:Int),.string (str text),.float .f64 f,.bool flag] 65)=u:=⟨_,rfl⟩
 obtain⟨a2,b2,z2⟩:=bu hw2
 obtain⟨w3,hw3⟩:∃ u,w2.alloc (.cells #[.slice none 0 0,.slice none 0 0] 25)=u:=⟨_,rfl⟩
 obtain⟨a3,b3,z3⟩:=ak hw3
 rw [z1] at a2
 rw [z2,z1] at a3
 have zz:w3.heap.size=w.heap.size+3:=by omega
 have PB:Hid (w3.heap[w.heap.size]?=some (.cells #[.slice A n1 c,.slice A2 n2 c2] 25 (0,0))):=hid (ae (ae a1 b2) b3)
 have MB:Hid (w3.heap[w.heap.size+1]?=some (.cells #[.int .i64 2,.int .u64 (id:Int),.int .u64 (list:Int),.string (str text),.float .f64 f,.bool flag] 65 (0,0))):=hid (ae a2 b3)
 have RB:Hid (w3.heap[w.heap.size+2]?=some (.cells #[.slice none 0 0,.slice none 0 0] 25 (0,0))):=hid a3
 have B3:Hid (Below w.heap.size w w3):=hid ((b1.trans (b2.mono (by omega))).trans (b3.mono (by omega)))
 have D3:=hid (hS.stay B3.out)
 have C1:=hid (bv (A2:=A2) (n2:=n2) (c:=c) (c2:=c2) (show LL w3 A ls from D3.out.l.old) e1 (by have:=N1.out;omega) id)
 obtain⟨p0,p1⟩:=aa PB.out
 obtain⟨m0,m1,m2,m3,m4,m5⟩:=ag MB.out
 have ZZ:=hid zz
 have qD:=z1
 have qE:w2.heap.size=w.heap.size+2:=by omega
 clear hS hB e1 e2 a1 a2 a3 b1 b2 b3 z1 z2 z3 zz
 go_enter func75,ntmps75
 go_wp2_with fail
 refine C1.out.mono ?_
 rintro e w4 ⟨rfl,hb4⟩
 clear hw1 hw2 hw3 C1 qD qE p0 p1 m0 m1 m2 m3 m4 m5
 obtain⟨i1,t1,hf1⟩:∃ i t,T9.aX ls id=(⟨i,t⟩,T9.bC ls id):=⟨(T9.aX ls id).1.id,(T9.aX ls id).1.name,by rw [← bF]⟩
 rw [hf1]
 obtain⟨w5,fQ⟩:∃ u,w4.alloc (.cells #[.int .u64 (i1:Int),.string (str t1)] 71)=u:=⟨_,rfl⟩
 obtain⟨-,b5,-⟩:=ak fQ
 have B5:Hid (Below w3.heap.size w3 w5):=hid (hb4.trans (b5.mono hb4.size))
 have C2:=hid (bv (A2:=A2) (n2:=n2) (c:=c) (c2:=c2) (show LL w5 A ls from (D3.out.stay B5.out).l.old) E1.out (by have:=N1.out;omega) list)
 obtain⟨p0,p1⟩:=aa (ae PB.out B5.out)
 obtain⟨m0,m1,m2,m3,m4,m5⟩:=ag (ae MB.out B5.out)
 obtain⟨p4,p5⟩:=aa (ae PB.out hb4)
 unfold bf
 dsimp only
 clear hf1 b5 hb4
 go_wp2_with fail
 refine C2.out.mono ?_
 rintro e w6 ⟨rfl,hb6⟩
 clear fQ C2 p0 p1 p4 p5 m0 m1 m2 m3 m4 m5
 obtain⟨i2,t2,hf2⟩:∃ i t,T9.aX ls list=(⟨i,t⟩,T9.bC ls list):=⟨(T9.aX ls list).1.id,(T9.aX ls list).1.name,by rw [← bF]⟩
 rw [hf2]
 obtain⟨w7,hw7⟩:∃ u,w6.alloc (.cells #[.int .u64 (i2:Int),.string (str t2)] 71)=u:=⟨_,rfl⟩
 obtain⟨-,b7,-⟩:=ak hw7
 have B7:Hid (Below w3.heap.size w3 w7):=hid (B5.out.trans ((hb6.trans (b7.mono hb6.size)).mono B5.out.size))
 have C3:=hid (dE (A:=A) (n1:=n1) (c:=c) (c2:=c2) (D3.out.stay B7.out).kl E2.out (by have:=N2.out;omega) (D3.out.stay B7.out).t id)
 obtain⟨p0,p1⟩:=aa (ae PB.out B7.out)
 obtain⟨m0,m1,m2,m3,m4,m5⟩:=ag (ae MB.out B7.out)
 unfold bf
 dsimp only
 clear hf2 b7 hb6
 go_wp2_with fail
 refine C3.out.mono ?_
 rintro e w8 ⟨⟨tk,A4,c4⟩,rfl,htk,hft,fM⟩
 clear hw7 C3 p0 p1 m0 m1 m2 m3 m4 m5
 have uw:Hid (tk=(T9.dH (ay ms) id).1):=hid htk
 rw [dY]
 obtain⟨w9,jD⟩:∃ u,w8.alloc (.cells #[.int .u64 (tk.id:Int),.int .u64 (tk.list:Int),.string (str tk.title),.bool tk.done,.float .f64 tk.rank,.float .f64 tk.est,.slice A4 tk.tags.length c4] 74)=u:=⟨_,rfl⟩
 obtain⟨jF,b9,-⟩:=bn jD
 have B9:Hid (Below w3.heap.size w3 w9):=hid (B7.out.trans ((fM.trans (b9.mono fM.size)).mono B7.out.size))
 have LB:=hid jF
 have ZG:Hid (w.heap.size+3≤w8.heap.size∧w8.heap.size<w9.heap.size):=hid ⟨by have:=ZZ.out;have:=B7.out.size;have:=fM.size;omega,lt_of_block jF⟩
 have FT:=hid (hft.stay b9)
 have D9:=hid (D3.out.stay B9.out)
 have P9:=hid (ae PB.out B9.out)
 have M9:=hid (ae MB.out B9.out)
 have R9:=hid (ae RB.out B9.out)
 have BW:=hid (B3.out.trans (B9.out.mono B3.out.size))
 obtain⟨p0,p1⟩:=aa P9.out
 obtain⟨m0,m1,m2,m3,m4,m5⟩:=ag M9.out
 obtain⟨r0,r1⟩:=aa R9.out
 have jC:=af R9.out 0
 have jl:=af R9.out 1
 unfold az
 dsimp only
 clear htk hft fM jF b9 PB MB RB D3
 cases hhHH:T9.bC ls id with
 | false =>
  have HH:=hid hhHH
  clear hhHH
  have V:=hid (T9.Gd (s:=⟨ls,ay ms⟩) (list:=list) (f:=f) (text:=text) (flag:=flag) HH.out)
  have KB:Hid (((w9.setCell ⟨w.heap.size+2,0,none⟩ (.slice A n1 c)).setCell ⟨w.heap.size+2,1,none⟩ (.slice A2 n2 c2)).heap[w.heap.size+2]?=some (.cells #[.slice A n1 c,.slice A2 n2 c2] 25 (0,0))):=hid (ah (ah R9.out 0 _) 1 _)
  obtain⟨k0,k1⟩:=aa KB.out
  go_wp2
  refine bodyPost_ret (v:=.tuple #[.agg #[.slice A n1 c,.slice A2 n2 c2],.int .i64 (T9.eB ⟨ls,ay ms⟩ ⟨2,id,list,text,f,flag⟩).1]) (by rw [V.out];simp [results,results75,go_sem,k0,k1]) rfl ?_
  refine⟨⟨ls,A,c,ms,A2,c2⟩,_,by rw [E1.out,E2.out];rfl,rfl,(fun z=>by rw [V.out] at z;cases z),?_⟩
  exact (BW.out.setCell (by show w.heap.size≤w.heap.size+2;omega) _).setCell (by show w.heap.size≤w.heap.size+2;omega) _
 | true =>
  have HH:=hid hhHH
  clear hhHH
  go_wp2_with fail
  clear r0 r1 jC jl jD
  go_loopw [12,66] (fun s12 s66 wr=>∃ (i k:Nat) (A3:Option Addr) (c3:Nat) (xs:List T9.Li),s66=.int .i64 i∧i≤n1∧s12=.slice A3 k c3∧k≤i∧Aside (wr.ownsRow w9.heap.size 71 2 (.slice A3 k c3) k (aJ xs))∧Aside (Below w9.heap.size w9 wr)∧Hid (xs.length=k∧xs=(ls.take i).filter (fun y=>!(y.id==id))∧(A3=none→c3=0))) (fun _ s66 _=>n1 - (intOf s66).toNat)
  case atStart=>exact⟨0,0,none,0,[],rfl,Nat.zero_le _,rfl,Nat.le_refl _,World.ownsRow_nil _ _ _ _,Below.refl _ _,hid ⟨rfl,rfl,fun _=>rfl⟩⟩
  case round =>
   obtain⟨i,k,A3,c3,xs,rfl,hi,rfl,hki,hO,hBB,HI⟩:=hrel
   have OW:=hid hO.out
   have BR:=hid hBB.out
   clear hO hBB p0 p1 m0 m1 m2 m3 m4 m5
   have n1k:=N1.out
   by_cases hlt:i<n1
   ·have hltz:(i:Int)<(n1:Int):=by omega
    obtain⟨ad,⟨l1,l2⟩,hA,hx,s0,s1⟩:=LL.at_ (k:=i) (show LL wr A ls from (D9.out.stay BR.out).l.old) (by have:=E1.out;omega)
    subst hA
    have X:=hid hx
    dsimp only at s0 s1
    obtain⟨wl,hwl⟩:∃ u,wr.alloc (.cells #[.int .u64 (l1:Int),.string (str l2)] 71)=u:=⟨_,rfl⟩
    obtain⟨lb,bl,zl⟩:=ak hwl
    have BL:=hid bl
    obtain⟨t0,t1⟩:=aa lb
    obtain⟨m0,m1,m2,m3,m4,m5⟩:=ag (ae (ae M9.out BR.out) bl)
    have uA:Hid ((ls.take (i+1)).filter (fun y=>!(y.id==id))=(ls.take i).filter (fun y=>!(y.id==id))++[(⟨l1,l2⟩:T9.Li)].filter (fun y=>!(y.id==id))):=hid (by rw [bL X.out,List.filter_append])
    clear hx lb bl zl
    by_cases he:l1=id
    ·have uD:((l1:Int) != (id:Int))=false:=by simp;omega
     have FL:Hid ([(⟨l1,l2⟩:T9.Li)].filter (fun y=>!(y.id==id))=[]):=hid (by simp [he])
     clear he
     go_wp2
     go_roundw
     case rel=>exact⟨i+1,k,A3,c3,xs,by go_num,by omega,rfl,by omega,own_below OW.out BL.out,BR.out.trans (BL.out.mono BR.out.size),hid ⟨HI.out.1,by rw [uA.out,FL.out,List.append_nil];exact HI.out.2.1,HI.out.2.2⟩⟩
     case measure=>simp [intOf];omega
    ·have uD:((l1:Int) != (id:Int))=true:=by simp;omega
     have FL:Hid ([(⟨l1,l2⟩:T9.Li)].filter (fun y=>!(y.id==id))=[⟨l1,l2⟩]):=hid (by simp [he])
     clear he
     have hbs:=bs11L (.int .u64 (l1:Int)) (.string (str l2)) wl
     have Dk:=hid (own_below OW.out BL.out)
     have lI:=hid (Dk.out.alloc (.cells #[.int .u64 (l1:Int),.string (str l2)] 71))
     have LE:Hid (au (wl.alloc (.cells #[.int .u64 (l1:Int),.string (str l2)] 71)) 0 71 (some ⟨wl.heap.size,0,none⟩) (bf ⟨l1,l2⟩)):=hid (au.gY (heap_alloc_new wl _))
     have zz:w9.heap.size≤wl.heap.size:=Nat.le_trans BR.out.size BL.out.size
     have ZZ:=hid zz
     obtain⟨vN,vM,vQ,vR,vS⟩:=info_parts Tryz.infoLi9
     go_wp2_with (at_builtin;refine bE _ rfl _ _ 22 rfl w9.heap.size 71 vN _ 2 24 underlying22 vM vQ vR vS rfl (by decide) _ k (aJ xs) rfl lI.out 0 _ 1 1 (bf ⟨l1,l2⟩) 71 rfl rfl LE.out (by intro v hv;simp [bf] at hv;rcases hv with rfl | rfl <;> rfl) (by unfold maxLen;omega) (by omega) (by simp;omega) ?_)
     intro v8 wq ku lZ GM
     obtain⟨A8,k8,rfl⟩:=aA ku
     obtain⟨g8,e8,_⟩:=bO ku (Nat.succ_pos _)
     have T8:Hid (aN w9.heap.size [71] wl wq):=hid (((aN.refl w9.heap.size [71] wl).alloc ZZ.out (.cells #[.int .u64 (l1:Int),.string (str l2)] 71)).trans (dP (B:=w9.heap.size) (ts:=[71]) lI.out lZ (Nat.le_refl _) (by have:=ZZ.out;simp;omega) (by simp)))
     have HO8:=hid ku
     have E8:=hid e8
     clear ku lZ GM hbs m0 m1 m2 m3 m4 m5 e8 zz s0 s1 t0 t1
     go_wp2
     go_roundw
     case rel =>
      refine⟨i+1,k+1,A8,k8,xs++[⟨l1,l2⟩],by go_num,by omega,rfl,by omega,?_,(BR.out.trans (BL.out.mono BR.out.size)).trans T8.out.below,hid ⟨by rw [List.length_append,HI.out.1];rfl,by rw [uA.out,FL.out,← HI.out.2.1],fun z=>by rw [E8.out] at z;cases z⟩⟩
      rw [yN]
      exact HO8.out
     case measure=>simp [intOf];omega
   ·obtain rfl:i=n1:=by omega
    have hltz:¬ ((i:Int)<(i:Int)):=by omega
    have XT:Hid (xs=ls.filter (fun y=>!(y.id==id))):=hid (by have q:=HI.out.2.1;rwa [E1.out,List.take_length] at q)
    have Dr:=hid (D9.out.stay BR.out)
    have Pr:=hid (ae P9.out BR.out)
    have Rr:=hid (ae R9.out BR.out)
    have C4:=hid (fD (c:=c2) Dr.out.kl Dr.out.t E2.out N2.out id false 0)
    obtain⟨p0,p1⟩:=aa Pr.out
    obtain⟨m0,m1,m2,m3,m4,m5⟩:=ag (ae M9.out BR.out)
    go_wp2_with fail
    refine C4.out.mono ?_
    rintro e gT ⟨bX,c10,ts,rfl,l10,nU,fT,gF,hts,bD,iF⟩
    clear C4 p0 p1 m0 m1 m2 m3 m4 m5 iF
    obtain⟨n10,dn⟩:∃ z,ts.length=z:=⟨_,rfl⟩
    rw [dn]
    have fU:=ae Pr.out bD
    have lM:=ae Rr.out bD
    obtain⟨q0,q1⟩:=aa fU
    have fp0:=af fU 0
    have og:=af fU 1
    obtain⟨wa,dA⟩:∃ u,gT.setCell ⟨w.heap.size,0,none⟩ (.slice A3 k c3)=u:=⟨_,rfl⟩
    have Pa:wa.heap[w.heap.size]?=some (.cells #[.slice A3 k c3,.slice A2 n2 c2] 25 (0,0)):=by rw [← dA];exact ah fU 0 _
    have Ra:wa.heap[w.heap.size+2]?=some (.cells #[.slice none 0 0,.slice none 0 0] 25 (0,0)):=by rw [← dA];exact av lM (p:=⟨w.heap.size,0,none⟩) (by show w.heap.size+2≠w.heap.size;omega) _
    obtain⟨a0,a1⟩:=aa Pa
    have fa1:=af Pa 1
    obtain⟨wb,hwb⟩:∃ u,wa.setCell ⟨w.heap.size,1,none⟩ (.slice bX n10 c10)=u:=⟨_,rfl⟩
    have PF:Hid (wb.heap[w.heap.size]?=some (.cells #[.slice A3 k c3,.slice bX n10 c10] 25 (0,0))):=hid (by rw [← hwb];exact ah Pa 1 _)
    have RF:Hid (wb.heap[w.heap.size+2]?=some (.cells #[.slice none 0 0,.slice none 0 0] 25 (0,0))):=hid (by rw [← hwb];exact av Ra (p:=⟨w.heap.size,1,none⟩) (by show w.heap.size+2≠w.heap.size;omega) _)
    have yp:Ty gT w.heap.size 25:=⟨_,_,fU⟩
    have TA:=((aN.refl 0 [25] gT).aC (p:=⟨w.heap.size,0,none⟩) yp (by simp) (Nat.zero_le _) (.slice A3 k c3)).aC (p:=⟨w.heap.size,1,none⟩) (yp.set _ _) (by simp) (Nat.zero_le _) (.slice bX n10 c10)
    rw [dA,hwb] at TA
    have DX:DS ⟨xs,A3,c3,ts,bX,c10⟩ gT:=⟨bG (aG (B:=0) OW.out) bD,l10,nU,by rw [HI.out.1];exact (aO OW.out).2,fT,HI.out.2.2,gF⟩
    have DF:=hid (DX.bH TA (by decide) (by decide) (by decide))
    have BF:Hid (Below w.heap.size w wb):=hid (by rw [← hwb,← dA];exact ((BW.out.trans ((BR.out.trans (bD.mono BR.out.size)).mono BW.out.size)).setCell (Nat.le_refl _) _).setCell (Nat.le_refl _) _)
    have QS:Hid ((⟨xs,A3,c3,ts,bX,c10⟩:aW).st=⟨ls.filter (fun y=>!(y.id==id)),T9.wo (ay ms) id false 0⟩):=hid (by rw [← hts,← XT.out];rfl)
    have QV:Hid (Ending.returned (.tuple #[.agg #[.slice A3 k c3,.slice bX n10 c10],.int .i64 0])=Ending.returned (.tuple #[(⟨xs,A3,c3,ts,bX,c10⟩:aW).val,.int .i64 0])):=hid (by rw [← dn,← HI.out.1];rfl)
    clear bD fU lM Ra yp TA DX dn l10 fT gF nU hts Pa
    obtain⟨p0,p1⟩:=aa PF.out
    obtain⟨r0,r1⟩:=aa RF.out
    have jC:=af RF.out 0
    have jl:=af RF.out 1
    have KB:Hid (((wb.setCell ⟨w.heap.size+2,0,none⟩ (.slice A3 k c3)).setCell ⟨w.heap.size+2,1,none⟩ (.slice bX n10 c10)).heap[w.heap.size+2]?=some (.cells #[.slice A3 k c3,.slice bX n10 c10] 25 (0,0))):=hid (ah (ah RF.out 0 _) 1 _)
    have yr:Ty wb (w.heap.size+2) 25:=⟨_,_,RF.out⟩
    have TF:=hid (((aN.refl 0 [25] wb).aC (p:=⟨w.heap.size+2,0,none⟩) yr (by simp) (Nat.zero_le _) (.slice A3 k c3)).aC (p:=⟨w.heap.size+2,1,none⟩) (yr.set _ _) (by simp) (Nat.zero_le _) (.slice bX n10 c10))
    obtain⟨k0,k1⟩:=aa KB.out
    clear yr
    go_wp2
    refine bodyPost_ret (v:=.tuple #[.agg #[.slice A3 k c3,.slice bX n10 c10],.int .i64 0]) (by simp [results,results75,go_sem,k0,k1]) rfl ?_
    refine⟨⟨xs,A3,c3,ts,bX,c10⟩,0,QV.out,by rw [T9.AL (s:=⟨ls,ay ms⟩) (list:=list) (f:=f) (text:=text) (flag:=flag) HH.out],fun _=>⟨by rw [T9.AL (s:=⟨ls,ay ms⟩) (list:=list) (f:=f) (text:=text) (flag:=flag) HH.out];exact QS.out,DF.out.bH TF.out (by decide) (by decide) (by decide)⟩,?_⟩
    exact (BF.out.setCell (by show w.heap.size≤w.heap.size+2;omega) _).setCell (by show w.heap.size≤w.heap.size+2;omega) _
end
end Go.Proofs.YtcedlgedmkghgaaGreat
