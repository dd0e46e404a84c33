import Derived.Test.YtcmiompdjjiojaaGreatZ20
namespace Go.Proofs.YtcmiompdjjiojaaGreat
set_option maxHeartbeats 16000000
open Go.Lib Go.Proofs.Tryz
set_option linter.unusedSimpArgs false
set_option maxRecDepth 100000
section
open Go.RowKit Go.Lib
theorem Ls {ls:List T9.Li} {A:Option Addr} {n1 c:Nat} {ms:List aN} {A2:Option Addr} {n2 c2:Nat} {id list f:Nat} {text:List UInt8} {flag:Bool} {w:World} (hS:DS ⟨ls,A,c,ms,A2,c2⟩ w) (hB:DB ⟨ls,ay ms⟩) (e1:n1=ls.length) (e2:n2=ms.length) :
  Calls prog 52 #[.agg #[.slice A n1 c,.slice A2 n2 c2],.agg #[.int .i64 2,.int .u64 (id:Int),.int .u64 (list:Int),.string (str text),.float .f64 f,.bool flag]] w (p9 ⟨ls,ay ms⟩ ⟨2,id,list,text,f,flag⟩ w):=by
 have E1:=hid e1
 have E2:=hid e2
 have HB:=hid hB
 have N1:Hid (n1≤1000):=hid (by rw [e1];exact hB.n1)
 have N2:Hid (n2≤1000):=hid (by have:=hB.n2;rw [e2,← aK];exact this)
 obtain⟨w1,hw1⟩:=nm (w.alloc (.cells #[.slice A n1 c,.slice A2 n2 c2] 26))
 obtain⟨a1,b1,z1⟩:=aj hw1
 obtain⟨w2,hw2⟩:=nm (w1.alloc (.cells #[.int .i64 2,.int .u64 (id:Int),.int .u64 (list:Int),.string (str text),.float .f64 f,.bool flag] 57))
 obtain⟨a2,b2,z2⟩:=bn hw2
 obtain⟨w3,hw3⟩:=nm (w2.alloc (.cells #[.slice none 0 0,.slice none 0 0] 26))
 obtain⟨a3,b3,z3⟩:=aj hw3
 rw [z1] at a2
 rw [z2,z1] at a3
 have zz:w3.heap.size=w.heap.size+3:=by omega
 have PB:Hid (w3.heap[w.heap.size]?=some (.cells #[.slice A n1 c,.slice A2 n2 c2] 26 (0,0))):=hid (ae (ae a1 b2) b3)
 have MB:Hid (w3.heap[w.heap.size+1]?=some (.cells #[.int .i64 2,.int .u64 (id:Int),.int .u64 (list:Int),.string (str text),.float .f64 f,.bool flag] 57 (0,0))):=hid (ae a2 b3)
 have RB:Hid (w3.heap[w.heap.size+2]?=some (.cells #[.slice none 0 0,.slice none 0 0] 26 (0,0))):=hid a3
 have B3:Hid (Below w.heap.size w w3):=hid ((b1.trans (b2.mono (by omega))).trans (b3.mono (by omega)))
 have D3:=hid (hS.stay B3.out)
 have C1:=hid (bv (A2:=A2) (n2:=n2) (c:=c) (c2:=c2) (show LL w3 A ls from D3.out.l.old) e1 (by have:=N1.out;omega) id)
 obtain⟨p0,p1⟩:=aa PB.out
 obtain⟨m0,m1,m2,m3,m4,m5⟩:=ag MB.out
 have ZZ:=hid zz
 have rA:=z1
 have rC:w2.heap.size=w.heap.size+2:=by omega
 clear hS hB e1 e2 a1 a2 a3 b1 b2 b3 z1 z2 z3 zz
 go_enter func52,ntmps52
 go_wp2_with fail
 refine C1.out.mono ?_
 rintro e w4 ⟨rfl,hb4⟩
 clear hw1 hw2 hw3 C1 rA rC p0 p1 m0 m1 m2 m3 m4 m5
 obtain⟨i1,t1,hf1⟩:∃ i t,T9.aW ls id=(⟨i,t⟩,T9.bC ls id):=⟨(T9.aW ls id).1.id,(T9.aW ls id).1.name,by rw [← bF]⟩
 rw [hf1]
 obtain⟨w5,fV⟩:=nm (w4.alloc (.cells #[.int .u64 (i1:Int),.string (str t1)] 61))
 obtain⟨-,b5,-⟩:=aj fV
 have B5:Hid (Below w3.heap.size w3 w5):=hid (hb4.trans (b5.mono hb4.size))
 have C2:=hid (bv (A2:=A2) (n2:=n2) (c:=c) (c2:=c2) (show LL w5 A ls from (D3.out.stay B5.out).l.old) E1.out (by have:=N1.out;omega) list)
 obtain⟨p0,p1⟩:=aa (ae PB.out B5.out)
 obtain⟨m0,m1,m2,m3,m4,m5⟩:=ag (ae MB.out B5.out)
 obtain⟨p4,p5⟩:=aa (ae PB.out hb4)
 unfold a_
 dsimp only
 clear hf1 b5 hb4
 go_wp2_with fail
 refine C2.out.mono ?_
 rintro e w6 ⟨rfl,hb6⟩
 clear fV C2 p0 p1 p4 p5 m0 m1 m2 m3 m4 m5
 obtain⟨i2,t2,hf2⟩:∃ i t,T9.aW ls list=(⟨i,t⟩,T9.bC ls list):=⟨(T9.aW ls list).1.id,(T9.aW ls list).1.name,by rw [← bF]⟩
 rw [hf2]
 obtain⟨w7,hw7⟩:=nm (w6.alloc (.cells #[.int .u64 (i2:Int),.string (str t2)] 61))
 obtain⟨-,b7,-⟩:=aj hw7
 have B7:Hid (Below w3.heap.size w3 w7):=hid (B5.out.trans ((hb6.trans (b7.mono hb6.size)).mono B5.out.size))
 have C3:=hid (dG (A:=A) (n1:=n1) (c:=c) (c2:=c2) (D3.out.stay B7.out).kl E2.out (by have:=N2.out;omega) (D3.out.stay B7.out).t id)
 obtain⟨p0,p1⟩:=aa (ae PB.out B7.out)
 obtain⟨m0,m1,m2,m3,m4,m5⟩:=ag (ae MB.out B7.out)
 unfold a_
 dsimp only
 clear hf2 b7 hb6
 go_wp2_with fail
 refine C3.out.mono ?_
 rintro e w8 ⟨⟨tk,A4,c4⟩,rfl,htk,hft,gp⟩
 clear hw7 C3 p0 p1 m0 m1 m2 m3 m4 m5
 have wL:Hid (tk=(T9.dJ (ay ms) id).1):=hid htk
 rw [d_]
 obtain⟨w9,kQ⟩:=nm (w8.alloc (.cells #[.int .u64 (tk.id:Int),.int .u64 (tk.list:Int),.string (str tk.title),.bool tk.done,.float .f64 tk.rank,.float .f64 tk.est,.slice A4 tk.tags.length c4] 64))
 obtain⟨jR,b9,-⟩:=bf kQ
 have B9:Hid (Below w3.heap.size w3 w9):=hid (B7.out.trans ((gp.trans (b9.mono gp.size)).mono B7.out.size))
 have LB:=hid jR
 have ZG:Hid (w.heap.size+3≤w8.heap.size∧w8.heap.size<w9.heap.size):=hid ⟨by have:=ZZ.out;have:=B7.out.size;have:=gp.size;omega,lt_of_block jR⟩
 have FT:=hid (hft.stay b9)
 have D9:=hid (D3.out.stay B9.out)
 have P9:=hid (ae PB.out B9.out)
 have M9:=hid (ae MB.out B9.out)
 have R9:=hid (ae RB.out B9.out)
 have BW:=hid (B3.out.trans (B9.out.mono B3.out.size))
 obtain⟨p0,p1⟩:=aa P9.out
 obtain⟨m0,m1,m2,m3,m4,m5⟩:=ag M9.out
 obtain⟨r0,r1⟩:=aa R9.out
 have jO:=af R9.out 0
 have jB:=af R9.out 1
 unfold aA
 dsimp only
 clear htk hft gp jR b9 PB MB RB D3
 cases hhHH:T9.bC ls id with
 | false =>
  have HH:=hid hhHH
  clear hhHH
  have V:=hid (T9.JF (s:=⟨ls,ay ms⟩) (list:=list) (f:=f) (text:=text) (flag:=flag) HH.out)
  have KB:Hid (((w9.setCell ⟨w.heap.size+2,0,none⟩ (.slice A n1 c)).setCell ⟨w.heap.size+2,1,none⟩ (.slice A2 n2 c2)).heap[w.heap.size+2]?=some (.cells #[.slice A n1 c,.slice A2 n2 c2] 26 (0,0))):=hid (ah (ah R9.out 0 _) 1 _)
  obtain⟨k0,k1⟩:=aa KB.out
  go_wp2
  refine bodyPost_ret (v:=.tuple #[.agg #[.slice A n1 c,.slice A2 n2 c2],.int .i64 (T9.eD ⟨ls,ay ms⟩ ⟨2,id,list,text,f,flag⟩).1]) (by rw [V.out];simp [results,results52,go_sem,k0,k1]) rfl ?_
  refine⟨⟨ls,A,c,ms,A2,c2⟩,_,by rw [E1.out,E2.out];rfl,rfl,(fun z=>by rw [V.out] at z;cases z),?_⟩
  exact (BW.out.setCell (by show w.heap.size≤w.heap.size+2;omega) _).setCell (by show w.heap.size≤w.heap.size+2;omega) _
 | true =>
  have HH:=hid hhHH
  clear hhHH
  go_wp2_with fail
  clear r0 r1 jO jB kQ
  go_loopw [12,66] (fun s12 s66 wr=>∃ (i k:Nat) (A3:Option Addr) (c3:Nat) (xs:List T9.Li),s66=.int .i64 i∧i≤n1∧s12=.slice A3 k c3∧k≤i∧Aside (wr.ownsRow w9.heap.size 61 2 (.slice A3 k c3) k (aL xs))∧Aside (Below w9.heap.size w9 wr)∧Hid (xs.length=k∧xs=(ls.take i).filter (fun y=>!(y.id==id))∧(A3=none→c3=0))) (fun _ s66 _=>n1 - (intOf s66).toNat)
  case atStart=>exact⟨0,0,none,0,[],rfl,Nat.zero_le _,rfl,Nat.le_refl _,World.ownsRow_nil _ _ _ _,Below.refl _ _,hid ⟨rfl,rfl,fun _=>rfl⟩⟩
  case round =>
   obtain⟨i,k,A3,c3,xs,rfl,hi,rfl,hki,hO,hBB,HI⟩:=hrel
   have OW:=hid hO.out
   have BR:=hid hBB.out
   clear hO hBB p0 p1 m0 m1 m2 m3 m4 m5
   have n1k:=N1.out
   by_cases hlt:i<n1
   ·have hltz:(i:Int)<(n1:Int):=by omega
    obtain⟨ad,⟨l1,l2⟩,hA,hx,s0,s1⟩:=LL.at_ (k:=i) (show LL wr A ls from (D9.out.stay BR.out).l.old) (by have:=E1.out;omega)
    subst hA
    have X:=hid hx
    dsimp only at s0 s1
    obtain⟨wl,hwl⟩:=nm (wr.alloc (.cells #[.int .u64 (l1:Int),.string (str l2)] 61))
    obtain⟨lb,bl,zl⟩:=aj hwl
    have BL:=hid bl
    obtain⟨t0,t1⟩:=aa lb
    obtain⟨m0,m1,m2,m3,m4,m5⟩:=ag (ae (ae M9.out BR.out) bl)
    have wO:Hid ((ls.take (i+1)).filter (fun y=>!(y.id==id))=(ls.take i).filter (fun y=>!(y.id==id))++[(⟨l1,l2⟩:T9.Li)].filter (fun y=>!(y.id==id))):=hid (by rw [bH X.out,List.filter_append])
    clear hx lb bl zl
    by_cases he:l1=id
    ·have wT:((l1:Int) != (id:Int))=false:=by simp;omega
     have FL:Hid ([(⟨l1,l2⟩:T9.Li)].filter (fun y=>!(y.id==id))=[]):=hid (by simp [he])
     clear he
     go_wp2
     go_roundw
     case rel=>exact⟨i+1,k,A3,c3,xs,by go_num,by omega,rfl,by omega,own_below OW.out BL.out,BR.out.trans (BL.out.mono BR.out.size),hid ⟨HI.out.1,by rw [wO.out,FL.out,List.append_nil];exact HI.out.2.1,HI.out.2.2⟩⟩
     case measure=>simp [intOf];omega
    ·have wT:((l1:Int) != (id:Int))=true:=by simp;omega
     have FL:Hid ([(⟨l1,l2⟩:T9.Li)].filter (fun y=>!(y.id==id))=[⟨l1,l2⟩]):=hid (by simp [he])
     clear he
     have hbs:=bs11L (.int .u64 (l1:Int)) (.string (str l2)) wl
     have Gh:=hid (own_below OW.out BL.out)
     have mG:=hid (Gh.out.alloc (.cells #[.int .u64 (l1:Int),.string (str l2)] 61))
     have LE:Hid (au (wl.alloc (.cells #[.int .u64 (l1:Int),.string (str l2)] 61)) 0 61 (some ⟨wl.heap.size,0,none⟩) (a_ ⟨l1,l2⟩)):=hid (au.iy (heap_alloc_new wl _))
     have zz:w9.heap.size≤wl.heap.size:=Nat.le_trans BR.out.size BL.out.size
     have ZZ:=hid zz
     obtain⟨xX,xW,x8,x9,x_⟩:=info_parts Tryz.infoLi9
     go_wp2_with (at_builtin;refine bL _ rfl _ _ 23 rfl w9.heap.size 61 xX _ 2 24 underlying23 xW x8 x9 x_ rfl (by decide) _ k (aL xs) rfl mG.out 0 _ 1 1 (a_ ⟨l1,l2⟩) 61 rfl rfl LE.out (by intro v hv;simp [a_] at hv;rcases hv with rfl | rfl <;> rfl) (by unfold maxLen;omega) (by omega) (by simp;omega) ?_)
     intro v8 wq kT mY J8
     obtain⟨A8,k8,rfl⟩:=aD kT
     obtain⟨g8,e8,_⟩:=bO kT (Nat.succ_pos _)
     have T8:Hid (aM w9.heap.size [61] wl wq):=hid (((aM.refl w9.heap.size [61] wl).alloc ZZ.out (.cells #[.int .u64 (l1:Int),.string (str l2)] 61)).trans (ed (B:=w9.heap.size) (ts:=[61]) mG.out mY (Nat.le_refl _) (by have:=ZZ.out;simp;omega) (by simp)))
     have HO8:=hid kT
     have E8:=hid e8
     clear kT mY J8 hbs m0 m1 m2 m3 m4 m5 e8 zz s0 s1 t0 t1
     go_wp2
     go_roundw
     case rel =>
      refine⟨i+1,k+1,A8,k8,xs++[⟨l1,l2⟩],by go_num,by omega,rfl,by omega,?_,(BR.out.trans (BL.out.mono BR.out.size)).trans T8.out.below,hid ⟨by rw [List.length_append,HI.out.1];rfl,by rw [wO.out,FL.out,← HI.out.2.1],fun z=>by rw [E8.out] at z;cases z⟩⟩
      rw [A_]
      exact HO8.out
     case measure=>simp [intOf];omega
   ·obtain rfl:i=n1:=by omega
    have hltz:¬ ((i:Int)<(i:Int)):=by omega
    have XT:Hid (xs=ls.filter (fun y=>!(y.id==id))):=hid (by have q:=HI.out.2.1;rwa [E1.out,List.take_length] at q)
    have Dr:=hid (D9.out.stay BR.out)
    have Pr:=hid (ae P9.out BR.out)
    have Rr:=hid (ae R9.out BR.out)
    have C4:=hid (fH (c:=c2) Dr.out.kl Dr.out.t E2.out N2.out id false 0)
    obtain⟨p0,p1⟩:=aa Pr.out
    obtain⟨m0,m1,m2,m3,m4,m5⟩:=ag (ae M9.out BR.out)
    go_wp2_with fail
    refine C4.out.mono ?_
    rintro e iB ⟨bU,c10,ts,rfl,l10,pq,gz,gL,hts,bD,iN⟩
    clear C4 p0 p1 m0 m1 m2 m3 m4 m5 iN
    obtain⟨n10,dx⟩:=nm ts.length
    rw [dx]
    have gB:=ae Pr.out bD
    have mJ:=ae Rr.out bD
    obtain⟨q0,q1⟩:=aa gB
    have fp0:=af gB 0
    have pJ:=af gB 1
    obtain⟨wa,dB⟩:=nm (iB.setCell ⟨w.heap.size,0,none⟩ (.slice A3 k c3))
    have Pa:wa.heap[w.heap.size]?=some (.cells #[.slice A3 k c3,.slice A2 n2 c2] 26 (0,0)):=by rw [← dB];exact ah gB 0 _
    have Ra:wa.heap[w.heap.size+2]?=some (.cells #[.slice none 0 0,.slice none 0 0] 26 (0,0)):=by rw [← dB];exact az mJ (p:=⟨w.heap.size,0,none⟩) (by show w.heap.size+2≠w.heap.size;omega) _
    obtain⟨a0,a1⟩:=aa Pa
    have fa1:=af Pa 1
    obtain⟨wb,hwb⟩:=nm (wa.setCell ⟨w.heap.size,1,none⟩ (.slice bU n10 c10))
    have PF:Hid (wb.heap[w.heap.size]?=some (.cells #[.slice A3 k c3,.slice bU n10 c10] 26 (0,0))):=hid (by rw [← hwb];exact ah Pa 1 _)
    have RF:Hid (wb.heap[w.heap.size+2]?=some (.cells #[.slice none 0 0,.slice none 0 0] 26 (0,0))):=hid (by rw [← hwb];exact az Ra (p:=⟨w.heap.size,1,none⟩) (by show w.heap.size+2≠w.heap.size;omega) _)
    have yp:Ty iB w.heap.size 26:=⟨_,_,gB⟩
    have TA:=((aM.refl 0 [26] iB).aB (p:=⟨w.heap.size,0,none⟩) yp (by simp) (Nat.zero_le _) (.slice A3 k c3)).aB (p:=⟨w.heap.size,1,none⟩) (yp.set _ _) (by simp) (Nat.zero_le _) (.slice bU n10 c10)
    rw [dB,hwb] at TA
    have DX:DS ⟨xs,A3,c3,ts,bU,c10⟩ iB:=⟨bG (aH (B:=0) OW.out) bD,l10,pq,by rw [HI.out.1];exact (aO OW.out).2,gz,HI.out.2.2,gL⟩
    have DF:=hid (DX.bE TA (by decide) (by decide) (by decide))
    have BF:Hid (Below w.heap.size w wb):=hid (by rw [← hwb,← dB];exact ((BW.out.trans ((BR.out.trans (bD.mono BR.out.size)).mono BW.out.size)).setCell (Nat.le_refl _) _).setCell (Nat.le_refl _) _)
    have QS:Hid ((⟨xs,A3,c3,ts,bU,c10⟩:aQ).st=⟨ls.filter (fun y=>!(y.id==id)),T9.wo (ay ms) id false 0⟩):=hid (by rw [← hts,← XT.out];rfl)
    have QV:Hid (Ending.returned (.tuple #[.agg #[.slice A3 k c3,.slice bU n10 c10],.int .i64 0])=Ending.returned (.tuple #[(⟨xs,A3,c3,ts,bU,c10⟩:aQ).val,.int .i64 0])):=hid (by rw [← dx,← HI.out.1];rfl)
    clear bD gB mJ Ra yp TA DX dx l10 gz gL pq hts Pa
    obtain⟨p0,p1⟩:=aa PF.out
    obtain⟨r0,r1⟩:=aa RF.out
    have jO:=af RF.out 0
    have jB:=af RF.out 1
    have KB:Hid (((wb.setCell ⟨w.heap.size+2,0,none⟩ (.slice A3 k c3)).setCell ⟨w.heap.size+2,1,none⟩ (.slice bU n10 c10)).heap[w.heap.size+2]?=some (.cells #[.slice A3 k c3,.slice bU n10 c10] 26 (0,0))):=hid (ah (ah RF.out 0 _) 1 _)
    have yr:Ty wb (w.heap.size+2) 26:=⟨_,_,RF.out⟩
    have TF:=hid (((aM.refl 0 [26] wb).aB (p:=⟨w.heap.size+2,0,none⟩) yr (by simp) (Nat.zero_le _) (.slice A3 k c3)).aB (p:=⟨w.heap.size+2,1,none⟩) (yr.set _ _) (by simp) (Nat.zero_le _) (.slice bU n10 c10))
    obtain⟨k0,k1⟩:=aa KB.out
    clear yr
    go_wp2
    refine bodyPost_ret (v:=.tuple #[.agg #[.slice A3 k c3,.slice bU n10 c10],.int .i64 0]) (by simp [results,results52,go_sem,k0,k1]) rfl ?_
    refine⟨⟨xs,A3,c3,ts,bU,c10⟩,0,QV.out,by rw [T9.DI (s:=⟨ls,ay ms⟩) (list:=list) (f:=f) (text:=text) (flag:=flag) HH.out],fun _=>⟨by rw [T9.DI (s:=⟨ls,ay ms⟩) (list:=list) (f:=f) (text:=text) (flag:=flag) HH.out];exact QS.out,DF.out.bE TF.out (by decide) (by decide) (by decide)⟩,?_⟩
    exact (BF.out.setCell (by show w.heap.size≤w.heap.size+2;omega) _).setCell (by show w.heap.size≤w.heap.size+2;omega) _
end
section
open Go.RowKit Go.Lib
theorem LH {ls:List T9.Li} {A:Option Addr} {n1 c:Nat} {ms:List aN} {A2:Option Addr} {n2 c2:Nat} {id list f:Nat} {text:List UInt8} {flag:Bool} {w:World} (hS:DS ⟨ls,A,c,ms,A2,c2⟩ w) (hB:DB ⟨ls,ay ms⟩) (e1:n1=ls.length) (e2:n2=ms.length) :
  Calls prog 52 #[.agg #[.slice A n1 c,.slice A2 n2 c2],.agg #[.int .i64 9,.int .u64 (id:Int),.int .u64 (list:Int),.string (str text),.float .f64 f,.bool flag]] w (p9 ⟨ls,ay ms⟩ ⟨9,id,list,text,f,flag⟩ w):=by
 have E1:=hid e1
 have E2:=hid e2
 have HB:=hid hB
 have N1:Hid (n1≤1000):=hid (by rw [e1];exact hB.n1)
 have N2:Hid (n2≤1000):=hid (by have:=hB.n2;rw [e2,← aK];exact this)
 obtain⟨w1,hw1⟩:=nm (w.alloc (.cells #[.slice A n1 c,.slice A2 n2 c2] 26))
 obtain⟨a1,b1,z1⟩:=aj hw1
 obtain⟨w2,hw2⟩:=nm (w1.alloc (.cells #[.int .i64 9,.int .u64 (id:Int),.int .u64 (list:Int),.string (str text),.float .f64 f,.bool flag] 57))
 obtain⟨a2,b2,z2⟩:=bn hw2
 obtain⟨w3,hw3⟩:=nm (w2.alloc (.cells #[.slice none 0 0,.slice none 0 0] 26))
 obtain⟨a3,b3,z3⟩:=aj hw3
 rw [z1] at a2
 rw [z2,z1] at a3
 have zz:w3.heap.size=w.heap.size+3:=by omega
 have PB:Hid (w3.heap[w.heap.size]?=some (.cells #[.slice A n1 c,.slice A2 n2 c2] 26 (0,0))):=hid (ae (ae a1 b2) b3)
 have MB:Hid (w3.heap[w.heap.size+1]?=some (.cells #[.int .i64 9,.int .u64 (id:Int),.int .u64 (list:Int),.string (str text),.float .f64 f,.bool flag] 57 (0,0))):=hid (ae a2 b3)
 have RB:Hid (w3.heap[w.heap.size+2]?=some (.cells #[.slice none 0 0,.slice none 0 0] 26 (0,0))):=hid a3
 have B3:Hid (Below w.heap.size w w3):=hid ((b1.trans (b2.mono (by omega))).trans (b3.mono (by omega)))
 have D3:=hid (hS.stay B3.out)
 have C1:=hid (bv (A2:=A2) (n2:=n2) (c:=c) (c2:=c2) (show LL w3 A ls from D3.out.l.old) e1 (by have:=N1.out;omega) id)
 obtain⟨p0,p1⟩:=aa PB.out
 obtain⟨m0,m1,m2,m3,m4,m5⟩:=ag MB.out
 have ZZ:=hid zz
 have rA:=z1
 have rC:w2.heap.size=w.heap.size+2:=by omega
 clear hS hB e1 e2 a1 a2 a3 b1 b2 b3 z1 z2 z3 zz
 go_enter func52,ntmps52
 go_wp2_with fail
 refine C1.out.mono ?_
 rintro e w4 ⟨rfl,hb4⟩
 clear hw1 hw2 hw3 C1 rA rC p0 p1 m0 m1 m2 m3 m4 m5
 obtain⟨i1,t1,hf1⟩:∃ i t,T9.aW ls id=(⟨i,t⟩,T9.bC ls id):=⟨(T9.aW ls id).1.id,(T9.aW ls id).1.name,by rw [← bF]⟩
 rw [hf1]
 obtain⟨w5,fV⟩:=nm (w4.alloc (.cells #[.int .u64 (i1:Int),.string (str t1)] 61))
 obtain⟨-,b5,-⟩:=aj fV
 have B5:Hid (Below w3.heap.size w3 w5):=hid (hb4.trans (b5.mono hb4.size))
 have C2:=hid (bv (A2:=A2) (n2:=n2) (c:=c) (c2:=c2) (show LL w5 A ls from (D3.out.stay B5.out).l.old) E1.out (by have:=N1.out;omega) list)
 obtain⟨p0,p1⟩:=aa (ae PB.out B5.out)
 obtain⟨m0,m1,m2,m3,m4,m5⟩:=ag (ae MB.out B5.out)
 obtain⟨p4,p5⟩:=aa (ae PB.out hb4)
 unfold a_
 dsimp only
 clear hf1 b5 hb4
 go_wp2_with fail
 refine C2.out.mono ?_
 rintro e w6 ⟨rfl,hb6⟩
 clear fV C2 p0 p1 p4 p5 m0 m1 m2 m3 m4 m5
 obtain⟨i2,t2,hf2⟩:∃ i t,T9.aW ls list=(⟨i,t⟩,T9.bC ls list):=⟨(T9.aW ls list).1.id,(T9.aW ls list).1.name,by rw [← bF]⟩
 rw [hf2]
 obtain⟨w7,hw7⟩:=nm (w6.alloc (.cells #[.int .u64 (i2:Int),.string (str t2)] 61))
 obtain⟨-,b7,-⟩:=aj hw7
 have B7:Hid (Below w3.heap.size w3 w7):=hid (B5.out.trans ((hb6.trans (b7.mono hb6.size)).mono B5.out.size))
 have C3:=hid (dG (A:=A) (n1:=n1) (c:=c) (c2:=c2) (D3.out.stay B7.out).kl E2.out (by have:=N2.out;omega) (D3.out.stay B7.out).t id)
 obtain⟨p0,p1⟩:=aa (ae PB.out B7.out)
 obtain⟨m0,m1,m2,m3,m4,m5⟩:=ag (ae MB.out B7.out)
 unfold a_
 dsimp only
 clear hf2 b7 hb6
 go_wp2_with fail
 refine C3.out.mono ?_
 rintro e w8 ⟨⟨tk,A4,c4⟩,rfl,htk,hft,gp⟩
 clear hw7 C3 p0 p1 m0 m1 m2 m3 m4 m5
 have wL:Hid (tk=(T9.dJ (ay ms) id).1):=hid htk
 rw [d_]
 obtain⟨w9,kQ⟩:=nm (w8.alloc (.cells #[.int .u64 (tk.id:Int),.int .u64 (tk.list:Int),.string (str tk.title),.bool tk.done,.float .f64 tk.rank,.float .f64 tk.est,.slice A4 tk.tags.length c4] 64))
 obtain⟨jR,b9,-⟩:=bf kQ
 have B9:Hid (Below w3.heap.size w3 w9):=hid (B7.out.trans ((gp.trans (b9.mono gp.size)).mono B7.out.size))
 have LB:=hid jR
 have ZG:Hid (w.heap.size+3≤w8.heap.size∧w8.heap.size<w9.heap.size):=hid ⟨by have:=ZZ.out;have:=B7.out.size;have:=gp.size;omega,lt_of_block jR⟩
 have FT:=hid (hft.stay b9)
 have D9:=hid (D3.out.stay B9.out)
 have P9:=hid (ae PB.out B9.out)
 have M9:=hid (ae MB.out B9.out)
 have R9:=hid (ae RB.out B9.out)
 have BW:=hid (B3.out.trans (B9.out.mono B3.out.size))
 obtain⟨p0,p1⟩:=aa P9.out
 obtain⟨m0,m1,m2,m3,m4,m5⟩:=ag M9.out
 obtain⟨r0,r1⟩:=aa R9.out
 have jO:=af R9.out 0
 have jB:=af R9.out 1
 unfold aA
 dsimp only
 clear htk hft gp jR b9 PB MB RB D3
 cases hhHH:T9.eB (ay ms) id with
 | false =>
  have HH:=hid hhHH
  clear hhHH
  have V:=hid (T9.mU (k:=9) (s:=⟨ls,ay ms⟩) (list:=list) (f:=f) (text:=text) (flag:=flag) (by omega) HH.out)
  have KB:Hid (((w9.setCell ⟨w.heap.size+2,0,none⟩ (.slice A n1 c)).setCell ⟨w.heap.size+2,1,none⟩ (.slice A2 n2 c2)).heap[w.heap.size+2]?=some (.cells #[.slice A n1 c,.slice A2 n2 c2] 26 (0,0))):=hid (ah (ah R9.out 0 _) 1 _)
  obtain⟨k0,k1⟩:=aa KB.out
  go_wp2
  refine bodyPost_ret (v:=.tuple #[.agg #[.slice A n1 c,.slice A2 n2 c2],.int .i64 (T9.eD ⟨ls,ay ms⟩ ⟨9,id,list,text,f,flag⟩).1]) (by rw [V.out];simp [results,results52,go_sem,k0,k1]) rfl ?_
  refine⟨⟨ls,A,c,ms,A2,c2⟩,_,by rw [E1.out,E2.out];rfl,rfl,(fun z=>by rw [V.out] at z;cases z),?_⟩
  exact (BW.out.setCell (by show w.heap.size≤w.heap.size+2;omega) _).setCell (by show w.heap.size≤w.heap.size+2;omega) _
 | true =>
  have HH:=hid hhHH
  clear hhHH
  have C4:=hid (fH (c:=c2) D9.out.kl D9.out.t E2.out N2.out 0 false id)
  go_wp2_with fail
  refine C4.out.mono ?_
  rintro e iB ⟨bU,c10,xs,rfl,l10,pq,gz,gL,hts,bD,iN⟩
  clear C4 p0 p1 m0 m1 m2 m3 m4 m5 r0 r1 jO jB kQ
  have TS:=hid hts
  have mI:=hid iN
  clear iN
  obtain⟨n10,dx⟩:=nm xs.length
  have ic:=hid dx
  rw [dx]
  have gB:=ae P9.out bD
  have mJ:=ae R9.out bD
  have p_:=ae M9.out bD
  obtain⟨q0,q1⟩:=aa gB
  have pJ:=af gB 1
  obtain⟨wa,dB⟩:=nm (iB.setCell ⟨w.heap.size,1,none⟩ (.slice bU n10 c10))
  have PF:Hid (wa.heap[w.heap.size]?=some (.cells #[.slice A n1 c,.slice bU n10 c10] 26 (0,0))):=hid (by rw [← dB];exact ah gB 1 _)
  have RF:Hid (wa.heap[w.heap.size+2]?=some (.cells #[.slice none 0 0,.slice none 0 0] 26 (0,0))):=hid (by rw [← dB];exact az mJ (p:=⟨w.heap.size,1,none⟩) (by show w.heap.size+2≠w.heap.size;omega) _)
  have MF:Hid (wa.heap[w.heap.size+1]?=some (.cells #[.int .i64 9,.int .u64 (id:Int),.int .u64 (list:Int),.string (str text),.float .f64 f,.bool flag] 57 (0,0))):=hid (by rw [← dB];exact az p_ (p:=⟨w.heap.size,1,none⟩) (by show w.heap.size+1≠w.heap.size;omega) _)
  have yp:Ty iB w.heap.size 26:=⟨_,_,gB⟩
  have TA:=(aM.refl 0 [26] iB).aB (p:=⟨w.heap.size,1,none⟩) yp (by simp) (Nat.zero_le _) (.slice bU n10 c10)
  rw [dB] at TA
  have jl:=D9.out.stay bD
  have DX:DS ⟨ls,A,c,xs,bU,c10⟩ iB:=⟨jl.l,l10,pq,jl.lc,gz,jl.za,gL⟩
  have DF:=hid (DX.bE TA (by decide) (by decide) (by decide))
  have BF:Hid (Below w.heap.size w wa):=hid (by rw [← dB];exact (BW.out.trans (bD.mono BW.out.size)).setCell (Nat.le_refl _) _)
  have QV:Hid (Ending.returned (.tuple #[.agg #[.slice A n1 c,.slice bU n10 c10],.int .i64 0])=Ending.returned (.tuple #[(⟨ls,A,c,xs,bU,c10⟩:aQ).val,.int .i64 0])):=hid (by rw [← dx,E1.out];rfl)
  have jP:=hid bD
  have YP:=hid yp
  clear bD gB mJ p_ yp TA jl DX dx l10 gz gL pq hts
  obtain⟨m0,m1,m2,m3,m4,m5⟩:=ag MF.out
  have j3:Hid (wa.heap[w8.heap.size]?=some (.cells #[.int .u64 (tk.id:Int),.int .u64 (tk.list:Int),.string (str tk.title),.bool tk.done,.float .f64 tk.rank,.float .f64 tk.est,.slice A4 tk.tags.length c4] 64 (0,0))):=hid (by rw [← dB];exact az (ae LB.out jP.out) (p:=⟨w.heap.size,1,none⟩) (by show w8.heap.size≠w.heap.size;have:=ZG.out;omega) _)
  have CJ:Hid (au wa 0 9 A4 (aC tk.tags)):=hid (by rw [← dB];exact aG (bG FT.out.1 jP.out) YP.out (by decide))
  have rF:Hid (wa.ownsRow w9.heap.size 64 7 (.slice bU n10 c10) n10 (ai xs)):=hid (by
   have o:=mI.out
   rw [ic.out] at o
   refine dh o (fun z hz=>?_)
   have q:=(bM o z hz).1
   have:=ZG.out
   rw [← dB]
   exact Below.heap_setCell _ ⟨w.heap.size,1,none⟩ _ z (by show z≠w.heap.size;omega))
  obtain⟨u0,u1,u2,u3,u4,u5,u6⟩:=ak j3.out
  have TL:Hid (tk.tags.length≤100):=hid (by rw [wL.out];exact HB.out.t _ (T9.lF HH.out).1)
  obtain⟨er,Cs,hr⟩:∃ a b,T9.dY tk.tags ⟨9,id,list,text,f,flag⟩=(a,b):=⟨_,_,rfl⟩
  have HR:=hid hr
  have CT:=hid (FV (kd:=9) (n:=tk.tags.length) (c:=c4) (id:=id) (list:=list) (f:=f) (text:=text) (flag:=flag) CJ.out rfl TL.out FT.out.2)
  rw [hr] at CT
  clear hr
  go_wp2_with fail
  refine CT.out.mono ?_
  rintro e wt ⟨A5,c5,rfl,lt5,DW,hbt⟩
  dsimp only at lt5 DW ⊢
  clear CT q0 q1 pJ m0 m1 m2 m3 m4 m5 u0 u1 u2 u3 u4 u5 u6 dB
  have LT5:=hid lt5
  have LC5:=hid DW
  have rF:=hid (own_below rF.out hbt)
  have DF:=hid (DF.out.stay hbt)
  have BF:=hid (BF.out.trans (hbt.mono BF.out.size))
  have PF:=hid (ae PF.out hbt)
  have RF:=hid (ae RF.out hbt)
  have j3:=hid (ae j3.out hbt)
  obtain⟨u0,u1,u2,u3,u4,u5,u6⟩:=ak j3.out
  obtain⟨q0,q1⟩:=aa PF.out
  have pJ:=af PF.out 1
  have m0:=q0
  have m1:=q0
  have m2:=q0
  have m3:=q0
  have m4:=q0
  have m5:=q0
  clear lt5 DW hbt
  have fu:=af j3.out 6
  obtain⟨wb,hwb⟩:=nm (wt.setCell ⟨w8.heap.size,6,none⟩ (.slice A5 Cs.length c5))
  have CW:Hid (wb.heap[w8.heap.size]?=some (.cells #[.int .u64 (tk.id:Int),.int .u64 (tk.list:Int),.string (str tk.title),.bool tk.done,.float .f64 tk.rank,.float .f64 tk.est,.slice A5 Cs.length c5] 64 (0,0))):=hid (by rw [← hwb];exact ah j3.out 6 _)
  have ui:Hid (wb.heap[w.heap.size]?=some (.cells #[.slice A n1 c,.slice bU n10 c10] 26 (0,0))):=hid (by rw [← hwb];exact az PF.out (p:=⟨w8.heap.size,6,none⟩) (by show w.heap.size≠w8.heap.size;have:=ZG.out;omega) _)
  have CZ:Hid (wb.heap[w.heap.size+2]?=some (.cells #[.slice none 0 0,.slice none 0 0] 26 (0,0))):=hid (by rw [← hwb];exact az RF.out (p:=⟨w8.heap.size,6,none⟩) (by show w.heap.size+2≠w8.heap.size;have:=ZG.out;omega) _)
  have uh:Hid (wb.ownsRow w9.heap.size 64 7 (.slice bU n10 c10) n10 (ai xs)):=hid (dh rF.out (fun z hz=>by
   have q:=(bM rF.out z hz).1
   have:=ZG.out
   rw [← hwb]
   exact Below.heap_setCell _ ⟨w8.heap.size,6,none⟩ _ z (by show z≠w8.heap.size;omega)))
  have yt:Ty wt w8.heap.size 64:=⟨_,_,j3.out⟩
  have Tb:Hid (∀ m∈xs,m.bS wb):=hid fun m hm=>by rw [← hwb];exact⟨aG (DF.out.t m hm).1 yt (by decide),(DF.out.t m hm).2⟩
  have Lb:Hid (au wb 0 61 A (aL ls)):=hid (by rw [← hwb];exact aG DF.out.l yt (by decide))
  have CO:Hid ((⟨{ tk with tags:=Cs },A5,c5⟩:aN).bS wb):=hid (by rw [← hwb];exact⟨aG LT5.out yt (by decide),LC5.out⟩)
  have Bb:Hid (Below w.heap.size w wb):=hid (by rw [← hwb];exact BF.out.setCell (by show w.heap.size≤w8.heap.size;have:=ZG.out;omega) _)
  have CX:Hid (n10≤1000):=hid (by
   rw [← ic.out,← aK,TS.out]
   exact Nat.le_trans (List.length_filter_le _ _) HB.out.n2)
  have C5:=hid (fo (x:=(⟨{ tk with tags:=Cs },A5,c5⟩:aN)) (aH (B:=0) uh.out) Tb.out CO.out ic.out.symm (aO uh.out).2 DF.out.zk CX.out)
  dsimp only at C5
  obtain⟨p0,p1⟩:=aa ui.out
  obtain⟨v0,v1,v2,v3,v4,v5,v6⟩:=ak CW.out
  clear yt
  go_wp2_with fail
  refine C5.out.mono ?_
  rintro e kC ⟨cK,c11,rfl,ny,nO,gH,jL,dS⟩
  clear C5 q0 q1 pJ hwb m0 m1 m2 m3 m4 m5 u0 u1 u2 u3 u4 u5 u6 fu p0 p1 v0 v1 v2 v3 v4 v5 v6 PF RF DF BF QV
  obtain⟨ys,hys⟩:=nm (Sr.ins iI (⟨{ tk with tags:=Cs },A5,c5⟩:aN) xs)
  rw [hys] at ny nO gH ⊢
  obtain⟨n11,fU⟩:=nm ys.length
  rw [fU]
  have jN:=ae ui.out dS
  have qg:=ae CZ.out dS
  obtain⟨q0,q1⟩:=aa jN
  have pJ:=af jN 1
  obtain⟨wc,hwc⟩:=nm (kC.setCell ⟨w.heap.size,1,none⟩ (.slice cK n11 c11))
  have PF:Hid (wc.heap[w.heap.size]?=some (.cells #[.slice A n1 c,.slice cK n11 c11] 26 (0,0))):=hid (by rw [← hwc];exact ah jN 1 _)
  have RF:Hid (wc.heap[w.heap.size+2]?=some (.cells #[.slice none 0 0,.slice none 0 0] 26 (0,0))):=hid (by rw [← hwc];exact az qg (p:=⟨w.heap.size,1,none⟩) (by show w.heap.size+2≠w.heap.size;omega) _)
  have yp:Ty kC w.heap.size 26:=⟨_,_,jN⟩
  have TA:=(aM.refl 0 [26] kC).aB (p:=⟨w.heap.size,1,none⟩) yp (by simp) (Nat.zero_le _) (.slice cK n11 c11)
  rw [hwc] at TA
  have DX:DS ⟨ls,A,c,ys,cK,c11⟩ kC:=⟨bG Lb.out dS,ny,nO,D9.out.lc,gH,D9.out.za,jL⟩
  have DF:=hid (DX.bE TA (by decide) (by decide) (by decide))
  have BF:Hid (Below w.heap.size w wc):=hid (by rw [← hwc];exact (Bb.out.trans (dS.mono Bb.out.size)).setCell (Nat.le_refl _) _)
  have DM:Hid (T9.eD ⟨ls,ay ms⟩ ⟨9,id,list,text,f,flag⟩=(er,⟨ls,Sr.ins T9.jg { tk with tags:=Cs } (T9.wo (ay ms) 0 false id)⟩)):=hid (by
   rw [T9.mV (k:=9) (s:=⟨ls,ay ms⟩) (list:=list) (f:=f) (text:=text) (flag:=flag) (by omega) HH.out,← wL.out]
   simp [T9.pX,HR.out])
  have QS:Hid ((⟨ls,A,c,ys,cK,c11⟩:aQ).st=⟨ls,Sr.ins T9.jg { tk with tags:=Cs } (T9.wo (ay ms) 0 false id)⟩):=hid (by
   rw [← hys,← TS.out]
   show (⟨ls,ay (Sr.ins iI (⟨{ tk with tags:=Cs },A5,c5⟩:aN) xs)⟩:T9.St)=_
   rw [jD])
  have QV:Hid (Ending.returned (.tuple #[.agg #[.slice A n1 c,.slice cK n11 c11],.int .i64 er])=Ending.returned (.tuple #[(⟨ls,A,c,ys,cK,c11⟩:aQ).val,.int .i64 er])):=hid (by rw [← fU,E1.out];rfl)
  clear dS jN qg yp TA DX fU ny gH jL nO hys
  obtain⟨p0,p1⟩:=aa PF.out
  obtain⟨r0,r1⟩:=aa RF.out
  have jO:=af RF.out 0
  have jB:=af RF.out 1
  have KB:Hid (((wc.setCell ⟨w.heap.size+2,0,none⟩ (.slice A n1 c)).setCell ⟨w.heap.size+2,1,none⟩ (.slice cK n11 c11)).heap[w.heap.size+2]?=some (.cells #[.slice A n1 c,.slice cK n11 c11] 26 (0,0))):=hid (ah (ah RF.out 0 _) 1 _)
  have yr:Ty wc (w.heap.size+2) 26:=⟨_,_,RF.out⟩
  have TF:=hid (((aM.refl 0 [26] wc).aB (p:=⟨w.heap.size+2,0,none⟩) yr (by simp) (Nat.zero_le _) (.slice A n1 c)).aB (p:=⟨w.heap.size+2,1,none⟩) (yr.set _ _) (by simp) (Nat.zero_le _) (.slice cK n11 c11))
  obtain⟨k0,k1⟩:=aa KB.out
  clear yr
  go_wp2
  refine bodyPost_ret (v:=.tuple #[.agg #[.slice A n1 c,.slice cK n11 c11],.int .i64 er]) (by simp [results,results52,go_sem,k0,k1]) rfl ?_
  refine⟨⟨ls,A,c,ys,cK,c11⟩,er,QV.out,by rw [DM.out],fun _=>⟨by rw [DM.out];exact QS.out,DF.out.bE TF.out (by decide) (by decide) (by decide)⟩,?_⟩
  exact (BF.out.setCell (by show w.heap.size≤w.heap.size+2;omega) _).setCell (by show w.heap.size≤w.heap.size+2;omega) _
theorem Hu {ls:List T9.Li} {A:Option Addr} {n1 c:Nat} {ms:List aN} {A2:Option Addr} {n2 c2:Nat} {id list f:Nat} {text:List UInt8} {flag:Bool} {w:World} (hS:DS ⟨ls,A,c,ms,A2,c2⟩ w) (hB:DB ⟨ls,ay ms⟩) (e1:n1=ls.length) (e2:n2=ms.length) :
  Calls prog 52 #[.agg #[.slice A n1 c,.slice A2 n2 c2],.agg #[.int .i64 10,.int .u64 (id:Int),.int .u64 (list:Int),.string (str text),.float .f64 f,.bool flag]] w (p9 ⟨ls,ay ms⟩ ⟨10,id,list,text,f,flag⟩ w):=by
 have E1:=hid e1
 have E2:=hid e2
 have HB:=hid hB
 have N1:Hid (n1≤1000):=hid (by rw [e1];exact hB.n1)
 have N2:Hid (n2≤1000):=hid (by have:=hB.n2;rw [e2,← aK];exact this)
 obtain⟨w1,hw1⟩:=nm (w.alloc (.cells #[.slice A n1 c,.slice A2 n2 c2] 26))
 obtain⟨a1,b1,z1⟩:=aj hw1
 obtain⟨w2,hw2⟩:=nm (w1.alloc (.cells #[.int .i64 10,.int .u64 (id:Int),.int .u64 (list:Int),.string (str text),.float .f64 f,.bool flag] 57))
 obtain⟨a2,b2,z2⟩:=bn hw2
 obtain⟨w3,hw3⟩:=nm (w2.alloc (.cells #[.slice none 0 0,.slice none 0 0] 26))
 obtain⟨a3,b3,z3⟩:=aj hw3
 rw [z1] at a2
 rw [z2,z1] at a3
 have zz:w3.heap.size=w.heap.size+3:=by omega
 have PB:Hid (w3.heap[w.heap.size]?=some (.cells #[.slice A n1 c,.slice A2 n2 c2] 26 (0,0))):=hid (ae (ae a1 b2) b3)
 have MB:Hid (w3.heap[w.heap.size+1]?=some (.cells #[.int .i64 10,.int .u64 (id:Int),.int .u64 (list:Int),.string (str text),.float .f64 f,.bool flag] 57 (0,0))):=hid (ae a2 b3)
 have RB:Hid (w3.heap[w.heap.size+2]?=some (.cells #[.slice none 0 0,.slice none 0 0] 26 (0,0))):=hid a3
 have B3:Hid (Below w.heap.size w w3):=hid ((b1.trans (b2.mono (by omega))).trans (b3.mono (by omega)))
 have D3:=hid (hS.stay B3.out)
 have C1:=hid (bv (A2:=A2) (n2:=n2) (c:=c) (c2:=c2) (show LL w3 A ls from D3.out.l.old) e1 (by have:=N1.out;omega) id)
 obtain⟨p0,p1⟩:=aa PB.out
 obtain⟨m0,m1,m2,m3,m4,m5⟩:=ag MB.out
 have ZZ:=hid zz
 have rA:=z1
 have rC:w2.heap.size=w.heap.size+2:=by omega
 clear hS hB e1 e2 a1 a2 a3 b1 b2 b3 z1 z2 z3 zz
 go_enter func52,ntmps52
 go_wp2_with fail
 refine C1.out.mono ?_
 rintro e w4 ⟨rfl,hb4⟩
 clear hw1 hw2 hw3 C1 rA rC p0 p1 m0 m1 m2 m3 m4 m5
 obtain⟨i1,t1,hf1⟩:∃ i t,T9.aW ls id=(⟨i,t⟩,T9.bC ls id):=⟨(T9.aW ls id).1.id,(T9.aW ls id).1.name,by rw [← bF]⟩
 rw [hf1]
 obtain⟨w5,fV⟩:=nm (w4.alloc (.cells #[.int .u64 (i1:Int),.string (str t1)] 61))
 obtain⟨-,b5,-⟩:=aj fV
 have B5:Hid (Below w3.heap.size w3 w5):=hid (hb4.trans (b5.mono hb4.size))
 have C2:=hid (bv (A2:=A2) (n2:=n2) (c:=c) (c2:=c2) (show LL w5 A ls from (D3.out.stay B5.out).l.old) E1.out (by have:=N1.out;omega) list)
 obtain⟨p0,p1⟩:=aa (ae PB.out B5.out)
 obtain⟨m0,m1,m2,m3,m4,m5⟩:=ag (ae MB.out B5.out)
 obtain⟨p4,p5⟩:=aa (ae PB.out hb4)
 unfold a_
 dsimp only
 clear hf1 b5 hb4
 go_wp2_with fail
 refine C2.out.mono ?_
 rintro e w6 ⟨rfl,hb6⟩
 clear fV C2 p0 p1 p4 p5 m0 m1 m2 m3 m4 m5
 obtain⟨i2,t2,hf2⟩:∃ i t,T9.aW ls list=(⟨i,t⟩,T9.bC ls list):=⟨(T9.aW ls list).1.id,(T9.aW ls list).1.name,by rw [← bF]⟩
 rw [hf2]
 obtain⟨w7,hw7⟩:=nm (w6.alloc (.cells #[.int .u64 (i2:Int),.string (str t2)] 61))
 obtain⟨-,b7,-⟩:=aj hw7
 have B7:Hid (Below w3.heap.size w3 w7):=hid (B5.out.trans ((hb6.trans (b7.mono hb6.size)).mono B5.out.size))
 have C3:=hid (dG (A:=A) (n1:=n1) (c:=c) (c2:=c2) (D3.out.stay B7.out).kl E2.out (by have:=N2.out;omega) (D3.out.stay B7.out).t id)
 obtain⟨p0,p1⟩:=aa (ae PB.out B7.out)
 obtain⟨m0,m1,m2,m3,m4,m5⟩:=ag (ae MB.out B7.out)
 unfold a_
 dsimp only
 clear hf2 b7 hb6
 go_wp2_with fail
 refine C3.out.mono ?_
 rintro e w8 ⟨⟨tk,A4,c4⟩,rfl,htk,hft,gp⟩
 clear hw7 C3 p0 p1 m0 m1 m2 m3 m4 m5
 have wL:Hid (tk=(T9.dJ (ay ms) id).1):=hid htk
 rw [d_]
 obtain⟨w9,kQ⟩:=nm (w8.alloc (.cells #[.int .u64 (tk.id:Int),.int .u64 (tk.list:Int),.string (str tk.title),.bool tk.done,.float .f64 tk.rank,.float .f64 tk.est,.slice A4 tk.tags.length c4] 64))
 obtain⟨jR,b9,-⟩:=bf kQ
 have B9:Hid (Below w3.heap.size w3 w9):=hid (B7.out.trans ((gp.trans (b9.mono gp.size)).mono B7.out.size))
 have LB:=hid jR
 have ZG:Hid (w.heap.size+3≤w8.heap.size∧w8.heap.size<w9.heap.size):=hid ⟨by have:=ZZ.out;have:=B7.out.size;have:=gp.size;omega,lt_of_block jR⟩
 have FT:=hid (hft.stay b9)
 have D9:=hid (D3.out.stay B9.out)
 have P9:=hid (ae PB.out B9.out)
 have M9:=hid (ae MB.out B9.out)
 have R9:=hid (ae RB.out B9.out)
 have BW:=hid (B3.out.trans (B9.out.mono B3.out.size))
 obtain⟨p0,p1⟩:=aa P9.out
 obtain⟨m0,m1,m2,m3,m4,m5⟩:=ag M9.out
 obtain⟨r0,r1⟩:=aa R9.out
 have jO:=af R9.out 0
 have jB:=af R9.out 1
 unfold aA
 dsimp only
 clear htk hft gp jR b9 PB MB RB D3
 cases hhHH:T9.eB (ay ms) id with
 | false =>
  have HH:=hid hhHH
  clear hhHH
  have V:=hid (T9.mU (k:=10) (s:=⟨ls,ay ms⟩) (list:=list) (f:=f) (text:=text) (flag:=flag) (by omega) HH.out)
  have KB:Hid (((w9.setCell ⟨w.heap.size+2,0,none⟩ (.slice A n1 c)).setCell ⟨w.heap.size+2,1,none⟩ (.slice A2 n2 c2)).heap[w.heap.size+2]?=some (.cells #[.slice A n1 c,.slice A2 n2 c2] 26 (0,0))):=hid (ah (ah R9.out 0 _) 1 _)
  obtain⟨k0,k1⟩:=aa KB.out
  go_wp2
  refine bodyPost_ret (v:=.tuple #[.agg #[.slice A n1 c,.slice A2 n2 c2],.int .i64 (T9.eD ⟨ls,ay ms⟩ ⟨10,id,list,text,f,flag⟩).1]) (by rw [V.out];simp [results,results52,go_sem,k0,k1]) rfl ?_
  refine⟨⟨ls,A,c,ms,A2,c2⟩,_,by rw [E1.out,E2.out];rfl,rfl,(fun z=>by rw [V.out] at z;cases z),?_⟩
  exact (BW.out.setCell (by show w.heap.size≤w.heap.size+2;omega) _).setCell (by show w.heap.size≤w.heap.size+2;omega) _
 | true =>
  have HH:=hid hhHH
  clear hhHH
  have C4:=hid (fH (c:=c2) D9.out.kl D9.out.t E2.out N2.out 0 false id)
  go_wp2_with fail
  refine C4.out.mono ?_
  rintro e iB ⟨bU,c10,xs,rfl,l10,pq,gz,gL,hts,bD,iN⟩
  clear C4 p0 p1 m0 m1 m2 m3 m4 m5 r0 r1 jO jB kQ
  have TS:=hid hts
  have mI:=hid iN
  clear iN
  obtain⟨n10,dx⟩:=nm xs.length
  have ic:=hid dx
  rw [dx]
  have gB:=ae P9.out bD
  have mJ:=ae R9.out bD
  have p_:=ae M9.out bD
  obtain⟨q0,q1⟩:=aa gB
  have pJ:=af gB 1
  obtain⟨wa,dB⟩:=nm (iB.setCell ⟨w.heap.size,1,none⟩ (.slice bU n10 c10))
  have PF:Hid (wa.heap[w.heap.size]?=some (.cells #[.slice A n1 c,.slice bU n10 c10] 26 (0,0))):=hid (by rw [← dB];exact ah gB 1 _)
  have RF:Hid (wa.heap[w.heap.size+2]?=some (.cells #[.slice none 0 0,.slice none 0 0] 26 (0,0))):=hid (by rw [← dB];exact az mJ (p:=⟨w.heap.size,1,none⟩) (by show w.heap.size+2≠w.heap.size;omega) _)
  have MF:Hid (wa.heap[w.heap.size+1]?=some (.cells #[.int .i64 10,.int .u64 (id:Int),.int .u64 (list:Int),.string (str text),.float .f64 f,.bool flag] 57 (0,0))):=hid (by rw [← dB];exact az p_ (p:=⟨w.heap.size,1,none⟩) (by show w.heap.size+1≠w.heap.size;omega) _)
  have yp:Ty iB w.heap.size 26:=⟨_,_,gB⟩
  have TA:=(aM.refl 0 [26] iB).aB (p:=⟨w.heap.size,1,none⟩) yp (by simp) (Nat.zero_le _) (.slice bU n10 c10)
  rw [dB] at TA
  have jl:=D9.out.stay bD
  have DX:DS ⟨ls,A,c,xs,bU,c10⟩ iB:=⟨jl.l,l10,pq,jl.lc,gz,jl.za,gL⟩
  have DF:=hid (DX.bE TA (by decide) (by decide) (by decide))
  have BF:Hid (Below w.heap.size w wa):=hid (by rw [← dB];exact (BW.out.trans (bD.mono BW.out.size)).setCell (Nat.le_refl _) _)
  have QV:Hid (Ending.returned (.tuple #[.agg #[.slice A n1 c,.slice bU n10 c10],.int .i64 0])=Ending.returned (.tuple #[(⟨ls,A,c,xs,bU,c10⟩:aQ).val,.int .i64 0])):=hid (by rw [← dx,E1.out];rfl)
  have jP:=hid bD
  have YP:=hid yp
  clear bD gB mJ p_ yp TA jl DX dx l10 gz gL pq hts
  obtain⟨m0,m1,m2,m3,m4,m5⟩:=ag MF.out
  have j3:Hid (wa.heap[w8.heap.size]?=some (.cells #[.int .u64 (tk.id:Int),.int .u64 (tk.list:Int),.string (str tk.title),.bool tk.done,.float .f64 tk.rank,.float .f64 tk.est,.slice A4 tk.tags.length c4] 64 (0,0))):=hid (by rw [← dB];exact az (ae LB.out jP.out) (p:=⟨w.heap.size,1,none⟩) (by show w8.heap.size≠w.heap.size;have:=ZG.out;omega) _)
  have CJ:Hid (au wa 0 9 A4 (aC tk.tags)):=hid (by rw [← dB];exact aG (bG FT.out.1 jP.out) YP.out (by decide))
  have rF:Hid (wa.ownsRow w9.heap.size 64 7 (.slice bU n10 c10) n10 (ai xs)):=hid (by
   have o:=mI.out
   rw [ic.out] at o
   refine dh o (fun z hz=>?_)
   have q:=(bM o z hz).1
   have:=ZG.out
   rw [← dB]
   exact Below.heap_setCell _ ⟨w.heap.size,1,none⟩ _ z (by show z≠w.heap.size;omega))
  obtain⟨u0,u1,u2,u3,u4,u5,u6⟩:=ak j3.out
  have TL:Hid (tk.tags.length≤100):=hid (by rw [wL.out];exact HB.out.t _ (T9.lF HH.out).1)
  obtain⟨er,Cs,hr⟩:∃ a b,T9.dY tk.tags ⟨10,id,list,text,f,flag⟩=(a,b):=⟨_,_,rfl⟩
  have HR:=hid hr
  have CT:=hid (FV (kd:=10) (n:=tk.tags.length) (c:=c4) (id:=id) (list:=list) (f:=f) (text:=text) (flag:=flag) CJ.out rfl TL.out FT.out.2)
  rw [hr] at CT
  clear hr
  go_wp2_with fail
  refine CT.out.mono ?_
  rintro e wt ⟨A5,c5,rfl,lt5,DW,hbt⟩
  dsimp only at lt5 DW ⊢
  clear CT q0 q1 pJ m0 m1 m2 m3 m4 m5 u0 u1 u2 u3 u4 u5 u6 dB
  have LT5:=hid lt5
  have LC5:=hid DW
  have rF:=hid (own_below rF.out hbt)
  have DF:=hid (DF.out.stay hbt)
  have BF:=hid (BF.out.trans (hbt.mono BF.out.size))
  have PF:=hid (ae PF.out hbt)
  have RF:=hid (ae RF.out hbt)
  have j3:=hid (ae j3.out hbt)
  obtain⟨u0,u1,u2,u3,u4,u5,u6⟩:=ak j3.out
  obtain⟨q0,q1⟩:=aa PF.out
  have pJ:=af PF.out 1
  have m0:=q0
  have m1:=q0
  have m2:=q0
  have m3:=q0
  have m4:=q0
  have m5:=q0
  clear lt5 DW hbt
  have fu:=af j3.out 6
  obtain⟨wb,hwb⟩:=nm (wt.setCell ⟨w8.heap.size,6,none⟩ (.slice A5 Cs.length c5))
  have CW:Hid (wb.heap[w8.heap.size]?=some (.cells #[.int .u64 (tk.id:Int),.int .u64 (tk.list:Int),.string (str tk.title),.bool tk.done,.float .f64 tk.rank,.float .f64 tk.est,.slice A5 Cs.length c5] 64 (0,0))):=hid (by rw [← hwb];exact ah j3.out 6 _)
  have ui:Hid (wb.heap[w.heap.size]?=some (.cells #[.slice A n1 c,.slice bU n10 c10] 26 (0,0))):=hid (by rw [← hwb];exact az PF.out (p:=⟨w8.heap.size,6,none⟩) (by show w.heap.size≠w8.heap.size;have:=ZG.out;omega) _)
  have CZ:Hid (wb.heap[w.heap.size+2]?=some (.cells #[.slice none 0 0,.slice none 0 0] 26 (0,0))):=hid (by rw [← hwb];exact az RF.out (p:=⟨w8.heap.size,6,none⟩) (by show w.heap.size+2≠w8.heap.size;have:=ZG.out;omega) _)
  have uh:Hid (wb.ownsRow w9.heap.size 64 7 (.slice bU n10 c10) n10 (ai xs)):=hid (dh rF.out (fun z hz=>by
   have q:=(bM rF.out z hz).1
   have:=ZG.out
   rw [← hwb]
   exact Below.heap_setCell _ ⟨w8.heap.size,6,none⟩ _ z (by show z≠w8.heap.size;omega)))
  have yt:Ty wt w8.heap.size 64:=⟨_,_,j3.out⟩
  have Tb:Hid (∀ m∈xs,m.bS wb):=hid fun m hm=>by rw [← hwb];exact⟨aG (DF.out.t m hm).1 yt (by decide),(DF.out.t m hm).2⟩
  have Lb:Hid (au wb 0 61 A (aL ls)):=hid (by rw [← hwb];exact aG DF.out.l yt (by decide))
  have CO:Hid ((⟨{ tk with tags:=Cs },A5,c5⟩:aN).bS wb):=hid (by rw [← hwb];exact⟨aG LT5.out yt (by decide),LC5.out⟩)
  have Bb:Hid (Below w.heap.size w wb):=hid (by rw [← hwb];exact BF.out.setCell (by show w.heap.size≤w8.heap.size;have:=ZG.out;omega) _)
  have CX:Hid (n10≤1000):=hid (by
   rw [← ic.out,← aK,TS.out]
   exact Nat.le_trans (List.length_filter_le _ _) HB.out.n2)
  have C5:=hid (fo (x:=(⟨{ tk with tags:=Cs },A5,c5⟩:aN)) (aH (B:=0) uh.out) Tb.out CO.out ic.out.symm (aO uh.out).2 DF.out.zk CX.out)
  dsimp only at C5
  obtain⟨p0,p1⟩:=aa ui.out
  obtain⟨v0,v1,v2,v3,v4,v5,v6⟩:=ak CW.out
  clear yt
  go_wp2_with fail
  refine C5.out.mono ?_
  rintro e kC ⟨cK,c11,rfl,ny,nO,gH,jL,dS⟩
  clear C5 q0 q1 pJ hwb m0 m1 m2 m3 m4 m5 u0 u1 u2 u3 u4 u5 u6 fu p0 p1 v0 v1 v2 v3 v4 v5 v6 PF RF DF BF QV
  obtain⟨ys,hys⟩:=nm (Sr.ins iI (⟨{ tk with tags:=Cs },A5,c5⟩:aN) xs)
  rw [hys] at ny nO gH ⊢
  obtain⟨n11,fU⟩:=nm ys.length
  rw [fU]
  have jN:=ae ui.out dS
  have qg:=ae CZ.out dS
  obtain⟨q0,q1⟩:=aa jN
  have pJ:=af jN 1
  obtain⟨wc,hwc⟩:=nm (kC.setCell ⟨w.heap.size,1,none⟩ (.slice cK n11 c11))
  have PF:Hid (wc.heap[w.heap.size]?=some (.cells #[.slice A n1 c,.slice cK n11 c11] 26 (0,0))):=hid (by rw [← hwc];exact ah jN 1 _)
  have RF:Hid (wc.heap[w.heap.size+2]?=some (.cells #[.slice none 0 0,.slice none 0 0] 26 (0,0))):=hid (by rw [← hwc];exact az qg (p:=⟨w.heap.size,1,none⟩) (by show w.heap.size+2≠w.heap.size;omega) _)
  have yp:Ty kC w.heap.size 26:=⟨_,_,jN⟩
  have TA:=(aM.refl 0 [26] kC).aB (p:=⟨w.heap.size,1,none⟩) yp (by simp) (Nat.zero_le _) (.slice cK n11 c11)
  rw [hwc] at TA
  have DX:DS ⟨ls,A,c,ys,cK,c11⟩ kC:=⟨bG Lb.out dS,ny,nO,D9.out.lc,gH,D9.out.za,jL⟩
  have DF:=hid (DX.bE TA (by decide) (by decide) (by decide))
  have BF:Hid (Below w.heap.size w wc):=hid (by rw [← hwc];exact (Bb.out.trans (dS.mono Bb.out.size)).setCell (Nat.le_refl _) _)
  have DM:Hid (T9.eD ⟨ls,ay ms⟩ ⟨10,id,list,text,f,flag⟩=(er,⟨ls,Sr.ins T9.jg { tk with tags:=Cs } (T9.wo (ay ms) 0 false id)⟩)):=hid (by
   rw [T9.mV (k:=10) (s:=⟨ls,ay ms⟩) (list:=list) (f:=f) (text:=text) (flag:=flag) (by omega) HH.out,← wL.out]
   simp [T9.pX,HR.out])
  have QS:Hid ((⟨ls,A,c,ys,cK,c11⟩:aQ).st=⟨ls,Sr.ins T9.jg { tk with tags:=Cs } (T9.wo (ay ms) 0 false id)⟩):=hid (by
   rw [← hys,← TS.out]
   show (⟨ls,ay (Sr.ins iI (⟨{ tk with tags:=Cs },A5,c5⟩:aN) xs)⟩:T9.St)=_
   rw [jD])
  have QV:Hid (Ending.returned (.tuple #[.agg #[.slice A n1 c,.slice cK n11 c11],.int .i64 er])=Ending.returned (.tuple #[(⟨ls,A,c,ys,cK,c11⟩:aQ).val,.int .i64 er])):=hid (by rw [← fU,E1.out];rfl)
  clear dS jN qg yp TA DX fU ny gH jL nO hys
  obtain⟨p0,p1⟩:=aa PF.out
  obtain⟨r0,r1⟩:=aa RF.out
  have jO:=af RF.out 0
  have jB:=af RF.out 1
  have KB:Hid (((wc.setCell ⟨w.heap.size+2,0,none⟩ (.slice A n1 c)).setCell ⟨w.heap.size+2,1,none⟩ (.slice cK n11 c11)).heap[w.heap.size+2]?=some (.cells #[.slice A n1 c,.slice cK n11 c11] 26 (0,0))):=hid (ah (ah RF.out 0 _) 1 _)
  have yr:Ty wc (w.heap.size+2) 26:=⟨_,_,RF.out⟩
  have TF:=hid (((aM.refl 0 [26] wc).aB (p:=⟨w.heap.size+2,0,none⟩) yr (by simp) (Nat.zero_le _) (.slice A n1 c)).aB (p:=⟨w.heap.size+2,1,none⟩) (yr.set _ _) (by simp) (Nat.zero_le _) (.slice cK n11 c11))
  obtain⟨k0,k1⟩:=aa KB.out
  clear yr
  go_wp2
  refine bodyPost_ret (v:=.tuple #[.agg #[.slice A n1 c,.slice cK n11 c11],.int .i64 er]) (by simp [results,results52,go_sem,k0,k1]) rfl ?_
  refine⟨⟨ls,A,c,ys,cK,c11⟩,er,QV.out,by rw [DM.out],fun _=>⟨by rw [DM.out];exact QS.out,DF.out.bE TF.out (by decide) (by decide) (by decide)⟩,?_⟩
  exact (BF.out.setCell (by show w.heap.size≤w.heap.size+2;omega) _).setCell (by show w.heap.size≤w.heap.size+2;omega) _
end
section
open Go.RowKit Go.Lib
theorem Lx {ls:List T9.Li} {A:Option Addr} {n1 c:Nat} {ms:List aN} {A2:Option Addr} {n2 c2:Nat} {id list f:Nat} {text:List UInt8} {flag:Bool} {w:World} (hS:DS ⟨ls,A,c,ms,A2,c2⟩ w) (hB:DB ⟨ls,ay ms⟩) (e1:n1=ls.length) (e2:n2=ms.length) :
  Calls prog 52 #[.agg #[.slice A n1 c,.slice A2 n2 c2],.agg #[.int .i64 6,.int .u64 (id:Int),.int .u64 (list:Int),.string (str text),.float .f64 f,.bool flag]] w (p9 ⟨ls,ay ms⟩ ⟨6,id,list,text,f,flag⟩ w):=by
 have E1:=hid e1
 have E2:=hid e2
 have HB:=hid hB
 have N1:Hid (n1≤1000):=hid (by rw [e1];exact hB.n1)
 have N2:Hid (n2≤1000):=hid (by have:=hB.n2;rw [e2,← aK];exact this)
 obtain⟨w1,hw1⟩:=nm (w.alloc (.cells #[.slice A n1 c,.slice A2 n2 c2] 26))
 obtain⟨a1,b1,z1⟩:=aj hw1
 obtain⟨w2,hw2⟩:=nm (w1.alloc (.cells #[.int .i64 6,.int .u64 (id:Int),.int .u64 (list:Int),.string (str text),.float .f64 f,.bool flag] 57))
 obtain⟨a2,b2,z2⟩:=bn hw2
 obtain⟨w3,hw3⟩:=nm (w2.alloc (.cells #[.slice none 0 0,.slice none 0 0] 26))
 obtain⟨a3,b3,z3⟩:=aj hw3
 rw [z1] at a2
 rw [z2,z1] at a3
 have zz:w3.heap.size=w.heap.size+3:=by omega
 have PB:Hid (w3.heap[w.heap.size]?=some (.cells #[.slice A n1 c,.slice A2 n2 c2] 26 (0,0))):=hid (ae (ae a1 b2) b3)
 have MB:Hid (w3.heap[w.heap.size+1]?=some (.cells #[.int .i64 6,.int .u64 (id:Int),.int .u64 (list:Int),.string (str text),.float .f64 f,.bool flag] 57 (0,0))):=hid (ae a2 b3)
 have RB:Hid (w3.heap[w.heap.size+2]?=some (.cells #[.slice none 0 0,.slice none 0 0] 26 (0,0))):=hid a3
 have B3:Hid (Below w.heap.size w w3):=hid ((b1.trans (b2.mono (by omega))).trans (b3.mono (by omega)))
 have D3:=hid (hS.stay B3.out)
 have C1:=hid (bv (A2:=A2) (n2:=n2) (c:=c) (c2:=c2) (show LL w3 A ls from D3.out.l.old) e1 (by have:=N1.out;omega) id)
 obtain⟨p0,p1⟩:=aa PB.out
 obtain⟨m0,m1,m2,m3,m4,m5⟩:=ag MB.out
 have ZZ:=hid zz
 have rA:=z1
 have rC:w2.heap.size=w.heap.size+2:=by omega
 clear hS hB e1 e2 a1 a2 a3 b1 b2 b3 z1 z2 z3 zz
 go_enter func52,ntmps52
 go_wp2_with fail
 refine C1.out.mono ?_
 rintro e w4 ⟨rfl,hb4⟩
 clear hw1 hw2 hw3 C1 rA rC p0 p1 m0 m1 m2 m3 m4 m5
 obtain⟨i1,t1,hf1⟩:∃ i t,T9.aW ls id=(⟨i,t⟩,T9.bC ls id):=⟨(T9.aW ls id).1.id,(T9.aW ls id).1.name,by rw [← bF]⟩
 rw [hf1]
 obtain⟨w5,fV⟩:=nm (w4.alloc (.cells #[.int .u64 (i1:Int),.string (str t1)] 61))
 obtain⟨-,b5,-⟩:=aj fV
 have B5:Hid (Below w3.heap.size w3 w5):=hid (hb4.trans (b5.mono hb4.size))
 have C2:=hid (bv (A2:=A2) (n2:=n2) (c:=c) (c2:=c2) (show LL w5 A ls from (D3.out.stay B5.out).l.old) E1.out (by have:=N1.out;omega) list)
 obtain⟨p0,p1⟩:=aa (ae PB.out B5.out)
 obtain⟨m0,m1,m2,m3,m4,m5⟩:=ag (ae MB.out B5.out)
 obtain⟨p4,p5⟩:=aa (ae PB.out hb4)
 unfold a_
 dsimp only
 clear hf1 b5 hb4
 go_wp2_with fail
 refine C2.out.mono ?_
 rintro e w6 ⟨rfl,hb6⟩
 clear fV C2 p0 p1 p4 p5 m0 m1 m2 m3 m4 m5
 obtain⟨i2,t2,hf2⟩:∃ i t,T9.aW ls list=(⟨i,t⟩,T9.bC ls list):=⟨(T9.aW ls list).1.id,(T9.aW ls list).1.name,by rw [← bF]⟩
 rw [hf2]
 obtain⟨w7,hw7⟩:=nm (w6.alloc (.cells #[.int .u64 (i2:Int),.string (str t2)] 61))
 obtain⟨-,b7,-⟩:=aj hw7
 have B7:Hid (Below w3.heap.size w3 w7):=hid (B5.out.trans ((hb6.trans (b7.mono hb6.size)).mono B5.out.size))
 have C3:=hid (dG (A:=A) (n1:=n1) (c:=c) (c2:=c2) (D3.out.stay B7.out).kl E2.out (by have:=N2.out;omega) (D3.out.stay B7.out).t id)
 obtain⟨p0,p1⟩:=aa (ae PB.out B7.out)
 obtain⟨m0,m1,m2,m3,m4,m5⟩:=ag (ae MB.out B7.out)
 unfold a_
 dsimp only
 clear hf2 b7 hb6
 go_wp2_with fail
 refine C3.out.mono ?_
 rintro e w8 ⟨⟨tk,A4,c4⟩,rfl,htk,hft,gp⟩
 clear hw7 C3 p0 p1 m0 m1 m2 m3 m4 m5
 have wL:Hid (tk=(T9.dJ (ay ms) id).1):=hid htk
 rw [d_]
 obtain⟨w9,kQ⟩:=nm (w8.alloc (.cells #[.int .u64 (tk.id:Int),.int .u64 (tk.list:Int),.string (str tk.title),.bool tk.done,.float .f64 tk.rank,.float .f64 tk.est,.slice A4 tk.tags.length c4] 64))
 obtain⟨jR,b9,-⟩:=bf kQ
 have B9:Hid (Below w3.heap.size w3 w9):=hid (B7.out.trans ((gp.trans (b9.mono gp.size)).mono B7.out.size))
 have LB:=hid jR
 have ZG:Hid (w.heap.size+3≤w8.heap.size∧w8.heap.size<w9.heap.size):=hid ⟨by have:=ZZ.out;have:=B7.out.size;have:=gp.size;omega,lt_of_block jR⟩
 have FT:=hid (hft.stay b9)
 have D9:=hid (D3.out.stay B9.out)
 have P9:=hid (ae PB.out B9.out)
 have M9:=hid (ae MB.out B9.out)
 have R9:=hid (ae RB.out B9.out)
 have BW:=hid (B3.out.trans (B9.out.mono B3.out.size))
 obtain⟨p0,p1⟩:=aa P9.out
 obtain⟨m0,m1,m2,m3,m4,m5⟩:=ag M9.out
 obtain⟨r0,r1⟩:=aa R9.out
 have jO:=af R9.out 0
 have jB:=af R9.out 1
 unfold aA
 dsimp only
 clear htk hft gp jR b9 PB MB RB D3
 cases hhHH:T9.eB (ay ms) id with
 | false =>
  have HH:=hid hhHH
  clear hhHH
  have V:=hid (T9.mU (k:=6) (s:=⟨ls,ay ms⟩) (list:=list) (f:=f) (text:=text) (flag:=flag) (by omega) HH.out)
  have KB:Hid (((w9.setCell ⟨w.heap.size+2,0,none⟩ (.slice A n1 c)).setCell ⟨w.heap.size+2,1,none⟩ (.slice A2 n2 c2)).heap[w.heap.size+2]?=some (.cells #[.slice A n1 c,.slice A2 n2 c2] 26 (0,0))):=hid (ah (ah R9.out 0 _) 1 _)
  obtain⟨k0,k1⟩:=aa KB.out
  go_wp2
  refine bodyPost_ret (v:=.tuple #[.agg #[.slice A n1 c,.slice A2 n2 c2],.int .i64 (T9.eD ⟨ls,ay ms⟩ ⟨6,id,list,text,f,flag⟩).1]) (by rw [V.out];simp [results,results52,go_sem,k0,k1]) rfl ?_
  refine⟨⟨ls,A,c,ms,A2,c2⟩,_,by rw [E1.out,E2.out];rfl,rfl,(fun z=>by rw [V.out] at z;cases z),?_⟩
  exact (BW.out.setCell (by show w.heap.size≤w.heap.size+2;omega) _).setCell (by show w.heap.size≤w.heap.size+2;omega) _
 | true =>
  have HH:=hid hhHH
  clear hhHH
  cases hhH2:T9.bC ls list with
  | true =>
   have H2:=hid hhH2
   clear hhH2
   have C4:=hid (fH (c:=c2) D9.out.kl D9.out.t E2.out N2.out 0 false id)
   go_wp2_with fail
   refine C4.out.mono ?_
   rintro e iB ⟨bU,c10,xs,rfl,l10,pq,gz,gL,hts,bD,iN⟩
   clear C4 p0 p1 m0 m1 m2 m3 m4 m5 r0 r1 jO jB kQ
   have TS:=hid hts
   have mI:=hid iN
   clear iN
   obtain⟨n10,dx⟩:=nm xs.length
   have ic:=hid dx
   rw [dx]
   have gB:=ae P9.out bD
   have mJ:=ae R9.out bD
   have p_:=ae M9.out bD
   obtain⟨q0,q1⟩:=aa gB
   have pJ:=af gB 1
   obtain⟨wa,dB⟩:=nm (iB.setCell ⟨w.heap.size,1,none⟩ (.slice bU n10 c10))
   have PF:Hid (wa.heap[w.heap.size]?=some (.cells #[.slice A n1 c,.slice bU n10 c10] 26 (0,0))):=hid (by rw [← dB];exact ah gB 1 _)
   have RF:Hid (wa.heap[w.heap.size+2]?=some (.cells #[.slice none 0 0,.slice none 0 0] 26 (0,0))):=hid (by rw [← dB];exact az mJ (p:=⟨w.heap.size,1,none⟩) (by show w.heap.size+2≠w.heap.size;omega) _)
   have MF:Hid (wa.heap[w.heap.size+1]?=some (.cells #[.int .i64 6,.int .u64 (id:Int),.int .u64 (list:Int),.string (str text),.float .f64 f,.bool flag] 57 (0,0))):=hid (by rw [← dB];exact az p_ (p:=⟨w.heap.size,1,none⟩) (by show w.heap.size+1≠w.heap.size;omega) _)
   have yp:Ty iB w.heap.size 26:=⟨_,_,gB⟩
   have TA:=(aM.refl 0 [26] iB).aB (p:=⟨w.heap.size,1,none⟩) yp (by simp) (Nat.zero_le _) (.slice bU n10 c10)
   rw [dB] at TA
   have jl:=D9.out.stay bD
   have DX:DS ⟨ls,A,c,xs,bU,c10⟩ iB:=⟨jl.l,l10,pq,jl.lc,gz,jl.za,gL⟩
   have DF:=hid (DX.bE TA (by decide) (by decide) (by decide))
   have BF:Hid (Below w.heap.size w wa):=hid (by rw [← dB];exact (BW.out.trans (bD.mono BW.out.size)).setCell (Nat.le_refl _) _)
   have QV:Hid (Ending.returned (.tuple #[.agg #[.slice A n1 c,.slice bU n10 c10],.int .i64 0])=Ending.returned (.tuple #[(⟨ls,A,c,xs,bU,c10⟩:aQ).val,.int .i64 0])):=hid (by rw [← dx,E1.out];rfl)
   have jP:=hid bD
   have YP:=hid yp
   clear bD gB mJ p_ yp TA jl DX dx l10 gz gL pq hts
   obtain⟨m0,m1,m2,m3,m4,m5⟩:=ag MF.out
   have j3:Hid (wa.heap[w8.heap.size]?=some (.cells #[.int .u64 (tk.id:Int),.int .u64 (tk.list:Int),.string (str tk.title),.bool tk.done,.float .f64 tk.rank,.float .f64 tk.est,.slice A4 tk.tags.length c4] 64 (0,0))):=hid (by rw [← dB];exact az (ae LB.out jP.out) (p:=⟨w.heap.size,1,none⟩) (by show w8.heap.size≠w.heap.size;have:=ZG.out;omega) _)
   have CJ:Hid (au wa 0 9 A4 (aC tk.tags)):=hid (by rw [← dB];exact aG (bG FT.out.1 jP.out) YP.out (by decide))
   have rF:Hid (wa.ownsRow w9.heap.size 64 7 (.slice bU n10 c10) n10 (ai xs)):=hid (by
    have o:=mI.out
    rw [ic.out] at o
    refine dh o (fun z hz=>?_)
    have q:=(bM o z hz).1
    have:=ZG.out
    rw [← dB]
    exact Below.heap_setCell _ ⟨w.heap.size,1,none⟩ _ z (by show z≠w.heap.size;omega))
   obtain⟨u0,u1,u2,u3,u4,u5,u6⟩:=ak j3.out
   have fu:=af j3.out 4
   have fu1:=af j3.out 1
   obtain⟨wb,hwb⟩:=nm (((wa.setCell ⟨w8.heap.size,1,none⟩ (.int .u64 (list:Int))).setCell ⟨w8.heap.size,4,none⟩ (.float .f64 f)).drew)
   have CW:Hid (wb.heap[w8.heap.size]?=some (.cells #[.int .u64 (tk.id:Int),.int .u64 (list:Int),.string (str tk.title),.bool tk.done,.float .f64 f,.float .f64 tk.est,.slice A4 tk.tags.length c4] 64 (0,0))):=hid (by rw [← hwb];exact ah (ah j3.out 1 _) 4 _)
   have ui:Hid (wb.heap[w.heap.size]?=some (.cells #[.slice A n1 c,.slice bU n10 c10] 26 (0,0))):=hid (by rw [← hwb];exact az (az PF.out (p:=⟨w8.heap.size,1,none⟩) (by show w.heap.size≠w8.heap.size;have:=ZG.out;omega) _) (p:=⟨w8.heap.size,4,none⟩) (by show w.heap.size≠w8.heap.size;have:=ZG.out;omega) _)
   have CZ:Hid (wb.heap[w.heap.size+2]?=some (.cells #[.slice none 0 0,.slice none 0 0] 26 (0,0))):=hid (by rw [← hwb];exact az (az RF.out (p:=⟨w8.heap.size,1,none⟩) (by show w.heap.size+2≠w8.heap.size;have:=ZG.out;omega) _) (p:=⟨w8.heap.size,4,none⟩) (by show w.heap.size+2≠w8.heap.size;have:=ZG.out;omega) _)
   have uh:Hid (wb.ownsRow w9.heap.size 64 7 (.slice bU n10 c10) n10 (ai xs)):=hid (dh rF.out (fun z hz=>by
    have q:=(bM rF.out z hz).1
    have:=ZG.out
    rw [← hwb]
    exact (Below.heap_setCell _ ⟨w8.heap.size,4,none⟩ _ z (by show z≠w8.heap.size;omega)).trans (Below.heap_setCell _ ⟨w8.heap.size,1,none⟩ _ z (by show z≠w8.heap.size;omega))))
   have yt:Ty wa w8.heap.size 64:=⟨_,_,j3.out⟩
   have Tb:Hid (∀ m∈xs,m.bS wb):=hid fun m hm=>by rw [← hwb];exact⟨(aG (aG (DF.out.t m hm).1 yt (by decide)) (yt.set _ _) (by decide)).drew,(DF.out.t m hm).2⟩
   have Lb:Hid (au wb 0 61 A (aL ls)):=hid (by rw [← hwb];exact (aG (aG DF.out.l yt (by decide)) (yt.set _ _) (by decide)).drew)
   have CO:Hid ((⟨{ tk with list:=list,rank:=f },A4,c4⟩:aN).bS wb):=hid (by rw [← hwb];exact⟨(aG (aG CJ.out yt (by decide)) (yt.set _ _) (by decide)).drew,FT.out.2⟩)
   have Bb:Hid (Below w.heap.size w wb):=hid (by rw [← hwb];exact ((BF.out.setCell (by show w.heap.size≤w8.heap.size;have:=ZG.out;omega) _).setCell (by show w.heap.size≤w8.heap.size;have:=ZG.out;omega) _).drew)
   have CX:Hid (n10≤1000):=hid (by
    rw [← ic.out,← aK,TS.out]
    exact Nat.le_trans (List.length_filter_le _ _) HB.out.n2)
   have fu4:=af (show (wa.setCell ⟨w8.heap.size,1,none⟩ (.int .u64 (list:Int))).heap[w8.heap.size]?=_ from ah j3.out 1 _) 4
   have C5:=hid (fo (x:=(⟨{ tk with list:=list,rank:=f },A4,c4⟩:aN)) (aH (B:=0) uh.out) Tb.out CO.out ic.out.symm (aO uh.out).2 DF.out.zk CX.out)
   dsimp only at C5
   obtain⟨p0,p1⟩:=aa ui.out
   obtain⟨v0,v1,v2,v3,v4,v5,v6⟩:=ak CW.out
   clear yt
   go_wp2_with fail
   go_region
   go_wp2_with fail
   refine C5.out.mono ?_
   rintro e kC ⟨cK,c11,rfl,ny,nO,gH,jL,dS⟩
   clear C5 q0 q1 pJ dB hwb m0 m1 m2 m3 m4 m5 u0 u1 u2 u3 u4 u5 u6 fu p0 p1 v0 v1 v2 v3 v4 v5 v6 PF RF DF BF QV
   obtain⟨ys,hys⟩:=nm (Sr.ins iI (⟨{ tk with list:=list,rank:=f },A4,c4⟩:aN) xs)
   rw [hys] at ny nO gH ⊢
   obtain⟨n11,fU⟩:=nm ys.length
   rw [fU]
   have jN:=ae ui.out dS
   have qg:=ae CZ.out dS
   obtain⟨q0,q1⟩:=aa jN
   have pJ:=af jN 1
   obtain⟨wc,hwc⟩:=nm (kC.setCell ⟨w.heap.size,1,none⟩ (.slice cK n11 c11))
   have PF:Hid (wc.heap[w.heap.size]?=some (.cells #[.slice A n1 c,.slice cK n11 c11] 26 (0,0))):=hid (by rw [← hwc];exact ah jN 1 _)
   have RF:Hid (wc.heap[w.heap.size+2]?=some (.cells #[.slice none 0 0,.slice none 0 0] 26 (0,0))):=hid (by rw [← hwc];exact az qg (p:=⟨w.heap.size,1,none⟩) (by show w.heap.size+2≠w.heap.size;omega) _)
   have yp:Ty kC w.heap.size 26:=⟨_,_,jN⟩
   have TA:=(aM.refl 0 [26] kC).aB (p:=⟨w.heap.size,1,none⟩) yp (by simp) (Nat.zero_le _) (.slice cK n11 c11)
   rw [hwc] at TA
   have DX:DS ⟨ls,A,c,ys,cK,c11⟩ kC:=⟨bG Lb.out dS,ny,nO,D9.out.lc,gH,D9.out.za,jL⟩
   have DF:=hid (DX.bE TA (by decide) (by decide) (by decide))
   have BF:Hid (Below w.heap.size w wc):=hid (by rw [← hwc];exact (Bb.out.trans (dS.mono Bb.out.size)).setCell (Nat.le_refl _) _)
   have DM:Hid (T9.eD ⟨ls,ay ms⟩ ⟨6,id,list,text,f,flag⟩=(0,⟨ls,Sr.ins T9.jg { tk with list:=list,rank:=f } (T9.wo (ay ms) 0 false id)⟩)):=hid (by
    rw [T9.mV (k:=6) (s:=⟨ls,ay ms⟩) (list:=list) (f:=f) (text:=text) (flag:=flag) (by omega) HH.out,← wL.out]
    simp [T9.pX,H2.out])
   have QS:Hid ((⟨ls,A,c,ys,cK,c11⟩:aQ).st=⟨ls,Sr.ins T9.jg { tk with list:=list,rank:=f } (T9.wo (ay ms) 0 false id)⟩):=hid (by
    rw [← hys,← TS.out]
    show (⟨ls,ay (Sr.ins iI (⟨{ tk with list:=list,rank:=f },A4,c4⟩:aN) xs)⟩:T9.St)=_
    rw [jD])
   have QV:Hid (Ending.returned (.tuple #[.agg #[.slice A n1 c,.slice cK n11 c11],.int .i64 0])=Ending.returned (.tuple #[(⟨ls,A,c,ys,cK,c11⟩:aQ).val,.int .i64 0])):=hid (by rw [← fU,E1.out];rfl)
   clear dS jN qg yp TA DX fU ny gH jL nO hys
   obtain⟨p0,p1⟩:=aa PF.out
   obtain⟨r0,r1⟩:=aa RF.out
   have jO:=af RF.out 0
   have jB:=af RF.out 1
   have KB:Hid (((wc.setCell ⟨w.heap.size+2,0,none⟩ (.slice A n1 c)).setCell ⟨w.heap.size+2,1,none⟩ (.slice cK n11 c11)).heap[w.heap.size+2]?=some (.cells #[.slice A n1 c,.slice cK n11 c11] 26 (0,0))):=hid (ah (ah RF.out 0 _) 1 _)
   have yr:Ty wc (w.heap.size+2) 26:=⟨_,_,RF.out⟩
   have TF:=hid (((aM.refl 0 [26] wc).aB (p:=⟨w.heap.size+2,0,none⟩) yr (by simp) (Nat.zero_le _) (.slice A n1 c)).aB (p:=⟨w.heap.size+2,1,none⟩) (yr.set _ _) (by simp) (Nat.zero_le _) (.slice cK n11 c11))
   obtain⟨k0,k1⟩:=aa KB.out
   clear yr
   go_wp2
   refine bodyPost_ret (v:=.tuple #[.agg #[.slice A n1 c,.slice cK n11 c11],.int .i64 0]) (by simp [results,results52,go_sem,k0,k1]) rfl ?_
   refine⟨⟨ls,A,c,ys,cK,c11⟩,0,QV.out,by rw [DM.out],fun _=>⟨by rw [DM.out];exact QS.out,DF.out.bE TF.out (by decide) (by decide) (by decide)⟩,?_⟩
   exact (BF.out.setCell (by show w.heap.size≤w.heap.size+2;omega) _).setCell (by show w.heap.size≤w.heap.size+2;omega) _
  | false =>
   have H2:=hid hhH2
   clear hhH2
   have C4:=hid (fH (c:=c2) D9.out.kl D9.out.t E2.out N2.out 0 false id)
   go_wp2_with fail
   refine C4.out.mono ?_
   rintro e iB ⟨bU,c10,xs,rfl,l10,pq,gz,gL,hts,bD,iN⟩
   clear C4 p0 p1 m0 m1 m2 m3 m4 m5 r0 r1 jO jB kQ
   have TS:=hid hts
   have mI:=hid iN
   clear iN
   obtain⟨n10,dx⟩:=nm xs.length
   have ic:=hid dx
   rw [dx]
   have gB:=ae P9.out bD
   have mJ:=ae R9.out bD
   have p_:=ae M9.out bD
   obtain⟨q0,q1⟩:=aa gB
   have pJ:=af gB 1
   obtain⟨wa,dB⟩:=nm (iB.setCell ⟨w.heap.size,1,none⟩ (.slice bU n10 c10))
   have PF:Hid (wa.heap[w.heap.size]?=some (.cells #[.slice A n1 c,.slice bU n10 c10] 26 (0,0))):=hid (by rw [← dB];exact ah gB 1 _)
   have RF:Hid (wa.heap[w.heap.size+2]?=some (.cells #[.slice none 0 0,.slice none 0 0] 26 (0,0))):=hid (by rw [← dB];exact az mJ (p:=⟨w.heap.size,1,none⟩) (by show w.heap.size+2≠w.heap.size;omega) _)
   have MF:Hid (wa.heap[w.heap.size+1]?=some (.cells #[.int .i64 6,.int .u64 (id:Int),.int .u64 (list:Int),.string (str text),.float .f64 f,.bool flag] 57 (0,0))):=hid (by rw [← dB];exact az p_ (p:=⟨w.heap.size,1,none⟩) (by show w.heap.size+1≠w.heap.size;omega) _)
   have yp:Ty iB w.heap.size 26:=⟨_,_,gB⟩
   have TA:=(aM.refl 0 [26] iB).aB (p:=⟨w.heap.size,1,none⟩) yp (by simp) (Nat.zero_le _) (.slice bU n10 c10)
   rw [dB] at TA
   have jl:=D9.out.stay bD
   have DX:DS ⟨ls,A,c,xs,bU,c10⟩ iB:=⟨jl.l,l10,pq,jl.lc,gz,jl.za,gL⟩
   have DF:=hid (DX.bE TA (by decide) (by decide) (by decide))
   have BF:Hid (Below w.heap.size w wa):=hid (by rw [← dB];exact (BW.out.trans (bD.mono BW.out.size)).setCell (Nat.le_refl _) _)
   have QV:Hid (Ending.returned (.tuple #[.agg #[.slice A n1 c,.slice bU n10 c10],.int .i64 0])=Ending.returned (.tuple #[(⟨ls,A,c,xs,bU,c10⟩:aQ).val,.int .i64 0])):=hid (by rw [← dx,E1.out];rfl)
   have jP:=hid bD
   have YP:=hid yp
   clear bD gB mJ p_ yp TA jl DX dx l10 gz gL pq hts
   obtain⟨m0,m1,m2,m3,m4,m5⟩:=ag MF.out
   have j3:Hid (wa.heap[w8.heap.size]?=some (.cells #[.int .u64 (tk.id:Int),.int .u64 (tk.list:Int),.string (str tk.title),.bool tk.done,.float .f64 tk.rank,.float .f64 tk.est,.slice A4 tk.tags.length c4] 64 (0,0))):=hid (by rw [← dB];exact az (ae LB.out jP.out) (p:=⟨w.heap.size,1,none⟩) (by show w8.heap.size≠w.heap.size;have:=ZG.out;omega) _)
   have CJ:Hid (au wa 0 9 A4 (aC tk.tags)):=hid (by rw [← dB];exact aG (bG FT.out.1 jP.out) YP.out (by decide))
   have rF:Hid (wa.ownsRow w9.heap.size 64 7 (.slice bU n10 c10) n10 (ai xs)):=hid (by
    have o:=mI.out
    rw [ic.out] at o
    refine dh o (fun z hz=>?_)
    have q:=(bM o z hz).1
    have:=ZG.out
    rw [← dB]
    exact Below.heap_setCell _ ⟨w.heap.size,1,none⟩ _ z (by show z≠w.heap.size;omega))
   obtain⟨u0,u1,u2,u3,u4,u5,u6⟩:=ak j3.out
   have fu:=af j3.out 4
   have fu1:=af j3.out 1
   obtain⟨wb,hwb⟩:=nm (((wa.setCell ⟨w8.heap.size,1,none⟩ (.int .u64 (list:Int))).setCell ⟨w8.heap.size,4,none⟩ (.float .f64 f)).drew)
   have CW:Hid (wb.heap[w8.heap.size]?=some (.cells #[.int .u64 (tk.id:Int),.int .u64 (list:Int),.string (str tk.title),.bool tk.done,.float .f64 f,.float .f64 tk.est,.slice A4 tk.tags.length c4] 64 (0,0))):=hid (by rw [← hwb];exact ah (ah j3.out 1 _) 4 _)
   have ui:Hid (wb.heap[w.heap.size]?=some (.cells #[.slice A n1 c,.slice bU n10 c10] 26 (0,0))):=hid (by rw [← hwb];exact az (az PF.out (p:=⟨w8.heap.size,1,none⟩) (by show w.heap.size≠w8.heap.size;have:=ZG.out;omega) _) (p:=⟨w8.heap.size,4,none⟩) (by show w.heap.size≠w8.heap.size;have:=ZG.out;omega) _)
   have CZ:Hid (wb.heap[w.heap.size+2]?=some (.cells #[.slice none 0 0,.slice none 0 0] 26 (0,0))):=hid (by rw [← hwb];exact az (az RF.out (p:=⟨w8.heap.size,1,none⟩) (by show w.heap.size+2≠w8.heap.size;have:=ZG.out;omega) _) (p:=⟨w8.heap.size,4,none⟩) (by show w.heap.size+2≠w8.heap.size;have:=ZG.out;omega) _)
   have uh:Hid (wb.ownsRow w9.heap.size 64 7 (.slice bU n10 c10) n10 (ai xs)):=hid (dh rF.out (fun z hz=>by
    have q:=(bM rF.out z hz).1
    have:=ZG.out
    rw [← hwb]
    exact (Below.heap_setCell _ ⟨w8.heap.size,4,none⟩ _ z (by show z≠w8.heap.size;omega)).trans (Below.heap_setCell _ ⟨w8.heap.size,1,none⟩ _ z (by show z≠w8.heap.size;omega))))
   have yt:Ty wa w8.heap.size 64:=⟨_,_,j3.out⟩
   have Tb:Hid (∀ m∈xs,m.bS wb):=hid fun m hm=>by rw [← hwb];exact⟨(aG (aG (DF.out.t m hm).1 yt (by decide)) (yt.set _ _) (by decide)).drew,(DF.out.t m hm).2⟩
   have Lb:Hid (au wb 0 61 A (aL ls)):=hid (by rw [← hwb];exact (aG (aG DF.out.l yt (by decide)) (yt.set _ _) (by decide)).drew)
   have CO:Hid ((⟨{ tk with list:=list,rank:=f },A4,c4⟩:aN).bS wb):=hid (by rw [← hwb];exact⟨(aG (aG CJ.out yt (by decide)) (yt.set _ _) (by decide)).drew,FT.out.2⟩)
   have Bb:Hid (Below w.heap.size w wb):=hid (by rw [← hwb];exact ((BF.out.setCell (by show w.heap.size≤w8.heap.size;have:=ZG.out;omega) _).setCell (by show w.heap.size≤w8.heap.size;have:=ZG.out;omega) _).drew)
   have CX:Hid (n10≤1000):=hid (by
    rw [← ic.out,← aK,TS.out]
    exact Nat.le_trans (List.length_filter_le _ _) HB.out.n2)
   have fu4:=af (show (wa.setCell ⟨w8.heap.size,1,none⟩ (.int .u64 (list:Int))).heap[w8.heap.size]?=_ from ah j3.out 1 _) 4
   have C5:=hid (fo (x:=(⟨{ tk with list:=list,rank:=f },A4,c4⟩:aN)) (aH (B:=0) uh.out) Tb.out CO.out ic.out.symm (aO uh.out).2 DF.out.zk CX.out)
   dsimp only at C5
   obtain⟨p0,p1⟩:=aa ui.out
   obtain⟨v0,v1,v2,v3,v4,v5,v6⟩:=ak CW.out
   clear yt
   go_wp2_with fail
   go_region
   go_wp2_with fail
   refine C5.out.mono ?_
   rintro e kC ⟨cK,c11,rfl,ny,nO,gH,jL,dS⟩
   clear C5 q0 q1 pJ dB hwb m0 m1 m2 m3 m4 m5 u0 u1 u2 u3 u4 u5 u6 fu p0 p1 v0 v1 v2 v3 v4 v5 v6 PF RF DF BF QV
   obtain⟨ys,hys⟩:=nm (Sr.ins iI (⟨{ tk with list:=list,rank:=f },A4,c4⟩:aN) xs)
   rw [hys] at ny nO gH ⊢
   obtain⟨n11,fU⟩:=nm ys.length
   rw [fU]
   have jN:=ae ui.out dS
   have qg:=ae CZ.out dS
   obtain⟨q0,q1⟩:=aa jN
   have pJ:=af jN 1
   obtain⟨wc,hwc⟩:=nm (kC.setCell ⟨w.heap.size,1,none⟩ (.slice cK n11 c11))
   have PF:Hid (wc.heap[w.heap.size]?=some (.cells #[.slice A n1 c,.slice cK n11 c11] 26 (0,0))):=hid (by rw [← hwc];exact ah jN 1 _)
   have RF:Hid (wc.heap[w.heap.size+2]?=some (.cells #[.slice none 0 0,.slice none 0 0] 26 (0,0))):=hid (by rw [← hwc];exact az qg (p:=⟨w.heap.size,1,none⟩) (by show w.heap.size+2≠w.heap.size;omega) _)
   have yp:Ty kC w.heap.size 26:=⟨_,_,jN⟩
   have TA:=(aM.refl 0 [26] kC).aB (p:=⟨w.heap.size,1,none⟩) yp (by simp) (Nat.zero_le _) (.slice cK n11 c11)
   rw [hwc] at TA
   have DX:DS ⟨ls,A,c,ys,cK,c11⟩ kC:=⟨bG Lb.out dS,ny,nO,D9.out.lc,gH,D9.out.za,jL⟩
   have DF:=hid (DX.bE TA (by decide) (by decide) (by decide))
   have BF:Hid (Below w.heap.size w wc):=hid (by rw [← hwc];exact (Bb.out.trans (dS.mono Bb.out.size)).setCell (Nat.le_refl _) _)
   have DM:Hid (T9.eD ⟨ls,ay ms⟩ ⟨6,id,list,text,f,flag⟩=(91,⟨ls,Sr.ins T9.jg { tk with list:=list,rank:=f } (T9.wo (ay ms) 0 false id)⟩)):=hid (by
    rw [T9.mV (k:=6) (s:=⟨ls,ay ms⟩) (list:=list) (f:=f) (text:=text) (flag:=flag) (by omega) HH.out,← wL.out]
    simp [T9.pX,H2.out])
   have QS:Hid ((⟨ls,A,c,ys,cK,c11⟩:aQ).st=⟨ls,Sr.ins T9.jg { tk with list:=list,rank:=f } (T9.wo (ay ms) 0 false id)⟩):=hid (by
    rw [← hys,← TS.out]
    show (⟨ls,ay (Sr.ins iI (⟨{ tk with list:=list,rank:=f },A4,c4⟩:aN) xs)⟩:T9.St)=_
    rw [jD])
   have QV:Hid (Ending.returned (.tuple #[.agg #[.slice A n1 c,.slice cK n11 c11],.int .i64 91])=Ending.returned (.tuple #[(⟨ls,A,c,ys,cK,c11⟩:aQ).val,.int .i64 91])):=hid (by rw [← fU,E1.out];rfl)
   clear dS jN qg yp TA DX fU ny gH jL nO hys
   obtain⟨p0,p1⟩:=aa PF.out
   obtain⟨r0,r1⟩:=aa RF.out
   have jO:=af RF.out 0
   have jB:=af RF.out 1
   have KB:Hid (((wc.setCell ⟨w.heap.size+2,0,none⟩ (.slice A n1 c)).setCell ⟨w.heap.size+2,1,none⟩ (.slice cK n11 c11)).heap[w.heap.size+2]?=some (.cells #[.slice A n1 c,.slice cK n11 c11] 26 (0,0))):=hid (ah (ah RF.out 0 _) 1 _)
   have yr:Ty wc (w.heap.size+2) 26:=⟨_,_,RF.out⟩
   have TF:=hid (((aM.refl 0 [26] wc).aB (p:=⟨w.heap.size+2,0,none⟩) yr (by simp) (Nat.zero_le _) (.slice A n1 c)).aB (p:=⟨w.heap.size+2,1,none⟩) (yr.set _ _) (by simp) (Nat.zero_le _) (.slice cK n11 c11))
   obtain⟨k0,k1⟩:=aa KB.out
   clear yr
   go_wp2
   refine bodyPost_ret (v:=.tuple #[.agg #[.slice A n1 c,.slice cK n11 c11],.int .i64 91]) (by simp [results,results52,go_sem,k0,k1]) rfl ?_
   refine⟨⟨ls,A,c,ys,cK,c11⟩,91,QV.out,by rw [DM.out],fun _=>⟨by rw [DM.out];exact QS.out,DF.out.bE TF.out (by decide) (by decide) (by decide)⟩,?_⟩
   exact (BF.out.setCell (by show w.heap.size≤w.heap.size+2;omega) _).setCell (by show w.heap.size≤w.heap.size+2;omega) _
end
end Go.Proofs.YtcmiompdjjiojaaGreat
