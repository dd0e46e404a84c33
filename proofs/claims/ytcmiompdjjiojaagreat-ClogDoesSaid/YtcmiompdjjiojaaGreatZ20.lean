import Derived.Test.YtcmiompdjjiojaaGreatZ15
import Derived.Test.YtcmiompdjjiojaaGreatZ18
namespace Go.Proofs.YtcmiompdjjiojaaGreat
set_option maxHeartbeats 16000000
open Go.Lib Go.Proofs.Tryz
set_option linter.unusedSimpArgs false
set_option maxRecDepth 100000
section
open Go.RowKit Go.Lib
structure DS (s:aQ) (w:World):Prop where
 l:au w 0 61 s.A (aL s.ls)
 k:au w 0 64 s.A2 (ai s.ms)
 t:∀ q∈s.ms,q.bS w
 lc:s.ls.length≤s.c
 kc:s.ms.length≤s.c2
 za:s.A=none→s.c=0
 zk:s.A2=none→s.c2=0
theorem DS.bE {s:aQ} {w w':World} {B:Nat} {ts:List TypeId} (h:DS s w) (hT:aM B ts w w') (h1:61 ∉ ts) (h2:64 ∉ ts) (h3:9 ∉ ts):DS s w':=⟨dF h.l hT h1,dF h.k hT h2,fun q hq=>(h.t q hq).nP hT h3,h.lc,h.kc,h.za,h.zk⟩
theorem DS.stay {s:aQ} {w w':World} (h:DS s w) (hb:Below w.heap.size w w'):DS s w':=h.bE (aM.of_below hb (Nat.le_refl _) []) (by simp) (by simp) (by simp)
theorem DS.kl {s:aQ} {w:World} (h:DS s w):KL w s.A2 s.ms:=⟨h.k.old,fun q hq=>⟨(h.t q hq).1.old,(h.t q hq).2⟩⟩
structure DB (s:T9.St):Prop where
 n1:s.lists.length≤1000
 n2:s.tasks.length≤1000
 t:∀ t∈s.tasks,t.tags.length≤100
 u:T9.tK s.tasks
 r:∀ t∈s.tasks,t.rank<18446744073709551616
 c:T9.canon s=s
def p9 (s:T9.St) (m:T9.Mu) (w:World) (e:Ending) (w':World):Prop:=∃ (q:aQ) (er:Int),e=.returned (.tuple #[q.val,.int .i64 er])∧er=(T9.eD s m).1∧(er=0→q.st=(T9.eD s m).2∧DS q w')∧Below w.heap.size w w'
theorem bF (ls:List T9.Li) (id:Nat):(T9.aW ls id).2=T9.bC ls id:=by
 unfold T9.aW T9.bC
 cases h:ls.find? (fun l=>l.id==id) with
 | none=>rw [List.find?_eq_none] at h;exact (Bool.eq_false_iff.2 fun q=>by obtain⟨x,hx,e⟩:=List.any_eq_true.1 q;exact h x hx e).symm
 | some l=>exact (List.any_eq_true.2 ⟨l,List.mem_of_find?_eq_some h,List.find?_some (p:=fun l:T9.Li=>l.id==id) h⟩).symm
theorem d_ (ts:List T9.Tk) (id:Nat):(T9.dJ ts id).2=T9.eB ts id:=by
 unfold T9.dJ T9.eB
 cases h:ts.find? (fun l=>l.id==id) with
 | none=>rw [List.find?_eq_none] at h;exact (Bool.eq_false_iff.2 fun q=>by obtain⟨x,hx,e⟩:=List.any_eq_true.1 q;exact h x hx e).symm
 | some l=>exact (List.any_eq_true.2 ⟨l,List.mem_of_find?_eq_some h,List.find?_some (p:=fun l:T9.Tk=>l.id==id) h⟩).symm
end
section
open Go.RowKit Go.Lib
theorem Lr {ls:List T9.Li} {A:Option Addr} {n1 c:Nat} {ms:List aN} {A2:Option Addr} {n2 c2:Nat} {id list f:Nat} {text:List UInt8} {flag:Bool} {w:World} (hS:DS ⟨ls,A,c,ms,A2,c2⟩ w) (hB:DB ⟨ls,ay ms⟩) (e1:n1=ls.length) (e2:n2=ms.length) :
  Calls prog 52 #[.agg #[.slice A n1 c,.slice A2 n2 c2],.agg #[.int .i64 1,.int .u64 (id:Int),.int .u64 (list:Int),.string (str text),.float .f64 f,.bool flag]] w (p9 ⟨ls,ay ms⟩ ⟨1,id,list,text,f,flag⟩ w):=by
 have E1:=hid e1
 have E2:=hid e2
 have HB:=hid hB
 have N1:Hid (n1≤1000):=hid (by rw [e1];exact hB.n1)
 have N2:Hid (n2≤1000):=hid (by have:=hB.n2;rw [e2,← aK];exact this)
 obtain⟨w1,hw1⟩:=nm (w.alloc (.cells #[.slice A n1 c,.slice A2 n2 c2] 26))
 obtain⟨a1,b1,z1⟩:=aj hw1
 obtain⟨w2,hw2⟩:=nm (w1.alloc (.cells #[.int .i64 1,.int .u64 (id:Int),.int .u64 (list:Int),.string (str text),.float .f64 f,.bool flag] 57))
 obtain⟨a2,b2,z2⟩:=bn hw2
 obtain⟨w3,hw3⟩:=nm (w2.alloc (.cells #[.slice none 0 0,.slice none 0 0] 26))
 obtain⟨a3,b3,z3⟩:=aj hw3
 rw [z1] at a2
 rw [z2,z1] at a3
 have zz:w3.heap.size=w.heap.size+3:=by omega
 have PB:Hid (w3.heap[w.heap.size]?=some (.cells #[.slice A n1 c,.slice A2 n2 c2] 26 (0,0))):=hid (ae (ae a1 b2) b3)
 have MB:Hid (w3.heap[w.heap.size+1]?=some (.cells #[.int .i64 1,.int .u64 (id:Int),.int .u64 (list:Int),.string (str text),.float .f64 f,.bool flag] 57 (0,0))):=hid (ae a2 b3)
 have RB:Hid (w3.heap[w.heap.size+2]?=some (.cells #[.slice none 0 0,.slice none 0 0] 26 (0,0))):=hid a3
 have B3:Hid (Below w.heap.size w w3):=hid ((b1.trans (b2.mono (by omega))).trans (b3.mono (by omega)))
 have D3:=hid (hS.stay B3.out)
 have C1:=hid (bv (A2:=A2) (n2:=n2) (c:=c) (c2:=c2) (show LL w3 A ls from D3.out.l.old) e1 (by have:=N1.out;omega) id)
 obtain⟨p0,p1⟩:=aa PB.out
 obtain⟨m0,m1,m2,m3,m4,m5⟩:=ag MB.out
 have ZZ:=hid zz
 have rA:=z1
 have rC:w2.heap.size=w.heap.size+2:=by omega
 clear hS hB e1 e2 a1 a2 a3 b1 b2 b3 z1 z2 z3 zz
 go_enter func52,ntmps52
 go_wp2_with fail
 refine C1.out.mono ?_
 rintro e w4 ⟨rfl,hb4⟩
 clear hw1 hw2 hw3 C1 rA rC p0 p1 m0 m1 m2 m3 m4 m5
 obtain⟨i1,t1,hf1⟩:∃ i t,T9.aW ls id=(⟨i,t⟩,T9.bC ls id):=⟨(T9.aW ls id).1.id,(T9.aW ls id).1.name,by rw [← bF]⟩
 rw [hf1]
 obtain⟨w5,fV⟩:=nm (w4.alloc (.cells #[.int .u64 (i1:Int),.string (str t1)] 61))
 obtain⟨-,b5,-⟩:=aj fV
 have B5:Hid (Below w3.heap.size w3 w5):=hid (hb4.trans (b5.mono hb4.size))
 have C2:=hid (bv (A2:=A2) (n2:=n2) (c:=c) (c2:=c2) (show LL w5 A ls from (D3.out.stay B5.out).l.old) E1.out (by have:=N1.out;omega) list)
 obtain⟨p0,p1⟩:=aa (ae PB.out B5.out)
 obtain⟨m0,m1,m2,m3,m4,m5⟩:=ag (ae MB.out B5.out)
 obtain⟨p4,p5⟩:=aa (ae PB.out hb4)
 unfold a_
 dsimp only
 clear hf1 b5 hb4
 go_wp2_with fail
 refine C2.out.mono ?_
 rintro e w6 ⟨rfl,hb6⟩
 clear fV C2 p0 p1 p4 p5 m0 m1 m2 m3 m4 m5
 obtain⟨i2,t2,hf2⟩:∃ i t,T9.aW ls list=(⟨i,t⟩,T9.bC ls list):=⟨(T9.aW ls list).1.id,(T9.aW ls list).1.name,by rw [← bF]⟩
 rw [hf2]
 obtain⟨w7,hw7⟩:=nm (w6.alloc (.cells #[.int .u64 (i2:Int),.string (str t2)] 61))
 obtain⟨-,b7,-⟩:=aj hw7
 have B7:Hid (Below w3.heap.size w3 w7):=hid (B5.out.trans ((hb6.trans (b7.mono hb6.size)).mono B5.out.size))
 have C3:=hid (dG (A:=A) (n1:=n1) (c:=c) (c2:=c2) (D3.out.stay B7.out).kl E2.out (by have:=N2.out;omega) (D3.out.stay B7.out).t id)
 obtain⟨p0,p1⟩:=aa (ae PB.out B7.out)
 obtain⟨m0,m1,m2,m3,m4,m5⟩:=ag (ae MB.out B7.out)
 unfold a_
 dsimp only
 clear hf2 b7 hb6
 go_wp2_with fail
 refine C3.out.mono ?_
 rintro e w8 ⟨⟨tk,A4,c4⟩,rfl,htk,hft,gp⟩
 clear hw7 C3 p0 p1 m0 m1 m2 m3 m4 m5
 have wL:Hid (tk=(T9.dJ (ay ms) id).1):=hid htk
 rw [d_]
 obtain⟨w9,kQ⟩:=nm (w8.alloc (.cells #[.int .u64 (tk.id:Int),.int .u64 (tk.list:Int),.string (str tk.title),.bool tk.done,.float .f64 tk.rank,.float .f64 tk.est,.slice A4 tk.tags.length c4] 64))
 obtain⟨jR,b9,-⟩:=bf kQ
 have B9:Hid (Below w3.heap.size w3 w9):=hid (B7.out.trans ((gp.trans (b9.mono gp.size)).mono B7.out.size))
 have LB:=hid jR
 have ZG:Hid (w.heap.size+3≤w8.heap.size∧w8.heap.size<w9.heap.size):=hid ⟨by have:=ZZ.out;have:=B7.out.size;have:=gp.size;omega,lt_of_block jR⟩
 have FT:=hid (hft.stay b9)
 have D9:=hid (D3.out.stay B9.out)
 have P9:=hid (ae PB.out B9.out)
 have M9:=hid (ae MB.out B9.out)
 have R9:=hid (ae RB.out B9.out)
 have BW:=hid (B3.out.trans (B9.out.mono B3.out.size))
 obtain⟨p0,p1⟩:=aa P9.out
 obtain⟨m0,m1,m2,m3,m4,m5⟩:=ag M9.out
 obtain⟨r0,r1⟩:=aa R9.out
 have jO:=af R9.out 0
 have jB:=af R9.out 1
 unfold aA
 dsimp only
 clear htk hft gp jR b9 PB MB RB D3
 cases hh:T9.bC ls id with
 | true =>
  have HH:=hid hh
  clear hh
  have V:=hid (T9.JB (s:=⟨ls,ay ms⟩) (list:=list) (f:=f) (text:=text) (flag:=flag) HH.out)
  have KB:Hid (((w9.setCell ⟨w.heap.size+2,0,none⟩ (.slice A n1 c)).setCell ⟨w.heap.size+2,1,none⟩ (.slice A2 n2 c2)).heap[w.heap.size+2]?=some (.cells #[.slice A n1 c,.slice A2 n2 c2] 26 (0,0))):=hid (ah (ah R9.out 0 _) 1 _)
  obtain⟨k0,k1⟩:=aa KB.out
  go_wp2
  refine bodyPost_ret (v:=.tuple #[.agg #[.slice A n1 c,.slice A2 n2 c2],.int .i64 (T9.eD ⟨ls,ay ms⟩ ⟨1,id,list,text,f,flag⟩).1]) (by rw [V.out];simp [results,results52,go_sem,k0,k1]) rfl ?_
  refine⟨⟨ls,A,c,ms,A2,c2⟩,_,by rw [E1.out,E2.out];rfl,rfl,(fun z=>by rw [V.out] at z;cases z),?_⟩
  exact (BW.out.setCell (by show w.heap.size≤w.heap.size+2;omega) _).setCell (by show w.heap.size≤w.heap.size+2;omega) _
 | false =>
  have HH:=hid hh
  clear hh
  by_cases hc:20≤n1
  ·have hcz:(20:Int)≤(n1:Int):=by omega
   have HC:Hid (20≤ls.length):=hid (by rw [← E1.out];exact hc)
   clear hc
   have V:=hid (T9.JE (s:=⟨ls,ay ms⟩) (list:=list) (f:=f) (text:=text) (flag:=flag) HH.out HC.out)
   have KB:Hid (((w9.setCell ⟨w.heap.size+2,0,none⟩ (.slice A n1 c)).setCell ⟨w.heap.size+2,1,none⟩ (.slice A2 n2 c2)).heap[w.heap.size+2]?=some (.cells #[.slice A n1 c,.slice A2 n2 c2] 26 (0,0))):=hid (ah (ah R9.out 0 _) 1 _)
   obtain⟨k0,k1⟩:=aa KB.out
   go_wp2
   refine bodyPost_ret (v:=.tuple #[.agg #[.slice A n1 c,.slice A2 n2 c2],.int .i64 (T9.eD ⟨ls,ay ms⟩ ⟨1,id,list,text,f,flag⟩).1]) (by rw [V.out];simp [results,results52,go_sem,k0,k1]) rfl ?_
   refine⟨⟨ls,A,c,ms,A2,c2⟩,_,by rw [E1.out,E2.out];rfl,rfl,(fun z=>by rw [V.out] at z;cases z),?_⟩
   exact (BW.out.setCell (by show w.heap.size≤w.heap.size+2;omega) _).setCell (by show w.heap.size≤w.heap.size+2;omega) _
  have hcz:¬ ((20:Int)≤(n1:Int)):=by omega
  have HC:Hid (¬ 20≤ls.length):=hid (by rw [← E1.out];exact hc)
  clear hc
  have C4:=hid (wH (x:=⟨id,text⟩) D9.out.l E1.out (by rw [E1.out];exact D9.out.lc) D9.out.za N1.out)
  go_wp2_with fail
  refine C4.out.mono ?_
  rintro e iB ⟨bU,c10,rfl,l10,gz,gL,bD⟩
  clear C4 p0 p1 m0 m1 m2 m3 m4 m5 r0 r1 jO jB kQ
  obtain⟨xs,hxs⟩:=nm (Sr.ins T9.iY ⟨id,text⟩ ls)
  rw [hxs] at l10 gz ⊢
  obtain⟨n10,dx⟩:=nm xs.length
  rw [dx]
  have gB:=ae P9.out bD
  have mJ:=ae R9.out bD
  obtain⟨q0,q1⟩:=aa gB
  have fp0:=af gB 0
  obtain⟨wa,dB⟩:=nm (iB.setCell ⟨w.heap.size,0,none⟩ (.slice bU n10 c10))
  have PF:Hid (wa.heap[w.heap.size]?=some (.cells #[.slice bU n10 c10,.slice A2 n2 c2] 26 (0,0))):=hid (by rw [← dB];exact ah gB 0 _)
  have RF:Hid (wa.heap[w.heap.size+2]?=some (.cells #[.slice none 0 0,.slice none 0 0] 26 (0,0))):=hid (by rw [← dB];exact az mJ (p:=⟨w.heap.size,0,none⟩) (by show w.heap.size+2≠w.heap.size;omega) _)
  have yp:Ty iB w.heap.size 26:=⟨_,_,gB⟩
  have TA:=(aM.refl 0 [26] iB).aB (p:=⟨w.heap.size,0,none⟩) yp (by simp) (Nat.zero_le _) (.slice bU n10 c10)
  rw [dB] at TA
  have jl:=D9.out.stay bD
  have DX:DS ⟨xs,bU,c10,ms,A2,c2⟩ iB:=⟨l10,jl.k,jl.t,gz,jl.kc,gL,jl.zk⟩
  have DF:=hid (DX.bE TA (by decide) (by decide) (by decide))
  have BF:Hid (Below w.heap.size w wa):=hid (by rw [← dB];exact (BW.out.trans (bD.mono BW.out.size)).setCell (Nat.le_refl _) _)
  have QS:Hid ((⟨xs,bU,c10,ms,A2,c2⟩:aQ).st=⟨Sr.ins T9.iY ⟨id,text⟩ ls,ay ms⟩):=hid (by rw [hxs];rfl)
  have QV:Hid (Ending.returned (.tuple #[.agg #[.slice bU n10 c10,.slice A2 n2 c2],.int .i64 0])=Ending.returned (.tuple #[(⟨xs,bU,c10,ms,A2,c2⟩:aQ).val,.int .i64 0])):=hid (by rw [← dx,E2.out];rfl)
  clear bD gB mJ yp TA jl DX dx hxs l10 gz gL
  obtain⟨p0,p1⟩:=aa PF.out
  obtain⟨r0,r1⟩:=aa RF.out
  have jO:=af RF.out 0
  have jB:=af RF.out 1
  have KB:Hid (((wa.setCell ⟨w.heap.size+2,0,none⟩ (.slice bU n10 c10)).setCell ⟨w.heap.size+2,1,none⟩ (.slice A2 n2 c2)).heap[w.heap.size+2]?=some (.cells #[.slice bU n10 c10,.slice A2 n2 c2] 26 (0,0))):=hid (ah (ah RF.out 0 _) 1 _)
  have yr:Ty wa (w.heap.size+2) 26:=⟨_,_,RF.out⟩
  have TF:=hid (((aM.refl 0 [26] wa).aB (p:=⟨w.heap.size+2,0,none⟩) yr (by simp) (Nat.zero_le _) (.slice bU n10 c10)).aB (p:=⟨w.heap.size+2,1,none⟩) (yr.set _ _) (by simp) (Nat.zero_le _) (.slice A2 n2 c2))
  obtain⟨k0,k1⟩:=aa KB.out
  clear yr
  go_wp2
  refine bodyPost_ret (v:=.tuple #[.agg #[.slice bU n10 c10,.slice A2 n2 c2],.int .i64 0]) (by simp [results,results52,go_sem,k0,k1]) rfl ?_
  refine⟨⟨xs,bU,c10,ms,A2,c2⟩,0,QV.out,by rw [T9.DD (s:=⟨ls,ay ms⟩) (list:=list) (f:=f) (text:=text) (flag:=flag) HH.out HC.out],fun _=>⟨by rw [T9.DD (s:=⟨ls,ay ms⟩) (list:=list) (f:=f) (text:=text) (flag:=flag) HH.out HC.out];exact QS.out,DF.out.bE TF.out (by decide) (by decide) (by decide)⟩,?_⟩
  exact (BF.out.setCell (by show w.heap.size≤w.heap.size+2;omega) _).setCell (by show w.heap.size≤w.heap.size+2;omega) _
end
section
open Go.RowKit Go.Lib
theorem Hw {ls:List T9.Li} {A:Option Addr} {n1 c:Nat} {ms:List aN} {A2:Option Addr} {n2 c2:Nat} {id list f:Nat} {text:List UInt8} {flag:Bool} {w:World} (hS:DS ⟨ls,A,c,ms,A2,c2⟩ w) (hB:DB ⟨ls,ay ms⟩) (e1:n1=ls.length) (e2:n2=ms.length) :
  Calls prog 52 #[.agg #[.slice A n1 c,.slice A2 n2 c2],.agg #[.int .i64 11,.int .u64 (id:Int),.int .u64 (list:Int),.string (str text),.float .f64 f,.bool flag]] w (p9 ⟨ls,ay ms⟩ ⟨11,id,list,text,f,flag⟩ w):=by
 have E1:=hid e1
 have E2:=hid e2
 have HB:=hid hB
 have N1:Hid (n1≤1000):=hid (by rw [e1];exact hB.n1)
 have N2:Hid (n2≤1000):=hid (by have:=hB.n2;rw [e2,← aK];exact this)
 obtain⟨w1,hw1⟩:=nm (w.alloc (.cells #[.slice A n1 c,.slice A2 n2 c2] 26))
 obtain⟨a1,b1,z1⟩:=aj hw1
 obtain⟨w2,hw2⟩:=nm (w1.alloc (.cells #[.int .i64 11,.int .u64 (id:Int),.int .u64 (list:Int),.string (str text),.float .f64 f,.bool flag] 57))
 obtain⟨a2,b2,z2⟩:=bn hw2
 obtain⟨w3,hw3⟩:=nm (w2.alloc (.cells #[.slice none 0 0,.slice none 0 0] 26))
 obtain⟨a3,b3,z3⟩:=aj hw3
 rw [z1] at a2
 rw [z2,z1] at a3
 have zz:w3.heap.size=w.heap.size+3:=by omega
 have PB:Hid (w3.heap[w.heap.size]?=some (.cells #[.slice A n1 c,.slice A2 n2 c2] 26 (0,0))):=hid (ae (ae a1 b2) b3)
 have MB:Hid (w3.heap[w.heap.size+1]?=some (.cells #[.int .i64 11,.int .u64 (id:Int),.int .u64 (list:Int),.string (str text),.float .f64 f,.bool flag] 57 (0,0))):=hid (ae a2 b3)
 have RB:Hid (w3.heap[w.heap.size+2]?=some (.cells #[.slice none 0 0,.slice none 0 0] 26 (0,0))):=hid a3
 have B3:Hid (Below w.heap.size w w3):=hid ((b1.trans (b2.mono (by omega))).trans (b3.mono (by omega)))
 have D3:=hid (hS.stay B3.out)
 have C1:=hid (bv (A2:=A2) (n2:=n2) (c:=c) (c2:=c2) (show LL w3 A ls from D3.out.l.old) e1 (by have:=N1.out;omega) id)
 obtain⟨p0,p1⟩:=aa PB.out
 obtain⟨m0,m1,m2,m3,m4,m5⟩:=ag MB.out
 have ZZ:=hid zz
 have rA:=z1
 have rC:w2.heap.size=w.heap.size+2:=by omega
 clear hS hB e1 e2 a1 a2 a3 b1 b2 b3 z1 z2 z3 zz
 go_enter func52,ntmps52
 go_wp2_with fail
 refine C1.out.mono ?_
 rintro e w4 ⟨rfl,hb4⟩
 clear hw1 hw2 hw3 C1 rA rC p0 p1 m0 m1 m2 m3 m4 m5
 obtain⟨i1,t1,hf1⟩:∃ i t,T9.aW ls id=(⟨i,t⟩,T9.bC ls id):=⟨(T9.aW ls id).1.id,(T9.aW ls id).1.name,by rw [← bF]⟩
 rw [hf1]
 obtain⟨w5,fV⟩:=nm (w4.alloc (.cells #[.int .u64 (i1:Int),.string (str t1)] 61))
 obtain⟨-,b5,-⟩:=aj fV
 have B5:Hid (Below w3.heap.size w3 w5):=hid (hb4.trans (b5.mono hb4.size))
 have C2:=hid (bv (A2:=A2) (n2:=n2) (c:=c) (c2:=c2) (show LL w5 A ls from (D3.out.stay B5.out).l.old) E1.out (by have:=N1.out;omega) list)
 obtain⟨p0,p1⟩:=aa (ae PB.out B5.out)
 obtain⟨m0,m1,m2,m3,m4,m5⟩:=ag (ae MB.out B5.out)
 obtain⟨p4,p5⟩:=aa (ae PB.out hb4)
 unfold a_
 dsimp only
 clear hf1 b5 hb4
 go_wp2_with fail
 refine C2.out.mono ?_
 rintro e w6 ⟨rfl,hb6⟩
 clear fV C2 p0 p1 p4 p5 m0 m1 m2 m3 m4 m5
 obtain⟨i2,t2,hf2⟩:∃ i t,T9.aW ls list=(⟨i,t⟩,T9.bC ls list):=⟨(T9.aW ls list).1.id,(T9.aW ls list).1.name,by rw [← bF]⟩
 rw [hf2]
 obtain⟨w7,hw7⟩:=nm (w6.alloc (.cells #[.int .u64 (i2:Int),.string (str t2)] 61))
 obtain⟨-,b7,-⟩:=aj hw7
 have B7:Hid (Below w3.heap.size w3 w7):=hid (B5.out.trans ((hb6.trans (b7.mono hb6.size)).mono B5.out.size))
 have C3:=hid (dG (A:=A) (n1:=n1) (c:=c) (c2:=c2) (D3.out.stay B7.out).kl E2.out (by have:=N2.out;omega) (D3.out.stay B7.out).t id)
 obtain⟨p0,p1⟩:=aa (ae PB.out B7.out)
 obtain⟨m0,m1,m2,m3,m4,m5⟩:=ag (ae MB.out B7.out)
 unfold a_
 dsimp only
 clear hf2 b7 hb6
 go_wp2_with fail
 refine C3.out.mono ?_
 rintro e w8 ⟨⟨tk,A4,c4⟩,rfl,htk,hft,gp⟩
 clear hw7 C3 p0 p1 m0 m1 m2 m3 m4 m5
 have wL:Hid (tk=(T9.dJ (ay ms) id).1):=hid htk
 rw [d_]
 obtain⟨w9,kQ⟩:=nm (w8.alloc (.cells #[.int .u64 (tk.id:Int),.int .u64 (tk.list:Int),.string (str tk.title),.bool tk.done,.float .f64 tk.rank,.float .f64 tk.est,.slice A4 tk.tags.length c4] 64))
 obtain⟨jR,b9,-⟩:=bf kQ
 have B9:Hid (Below w3.heap.size w3 w9):=hid (B7.out.trans ((gp.trans (b9.mono gp.size)).mono B7.out.size))
 have LB:=hid jR
 have ZG:Hid (w.heap.size+3≤w8.heap.size∧w8.heap.size<w9.heap.size):=hid ⟨by have:=ZZ.out;have:=B7.out.size;have:=gp.size;omega,lt_of_block jR⟩
 have FT:=hid (hft.stay b9)
 have D9:=hid (D3.out.stay B9.out)
 have P9:=hid (ae PB.out B9.out)
 have M9:=hid (ae MB.out B9.out)
 have R9:=hid (ae RB.out B9.out)
 have BW:=hid (B3.out.trans (B9.out.mono B3.out.size))
 obtain⟨p0,p1⟩:=aa P9.out
 obtain⟨m0,m1,m2,m3,m4,m5⟩:=ag M9.out
 obtain⟨r0,r1⟩:=aa R9.out
 have jO:=af R9.out 0
 have jB:=af R9.out 1
 unfold aA
 dsimp only
 clear htk hft gp jR b9 PB MB RB D3
 cases hhHH:T9.eB (ay ms) id with
 | false =>
  have HH:=hid hhHH
  clear hhHH
  have V:=hid (T9.mU (k:=11) (s:=⟨ls,ay ms⟩) (list:=list) (f:=f) (text:=text) (flag:=flag) (by omega) HH.out)
  have KB:Hid (((w9.setCell ⟨w.heap.size+2,0,none⟩ (.slice A n1 c)).setCell ⟨w.heap.size+2,1,none⟩ (.slice A2 n2 c2)).heap[w.heap.size+2]?=some (.cells #[.slice A n1 c,.slice A2 n2 c2] 26 (0,0))):=hid (ah (ah R9.out 0 _) 1 _)
  obtain⟨k0,k1⟩:=aa KB.out
  go_wp2
  refine bodyPost_ret (v:=.tuple #[.agg #[.slice A n1 c,.slice A2 n2 c2],.int .i64 (T9.eD ⟨ls,ay ms⟩ ⟨11,id,list,text,f,flag⟩).1]) (by rw [V.out];simp [results,results52,go_sem,k0,k1]) rfl ?_
  refine⟨⟨ls,A,c,ms,A2,c2⟩,_,by rw [E1.out,E2.out];rfl,rfl,(fun z=>by rw [V.out] at z;cases z),?_⟩
  exact (BW.out.setCell (by show w.heap.size≤w.heap.size+2;omega) _).setCell (by show w.heap.size≤w.heap.size+2;omega) _
 | true =>
  have HH:=hid hhHH
  clear hhHH
  have C4:=hid (fH (c:=c2) D9.out.kl D9.out.t E2.out N2.out 0 false id)
  go_wp2_with fail
  refine C4.out.mono ?_
  rintro e iB ⟨bU,c10,xs,rfl,l10,pq,gz,gL,hts,bD,iN⟩
  clear C4 p0 p1 m0 m1 m2 m3 m4 m5 r0 r1 jO jB kQ
  have TS:=hid hts
  have mI:=hid iN
  clear iN
  obtain⟨n10,dx⟩:=nm xs.length
  have ic:=hid dx
  rw [dx]
  have gB:=ae P9.out bD
  have mJ:=ae R9.out bD
  have p_:=ae M9.out bD
  obtain⟨q0,q1⟩:=aa gB
  have pJ:=af gB 1
  obtain⟨wa,dB⟩:=nm (iB.setCell ⟨w.heap.size,1,none⟩ (.slice bU n10 c10))
  have PF:Hid (wa.heap[w.heap.size]?=some (.cells #[.slice A n1 c,.slice bU n10 c10] 26 (0,0))):=hid (by rw [← dB];exact ah gB 1 _)
  have RF:Hid (wa.heap[w.heap.size+2]?=some (.cells #[.slice none 0 0,.slice none 0 0] 26 (0,0))):=hid (by rw [← dB];exact az mJ (p:=⟨w.heap.size,1,none⟩) (by show w.heap.size+2≠w.heap.size;omega) _)
  have MF:Hid (wa.heap[w.heap.size+1]?=some (.cells #[.int .i64 11,.int .u64 (id:Int),.int .u64 (list:Int),.string (str text),.float .f64 f,.bool flag] 57 (0,0))):=hid (by rw [← dB];exact az p_ (p:=⟨w.heap.size,1,none⟩) (by show w.heap.size+1≠w.heap.size;omega) _)
  have yp:Ty iB w.heap.size 26:=⟨_,_,gB⟩
  have TA:=(aM.refl 0 [26] iB).aB (p:=⟨w.heap.size,1,none⟩) yp (by simp) (Nat.zero_le _) (.slice bU n10 c10)
  rw [dB] at TA
  have jl:=D9.out.stay bD
  have DX:DS ⟨ls,A,c,xs,bU,c10⟩ iB:=⟨jl.l,l10,pq,jl.lc,gz,jl.za,gL⟩
  have DF:=hid (DX.bE TA (by decide) (by decide) (by decide))
  have BF:Hid (Below w.heap.size w wa):=hid (by rw [← dB];exact (BW.out.trans (bD.mono BW.out.size)).setCell (Nat.le_refl _) _)
  have QV:Hid (Ending.returned (.tuple #[.agg #[.slice A n1 c,.slice bU n10 c10],.int .i64 0])=Ending.returned (.tuple #[(⟨ls,A,c,xs,bU,c10⟩:aQ).val,.int .i64 0])):=hid (by rw [← dx,E1.out];rfl)
  have jP:=hid bD
  have YP:=hid yp
  clear bD gB mJ p_ yp TA jl DX dx l10 gz gL pq hts
  obtain⟨m0,m1,m2,m3,m4,m5⟩:=ag MF.out
  have QS:Hid ((⟨ls,A,c,xs,bU,c10⟩:aQ).st=⟨ls,T9.wo (ay ms) 0 false id⟩):=hid (by rw [← TS.out];rfl)
  obtain⟨p0,p1⟩:=aa PF.out
  obtain⟨r0,r1⟩:=aa RF.out
  have jO:=af RF.out 0
  have jB:=af RF.out 1
  have KB:Hid (((wa.setCell ⟨w.heap.size+2,0,none⟩ (.slice A n1 c)).setCell ⟨w.heap.size+2,1,none⟩ (.slice bU n10 c10)).heap[w.heap.size+2]?=some (.cells #[.slice A n1 c,.slice bU n10 c10] 26 (0,0))):=hid (ah (ah RF.out 0 _) 1 _)
  have yr:Ty wa (w.heap.size+2) 26:=⟨_,_,RF.out⟩
  have TF:=hid (((aM.refl 0 [26] wa).aB (p:=⟨w.heap.size+2,0,none⟩) yr (by simp) (Nat.zero_le _) (.slice A n1 c)).aB (p:=⟨w.heap.size+2,1,none⟩) (yr.set _ _) (by simp) (Nat.zero_le _) (.slice bU n10 c10))
  obtain⟨k0,k1⟩:=aa KB.out
  clear yr
  go_wp2
  refine bodyPost_ret (v:=.tuple #[.agg #[.slice A n1 c,.slice bU n10 c10],.int .i64 0]) (by simp [results,results52,go_sem,k0,k1]) rfl ?_
  refine⟨⟨ls,A,c,xs,bU,c10⟩,0,QV.out,by rw [T9.yF (s:=⟨ls,ay ms⟩) (list:=list) (f:=f) (text:=text) (flag:=flag) HH.out],fun _=>⟨by rw [T9.yF (s:=⟨ls,ay ms⟩) (list:=list) (f:=f) (text:=text) (flag:=flag) HH.out];exact QS.out,DF.out.bE TF.out (by decide) (by decide) (by decide)⟩,?_⟩
  exact (BF.out.setCell (by show w.heap.size≤w.heap.size+2;omega) _).setCell (by show w.heap.size≤w.heap.size+2;omega) _
theorem Hy {ls:List T9.Li} {A:Option Addr} {n1 c:Nat} {ms:List aN} {A2:Option Addr} {n2 c2:Nat} {id list f:Nat} {text:List UInt8} {flag:Bool} {w:World} (hS:DS ⟨ls,A,c,ms,A2,c2⟩ w) (hB:DB ⟨ls,ay ms⟩) (e1:n1=ls.length) (e2:n2=ms.length) :
  Calls prog 52 #[.agg #[.slice A n1 c,.slice A2 n2 c2],.agg #[.int .i64 12,.int .u64 (id:Int),.int .u64 (list:Int),.string (str text),.float .f64 f,.bool flag]] w (p9 ⟨ls,ay ms⟩ ⟨12,id,list,text,f,flag⟩ w):=by
 have E1:=hid e1
 have E2:=hid e2
 have HB:=hid hB
 have N1:Hid (n1≤1000):=hid (by rw [e1];exact hB.n1)
 have N2:Hid (n2≤1000):=hid (by have:=hB.n2;rw [e2,← aK];exact this)
 obtain⟨w1,hw1⟩:=nm (w.alloc (.cells #[.slice A n1 c,.slice A2 n2 c2] 26))
 obtain⟨a1,b1,z1⟩:=aj hw1
 obtain⟨w2,hw2⟩:=nm (w1.alloc (.cells #[.int .i64 12,.int .u64 (id:Int),.int .u64 (list:Int),.string (str text),.float .f64 f,.bool flag] 57))
 obtain⟨a2,b2,z2⟩:=bn hw2
 obtain⟨w3,hw3⟩:=nm (w2.alloc (.cells #[.slice none 0 0,.slice none 0 0] 26))
 obtain⟨a3,b3,z3⟩:=aj hw3
 rw [z1] at a2
 rw [z2,z1] at a3
 have zz:w3.heap.size=w.heap.size+3:=by omega
 have PB:Hid (w3.heap[w.heap.size]?=some (.cells #[.slice A n1 c,.slice A2 n2 c2] 26 (0,0))):=hid (ae (ae a1 b2) b3)
 have MB:Hid (w3.heap[w.heap.size+1]?=some (.cells #[.int .i64 12,.int .u64 (id:Int),.int .u64 (list:Int),.string (str text),.float .f64 f,.bool flag] 57 (0,0))):=hid (ae a2 b3)
 have RB:Hid (w3.heap[w.heap.size+2]?=some (.cells #[.slice none 0 0,.slice none 0 0] 26 (0,0))):=hid a3
 have B3:Hid (Below w.heap.size w w3):=hid ((b1.trans (b2.mono (by omega))).trans (b3.mono (by omega)))
 have D3:=hid (hS.stay B3.out)
 have C1:=hid (bv (A2:=A2) (n2:=n2) (c:=c) (c2:=c2) (show LL w3 A ls from D3.out.l.old) e1 (by have:=N1.out;omega) id)
 obtain⟨p0,p1⟩:=aa PB.out
 obtain⟨m0,m1,m2,m3,m4,m5⟩:=ag MB.out
 have ZZ:=hid zz
 have rA:=z1
 have rC:w2.heap.size=w.heap.size+2:=by omega
 clear hS hB e1 e2 a1 a2 a3 b1 b2 b3 z1 z2 z3 zz
 go_enter func52,ntmps52
 go_wp2_with fail
 refine C1.out.mono ?_
 rintro e w4 ⟨rfl,hb4⟩
 clear hw1 hw2 hw3 C1 rA rC p0 p1 m0 m1 m2 m3 m4 m5
 obtain⟨i1,t1,hf1⟩:∃ i t,T9.aW ls id=(⟨i,t⟩,T9.bC ls id):=⟨(T9.aW ls id).1.id,(T9.aW ls id).1.name,by rw [← bF]⟩
 rw [hf1]
 obtain⟨w5,fV⟩:=nm (w4.alloc (.cells #[.int .u64 (i1:Int),.string (str t1)] 61))
 obtain⟨-,b5,-⟩:=aj fV
 have B5:Hid (Below w3.heap.size w3 w5):=hid (hb4.trans (b5.mono hb4.size))
 have C2:=hid (bv (A2:=A2) (n2:=n2) (c:=c) (c2:=c2) (show LL w5 A ls from (D3.out.stay B5.out).l.old) E1.out (by have:=N1.out;omega) list)
 obtain⟨p0,p1⟩:=aa (ae PB.out B5.out)
 obtain⟨m0,m1,m2,m3,m4,m5⟩:=ag (ae MB.out B5.out)
 obtain⟨p4,p5⟩:=aa (ae PB.out hb4)
 unfold a_
 dsimp only
 clear hf1 b5 hb4
 go_wp2_with fail
 refine C2.out.mono ?_
 rintro e w6 ⟨rfl,hb6⟩
 clear fV C2 p0 p1 p4 p5 m0 m1 m2 m3 m4 m5
 obtain⟨i2,t2,hf2⟩:∃ i t,T9.aW ls list=(⟨i,t⟩,T9.bC ls list):=⟨(T9.aW ls list).1.id,(T9.aW ls list).1.name,by rw [← bF]⟩
 rw [hf2]
 obtain⟨w7,hw7⟩:=nm (w6.alloc (.cells #[.int .u64 (i2:Int),.string (str t2)] 61))
 obtain⟨-,b7,-⟩:=aj hw7
 have B7:Hid (Below w3.heap.size w3 w7):=hid (B5.out.trans ((hb6.trans (b7.mono hb6.size)).mono B5.out.size))
 have C3:=hid (dG (A:=A) (n1:=n1) (c:=c) (c2:=c2) (D3.out.stay B7.out).kl E2.out (by have:=N2.out;omega) (D3.out.stay B7.out).t id)
 obtain⟨p0,p1⟩:=aa (ae PB.out B7.out)
 obtain⟨m0,m1,m2,m3,m4,m5⟩:=ag (ae MB.out B7.out)
 unfold a_
 dsimp only
 clear hf2 b7 hb6
 go_wp2_with fail
 refine C3.out.mono ?_
 rintro e w8 ⟨⟨tk,A4,c4⟩,rfl,htk,hft,gp⟩
 clear hw7 C3 p0 p1 m0 m1 m2 m3 m4 m5
 have wL:Hid (tk=(T9.dJ (ay ms) id).1):=hid htk
 rw [d_]
 obtain⟨w9,kQ⟩:=nm (w8.alloc (.cells #[.int .u64 (tk.id:Int),.int .u64 (tk.list:Int),.string (str tk.title),.bool tk.done,.float .f64 tk.rank,.float .f64 tk.est,.slice A4 tk.tags.length c4] 64))
 obtain⟨jR,b9,-⟩:=bf kQ
 have B9:Hid (Below w3.heap.size w3 w9):=hid (B7.out.trans ((gp.trans (b9.mono gp.size)).mono B7.out.size))
 have LB:=hid jR
 have ZG:Hid (w.heap.size+3≤w8.heap.size∧w8.heap.size<w9.heap.size):=hid ⟨by have:=ZZ.out;have:=B7.out.size;have:=gp.size;omega,lt_of_block jR⟩
 have FT:=hid (hft.stay b9)
 have D9:=hid (D3.out.stay B9.out)
 have P9:=hid (ae PB.out B9.out)
 have M9:=hid (ae MB.out B9.out)
 have R9:=hid (ae RB.out B9.out)
 have BW:=hid (B3.out.trans (B9.out.mono B3.out.size))
 obtain⟨p0,p1⟩:=aa P9.out
 obtain⟨m0,m1,m2,m3,m4,m5⟩:=ag M9.out
 obtain⟨r0,r1⟩:=aa R9.out
 have jO:=af R9.out 0
 have jB:=af R9.out 1
 unfold aA
 dsimp only
 clear htk hft gp jR b9 PB MB RB D3
 cases hhHH:T9.bC ls list with
 | false =>
  have HH:=hid hhHH
  clear hhHH
  have V:=hid (T9.E_ (s:=⟨ls,ay ms⟩) (id:=id) (f:=f) (text:=text) (flag:=flag) HH.out)
  have KB:Hid (((w9.setCell ⟨w.heap.size+2,0,none⟩ (.slice A n1 c)).setCell ⟨w.heap.size+2,1,none⟩ (.slice A2 n2 c2)).heap[w.heap.size+2]?=some (.cells #[.slice A n1 c,.slice A2 n2 c2] 26 (0,0))):=hid (ah (ah R9.out 0 _) 1 _)
  obtain⟨k0,k1⟩:=aa KB.out
  go_wp2
  refine bodyPost_ret (v:=.tuple #[.agg #[.slice A n1 c,.slice A2 n2 c2],.int .i64 (T9.eD ⟨ls,ay ms⟩ ⟨12,id,list,text,f,flag⟩).1]) (by rw [V.out];simp [results,results52,go_sem,k0,k1]) rfl ?_
  refine⟨⟨ls,A,c,ms,A2,c2⟩,_,by rw [E1.out,E2.out];rfl,rfl,(fun z=>by rw [V.out] at z;cases z),?_⟩
  exact (BW.out.setCell (by show w.heap.size≤w.heap.size+2;omega) _).setCell (by show w.heap.size≤w.heap.size+2;omega) _
 | true =>
  have HH:=hid hhHH
  clear hhHH
  have C4:=hid (fH (c:=c2) D9.out.kl D9.out.t E2.out N2.out list true 0)
  go_wp2_with fail
  refine C4.out.mono ?_
  rintro e iB ⟨bU,c10,xs,rfl,l10,pq,gz,gL,hts,bD,iN⟩
  clear C4 p0 p1 m0 m1 m2 m3 m4 m5 r0 r1 jO jB kQ
  have TS:=hid hts
  have mI:=hid iN
  clear iN
  obtain⟨n10,dx⟩:=nm xs.length
  have ic:=hid dx
  rw [dx]
  have gB:=ae P9.out bD
  have mJ:=ae R9.out bD
  have p_:=ae M9.out bD
  obtain⟨q0,q1⟩:=aa gB
  have pJ:=af gB 1
  obtain⟨wa,dB⟩:=nm (iB.setCell ⟨w.heap.size,1,none⟩ (.slice bU n10 c10))
  have PF:Hid (wa.heap[w.heap.size]?=some (.cells #[.slice A n1 c,.slice bU n10 c10] 26 (0,0))):=hid (by rw [← dB];exact ah gB 1 _)
  have RF:Hid (wa.heap[w.heap.size+2]?=some (.cells #[.slice none 0 0,.slice none 0 0] 26 (0,0))):=hid (by rw [← dB];exact az mJ (p:=⟨w.heap.size,1,none⟩) (by show w.heap.size+2≠w.heap.size;omega) _)
  have MF:Hid (wa.heap[w.heap.size+1]?=some (.cells #[.int .i64 12,.int .u64 (id:Int),.int .u64 (list:Int),.string (str text),.float .f64 f,.bool flag] 57 (0,0))):=hid (by rw [← dB];exact az p_ (p:=⟨w.heap.size,1,none⟩) (by show w.heap.size+1≠w.heap.size;omega) _)
  have yp:Ty iB w.heap.size 26:=⟨_,_,gB⟩
  have TA:=(aM.refl 0 [26] iB).aB (p:=⟨w.heap.size,1,none⟩) yp (by simp) (Nat.zero_le _) (.slice bU n10 c10)
  rw [dB] at TA
  have jl:=D9.out.stay bD
  have DX:DS ⟨ls,A,c,xs,bU,c10⟩ iB:=⟨jl.l,l10,pq,jl.lc,gz,jl.za,gL⟩
  have DF:=hid (DX.bE TA (by decide) (by decide) (by decide))
  have BF:Hid (Below w.heap.size w wa):=hid (by rw [← dB];exact (BW.out.trans (bD.mono BW.out.size)).setCell (Nat.le_refl _) _)
  have QV:Hid (Ending.returned (.tuple #[.agg #[.slice A n1 c,.slice bU n10 c10],.int .i64 0])=Ending.returned (.tuple #[(⟨ls,A,c,xs,bU,c10⟩:aQ).val,.int .i64 0])):=hid (by rw [← dx,E1.out];rfl)
  have jP:=hid bD
  have YP:=hid yp
  clear bD gB mJ p_ yp TA jl DX dx l10 gz gL pq hts
  obtain⟨m0,m1,m2,m3,m4,m5⟩:=ag MF.out
  have QS:Hid ((⟨ls,A,c,xs,bU,c10⟩:aQ).st=⟨ls,T9.wo (ay ms) list true 0⟩):=hid (by rw [← TS.out];rfl)
  obtain⟨p0,p1⟩:=aa PF.out
  obtain⟨r0,r1⟩:=aa RF.out
  have jO:=af RF.out 0
  have jB:=af RF.out 1
  have KB:Hid (((wa.setCell ⟨w.heap.size+2,0,none⟩ (.slice A n1 c)).setCell ⟨w.heap.size+2,1,none⟩ (.slice bU n10 c10)).heap[w.heap.size+2]?=some (.cells #[.slice A n1 c,.slice bU n10 c10] 26 (0,0))):=hid (ah (ah RF.out 0 _) 1 _)
  have yr:Ty wa (w.heap.size+2) 26:=⟨_,_,RF.out⟩
  have TF:=hid (((aM.refl 0 [26] wa).aB (p:=⟨w.heap.size+2,0,none⟩) yr (by simp) (Nat.zero_le _) (.slice A n1 c)).aB (p:=⟨w.heap.size+2,1,none⟩) (yr.set _ _) (by simp) (Nat.zero_le _) (.slice bU n10 c10))
  obtain⟨k0,k1⟩:=aa KB.out
  clear yr
  go_wp2
  refine bodyPost_ret (v:=.tuple #[.agg #[.slice A n1 c,.slice bU n10 c10],.int .i64 0]) (by simp [results,results52,go_sem,k0,k1]) rfl ?_
  refine⟨⟨ls,A,c,xs,bU,c10⟩,0,QV.out,by rw [T9.yG (s:=⟨ls,ay ms⟩) (id:=id) (f:=f) (text:=text) (flag:=flag) HH.out],fun _=>⟨by rw [T9.yG (s:=⟨ls,ay ms⟩) (id:=id) (f:=f) (text:=text) (flag:=flag) HH.out];exact QS.out,DF.out.bE TF.out (by decide) (by decide) (by decide)⟩,?_⟩
  exact (BF.out.setCell (by show w.heap.size≤w.heap.size+2;omega) _).setCell (by show w.heap.size≤w.heap.size+2;omega) _
theorem Hz {ls:List T9.Li} {A:Option Addr} {n1 c:Nat} {ms:List aN} {A2:Option Addr} {n2 c2:Nat} {id list f:Nat} {text:List UInt8} {flag:Bool} {w:World} (hS:DS ⟨ls,A,c,ms,A2,c2⟩ w) (hB:DB ⟨ls,ay ms⟩) (e1:n1=ls.length) (e2:n2=ms.length) :
  Calls prog 52 #[.agg #[.slice A n1 c,.slice A2 n2 c2],.agg #[.int .i64 13,.int .u64 (id:Int),.int .u64 (list:Int),.string (str text),.float .f64 f,.bool flag]] w (p9 ⟨ls,ay ms⟩ ⟨13,id,list,text,f,flag⟩ w):=by
 have E1:=hid e1
 have E2:=hid e2
 have HB:=hid hB
 have N1:Hid (n1≤1000):=hid (by rw [e1];exact hB.n1)
 have N2:Hid (n2≤1000):=hid (by have:=hB.n2;rw [e2,← aK];exact this)
 obtain⟨w1,hw1⟩:=nm (w.alloc (.cells #[.slice A n1 c,.slice A2 n2 c2] 26))
 obtain⟨a1,b1,z1⟩:=aj hw1
 obtain⟨w2,hw2⟩:=nm (w1.alloc (.cells #[.int .i64 13,.int .u64 (id:Int),.int .u64 (list:Int),.string (str text),.float .f64 f,.bool flag] 57))
 obtain⟨a2,b2,z2⟩:=bn hw2
 obtain⟨w3,hw3⟩:=nm (w2.alloc (.cells #[.slice none 0 0,.slice none 0 0] 26))
 obtain⟨a3,b3,z3⟩:=aj hw3
 rw [z1] at a2
 rw [z2,z1] at a3
 have zz:w3.heap.size=w.heap.size+3:=by omega
 have PB:Hid (w3.heap[w.heap.size]?=some (.cells #[.slice A n1 c,.slice A2 n2 c2] 26 (0,0))):=hid (ae (ae a1 b2) b3)
 have MB:Hid (w3.heap[w.heap.size+1]?=some (.cells #[.int .i64 13,.int .u64 (id:Int),.int .u64 (list:Int),.string (str text),.float .f64 f,.bool flag] 57 (0,0))):=hid (ae a2 b3)
 have RB:Hid (w3.heap[w.heap.size+2]?=some (.cells #[.slice none 0 0,.slice none 0 0] 26 (0,0))):=hid a3
 have B3:Hid (Below w.heap.size w w3):=hid ((b1.trans (b2.mono (by omega))).trans (b3.mono (by omega)))
 have D3:=hid (hS.stay B3.out)
 have C1:=hid (bv (A2:=A2) (n2:=n2) (c:=c) (c2:=c2) (show LL w3 A ls from D3.out.l.old) e1 (by have:=N1.out;omega) id)
 obtain⟨p0,p1⟩:=aa PB.out
 obtain⟨m0,m1,m2,m3,m4,m5⟩:=ag MB.out
 have ZZ:=hid zz
 have rA:=z1
 have rC:w2.heap.size=w.heap.size+2:=by omega
 clear hS hB e1 e2 a1 a2 a3 b1 b2 b3 z1 z2 z3 zz
 go_enter func52,ntmps52
 go_wp2_with fail
 refine C1.out.mono ?_
 rintro e w4 ⟨rfl,hb4⟩
 clear hw1 hw2 hw3 C1 rA rC p0 p1 m0 m1 m2 m3 m4 m5
 obtain⟨i1,t1,hf1⟩:∃ i t,T9.aW ls id=(⟨i,t⟩,T9.bC ls id):=⟨(T9.aW ls id).1.id,(T9.aW ls id).1.name,by rw [← bF]⟩
 rw [hf1]
 obtain⟨w5,fV⟩:=nm (w4.alloc (.cells #[.int .u64 (i1:Int),.string (str t1)] 61))
 obtain⟨-,b5,-⟩:=aj fV
 have B5:Hid (Below w3.heap.size w3 w5):=hid (hb4.trans (b5.mono hb4.size))
 have C2:=hid (bv (A2:=A2) (n2:=n2) (c:=c) (c2:=c2) (show LL w5 A ls from (D3.out.stay B5.out).l.old) E1.out (by have:=N1.out;omega) list)
 obtain⟨p0,p1⟩:=aa (ae PB.out B5.out)
 obtain⟨m0,m1,m2,m3,m4,m5⟩:=ag (ae MB.out B5.out)
 obtain⟨p4,p5⟩:=aa (ae PB.out hb4)
 unfold a_
 dsimp only
 clear hf1 b5 hb4
 go_wp2_with fail
 refine C2.out.mono ?_
 rintro e w6 ⟨rfl,hb6⟩
 clear fV C2 p0 p1 p4 p5 m0 m1 m2 m3 m4 m5
 obtain⟨i2,t2,hf2⟩:∃ i t,T9.aW ls list=(⟨i,t⟩,T9.bC ls list):=⟨(T9.aW ls list).1.id,(T9.aW ls list).1.name,by rw [← bF]⟩
 rw [hf2]
 obtain⟨w7,hw7⟩:=nm (w6.alloc (.cells #[.int .u64 (i2:Int),.string (str t2)] 61))
 obtain⟨-,b7,-⟩:=aj hw7
 have B7:Hid (Below w3.heap.size w3 w7):=hid (B5.out.trans ((hb6.trans (b7.mono hb6.size)).mono B5.out.size))
 have C3:=hid (dG (A:=A) (n1:=n1) (c:=c) (c2:=c2) (D3.out.stay B7.out).kl E2.out (by have:=N2.out;omega) (D3.out.stay B7.out).t id)
 obtain⟨p0,p1⟩:=aa (ae PB.out B7.out)
 obtain⟨m0,m1,m2,m3,m4,m5⟩:=ag (ae MB.out B7.out)
 unfold a_
 dsimp only
 clear hf2 b7 hb6
 go_wp2_with fail
 refine C3.out.mono ?_
 rintro e w8 ⟨⟨tk,A4,c4⟩,rfl,htk,hft,gp⟩
 clear hw7 C3 p0 p1 m0 m1 m2 m3 m4 m5
 have wL:Hid (tk=(T9.dJ (ay ms) id).1):=hid htk
 rw [d_]
 obtain⟨w9,kQ⟩:=nm (w8.alloc (.cells #[.int .u64 (tk.id:Int),.int .u64 (tk.list:Int),.string (str tk.title),.bool tk.done,.float .f64 tk.rank,.float .f64 tk.est,.slice A4 tk.tags.length c4] 64))
 obtain⟨jR,b9,-⟩:=bf kQ
 have B9:Hid (Below w3.heap.size w3 w9):=hid (B7.out.trans ((gp.trans (b9.mono gp.size)).mono B7.out.size))
 have LB:=hid jR
 have ZG:Hid (w.heap.size+3≤w8.heap.size∧w8.heap.size<w9.heap.size):=hid ⟨by have:=ZZ.out;have:=B7.out.size;have:=gp.size;omega,lt_of_block jR⟩
 have FT:=hid (hft.stay b9)
 have D9:=hid (D3.out.stay B9.out)
 have P9:=hid (ae PB.out B9.out)
 have M9:=hid (ae MB.out B9.out)
 have R9:=hid (ae RB.out B9.out)
 have BW:=hid (B3.out.trans (B9.out.mono B3.out.size))
 obtain⟨p0,p1⟩:=aa P9.out
 obtain⟨m0,m1,m2,m3,m4,m5⟩:=ag M9.out
 obtain⟨r0,r1⟩:=aa R9.out
 have jO:=af R9.out 0
 have jB:=af R9.out 1
 unfold aA
 dsimp only
 clear htk hft gp jR b9 PB MB RB D3
 cases hhHH:T9.bC ls list with
 | false =>
  have HH:=hid hhHH
  clear hhHH
  have V:=hid (T9.Fa (s:=⟨ls,ay ms⟩) (id:=id) (f:=f) (text:=text) (flag:=flag) HH.out)
  have KB:Hid (((w9.setCell ⟨w.heap.size+2,0,none⟩ (.slice A n1 c)).setCell ⟨w.heap.size+2,1,none⟩ (.slice A2 n2 c2)).heap[w.heap.size+2]?=some (.cells #[.slice A n1 c,.slice A2 n2 c2] 26 (0,0))):=hid (ah (ah R9.out 0 _) 1 _)
  obtain⟨k0,k1⟩:=aa KB.out
  go_wp2
  refine bodyPost_ret (v:=.tuple #[.agg #[.slice A n1 c,.slice A2 n2 c2],.int .i64 (T9.eD ⟨ls,ay ms⟩ ⟨13,id,list,text,f,flag⟩).1]) (by rw [V.out];simp [results,results52,go_sem,k0,k1]) rfl ?_
  refine⟨⟨ls,A,c,ms,A2,c2⟩,_,by rw [E1.out,E2.out];rfl,rfl,(fun z=>by rw [V.out] at z;cases z),?_⟩
  exact (BW.out.setCell (by show w.heap.size≤w.heap.size+2;omega) _).setCell (by show w.heap.size≤w.heap.size+2;omega) _
 | true =>
  have HH:=hid hhHH
  clear hhHH
  have C4:=hid (BM (n1:=n1) (n2:=n2) (c1:=c) (c2:=c2) (show LL w9 A ls from D9.out.l.old) D9.out.kl E1.out E2.out N1.out N2.out (fun t ht=>Nat.le_trans (HB.out.t t.t (List.mem_map.2 ⟨t,ht,rfl⟩)) (by decide)) list (by rw [HB.out.c];exact HB.out.r))
  rw [HB.out.c] at C4
  go_wp2_with fail
  refine C4.out.mono ?_
  rintro e iB ⟨⟨ls9,A9,c9,O9,B10,d9⟩,rfl,hst,l9,k9,t9,lc9,kc9,za9,zk9,bD⟩
  clear C4 p0 p1 m0 m1 m2 m3 m4 m5 r0 r1 jO jB kQ
  unfold aQ.val
  dsimp only
  have RF:=hid (ae R9.out bD)
  have PF:=hid (ae P9.out bD)
  have DF:Hid (DS ⟨ls9,A9,c9,O9,B10,d9⟩ iB):=hid ⟨l9,k9,t9,lc9,kc9,za9,zk9⟩
  have BF:=hid (BW.out.trans (bD.mono BW.out.size))
  have QS:Hid ((⟨ls9,A9,c9,O9,B10,d9⟩:aQ).st=⟨ls,(ay ms).map (T9.oP (T9.lw (ay ms) list))⟩):=hid hst
  have QV:Hid (Ending.returned (.tuple #[.agg #[.slice A9 ls9.length c9,.slice B10 O9.length d9],.int .i64 0])=Ending.returned (.tuple #[(⟨ls9,A9,c9,O9,B10,d9⟩:aQ).val,.int .i64 0])):=hid rfl
  clear hst l9 k9 t9 lc9 kc9 za9 zk9 bD
  obtain⟨p0,p1⟩:=aa PF.out
  obtain⟨r0,r1⟩:=aa RF.out
  have jO:=af RF.out 0
  have jB:=af RF.out 1
  have KB:Hid (((iB.setCell ⟨w.heap.size+2,0,none⟩ (.slice A9 ls9.length c9)).setCell ⟨w.heap.size+2,1,none⟩ (.slice B10 O9.length d9)).heap[w.heap.size+2]?=some (.cells #[.slice A9 ls9.length c9,.slice B10 O9.length d9] 26 (0,0))):=hid (ah (ah RF.out 0 _) 1 _)
  have yr:Ty iB (w.heap.size+2) 26:=⟨_,_,RF.out⟩
  have TF:=hid (((aM.refl 0 [26] iB).aB (p:=⟨w.heap.size+2,0,none⟩) yr (by simp) (Nat.zero_le _) (.slice A9 ls9.length c9)).aB (p:=⟨w.heap.size+2,1,none⟩) (yr.set _ _) (by simp) (Nat.zero_le _) (.slice B10 O9.length d9))
  obtain⟨k0,k1⟩:=aa KB.out
  clear yr
  go_wp2
  refine bodyPost_ret (v:=.tuple #[.agg #[.slice A9 ls9.length c9,.slice B10 O9.length d9],.int .i64 0]) (by simp [results,results52,go_sem,k0,k1]) rfl ?_
  refine⟨⟨ls9,A9,c9,O9,B10,d9⟩,0,QV.out,by rw [T9.yH (s:=⟨ls,ay ms⟩) (id:=id) (f:=f) (text:=text) (flag:=flag) HH.out],fun _=>⟨by rw [T9.yH (s:=⟨ls,ay ms⟩) (id:=id) (f:=f) (text:=text) (flag:=flag) HH.out];exact QS.out,DF.out.bE TF.out (by decide) (by decide) (by decide)⟩,?_⟩
  exact (BF.out.setCell (by show w.heap.size≤w.heap.size+2;omega) _).setCell (by show w.heap.size≤w.heap.size+2;omega) _
end
end Go.Proofs.YtcmiompdjjiojaaGreat
