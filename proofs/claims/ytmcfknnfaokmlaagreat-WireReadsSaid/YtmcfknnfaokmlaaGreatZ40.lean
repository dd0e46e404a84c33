import Derived.Test.YtmcfknnfaokmlaaGreatZ39
import Derived.Test.YtmcfknnfaokmlaaGreatZ27
namespace Go.Proofs.YtmcfknnfaokmlaaGreat
set_option maxHeartbeats 16000000
open Go.Lib Go.Proofs.Tryz
set_option linter.unusedSimpArgs false
set_option maxRecDepth 100000
section
section
open Go.RowKit Go.Lib
theorem T9.oQ (m:T9.Mu):0<(T9.dG m).length:=by
 unfold T9.dG
 simp only [List.length_append,Cd.aC]
 omega
theorem T9.uP (x:It):0<(T9.bZ x).length:=by
 unfold T9.bZ St.wb
 have:=T9.oQ x.m
 simp only [List.length_append]
 omega
theorem T9.lY (n:Nat):0<(Cd.num n).length:=by
 unfold Cd.num
 split <;> simp
theorem T9.yH (s:T9.St):0<(T9.oP s).length:=by
 unfold T9.oP
 have:=T9.lY s.lists.length
 simp only [List.length_append]
 omega
theorem T9.nT {s:T9.St} (h:T9.aH s=0):s.pF:=by
 obtain⟨h1,h2,h3,h4⟩:=T9.nU h
 refine⟨by omega,by omega,fun l hl=>by have:=h3 l hl;omega,fun t ht=>?_,fun t ht=>?_,fun t ht x hx=>?_⟩
 ·have:=(T9.fV (h4 t ht)).1;omega
 ·have:=(T9.fV (h4 t ht)).2.2.2.1;omega
 ·have:=T9.yt (T9.lh (T9.fV (h4 t ht)).2.2.2.2 x hx);omega
theorem Ap {x:It} {w:World} (hx:x.far) (hc:T9.lu x=true) :
  Calls prog 19 #[x.val] w (dW (T9.bZ x) w):=by
 obtain⟨h1,h2,h3⟩:=hx
 have hce:=(T9.iY.1 hc).2.2
 have hk:=(T9.gK hce).1
 have MP:∀ u,Hid (Calls prog 56 #[x.m.val] u (dW (T9.dG x.m) u)):=fun u=>hid (CY h3 ⟨by omega,hk.2⟩ (by have:=T9.df hce;omega))
 have LM:Hid ((T9.dG x.m).length≤300):=hid (T9.ou (by have:=T9.df hce;omega))
 have H1:=hid h1
 have H2:=hid h2
 obtain⟨w0,hw0⟩:∃ u,w.alloc (.cells #[.int .u64 (x.who:Int),.int .u64 (x.id:Int),.int .i64 x.m.kind,.int .u64 (x.m.id:Int),.int .u64 (x.m.list:Int),.string (str x.m.text),.float .f64 x.m.f,.bool x.m.flag] 57)=u:=⟨_,rfl⟩
 obtain⟨Dw,b0,z0⟩:=bi hw0
 obtain⟨w1,hw1⟩:∃ u,w0.alloc (.cells #[.slice none 0 0] 51)=u:=⟨_,rfl⟩
 have pw:WS w.heap.size w1 (w.heap.size+1) []:=by
  refine⟨Nat.le_succ _,none,0,?_,World.ownsRow_nil _ _ _ _⟩
  rw [← hw1,← z0]
  exact heap_alloc_new w0 _
 have b1:Below w.heap.size w w1:=by rw [← hw1];exact b0.alloc (by omega) _
 have m_:=aW Dw (.cells #[.slice none 0 0] 51)
 rw [hw1] at m_
 have z1:w1.heap.size=w.heap.size+2:=by rw [← hw1,World.size_alloc,z0]
 have B1:=hid b1
 have Z1:=hid z1
 have PB:=hid m_
 have W0:=hid pw
 obtain⟨p0,p1,p2,p3,p4,p5,p6,p7⟩:=ay m_
 unfold It.val
 unfold T9.Mu.val at MP
 clear h1 h2 h3 hc hce hk Dw b0 pw b1 m_ z1
 go_enter func19,ntmps19
 go_wp2_with fail
 refine (Ee x.who x.id rfl W0.out H1.out H2.out (by simp)).mono ?_
 rintro e w2 ⟨rfl,hw,ht2⟩
 obtain⟨a1,ma⟩:∃ a,a=([]:List UInt8)++(Cd.num x.who++Cd.num x.id):=⟨_,rfl⟩
 have hw:WS w.heap.size w2 (w.heap.size+1) ([]++(Cd.num x.who++Cd.num x.id)):=hw
 rw [← ma] at hw
 have Wa1:=hid hw
 have BC:=hid ma
 have na1:a1.length≤18:=by
  rw [ma]
  have:=ax x.who
  have:=ax x.id
  simp only [List.length_append,List.length_nil]
  omega
 have xk:=hid ht2
 clear hw ma ht2 p0 p1 p2 p3 p4 p5 p6 p7
 obtain⟨p0,p1,p2,p3,p4,p5,p6,p7⟩:=ay (xk.out.blk PB.out (by decide))
 go_wp2_with fail
 refine (MP w2).out.mono ?_
 rintro e w3 ⟨A9,n9,c9,rfl,tK,qR⟩
 obtain⟨g,rfl,hg1,hg2,hg3,hg4,rfl⟩:=WS.mO Wa1.out qR tK (T9.oQ _)
 have yD:=hid (xk.out.trans (aG.of_below qR (by have:=xk.out.below.size;have:=Z1.out;omega) _))
 have G3:=hid hg3
 have G4:=hid hg4
 clear tK qR hg3 hg4
 go_wp2_with fail
 refine (Ed G3.out hg1 hg2 G4.out rfl (by have:=LM.out;omega) (by have:=LM.out;omega)).mono ?_
 rintro e w4 ⟨rfl,hw,ht2⟩
 have EB:a1++St.wb (T9.dG x.m)=T9.bZ x:=by
  rw [BC.out]
  unfold T9.bZ
  simp
 rw [EB] at hw
 have LL:(T9.bZ x).length≤400:=by
  rw [← EB,List.length_append]
  have:=T9.fI (b:=T9.dG x.m) LM.out
  omega
 have BY:=hid (ku hw (by omega))
 have zH:=hid (yD.out.trans ht2)
 clear hw ht2 EB
 go_wp2_with fail
 refine BY.out.mono ?_
 rintro e w6 ⟨A9,n9,c9,rfl,ho,hb⟩
 have HO9:=hid ho
 have HB9:=hid hb
 clear ho hb
 go_wp2
 go_ret
 have BF:=B1.out.trans zH.out.below
 exact⟨A9,n9,c9,rfl,gp HO9.out BF.size,BF.trans (HB9.out.mono BF.size)⟩
def fU (m:dR) (w:World) (e:Ending) (w':World):Prop:=gQ w.heap.size (T9.bA m.mg) (if T9.okW m.mg=true then Fr.frame (T9.iE m.mg) else []) w e w'
theorem uj {m:dR} {w:World} (h:WM m w) (ho:m.mg.ok) (ht:∀ x∈m.is,x.m.text.length≤200) (hs:m.s.st.short) (hl:m.is.length≤maxLen) (ha:m.las.length≤maxLen) :
  Calls prog 7 #[m.val] w (fU m w):=by
 obtain⟨w1,hw1⟩:∃ u,w.alloc (.cells #[.int .i64 m.kind,.int .u64 (m.line:Int),.int .u64 (m.aK:Int),.int .u64 (m.bE:Int),.int .u64 (m.bI:Int),.slice m.A m.is.length m.c,.slice m.A1 m.las.length m.c1,.slice m.s.A m.s.ls.length m.s.c,.slice m.s.A2 m.s.ms.length m.s.c2] 30)=u:=⟨_,rfl⟩
 obtain⟨lb,b1,_⟩:=bD hw1
 have B1:=hid b1
 have LB:=hid lb
 have H1:=hid (h.stay b1)
 obtain⟨l0,l1,l2,l3,l4,l5,l6,l7,l8⟩:=ag lb
 have CK:=hid (mU (w:=w1) H1.out ho ht hs hl ha)
 have HO:=hid ho
 unfold dR.val at CK ⊢
 by_cases hok:T9.okW m.mg=true
 case neg =>
  have V:T9.bA m.mg=150:=by unfold T9.bA;rw [if_neg hok]
  unfold fU
  rw [if_neg hok,V]
  rw [V] at CK
  clear V hok h ho ht hs hl ha lb b1
  go_enter func7,ntmps7
  go_wp2_with fail
  refine CK.out.mono ?_
  rintro e w2 ⟨rfl,c2⟩
  have C2:=hid (B1.out.trans (c2.mono B1.out.size))
  clear c2
  go_wp2
  go_ret2
  exact gQ.bad C2.out
 have V:T9.bA m.mg=0:=by unfold T9.bA;rw [if_pos hok]
 obtain⟨_,_,_,k1,k2,k3,_,k4,k5⟩:=T9.jZ hok
 have LE:=hid (T9.yG hok)
 have HI:=hid k2
 have HR:=hid k4
 have nI:m.is.length≤8:=k1
 have nA:m.las.length≤2000:=k3
 have hk:1≤m.kind∧m.kind≤8:=k5
 have PI:∀ x∈m.is,∀ u,Hid (Calls prog 19 #[x.val] u (dW (T9.bZ x) u)):=fun x hx u=>hid (Ap (ho.i x hx) (k2 x hx))
 have KP:=hid PI
 have LI:∀ x∈m.is,(T9.bZ x).length≤330:=fun x hx=>T9.sN (ht x hx)
 have HLI:=hid LI
 have FI:Hid (∀ k,((m.is.take k).flatMap fun x=>St.wb (T9.bZ x)).length≤339 * 8):=hid fun k=>by
  have q:=T9.cO (f:=fun x=>St.wb (T9.bZ x)) (c:=339) (l:=m.is.take k) fun x hx=>T9.fI (LI x (List.mem_of_mem_take hx))
  rw [List.length_take] at q
  omega
 have FA:Hid (∀ k,((m.las.take k).flatMap T9.dw).length≤18 * 2000):=hid fun k=>by
  have q:=T9.cO (f:=T9.dw) (c:=18) (l:=m.las.take k) fun x _=>by
   unfold T9.dw
   have:=ax x.who
   have:=ax x.id
   rw [List.length_append]
   omega
  rw [List.length_take] at q
  omega
 have LS:Hid ((T9.oP m.s.st).length≤16000):=hid (T9.jb k4)
 have SP:∀ u,Below w1.heap.size w1 u→Hid (Calls prog 20 #[.agg #[.slice m.s.A m.s.ls.length m.s.c,.slice m.s.A2 m.s.ms.length m.s.c2]] u (dW (T9.oP m.s.st) u)):=fun u hu=>hid (put9_c (H1.out.s.stay hu).l (H1.out.s.stay hu).k rfl rfl (T9.nT k4) ho.s)
 have KS:=hid SP
 unfold fU
 rw [if_pos hok,V]
 rw [V] at CK
 obtain⟨kn,hkn⟩:∃ kn:Nat,m.kind=(kn:Int):=⟨m.kind.toNat,by omega⟩
 have EN:Hid (T9.iE m.mg=Cd.num kn++(Cd.num m.line++(Cd.num m.aK++(Cd.num m.bE++(Cd.num m.bI++(Cd.num m.is.length++(m.is.flatMap (fun x=>St.wb (T9.bZ x))++(Cd.num m.las.length++(m.las.flatMap T9.dw++St.wb (T9.oP m.s.st)))))))))):=hid (by
  have e:m.mg.kind.toNat=kn:=by show m.kind.toNat=kn;omega
  unfold T9.iE
  rw [e]
  rfl)
 have hwrap:IntKind.u64.wrap (kn:Int)=(kn:Int):=by rw [Fl.wrap_u64];omega
 have kl:kn<18446744073709551616:=by omega
 have hwi:IntKind.u64.wrap (m.is.length:Int)=(m.is.length:Int):=by rw [Fl.wrap_u64];omega
 have hwa:IntKind.u64.wrap (m.las.length:Int)=(m.las.length:Int):=by rw [Fl.wrap_u64];omega
 have ol:m.line<18446744073709551616:=ho.l
 have ob:m.aK<18446744073709551616:=ho.b
 have of:m.bE<18446744073709551616:=ho.f
 have ot:m.bI<18446744073709551616:=ho.t
 have OL:=hid ol
 have OB:=hid ob
 have OF:=hid of
 have OT:=hid ot
 have KLT:=hid kl
 rw [hkn] at l0 CK LB hw1 ⊢
 clear V hok h ho ht hs hl ha lb b1 k1 k2 k3 k4 k5 PI LI SP hk hkn ol ob of ot kl
 go_enter func7,ntmps7
 go_wp2_with fail
 refine CK.out.mono ?_
 rintro e w2 ⟨rfl,c2⟩
 have C2:=hid c2
 obtain⟨w3,hw3⟩:∃ u,w2.alloc (.cells #[.slice none 0 0] 51)=u:=⟨_,rfl⟩
 have pw:WS w2.heap.size w3 w2.heap.size []:=by
  refine⟨Nat.le_refl _,none,0,?_,World.ownsRow_nil _ _ _ _⟩
  rw [← hw3]
  exact heap_alloc_new w2 _
 have c3:Below w1.heap.size w1 w3:=by rw [← hw3];exact c2.alloc c2.size _
 have z3:w3.heap.size=w2.heap.size+1:=by rw [← hw3];simp
 have Z3:=hid z3
 have C3:=hid c3
 have W0:=hid pw
 obtain⟨B,HB⟩:∃ b,b=w2.heap.size:=⟨_,rfl⟩
 have BB:Hid (w1.heap.size≤B∧B=w2.heap.size):=hid ⟨by have:=c2.size;omega,HB⟩
 rw [← HB] at W0
 have PB:Hid (w3.heap[w.heap.size]?=some (.cells #[.int .i64 (kn:Int),.int .u64 (m.line:Int),.int .u64 (m.aK:Int),.int .u64 (m.bE:Int),.int .u64 (m.bI:Int),.slice m.A m.is.length m.c,.slice m.A1 m.las.length m.c1,.slice m.s.A m.s.ls.length m.s.c,.slice m.s.A2 m.s.ms.length m.s.c2] 30 (0,0))):=hid (ah LB.out c3)
 have yD:=hid (aG.refl B [51,5] w3)
 clear l0 l1 l2 l3 l4 l5 l6 l7 l8
 obtain⟨l0,l1,l2,l3,l4,l5,l6,l7,l8⟩:=ag (ah LB.out c2)
 obtain⟨m0,m1,m2,m3,m4,m5,m6,m7,m8⟩:=ag PB.out
 clear c2 c3 z3 pw HB
 go_wp2_with fail
 rw [← BB.out.2]
 refine (wN5_c kn m.line m.aK m.bE m.bI rfl W0.out KLT.out OL.out OB.out OF.out OT.out (by simp)).mono ?_
 rintro e w4 ⟨rfl,hw,ht2⟩
 clear l0 l1 l2 l3 l4 l5 l6 l7 l8 m0 m1 m2 m3 m4 m5 m6 m7 m8
 obtain⟨a1,ma⟩:∃ a,a=([]:List UInt8)++(Cd.num kn++(Cd.num m.line++(Cd.num m.aK++(Cd.num m.bE++Cd.num m.bI)))):=⟨_,rfl⟩
 have hw:WS B w4 B (([]:List UInt8)++(Cd.num kn++(Cd.num m.line++(Cd.num m.aK++(Cd.num m.bE++Cd.num m.bI))))):=hw
 rw [← ma] at hw
 have Wa1:=hid hw
 have BC:=hid ma
 have na1:a1.length≤45:=by
  rw [ma]
  simp only [List.length_append]
  have:=ax kn;have:=ax m.line;have:=ax m.aK;have:=ax m.bE;have:=ax m.bI;simp only [List.length_nil]
  omega
 have zH:=hid (yD.out.trans ht2)
 clear hw ma ht2
 have pb:=zH.out.blk PB.out (by decide)
 obtain⟨l0,l1,l2,l3,l4,l5,l6,l7,l8⟩:=ag pb
 clear pb
 go_wp2_with fail
 refine (sD m.is.length rfl Wa1.out rfl (by omega) (by omega)).mono ?_
 rintro e w5 ⟨rfl,hw,ht2⟩
 clear l0 l1 l2 l3 l4 l5 l6 l7 l8
 obtain⟨a2,Aq⟩:∃ a,a=a1++Cd.num m.is.length:=⟨_,rfl⟩
 have hw:WS B w5 B (a1++Cd.num m.is.length):=hw
 rw [← Aq] at hw
 have Wa2:=hid hw
 have Qa2:=hid Aq
 have na2:a2.length≤54:=by
  rw [Aq]
  simp only [List.length_append]
  have:=ax m.is.length
  omega
 have A_:=hid (zH.out.trans ht2)
 clear hw Aq ht2
 have pb:=A_.out.blk PB.out (by decide)
 obtain⟨l0,l1,l2,l3,l4,l5,l6,l7,l8⟩:=ag pb
 clear pb
 go_wp2_with fail
 go_loopw [41] (fun s41 wr=>∃ k:Nat,s41=.int .i64 k∧k≤m.is.length∧Aside (WS B wr B (a2++(m.is.take k).flatMap fun x=>St.wb (T9.bZ x)))∧Aside (aG B [51,5] w3 wr)) (fun s41 _=>m.is.length - (intOf s41).toNat)
 case atStart=>exact⟨0,rfl,Nat.zero_le _,(by simpa using Wa2.out:WS B w5 B (a2++(m.is.take 0).flatMap fun x=>St.wb (T9.bZ x))),A_.out⟩
 case round =>
  obtain⟨wo,hwo⟩:∃ u,u=wr:=⟨_,rfl⟩
  subst hwo
  obtain⟨k,rfl,hk,hW,hT⟩:=hrel
  have Two:=hid hT.out
  have WW:=hid hW.out
  clear hT hW
  by_cases hlt:k<m.is.length
  ·have hltz:(k:Int)<(m.is.length:Int):=by omega
   have BW:Hid (Below w1.heap.size w1 wo):=hid (C3.out.trans (Two.out.below.mono BB.out.1))
   obtain⟨ad,x,hA,hx,r0,r1,r2,r3,r4,r5,r6,r7⟩:=(H1.out.i.stay BW.out).at_ (k:=k) hlt
   rw [hA] at l5 ⊢
   have X:=hid hx
   have lx:=HLI.out x (List.mem_of_getElem? hx)
   have PX:=(KP.out x (List.mem_of_getElem? hx))
   have fk:=FI.out k
   obtain⟨wq,hwq⟩:∃ u,wo.alloc (.cells #[.int .u64 (x.who:Int),.int .u64 (x.id:Int),.int .i64 x.m.kind,.int .u64 (x.m.id:Int),.int .u64 (x.m.list:Int),.string (str x.m.text),.float .f64 x.m.f,.bool x.m.flag] 57)=u:=⟨_,rfl⟩
   obtain⟨lq,bq,zq⟩:=bi hwq
   obtain⟨q0,q1,q2,q3,q4,q5,q6,q7⟩:=ay lq
   have Bo:Hid (B≤wo.heap.size):=hid (by have:=Two.out.below.size;have:=Z3.out;have:=BB.out.2;omega)
   have Ba:Hid (aG B [51,5] w3 wq):=hid (by rw [← hwq];exact Two.out.alloc Bo.out _)
   obtain⟨e0,nS⟩:∃ a,a=a2++(m.is.take k).flatMap fun x=>St.wb (T9.bZ x):=⟨_,rfl⟩
   have ne0:e0.length≤3000:=by rw [nS,List.length_append];omega
   have WQ:Hid (WS B wq B e0):=hid (by rw [← hwq,nS];exact WW.out.alloc _)
   have Qe0:=hid nS
   have Bq:Hid (B≤wq.heap.size):=hid (by have:=Bo.out;omega)
   have PQ:=PX wq
   unfold It.val at PQ
   clear hx lq bq zq nS fk PX
   go_wp2_with fail
   refine PQ.out.mono ?_
   rintro e w6 ⟨A9,n9,c9,rfl,tK,qR⟩
   obtain⟨g,rfl,hg1,hg2,hg3,hg4,rfl⟩:=WS.mO WQ.out qR tK (T9.uP _)
   have BK:=hid (Ba.out.trans (aG.of_below qR Bq.out _))
   have G3:=hid hg3
   have G4:=hid hg4
   clear tK qR hg3 hg4
   go_wp2_with fail
   refine (Ed G3.out hg1 hg2 G4.out rfl (by omega) (by omega)).mono ?_
   rintro e w7 ⟨rfl,hw,ht2⟩
   have BL:=hid (BK.out.trans ht2)
   have WW7:=hid hw
   clear hw ht2
   go_wp2
   go_roundw
   case rel =>
    refine⟨k+1,by go_num,by omega,?_,BL.out⟩
    have e:e0++St.wb (T9.bZ x)=a2++(m.is.take (k+1)).flatMap fun x=>St.wb (T9.bZ x):=by
     rw [Qe0.out,aF X.out,List.flatMap_append]
     simp
    rw [← e]
    exact WW7.out
   case measure=>simp [intOf];omega
  ·obtain rfl:k=m.is.length:=by omega
   have hltz:¬ ((m.is.length:Int)<(m.is.length:Int)):=by omega
   have fk:=FI.out m.is.length
   rw [List.take_length] at fk
   obtain⟨a3,qa3⟩:∃ a,a=a2++m.is.flatMap fun x=>St.wb (T9.bZ x):=⟨_,rfl⟩
   have Qa3:=hid qa3
   have na3:a3.length≤3000:=by rw [qa3,List.length_append];omega
   have Wa3:Hid (WS B wo B a3):=hid (by have q:=WW.out;rw [List.take_length] at q;rw [qa3];exact q)
   have pb:=Two.out.blk PB.out (by decide)
   clear qa3 fk l0 l1 l2 l3 l4 l5 l6 l7 l8
   obtain⟨l0,l1,l2,l3,l4,l5,l6,l7,l8⟩:=ag pb
   clear pb
   go_wp2_with fail
   refine (sD m.las.length rfl Wa3.out rfl (by omega) (by omega)).mono ?_
   rintro e w8 ⟨rfl,hw,ht2⟩
   clear l0 l1 l2 l3 l4 l5 l6 l7 l8
   obtain⟨a4,za⟩:∃ a,a=a3++Cd.num m.las.length:=⟨_,rfl⟩
   have hw:WS B w8 B (a3++Cd.num m.las.length):=hw
   rw [← za] at hw
   have Wa4:=hid hw
   have Qa4:=hid za
   have na4:a4.length≤3009:=by
    rw [za]
    simp only [List.length_append]
    have:=ax m.las.length
    omega
   have BM:=hid (Two.out.trans ht2)
   clear hw za ht2
   have pb:=BM.out.blk PB.out (by decide)
   obtain⟨l0,l1,l2,l3,l4,l5,l6,l7,l8⟩:=ag pb
   clear pb
   go_wp2_with fail
   go_loopw [60] (fun s60 wr=>∃ k:Nat,s60=.int .i64 k∧k≤m.las.length∧Aside (WS B wr B (a4++(m.las.take k).flatMap T9.dw))∧Aside (aG B [51,5] w3 wr)) (fun s60 _=>m.las.length - (intOf s60).toNat)
   case atStart=>exact⟨0,rfl,Nat.zero_le _,(by simpa using Wa4.out:WS B w8 B (a4++(m.las.take 0).flatMap T9.dw)),BM.out⟩
   case round =>
    obtain⟨wp,hwp⟩:∃ u,u=wr:=⟨_,rfl⟩
    subst hwp
    obtain⟨k,rfl,hk,hW,hT⟩:=hrel
    have zI:=hid hT.out
    have WP:=hid hW.out
    clear hT hW
    by_cases hlt2:k<m.las.length
    ·have eD:(k:Int)<(m.las.length:Int):=by omega
     have BW:Hid (Below w1.heap.size w1 wp):=hid (C3.out.trans (zI.out.below.mono BB.out.1))
     obtain⟨ad,x,hA,hx,r0,r1⟩:=(H1.out.a.stay BW.out).at_ (k:=k) hlt2
     rw [hA] at l6 ⊢
     have X:=hid hx
     obtain⟨xo1,xo2⟩:=HO.out.a x (List.mem_of_getElem? hx)
     have XO1:=hid xo1
     have XO2:=hid xo2
     have fk:=FA.out k
     obtain⟨wq,hwq⟩:∃ u,wp.alloc (.cells #[.int .u64 (x.who:Int),.int .u64 (x.id:Int)] 61)=u:=⟨_,rfl⟩
     obtain⟨lq,bq,zq⟩:=aM hwq
     obtain⟨q0,q1⟩:=ai lq
     have Bo:Hid (B≤wp.heap.size):=hid (by have:=zI.out.below.size;have:=Z3.out;have:=BB.out.2;omega)
     have Ba:Hid (aG B [51,5] w3 wq):=hid (by rw [← hwq];exact zI.out.alloc Bo.out _)
     obtain⟨e0,nS⟩:∃ a,a=a4++(m.las.take k).flatMap T9.dw:=⟨_,rfl⟩
     have ne0:e0.length≤40000:=by rw [nS,List.length_append];omega
     have WQ:Hid (WS B wq B e0):=hid (by rw [← hwq,nS];exact WP.out.alloc _)
     have Qe0:=hid nS
     clear hx lq bq zq nS fk xo1 xo2
     go_wp2_with fail
     refine (Ee x.who x.id rfl WQ.out XO1.out XO2.out (by omega)).mono ?_
     rintro e w9 ⟨rfl,hw,ht2⟩
     have Tw9:=hid (Ba.out.trans ht2)
     have WW9:=hid hw
     clear hw ht2
     go_wp2
     go_roundw
     case rel =>
      refine⟨k+1,by go_num,by omega,?_,Tw9.out⟩
      have e:e0++(Cd.num x.who++Cd.num x.id)=a4++(m.las.take (k+1)).flatMap T9.dw:=by
       rw [Qe0.out,aF X.out,List.flatMap_append]
       simp [T9.dw]
      rw [← e]
      exact WW9.out
     case measure=>simp [intOf];omega
    ·obtain rfl:k=m.las.length:=by omega
     have eD:¬ ((m.las.length:Int)<(m.las.length:Int)):=by omega
     have fk:=FA.out m.las.length
     rw [List.take_length] at fk
     obtain⟨a5,qa5⟩:∃ a,a=a4++m.las.flatMap T9.dw:=⟨_,rfl⟩
     have Qa5:=hid qa5
     have na5:a5.length≤40000:=by rw [qa5,List.length_append];omega
     have Wa5:Hid (WS B wp B a5):=hid (by have q:=WP.out;rw [List.take_length] at q;rw [qa5];exact q)
     have pb:=zI.out.blk PB.out (by decide)
     have BW:Hid (Below w1.heap.size w1 wp):=hid (C3.out.trans (zI.out.below.mono BB.out.1))
     have Bo:Hid (B≤wp.heap.size):=hid (by have:=zI.out.below.size;have:=Z3.out;have:=BB.out.2;omega)
     clear qa5 fk l0 l1 l2 l3 l4 l5 l6 l7 l8
     obtain⟨l0,l1,l2,l3,l4,l5,l6,l7,l8⟩:=ag pb
     clear pb
     go_wp2_with fail
     refine (KS.out wp BW.out).out.mono ?_
     rintro e lv ⟨A9,n9,c9,rfl,tK,qR⟩
     obtain⟨g,rfl,hg1,hg2,hg3,hg4,rfl⟩:=WS.mO Wa5.out qR tK (T9.yH _)
     have sJ:=hid (zI.out.trans (aG.of_below qR Bo.out _))
     have G3:=hid hg3
     have G4:=hid hg4
     clear tK qR hg3 hg4
     go_wp2_with fail
     refine (Ed G3.out hg1 hg2 G4.out rfl (by have:=LS.out;omega) (by have:=LS.out;omega)).mono ?_
     rintro e mI ⟨rfl,hw,ht2⟩
     have EB:a5++St.wb (T9.oP m.s.st)=T9.iE m.mg:=by
      rw [Qa5.out,Qa4.out,Qa3.out,Qa2.out,BC.out,EN.out]
      simp
     rw [EB] at hw
     have BY:=hid (ku hw (by have:=LE.out;omega))
     have qK:=hid (sJ.out.trans ht2)
     clear hw ht2 EB
     go_wp2_with fail
     refine BY.out.mono ?_
     rintro e mK ⟨A8,n8,c8,rfl,vz,hb8⟩
     obtain⟨rfl,_⟩:=aA vz
     have FP:=hid (fput_ok (c:=c8) (w:=mK) (aD (B:=0) vz) rfl LE.out)
     have BF:Hid (Below w.heap.size w mK):=hid ((B1.out.trans (((C3.out.trans (qK.out.below.mono BB.out.1))).mono B1.out.size)).trans (hb8.mono (by
      have q1:=B1.out.size
      have q2:=C3.out.size
      have q3:=qK.out.below.size
      omega)))
     clear vz hb8
     go_wp2_with fail
     refine FP.out.mono ?_
     rintro e n_ ⟨A7,n7,c7,rfl,hn7,hc7,rV,Bc⟩
     have R7:=hid (And.intro hn7 (And.intro hc7 (And.intro (gp rV BF.out.size) (BF.out.trans (Bc.mono BF.out.size)))))
     clear hn7 hc7 rV Bc
     go_wp2
     go_ret2
     exact⟨A7,n7,c7,rfl,R7.out.1,R7.out.2.1,R7.out.2.2.1,R7.out.2.2.2⟩
end
end
end Go.Proofs.YtmcfknnfaokmlaaGreat
