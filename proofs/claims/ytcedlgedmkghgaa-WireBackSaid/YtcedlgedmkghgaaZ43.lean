import Derived.Test.YtcedlgedmkghgaaZ42
import Derived.Test.YtcedlgedmkghgaaZ29
namespace Go.Proofs.Ytcedlgedmkghgaa
set_option maxHeartbeats 16000000
open Go.Lib
set_option linter.unusedSimpArgs false
set_option maxRecDepth 100000
section
section
open Go.RowKit Go.Lib
theorem T9.oJ (m:T9.Mu):0<(T9.dh m).length:=by
 unfold T9.dh
 simp only [List.length_append,Cd.aI]
 omega
theorem T9.vJ (x:It):0<(T9.bB x).length:=by
 unfold T9.bB St.wb
 have:=T9.oJ x.m
 simp only [List.length_append]
 omega
theorem T9.iZ (n:Nat):0<(Cd.num n).length:=by
 unfold Cd.num
 split <;> simp
theorem T9.bts_pos (s:T9.St):0<(T9.gB s).length:=by
 unfold T9.gB
 have:=T9.iZ s.lists.length
 simp only [List.length_append]
 omega
theorem T9.qg {s:T9.St} (h:T9.aN s=0):s.mQ:=by
 obtain⟨h1,h2,h3,h4⟩:=T9.gJ h
 refine⟨by omega,by omega,fun l hl=>by have:=h3 l hl;omega,fun t ht=>?_,fun t ht=>?_,fun t ht x hx=>?_⟩
 ·have:=(T9.bQ (h4 t ht)).1;omega
 ·have:=(T9.bQ (h4 t ht)).2.2.2.1;omega
 ·have:=T9.ow (T9.gu (T9.bQ (h4 t ht)).2.2.2.2 x hx);omega
theorem uJ {x:It} {w:World} (hx:x.far) (hc:T9.mU x=true) :
  Calls Try.prog 14 #[x.val] w (fo (T9.bB x) w):=by
 obtain⟨h1,h2,h3⟩:=hx
 have hce:=(T9.gp.1 hc).2.2
 have hk:=(T9.fV hce).1
 have MP:∀ u,Hid (Calls Try.prog 34 #[x.m.val] u (fo (T9.dh x.m) u)):=fun u=>hid (wE h3 ⟨by omega,hk.2⟩ (by have:=T9.bH hce;omega))
 have LM:Hid ((T9.dh x.m).length≤300):=hid (T9.j4 (by have:=T9.bH hce;omega))
 have H1:=hid h1
 have H2:=hid h2
 obtain⟨w0,hw0⟩:∃ u,w.alloc (.cells #[.int .u64 (x.who:Int),.int .u64 (x.id:Int),.int .i64 x.m.kind,.int .u64 (x.m.id:Int),.int .u64 (x.m.list:Int),.string (str x.m.text),.float .f64 x.m.f,.bool x.m.flag] 51)=u:=⟨_,rfl⟩
 obtain⟨pb0,b0,z0⟩:=bR hw0
 obtain⟨w1,hw1⟩:∃ u,w0.alloc (.cells #[.slice none 0 0] 45)=u:=⟨_,rfl⟩
 have pw:WS w.heap.size w1 (w.heap.size+1) []:=by
  refine⟨Nat.le_succ _,none,0,?_,World.ownsRow_nil _ _ _ _⟩
  rw [← hw1,← z0]
  exact heap_alloc_new w0 _
 have b1:Below w.heap.size w w1:=by rw [← hw1];exact b0.alloc (by omega) _
 have uH:=aT pb0 (.cells #[.slice none 0 0] 45)
 rw [hw1] at uH
 have z1:w1.heap.size=w.heap.size+2:=by rw [← hw1,World.size_alloc,z0]
 have B1:=hid b1
 have Z1:=hid z1
 have PB:=hid uH
 have W0:=hid pw
 obtain⟨p0,p1,p2,p3,p4,p5,p6,p7⟩:=aA uH
 unfold It.val
 unfold T9.Mu.val at MP
 clear h1 h2 h3 hc hce hk pb0 b0 pw b1 uH z1
 go_enter Try.func14,Try.ntmps14
 go_wp2_with fail
 refine (xV x.who x.id rfl W0.out H1.out H2.out (by simp)).mono ?_
 rintro e w2 ⟨rfl,hw,ht2⟩
 obtain⟨a1,nU⟩:∃ a,a=([]:List UInt8)++(Cd.num x.who++Cd.num x.id):=⟨_,rfl⟩
 have hw:WS w.heap.size w2 (w.heap.size+1) ([]++(Cd.num x.who++Cd.num x.id)):=hw
 rw [← nU] at hw
 have Wa1:=hid hw
 have Qa1:=hid nU
 have na1:a1.length≤18:=by
  rw [nU]
  have:=av x.who
  have:=av x.id
  simp only [List.length_append,List.length_nil]
  omega
 have tO:=hid ht2
 clear hw nU ht2 p0 p1 p2 p3 p4 p5 p6 p7
 obtain⟨p0,p1,p2,p3,p4,p5,p6,p7⟩:=aA (tO.out.blk PB.out (by decide))
 go_wp2_with fail
 refine (MP w2).out.mono ?_
 rintro e w3 ⟨A9,n9,c9,rfl,ho9,vX⟩
 obtain⟨g,rfl,hg1,hg2,hg3,hg4,rfl⟩:=WS.jo Wa1.out vX ho9 (T9.oJ _)
 have uX:=hid (tO.out.trans (ay.of_below vX (by have:=tO.out.below.size;have:=Z1.out;omega) _))
 have G3:=hid hg3
 have G4:=hid hg4
 clear ho9 vX hg3 hg4
 go_wp2_with fail
 refine (xU G3.out hg1 hg2 G4.out rfl (by have:=LM.out;omega) (by have:=LM.out;omega)).mono ?_
 rintro e w4 ⟨rfl,hw,ht2⟩
 have EB:a1++St.wb (T9.dh x.m)=T9.bB x:=by
  rw [Qa1.out]
  unfold T9.bB
  simp
 rw [EB] at hw
 have LL:(T9.bB x).length≤400:=by
  rw [← EB,List.length_append]
  have:=T9.d9 (b:=T9.dh x.m) LM.out
  omega
 have BY:=hid (gX hw (by omega))
 have vz:=hid (uX.out.trans ht2)
 clear hw ht2 EB
 go_wp2_with fail
 refine BY.out.mono ?_
 rintro e w6 ⟨A9,n9,c9,rfl,ho,hb⟩
 have HO9:=hid ho
 have HB9:=hid hb
 clear ho hb
 go_wp2
 go_ret
 have BF:=B1.out.trans vz.out.below
 exact⟨A9,n9,c9,rfl,fM HO9.out BF.size,BF.trans (HB9.out.mono BF.size)⟩
def iM (m:dL) (w:World) (e:Ending) (w':World):Prop:=fF w.heap.size (T9.bU m.mg) (if T9.okW m.mg=true then Fr.frame (T9.dK m.mg) else []) w e w'
theorem sS {m:dL} {w:World} (h:WM m w) (ho:m.mg.ok) (ht:∀ x∈m.is,x.m.text.length≤200) (hs:m.s.st.short) (hl:m.is.length≤maxLen) (ha:m.las.length≤maxLen) :
  Calls Try.prog 6 #[m.val] w (iM m w):=by
 obtain⟨w1,hw1⟩:∃ u,w.alloc (.cells #[.int .i64 m.kind,.int .u64 (m.line:Int),.int .u64 (m.aQ:Int),.int .u64 (m.bZ:Int),.int .u64 (m.cu:Int),.slice m.A m.is.length m.c,.slice m.A1 m.las.length m.c1,.slice m.s.A m.s.ls.length m.s.c,.slice m.s.A2 m.s.ms.length m.s.c2] 30)=u:=⟨_,rfl⟩
 obtain⟨lb,b1,_⟩:=bF hw1
 have B1:=hid b1
 have LB:=hid lb
 have H1:=hid (h.stay b1)
 obtain⟨l0,l1,l2,l3,l4,l5,l6,l7,l8⟩:=ai lb
 have CK:=hid (mG (w:=w1) H1.out ho ht hs hl ha)
 have HO:=hid ho
 unfold dL.val at CK ⊢
 by_cases hok:T9.okW m.mg=true
 case neg =>
  have V:T9.bU m.mg=150:=by unfold T9.bU;rw [if_neg hok]
  unfold iM
  rw [if_neg hok,V]
  rw [V] at CK
  clear V hok h ho ht hs hl ha lb b1
  go_enter Try.func6,Try.ntmps6
  go_wp2_with fail
  refine CK.out.mono ?_
  rintro e w2 ⟨rfl,c2⟩
  have C2:=hid (B1.out.trans (c2.mono B1.out.size))
  clear c2
  go_wp2
  go_ret2
  exact fF.bad C2.out
 have V:T9.bU m.mg=0:=by unfold T9.bU;rw [if_pos hok]
 obtain⟨_,_,_,k1,k2,k3,_,k4,k5⟩:=T9.jA hok
 have LE:=hid (T9.nz hok)
 have HI:=hid k2
 have HR:=hid k4
 have nI:m.is.length≤8:=k1
 have nA:m.las.length≤2000:=k3
 have hk:1≤m.kind∧m.kind≤8:=k5
 have PI:∀ x∈m.is,∀ u,Hid (Calls Try.prog 14 #[x.val] u (fo (T9.bB x) u)):=fun x hx u=>hid (uJ (ho.i x hx) (k2 x hx))
 have KP:=hid PI
 have LI:∀ x∈m.is,(T9.bB x).length≤330:=fun x hx=>T9.nu (ht x hx)
 have HLI:=hid LI
 have FI:Hid (∀ k,((m.is.take k).flatMap fun x=>St.wb (T9.bB x)).length≤339 * 8):=hid fun k=>by
  have q:=T9.cZ (f:=fun x=>St.wb (T9.bB x)) (c:=339) (l:=m.is.take k) fun x hx=>T9.d9 (LI x (List.mem_of_mem_take hx))
  rw [List.length_take] at q
  omega
 have FA:Hid (∀ k,((m.las.take k).flatMap T9.bC).length≤18 * 2000):=hid fun k=>by
  have q:=T9.cZ (f:=T9.bC) (c:=18) (l:=m.las.take k) fun x _=>by
   unfold T9.bC
   have:=av x.who
   have:=av x.id
   rw [List.length_append]
   omega
  rw [List.length_take] at q
  omega
 have LS:Hid ((T9.gB m.s.st).length≤16000):=hid (T9.eB k4)
 have SP:∀ u,Below w1.heap.size w1 u→Hid (Calls Try.prog 15 #[.agg #[.slice m.s.A m.s.ls.length m.s.c,.slice m.s.A2 m.s.ms.length m.s.c2]] u (fo (T9.gB m.s.st) u)):=fun u hu=>hid (put9_c (H1.out.s.stay hu).l (H1.out.s.stay hu).k rfl rfl (T9.qg k4) ho.s)
 have KS:=hid SP
 unfold iM
 rw [if_pos hok,V]
 rw [V] at CK
 obtain⟨kn,hkn⟩:∃ kn:Nat,m.kind=(kn:Int):=⟨m.kind.toNat,by omega⟩
 have EN:Hid (T9.dK m.mg=Cd.num kn++(Cd.num m.line++(Cd.num m.aQ++(Cd.num m.bZ++(Cd.num m.cu++(Cd.num m.is.length++(m.is.flatMap (fun x=>St.wb (T9.bB x))++(Cd.num m.las.length++(m.las.flatMap T9.bC++St.wb (T9.gB m.s.st)))))))))):=hid (by
  have e:m.mg.kind.toNat=kn:=by show m.kind.toNat=kn;omega
  unfold T9.dK
  rw [e]
  rfl)
 have hwrap:IntKind.u64.wrap (kn:Int)=(kn:Int):=by rw [Fl.wrap_u64];omega
 have kl:kn<18446744073709551616:=by omega
 have hwi:IntKind.u64.wrap (m.is.length:Int)=(m.is.length:Int):=by rw [Fl.wrap_u64];omega
 have hwa:IntKind.u64.wrap (m.las.length:Int)=(m.las.length:Int):=by rw [Fl.wrap_u64];omega
 have ol:m.line<18446744073709551616:=ho.l
 have ob:m.aQ<18446744073709551616:=ho.b
 have of:m.bZ<18446744073709551616:=ho.f
 have ot:m.cu<18446744073709551616:=ho.t
 have OL:=hid ol
 have OB:=hid ob
 have OF:=hid of
 have OT:=hid ot
 have KLT:=hid kl
 rw [hkn] at l0 CK LB hw1 ⊢
 clear V hok h ho ht hs hl ha lb b1 k1 k2 k3 k4 k5 PI LI SP hk hkn ol ob of ot kl
 go_enter Try.func6,Try.ntmps6
 go_wp2_with fail
 refine CK.out.mono ?_
 rintro e w2 ⟨rfl,c2⟩
 have C2:=hid c2
 obtain⟨w3,hw3⟩:∃ u,w2.alloc (.cells #[.slice none 0 0] 45)=u:=⟨_,rfl⟩
 have pw:WS w2.heap.size w3 w2.heap.size []:=by
  refine⟨Nat.le_refl _,none,0,?_,World.ownsRow_nil _ _ _ _⟩
  rw [← hw3]
  exact heap_alloc_new w2 _
 have c3:Below w1.heap.size w1 w3:=by rw [← hw3];exact c2.alloc c2.size _
 have z3:w3.heap.size=w2.heap.size+1:=by rw [← hw3];simp
 have Z3:=hid z3
 have C3:=hid c3
 have W0:=hid pw
 obtain⟨B,HB⟩:∃ b,b=w2.heap.size:=⟨_,rfl⟩
 have BB:Hid (w1.heap.size≤B∧B=w2.heap.size):=hid ⟨by have:=c2.size;omega,HB⟩
 rw [← HB] at W0
 have PB:Hid (w3.heap[w.heap.size]?=some (.cells #[.int .i64 (kn:Int),.int .u64 (m.line:Int),.int .u64 (m.aQ:Int),.int .u64 (m.bZ:Int),.int .u64 (m.cu:Int),.slice m.A m.is.length m.c,.slice m.A1 m.las.length m.c1,.slice m.s.A m.s.ls.length m.s.c,.slice m.s.A2 m.s.ms.length m.s.c2] 30 (0,0))):=hid (ak LB.out c3)
 have uX:=hid (ay.refl B [45,5] w3)
 clear l0 l1 l2 l3 l4 l5 l6 l7 l8
 obtain⟨l0,l1,l2,l3,l4,l5,l6,l7,l8⟩:=ai (ak LB.out c2)
 obtain⟨m0,m1,m2,m3,m4,m5,m6,m7,m8⟩:=ai PB.out
 clear c2 c3 z3 pw HB
 go_wp2_with fail
 rw [← BB.out.2]
 refine (wN5_c kn m.line m.aQ m.bZ m.cu rfl W0.out KLT.out OL.out OB.out OF.out OT.out (by simp)).mono ?_
 rintro e w4 ⟨rfl,hw,ht2⟩
 clear l0 l1 l2 l3 l4 l5 l6 l7 l8 m0 m1 m2 m3 m4 m5 m6 m7 m8
 obtain⟨a1,nU⟩:∃ a,a=([]:List UInt8)++(Cd.num kn++(Cd.num m.line++(Cd.num m.aQ++(Cd.num m.bZ++Cd.num m.cu)))):=⟨_,rfl⟩
 have hw:WS B w4 B (([]:List UInt8)++(Cd.num kn++(Cd.num m.line++(Cd.num m.aQ++(Cd.num m.bZ++Cd.num m.cu))))):=hw
 rw [← nU] at hw
 have Wa1:=hid hw
 have Qa1:=hid nU
 have na1:a1.length≤45:=by
  rw [nU]
  simp only [List.length_append]
  have:=av kn;have:=av m.line;have:=av m.aQ;have:=av m.bZ;have:=av m.cu;simp only [List.length_nil]
  omega
 have vz:=hid (uX.out.trans ht2)
 clear hw nU ht2
 have pb:=vz.out.blk PB.out (by decide)
 obtain⟨l0,l1,l2,l3,l4,l5,l6,l7,l8⟩:=ai pb
 clear pb
 go_wp2_with fail
 refine (mZ m.is.length rfl Wa1.out rfl (by omega) (by omega)).mono ?_
 rintro e w5 ⟨rfl,hw,ht2⟩
 clear l0 l1 l2 l3 l4 l5 l6 l7 l8
 obtain⟨a2,qa2⟩:∃ a,a=a1++Cd.num m.is.length:=⟨_,rfl⟩
 have hw:WS B w5 B (a1++Cd.num m.is.length):=hw
 rw [← qa2] at hw
 have Wa2:=hid hw
 have Qa2:=hid qa2
 have na2:a2.length≤54:=by
  rw [qa2]
  simp only [List.length_append]
  have:=av m.is.length
  omega
 have yl:=hid (vz.out.trans ht2)
 clear hw qa2 ht2
 have pb:=yl.out.blk PB.out (by decide)
 obtain⟨l0,l1,l2,l3,l4,l5,l6,l7,l8⟩:=ai pb
 clear pb
 go_wp2_with fail
 go_loopw [41] (fun s41 wr=>∃ k:Nat,s41=.int .i64 k∧k≤m.is.length∧Aside (WS B wr B (a2++(m.is.take k).flatMap fun x=>St.wb (T9.bB x)))∧Aside (ay B [45,5] w3 wr)) (fun s41 _=>m.is.length - (intOf s41).toNat)
 case atStart=>exact⟨0,rfl,Nat.zero_le _,(by simpa using Wa2.out:WS B w5 B (a2++(m.is.take 0).flatMap fun x=>St.wb (T9.bB x))),yl.out⟩
 case round =>
  obtain⟨wo,hwo⟩:∃ u,u=wr:=⟨_,rfl⟩
  subst hwo
  obtain⟨k,rfl,hk,hW,hT⟩:=hrel
  have Two:=hid hT.out
  have WW:=hid hW.out
  clear hT hW
  by_cases hlt:k<m.is.length
  ·have hltz:(k:Int)<(m.is.length:Int):=by omega
   have BW:Hid (Below w1.heap.size w1 wo):=hid (C3.out.trans (Two.out.below.mono BB.out.1))
   obtain⟨ad,x,hA,hx,r0,r1,r2,r3,r4,r5,r6,r7⟩:=(H1.out.i.stay BW.out).at_ (k:=k) hlt
   rw [hA] at l5 ⊢
   have X:=hid hx
   have lx:=HLI.out x (List.mem_of_getElem? hx)
   have PX:=(KP.out x (List.mem_of_getElem? hx))
   have fk:=FI.out k
   obtain⟨wq,hwq⟩:∃ u,wo.alloc (.cells #[.int .u64 (x.who:Int),.int .u64 (x.id:Int),.int .i64 x.m.kind,.int .u64 (x.m.id:Int),.int .u64 (x.m.list:Int),.string (str x.m.text),.float .f64 x.m.f,.bool x.m.flag] 51)=u:=⟨_,rfl⟩
   obtain⟨lq,bq,zq⟩:=bR hwq
   obtain⟨q0,q1,q2,q3,q4,q5,q6,q7⟩:=aA lq
   have Bo:Hid (B≤wo.heap.size):=hid (by have:=Two.out.below.size;have:=Z3.out;have:=BB.out.2;omega)
   have Twq:Hid (ay B [45,5] w3 wq):=hid (by rw [← hwq];exact Two.out.alloc Bo.out _)
   obtain⟨e0,sU⟩:∃ a,a=a2++(m.is.take k).flatMap fun x=>St.wb (T9.bB x):=⟨_,rfl⟩
   have ne0:e0.length≤3000:=by rw [sU,List.length_append];omega
   have WQ:Hid (WS B wq B e0):=hid (by rw [← hwq,sU];exact WW.out.alloc _)
   have Qe0:=hid sU
   have Bq:Hid (B≤wq.heap.size):=hid (by have:=Bo.out;omega)
   have PQ:=PX wq
   unfold It.val at PQ
   clear hx lq bq zq sU fk PX
   go_wp2_with fail
   refine PQ.out.mono ?_
   rintro e w6 ⟨A9,n9,c9,rfl,ho9,vX⟩
   obtain⟨g,rfl,hg1,hg2,hg3,hg4,rfl⟩:=WS.jo WQ.out vX ho9 (T9.vJ _)
   have Tw6:=hid (Twq.out.trans (ay.of_below vX Bq.out _))
   have G3:=hid hg3
   have G4:=hid hg4
   clear ho9 vX hg3 hg4
   go_wp2_with fail
   refine (xU G3.out hg1 hg2 G4.out rfl (by omega) (by omega)).mono ?_
   rintro e w7 ⟨rfl,hw,ht2⟩
   have Tw7:=hid (Tw6.out.trans ht2)
   have WW7:=hid hw
   clear hw ht2
   go_wp2
   go_roundw
   case rel =>
    refine⟨k+1,by go_num,by omega,?_,Tw7.out⟩
    have e:e0++St.wb (T9.bB x)=a2++(m.is.take (k+1)).flatMap fun x=>St.wb (T9.bB x):=by
     rw [Qe0.out,aG X.out,List.flatMap_append]
     simp
    rw [← e]
    exact WW7.out
   case measure=>simp [intOf];omega
  ·obtain rfl:k=m.is.length:=by omega
   have hltz:¬ ((m.is.length:Int)<(m.is.length:Int)):=by omega
   have fk:=FI.out m.is.length
   rw [List.take_length] at fk
   obtain⟨a3,qa3⟩:∃ a,a=a2++m.is.flatMap fun x=>St.wb (T9.bB x):=⟨_,rfl⟩
   have Qa3:=hid qa3
   have na3:a3.length≤3000:=by rw [qa3,List.length_append];omega
   have Wa3:Hid (WS B wo B a3):=hid (by have q:=WW.out;rw [List.take_length] at q;rw [qa3];exact q)
   have pb:=Two.out.blk PB.out (by decide)
   clear qa3 fk l0 l1 l2 l3 l4 l5 l6 l7 l8
   obtain⟨l0,l1,l2,l3,l4,l5,l6,l7,l8⟩:=ai pb
   clear pb
   go_wp2_with fail
   refine (mZ m.las.length rfl Wa3.out rfl (by omega) (by omega)).mono ?_
   rintro e w8 ⟨rfl,hw,ht2⟩
   clear l0 l1 l2 l3 l4 l5 l6 l7 l8
   obtain⟨a4,qa4⟩:∃ a,a=a3++Cd.num m.las.length:=⟨_,rfl⟩
   have hw:WS B w8 B (a3++Cd.num m.las.length):=hw
   rw [← qa4] at hw
   have Wa4:=hid hw
   have Qa4:=hid qa4
   have na4:a4.length≤3009:=by
    rw [qa4]
    simp only [List.length_append]
    have:=av m.las.length
    omega
   have Tw8:=hid (Two.out.trans ht2)
   clear hw qa4 ht2
   have pb:=Tw8.out.blk PB.out (by decide)
   obtain⟨l0,l1,l2,l3,l4,l5,l6,l7,l8⟩:=ai pb
   clear pb
   go_wp2_with fail
   go_loopw [60] (fun s60 wr=>∃ k:Nat,s60=.int .i64 k∧k≤m.las.length∧Aside (WS B wr B (a4++(m.las.take k).flatMap T9.bC))∧Aside (ay B [45,5] w3 wr)) (fun s60 _=>m.las.length - (intOf s60).toNat)
   case atStart=>exact⟨0,rfl,Nat.zero_le _,(by simpa using Wa4.out:WS B w8 B (a4++(m.las.take 0).flatMap T9.bC)),Tw8.out⟩
   case round =>
    obtain⟨wp,hwp⟩:∃ u,u=wr:=⟨_,rfl⟩
    subst hwp
    obtain⟨k,rfl,hk,hW,hT⟩:=hrel
    have Twp:=hid hT.out
    have WP:=hid hW.out
    clear hT hW
    by_cases hlt2:k<m.las.length
    ·have iW:(k:Int)<(m.las.length:Int):=by omega
     have BW:Hid (Below w1.heap.size w1 wp):=hid (C3.out.trans (Twp.out.below.mono BB.out.1))
     obtain⟨ad,x,hA,hx,r0,r1⟩:=(H1.out.a.stay BW.out).at_ (k:=k) hlt2
     rw [hA] at l6 ⊢
     have X:=hid hx
     obtain⟨xo1,xo2⟩:=HO.out.a x (List.mem_of_getElem? hx)
     have XO1:=hid xo1
     have XO2:=hid xo2
     have fk:=FA.out k
     obtain⟨wq,hwq⟩:∃ u,wp.alloc (.cells #[.int .u64 (x.who:Int),.int .u64 (x.id:Int)] 55)=u:=⟨_,rfl⟩
     obtain⟨lq,bq,zq⟩:=bg hwq
     obtain⟨q0,q1⟩:=aj lq
     have Bo:Hid (B≤wp.heap.size):=hid (by have:=Twp.out.below.size;have:=Z3.out;have:=BB.out.2;omega)
     have Twq:Hid (ay B [45,5] w3 wq):=hid (by rw [← hwq];exact Twp.out.alloc Bo.out _)
     obtain⟨e0,sU⟩:∃ a,a=a4++(m.las.take k).flatMap T9.bC:=⟨_,rfl⟩
     have ne0:e0.length≤40000:=by rw [sU,List.length_append];omega
     have WQ:Hid (WS B wq B e0):=hid (by rw [← hwq,sU];exact WP.out.alloc _)
     have Qe0:=hid sU
     clear hx lq bq zq sU fk xo1 xo2
     go_wp2_with fail
     refine (xV x.who x.id rfl WQ.out XO1.out XO2.out (by omega)).mono ?_
     rintro e w9 ⟨rfl,hw,ht2⟩
     have Tw9:=hid (Twq.out.trans ht2)
     have WW9:=hid hw
     clear hw ht2
     go_wp2
     go_roundw
     case rel =>
      refine⟨k+1,by go_num,by omega,?_,Tw9.out⟩
      have e:e0++(Cd.num x.who++Cd.num x.id)=a4++(m.las.take (k+1)).flatMap T9.bC:=by
       rw [Qe0.out,aG X.out,List.flatMap_append]
       simp [T9.bC]
      rw [← e]
      exact WW9.out
     case measure=>simp [intOf];omega
    ·obtain rfl:k=m.las.length:=by omega
     have iW:¬ ((m.las.length:Int)<(m.las.length:Int)):=by omega
     have fk:=FA.out m.las.length
     rw [List.take_length] at fk
     obtain⟨a5,qa5⟩:∃ a,a=a4++m.las.flatMap T9.bC:=⟨_,rfl⟩
     have Qa5:=hid qa5
     have na5:a5.length≤40000:=by rw [qa5,List.length_append];omega
     have Wa5:Hid (WS B wp B a5):=hid (by have q:=WP.out;rw [List.take_length] at q;rw [qa5];exact q)
     have pb:=Twp.out.blk PB.out (by decide)
     have BW:Hid (Below w1.heap.size w1 wp):=hid (C3.out.trans (Twp.out.below.mono BB.out.1))
     have Bo:Hid (B≤wp.heap.size):=hid (by have:=Twp.out.below.size;have:=Z3.out;have:=BB.out.2;omega)
     clear qa5 fk l0 l1 l2 l3 l4 l5 l6 l7 l8
     obtain⟨l0,l1,l2,l3,l4,l5,l6,l7,l8⟩:=ai pb
     clear pb
     go_wp2_with fail
     refine (KS.out wp BW.out).out.mono ?_
     rintro e qx ⟨A9,n9,c9,rfl,ho9,vX⟩
     obtain⟨g,rfl,hg1,hg2,hg3,hg4,rfl⟩:=WS.jo Wa5.out vX ho9 (T9.bts_pos _)
     have vw:=hid (Twp.out.trans (ay.of_below vX Bo.out _))
     have G3:=hid hg3
     have G4:=hid hg4
     clear ho9 vX hg3 hg4
     go_wp2_with fail
     refine (xU G3.out hg1 hg2 G4.out rfl (by have:=LS.out;omega) (by have:=LS.out;omega)).mono ?_
     rintro e rR ⟨rfl,hw,ht2⟩
     have EB:a5++St.wb (T9.gB m.s.st)=T9.dK m.mg:=by
      rw [Qa5.out,Qa4.out,Qa3.out,Qa2.out,Qa1.out,EN.out]
      simp
     rw [EB] at hw
     have BY:=hid (gX hw (by have:=LE.out;omega))
     have tN:=hid (vw.out.trans ht2)
     clear hw ht2 EB
     go_wp2_with fail
     refine BY.out.mono ?_
     rintro e qC ⟨A8,n8,c8,rfl,ho8,hb8⟩
     obtain⟨rfl,_⟩:=aC ho8
     have FP:=hid (fput_ok (c:=c8) (w:=qC) (aB (B:=0) ho8) rfl LE.out)
     have BF:Hid (Below w.heap.size w qC):=hid ((B1.out.trans (((C3.out.trans (tN.out.below.mono BB.out.1))).mono B1.out.size)).trans (hb8.mono (by
      have q1:=B1.out.size
      have q2:=C3.out.size
      have q3:=tN.out.below.size
      omega)))
     clear ho8 hb8
     go_wp2_with fail
     refine FP.out.mono ?_
     rintro e u6 ⟨A7,n7,c7,rfl,hn7,hc7,ho7,hb7⟩
     have R7:=hid (And.intro hn7 (And.intro hc7 (And.intro (fM ho7 BF.out.size) (BF.out.trans (hb7.mono BF.out.size)))))
     clear hn7 hc7 ho7 hb7
     go_wp2
     go_ret2
     exact⟨A7,n7,c7,rfl,R7.out.1,R7.out.2.1,R7.out.2.2.1,R7.out.2.2.2⟩
end
end
end Go.Proofs.Ytcedlgedmkghgaa
