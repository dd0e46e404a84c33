import Derived.Test.YtcedlgedmkghgaaZ16
import Derived.Test.YtcedlgedmkghgaaZ19
import Derived.Test.YtcedlgedmkghgaaZ20
import Derived.Test.YtcedlgedmkghgaaZ9
import Derived.Lib.QuietBelow
namespace Go.Proofs.Ytcedlgedmkghgaa
set_option maxHeartbeats 16000000
open Go.Lib
set_option linter.unusedSimpArgs false
set_option maxRecDepth 100000
section
section
open Go.RowKit Go.Lib
namespace T9
def cB (l:Li):List UInt8:=Cd.num l.id++St.wb l.name
def aZ (t:Tk):List UInt8:=Cd.num t.id++Cd.num t.list++St.wb t.title++St.fl t.done++Cd.fix (Fl.key t.rank).toNat 8++Cd.fix (Fl.key t.est).toNat 8++Cd.num t.tags.length++t.tags.flatMap St.wb
def gB (s:St):List UInt8:=Cd.num s.lists.length++s.lists.flatMap cB++Cd.num s.tasks.length++s.tasks.flatMap aZ
structure St.mQ (s:St):Prop where
 nl:s.lists.length≤25
 nt:s.tasks.length≤70
 name:∀ l∈s.lists,l.name.length≤100
 title:∀ t∈s.tasks,t.title.length≤100
 few:∀ t∈s.tasks,t.tags.length≤8
 tag:∀ t∈s.tasks,∀ x∈t.tags,x.length≤100
theorem St.mQ.short {s:St} (h:s.mQ):s.short:=⟨fun l hl=>by have:=h.name l hl;omega,fun t ht=>⟨by have:=h.title t ht;omega,fun x hx=>by have:=h.tag t ht x hx;omega,by have:=h.few t ht;omega⟩,by have:=h.nl;omega,by have:=h.nt;omega⟩
theorem cZ {α:Type} {f:α→List UInt8} {c:Nat}:∀ {l:List α},(∀ x∈l,(f x).length≤c)→(l.flatMap f).length≤c * l.length
 | [],_=>by simp
 | x :: l,h=>by
  have i:=cZ (f:=f) (c:=c) (l:=l) fun y hy=>h y (List.mem_cons_of_mem _ hy)
  have:=h x (List.mem_cons_self ..)
  rw [List.flatMap_cons,List.length_append,List.length_cons,Nat.mul_add]
  omega
theorem d9 {b:List UInt8} {c:Nat} (h:b.length≤c):(St.wb b).length≤c+9:=by
 unfold St.wb
 have:=av b.length
 rw [List.length_append]
 omega
theorem vR {l:Li} (h:l.name.length≤100):(cB l).length≤118:=by
 unfold cB
 have:=av l.id
 have:=d9 h
 rw [List.length_append]
 omega
theorem vS {t:Tk} (h:t.title.length≤100) (h2:t.tags.length≤8) (h3:∀ x∈t.tags,x.length≤100):(aZ t).length≤1100:=by
 unfold aZ
 have:=av t.id
 have:=av t.list
 have:=av t.tags.length
 have:=d9 h
 have:=cZ (f:=St.wb) (c:=109) fun x hx=>d9 (h3 x hx)
 have:(St.fl t.done).length=1:=rfl
 simp only [List.length_append,Cd.aI]
 omega
end T9
theorem gX {B p:Nat} {l:List UInt8} {w:World} (h:WS B w p l) (hs:l.length≤1099511627776) :
  Calls Try.prog 17 #[.pointer (some ⟨p,0,none⟩)] w (fo l w):=by
 obtain⟨_,A,c,hp,ho⟩:=h
 have c0:w.cell? ⟨p,0,none⟩=some (.slice A l.length c):=by simp [World.cell?,hp]
 have HO:=hid ho
 clear hp ho
 go_enter Try.func17,Try.ntmps17
 go_wp2_with fail
 refine (nJ (aB (B:=0) HO.out) (Nat.zero_le _) rfl hs).mono ?_
 rintro e w' ⟨A2,n2,c2,rfl,ho,hb⟩
 have HO2:=hid ho
 have HB:=hid hb
 clear ho hb
 go_wp2
 go_ret
 exact⟨A2,n2,c2,rfl,HO2.out,HB.out⟩
theorem xV {B p g:Nat} {l:List UInt8} {w:World} (a b:Nat) (hg:g=w.heap.size) (h:WS B w p l) (ha:a<18446744073709551616) (hb:b<18446744073709551616) (hs:l.length+18≤1000000000000) :
  Calls Try.prog 12 #[.pointer (some ⟨p,0,none⟩),.slice (some ⟨g,0,none⟩) 2 2] (w.alloc (.cells #[.int .u64 (a:Int),.int .u64 (b:Int)] 22)) fun e w'=>e=.returned (.tuple #[])∧WS B w' p (l++(Cd.num a++Cd.num b))∧ay B [45,5] w w':=by
 subst hg
 have hL:ah (w.alloc (.cells #[.int .u64 (a:Int),.int .u64 (b:Int)] 22)) B 22 (some ⟨w.heap.size,0,none⟩) ([(a:Int),(b:Int)].map (Value.int .u64)):=ah.dG (heap_alloc_new w _)
 refine (wN_c (h.alloc _) hL rfl (by intro n hn;simp at hn;rcases hn with rfl | rfl <;> omega) (by simpa using hs)).mono fun e w' q=>⟨q.1,by simpa [nums] using q.2.1,?_⟩
 exact ((ay.refl B _ w).alloc h.size _).trans q.2.2
theorem put9_c {A A2:Option Addr} {n1 n2 c c2:Nat} {ls:List T9.Li} {ms:List fe} {w:World} (hl:LL w A ls) (hk:KL w A2 ms) (e1:n1=ls.length) (e2:n2=ms.length) (hs:(⟨ls,bS ms⟩:T9.St).mQ) (ho:(⟨ls,bS ms⟩:T9.St).ok) :
  Calls Try.prog 15 #[.agg #[.slice A n1 c,.slice A2 n2 c2]] w (fo (T9.gB ⟨ls,bS ms⟩) w):=by
 have E1:=hid e1
 have E2:=hid e2
 have HS:=hid hs
 have HO:=hid ho
 have HL:=hid hl
 have HK:=hid hk
 obtain⟨w0,hw0⟩:∃ u,w.alloc (.cells #[.slice A n1 c,.slice A2 n2 c2] 28)=u:=⟨_,rfl⟩
 obtain⟨pb0,b0,z0⟩:=bg hw0
 obtain⟨w1,hw1⟩:∃ u,w0.alloc (.cells #[.slice none 0 0] 45)=u:=⟨_,rfl⟩
 have pw:WS w.heap.size w1 (w.heap.size+1) []:=by
  refine⟨Nat.le_succ _,none,0,?_,World.ownsRow_nil _ _ _ _⟩
  rw [← hw1,← z0]
  exact heap_alloc_new w0 _
 have b1:Below w.heap.size w w1:=by rw [← hw1];exact b0.alloc (by omega) _
 have uH:w1.heap[w.heap.size]?=some (.cells #[.slice A n1 c,.slice A2 n2 c2] 28 (0,0)):=by rw [← hw1];exact aT pb0 _
 have z1:w1.heap.size=w.heap.size+2:=by rw [← hw1,World.size_alloc,z0]
 have B1:=hid b1
 have Z1:=hid z1
 have PB:=hid uH
 have W0:=hid pw
 have sm1:n1≤25:=by have:=hs.nl;simp at this;omega
 have sm2:n2≤70:=by have:=hs.nt;rw [bO] at this;omega
 have hwrap:IntKind.u64.wrap (n1:Int)=(n1:Int):=by rw [Fl.wrap_u64];omega
 have hwrap2:IntKind.u64.wrap (n2:Int)=(n2:Int):=by rw [Fl.wrap_u64];omega
 have FL:Hid (∀ k,((ls.take k).flatMap T9.cB).length≤118 * 25):=hid fun k=>by
  have q:=T9.cZ (f:=T9.cB) (c:=118) (l:=ls.take k) fun x hx=>T9.vR (hs.name x (List.mem_of_mem_take hx))
  have:=hs.nl
  rw [List.length_take] at q
  simp at this
  omega
 have FK:Hid (∀ k,((bS (ms.take k)).flatMap T9.aZ).length≤1100 * 70):=hid fun k=>by
  have q:=T9.cZ (f:=T9.aZ) (c:=1100) (l:=bS (ms.take k)) fun x hx=>by
   obtain⟨m,hm,rfl⟩:=List.mem_map.1 hx
   have hm':m.t∈bS ms:=List.mem_map.2 ⟨m,List.mem_of_mem_take hm,rfl⟩
   exact T9.vS (hs.title _ hm') (hs.few _ hm') (hs.tag _ hm')
  rw [bO,List.length_take] at q
  omega
 obtain⟨p0,p1⟩:=aj uH
 have Tw1:=hid (ay.refl w.heap.size [45,5] w1)
 clear hl hk e1 e2 hs ho pb0 b0 pw b1 uH z1
 go_enter Try.func15,Try.ntmps15
 go_wp2_with fail
 refine (mZ n1 rfl W0.out rfl (by omega) (by simp)).mono ?_
 rintro e w2 ⟨rfl,hw,ht⟩
 obtain⟨a1,nU⟩:∃ a,a=[]++Cd.num n1:=⟨_,rfl⟩
 have hw:WS w.heap.size w2 (w.heap.size+1) ([]++Cd.num n1):=hw
 rw [← nU] at hw
 have Wa1:=hid hw
 have Qa1:=hid nU
 have na1:a1.length≤9:=by
  rw [nU,List.length_append]
  have:=av n1
  simp only [List.length_nil]
  omega
 have tO:=hid (Tw1.out.trans ht)
 clear hw nU ht
 have lW:=tO.out.blk PB.out (by decide)
 obtain⟨p20,p21⟩:=aj lW
 clear p0 p1
 go_wp2_with fail
 go_loopw [22] (fun s22 wr=>∃ k:Nat,s22=.int .i64 k∧k≤n1∧Aside (WS w.heap.size wr (w.heap.size+1) (a1++(ls.take k).flatMap T9.cB))∧Aside (ay w.heap.size [45,5] w1 wr)) (fun s22 _=>n1 - (intOf s22).toNat)
 case atStart=>exact⟨0,rfl,Nat.zero_le _,(by simpa using Wa1.out:WS w.heap.size w2 (w.heap.size+1) (a1++(ls.take 0).flatMap T9.cB)),tO.out⟩
 case round =>
  obtain⟨k,rfl,hk,hW,hT⟩:=hrel
  have vB:=hid hT.out
  have WW:=hid hW.out
  clear hT hW
  by_cases hlt:k<n1
  ·have hltz:(k:Int)<(n1:Int):=by omega
   have BW:=hid (B1.out.trans vB.out.below)
   obtain⟨ad,l,hA,hx,r0,r1⟩:=(HL.out.stay BW.out).at_ (k:=k) (by have:=E1.out;omega)
   subst hA
   have X:=hid hx
   have li:l.id<18446744073709551616:=HO.out.1 l (List.mem_of_getElem? hx)
   have ln:Hid (l.name.length≤100):=hid (HS.out.name l (List.mem_of_getElem? hx))
   have fk:=FL.out k
   obtain⟨wq,hwq⟩:∃ u,wr.alloc (.cells #[.int .u64 (l.id:Int),.string (str l.name)] 66)=u:=⟨_,rfl⟩
   obtain⟨lb,b2,z2⟩:=bg hwq
   obtain⟨l0,l1⟩:=aj lb
   have LB:=hid lb
   have Twq:Hid (ay w.heap.size [45,5] w1 wq):=hid (by rw [← hwq];exact vB.out.alloc (by have:=vB.out.below.size;have:=Z1.out;omega) _)
   have WQ:Hid (WS w.heap.size wq (w.heap.size+1) (a1++(ls.take k).flatMap T9.cB)):=hid (by rw [← hwq];exact WW.out.alloc _)
   clear hx lb b2 z2
   go_wp2_with fail
   refine (mZ l.id rfl WQ.out rfl li (by rw [List.length_append];omega)).mono ?_
   rintro e w3 ⟨rfl,hw,ht⟩
   obtain⟨b0,qb0⟩:∃ a,a=a1++(ls.take k).flatMap T9.cB:=⟨_,rfl⟩
   have Qb0:=hid qb0
   have nb0:b0.length≤3000:=by rw [qb0,List.length_append];omega
   rw [← qb0] at hw
   clear qb0
   have LB3:=hid (ht.blk LB.out (by decide))
   obtain⟨b1,qb1⟩:∃ a,a=b0++Cd.num l.id:=⟨_,rfl⟩
   have hw:WS w.heap.size w3 (w.heap.size+1) (b0++Cd.num l.id):=hw
   rw [← qb1] at hw
   have Wb1:=hid hw
   have Qb1:=hid qb1
   have nb1:b1.length≤3009:=by
    rw [qb1,List.length_append]
    have:=av l.id
    omega
   have uX:=hid (Twq.out.trans ht)
   clear hw qb1 ht
   obtain⟨l30,l31⟩:=aj LB3.out
   obtain⟨ck,hcv,hck⟩:=iR l.name w3
   have lk:l.name.length≤100:=ln.out
   have W3:=hid (iN Wb1.out (.cells (bytesRow (str l.name) ck) 5 ((bytesRow (str l.name) ck).size,(bytesRow (str l.name) ck).size+1)) (g:=w3.heap.size) rfl)
   have L3:=hid (fB l.name ck w3 (fr:=((bytesRow (str l.name) ck).size,(bytesRow (str l.name) ck).size+1)) (g:=w3.heap.size) rfl)
   have PN:w3.heap.size≠w.heap.size+1:=by have:=uX.out.below.size;have:=Z1.out;omega
   have TA:=hid ((uX.out.alloc (by have:=uX.out.below.size;have:=Z1.out;omega) (.cells (bytesRow (str l.name) ck) 5 ((bytesRow (str l.name) ck).size,(bytesRow (str l.name) ck).size+1))).drew)
   go_wp2_with fail
   refine (tH W3.out (by simp) PN L3.out rfl (by omega) (by omega)).mono ?_
   rintro e w4 ⟨rfl,hw,ht⟩
   obtain⟨b2,qb2⟩:∃ a,a=b1++St.wb l.name:=⟨_,rfl⟩
   have hw:WS w.heap.size w4 (w.heap.size+1) (b1++St.wb l.name):=hw
   rw [← qb2] at hw
   have Wb2:=hid hw
   have Qb2:=hid qb2
   have nb2:b2.length≤3200:=by
    rw [qb2,List.length_append]
    have:=T9.d9 lk
    omega
   have vz:=hid (TA.out.trans ht)
   clear hw qb2 ht
   clear hcv hck lk W3 L3 PN TA
   go_wp2
   go_roundw
   case rel =>
    refine⟨k+1,by go_num,by omega,?_,vz.out⟩
    have e:b2=a1++(ls.take (k+1)).flatMap T9.cB:=by
     rw [Qb2.out,Qb1.out,Qb0.out,aG X.out,List.flatMap_append]
     simp [T9.cB]
    rw [← e]
    exact Wb2.out
   case measure=>simp [intOf];omega
  ·obtain rfl:k=n1:=by omega
   have hltz:¬ ((k:Int)<(k:Int)):=by omega
   have pbr:=vB.out.blk PB.out (by decide)
   obtain⟨s0,s1⟩:=aj pbr
   have fk:=FL.out k
   obtain⟨c0,qc0⟩:∃ a,a=a1++(ls.take k).flatMap T9.cB:=⟨_,rfl⟩
   have Qc0:=hid qc0
   have nc0:c0.length≤3000:=by rw [qc0,List.length_append];omega
   have WC:Hid (WS w.heap.size wr (w.heap.size+1) c0):=hid (by rw [qc0];exact WW.out)
   clear qc0 p20 p21 lW fk
   go_wp2_with fail
   refine (mZ n2 rfl WC.out rfl (by omega) (by omega)).mono ?_
   rintro e w5 ⟨rfl,hw,ht⟩
   obtain⟨c1,qc1⟩:∃ a,a=c0++Cd.num n2:=⟨_,rfl⟩
   have hw:WS w.heap.size w5 (w.heap.size+1) (c0++Cd.num n2):=hw
   rw [← qc1] at hw
   have Wc1:=hid hw
   have Qc1:=hid qc1
   have nc1:c1.length≤3009:=by
    rw [qc1,List.length_append]
    have:=av n2
    omega
   have yl:=hid (vB.out.trans ht)
   clear hw qc1 ht
   have pb5:=yl.out.blk PB.out (by decide)
   obtain⟨s50,s51⟩:=aj pb5
   clear s0 s1 pbr pb5
   go_wp2_with fail
   go_loopw [47] (fun s47 wr=>∃ k:Nat,s47=.int .i64 k∧k≤n2∧Aside (WS w.heap.size wr (w.heap.size+1) (c1++(bS (ms.take k)).flatMap T9.aZ))∧Aside (ay w.heap.size [45,5] w1 wr)) (fun s47 _=>n2 - (intOf s47).toNat)
   case atStart=>exact⟨0,rfl,Nat.zero_le _,(by simpa [bS] using Wc1.out:WS w.heap.size w5 (w.heap.size+1) (c1++(bS (ms.take 0)).flatMap T9.aZ)),yl.out⟩
   case round =>
    obtain⟨wo,hwo⟩:∃ u,u=wr:=⟨_,rfl⟩
    subst hwo
    obtain⟨i,rfl,hi,hW,hT⟩:=hrel
    have Two:=hid hT.out
    have WW2:=hid hW.out
    clear hT hW
    by_cases hlt2:i<n2
    ·have iW:(i:Int)<(n2:Int):=by omega
     have BW:=hid (B1.out.trans Two.out.below)
     obtain⟨ad2,⟨tk,A3,c3⟩,hA,hx,hf,r0,r1,r2,r3,r4,r5,r6⟩:=(HK.out.stay BW.out).at_ (k:=i) (by have:=E2.out;omega)
     subst hA
     have X:=hid hx
     have mem:tk∈bS ms:=List.mem_map.2 ⟨_,List.mem_of_getElem? hx,rfl⟩
     have FI:Hid ((⟨tk,A3,c3⟩:fe).fine w):=hid (HK.out.2 _ (List.mem_of_getElem? hx))
     have oki:=HO.out.2 tk mem
     have o1:=oki.1
     have o2:=oki.2.1
     have o3:=oki.2.2.1
     have o4:=oki.2.2.2
     have l1:Hid (tk.title.length≤100):=hid (HS.out.title tk mem)
     have l2:tk.tags.length≤8:=HS.out.few tk mem
     have l3:Hid (∀ x∈tk.tags,x.length≤100):=hid (HS.out.tag tk mem)
     have fk:=FK.out i
     have hwrap3:IntKind.u64.wrap (tk.tags.length:Int)=(tk.tags.length:Int):=by rw [Fl.wrap_u64];omega
     dsimp only at r0 r1 r2 r3 r4 r5 r6
     obtain⟨wq,hwq⟩:∃ u,wo.alloc (.cells #[.int .u64 (tk.id:Int),.int .u64 (tk.list:Int),.string (str tk.title),.bool tk.done,.float .f64 tk.rank,.float .f64 tk.est,.slice A3 tk.tags.length c3] 69)=u:=⟨_,rfl⟩
     obtain⟨lb,b2,z2⟩:=dO hwq
     obtain⟨l0,l1',l2',l3',l4,l5,l6⟩:=ax lb
     have LB:=hid lb
     have Twq:Hid (ay w.heap.size [45,5] w1 wq):=hid (by rw [← hwq];exact Two.out.alloc (by have:=Two.out.below.size;have:=Z1.out;omega) _)
     have WQ:Hid (WS w.heap.size wq (w.heap.size+1) (c1++(bS (ms.take i)).flatMap T9.aZ)):=hid (by rw [← hwq];exact WW2.out.alloc _)
     obtain⟨d0,qd0⟩:∃ a,a=c1++(bS (ms.take i)).flatMap T9.aZ:=⟨_,rfl⟩
     have Qd0:=hid qd0
     have nd0:d0.length≤80100:=by rw [qd0,List.length_append];omega
     have WD:Hid (WS w.heap.size wq (w.heap.size+1) d0):=hid (by rw [qd0];exact WQ.out)
     clear hx lb b2 z2 qd0 WQ mem oki fk
     go_wp2_with fail
     refine (xV tk.id tk.list rfl WD.out o1 o2 (by omega)).mono ?_
     rintro e w6 ⟨rfl,hw,ht⟩
     have LB6:=hid (ht.blk LB.out (by decide))
     obtain⟨d1,qd1⟩:∃ a,a=d0++(Cd.num tk.id++Cd.num tk.list):=⟨_,rfl⟩
     have hw:WS w.heap.size w6 (w.heap.size+1) (d0++(Cd.num tk.id++Cd.num tk.list)):=hw
     rw [← qd1] at hw
     have Wd1:=hid hw
     have Qd1:=hid qd1
     have nd1:d1.length≤80200:=by
      rw [qd1,List.length_append]
      have:=av tk.id
      have:=av tk.list
      rw [List.length_append]
      omega
     have Tw6:=hid (Twq.out.trans ht)
     clear hw qd1 ht
     obtain⟨x60,x61,x62,x63,x64,x65,x66⟩:=ax LB6.out
     obtain⟨ck,hcv,hck⟩:=iR tk.title w6
     have lk:tk.title.length≤100:=l1.out
     have W3:=hid (iN Wd1.out (.cells (bytesRow (str tk.title) ck) 5 ((bytesRow (str tk.title) ck).size,(bytesRow (str tk.title) ck).size+1)) (g:=w6.heap.size) rfl)
     have L3:=hid (fB tk.title ck w6 (fr:=((bytesRow (str tk.title) ck).size,(bytesRow (str tk.title) ck).size+1)) (g:=w6.heap.size) rfl)
     have PN:w6.heap.size≠w.heap.size+1:=by have:=Tw6.out.below.size;have:=Z1.out;omega
     have TA:=hid ((Tw6.out.alloc (by have:=Tw6.out.below.size;have:=Z1.out;omega) (.cells (bytesRow (str tk.title) ck) 5 ((bytesRow (str tk.title) ck).size,(bytesRow (str tk.title) ck).size+1))).drew)
     go_wp2_with fail
     refine (tH W3.out (by simp) PN L3.out rfl (by omega) (by omega)).mono ?_
     rintro e w7 ⟨rfl,hw,ht⟩
     have LB7:=hid (ht.blk (aT LB6.out _) (by decide))
     obtain⟨d2,qd2⟩:∃ a,a=d1++St.wb tk.title:=⟨_,rfl⟩
     have hw:WS w.heap.size w7 (w.heap.size+1) (d1++St.wb tk.title):=hw
     rw [← qd2] at hw
     have Wd2:=hid hw
     have Qd2:=hid qd2
     have nd2:d2.length≤80400:=by
      rw [qd2,List.length_append]
      have:=T9.d9 lk
      omega
     have Tw7:=hid (TA.out.trans ht)
     clear hw qd2 ht
     clear hcv hck lk W3 L3 PN TA
     clear x60 x61 x62 x63 x64 x65 x66
     obtain⟨x70,x71,x72,x73,x74,x75,x76⟩:=ax LB7.out
     go_wp2_with fail
     refine (wG_c Wd2.out (by omega)).mono ?_
     rintro e w8 ⟨rfl,hw,ht⟩
     have tL:=hid (ht.blk LB7.out (by decide))
     obtain⟨d3,qd3⟩:∃ a,a=d2++St.fl tk.done:=⟨_,rfl⟩
     have hw:WS w.heap.size w8 (w.heap.size+1) (d2++St.fl tk.done):=hw
     rw [← qd3] at hw
     have Wd3:=hid hw
     have Qd3:=hid qd3
     have nd3:d3.length≤80401:=by
      rw [qd3,List.length_append]
      have:(St.fl tk.done).length=1:=rfl
      omega
     have Tw8:=hid (Tw7.out.trans ht)
     clear hw qd3 ht
     clear x70 x71 x72 x73 x74 x75 x76
     obtain⟨x80,x81,x82,x83,x84,x85,x86⟩:=ax tL.out
     go_wp2_with fail
     refine (wF_c Wd3.out o3 (by omega)).mono ?_
     rintro e w9 ⟨rfl,hw,ht⟩
     have LB9:=hid (ht.blk tL.out (by decide))
     obtain⟨d4,qd4⟩:∃ a,a=d3++Cd.fix (Fl.key tk.rank).toNat 8:=⟨_,rfl⟩
     have hw:WS w.heap.size w9 (w.heap.size+1) (d3++Cd.fix (Fl.key tk.rank).toNat 8):=hw
     rw [← qd4] at hw
     have Wd4:=hid hw
     have Qd4:=hid qd4
     have nd4:d4.length≤80409:=by
      rw [qd4,List.length_append]
      rw [Cd.aI]
      omega
     have Tw9:=hid (Tw8.out.trans ht)
     clear hw qd4 ht
     clear x80 x81 x82 x83 x84 x85 x86
     obtain⟨x90,x91,x92,x93,x94,x95,x96⟩:=ax LB9.out
     go_wp2_with fail
     refine (wF_c Wd4.out o4 (by omega)).mono ?_
     rintro e qx ⟨rfl,hw,ht⟩
     have LB10:=hid (ht.blk LB9.out (by decide))
     obtain⟨d5,qd5⟩:∃ a,a=d4++Cd.fix (Fl.key tk.est).toNat 8:=⟨_,rfl⟩
     have hw:WS w.heap.size qx (w.heap.size+1) (d4++Cd.fix (Fl.key tk.est).toNat 8):=hw
     rw [← qd5] at hw
     have Wd5:=hid hw
     have Qd5:=hid qd5
     have nd5:d5.length≤80417:=by
      rw [qd5,List.length_append]
      rw [Cd.aI]
      omega
     have vw:=hid (Tw9.out.trans ht)
     clear hw qd5 ht
     clear x90 x91 x92 x93 x94 x95 x96
     obtain⟨x100,x101,x102,x103,x104,x105,x106⟩:=ax LB10.out
     go_wp2_with fail
     refine (mZ tk.tags.length rfl Wd5.out rfl (by omega) (by omega)).mono ?_
     rintro e rR ⟨rfl,hw,ht⟩
     have LB11:=hid (ht.blk LB10.out (by decide))
     obtain⟨d6,qd6⟩:∃ a,a=d5++Cd.num tk.tags.length:=⟨_,rfl⟩
     have hw:WS w.heap.size rR (w.heap.size+1) (d5++Cd.num tk.tags.length):=hw
     rw [← qd6] at hw
     have Wd6:=hid hw
     have Qd6:=hid qd6
     have nd6:d6.length≤80426:=by
      rw [qd6,List.length_append]
      have:=av tk.tags.length
      omega
     have tN:=hid (vw.out.trans ht)
     clear hw qd6 ht
     clear x100 x101 x102 x103 x104 x105 x106
     obtain⟨x110,x111,x112,x113,x114,x115,x116⟩:=ax LB11.out
     have FT:Hid (∀ j,((tk.tags.take j).flatMap St.wb).length≤109 * 8):=hid fun j=>by
      have q:=T9.cZ (f:=St.wb) (c:=109) (l:=tk.tags.take j) fun x hx=>T9.d9 (l3.out x (List.mem_of_mem_take hx))
      rw [List.length_take] at q
      omega
     go_wp2_with fail
     go_loopw [85] (fun s85 wr=>∃ j:Nat,s85=.int .i64 j∧j≤tk.tags.length∧Aside (WS w.heap.size wr (w.heap.size+1) (d6++(tk.tags.take j).flatMap St.wb))∧Aside (ay w.heap.size [45,5] w1 wr)) (fun s85 _=>tk.tags.length - (intOf s85).toNat)
     case atStart=>exact⟨0,rfl,Nat.zero_le _,(by simpa using Wd6.out:WS w.heap.size rR (w.heap.size+1) (d6++(tk.tags.take 0).flatMap St.wb)),tN.out⟩
     case round =>
      obtain⟨j,rfl,hj,hW,hT⟩:=hrel
      have vB:=hid hT.out
      have WW3:=hid hW.out
      clear hT hW
      by_cases hlt3:j<tk.tags.length
      ·have hltz3:(j:Int)<(tk.tags.length:Int):=by omega
       obtain⟨ad3,x,hA,hx,hc⟩:=(FI.out.gl.stay (B1.out.trans vB.out.below)).at_ (k:=j) hlt3
       have hA:A3=some ad3:=hA
       subst hA
       have hx:tk.tags[j]?=some x:=hx
       have XX:=hid hx
       have lx:=hid (l3.out x (List.mem_of_getElem? hx))
       have ft:=FT.out j
       obtain⟨e0,sU⟩:∃ a,a=d6++(tk.tags.take j).flatMap St.wb:=⟨_,rfl⟩
       have Qe0:=hid sU
       have ne0:e0.length≤82000:=by rw [sU,List.length_append];omega
       have We0:Hid (WS w.heap.size wr (w.heap.size+1) e0):=hid (by rw [sU];exact WW3.out)
       clear hx sU ft
       obtain⟨ck,hcv,hck⟩:=iR x wr
       have lk:x.length≤100:=lx.out
       have W3:=hid (iN We0.out (.cells (bytesRow (str x) ck) 5 ((bytesRow (str x) ck).size,(bytesRow (str x) ck).size+1)) (g:=wr.heap.size) rfl)
       have L3:=hid (fB x ck wr (fr:=((bytesRow (str x) ck).size,(bytesRow (str x) ck).size+1)) (g:=wr.heap.size) rfl)
       have PN:wr.heap.size≠w.heap.size+1:=by have:=vB.out.below.size;have:=Z1.out;omega
       have TA:=hid ((vB.out.alloc (by have:=vB.out.below.size;have:=Z1.out;omega) (.cells (bytesRow (str x) ck) 5 ((bytesRow (str x) ck).size,(bytesRow (str x) ck).size+1))).drew)
       go_wp2_with fail
       refine (tH W3.out (by simp) PN L3.out rfl (by omega) (by omega)).mono ?_
       rintro e qC ⟨rfl,hw,ht⟩
       obtain⟨e1,qe1⟩:∃ a,a=e0++St.wb x:=⟨_,rfl⟩
       have hw:WS w.heap.size qC (w.heap.size+1) (e0++St.wb x):=hw
       rw [← qe1] at hw
       have We1:=hid hw
       have Qe1:=hid qe1
       have ne1:e1.length≤82200:=by
        rw [qe1,List.length_append]
        have:=T9.d9 lk
        omega
       have Tw12:=hid (TA.out.trans ht)
       clear hw qe1 ht
       clear hcv hck lk W3 L3 PN TA
       go_wp2
       go_roundw
       case rel =>
        refine⟨j+1,by go_num,by omega,?_,Tw12.out⟩
        have e:e1=d6++(tk.tags.take (j+1)).flatMap St.wb:=by
         rw [Qe1.out,Qe0.out,aG XX.out,List.flatMap_append]
         simp
        rw [← e]
        exact We1.out
       case measure=>simp [intOf];omega
      ·obtain rfl:j=tk.tags.length:=by omega
       have hltz3:¬ ((tk.tags.length:Int)<(tk.tags.length:Int)):=by omega
       go_wp2
       go_roundw
       case rel =>
        refine⟨i+1,by go_num,by omega,?_,vB.out⟩
        have e:d6++(tk.tags.take tk.tags.length).flatMap St.wb=c1++(bS (ms.take (i+1))).flatMap T9.aZ:=by
         rw [Qd6.out,Qd5.out,Qd4.out,Qd3.out,Qd2.out,Qd1.out,Qd0.out,aG X.out,je,List.flatMap_append,List.take_length]
         simp [T9.aZ]
        rw [← e]
        exact WW3.out
       case measure=>simp [intOf];omega
    ·obtain rfl:i=n2:=by omega
     have iW:¬ ((i:Int)<(i:Int)):=by omega
     have fk:=FK.out i
     have EN:Hid (c1++(bS (ms.take i)).flatMap T9.aZ=T9.gB ⟨ls,bS ms⟩):=hid (by
      rw [Qc1.out,Qc0.out,Qa1.out]
      have q1:=E1.out
      have q2:=E2.out
      unfold T9.gB
      dsimp only
      rw [← q1,bO,← q2]
      rw [q1,List.take_length,q2,List.take_length]
      simp)
     have BY:=hid (gX WW2.out (by rw [List.length_append];omega))
     rw [EN.out] at BY
     go_wp2_with fail
     refine BY.out.mono ?_
     rintro e qC ⟨A9,n9,c9,rfl,ho,hb⟩
     have HO9:=hid ho
     have HB9:=hid hb
     clear ho hb
     go_wp2
     go_ret
     have BF:=B1.out.trans Two.out.below
     exact⟨A9,n9,c9,rfl,fM HO9.out BF.size,BF.trans (HB9.out.mono BF.size)⟩
end
section
section
open Go.RowKit Go.Lib
def vv (ts:List (List UInt8)) (w:World) (e:Ending) (w':World):Prop:=∃ b,e=.returned (.bool b)∧(b=true→ts.length≤8∧∀ x∈ts,x.length≤100)∧w=w'
def oF (s:T9.St) (w:World) (e:Ending) (w':World):Prop:=∃ b,e=.returned (.bool b)∧(b=true→s.mQ)∧Below w.heap.size w w'
theorem xN {A:Option Addr} {n c:Nat} {ts:List (List UInt8)} {w:World} (h:GL w A ts) (hn:n=ts.length) (hs:n≤maxLen) :
  Calls Try.prog 25 #[.slice A n c] w (vv ts w):=by
 have H:=hid h
 have HN:=hid hn
 have hs:n≤9223372036854775807:=by unfold maxLen at hs;omega
 clear h hn
 go_enter Try.func25,Try.ntmps25
 go_wp2
 go_loopw [7] (fun s7 wr=>∃ i:Nat,s7=.int .i64 i∧i≤n∧Hid (∀ x∈ts.take i,x.length≤100)∧w=wr) (fun s7 _=>n - (intOf s7).toNat)
 case atStart=>exact⟨0,rfl,Nat.zero_le _,hid (by simp),rfl⟩
 case round =>
  obtain⟨i,rfl,hi,HU,rfl⟩:=hrel
  by_cases hlt:i<n
  ·have hltz:(i:Int)<(n:Int):=by omega
   obtain⟨ad,x,hA,hx,hc⟩:=H.out.at_ (k:=i) (by rw [← HN.out];exact hlt)
   subst hA
   have X:=hid hx
   have sz:(str x).size=x.length:=rfl
   clear hx
   by_cases hl:100<x.length
   ·have hlz:(100:Int)<((str x).size:Int):=by rw [sz];omega
    clear sz
    go_wp2
    go_ret
    exact⟨false,rfl,by simp,rfl⟩
   ·have hlz:¬ ((100:Int)<((str x).size:Int)):=by rw [sz];omega
    have U:Hid (∀ y∈ts.take (i+1),y.length≤100):=hid fun y hy=>by
     rw [aG X.out] at hy
     rcases List.mem_append.1 hy with q | q
     ·exact HU.out y q
     ·simp at q;subst q;omega
    clear sz
    go_wp2
    go_roundw
    case rel=>exact⟨i+1,by go_num,by omega,U,by simp⟩
    case measure=>simp [intOf];omega
  ·obtain rfl:i=n:=by omega
   have hltz:¬ ((i:Int)<(i:Int)):=by omega
   have U:=hid HU.out
   by_cases h8:i≤8
   ·have hz:(i:Int)≤8:=by omega
    go_wp2
    go_ret
    exact⟨true,ag (by simp),fun _=>⟨by rw [← HN.out];exact h8,by have:=U.out;rwa [HN.out,List.take_length] at this⟩,rfl⟩
   ·have hz:¬ ((i:Int)≤8):=by omega
    go_wp2
    go_ret
    exact⟨false,ag (by simp),by simp,rfl⟩
theorem wC {A A2:Option Addr} {n1 n2 c c2:Nat} {ls:List T9.Li} {ms:List fe} {w:World} (hl:LL w A ls) (hk:KL w A2 ms) (e1:n1=ls.length) (e2:n2=ms.length) (hs:∀ m∈ms,m.t.tags.length≤maxLen) :
  Calls Try.prog 10 #[.agg #[.slice A n1 c,.slice A2 n2 c2]] w (oF ⟨ls,bS ms⟩ w):=by
 have E1:=hid e1
 have E2:=hid e2
 have HS:=hid hs
 obtain⟨w1,hw1⟩:∃ u,w.alloc (.cells #[.slice A n1 c,.slice A2 n2 c2] 28)=u:=⟨_,rfl⟩
 obtain⟨pb,b1,z1⟩:=bg hw1
 have PB:=hid pb
 have B1:=hid b1
 have HL:=hid (hl.stay b1)
 have HK:=hid (hk.stay b1)
 have Z1:=hid z1
 obtain⟨p0,p1⟩:=aj pb
 clear hl hk e1 e2 hs pb b1 z1
 by_cases hm1:25<n1
 ·have hmz:(25:Int)<(n1:Int):=by omega
  go_enter Try.func10,Try.ntmps10
  go_wp2
  go_ret
  exact⟨false,rfl,by simp,B1.out⟩
 have hmz:¬ ((25:Int)<(n1:Int)):=by omega
 by_cases hm2:70<n2
 ·have hmz2:(70:Int)<(n2:Int):=by omega
  go_enter Try.func10,Try.ntmps10
  go_wp2
  go_ret
  exact⟨false,rfl,by simp,B1.out⟩
 have hmz2:¬ ((70:Int)<(n2:Int)):=by omega
 have m1:n1≤25:=by omega
 have m2:n2≤70:=by omega
 clear hm1 hm2
 go_enter Try.func10,Try.ntmps10
 go_wp2
 go_loopw [20] (fun s20 wr=>∃ i:Nat,s20=.int .i64 i∧i≤n1∧Hid (∀ l∈ls.take i,l.name.length≤100)∧Aside (Below w1.heap.size w1 wr)) (fun s20 _=>n1 - (intOf s20).toNat)
 case atStart=>exact⟨0,rfl,Nat.zero_le _,hid (by simp),Below.refl _ _⟩
 case round =>
  obtain⟨i,rfl,hi,HU,hB⟩:=hrel
  have BR:=hid hB.out
  clear hB
  by_cases hlt:i<n1
  ·have hltz:(i:Int)<(n1:Int):=by omega
   obtain⟨ad,l,hA,hx,q0,q1⟩:=(HL.out.stay BR.out).at_ (k:=i) (by have:=E1.out;omega)
   subst hA
   have X:=hid hx
   obtain⟨w2,hw2⟩:∃ u,wr.alloc (.cells #[.int .u64 (l.id:Int),.string (str l.name)] 66)=u:=⟨_,rfl⟩
   obtain⟨lb,b2,z2⟩:=bg hw2
   have B2:Hid (Below w1.heap.size w1 w2):=hid (BR.out.trans (b2.mono BR.out.size))
   obtain⟨l0,l1⟩:=aj lb
   have sz:(str l.name).size=l.name.length:=rfl
   clear hx lb b2 z2
   by_cases hl:100<l.name.length
   ·have hlz:(100:Int)<((str l.name).size:Int):=by rw [sz];omega
    clear sz
    go_wp2
    go_ret
    exact⟨false,rfl,by simp,B1.out.trans (B2.out.mono B1.out.size)⟩
   ·have hlz:¬ ((100:Int)<((str l.name).size:Int)):=by rw [sz];omega
    have U:Hid (∀ y∈ls.take (i+1),y.name.length≤100):=hid fun y hy=>by
     rw [aG X.out] at hy
     rcases List.mem_append.1 hy with q | q
     ·exact HU.out y q
     ·simp at q;subst q;omega
    clear sz
    go_wp2
    go_roundw
    case rel=>exact⟨i+1,by go_num,by omega,U,B2.out⟩
    case measure=>simp [intOf];omega
  ·obtain rfl:i=n1:=by omega
   have hltz:¬ ((i:Int)<(i:Int)):=by omega
   have UL1:Hid (∀ l∈ls,l.name.length≤100):=hid (by have:=HU.out;rwa [E1.out,List.take_length] at this)
   have pbr:=(BR.out.block w.heap.size (by have:=Z1.out;omega)).trans PB.out
   obtain⟨s0,s1⟩:=aj pbr
   have HK2:=hid (HK.out.stay BR.out)
   have B0:=hid (B1.out.trans (BR.out.mono B1.out.size))
   obtain⟨wo,hwo⟩:∃ u,u=wr:=⟨_,rfl⟩
   subst hwo
   clear p0 p1 pbr
   go_wp2
   go_loopw [32] (fun s32 wr=>∃ j:Nat,s32=.int .i64 j∧j≤n2∧Hid (∀ m∈ms.take j,m.t.title.length≤100∧m.t.tags.length≤8∧∀ x∈m.t.tags,x.length≤100)∧Aside (Below wo.heap.size wo wr)) (fun s32 _=>n2 - (intOf s32).toNat)
   case atStart=>exact⟨0,rfl,Nat.zero_le _,hid (by simp),Below.refl _ _⟩
   case round =>
    obtain⟨j,rfl,hj,HV,hB⟩:=hrel
    have CR:=hid hB.out
    clear hB
    by_cases hlt2:j<n2
    ·have iW:(j:Int)<(n2:Int):=by omega
     obtain⟨ad2,⟨tk,A3,c3⟩,hA,hx,hf,r0,r1,r2,r3,r4,r5,r6⟩:=(HK2.out.stay CR.out).at_ (k:=j) (by have:=E2.out;omega)
     subst hA
     have X:=hid hx
     have FI:=hid hf
     dsimp only at r0 r1 r2 r3 r4 r5 r6
     obtain⟨w3,hw3⟩:∃ u,wr.alloc (.cells #[.int .u64 (tk.id:Int),.int .u64 (tk.list:Int),.string (str tk.title),.bool tk.done,.float .f64 tk.rank,.float .f64 tk.est,.slice A3 tk.tags.length c3] 69)=u:=⟨_,rfl⟩
     obtain⟨tb,b3,z3⟩:=dO hw3
     have B3:Hid (Below wo.heap.size wo w3):=hid (CR.out.trans (b3.mono CR.out.size))
     have TX:=hid (xN (c:=c3) (FI.out.stay b3).gl rfl (HS.out _ (List.mem_of_getElem? X.out)))
     obtain⟨t0,t1,t2,t3,t4,t5,t6⟩:=ax tb
     have sz:(str tk.title).size=tk.title.length:=rfl
     clear hx hf tb b3 z3
     by_cases hl:100<tk.title.length
     ·have hlz:(100:Int)<((str tk.title).size:Int):=by rw [sz];omega
      clear sz
      go_wp2
      go_ret
      exact⟨false,rfl,by simp,B0.out.trans (B3.out.mono B0.out.size)⟩
     ·have hlz:¬ ((100:Int)<((str tk.title).size:Int)):=by rw [sz];omega
      clear sz
      go_wp2_with fail
      refine TX.out.mono ?_
      rintro e w4 ⟨b,rfl,hb,rfl⟩
      cases b with
      | false =>
       go_wp2
       go_ret
       exact⟨false,rfl,by simp,B0.out.trans (B3.out.mono B0.out.size)⟩
      | true =>
       have HB:=hb rfl
       have U:Hid (∀ m∈ms.take (j+1),m.t.title.length≤100∧m.t.tags.length≤8∧∀ x∈m.t.tags,x.length≤100):=hid fun y hy=>by
        rw [aG X.out] at hy
        rcases List.mem_append.1 hy with q | q
        ·exact HV.out y q
        ·simp only [List.mem_cons,List.not_mem_nil,or_false] at q
         subst q
         exact⟨by show tk.title.length≤100;omega,HB⟩
       clear hb HB
       go_wp2
       go_roundw
       case rel=>exact⟨j+1,by go_num,by omega,U,B3.out⟩
       case measure=>simp [intOf];omega
    ·obtain rfl:j=n2:=by omega
     have iW:¬ ((j:Int)<(j:Int)):=by omega
     have UV:Hid (∀ m∈ms,m.t.title.length≤100∧m.t.tags.length≤8∧∀ x∈m.t.tags,x.length≤100):=hid (by have:=HV.out;rwa [E2.out,List.take_length] at this)
     go_wp2
     go_ret
     refine⟨true,rfl,fun _=>?_,B0.out.trans (CR.out.mono B0.out.size)⟩
     have each:∀ t∈bS ms,t.title.length≤100∧t.tags.length≤8∧∀ x∈t.tags,x.length≤100:=fun t ht=>by
      obtain⟨m,hm,rfl⟩:=List.mem_map.1 ht
      exact UV.out m hm
     exact⟨by have:=E1.out;show ls.length≤25;omega,by have:=E2.out;show (bS ms).length≤70;rw [bO];omega,UL1.out,fun t ht=>(each t ht).1,fun t ht=>(each t ht).2.1,fun t ht=>(each t ht).2.2⟩
end
section
open Go.RowKit Go.Lib
@[go_sem] theorem buildK9a (w : World) : (Instr.build 69 #[(0, .int .u64 1), (1, .int .u64 2), (2, .string ⟨#[116]⟩)]).run Try.prog w = .ok (.agg #[.int .u64 1, .int .u64 2, .string ⟨#[116]⟩, .bool false, .float .f64 0, .float .f64 0, .slice none 0 0]) w := run_build w 69 _ _ (by kernel_rfl)
@[go_sem] theorem buildS9a (A : Option Addr) (n c : Nat) (w : World) : (Instr.build 28 #[(1, .slice A n c)]).run Try.prog w = .ok (.agg #[.slice none 0 0, .slice A n c]) w := run_build w 28 _ _ (by kernel_rfl)
@[go_sem] theorem buildS9b (w : World) : (Instr.build 28 #[]).run Try.prog w = .ok (.agg #[.slice none 0 0, .slice none 0 0]) w := run_build w 28 _ _ (by kernel_rfl)
end
end
section
open Go.RowKit Go.Lib Go.Sort
theorem ak {w w':World} {g:Nat} {o:Obj} (hb:w.heap[g]?=some o) (h:Below w.heap.size w w'):w'.heap[g]?=some o:=(h.block g (lt_of_block hb)).trans hb
structure SBox (m:jk) (g:Nat) (w:World):Prop where
 b:w.heap[g]?=some (.cells #[.slice m.A m.ls.length m.c,.slice m.A2 m.ms.length m.c2] 28 (0,0))
 s:SM m w
theorem SBox.cells {m:jk} {g:Nat} {w:World} (h:SBox m g w):w.cell? ⟨g,0,none⟩=some (.slice m.A m.ls.length m.c)∧w.cell? ⟨g,1,none⟩=some (.slice m.A2 m.ms.length m.c2):=aj h.b
def jk.far (m:jk):Prop:=∀ t∈m.ms,t.t.tags.length≤maxLen
end
end
end Go.Proofs.Ytcedlgedmkghgaa
