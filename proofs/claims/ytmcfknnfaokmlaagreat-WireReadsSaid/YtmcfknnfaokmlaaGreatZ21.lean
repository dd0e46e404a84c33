import Derived.Test.YtmcfknnfaokmlaaGreatZ16
import Derived.Test.YtmcfknnfaokmlaaGreatZ19
import Derived.Test.YtmcfknnfaokmlaaGreatZ20
import Derived.Test.YtmcfknnfaokmlaaGreatZ2
import Derived.Lib.QuietBelow
namespace Go.Proofs.YtmcfknnfaokmlaaGreat
set_option maxHeartbeats 16000000
open Go.Lib Go.Proofs.Tryz
set_option linter.unusedSimpArgs false
set_option maxRecDepth 100000
section
section
open Go.RowKit Go.Lib
namespace T9
def dx (l:Li):List UInt8:=Cd.num l.id++St.wb l.name
def dJ (t:Tk):List UInt8:=Cd.num t.id++Cd.num t.list++St.wb t.title++St.fl t.done++Cd.fix (Fl.key t.rank).toNat 8++Cd.fix (Fl.key t.est).toNat 8++Cd.num t.tags.length++t.tags.flatMap St.wb
def oP (s:St):List UInt8:=Cd.num s.lists.length++s.lists.flatMap dx++Cd.num s.tasks.length++s.tasks.flatMap dJ
structure St.pF (s:St):Prop where
 nl:s.lists.length≤25
 nt:s.tasks.length≤70
 name:∀ l∈s.lists,l.name.length≤100
 title:∀ t∈s.tasks,t.title.length≤100
 few:∀ t∈s.tasks,t.tags.length≤8
 tag:∀ t∈s.tasks,∀ x∈t.tags,x.length≤100
theorem St.pF.short {s:St} (h:s.pF):s.short:=⟨fun l hl=>by have:=h.name l hl;omega,fun t ht=>⟨by have:=h.title t ht;omega,fun x hx=>by have:=h.tag t ht x hx;omega,by have:=h.few t ht;omega⟩,by have:=h.nl;omega,by have:=h.nt;omega⟩
theorem cO {α:Type} {f:α→List UInt8} {c:Nat}:∀ {l:List α},(∀ x∈l,(f x).length≤c)→(l.flatMap f).length≤c * l.length
 | [],_=>by simp
 | x :: l,h=>by
  have i:=cO (f:=f) (c:=c) (l:=l) fun y hy=>h y (List.mem_cons_of_mem _ hy)
  have:=h x (List.mem_cons_self ..)
  rw [List.flatMap_cons,List.length_append,List.length_cons,Nat.mul_add]
  omega
theorem fI {b:List UInt8} {c:Nat} (h:b.length≤c):(St.wb b).length≤c+9:=by
 unfold St.wb
 have:=ax b.length
 rw [List.length_append]
 omega
theorem ve {l:Li} (h:l.name.length≤100):(dx l).length≤118:=by
 unfold dx
 have:=ax l.id
 have:=fI h
 rw [List.length_append]
 omega
theorem vg {t:Tk} (h:t.title.length≤100) (h2:t.tags.length≤8) (h3:∀ x∈t.tags,x.length≤100):(dJ t).length≤1100:=by
 unfold dJ
 have:=ax t.id
 have:=ax t.list
 have:=ax t.tags.length
 have:=fI h
 have:=cO (f:=St.wb) (c:=109) fun x hx=>fI (h3 x hx)
 have:(St.fl t.done).length=1:=rfl
 simp only [List.length_append,Cd.aC]
 omega
end T9
theorem ku {B p:Nat} {l:List UInt8} {w:World} (h:WS B w p l) (hs:l.length≤1099511627776) :
  Calls prog 22 #[.pointer (some ⟨p,0,none⟩)] w (dW l w):=by
 obtain⟨_,A,c,hp,ho⟩:=h
 have c0:w.cell? ⟨p,0,none⟩=some (.slice A l.length c):=by simp [World.cell?,hp]
 have HO:=hid ho
 clear hp ho
 go_enter func22,ntmps22
 go_wp2_with fail
 refine (sU (aD (B:=0) HO.out) (Nat.zero_le _) rfl hs).mono ?_
 rintro e w' ⟨A2,n2,c2,rfl,ho,hb⟩
 have oH:=hid ho
 have HB:=hid hb
 clear ho hb
 go_wp2
 go_ret
 exact⟨A2,n2,c2,rfl,oH.out,HB.out⟩
theorem Ee {B p g:Nat} {l:List UInt8} {w:World} (a b:Nat) (hg:g=w.heap.size) (h:WS B w p l) (ha:a<18446744073709551616) (hb:b<18446744073709551616) (hs:l.length+18≤1000000000000) :
  Calls prog 17 #[.pointer (some ⟨p,0,none⟩),.slice (some ⟨g,0,none⟩) 2 2] (w.alloc (.cells #[.int .u64 (a:Int),.int .u64 (b:Int)] 22)) fun e w'=>e=.returned (.tuple #[])∧WS B w' p (l++(Cd.num a++Cd.num b))∧aG B [51,5] w w':=by
 subst hg
 have hL:av (w.alloc (.cells #[.int .u64 (a:Int),.int .u64 (b:Int)] 22)) B 22 (some ⟨w.heap.size,0,none⟩) ([(a:Int),(b:Int)].map (Value.int .u64)):=av.dD (heap_alloc_new w _)
 refine (wN_c (h.alloc _) hL rfl (by intro n hn;simp at hn;rcases hn with rfl | rfl <;> omega) (by simpa using hs)).mono fun e w' q=>⟨q.1,by simpa [nums] using q.2.1,?_⟩
 exact ((aG.refl B _ w).alloc h.size _).trans q.2.2
theorem put9_c {A A2:Option Addr} {n1 n2 c c2:Nat} {ls:List T9.Li} {ms:List fJ} {w:World} (hl:LL w A ls) (hk:KL w A2 ms) (e1:n1=ls.length) (e2:n2=ms.length) (hs:(⟨ls,bg ms⟩:T9.St).pF) (ho:(⟨ls,bg ms⟩:T9.St).ok) :
  Calls prog 20 #[.agg #[.slice A n1 c,.slice A2 n2 c2]] w (dW (T9.oP ⟨ls,bg ms⟩) w):=by
 have E1:=hid e1
 have E2:=hid e2
 have HS:=hid hs
 have HO:=hid ho
 have HL:=hid hl
 have HK:=hid hk
 obtain⟨w0,hw0⟩:∃ u,w.alloc (.cells #[.slice A n1 c,.slice A2 n2 c2] 28)=u:=⟨_,rfl⟩
 obtain⟨Dw,b0,z0⟩:=aM hw0
 obtain⟨w1,hw1⟩:∃ u,w0.alloc (.cells #[.slice none 0 0] 51)=u:=⟨_,rfl⟩
 have pw:WS w.heap.size w1 (w.heap.size+1) []:=by
  refine⟨Nat.le_succ _,none,0,?_,World.ownsRow_nil _ _ _ _⟩
  rw [← hw1,← z0]
  exact heap_alloc_new w0 _
 have b1:Below w.heap.size w w1:=by rw [← hw1];exact b0.alloc (by omega) _
 have m_:w1.heap[w.heap.size]?=some (.cells #[.slice A n1 c,.slice A2 n2 c2] 28 (0,0)):=by rw [← hw1];exact aW Dw _
 have z1:w1.heap.size=w.heap.size+2:=by rw [← hw1,World.size_alloc,z0]
 have B1:=hid b1
 have Z1:=hid z1
 have PB:=hid m_
 have W0:=hid pw
 have sm1:n1≤25:=by have:=hs.nl;simp at this;omega
 have sm2:n2≤70:=by have:=hs.nt;rw [bv] at this;omega
 have hwrap:IntKind.u64.wrap (n1:Int)=(n1:Int):=by rw [Fl.wrap_u64];omega
 have hwrap2:IntKind.u64.wrap (n2:Int)=(n2:Int):=by rw [Fl.wrap_u64];omega
 have FL:Hid (∀ k,((ls.take k).flatMap T9.dx).length≤118 * 25):=hid fun k=>by
  have q:=T9.cO (f:=T9.dx) (c:=118) (l:=ls.take k) fun x hx=>T9.ve (hs.name x (List.mem_of_mem_take hx))
  have:=hs.nl
  rw [List.length_take] at q
  simp at this
  omega
 have FK:Hid (∀ k,((bg (ms.take k)).flatMap T9.dJ).length≤1100 * 70):=hid fun k=>by
  have q:=T9.cO (f:=T9.dJ) (c:=1100) (l:=bg (ms.take k)) fun x hx=>by
   obtain⟨m,hm,rfl⟩:=List.mem_map.1 hx
   have hm':m.t∈bg ms:=List.mem_map.2 ⟨m,List.mem_of_mem_take hm,rfl⟩
   exact T9.vg (hs.title _ hm') (hs.few _ hm') (hs.tag _ hm')
  rw [bv,List.length_take] at q
  omega
 obtain⟨p0,p1⟩:=ai m_
 have Tw1:=hid (aG.refl w.heap.size [51,5] w1)
 clear hl hk e1 e2 hs ho Dw b0 pw b1 m_ z1
 go_enter func20,ntmps20
 go_wp2_with fail
 refine (sD n1 rfl W0.out rfl (by omega) (by simp)).mono ?_
 rintro e w2 ⟨rfl,hw,ht⟩
 obtain⟨a1,ma⟩:∃ a,a=[]++Cd.num n1:=⟨_,rfl⟩
 have hw:WS w.heap.size w2 (w.heap.size+1) ([]++Cd.num n1):=hw
 rw [← ma] at hw
 have Wa1:=hid hw
 have BC:=hid ma
 have na1:a1.length≤9:=by
  rw [ma,List.length_append]
  have:=ax n1
  simp only [List.length_nil]
  omega
 have xk:=hid (Tw1.out.trans ht)
 clear hw ma ht
 have fT:=xk.out.blk PB.out (by decide)
 obtain⟨p20,p21⟩:=ai fT
 clear p0 p1
 go_wp2_with fail
 go_loopw [22] (fun s22 wr=>∃ k:Nat,s22=.int .i64 k∧k≤n1∧Aside (WS w.heap.size wr (w.heap.size+1) (a1++(ls.take k).flatMap T9.dx))∧Aside (aG w.heap.size [51,5] w1 wr)) (fun s22 _=>n1 - (intOf s22).toNat)
 case atStart=>exact⟨0,rfl,Nat.zero_le _,(by simpa using Wa1.out:WS w.heap.size w2 (w.heap.size+1) (a1++(ls.take 0).flatMap T9.dx)),xk.out⟩
 case round =>
  obtain⟨k,rfl,hk,hW,hT⟩:=hrel
  have wU:=hid hT.out
  have WW:=hid hW.out
  clear hT hW
  by_cases hlt:k<n1
  ·have hltz:(k:Int)<(n1:Int):=by omega
   have BW:=hid (B1.out.trans wU.out.below)
   obtain⟨ad,l,hA,hx,r0,r1⟩:=(HL.out.stay BW.out).at_ (k:=k) (by have:=E1.out;omega)
   subst hA
   have X:=hid hx
   have li:l.id<18446744073709551616:=HO.out.1 l (List.mem_of_getElem? hx)
   have ln:Hid (l.name.length≤100):=hid (HS.out.name l (List.mem_of_getElem? hx))
   have fk:=FL.out k
   obtain⟨wq,hwq⟩:∃ u,wr.alloc (.cells #[.int .u64 (l.id:Int),.string (str l.name)] 94)=u:=⟨_,rfl⟩
   obtain⟨lb,b2,z2⟩:=aM hwq
   obtain⟨l0,l1⟩:=ai lb
   have LB:=hid lb
   have Ba:Hid (aG w.heap.size [51,5] w1 wq):=hid (by rw [← hwq];exact wU.out.alloc (by have:=wU.out.below.size;have:=Z1.out;omega) _)
   have WQ:Hid (WS w.heap.size wq (w.heap.size+1) (a1++(ls.take k).flatMap T9.dx)):=hid (by rw [← hwq];exact WW.out.alloc _)
   clear hx lb b2 z2
   go_wp2_with fail
   refine (sD l.id rfl WQ.out rfl li (by rw [List.length_append];omega)).mono ?_
   rintro e w3 ⟨rfl,hw,ht⟩
   obtain⟨b0,uk⟩:∃ a,a=a1++(ls.take k).flatMap T9.dx:=⟨_,rfl⟩
   have Qb0:=hid uk
   have nb0:b0.length≤3000:=by rw [uk,List.length_append];omega
   rw [← uk] at hw
   clear uk
   have LB3:=hid (ht.blk LB.out (by decide))
   obtain⟨b1,qb1⟩:∃ a,a=b0++Cd.num l.id:=⟨_,rfl⟩
   have hw:WS w.heap.size w3 (w.heap.size+1) (b0++Cd.num l.id):=hw
   rw [← qb1] at hw
   have Wb1:=hid hw
   have Qb1:=hid qb1
   have nb1:b1.length≤3009:=by
    rw [qb1,List.length_append]
    have:=ax l.id
    omega
   have yD:=hid (Ba.out.trans ht)
   clear hw qb1 ht
   obtain⟨l30,l31⟩:=ai LB3.out
   obtain⟨ck,hcv,hck⟩:=jl l.name w3
   have lk:l.name.length≤100:=ln.out
   have W3:=hid (lG Wb1.out (.cells (bytesRow (str l.name) ck) 5 ((bytesRow (str l.name) ck).size,(bytesRow (str l.name) ck).size+1)) (g:=w3.heap.size) rfl)
   have L3:=hid (iq l.name ck w3 (fr:=((bytesRow (str l.name) ck).size,(bytesRow (str l.name) ck).size+1)) (g:=w3.heap.size) rfl)
   have PN:w3.heap.size≠w.heap.size+1:=by have:=yD.out.below.size;have:=Z1.out;omega
   have TA:=hid ((yD.out.alloc (by have:=yD.out.below.size;have:=Z1.out;omega) (.cells (bytesRow (str l.name) ck) 5 ((bytesRow (str l.name) ck).size,(bytesRow (str l.name) ck).size+1))).drew)
   go_wp2_with fail
   refine (zw W3.out (by simp) PN L3.out rfl (by omega) (by omega)).mono ?_
   rintro e w4 ⟨rfl,hw,ht⟩
   obtain⟨b2,qb2⟩:∃ a,a=b1++St.wb l.name:=⟨_,rfl⟩
   have hw:WS w.heap.size w4 (w.heap.size+1) (b1++St.wb l.name):=hw
   rw [← qb2] at hw
   have Wb2:=hid hw
   have Qb2:=hid qb2
   have nb2:b2.length≤3200:=by
    rw [qb2,List.length_append]
    have:=T9.fI lk
    omega
   have zH:=hid (TA.out.trans ht)
   clear hw qb2 ht
   clear hcv hck lk W3 L3 PN TA
   go_wp2
   go_roundw
   case rel =>
    refine⟨k+1,by go_num,by omega,?_,zH.out⟩
    have e:b2=a1++(ls.take (k+1)).flatMap T9.dx:=by
     rw [Qb2.out,Qb1.out,Qb0.out,aF X.out,List.flatMap_append]
     simp [T9.dx]
    rw [← e]
    exact Wb2.out
   case measure=>simp [intOf];omega
  ·obtain rfl:k=n1:=by omega
   have hltz:¬ ((k:Int)<(k:Int)):=by omega
   have xW:=wU.out.blk PB.out (by decide)
   obtain⟨s0,s1⟩:=ai xW
   have fk:=FL.out k
   obtain⟨c0,qc0⟩:∃ a,a=a1++(ls.take k).flatMap T9.dx:=⟨_,rfl⟩
   have Qc0:=hid qc0
   have nc0:c0.length≤3000:=by rw [qc0,List.length_append];omega
   have WC:Hid (WS w.heap.size wr (w.heap.size+1) c0):=hid (by rw [qc0];exact WW.out)
   clear qc0 p20 p21 fT fk
   go_wp2_with fail
   refine (sD n2 rfl WC.out rfl (by omega) (by omega)).mono ?_
   rintro e w5 ⟨rfl,hw,ht⟩
   obtain⟨c1,qc1⟩:∃ a,a=c0++Cd.num n2:=⟨_,rfl⟩
   have hw:WS w.heap.size w5 (w.heap.size+1) (c0++Cd.num n2):=hw
   rw [← qc1] at hw
   have Wc1:=hid hw
   have Qc1:=hid qc1
   have nc1:c1.length≤3009:=by
    rw [qc1,List.length_append]
    have:=ax n2
    omega
   have A_:=hid (wU.out.trans ht)
   clear hw qc1 ht
   have pb5:=A_.out.blk PB.out (by decide)
   obtain⟨s50,s51⟩:=ai pb5
   clear s0 s1 xW pb5
   go_wp2_with fail
   go_loopw [47] (fun s47 wr=>∃ k:Nat,s47=.int .i64 k∧k≤n2∧Aside (WS w.heap.size wr (w.heap.size+1) (c1++(bg (ms.take k)).flatMap T9.dJ))∧Aside (aG w.heap.size [51,5] w1 wr)) (fun s47 _=>n2 - (intOf s47).toNat)
   case atStart=>exact⟨0,rfl,Nat.zero_le _,(by simpa [bg] using Wc1.out:WS w.heap.size w5 (w.heap.size+1) (c1++(bg (ms.take 0)).flatMap T9.dJ)),A_.out⟩
   case round =>
    obtain⟨wo,hwo⟩:∃ u,u=wr:=⟨_,rfl⟩
    subst hwo
    obtain⟨i,rfl,hi,hW,hT⟩:=hrel
    have Two:=hid hT.out
    have WW2:=hid hW.out
    clear hT hW
    by_cases hlt2:i<n2
    ·have eD:(i:Int)<(n2:Int):=by omega
     have BW:=hid (B1.out.trans Two.out.below)
     obtain⟨iD,⟨tk,A3,c3⟩,hA,hx,hf,r0,r1,r2,r3,r4,r5,r6⟩:=(HK.out.stay BW.out).at_ (k:=i) (by have:=E2.out;omega)
     subst hA
     have X:=hid hx
     have mem:tk∈bg ms:=List.mem_map.2 ⟨_,List.mem_of_getElem? hx,rfl⟩
     have FI:Hid ((⟨tk,A3,c3⟩:fJ).fine w):=hid (HK.out.2 _ (List.mem_of_getElem? hx))
     have Dr:=HO.out.2 tk mem
     have o1:=Dr.1
     have o2:=Dr.2.1
     have o3:=Dr.2.2.1
     have o4:=Dr.2.2.2
     have l1:Hid (tk.title.length≤100):=hid (HS.out.title tk mem)
     have l2:tk.tags.length≤8:=HS.out.few tk mem
     have l3:Hid (∀ x∈tk.tags,x.length≤100):=hid (HS.out.tag tk mem)
     have fk:=FK.out i
     have hwrap3:IntKind.u64.wrap (tk.tags.length:Int)=(tk.tags.length:Int):=by rw [Fl.wrap_u64];omega
     dsimp only at r0 r1 r2 r3 r4 r5 r6
     obtain⟨wq,hwq⟩:∃ u,wo.alloc (.cells #[.int .u64 (tk.id:Int),.int .u64 (tk.list:Int),.string (str tk.title),.bool tk.done,.float .f64 tk.rank,.float .f64 tk.est,.slice A3 tk.tags.length c3] 97)=u:=⟨_,rfl⟩
     obtain⟨lb,b2,z2⟩:=bP hwq
     obtain⟨l0,l1',l2',l3',l4,l5,l6⟩:=ak lb
     have LB:=hid lb
     have Ba:Hid (aG w.heap.size [51,5] w1 wq):=hid (by rw [← hwq];exact Two.out.alloc (by have:=Two.out.below.size;have:=Z1.out;omega) _)
     have WQ:Hid (WS w.heap.size wq (w.heap.size+1) (c1++(bg (ms.take i)).flatMap T9.dJ)):=hid (by rw [← hwq];exact WW2.out.alloc _)
     obtain⟨d0,qd0⟩:∃ a,a=c1++(bg (ms.take i)).flatMap T9.dJ:=⟨_,rfl⟩
     have Qd0:=hid qd0
     have nd0:d0.length≤80100:=by rw [qd0,List.length_append];omega
     have WD:Hid (WS w.heap.size wq (w.heap.size+1) d0):=hid (by rw [qd0];exact WQ.out)
     clear hx lb b2 z2 qd0 WQ mem Dr fk
     go_wp2_with fail
     refine (Ee tk.id tk.list rfl WD.out o1 o2 (by omega)).mono ?_
     rintro e w6 ⟨rfl,hw,ht⟩
     have AU:=hid (ht.blk LB.out (by decide))
     obtain⟨d1,qd1⟩:∃ a,a=d0++(Cd.num tk.id++Cd.num tk.list):=⟨_,rfl⟩
     have hw:WS w.heap.size w6 (w.heap.size+1) (d0++(Cd.num tk.id++Cd.num tk.list)):=hw
     rw [← qd1] at hw
     have Wd1:=hid hw
     have Qd1:=hid qd1
     have nd1:d1.length≤80200:=by
      rw [qd1,List.length_append]
      have:=ax tk.id
      have:=ax tk.list
      rw [List.length_append]
      omega
     have BK:=hid (Ba.out.trans ht)
     clear hw qd1 ht
     obtain⟨x60,x61,x62,x63,x64,x65,x66⟩:=ak AU.out
     obtain⟨ck,hcv,hck⟩:=jl tk.title w6
     have lk:tk.title.length≤100:=l1.out
     have W3:=hid (lG Wd1.out (.cells (bytesRow (str tk.title) ck) 5 ((bytesRow (str tk.title) ck).size,(bytesRow (str tk.title) ck).size+1)) (g:=w6.heap.size) rfl)
     have L3:=hid (iq tk.title ck w6 (fr:=((bytesRow (str tk.title) ck).size,(bytesRow (str tk.title) ck).size+1)) (g:=w6.heap.size) rfl)
     have PN:w6.heap.size≠w.heap.size+1:=by have:=BK.out.below.size;have:=Z1.out;omega
     have TA:=hid ((BK.out.alloc (by have:=BK.out.below.size;have:=Z1.out;omega) (.cells (bytesRow (str tk.title) ck) 5 ((bytesRow (str tk.title) ck).size,(bytesRow (str tk.title) ck).size+1))).drew)
     go_wp2_with fail
     refine (zw W3.out (by simp) PN L3.out rfl (by omega) (by omega)).mono ?_
     rintro e w7 ⟨rfl,hw,ht⟩
     have uH:=hid (ht.blk (aW AU.out _) (by decide))
     obtain⟨d2,qd2⟩:∃ a,a=d1++St.wb tk.title:=⟨_,rfl⟩
     have hw:WS w.heap.size w7 (w.heap.size+1) (d1++St.wb tk.title):=hw
     rw [← qd2] at hw
     have Wd2:=hid hw
     have Qd2:=hid qd2
     have nd2:d2.length≤80400:=by
      rw [qd2,List.length_append]
      have:=T9.fI lk
      omega
     have BL:=hid (TA.out.trans ht)
     clear hw qd2 ht
     clear hcv hck lk W3 L3 PN TA
     clear x60 x61 x62 x63 x64 x65 x66
     obtain⟨x70,x71,x72,x73,x74,x75,x76⟩:=ak uH.out
     go_wp2_with fail
     refine (wG_c Wd2.out (by omega)).mono ?_
     rintro e w8 ⟨rfl,hw,ht⟩
     have nL:=hid (ht.blk uH.out (by decide))
     obtain⟨d3,qd3⟩:∃ a,a=d2++St.fl tk.done:=⟨_,rfl⟩
     have hw:WS w.heap.size w8 (w.heap.size+1) (d2++St.fl tk.done):=hw
     rw [← qd3] at hw
     have Wd3:=hid hw
     have Qd3:=hid qd3
     have nd3:d3.length≤80401:=by
      rw [qd3,List.length_append]
      have:(St.fl tk.done).length=1:=rfl
      omega
     have BM:=hid (BL.out.trans ht)
     clear hw qd3 ht
     clear x70 x71 x72 x73 x74 x75 x76
     obtain⟨x80,x81,x82,x83,x84,x85,x86⟩:=ak nL.out
     go_wp2_with fail
     refine (wF_c Wd3.out o3 (by omega)).mono ?_
     rintro e w9 ⟨rfl,hw,ht⟩
     have Bv:=hid (ht.blk nL.out (by decide))
     obtain⟨d4,qd4⟩:∃ a,a=d3++Cd.fix (Fl.key tk.rank).toNat 8:=⟨_,rfl⟩
     have hw:WS w.heap.size w9 (w.heap.size+1) (d3++Cd.fix (Fl.key tk.rank).toNat 8):=hw
     rw [← qd4] at hw
     have Wd4:=hid hw
     have Qd4:=hid qd4
     have nd4:d4.length≤80409:=by
      rw [qd4,List.length_append]
      rw [Cd.aC]
      omega
     have Tw9:=hid (BM.out.trans ht)
     clear hw qd4 ht
     clear x80 x81 x82 x83 x84 x85 x86
     obtain⟨x90,x91,x92,x93,x94,x95,x96⟩:=ak Bv.out
     go_wp2_with fail
     refine (wF_c Wd4.out o4 (by omega)).mono ?_
     rintro e lv ⟨rfl,hw,ht⟩
     have zF:=hid (ht.blk Bv.out (by decide))
     obtain⟨d5,qd5⟩:∃ a,a=d4++Cd.fix (Fl.key tk.est).toNat 8:=⟨_,rfl⟩
     have hw:WS w.heap.size lv (w.heap.size+1) (d4++Cd.fix (Fl.key tk.est).toNat 8):=hw
     rw [← qd5] at hw
     have Wd5:=hid hw
     have Qd5:=hid qd5
     have nd5:d5.length≤80417:=by
      rw [qd5,List.length_append]
      rw [Cd.aC]
      omega
     have sJ:=hid (Tw9.out.trans ht)
     clear hw qd5 ht
     clear x90 x91 x92 x93 x94 x95 x96
     obtain⟨x100,x101,x102,x103,x104,x105,x106⟩:=ak zF.out
     go_wp2_with fail
     refine (sD tk.tags.length rfl Wd5.out rfl (by omega) (by omega)).mono ?_
     rintro e mI ⟨rfl,hw,ht⟩
     have Bu:=hid (ht.blk zF.out (by decide))
     obtain⟨d6,qd6⟩:∃ a,a=d5++Cd.num tk.tags.length:=⟨_,rfl⟩
     have hw:WS w.heap.size mI (w.heap.size+1) (d5++Cd.num tk.tags.length):=hw
     rw [← qd6] at hw
     have Wd6:=hid hw
     have Qd6:=hid qd6
     have nd6:d6.length≤80426:=by
      rw [qd6,List.length_append]
      have:=ax tk.tags.length
      omega
     have qK:=hid (sJ.out.trans ht)
     clear hw qd6 ht
     clear x100 x101 x102 x103 x104 x105 x106
     obtain⟨x110,x111,x112,x113,x114,x115,x116⟩:=ak Bu.out
     have FT:Hid (∀ j,((tk.tags.take j).flatMap St.wb).length≤109 * 8):=hid fun j=>by
      have q:=T9.cO (f:=St.wb) (c:=109) (l:=tk.tags.take j) fun x hx=>T9.fI (l3.out x (List.mem_of_mem_take hx))
      rw [List.length_take] at q
      omega
     go_wp2_with fail
     go_loopw [85] (fun s85 wr=>∃ j:Nat,s85=.int .i64 j∧j≤tk.tags.length∧Aside (WS w.heap.size wr (w.heap.size+1) (d6++(tk.tags.take j).flatMap St.wb))∧Aside (aG w.heap.size [51,5] w1 wr)) (fun s85 _=>tk.tags.length - (intOf s85).toNat)
     case atStart=>exact⟨0,rfl,Nat.zero_le _,(by simpa using Wd6.out:WS w.heap.size mI (w.heap.size+1) (d6++(tk.tags.take 0).flatMap St.wb)),qK.out⟩
     case round =>
      obtain⟨j,rfl,hj,hW,hT⟩:=hrel
      have wU:=hid hT.out
      have WW3:=hid hW.out
      clear hT hW
      by_cases hlt3:j<tk.tags.length
      ·have lN:(j:Int)<(tk.tags.length:Int):=by omega
       obtain⟨ad3,x,hA,hx,hc⟩:=(FI.out.gl.stay (B1.out.trans wU.out.below)).at_ (k:=j) hlt3
       have hA:A3=some ad3:=hA
       subst hA
       have hx:tk.tags[j]?=some x:=hx
       have XX:=hid hx
       have lx:=hid (l3.out x (List.mem_of_getElem? hx))
       have ft:=FT.out j
       obtain⟨e0,nS⟩:∃ a,a=d6++(tk.tags.take j).flatMap St.wb:=⟨_,rfl⟩
       have Qe0:=hid nS
       have ne0:e0.length≤82000:=by rw [nS,List.length_append];omega
       have We0:Hid (WS w.heap.size wr (w.heap.size+1) e0):=hid (by rw [nS];exact WW3.out)
       clear hx nS ft
       obtain⟨ck,hcv,hck⟩:=jl x wr
       have lk:x.length≤100:=lx.out
       have W3:=hid (lG We0.out (.cells (bytesRow (str x) ck) 5 ((bytesRow (str x) ck).size,(bytesRow (str x) ck).size+1)) (g:=wr.heap.size) rfl)
       have L3:=hid (iq x ck wr (fr:=((bytesRow (str x) ck).size,(bytesRow (str x) ck).size+1)) (g:=wr.heap.size) rfl)
       have PN:wr.heap.size≠w.heap.size+1:=by have:=wU.out.below.size;have:=Z1.out;omega
       have TA:=hid ((wU.out.alloc (by have:=wU.out.below.size;have:=Z1.out;omega) (.cells (bytesRow (str x) ck) 5 ((bytesRow (str x) ck).size,(bytesRow (str x) ck).size+1))).drew)
       go_wp2_with fail
       refine (zw W3.out (by simp) PN L3.out rfl (by omega) (by omega)).mono ?_
       rintro e mK ⟨rfl,hw,ht⟩
       obtain⟨e1,qe1⟩:∃ a,a=e0++St.wb x:=⟨_,rfl⟩
       have hw:WS w.heap.size mK (w.heap.size+1) (e0++St.wb x):=hw
       rw [← qe1] at hw
       have We1:=hid hw
       have Qe1:=hid qe1
       have ne1:e1.length≤82200:=by
        rw [qe1,List.length_append]
        have:=T9.fI lk
        omega
       have BJ:=hid (TA.out.trans ht)
       clear hw qe1 ht
       clear hcv hck lk W3 L3 PN TA
       go_wp2
       go_roundw
       case rel =>
        refine⟨j+1,by go_num,by omega,?_,BJ.out⟩
        have e:e1=d6++(tk.tags.take (j+1)).flatMap St.wb:=by
         rw [Qe1.out,Qe0.out,aF XX.out,List.flatMap_append]
         simp
        rw [← e]
        exact We1.out
       case measure=>simp [intOf];omega
      ·obtain rfl:j=tk.tags.length:=by omega
       have lN:¬ ((tk.tags.length:Int)<(tk.tags.length:Int)):=by omega
       go_wp2
       go_roundw
       case rel =>
        refine⟨i+1,by go_num,by omega,?_,wU.out⟩
        have e:d6++(tk.tags.take tk.tags.length).flatMap St.wb=c1++(bg (ms.take (i+1))).flatMap T9.dJ:=by
         rw [Qd6.out,Qd5.out,Qd4.out,Qd3.out,Qd2.out,Qd1.out,Qd0.out,aF X.out,gq,List.flatMap_append,List.take_length]
         simp [T9.dJ]
        rw [← e]
        exact WW3.out
       case measure=>simp [intOf];omega
    ·obtain rfl:i=n2:=by omega
     have eD:¬ ((i:Int)<(i:Int)):=by omega
     have fk:=FK.out i
     have EN:Hid (c1++(bg (ms.take i)).flatMap T9.dJ=T9.oP ⟨ls,bg ms⟩):=hid (by
      rw [Qc1.out,Qc0.out,BC.out]
      have q1:=E1.out
      have q2:=E2.out
      unfold T9.oP
      dsimp only
      rw [← q1,bv,← q2]
      rw [q1,List.take_length,q2,List.take_length]
      simp)
     have BY:=hid (ku WW2.out (by rw [List.length_append];omega))
     rw [EN.out] at BY
     go_wp2_with fail
     refine BY.out.mono ?_
     rintro e mK ⟨A9,n9,c9,rfl,ho,hb⟩
     have HO9:=hid ho
     have HB9:=hid hb
     clear ho hb
     go_wp2
     go_ret
     have BF:=B1.out.trans Two.out.below
     exact⟨A9,n9,c9,rfl,gp HO9.out BF.size,BF.trans (HB9.out.mono BF.size)⟩
end
section
section
open Go.RowKit Go.Lib
def BI (ts:List (List UInt8)) (w:World) (e:Ending) (w':World):Prop:=∃ b,e=.returned (.bool b)∧(b=true→ts.length≤8∧∀ x∈ts,x.length≤100)∧w=w'
def uJ (s:T9.St) (w:World) (e:Ending) (w':World):Prop:=∃ b,e=.returned (.bool b)∧(b=true→s.pF)∧Below w.heap.size w w'
theorem D8 {A:Option Addr} {n c:Nat} {ts:List (List UInt8)} {w:World} (h:GL w A ts) (hn:n=ts.length) (hs:n≤maxLen) :
  Calls prog 52 #[.slice A n c] w (BI ts w):=by
 have H:=hid h
 have HN:=hid hn
 have hs:n≤9223372036854775807:=by unfold maxLen at hs;omega
 clear h hn
 go_enter func52,ntmps52
 go_wp2
 go_loopw [7] (fun s7 wr=>∃ i:Nat,s7=.int .i64 i∧i≤n∧Hid (∀ x∈ts.take i,x.length≤100)∧w=wr) (fun s7 _=>n - (intOf s7).toNat)
 case atStart=>exact⟨0,rfl,Nat.zero_le _,hid (by simp),rfl⟩
 case round =>
  obtain⟨i,rfl,hi,HU,rfl⟩:=hrel
  by_cases hlt:i<n
  ·have hltz:(i:Int)<(n:Int):=by omega
   obtain⟨ad,x,hA,hx,hc⟩:=H.out.at_ (k:=i) (by rw [← HN.out];exact hlt)
   subst hA
   have X:=hid hx
   have sz:(str x).size=x.length:=rfl
   clear hx
   by_cases hl:100<x.length
   ·have hlz:(100:Int)<((str x).size:Int):=by rw [sz];omega
    clear sz
    go_wp2
    go_ret
    exact⟨false,rfl,by simp,rfl⟩
   ·have hlz:¬ ((100:Int)<((str x).size:Int)):=by rw [sz];omega
    have U:Hid (∀ y∈ts.take (i+1),y.length≤100):=hid fun y hy=>by
     rw [aF X.out] at hy
     rcases List.mem_append.1 hy with q | q
     ·exact HU.out y q
     ·simp at q;subst q;omega
    clear sz
    go_wp2
    go_roundw
    case rel=>exact⟨i+1,by go_num,by omega,U,by simp⟩
    case measure=>simp [intOf];omega
  ·obtain rfl:i=n:=by omega
   have hltz:¬ ((i:Int)<(i:Int)):=by omega
   have U:=hid HU.out
   by_cases h8:i≤8
   ·have hz:(i:Int)≤8:=by omega
    go_wp2
    go_ret
    exact⟨true,aj (by simp),fun _=>⟨by rw [← HN.out];exact h8,by have:=U.out;rwa [HN.out,List.take_length] at this⟩,rfl⟩
   ·have hz:¬ ((i:Int)≤8):=by omega
    go_wp2
    go_ret
    exact⟨false,aj (by simp),by simp,rfl⟩
theorem CX {A A2:Option Addr} {n1 n2 c c2:Nat} {ls:List T9.Li} {ms:List fJ} {w:World} (hl:LL w A ls) (hk:KL w A2 ms) (e1:n1=ls.length) (e2:n2=ms.length) (hs:∀ m∈ms,m.t.tags.length≤maxLen) :
  Calls prog 16 #[.agg #[.slice A n1 c,.slice A2 n2 c2]] w (uJ ⟨ls,bg ms⟩ w):=by
 have E1:=hid e1
 have E2:=hid e2
 have HS:=hid hs
 obtain⟨w1,hw1⟩:∃ u,w.alloc (.cells #[.slice A n1 c,.slice A2 n2 c2] 28)=u:=⟨_,rfl⟩
 obtain⟨pb,b1,z1⟩:=aM hw1
 have PB:=hid pb
 have B1:=hid b1
 have HL:=hid (hl.stay b1)
 have HK:=hid (hk.stay b1)
 have Z1:=hid z1
 obtain⟨p0,p1⟩:=ai pb
 clear hl hk e1 e2 hs pb b1 z1
 by_cases hm1:25<n1
 ·have hmz:(25:Int)<(n1:Int):=by omega
  go_enter func16,ntmps16
  go_wp2
  go_ret
  exact⟨false,rfl,by simp,B1.out⟩
 have hmz:¬ ((25:Int)<(n1:Int)):=by omega
 by_cases hm2:70<n2
 ·have Cu:(70:Int)<(n2:Int):=by omega
  go_enter func16,ntmps16
  go_wp2
  go_ret
  exact⟨false,rfl,by simp,B1.out⟩
 have Cu:¬ ((70:Int)<(n2:Int)):=by omega
 have m1:n1≤25:=by omega
 have m2:n2≤70:=by omega
 clear hm1 hm2
 go_enter func16,ntmps16
 go_wp2
 go_loopw [20] (fun s20 wr=>∃ i:Nat,s20=.int .i64 i∧i≤n1∧Hid (∀ l∈ls.take i,l.name.length≤100)∧Aside (Below w1.heap.size w1 wr)) (fun s20 _=>n1 - (intOf s20).toNat)
 case atStart=>exact⟨0,rfl,Nat.zero_le _,hid (by simp),Below.refl _ _⟩
 case round =>
  obtain⟨i,rfl,hi,HU,hB⟩:=hrel
  have BR:=hid hB.out
  clear hB
  by_cases hlt:i<n1
  ·have hltz:(i:Int)<(n1:Int):=by omega
   obtain⟨ad,l,hA,hx,q0,q1⟩:=(HL.out.stay BR.out).at_ (k:=i) (by have:=E1.out;omega)
   subst hA
   have X:=hid hx
   obtain⟨w2,hw2⟩:∃ u,wr.alloc (.cells #[.int .u64 (l.id:Int),.string (str l.name)] 94)=u:=⟨_,rfl⟩
   obtain⟨lb,b2,z2⟩:=aM hw2
   have B2:Hid (Below w1.heap.size w1 w2):=hid (BR.out.trans (b2.mono BR.out.size))
   obtain⟨l0,l1⟩:=ai lb
   have sz:(str l.name).size=l.name.length:=rfl
   clear hx lb b2 z2
   by_cases hl:100<l.name.length
   ·have hlz:(100:Int)<((str l.name).size:Int):=by rw [sz];omega
    clear sz
    go_wp2
    go_ret
    exact⟨false,rfl,by simp,B1.out.trans (B2.out.mono B1.out.size)⟩
   ·have hlz:¬ ((100:Int)<((str l.name).size:Int)):=by rw [sz];omega
    have U:Hid (∀ y∈ls.take (i+1),y.name.length≤100):=hid fun y hy=>by
     rw [aF X.out] at hy
     rcases List.mem_append.1 hy with q | q
     ·exact HU.out y q
     ·simp at q;subst q;omega
    clear sz
    go_wp2
    go_roundw
    case rel=>exact⟨i+1,by go_num,by omega,U,B2.out⟩
    case measure=>simp [intOf];omega
  ·obtain rfl:i=n1:=by omega
   have hltz:¬ ((i:Int)<(i:Int)):=by omega
   have UL1:Hid (∀ l∈ls,l.name.length≤100):=hid (by have:=HU.out;rwa [E1.out,List.take_length] at this)
   have xW:=(BR.out.block w.heap.size (by have:=Z1.out;omega)).trans PB.out
   obtain⟨s0,s1⟩:=ai xW
   have HK2:=hid (HK.out.stay BR.out)
   have B0:=hid (B1.out.trans (BR.out.mono B1.out.size))
   obtain⟨wo,hwo⟩:∃ u,u=wr:=⟨_,rfl⟩
   subst hwo
   clear p0 p1 xW
   go_wp2
   go_loopw [32] (fun s32 wr=>∃ j:Nat,s32=.int .i64 j∧j≤n2∧Hid (∀ m∈ms.take j,m.t.title.length≤100∧m.t.tags.length≤8∧∀ x∈m.t.tags,x.length≤100)∧Aside (Below wo.heap.size wo wr)) (fun s32 _=>n2 - (intOf s32).toNat)
   case atStart=>exact⟨0,rfl,Nat.zero_le _,hid (by simp),Below.refl _ _⟩
   case round =>
    obtain⟨j,rfl,hj,HV,hB⟩:=hrel
    have CR:=hid hB.out
    clear hB
    by_cases hlt2:j<n2
    ·have eD:(j:Int)<(n2:Int):=by omega
     obtain⟨iD,⟨tk,A3,c3⟩,hA,hx,hf,r0,r1,r2,r3,r4,r5,r6⟩:=(HK2.out.stay CR.out).at_ (k:=j) (by have:=E2.out;omega)
     subst hA
     have X:=hid hx
     have FI:=hid hf
     dsimp only at r0 r1 r2 r3 r4 r5 r6
     obtain⟨w3,hw3⟩:∃ u,wr.alloc (.cells #[.int .u64 (tk.id:Int),.int .u64 (tk.list:Int),.string (str tk.title),.bool tk.done,.float .f64 tk.rank,.float .f64 tk.est,.slice A3 tk.tags.length c3] 97)=u:=⟨_,rfl⟩
     obtain⟨tb,b3,z3⟩:=bP hw3
     have B3:Hid (Below wo.heap.size wo w3):=hid (CR.out.trans (b3.mono CR.out.size))
     have TX:=hid (D8 (c:=c3) (FI.out.stay b3).gl rfl (HS.out _ (List.mem_of_getElem? X.out)))
     obtain⟨t0,t1,t2,t3,t4,t5,t6⟩:=ak tb
     have sz:(str tk.title).size=tk.title.length:=rfl
     clear hx hf tb b3 z3
     by_cases hl:100<tk.title.length
     ·have hlz:(100:Int)<((str tk.title).size:Int):=by rw [sz];omega
      clear sz
      go_wp2
      go_ret
      exact⟨false,rfl,by simp,B0.out.trans (B3.out.mono B0.out.size)⟩
     ·have hlz:¬ ((100:Int)<((str tk.title).size:Int)):=by rw [sz];omega
      clear sz
      go_wp2_with fail
      refine TX.out.mono ?_
      rintro e w4 ⟨b,rfl,hb,rfl⟩
      cases b with
      | false =>
       go_wp2
       go_ret
       exact⟨false,rfl,by simp,B0.out.trans (B3.out.mono B0.out.size)⟩
      | true =>
       have HB:=hb rfl
       have U:Hid (∀ m∈ms.take (j+1),m.t.title.length≤100∧m.t.tags.length≤8∧∀ x∈m.t.tags,x.length≤100):=hid fun y hy=>by
        rw [aF X.out] at hy
        rcases List.mem_append.1 hy with q | q
        ·exact HV.out y q
        ·simp only [List.mem_cons,List.not_mem_nil,or_false] at q
         subst q
         exact⟨by show tk.title.length≤100;omega,HB⟩
       clear hb HB
       go_wp2
       go_roundw
       case rel=>exact⟨j+1,by go_num,by omega,U,B3.out⟩
       case measure=>simp [intOf];omega
    ·obtain rfl:j=n2:=by omega
     have eD:¬ ((j:Int)<(j:Int)):=by omega
     have UV:Hid (∀ m∈ms,m.t.title.length≤100∧m.t.tags.length≤8∧∀ x∈m.t.tags,x.length≤100):=hid (by have:=HV.out;rwa [E2.out,List.take_length] at this)
     go_wp2
     go_ret
     refine⟨true,rfl,fun _=>?_,B0.out.trans (CR.out.mono B0.out.size)⟩
     have each:∀ t∈bg ms,t.title.length≤100∧t.tags.length≤8∧∀ x∈t.tags,x.length≤100:=fun t ht=>by
      obtain⟨m,hm,rfl⟩:=List.mem_map.1 ht
      exact UV.out m hm
     exact⟨by have:=E1.out;show ls.length≤25;omega,by have:=E2.out;show (bg ms).length≤70;rw [bv];omega,UL1.out,fun t ht=>(each t ht).1,fun t ht=>(each t ht).2.1,fun t ht=>(each t ht).2.2⟩
end
section
open Go.RowKit Go.Lib
@[go_sem] theorem buildK9a (w : World) : (Instr.build 97 #[(0, .int .u64 1), (1, .int .u64 2), (2, .string ⟨#[116]⟩)]).run prog w = .ok (.agg #[.int .u64 1, .int .u64 2, .string ⟨#[116]⟩, .bool false, .float .f64 0, .float .f64 0, .slice none 0 0]) w := run_build w 97 _ _ (by kernel_rfl)
@[go_sem] theorem buildS9a (A : Option Addr) (n c : Nat) (w : World) : (Instr.build 28 #[(1, .slice A n c)]).run prog w = .ok (.agg #[.slice none 0 0, .slice A n c]) w := run_build w 28 _ _ (by kernel_rfl)
@[go_sem] theorem buildS9b (w : World) : (Instr.build 28 #[]).run prog w = .ok (.agg #[.slice none 0 0, .slice none 0 0]) w := run_build w 28 _ _ (by kernel_rfl)
end
end
section
open Go.RowKit Go.Lib Go.Sort
theorem zu {l:T9.Li}:(.agg (jm l).toArray:Value)=.agg #[.int .u64 (l.id:Int),.string (str l.name)]:=rfl
structure SBox (m:ji) (g:Nat) (w:World):Prop where
 b:w.heap[g]?=some (.cells #[.slice m.A m.ls.length m.c,.slice m.A2 m.ms.length m.c2] 28 (0,0))
 s:SM m w
theorem SBox.cells {m:ji} {g:Nat} {w:World} (h:SBox m g w):w.cell? ⟨g,0,none⟩=some (.slice m.A m.ls.length m.c)∧w.cell? ⟨g,1,none⟩=some (.slice m.A2 m.ms.length m.c2):=ai h.b
def ji.far (m:ji):Prop:=∀ t∈m.ms,t.t.tags.length≤maxLen
end
end
end Go.Proofs.YtmcfknnfaokmlaaGreat
