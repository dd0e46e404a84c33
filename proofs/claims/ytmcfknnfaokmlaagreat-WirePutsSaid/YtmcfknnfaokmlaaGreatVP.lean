/- The law WirePuts: the row. Every input,no condition. -/
import Derived.Test.YtmcfknnfaokmlaaGreatZ16
import Derived.Test.YtmcfknnfaokmlaaGreatZ21
import Derived.Test.YtmcfknnfaokmlaaGreatZ19
import Derived.Test.YtmcfknnfaokmlaaGreatZ24
import Derived.Test.YtmcfknnfaokmlaaGreatZ40
import Derived.Test.YtmcfknnfaokmlaaGreatZ43
import Derived.Test.YtmcfknnfaokmlaaGreatZ45
import Derived.Test.YtmcfknnfaokmlaaGreatZ46
import Derived.Test.YtmcfknnfaokmlaaGreatZ4
import Derived.Test.YtmcfknnfaokmlaaGreatZ22
import Derived.Test.YtmcfknnfaokmlaaGreatZ36
import Derived.Deep.DeepCutAuto
import Derived.Deep.RegionHeld3
import Derived.Great.BuildSlice
import Derived.ProofKit
namespace Go.Proofs.YtmcfknnfaokmlaaGreat
set_option maxHeartbeats 16000000
open Go.Lib Go.Proofs.Tryz
set_option linter.unusedSimpArgs false
set_option maxRecDepth 100000
section
open Go.RowKit Go.Lib
theorem gT (l:List UInt8) (w:World):∃ c w',(convert 9 33 (.string (str l))).run prog w=.ok (.slice (some ⟨w.heap.size,0,none⟩) l.length c) w'∧av w' 0 5 (some ⟨w.heap.size,0,none⟩) (af l)∧w'.heap.size=w.heap.size+1∧(∀ B,B≤w.heap.size→aG B [] w w')∧∀ B v n xs,w.ownsRow B 5 1 v n xs→w'.ownsRow B 5 1 v n xs∧∀ k,v.ownBlock=some k→k≠w.heap.size:=by
 obtain⟨c,h,_⟩:=jl l w
 refine⟨c,_,h,vH l c w.drew,by simp,fun B hB=>(aG.refl B [] w).drew.alloc hB _,fun B v n xs ho=>⟨World.ownsRow.alloc (w:=w.drew) ho _,fun k hk e=>?_⟩⟩
 obtain⟨_,cs,fr,r⟩:=j3 ho k hk
 have:=lt_of_block r
 omega
theorem jX {w w':World} {g:Nat} {t:TypeId} {xs:List Value} (h:av w 0 t (some ⟨g,0,none⟩) xs) (hg:w'.heap[g]?=w.heap[g]?):av w' 0 t (some ⟨g,0,none⟩) xs:=fun q=>by
 obtain⟨ad,e1,h1,h2⟩:=h q
 injection e1 with e1
 subst e1
 refine⟨_,rfl,.inr ?_,fun j u hu=>(World.cell?_of_block (by rw [dM];exact hg)).trans (h2 j u hu)⟩
 rcases h1 with h1 | ⟨cs,fr,h1⟩
 ·omega
 ·exact⟨cs,fr,hg.trans h1⟩
theorem Aw {A A2:Option Addr} {n1 n2 c c2:Nat} {ls:List T9.Li} {ms:List fJ} {w:World} (hl:LL w A ls) (hk:KL w A2 ms) (e1:n1=ls.length) (e2:n2=ms.length) (hs:(⟨ls,bg ms⟩:T9.St).pF) (ho:(⟨ls,bg ms⟩:T9.St).ok) :
  Calls prog 27 #[.agg #[.slice A n1 c,.slice A2 n2 c2]] w (dW (T9.oP ⟨ls,bg ms⟩) w):=by
 have E1:=hid e1
 have E2:=hid e2
 have HS:=hid hs
 have HO:=hid ho
 have HL:=hid hl
 have HK:=hid hk
 obtain⟨w1,hw1⟩:∃ u,w.alloc (.cells #[.slice A n1 c,.slice A2 n2 c2] 28)=u:=⟨_,rfl⟩
 obtain⟨m_,b1,z1⟩:=aM hw1
 have B1:=hid b1
 have HB:Hid (w.heap.size≤w1.heap.size):=hid b1.size
 have PB:=hid m_
 have sm1:n1≤25:=by have:=hs.nl;simp at this;omega
 have sm2:n2≤70:=by have:=hs.nt;rw [bv] at this;omega
 have hwrap:IntKind.u64.wrap (n1:Int)=(n1:Int):=by rw [Fl.wrap_u64];omega
 have hwrap2:IntKind.u64.wrap (n2:Int)=(n2:Int):=by rw [Fl.wrap_u64];omega
 have FL:Hid (∀ k,((ls.take k).flatMap T9.dx).length≤118 * 25):=hid fun k=>by
  have q:=T9.cO (f:=T9.dx) (c:=118) (l:=ls.take k) fun x hx=>T9.ve (hs.name x (List.mem_of_mem_take hx))
  have:=hs.nl
  rw [List.length_take] at q
  simp at this
  omega
 have FK:Hid (∀ k,((bg (ms.take k)).flatMap T9.dJ).length≤1100 * 70):=hid fun k=>by
  have q:=T9.cO (f:=T9.dJ) (c:=1100) (l:=bg (ms.take k)) fun x hx=>by
   obtain⟨m,hm,rfl⟩:=List.mem_map.1 hx
   have hm':m.t∈bg ms:=List.mem_map.2 ⟨m,List.mem_of_mem_take hm,rfl⟩
   exact T9.vg (hs.title _ hm') (hs.few _ hm') (hs.tag _ hm')
  rw [bv,List.length_take] at q
  omega
 obtain⟨p0,p1⟩:=ai m_
 clear hl hk e1 e2 hs ho b1 m_ z1
 go_enter func27,ntmps27
 go_wp2_with fail
 refine (kV (B:=w.heap.size) (l:=[]) (n:=(n1:Int)) (World.ownsRow_nil _ _ _ _) HB.out (by omega) (by omega) (by simp)).mono ?_
 rintro e w2 ⟨A3,n3,c3,rfl,ho3,t3⟩
 rw [Int.toNat_natCast] at ho3
 obtain⟨a1,ma⟩:∃ a,a=[]++Cd.num n1:=⟨_,rfl⟩
 rw [← ma] at ho3
 have O2:=hid ho3
 have BC:=hid ma
 have na1:a1.length≤9:=by
  rw [ma,List.length_append]
  have:=ax n1
  simp only [List.length_nil]
  omega
 have T2:=hid t3
 clear ho3 ma t3
 have fT:=T2.out.blk PB.out (by decide)
 obtain⟨p20,p21⟩:=ai fT
 clear p0 p1
 go_wp2_with fail
 go_loopw [3,18] (fun s3 s18 wr=>∃ (k:Nat) (A n c:_),s3=.slice A n c∧s18=.int .i64 k∧k≤n1∧Aside (wr.ownsRow w.heap.size 5 1 (.slice A n c) (a1++(ls.take k).flatMap T9.dx).length (af (a1++(ls.take k).flatMap T9.dx)))∧Aside (aG w.heap.size [5] w1 wr)) (fun _ s18 _=>n1 - (intOf s18).toNat)
 case atStart=>exact⟨0,_,_,_,rfl,rfl,Nat.zero_le _,(by rw [List.take_zero,List.flatMap_nil,List.append_nil];exact O2.out:w2.ownsRow w.heap.size 5 1 (.slice A3 n3 c3) (a1++(ls.take 0).flatMap T9.dx).length (af (a1++(ls.take 0).flatMap T9.dx))),T2.out⟩
 case round =>
  obtain⟨wo,hwo⟩:∃ u,u=wr:=⟨_,rfl⟩
  subst hwo
  obtain⟨k,A3,n3,c3,rfl,rfl,hk,hW,hT⟩:=hrel
  have Two:=hid hT.out
  have WW:=hid hW.out
  clear hT hW
  by_cases hlt:k<n1
  ·have hltz:(k:Int)<(n1:Int):=by omega
   have BW:=hid (B1.out.trans Two.out.below)
   obtain⟨ad,l,hA,hx,r0,r1⟩:=(HL.out.stay BW.out).at_ (k:=k) (by have:=E1.out;omega)
   subst hA
   have X:=hid hx
   have li:l.id<18446744073709551616:=HO.out.1 l (List.mem_of_getElem? hx)
   have ln:Hid (l.name.length≤100):=hid (HS.out.name l (List.mem_of_getElem? hx))
   have fk:=FL.out k
   obtain⟨wq,hwq⟩:∃ u,wo.alloc (.cells #[.int .u64 (l.id:Int),.string (str l.name)] 94)=u:=⟨_,rfl⟩
   obtain⟨lb,b2,z2⟩:=aM hwq
   have LB:=hid lb
   have TQ:Hid (aG w.heap.size [5] w1 wq.drew):=hid (by rw [← hwq];exact (Two.out.alloc (by have:=Two.out.below.size;have:=HB.out;omega) _).drew)
   obtain⟨b0,uk⟩:∃ a,a=a1++(ls.take k).flatMap T9.dx:=⟨_,rfl⟩
   have Qb0:=hid uk
   have nb0:b0.length≤3000:=by rw [uk,List.length_append];omega
   have OQ:Hid (wq.drew.ownsRow w.heap.size 5 1 (.slice A3 n3 c3) b0.length (af b0)):=hid (by rw [← hwq,uk];exact WW.out.alloc _)
   have NL:Hid (b0.length≤90000∧(Cd.num l.id).length≤9∧(Cd.num l.name.length).length≤9∧l.name.length≤100):=hid ⟨by omega,ax _,ax _,ln.out⟩
   clear hx lb b2 z2 uk fk nb0
   go_wp2_with fail
   refine wp_region_held_drew (S:=fun u=>u.heap[wo.heap.size]?=some (.cells #[.int .u64 (l.id:Int),.string (str l.name)] 94 (0,0))) (by kernel_rfl) (LB.out) (fun S0=>?_)
   refine dH 0 ?_ rfl (by kernel_rfl) rfl ?_ S0 ?_
   rotate_left
   ·intro u hu;go_simp;try rfl
   try simp only [Act.put,pS]
   refine dH 1 ?_ rfl (by kernel_rfl) rfl ?_ S0 ?_
   rotate_left
   ·intro u hu;go_simp;try rfl
   try simp only [Act.put,pS]
   refine dH 2 ?_ rfl (by kernel_rfl) rfl ?_ S0 ?_
   rotate_left
   ·intro u hu;obtain⟨l0,l1⟩:=ai hu;go_simp;try rfl
   try simp only [Act.put,pS]
   refine dH 4 ?_ rfl (by kernel_rfl) rfl ?_ S0 ?_
   rotate_left
   ·intro u hu;go_simp;try rfl
   try simp only [Act.put,pS]
   refine dH 5 ?_ rfl (by kernel_rfl) rfl ?_ S0 ?_
   rotate_left
   ·intro u hu;obtain⟨l0,l1⟩:=ai hu;go_simp;try rfl
   try simp only [Act.put,pS]
   refine wpAnyH_ready (rs:=[3,6]) (by kernel_rfl) (by simp) (AllReadyH.cons rfl (fun K hK=>?_) (AllReadyH.cons rfl (fun K hK=>?_) AllReadyH.nil))
   ·go_simp
    refine (kV (n:=(l.id:Int)) OQ.out (by have:=HB.out;have:=TQ.out.size;omega) (by omega) (by omega) (by have:=NL.out;(try simp only [List.length_append,List.length_cons,List.length_nil,Cd.aC]);omega)).mono ?_
    rintro e v1 ⟨A1,n1,c1,rfl,O1,t1⟩
    rw [Int.toNat_natCast] at O1
    have S1:=t1.blk S0 (by decide)
    have T1:=TQ.out.trans t1
    refine hK.out _ _ S1 (fun _=>?_)
    clear hK K S0
    have S0:=S1
    clear S1
    try simp only [Act.put,pS]
    refine aJ (i:=6) (by kernel_rfl) rfl (fun K hK=>?_)
    obtain⟨ck,v2,hcv,LS,zc,tc,ow⟩:=gT l.name v1
    go_simp
    have S1:=(tc w.heap.size (by have:=HB.out;have:=T1.size;omega)).blk S0 (by decide)
    have T2:=T1.trans ((tc w.heap.size (by have:=HB.out;have:=T1.size;omega)).more (by simp))
    obtain⟨O2,NE2⟩:=ow _ _ _ _ O1
    have zg2:v1.heap.size<v2.heap.size:=by omega
    refine hK _ _ S1 ?_
    clear hK K S0
    have S0:=S1
    clear S1
    try simp only [Act.put,pS]
    refine aJ (i:=7) (by kernel_rfl) rfl (fun K hK=>?_)
    go_simp
    refine (kJ (g:=v1.heap.size) O2 (by have:=HB.out;have:=T2.size;omega) zg2 NE2 LS rfl (by have:=NL.out;(try simp only [List.length_append,List.length_cons,List.length_nil,Cd.aC]);omega)).mono ?_
    rintro e v3 ⟨A3,n3,c3,rfl,O3,t3⟩
    have S1:=t3.blk S0 (by decide)
    have T3:=T2.trans t3
    refine hK _ _ S1 ?_
    clear hK K S0
    have S0:=S1
    clear S1
    try simp only [Act.put,pS]
    refine dH 8 ?_ rfl (by kernel_rfl) rfl ?_ S0 ?_
    rotate_left
    ·intro u hu;go_simp;try rfl
    try simp only [Act.put,pS]
    refine wpAnyH_done (by kernel_rfl) ?_ _
    have OE:=hid O3
    have TE:=hid T3
    go_wp2
    go_roundw
    case rel =>
     refine⟨k+1,A3,_,_,rfl,by go_num,by omega,?_,TE.out⟩
     have e:(b0++Cd.num l.id)++(Cd.num l.name.length++l.name)=a1++(ls.take (k+1)).flatMap T9.dx:=by
      rw [Qb0.out,aF X.out,List.flatMap_append]
      simp [T9.dx,St.wb]
     rw [← e]
     exact OE.out
    case measure=>simp [intOf];omega
   ·obtain⟨ck,v1,hcv,LS,zc,tc,ow⟩:=gT l.name wq.drew
    go_simp
    have S1:=(tc w.heap.size (by have:=HB.out;have:=TQ.out.size;omega)).blk S0 (by decide)
    have T1:=TQ.out.trans ((tc w.heap.size (by have:=HB.out;have:=TQ.out.size;omega)).more (by simp))
    obtain⟨O1,NE1⟩:=ow _ _ _ _ OQ.out
    have zg1:wq.drew.heap.size<v1.heap.size:=by omega
    refine hK.out _ _ S1 (fun _=>?_)
    clear hK K S0
    have S0:=S1
    clear S1
    try simp only [Act.put,pS]
    refine aJ (i:=3) (by kernel_rfl) rfl (fun K hK=>?_)
    go_simp
    refine (vU (g:=wq.drew.heap.size) (n:=(l.id:Int)) O1 (by have:=HB.out;have:=T1.size;omega) zg1 NE1 (by omega) (by omega) (by have:=NL.out;(try simp only [List.length_append,List.length_cons,List.length_nil,Cd.aC]);omega)).mono ?_
    rintro e v2 ⟨A2,n2,c2,rfl,O2,t2,hg2,NE2⟩
    rw [Int.toNat_natCast] at O2
    have S1:=t2.blk S0 (by decide)
    have T2:=T1.trans t2
    have LS:=jX LS hg2
    have zg2:=Nat.lt_of_lt_of_le zg1 t2.size
    refine hK _ _ S1 ?_
    clear hK K S0
    have S0:=S1
    clear S1
    try simp only [Act.put,pS]
    refine aJ (i:=7) (by kernel_rfl) rfl (fun K hK=>?_)
    go_simp
    refine (kJ (g:=wq.drew.heap.size) O2 (by have:=HB.out;have:=T2.size;omega) zg2 NE2 LS rfl (by have:=NL.out;(try simp only [List.length_append,List.length_cons,List.length_nil,Cd.aC]);omega)).mono ?_
    rintro e v3 ⟨A3,n3,c3,rfl,O3,t3⟩
    have S1:=t3.blk S0 (by decide)
    have T3:=T2.trans t3
    refine hK _ _ S1 ?_
    clear hK K S0
    have S0:=S1
    clear S1
    try simp only [Act.put,pS]
    refine dH 8 ?_ rfl (by kernel_rfl) rfl ?_ S0 ?_
    rotate_left
    ·intro u hu;go_simp;try rfl
    try simp only [Act.put,pS]
    refine wpAnyH_done (by kernel_rfl) ?_ _
    have OE:=hid O3
    have TE:=hid T3
    go_wp2
    go_roundw
    case rel =>
     refine⟨k+1,A3,_,_,rfl,by go_num,by omega,?_,TE.out⟩
     have e:(b0++Cd.num l.id)++(Cd.num l.name.length++l.name)=a1++(ls.take (k+1)).flatMap T9.dx:=by
      rw [Qb0.out,aF X.out,List.flatMap_append]
      simp [T9.dx,St.wb]
     rw [← e]
     exact OE.out
    case measure=>simp [intOf];omega
  ·obtain rfl:k=n1:=by omega
   have hltz:¬ ((k:Int)<(k:Int)):=by omega
   have xW:=Two.out.blk PB.out (by decide)
   obtain⟨s0,s1⟩:=ai xW
   have fk:=FL.out k
   obtain⟨c0,qc0⟩:∃ a,a=a1++(ls.take k).flatMap T9.dx:=⟨_,rfl⟩
   have Qc0:=hid qc0
   have nc0:c0.length≤3000:=by rw [qc0,List.length_append];omega
   have WC:Hid (wo.ownsRow w.heap.size 5 1 (.slice A3 n3 c3) c0.length (af c0)):=hid (by rw [qc0];exact WW.out)
   clear qc0 p20 p21 fT fk
   go_wp2_with fail
   refine (kV (n:=(n2:Int)) WC.out (by have:=HB.out;have:=Two.out.size;omega) (by omega) (by omega) (by omega)).mono ?_
   rintro e w5 ⟨A5,n5,c5,rfl,ho5,t5⟩
   rw [Int.toNat_natCast] at ho5
   obtain⟨c1,qc1⟩:∃ a,a=c0++Cd.num n2:=⟨_,rfl⟩
   rw [← qc1] at ho5
   have O5:=hid ho5
   have Qc1:=hid qc1
   have nc1:c1.length≤3009:=by
    rw [qc1,List.length_append]
    have:=ax n2
    omega
   have T5:=hid (Two.out.trans t5)
   clear ho5 qc1 t5
   have pb5:=T5.out.blk PB.out (by decide)
   obtain⟨s50,s51⟩:=ai pb5
   clear s0 s1 xW pb5
   go_wp2_with fail
   go_loopw [3,40] (fun s3 s40 wr=>∃ (k:Nat) (A n c:_),s3=.slice A n c∧s40=.int .i64 k∧k≤n2∧Aside (wr.ownsRow w.heap.size 5 1 (.slice A n c) (c1++(bg (ms.take k)).flatMap T9.dJ).length (af (c1++(bg (ms.take k)).flatMap T9.dJ)))∧Aside (aG w.heap.size [5] w1 wr)) (fun _ s40 _=>n2 - (intOf s40).toNat)
   case atStart=>exact⟨0,_,_,_,rfl,rfl,Nat.zero_le _,(by rw [List.take_zero];show w5.ownsRow w.heap.size 5 1 (.slice A5 n5 c5) (c1++[]).length (af (c1++[]));rw [List.append_nil];exact O5.out:w5.ownsRow w.heap.size 5 1 (.slice A5 n5 c5) (c1++(bg (ms.take 0)).flatMap T9.dJ).length (af (c1++(bg (ms.take 0)).flatMap T9.dJ))),T5.out⟩
   case round =>
    clear Two WW WC
    obtain⟨wo,hwo⟩:∃ u,u=wr:=⟨_,rfl⟩
    subst hwo
    obtain⟨i,A6,n6,c6,rfl,rfl,hi,hW,hT⟩:=hrel
    have Two:=hid hT.out
    have WW:=hid hW.out
    clear hT hW
    by_cases hlt2:i<n2
    ·have eD:(i:Int)<(n2:Int):=by omega
     have BW:=hid (B1.out.trans Two.out.below)
     obtain⟨iD,⟨tk,A3,c3⟩,hA,hx,hf,r0,r1,r2,r3,r4,r5,r6⟩:=(HK.out.stay BW.out).at_ (k:=i) (by have:=E2.out;omega)
     subst hA
     have X:=hid hx
     have mem:tk∈bg ms:=List.mem_map.2 ⟨_,List.mem_of_getElem? hx,rfl⟩
     have FI:Hid ((⟨tk,A3,c3⟩:fJ).fine w):=hid (HK.out.2 _ (List.mem_of_getElem? hx))
     have Dr:=HO.out.2 tk mem
     have o1:=Dr.1
     have o2:=Dr.2.1
     have o3:=Dr.2.2.1
     have o4:=Dr.2.2.2
     have l1:Hid (tk.title.length≤100):=hid (HS.out.title tk mem)
     have l2:tk.tags.length≤8:=HS.out.few tk mem
     have l3:Hid (∀ x∈tk.tags,x.length≤100):=hid (HS.out.tag tk mem)
     have fk:=FK.out i
     have hwrap3:IntKind.u64.wrap (tk.tags.length:Int)=(tk.tags.length:Int):=by rw [Fl.wrap_u64];omega
     dsimp only at r0 r1 r2 r3 r4 r5 r6
     obtain⟨wq,hwq⟩:∃ u,wo.alloc (.cells #[.int .u64 (tk.id:Int),.int .u64 (tk.list:Int),.string (str tk.title),.bool tk.done,.float .f64 tk.rank,.float .f64 tk.est,.slice A3 tk.tags.length c3] 97)=u:=⟨_,rfl⟩
     obtain⟨lb,b2,z2⟩:=bP hwq
     have LB:=hid lb
     have TQ:Hid (aG w.heap.size [5] w1 wq.drew):=hid (by rw [← hwq];exact (Two.out.alloc (by have:=Two.out.below.size;have:=HB.out;omega) _).drew)
     obtain⟨d0,qd0⟩:∃ a,a=c1++(bg (ms.take i)).flatMap T9.dJ:=⟨_,rfl⟩
     have Qd0:=hid qd0
     have nd0:d0.length≤80100:=by rw [qd0,List.length_append];omega
     have OQ:Hid (wq.drew.ownsRow w.heap.size 5 1 (.slice A6 n6 c6) d0.length (af d0)):=hid (by rw [← hwq,qd0];exact WW.out.alloc _)
     have NL:Hid (d0.length≤90000∧(Cd.num tk.id).length≤9∧(Cd.num tk.list).length≤9∧(Cd.num tk.title.length).length≤9∧tk.title.length≤100):=hid ⟨by omega,ax _,ax _,ax _,l1.out⟩
     clear hx lb b2 z2 qd0 mem Dr fk
     go_upto_region 11 with fail
     go_cut [3] (fun s3 wd=>∃ (A n c:_),s3=.slice A n c∧wd.ownsRow w.heap.size 5 1 (.slice A n c) (((d0++Cd.num tk.id)++Cd.num tk.list)++(Cd.num tk.title.length++tk.title)).length (af (((d0++Cd.num tk.id)++Cd.num tk.list)++(Cd.num tk.title.length++tk.title)))∧aG w.heap.size [5] w1 wd∧wd.heap[wo.heap.size]?=some (.cells #[.int .u64 (tk.id:Int),.int .u64 (tk.list:Int),.string (str tk.title),.bool tk.done,.float .f64 tk.rank,.float .f64 tk.est,.slice A3 tk.tags.length c3] 97 (0,0)))
     case first=>as_aux_lemma =>
      refine wp_region_held_drew (S:=fun u=>u.heap[wo.heap.size]?=some (.cells #[.int .u64 (tk.id:Int),.int .u64 (tk.list:Int),.string (str tk.title),.bool tk.done,.float .f64 tk.rank,.float .f64 tk.est,.slice A3 tk.tags.length c3] 97 (0,0))) (by kernel_rfl) (LB.out) (fun S0=>?_)
      refine dH 0 ?_ rfl (by kernel_rfl) rfl ?_ S0 ?_
      rotate_left
      ·intro u hu;go_simp;try rfl
      try simp only [Act.put,pS]
      refine dH 1 ?_ rfl (by kernel_rfl) rfl ?_ S0 ?_
      rotate_left
      ·intro u hu;go_simp;try rfl
      try simp only [Act.put,pS]
      refine dH 2 ?_ rfl (by kernel_rfl) rfl ?_ S0 ?_
      rotate_left
      ·intro u hu;obtain⟨l0,l1,l2,l3,l4,l5,l6⟩:=ak hu;go_simp;try rfl
      try simp only [Act.put,pS]
      refine dH 4 ?_ rfl (by kernel_rfl) rfl ?_ S0 ?_
      rotate_left
      ·intro u hu;go_simp;try rfl
      try simp only [Act.put,pS]
      refine dH 5 ?_ rfl (by kernel_rfl) rfl ?_ S0 ?_
      rotate_left
      ·intro u hu;obtain⟨l0,l1,l2,l3,l4,l5,l6⟩:=ak hu;go_simp;try rfl
      try simp only [Act.put,pS]
      refine dH 7 ?_ rfl (by kernel_rfl) rfl ?_ S0 ?_
      rotate_left
      ·intro u hu;go_simp;try rfl
      try simp only [Act.put,pS]
      refine dH 8 ?_ rfl (by kernel_rfl) rfl ?_ S0 ?_
      rotate_left
      ·intro u hu;obtain⟨l0,l1,l2,l3,l4,l5,l6⟩:=ak hu;go_simp;try rfl
      try simp only [Act.put,pS]
      refine wpAnyH_ready (rs:=[3,9]) (by kernel_rfl) (by simp) (AllReadyH.cons rfl (fun K hK=>?_) (AllReadyH.cons rfl (fun K hK=>?_) AllReadyH.nil))
      ·go_simp
       refine (kV (n:=(tk.id:Int)) OQ.out (by have:=HB.out;have:=TQ.out.size;omega) (by omega) (by omega) (by have:=NL.out;(try simp only [List.length_append,List.length_cons,List.length_nil,Cd.aC]);omega)).mono ?_
       rintro e v1 ⟨A1,n1,c1,rfl,O1,t1⟩
       rw [Int.toNat_natCast] at O1
       have S1:=t1.blk S0 (by decide)
       have T1:=TQ.out.trans t1
       refine hK.out _ _ S1 (fun _=>?_)
       clear hK K S0
       have S0:=S1
       clear S1
       try simp only [Act.put,pS]
       refine wpAnyH_ready (rs:=[6,9]) (by kernel_rfl) (by simp) (AllReadyH.cons rfl (fun K hK=>?_) (AllReadyH.cons rfl (fun K hK=>?_) AllReadyH.nil))
       ·go_simp
        refine (kV (n:=(tk.list:Int)) O1 (by have:=HB.out;have:=T1.size;omega) (by omega) (by omega) (by have:=NL.out;(try simp only [List.length_append,List.length_cons,List.length_nil,Cd.aC]);omega)).mono ?_
        rintro e v2 ⟨A2,n2,c2,rfl,O2,t2⟩
        rw [Int.toNat_natCast] at O2
        have S1:=t2.blk S0 (by decide)
        have T2:=T1.trans t2
        refine hK.out _ _ S1 (fun _=>?_)
        clear hK K S0
        have S0:=S1
        clear S1
        try simp only [Act.put,pS]
        refine aJ (i:=9) (by kernel_rfl) rfl (fun K hK=>?_)
        obtain⟨ck,v3,hcv,LS,zc,tc,ow⟩:=gT tk.title v2
        go_simp
        have S1:=(tc w.heap.size (by have:=HB.out;have:=T2.size;omega)).blk S0 (by decide)
        have T3:=T2.trans ((tc w.heap.size (by have:=HB.out;have:=T2.size;omega)).more (by simp))
        obtain⟨O3,NE3⟩:=ow _ _ _ _ O2
        have zg3:v2.heap.size<v3.heap.size:=by omega
        refine hK _ _ S1 ?_
        clear hK K S0
        have S0:=S1
        clear S1
        try simp only [Act.put,pS]
        refine aJ (i:=10) (by kernel_rfl) rfl (fun K hK=>?_)
        go_simp
        refine (kJ (g:=v2.heap.size) O3 (by have:=HB.out;have:=T3.size;omega) zg3 NE3 LS rfl (by have:=NL.out;(try simp only [List.length_append,List.length_cons,List.length_nil,Cd.aC]);omega)).mono ?_
        rintro e v4 ⟨A4,n4,c4,rfl,O4,t4⟩
        have S1:=t4.blk S0 (by decide)
        have T4:=T3.trans t4
        refine hK _ _ S1 ?_
        clear hK K S0
        have S0:=S1
        clear S1
        try simp only [Act.put,pS]
        refine dH 11 ?_ rfl (by kernel_rfl) rfl ?_ S0 ?_
        rotate_left
        ·intro u hu;go_simp;try rfl
        try simp only [Act.put,pS]
        refine wpAnyH_done (by kernel_rfl) ?_ _
        go_wp2
        go_meet
        case rel=>exact⟨A4,_,_,rfl,O4,T4,S0⟩
       ·obtain⟨ck,v2,hcv,LS,zc,tc,ow⟩:=gT tk.title v1
        go_simp
        have S1:=(tc w.heap.size (by have:=HB.out;have:=T1.size;omega)).blk S0 (by decide)
        have T2:=T1.trans ((tc w.heap.size (by have:=HB.out;have:=T1.size;omega)).more (by simp))
        obtain⟨O2,NE2⟩:=ow _ _ _ _ O1
        have zg2:v1.heap.size<v2.heap.size:=by omega
        refine hK.out _ _ S1 (fun _=>?_)
        clear hK K S0
        have S0:=S1
        clear S1
        try simp only [Act.put,pS]
        refine aJ (i:=6) (by kernel_rfl) rfl (fun K hK=>?_)
        go_simp
        refine (vU (g:=v1.heap.size) (n:=(tk.list:Int)) O2 (by have:=HB.out;have:=T2.size;omega) zg2 NE2 (by omega) (by omega) (by have:=NL.out;(try simp only [List.length_append,List.length_cons,List.length_nil,Cd.aC]);omega)).mono ?_
        rintro e v3 ⟨A3,n3,c3,rfl,O3,t3,hg3,NE3⟩
        rw [Int.toNat_natCast] at O3
        have S1:=t3.blk S0 (by decide)
        have T3:=T2.trans t3
        have LS:=jX LS hg3
        have zg3:=Nat.lt_of_lt_of_le zg2 t3.size
        refine hK _ _ S1 ?_
        clear hK K S0
        have S0:=S1
        clear S1
        try simp only [Act.put,pS]
        refine aJ (i:=10) (by kernel_rfl) rfl (fun K hK=>?_)
        go_simp
        refine (kJ (g:=v1.heap.size) O3 (by have:=HB.out;have:=T3.size;omega) zg3 NE3 LS rfl (by have:=NL.out;(try simp only [List.length_append,List.length_cons,List.length_nil,Cd.aC]);omega)).mono ?_
        rintro e v4 ⟨A4,n4,c4,rfl,O4,t4⟩
        have S1:=t4.blk S0 (by decide)
        have T4:=T3.trans t4
        refine hK _ _ S1 ?_
        clear hK K S0
        have S0:=S1
        clear S1
        try simp only [Act.put,pS]
        refine dH 11 ?_ rfl (by kernel_rfl) rfl ?_ S0 ?_
        rotate_left
        ·intro u hu;go_simp;try rfl
        try simp only [Act.put,pS]
        refine wpAnyH_done (by kernel_rfl) ?_ _
        go_wp2
        go_meet
        case rel=>exact⟨A4,_,_,rfl,O4,T4,S0⟩
      ·obtain⟨ck,v1,hcv,LS,zc,tc,ow⟩:=gT tk.title wq.drew
       go_simp
       have S1:=(tc w.heap.size (by have:=HB.out;have:=TQ.out.size;omega)).blk S0 (by decide)
       have T1:=TQ.out.trans ((tc w.heap.size (by have:=HB.out;have:=TQ.out.size;omega)).more (by simp))
       obtain⟨O1,NE1⟩:=ow _ _ _ _ OQ.out
       have zg1:wq.drew.heap.size<v1.heap.size:=by omega
       refine hK.out _ _ S1 (fun _=>?_)
       clear hK K S0
       have S0:=S1
       clear S1
       try simp only [Act.put,pS]
       refine aJ (i:=3) (by kernel_rfl) rfl (fun K hK=>?_)
       go_simp
       refine (vU (g:=wq.drew.heap.size) (n:=(tk.id:Int)) O1 (by have:=HB.out;have:=T1.size;omega) zg1 NE1 (by omega) (by omega) (by have:=NL.out;(try simp only [List.length_append,List.length_cons,List.length_nil,Cd.aC]);omega)).mono ?_
       rintro e v2 ⟨A2,n2,c2,rfl,O2,t2,hg2,NE2⟩
       rw [Int.toNat_natCast] at O2
       have S1:=t2.blk S0 (by decide)
       have T2:=T1.trans t2
       have LS:=jX LS hg2
       have zg2:=Nat.lt_of_lt_of_le zg1 t2.size
       refine hK _ _ S1 ?_
       clear hK K S0
       have S0:=S1
       clear S1
       try simp only [Act.put,pS]
       refine aJ (i:=6) (by kernel_rfl) rfl (fun K hK=>?_)
       go_simp
       refine (vU (g:=wq.drew.heap.size) (n:=(tk.list:Int)) O2 (by have:=HB.out;have:=T2.size;omega) zg2 NE2 (by omega) (by omega) (by have:=NL.out;(try simp only [List.length_append,List.length_cons,List.length_nil,Cd.aC]);omega)).mono ?_
       rintro e v3 ⟨A3,n3,c3,rfl,O3,t3,hg3,NE3⟩
       rw [Int.toNat_natCast] at O3
       have S1:=t3.blk S0 (by decide)
       have T3:=T2.trans t3
       have LS:=jX LS hg3
       have zg3:=Nat.lt_of_lt_of_le zg2 t3.size
       refine hK _ _ S1 ?_
       clear hK K S0
       have S0:=S1
       clear S1
       try simp only [Act.put,pS]
       refine aJ (i:=10) (by kernel_rfl) rfl (fun K hK=>?_)
       go_simp
       refine (kJ (g:=wq.drew.heap.size) O3 (by have:=HB.out;have:=T3.size;omega) zg3 NE3 LS rfl (by have:=NL.out;(try simp only [List.length_append,List.length_cons,List.length_nil,Cd.aC]);omega)).mono ?_
       rintro e v4 ⟨A4,n4,c4,rfl,O4,t4⟩
       have S1:=t4.blk S0 (by decide)
       have T4:=T3.trans t4
       refine hK _ _ S1 ?_
       clear hK K S0
       have S0:=S1
       clear S1
       try simp only [Act.put,pS]
       refine dH 11 ?_ rfl (by kernel_rfl) rfl ?_ S0 ?_
       rotate_left
       ·intro u hu;go_simp;try rfl
       try simp only [Act.put,pS]
       refine wpAnyH_done (by kernel_rfl) ?_ _
       go_wp2
       go_meet
       case rel=>exact⟨A4,_,_,rfl,O4,T4,S0⟩
     case rest =>
      obtain⟨A7,n7,c7,rfl,rV,ht7,Bc⟩:=hcut
      obtain⟨d1,qd1⟩:∃ a,a=((d0++Cd.num tk.id)++Cd.num tk.list)++(Cd.num tk.title.length++tk.title):=⟨_,rfl⟩
      rw [← qd1] at rV
      have nd1:d1.length≤91000:=by have:=NL.out;rw [qd1];simp only [List.length_append];omega
      have Qd1:=hid qd1
      have O7:=hid rV
      have T7:=hid ht7
      have uH:=hid Bc
      clear qd1 rV ht7 Bc OQ TQ LB NL
      obtain⟨w7,hw7⟩:∃ u,u=wc:=⟨_,rfl⟩
      subst hw7
      obtain⟨y0,y1,y2,y3,y4,y5,y6⟩:=ak uH.out
      have OD7:Hid (w7.drew.ownsRow w.heap.size 5 1 (.slice A7 n7 c7) d1.length (af d1)):=hid O7.out
      have TD7:=hid T7.out.drew
      have NL:Hid (d1.length≤91000):=hid nd1
      clear y0 y1 y2 y3 y4 y5 y6 nd1
      go_upto_region 12 with fail
      go_cut [3] (fun s3 wd=>∃ (A n c:_),s3=.slice A n c∧wd.ownsRow w.heap.size 5 1 (.slice A n c) (((d1++[if tk.done=true then 1 else 0])++Cd.fix (Fl.key tk.rank).toNat 8)++Cd.fix (Fl.key tk.est).toNat 8).length (af (((d1++[if tk.done=true then 1 else 0])++Cd.fix (Fl.key tk.rank).toNat 8)++Cd.fix (Fl.key tk.est).toNat 8))∧aG w.heap.size [5] w1 wd∧wd.heap[wo.heap.size]?=some (.cells #[.int .u64 (tk.id:Int),.int .u64 (tk.list:Int),.string (str tk.title),.bool tk.done,.float .f64 tk.rank,.float .f64 tk.est,.slice A3 tk.tags.length c3] 97 (0,0)))
      case first=>as_aux_lemma =>
       refine wp_region_held_drew (S:=fun u=>u.heap[wo.heap.size]?=some (.cells #[.int .u64 (tk.id:Int),.int .u64 (tk.list:Int),.string (str tk.title),.bool tk.done,.float .f64 tk.rank,.float .f64 tk.est,.slice A3 tk.tags.length c3] 97 (0,0))) (by kernel_rfl) (uH.out) (fun S0=>?_)
       refine dH 0 ?_ rfl (by kernel_rfl) rfl ?_ S0 ?_
       rotate_left
       ·intro u hu;go_simp;try rfl
       try simp only [Act.put,pS]
       refine dH 1 ?_ rfl (by kernel_rfl) rfl ?_ S0 ?_
       rotate_left
       ·intro u hu;go_simp;try rfl
       try simp only [Act.put,pS]
       refine dH 2 ?_ rfl (by kernel_rfl) rfl ?_ S0 ?_
       rotate_left
       ·intro u hu;obtain⟨l0,l1,l2,l3,l4,l5,l6⟩:=ak hu;go_simp;try rfl
       try simp only [Act.put,pS]
       refine dH 4 ?_ rfl (by kernel_rfl) rfl ?_ S0 ?_
       rotate_left
       ·intro u hu;go_simp;try rfl
       try simp only [Act.put,pS]
       refine dH 5 ?_ rfl (by kernel_rfl) rfl ?_ S0 ?_
       rotate_left
       ·intro u hu;obtain⟨l0,l1,l2,l3,l4,l5,l6⟩:=ak hu;go_simp;try rfl
       try simp only [Act.put,pS]
       refine dH 7 ?_ rfl (by kernel_rfl) rfl ?_ S0 ?_
       rotate_left
       ·intro u hu;go_simp;try rfl
       try simp only [Act.put,pS]
       refine dH 8 ?_ rfl (by kernel_rfl) rfl ?_ S0 ?_
       rotate_left
       ·intro u hu;obtain⟨l0,l1,l2,l3,l4,l5,l6⟩:=ak hu;go_simp;try rfl
       try simp only [Act.put,pS]
       refine aJ (i:=3) (by kernel_rfl) rfl (fun K hK=>?_)
       go_simp
       refine (rG_c (g:=tk.done) OD7.out (by have:=HB.out;have:=TD7.out.size;omega) (by have:=NL.out;(try simp only [List.length_append,List.length_cons,List.length_nil,Cd.aC]);omega)).mono ?_
       rintro e v1 ⟨A1,n1,c1,rfl,O1,t1⟩
       have S1:=t1.blk S0 (by decide)
       have T1:=TD7.out.trans t1
       refine hK _ _ S1 ?_
       clear hK K S0
       have S0:=S1
       clear S1
       try simp only [Act.put,pS]
       refine aJ (i:=6) (by kernel_rfl) rfl (fun K hK=>?_)
       go_simp
       refine (rF_c (f:=tk.rank) O1 (by have:=HB.out;have:=T1.size;omega) o3 (by have:=NL.out;(try simp only [List.length_append,List.length_cons,List.length_nil,Cd.aC]);omega)).mono ?_
       rintro e v2 ⟨A2,n2,c2,rfl,O2,t2⟩
       have S1:=t2.blk S0 (by decide)
       have T2:=T1.trans t2
       refine hK _ _ S1 ?_
       clear hK K S0
       have S0:=S1
       clear S1
       try simp only [Act.put,pS]
       refine aJ (i:=9) (by kernel_rfl) rfl (fun K hK=>?_)
       go_simp
       refine (rF_c (f:=tk.est) O2 (by have:=HB.out;have:=T2.size;omega) o4 (by have:=NL.out;(try simp only [List.length_append,List.length_cons,List.length_nil,Cd.aC]);omega)).mono ?_
       rintro e v3 ⟨A3,n3,c3,rfl,O3,t3⟩
       have S1:=t3.blk S0 (by decide)
       have T3:=T2.trans t3
       refine hK _ _ S1 ?_
       clear hK K S0
       have S0:=S1
       clear S1
       try simp only [Act.put,pS]
       refine dH 10 ?_ rfl (by kernel_rfl) rfl ?_ S0 ?_
       rotate_left
       ·intro u hu;go_simp;try rfl
       try simp only [Act.put,pS]
       refine wpAnyH_done (by kernel_rfl) ?_ _
       go_wp2
       go_meet
       case rel=>exact⟨A3,_,_,rfl,O3,T3,S0⟩
      case rest =>
       obtain⟨A8,n8,c8,rfl,vz,ht8,hb8⟩:=hcut
       obtain⟨d2,qd2⟩:∃ a,a=((d1++[if tk.done=true then 1 else 0])++Cd.fix (Fl.key tk.rank).toNat 8)++Cd.fix (Fl.key tk.est).toNat 8:=⟨_,rfl⟩
       rw [← qd2] at vz
       have nd2:d2.length≤91100:=by have:=NL.out;rw [qd2];simp only [List.length_append,List.length_cons,List.length_nil,Cd.aC];omega
       have Qd2:=hid qd2
       have O8:=hid vz
       have T8:=hid ht8
       obtain⟨w8,hw8⟩:∃ u,u=wc:=⟨_,rfl⟩
       subst hw8
       have nL:=hid hb8
       obtain⟨y0,y1,y2,y3,y4,y5,y6⟩:=ak hb8
       clear qd2 vz ht8 hb8 OD7 TD7 NL uH O7 T7
       go_wp2_with fail
       refine (kV (n:=(tk.tags.length:Int)) O8.out (by have:=HB.out;have:=T8.out.size;omega) (by omega) (by omega) (by omega)).mono ?_
       rintro e w9 ⟨A9,n9,c9,rfl,tK,t9⟩
       rw [Int.toNat_natCast] at tK
       obtain⟨d6,qd6⟩:∃ a,a=d2++Cd.num tk.tags.length:=⟨_,rfl⟩
       rw [← qd6] at tK
       have nd6:d6.length≤91200:=by
        rw [qd6,List.length_append]
        have:=ax tk.tags.length
        omega
       have Qd6:=hid qd6
       have O9:=hid tK
       have T9':=hid (T8.out.trans t9)
       have zY:=t9.blk nL.out (by decide)
       clear tK t9 qd6 y0 y1 y2 y3 y4 y5 y6
       obtain⟨y0,y1,y2,y3,y4,y5,y6⟩:=ak zY
       have FT:Hid (∀ j,((tk.tags.take j).flatMap St.wb).length≤109 * 8):=hid fun j=>by
        have q:=T9.cO (f:=St.wb) (c:=109) (l:=tk.tags.take j) fun x hx=>T9.fI (l3.out x (List.mem_of_mem_take hx))
        rw [List.length_take] at q
        omega
       go_wp2_with fail
       go_loopw [3,74] (fun s3 s74 wr=>∃ (j:Nat) (A n c:_),s3=.slice A n c∧s74=.int .i64 j∧j≤tk.tags.length∧Aside (wr.ownsRow w.heap.size 5 1 (.slice A n c) (d6++(tk.tags.take j).flatMap St.wb).length (af (d6++(tk.tags.take j).flatMap St.wb)))∧Aside (aG w.heap.size [5] w1 wr)) (fun _ s74 _=>tk.tags.length - (intOf s74).toNat)
       case atStart=>exact⟨0,_,_,_,rfl,rfl,Nat.zero_le _,(by rw [List.take_zero,List.flatMap_nil,List.append_nil];exact O9.out:w9.ownsRow w.heap.size 5 1 (.slice A9 n9 c9) (d6++(tk.tags.take 0).flatMap St.wb).length (af (d6++(tk.tags.take 0).flatMap St.wb))),T9'.out⟩
       case round =>
        obtain⟨j,A10,n10,c10,rfl,rfl,hj,hW,hT⟩:=hrel
        have wU:=hid hT.out
        have WW3:=hid hW.out
        clear hT hW
        by_cases hlt3:j<tk.tags.length
        ·have lN:(j:Int)<(tk.tags.length:Int):=by omega
         obtain⟨ad3,x,hA,hx,hc⟩:=(FI.out.gl.stay (B1.out.trans wU.out.below)).at_ (k:=j) hlt3
         have hA:A3=some ad3:=hA
         subst hA
         have hx:tk.tags[j]?=some x:=hx
         have XX:=hid hx
         have lx:=hid (l3.out x (List.mem_of_getElem? hx))
         have ft:=FT.out j
         obtain⟨e0,nS⟩:∃ a,a=d6++(tk.tags.take j).flatMap St.wb:=⟨_,rfl⟩
         have Qe0:=hid nS
         have ne0:e0.length≤93000:=by rw [nS,List.length_append];omega
         have We0:Hid (wr.ownsRow w.heap.size 5 1 (.slice A10 n10 c10) e0.length (af e0)):=hid (by rw [nS];exact WW3.out)
         obtain⟨ck,v1,hcv,LS,zc,tc,ow⟩:=gT x wr
         have szr:w.heap.size≤wr.heap.size:=by have:=HB.out;have:=wU.out.size;omega
         have TV:=hid (wU.out.trans ((tc w.heap.size szr).more (by simp)))
         obtain⟨ov,nev⟩:=ow _ _ _ _ We0.out
         have OV:=hid ov
         have NEV:=hid nev
         have LSV:=hid LS
         have zv:wr.heap.size<v1.heap.size:=by omega
         have lk:x.length≤100:=lx.out
         clear hx nS ft LS ov nev zc tc ow
         go_wp2_with fail
         refine (kJ (g:=wr.heap.size) OV.out (by omega) zv NEV.out LSV.out rfl (by omega)).mono ?_
         rintro e mK ⟨A11,n11,c11,rfl,ho11,t11⟩
         have O11:=hid ho11
         have T11:=hid (TV.out.trans t11)
         clear ho11 t11 hcv zv szr
         go_wp2
         go_roundw
         case rel =>
          refine⟨j+1,A11,n11,c11,rfl,by go_num,by omega,?_,T11.out⟩
          have e:e0++(Cd.num x.length++x)=d6++(tk.tags.take (j+1)).flatMap St.wb:=by
           rw [Qe0.out,aF XX.out,List.flatMap_append]
           simp [St.wb]
          rw [← e]
          exact O11.out
         case measure=>simp [intOf];omega
        ·obtain rfl:j=tk.tags.length:=by omega
         have lN:¬ ((tk.tags.length:Int)<(tk.tags.length:Int)):=by omega
         go_wp2
         go_roundw
         case rel =>
          refine⟨i+1,A10,n10,c10,rfl,by go_num,by omega,?_,wU.out⟩
          have e:d6++(tk.tags.take tk.tags.length).flatMap St.wb=c1++(bg (ms.take (i+1))).flatMap T9.dJ:=by
           rw [Qd6.out,Qd2.out,Qd1.out,Qd0.out,aF X.out,gq,List.flatMap_append,List.take_length]
           simp [T9.dJ,St.wb,St.fl]
          rw [← e]
          exact WW3.out
         case measure=>simp [intOf];omega
    ·obtain rfl:i=n2:=by omega
     have eD:¬ ((i:Int)<(i:Int)):=by omega
     have EN:Hid (c1++(bg (ms.take i)).flatMap T9.dJ=T9.oP ⟨ls,bg ms⟩):=hid (by
      rw [Qc1.out,Qc0.out,BC.out]
      have q1:=E1.out
      have q2:=E2.out
      unfold T9.oP
      dsimp only
      rw [← q1,bv,← q2]
      rw [q1,List.take_length,q2,List.take_length]
      simp)
     go_wp2
     go_ret
     have WE:=WW.out
     rw [EN.out] at WE
     exact⟨A6,n6,c6,rfl,WE,B1.out.trans Two.out.below⟩
end
section
section
open Go.RowKit Go.Lib
theorem jD {B:Nat} {l b:List UInt8} {w0 w:World} {A0:Option Addr} {n0 c0:Nat} {A:Option Addr} {n c:Nat} (h:w0.ownsRow B 5 1 (.slice A0 n0 c0) l.length (af l)) (hb:Below w0.heap.size w0 w) (ho:w.ownsRow w0.heap.size 5 1 (.slice A n c) b.length (af b)) (hn:0<b.length):∃ g,A=some ⟨g,0,none⟩∧n=b.length∧g<w.heap.size∧(∀ k,(Value.slice A0 n0 c0).ownBlock=some k→k≠g)∧av w 0 5 (some ⟨g,0,none⟩) (af b)∧w.ownsRow B 5 1 (.slice A0 n0 c0) l.length (af l):=by
 obtain⟨e,_⟩:=aA ho
 subst e
 obtain⟨g,rfl,h1,h2,_⟩:=ui ho hn
 refine⟨g,rfl,rfl,h2,fun k hk e=>?_,aD ho,own_below h hb⟩
 obtain⟨_,cs,fr,r⟩:=j3 h k hk
 have:=lt_of_block r
 omega
theorem wh {m:T9.Mu} {w:World} (ho:m.ok) (hk:0≤m.kind∧m.kind≤13) (ht:m.text.length≤100) :
  Calls prog 63 #[m.val] w (dW (T9.dG m) w):=by
 obtain⟨k,id,li,tx,f,fg⟩:=m
 obtain⟨h1,h2,h3⟩:=ho
 dsimp only at h1 h2 h3 hk ht
 obtain⟨kn,rfl⟩:∃ kn:Nat,k=(kn:Int):=⟨k.toNat,by omega⟩
 have hwrap:IntKind.u64.wrap (kn:Int)=(kn:Int):=by rw [Fl.wrap_u64];omega
 have kl:kn<18446744073709551616:=by omega
 have EN:Hid (T9.dG ⟨(kn:Int),id,li,tx,f,fg⟩=Cd.num kn++(Cd.num id++(Cd.num li++(St.wb tx++(Cd.fix (Fl.key f).toNat 8++St.fl fg))))):=hid (by unfold T9.dG;rw [Int.toNat_natCast])
 unfold T9.Mu.val
 dsimp only
 rw [EN.out]
 obtain⟨w1,hw1⟩:∃ u,w.alloc (.cells #[.int .i64 (kn:Int),.int .u64 (id:Int),.int .u64 (li:Int),.string (str tx),.float .f64 f,.bool fg] 55)=u:=⟨_,rfl⟩
 obtain⟨m_,b1,z1⟩:=a_ hw1
 have B1:=hid b1
 have PB:=hid m_
 have HB:Hid (w.heap.size≤w1.heap.size):=hid b1.size
 have TQ:Hid (aG w.heap.size [5] w1 w1.drew):=hid (aG.refl _ _ w1).drew
 obtain⟨b0,uk⟩:∃ a,a=([]:List UInt8):=⟨_,rfl⟩
 have Qb0:=hid uk
 have OQ:Hid (w1.drew.ownsRow w.heap.size 5 1 (.slice none 0 0) b0.length (af b0)):=hid (by rw [uk];exact World.ownsRow_nil _ _ _ _)
 have NL:Hid (b0.length=0∧(Cd.num kn).length≤9∧(Cd.num id).length≤9∧(Cd.num li).length≤9∧(Cd.num tx.length).length≤9∧tx.length≤100):=hid ⟨by rw [uk];rfl,ax _,ax _,ax _,ax _,ht⟩
 clear hk m_ b1 z1 uk
 go_enter func63,ntmps63
 go_wp2_with fail
 refine wp_region_held_drew (S:=fun u=>u.heap[w.heap.size]?=some (.cells #[.int .i64 (kn:Int),.int .u64 (id:Int),.int .u64 (li:Int),.string (str tx),.float .f64 f,.bool fg] 55 (0,0))) (by kernel_rfl) (PB.out) (fun S0=>?_)
 refine dH 0 ?_ rfl (by kernel_rfl) rfl ?_ S0 ?_
 rotate_left
 ·intro u hu;go_simp;try rfl
 try simp only [Act.put,pS]
 refine dH 1 ?_ rfl (by kernel_rfl) rfl ?_ S0 ?_
 rotate_left
 ·intro u hu;obtain⟨l0,l1,l2,l3,l4,l5⟩:=au hu;go_simp;try rfl
 try simp only [Act.put,pS]
 refine dH 2 ?_ rfl (by kernel_rfl) rfl ?_ S0 ?_
 rotate_left
 ·intro u hu;go_simp;try rfl
 try simp only [Act.put,pS]
 refine dH 4 ?_ rfl (by kernel_rfl) rfl ?_ S0 ?_
 rotate_left
 ·intro u hu;go_simp;try rfl
 try simp only [Act.put,pS]
 refine dH 5 ?_ rfl (by kernel_rfl) rfl ?_ S0 ?_
 rotate_left
 ·intro u hu;obtain⟨l0,l1,l2,l3,l4,l5⟩:=au hu;go_simp;try rfl
 try simp only [Act.put,pS]
 refine dH 7 ?_ rfl (by kernel_rfl) rfl ?_ S0 ?_
 rotate_left
 ·intro u hu;go_simp;try rfl
 try simp only [Act.put,pS]
 refine dH 8 ?_ rfl (by kernel_rfl) rfl ?_ S0 ?_
 rotate_left
 ·intro u hu;obtain⟨l0,l1,l2,l3,l4,l5⟩:=au hu;go_simp;try rfl
 try simp only [Act.put,pS]
 refine aJ (i:=3) (by kernel_rfl) rfl (fun K hK=>?_)
 go_simp
 refine (kV (n:=(kn:Int)) OQ.out (by have:=HB.out;have:=TQ.out.size;omega) (by omega) (by omega) (by have:=NL.out;(try simp only [List.length_append,List.length_cons,List.length_nil,Cd.aC]);omega)).mono ?_
 rintro e v1 ⟨A1,n1,c1,rfl,O1,t1⟩
 rw [Int.toNat_natCast] at O1
 have S1:=t1.blk S0 (by decide)
 have T1:=TQ.out.trans t1
 refine hK _ _ S1 ?_
 clear hK K S0
 have S0:=S1
 clear S1
 try simp only [Act.put,pS]
 refine aJ (i:=6) (by kernel_rfl) rfl (fun K hK=>?_)
 go_simp
 refine (kV (n:=(id:Int)) O1 (by have:=HB.out;have:=T1.size;omega) (by omega) (by omega) (by have:=NL.out;(try simp only [List.length_append,List.length_cons,List.length_nil,Cd.aC]);omega)).mono ?_
 rintro e v2 ⟨A2,n2,c2,rfl,O2,t2⟩
 rw [Int.toNat_natCast] at O2
 have S1:=t2.blk S0 (by decide)
 have T2:=T1.trans t2
 refine hK _ _ S1 ?_
 clear hK K S0
 have S0:=S1
 clear S1
 try simp only [Act.put,pS]
 refine aJ (i:=9) (by kernel_rfl) rfl (fun K hK=>?_)
 go_simp
 refine (kV (n:=(li:Int)) O2 (by have:=HB.out;have:=T2.size;omega) (by omega) (by omega) (by have:=NL.out;(try simp only [List.length_append,List.length_cons,List.length_nil,Cd.aC]);omega)).mono ?_
 rintro e v3 ⟨A3,n3,c3,rfl,O3,t3⟩
 rw [Int.toNat_natCast] at O3
 have S1:=t3.blk S0 (by decide)
 have T3:=T2.trans t3
 refine hK _ _ S1 ?_
 clear hK K S0
 have S0:=S1
 clear S1
 try simp only [Act.put,pS]
 refine dH 10 ?_ rfl (by kernel_rfl) rfl ?_ S0 ?_
 rotate_left
 ·intro u hu;go_simp;try rfl
 try simp only [Act.put,pS]
 refine wpAnyH_done (by kernel_rfl) ?_ _
 obtain⟨a1,ma⟩:∃ a,a=(((b0++Cd.num kn)++Cd.num id)++Cd.num li):=⟨_,rfl⟩
 have OA:=O3
 rw [← ma] at OA
 have BC:=hid ma
 have OD:Hid (v3.drew.ownsRow w.heap.size 5 1 _ a1.length (af a1)):=hid OA
 have TD:=hid T3.drew
 have na:a1.length≤27:=by
  rw [ma]
  have:=NL.out
  simp only [List.length_append]
  omega
 have NL:Hid (a1.length≤27∧(Cd.num tx.length).length≤9∧tx.length≤100):=hid ⟨na,ax _,ht⟩
 have SH:=hid S0
 clear ma OA na S0 t1 t2 t3 T1 T2 T3 O1 O2 O3
 go_wp2_with fail
 refine wp_region_held_drew (S:=fun u=>u.heap[w.heap.size]?=some (.cells #[.int .i64 (kn:Int),.int .u64 (id:Int),.int .u64 (li:Int),.string (str tx),.float .f64 f,.bool fg] 55 (0,0))) (by kernel_rfl) (SH.out) (fun S0=>?_)
 refine dH 0 ?_ rfl (by kernel_rfl) rfl ?_ S0 ?_
 rotate_left
 ·intro u hu;go_simp;try rfl
 try simp only [Act.put,pS]
 refine dH 1 ?_ rfl (by kernel_rfl) rfl ?_ S0 ?_
 rotate_left
 ·intro u hu;go_simp;try rfl
 try simp only [Act.put,pS]
 refine dH 2 ?_ rfl (by kernel_rfl) rfl ?_ S0 ?_
 rotate_left
 ·intro u hu;obtain⟨l0,l1,l2,l3,l4,l5⟩:=au hu;go_simp;try rfl
 try simp only [Act.put,pS]
 refine dH 5 ?_ rfl (by kernel_rfl) rfl ?_ S0 ?_
 rotate_left
 ·intro u hu;go_simp;try rfl
 try simp only [Act.put,pS]
 refine dH 6 ?_ rfl (by kernel_rfl) rfl ?_ S0 ?_
 rotate_left
 ·intro u hu;obtain⟨l0,l1,l2,l3,l4,l5⟩:=au hu;go_simp;try rfl
 try simp only [Act.put,pS]
 refine dH 8 ?_ rfl (by kernel_rfl) rfl ?_ S0 ?_
 rotate_left
 ·intro u hu;go_simp;try rfl
 try simp only [Act.put,pS]
 refine dH 9 ?_ rfl (by kernel_rfl) rfl ?_ S0 ?_
 rotate_left
 ·intro u hu;obtain⟨l0,l1,l2,l3,l4,l5⟩:=au hu;go_simp;try rfl
 try simp only [Act.put,pS]
 refine aJ (i:=3) (by kernel_rfl) rfl (fun K hK=>?_)
 obtain⟨ck,v11,hcv,LS,zc,tc,ow⟩:=gT tx v3.drew
 go_simp
 have S1:=(tc w.heap.size (by have:=HB.out;have:=TD.out.size;omega)).blk S0 (by decide)
 have T11:=TD.out.trans ((tc w.heap.size (by have:=HB.out;have:=TD.out.size;omega)).more (by simp))
 obtain⟨O11,NE11⟩:=ow _ _ _ _ OD.out
 have zg11:v3.drew.heap.size<v11.heap.size:=by omega
 refine hK _ _ S1 ?_
 clear hK K S0
 have S0:=S1
 clear S1
 try simp only [Act.put,pS]
 refine aJ (i:=4) (by kernel_rfl) rfl (fun K hK=>?_)
 go_simp
 refine (kJ (g:=v3.drew.heap.size) O11 (by have:=HB.out;have:=T11.size;omega) zg11 NE11 LS rfl (by have:=NL.out;(try simp only [List.length_append,List.length_cons,List.length_nil,Cd.aC]);omega)).mono ?_
 rintro e v12 ⟨A12,n12,c12,rfl,O12,t12⟩
 have S1:=t12.blk S0 (by decide)
 have T12:=T11.trans t12
 refine hK _ _ S1 ?_
 clear hK K S0
 have S0:=S1
 clear S1
 try simp only [Act.put,pS]
 refine aJ (i:=7) (by kernel_rfl) rfl (fun K hK=>?_)
 go_simp
 refine (rF_c (f:=f) O12 (by have:=HB.out;have:=T12.size;omega) h3 (by have:=NL.out;(try simp only [List.length_append,List.length_cons,List.length_nil,Cd.aC]);omega)).mono ?_
 rintro e v13 ⟨A13,n13,c13,rfl,O13,t13⟩
 have S1:=t13.blk S0 (by decide)
 have T13:=T12.trans t13
 refine hK _ _ S1 ?_
 clear hK K S0
 have S0:=S1
 clear S1
 try simp only [Act.put,pS]
 refine aJ (i:=10) (by kernel_rfl) rfl (fun K hK=>?_)
 go_simp
 refine (rG_c (g:=fg) O13 (by have:=HB.out;have:=T13.size;omega) (by have:=NL.out;(try simp only [List.length_append,List.length_cons,List.length_nil,Cd.aC]);omega)).mono ?_
 rintro e v14 ⟨A14,n14,c14,rfl,O14,t14⟩
 have S1:=t14.blk S0 (by decide)
 have T14:=T13.trans t14
 refine hK _ _ S1 ?_
 clear hK K S0
 have S0:=S1
 clear S1
 try simp only [Act.put,pS]
 refine dH 11 ?_ rfl (by kernel_rfl) rfl ?_ S0 ?_
 rotate_left
 ·intro u hu;go_simp;try rfl
 try simp only [Act.put,pS]
 refine wpAnyH_done (by kernel_rfl) ?_ _
 have OE:=O14
 have TE:=hid T14
 have EB:(((a1++(Cd.num tx.length++tx))++Cd.fix (Fl.key f).toNat 8)++[if fg=true then 1 else 0])=Cd.num kn++(Cd.num id++(Cd.num li++(St.wb tx++(Cd.fix (Fl.key f).toNat 8++St.fl fg)))):=by
  rw [BC.out,Qb0.out]
  simp [St.wb,St.fl]
 rw [EB] at OE
 have HOE:=hid OE
 clear OE EB
 go_wp2
 go_ret
 exact⟨A14,n14,c14,rfl,HOE.out,B1.out.trans TE.out.below⟩
theorem uo {x:It} {w:World} (hx:x.far) (hc:T9.lu x=true) :
  Calls prog 25 #[x.val] w (dW (T9.bZ x) w):=by
 obtain⟨h1,h2,h3⟩:=hx
 have hce:=(T9.iY.1 hc).2.2
 have hk:=(T9.gK hce).1
 have MP:∀ u,Hid (Calls prog 63 #[x.m.val] u (dW (T9.dG x.m) u)):=fun u=>hid (wh h3 ⟨by omega,hk.2⟩ (by have:=T9.df hce;omega))
 have LM:(T9.dG x.m).length≤300:=T9.ou (by have:=T9.df hce;omega)
 obtain⟨w1,hw1⟩:∃ u,w.alloc (.cells #[.int .u64 (x.who:Int),.int .u64 (x.id:Int),.int .i64 x.m.kind,.int .u64 (x.m.id:Int),.int .u64 (x.m.list:Int),.string (str x.m.text),.float .f64 x.m.f,.bool x.m.flag] 57)=u:=⟨_,rfl⟩
 obtain⟨m_,b1,z1⟩:=bi hw1
 have B1:=hid b1
 have PB:=hid m_
 have HB:Hid (w.heap.size≤w1.heap.size):=hid b1.size
 have TQ:Hid (aG w.heap.size [5] w1 w1.drew):=hid (aG.refl _ _ w1).drew
 obtain⟨b0,uk⟩:∃ a,a=([]:List UInt8):=⟨_,rfl⟩
 have Qb0:=hid uk
 have OQ:Hid (w1.drew.ownsRow w.heap.size 5 1 (.slice none 0 0) b0.length (af b0)):=hid (by rw [uk];exact World.ownsRow_nil _ _ _ _)
 have NL:Hid (b0.length=0∧(Cd.num x.who).length≤9∧(Cd.num x.id).length≤9∧(Cd.num (T9.dG x.m).length).length≤9∧(T9.dG x.m).length≤300):=hid ⟨by rw [uk];rfl,ax _,ax _,ax _,LM⟩
 unfold It.val
 unfold T9.Mu.val at MP
 clear m_ b1 z1 uk h3 hc hce hk LM
 go_enter func25,ntmps25
 go_wp2_with fail
 refine wp_region_held_drew (S:=fun u=>u.heap[w.heap.size]?=some (.cells #[.int .u64 (x.who:Int),.int .u64 (x.id:Int),.int .i64 x.m.kind,.int .u64 (x.m.id:Int),.int .u64 (x.m.list:Int),.string (str x.m.text),.float .f64 x.m.f,.bool x.m.flag] 57 (0,0))) (by kernel_rfl) (PB.out) (fun S0=>?_)
 refine dH 0 ?_ rfl (by kernel_rfl) rfl ?_ S0 ?_
 rotate_left
 ·intro u hu;go_simp;try rfl
 try simp only [Act.put,pS]
 refine dH 1 ?_ rfl (by kernel_rfl) rfl ?_ S0 ?_
 rotate_left
 ·intro u hu;obtain⟨l0,l1,l2,l3,l4,l5,l6,l7⟩:=ay hu;go_simp;try rfl
 try simp only [Act.put,pS]
 refine dH 3 ?_ rfl (by kernel_rfl) rfl ?_ S0 ?_
 rotate_left
 ·intro u hu;go_simp;try rfl
 try simp only [Act.put,pS]
 refine dH 4 ?_ rfl (by kernel_rfl) rfl ?_ S0 ?_
 rotate_left
 ·intro u hu;obtain⟨l0,l1,l2,l3,l4,l5,l6,l7⟩:=ay hu;go_simp;try rfl
 try simp only [Act.put,pS]
 refine dH 6 ?_ rfl (by kernel_rfl) rfl ?_ S0 ?_
 rotate_left
 ·intro u hu;go_simp;try rfl
 try simp only [Act.put,pS]
 refine dH 7 ?_ rfl (by kernel_rfl) rfl ?_ S0 ?_
 rotate_left
 ·intro u hu;obtain⟨l0,l1,l2,l3,l4,l5,l6,l7⟩:=ay hu;go_simp;try rfl
 try simp only [Act.put,pS]
 refine aJ (i:=2) (by kernel_rfl) rfl (fun K hK=>?_)
 go_simp
 refine (kV (n:=(x.who:Int)) OQ.out (by have:=HB.out;have:=TQ.out.size;omega) (by omega) (by omega) (by have:=NL.out;(try simp only [List.length_append,List.length_cons,List.length_nil,Cd.aC]);omega)).mono ?_
 rintro e v1 ⟨A1,n1,c1,rfl,O1,t1⟩
 rw [Int.toNat_natCast] at O1
 have S1:=t1.blk S0 (by decide)
 have T1:=TQ.out.trans t1
 refine hK _ _ S1 ?_
 clear hK K S0
 have S0:=S1
 clear S1
 try simp only [Act.put,pS]
 refine aJ (i:=5) (by kernel_rfl) rfl (fun K hK=>?_)
 go_simp
 refine (kV (n:=(x.id:Int)) O1 (by have:=HB.out;have:=T1.size;omega) (by omega) (by omega) (by have:=NL.out;(try simp only [List.length_append,List.length_cons,List.length_nil,Cd.aC]);omega)).mono ?_
 rintro e v2 ⟨A2,n2,c2,rfl,O2,t2⟩
 rw [Int.toNat_natCast] at O2
 have S1:=t2.blk S0 (by decide)
 have T2:=T1.trans t2
 refine hK _ _ S1 ?_
 clear hK K S0
 have S0:=S1
 clear S1
 try simp only [Act.put,pS]
 refine aJ (i:=8) (by kernel_rfl) rfl (fun K hK=>?_)
 go_simp
 refine ((MP v2).out).mono ?_
 rintro e v3 ⟨A3,n3,c3,rfl,om,bm⟩
 have S1:=ah S0 bm
 have T3:=T2.trans (aG.of_below bm (by have:=HB.out;have:=T2.size;omega) _)
 obtain⟨g3,rfl,rfl,zg3,NE3,LS,O3⟩:=jD O2 bm om (T9.oQ _)
 clear om bm
 refine hK _ _ S1 ?_
 clear hK K S0
 have S0:=S1
 clear S1
 try simp only [Act.put,pS]
 refine aJ (i:=9) (by kernel_rfl) rfl (fun K hK=>?_)
 go_simp
 refine (kJ (g:=g3) O3 (by have:=HB.out;have:=T3.size;omega) zg3 NE3 LS rfl (by have:=NL.out;(try simp only [List.length_append,List.length_cons,List.length_nil,Cd.aC]);omega)).mono ?_
 rintro e v4 ⟨A4,n4,c4,rfl,O4,t4⟩
 have S1:=t4.blk S0 (by decide)
 have T4:=T3.trans t4
 refine hK _ _ S1 ?_
 clear hK K S0
 have S0:=S1
 clear S1
 try simp only [Act.put,pS]
 refine dH 10 ?_ rfl (by kernel_rfl) rfl ?_ S0 ?_
 rotate_left
 ·intro u hu;go_simp;try rfl
 try simp only [Act.put,pS]
 refine wpAnyH_done (by kernel_rfl) ?_ _
 have OE:=O4
 have TE:=hid T4
 have EB:(((b0++Cd.num x.who)++Cd.num x.id)++(Cd.num (T9.dG x.m).length++(T9.dG x.m)))=T9.bZ x:=by
  rw [Qb0.out]
  unfold T9.bZ
  simp [St.wb]
 rw [EB] at OE
 have HOE:=hid OE
 clear OE EB
 go_wp2
 go_ret
 exact⟨A4,n4,c4,rfl,HOE.out,B1.out.trans TE.out.below⟩
end
end
section
section
open Go.RowKit Go.Lib
theorem Tryz.infoU15:(prog.info? 22).map (fun i=>(i.zero,i.size,i.bytes))=some (some (.int .u64 0),1,8):=by kernel_rfl
theorem AC (a b c d e f:Nat) (w:World):(Instr.buildSlice 65 6 #[(0,.int .u64 (a:Int)),(1,.int .u64 (b:Int)),(2,.int .u64 (c:Int)),(3,.int .u64 (d:Int)),(4,.int .u64 (e:Int)),(5,.int .u64 (f:Int))]).run prog w=.ok (.slice (some ⟨w.heap.size,0,none⟩) 6 6) (w.alloc (.cells #[.int .u64 (a:Int),.int .u64 (b:Int),.int .u64 (c:Int),.int .u64 (d:Int),.int .u64 (e:Int),.int .u64 (f:Int)] 22)):=by
 obtain⟨i0,hi,hz0,hz1,hz2⟩:=info_parts Tryz.infoU15
 refine run_buildSlice w _ 22 6 _ _ i0 _ underlying65 hi hz0 (by rw [hz1];decide) (by rw [hz1];decide) ?_
 have q:=Great.fill_whole (s:=i0.size) (by rw [hz1];decide) [Value.int .u64 (a:Int),.int .u64 (b:Int),.int .u64 (c:Int),.int .u64 (d:Int),.int .u64 (e:Int),.int .u64 (f:Int)] ((Array.range (6 * i0.size)).map ((Value.int .u64 0).cells[· % (Value.int .u64 0).cells.size]!)) (fun v hv=>by
  simp only [List.mem_cons,List.not_mem_nil,or_false] at hv
  rcases hv with rfl | rfl | rfl | rfl | rfl | rfl <;> (rw [hz1];rfl)) (by simp)
 simpa only [List.flatMap_cons,List.flatMap_nil,Value.cells,List.zipIdx_cons,List.zipIdx_nil,List.map_cons,List.map_nil,List.append_nil,List.cons_append,List.nil_append,Nat.zero_add] using q
theorem um {m:dR} (hok:¬ T9.okW m.mg=true):T9.bA m.mg=150:=by unfold T9.bA;rw [if_neg hok]
theorem x9 {m:dR} {w:World} (h:WM m w) (ho:m.mg.ok) (ht:∀ x∈m.is,x.m.text.length≤200) (hs:m.s.st.short) :
  Calls prog 8 #[m.val] w (fU m w):=by
 obtain⟨w1,hw1⟩:∃ u,w.alloc (.cells #[.int .i64 m.kind,.int .u64 (m.line:Int),.int .u64 (m.aK:Int),.int .u64 (m.bE:Int),.int .u64 (m.bI:Int),.slice m.A m.is.length m.c,.slice m.A1 m.las.length m.c1,.slice m.s.A m.s.ls.length m.s.c,.slice m.s.A2 m.s.ms.length m.s.c2] 30)=u:=⟨_,rfl⟩
 obtain⟨lb,b1,_⟩:=bD hw1
 have B1:=hid b1
 have LB:=hid lb
 have H1:=hid (h.stay b1)
 obtain⟨l0,l1,l2,l3,l4,l5,l6,l7,l8⟩:=ag lb
 have CK:=hid (ja (w:=w1) H1.out ho ht hs)
 have HO:=hid ho
 unfold dR.val at CK ⊢
 by_cases hok:T9.okW m.mg=true
 case neg =>
  have V:T9.bA m.mg=150:=um hok
  unfold fU
  rw [if_neg hok,V]
  rw [V] at CK
  clear V hok h ho ht hs lb b1
  go_enter func8,ntmps8
  go_wp2_with fail
  refine CK.out.mono ?_
  rintro e w2 ⟨rfl,c2⟩
  have C2:=hid (B1.out.trans (c2.mono B1.out.size))
  clear c2
  go_wp2
  go_ret2
  exact gQ.bad C2.out
 have V:T9.bA m.mg=0:=by unfold T9.bA;rw [if_pos hok]
 obtain⟨_,_,_,k1,k2,k3,_,k4,k5⟩:=T9.jZ hok
 have LE:=hid (T9.yG hok)
 have HI:=hid k2
 have nI:m.is.length≤8:=k1
 have nA:m.las.length≤2000:=k3
 have hk:1≤m.kind∧m.kind≤8:=k5
 have PI:∀ x∈m.is,∀ u,Hid (Calls prog 25 #[x.val] u (dW (T9.bZ x) u)):=fun x hx u=>hid (uo (ho.i x hx) (k2 x hx))
 have KP:=hid PI
 have LI:∀ x∈m.is,(T9.bZ x).length≤330:=fun x hx=>T9.sN (ht x hx)
 have HLI:=hid LI
 have FI:Hid (∀ k,((m.is.take k).flatMap fun x=>St.wb (T9.bZ x)).length≤339 * 8):=hid fun k=>by
  have q:=T9.cO (f:=fun x=>St.wb (T9.bZ x)) (c:=339) (l:=m.is.take k) fun x hx=>T9.fI (LI x (List.mem_of_mem_take hx))
  rw [List.length_take] at q
  omega
 have FA:Hid (∀ k,((m.las.take k).flatMap T9.dw).length≤18 * 2000):=hid fun k=>by
  have q:=T9.cO (f:=T9.dw) (c:=18) (l:=m.las.take k) fun x _=>by
   unfold T9.dw
   have:=ax x.who
   have:=ax x.id
   rw [List.length_append]
   omega
  rw [List.length_take] at q
  omega
 have LS:Hid ((T9.oP m.s.st).length≤16000):=hid (T9.jb k4)
 have SP:∀ u,Below w1.heap.size w1 u→Hid (Calls prog 27 #[.agg #[.slice m.s.A m.s.ls.length m.s.c,.slice m.s.A2 m.s.ms.length m.s.c2]] u (dW (T9.oP m.s.st) u)):=fun u hu=>hid (Aw (H1.out.s.stay hu).l (H1.out.s.stay hu).k rfl rfl (T9.nT k4) ho.s)
 have KS:=hid SP
 have QN:=hid (fun (w:World) a n c n' c'=>Lib.run_eql_slice_nil (P:=prog) w 33 5 a n c n' c' underlying33)
 unfold fU
 rw [if_pos hok,V]
 rw [V] at CK
 obtain⟨kn,hkn⟩:∃ kn:Nat,m.kind=(kn:Int):=⟨m.kind.toNat,by omega⟩
 obtain⟨sx,hsx⟩:∃ l:List Nat,l=[kn,m.line,m.aK,m.bE,m.bI,m.is.length]:=⟨_,rfl⟩
 have EN:Hid (T9.iE m.mg=sx.flatMap Cd.num++(m.is.flatMap (fun x=>St.wb (T9.bZ x))++(Cd.num m.las.length++(m.las.flatMap T9.dw++St.wb (T9.oP m.s.st))))):=hid (by
  have e:m.mg.kind.toNat=kn:=by show m.kind.toNat=kn;omega
  rw [hsx]
  unfold T9.iE
  rw [e]
  simp [dR.mg,List.append_assoc])
 have SX:Hid (sx.length=6∧∀ v∈sx,v<18446744073709551616):=hid ⟨by rw [hsx];rfl,by
  rw [hsx]
  intro v hv
  simp only [List.mem_cons,List.not_mem_nil,or_false] at hv
  rcases hv with rfl | rfl | rfl | rfl | rfl | rfl
  ·omega
  ·exact ho.l
  ·exact ho.b
  ·exact ho.f
  ·exact ho.t
  ·omega⟩
 have SC:Hid (#[.int .u64 (kn:Int),.int .u64 (m.line:Int),.int .u64 (m.aK:Int),.int .u64 (m.bE:Int),.int .u64 (m.bI:Int),.int .u64 (m.is.length:Int)]=(sx.map fun (n:Nat)=>Value.int .u64 (n:Int)).toArray):=hid (by rw [hsx];rfl)
 have FX:Hid (∀ k,((sx.take k).flatMap Cd.num).length≤54):=hid fun k=>by
  have q:=T9.cO (f:=Cd.num) (c:=9) (l:=sx.take k) fun x _=>ax x
  have:=SX.out.1
  rw [List.length_take] at q
  omega
 have hwrap:IntKind.u64.wrap (kn:Int)=(kn:Int):=by rw [Fl.wrap_u64];omega
 have hwi:IntKind.u64.wrap (m.is.length:Int)=(m.is.length:Int):=by rw [Fl.wrap_u64];omega
 have hwa:IntKind.u64.wrap (m.las.length:Int)=(m.las.length:Int):=by rw [Fl.wrap_u64];omega
 rw [hkn] at l0 CK LB hw1 ⊢
 clear V hok h ho ht hs lb b1 k1 k2 k3 k4 k5 PI LI SP hk hkn hsx
 go_enter func8,ntmps8
 go_wp2_with fail
 refine CK.out.mono ?_
 rintro e w2 ⟨rfl,c2⟩
 have C2:=hid c2
 have hbs:=AC kn m.line m.aK m.bE m.bI m.is.length w2
 obtain⟨w3,hw3⟩:∃ u,w2.alloc (.cells #[.int .u64 (kn:Int),.int .u64 (m.line:Int),.int .u64 (m.aK:Int),.int .u64 (m.bE:Int),.int .u64 (m.bI:Int),.int .u64 (m.is.length:Int)] 22)=u:=⟨_,rfl⟩
 have LX:Hid (av w3 0 22 (some ⟨w2.heap.size,0,none⟩) (sx.map fun (n:Nat)=>Value.int .u64 (n:Int))):=hid (by
  have q:=av.dD (B:=0) (heap_alloc_new w2 (.cells #[.int .u64 (kn:Int),.int .u64 (m.line:Int),.int .u64 (m.aK:Int),.int .u64 (m.bE:Int),.int .u64 (m.bI:Int),.int .u64 (m.is.length:Int)] 22))
  rw [hw3,SC.out] at q
  simpa using q)
 rw [hw3] at hbs
 have c3:Below w1.heap.size w1 w3:=by rw [← hw3];exact c2.alloc c2.size _
 have C3:=hid c3
 have PB:Hid (w3.heap[w.heap.size]?=some (.cells #[.int .i64 (kn:Int),.int .u64 (m.line:Int),.int .u64 (m.aK:Int),.int .u64 (m.bE:Int),.int .u64 (m.bI:Int),.slice m.A m.is.length m.c,.slice m.A1 m.las.length m.c1,.slice m.s.A m.s.ls.length m.s.c,.slice m.s.A2 m.s.ms.length m.s.c2] 30 (0,0))):=hid (ah LB.out c3)
 obtain⟨B,hB⟩:∃ b,b=w3.heap.size:=⟨_,rfl⟩
 have BB:Hid (w1.heap.size≤B∧B=w3.heap.size):=hid ⟨by have:=c3.size;omega,hB⟩
 have T3:Hid (aG B [5] w3 w3):=hid (aG.refl _ _ _)
 have O3:Hid (w3.ownsRow B 5 1 (.slice none 0 0) ((sx.take 0).flatMap Cd.num).length (af ((sx.take 0).flatMap Cd.num))):=hid (World.ownsRow_nil _ _ _ _)
 obtain⟨l0,l1,l2,l3,l4,l5,l6,l7,l8⟩:=ag (ah LB.out c2)
 clear c2 c3 hB
 go_wp2_with fail
 go_loopw [5,35] (fun s5 s35 wr=>∃ (k:Nat) (A:Option Addr) (n c:Nat),s5=.slice A n c∧s35=.int .i64 k∧k≤6∧Aside (wr.ownsRow B 5 1 (.slice A n c) ((sx.take k).flatMap Cd.num).length (af ((sx.take k).flatMap Cd.num)))∧Aside (aG B [5] w3 wr)) (fun _ s35 _=>6 - (intOf s35).toNat)
 case atStart=>exact⟨0,none,0,0,rfl,rfl,Nat.zero_le _,O3.out,T3.out⟩
 case round =>
  obtain⟨wo,hwo⟩:∃ u,u=wr:=⟨_,rfl⟩
  subst hwo
  obtain⟨k,A5,n5,c5,rfl,rfl,hk,hO,hT⟩:=hrel
  have Two:=hid hT.out
  have OO:=hid hO.out
  clear hT hO
  have hso:B≤wo.heap.size:=by have:=Two.out.size;have:=BB.out.2;omega
  by_cases hlt:k<6
  ·have hltz:(k:Int)<6:=by omega
   obtain⟨v,hv⟩:∃ v,sx[k]?=some v:=by
    have:=SX.out.1
    exact⟨_,List.getElem?_eq_getElem (by omega)⟩
   have VL:=SX.out.2 v (List.mem_of_getElem? hv)
   have VH:=hid VL
   obtain⟨_,e0,_,hc⟩:=(LX.out.cZ (Two.out.mono (Nat.zero_le _)) (by decide)) (by
    intro q
    have z:=congrArg List.length q
    rw [List.length_map,SX.out.1] at z
    simp at z)
   injection e0 with e0
   subst e0
   have r0:wo.cell? ⟨w2.heap.size,k,none⟩=some (.int .u64 (v:Int)):=by
    have q:=hc k _ (show (sx.map fun (n:Nat)=>Value.int .u64 (n:Int))[k]?=some (Value.int .u64 (v:Int)) by rw [List.getElem?_map,hv];rfl)
    rw [sM] at q
    exact q
   have HV:=hid hv
   have fk:=FX.out k
   clear hc hv VL
   go_wp2_with fail
   refine (kV (n:=(v:Int)) OO.out (by have:=hso;omega) (by omega) (by have:=VH.out;omega) (by omega)).mono ?_
   rintro e w4 ⟨A6,n6,c6,rfl,ho6,ht6⟩
   rw [Int.toNat_natCast] at ho6
   have zD:=hid ho6
   have T6:=hid (Two.out.trans ht6)
   clear ho6 ht6
   go_wp2
   go_roundw
   case rel =>
    refine⟨k+1,A6,n6,c6,rfl,by go_num,by omega,?_,T6.out⟩
    have e:(sx.take k).flatMap Cd.num++Cd.num v=(sx.take (k+1)).flatMap Cd.num:=by
     rw [aF HV.out,List.flatMap_append]
     simp
    rw [← e]
    exact zD.out
   case measure=>simp [intOf];omega
  ·obtain rfl:k=6:=by omega
   rw [show ((6:Nat):Int)=6 from rfl]
   obtain⟨a2,Aq⟩:∃ a,a=sx.flatMap Cd.num:=⟨_,rfl⟩
   have Qa2:=hid Aq
   have et:(sx.take 6).flatMap Cd.num=a2:=by rw [Aq,List.take_of_length_le (by have:=SX.out.1;omega)]
   have na2:a2.length≤54:=by rw [← et];exact FX.out 6
   have Oa2:Hid (wo.ownsRow B 5 1 (.slice A5 n5 c5) a2.length (af a2)):=hid (by rw [← et];exact OO.out)
   obtain⟨l0,l1,l2,l3,l4,l5,l6,l7,l8⟩:=ag (Two.out.blk PB.out (by decide))
   clear et Aq
   have O20:Hid (wo.ownsRow B 5 1 (.slice A5 n5 c5) (a2++(m.is.take 0).flatMap fun x=>St.wb (T9.bZ x)).length (af (a2++(m.is.take 0).flatMap fun x=>St.wb (T9.bZ x)))):=hid (by have q:=Oa2.out;simpa using q)
   go_wp2_with fail
   go_loopw [5,46] (fun s5 s46 wr=>∃ (k:Nat) (A:Option Addr) (n c:Nat),s5=.slice A n c∧s46=.int .i64 k∧k≤m.is.length∧Aside (wr.ownsRow B 5 1 (.slice A n c) (a2++(m.is.take k).flatMap fun x=>St.wb (T9.bZ x)).length (af (a2++(m.is.take k).flatMap fun x=>St.wb (T9.bZ x))))∧Aside (aG B [5] w3 wr)) (fun _ s46 _=>m.is.length - (intOf s46).toNat)
   case atStart=>exact⟨0,A5,n5,c5,rfl,rfl,Nat.zero_le _,O20.out,Two.out⟩
   case round =>
    obtain⟨wp,hwp⟩:∃ u,u=wr:=⟨_,rfl⟩
    subst hwp
    obtain⟨k,A5,n5,c5,rfl,rfl,hk,hO,hT⟩:=hrel
    have zI:=hid hT.out
    obtain⟨e0,nS⟩:∃ a,a=a2++(m.is.take k).flatMap fun x=>St.wb (T9.bZ x):=⟨_,rfl⟩
    have Oe0:Hid (wp.ownsRow B 5 1 (.slice A5 n5 c5) e0.length (af e0)):=hid (by rw [nS];exact hO.out)
    have fk:=FI.out k
    have ne0:e0.length≤3000:=by rw [nS,List.length_append];omega
    have Qe0:=hid nS
    have hsp:B≤wp.heap.size:=by have:=zI.out.size;have:=BB.out.2;omega
    have BW:Hid (Below w1.heap.size w1 wp):=hid (C3.out.trans (zI.out.below.mono BB.out.1))
    clear hT hO fk
    by_cases hlt2:k<m.is.length
    ·have eD:(k:Int)<(m.is.length:Int):=by omega
     obtain⟨iD,x,hA,hx,r0,r1,r2,r3,r4,r5,r6,r7⟩:=(H1.out.i.stay BW.out).at_ (k:=k) hlt2
     rw [hA] at l5 ⊢
     have X:=hid hx
     have lx:=HLI.out x (List.mem_of_getElem? hx)
     have PX:=(KP.out x (List.mem_of_getElem? hx))
     obtain⟨wq,hwq⟩:∃ u,wp.alloc (.cells #[.int .u64 (x.who:Int),.int .u64 (x.id:Int),.int .i64 x.m.kind,.int .u64 (x.m.id:Int),.int .u64 (x.m.list:Int),.string (str x.m.text),.float .f64 x.m.f,.bool x.m.flag] 57)=u:=⟨_,rfl⟩
     obtain⟨lq,bq,zq⟩:=bi hwq
     obtain⟨q0,q1,q2,q3,q4,q5,q6,q7⟩:=ay lq
     have Ba:Hid (aG B [5] w3 wq):=hid (by rw [← hwq];exact zI.out.alloc hsp _)
     have OQ:Hid (wq.ownsRow B 5 1 (.slice A5 n5 c5) e0.length (af e0)):=hid (by rw [← hwq];exact Oe0.out.alloc _)
     have Bq:Hid (B≤wq.heap.size):=hid (by omega)
     have PQ:=PX wq
     unfold It.val at PQ
     clear hx lq bq zq nS PX
     go_wp2_with fail
     refine PQ.out.mono ?_
     rintro e w6 ⟨A9,n9,c9,rfl,tK,qR⟩
     obtain⟨g,rfl,rfl,zg,NE,LS9,O9⟩:=jD OQ.out qR tK (T9.uP _)
     have BK:=hid (Ba.out.trans (aG.of_below qR Bq.out _))
     have HO9:=hid O9
     have HL9:=hid LS9
     have HN9:=hid NE
     have hs6:B≤w6.heap.size:=by have:=Bq.out;have:=qR.size;omega
     clear tK qR O9 LS9 NE
     go_wp2_with fail
     refine (kJ (g:=g) HO9.out hs6 zg HN9.out HL9.out rfl (by omega)).mono ?_
     rintro e w7 ⟨A7,n7,c7,rfl,rV,ht7⟩
     have BL:=hid (BK.out.trans ht7)
     have HO7:=hid rV
     clear rV ht7
     go_wp2
     go_roundw
     case rel =>
      refine⟨k+1,A7,n7,c7,rfl,by go_num,by omega,?_,BL.out⟩
      have e:e0++(Cd.num (T9.bZ x).length++T9.bZ x)=a2++(m.is.take (k+1)).flatMap fun x=>St.wb (T9.bZ x):=by
       rw [Qe0.out,aF X.out,List.flatMap_append]
       simp [St.wb]
      rw [← e]
      exact HO7.out
     case measure=>simp [intOf];omega
    ·obtain rfl:k=m.is.length:=by omega
     have eD:¬ ((m.is.length:Int)<(m.is.length:Int)):=by omega
     have Qa3:Hid (e0=a2++m.is.flatMap fun x=>St.wb (T9.bZ x)):=hid (by rw [nS,List.take_length])
     obtain⟨l0,l1,l2,l3,l4,l5,l6,l7,l8⟩:=ag (zI.out.blk PB.out (by decide))
     clear nS
     go_wp2_with fail
     refine (kV (n:=(m.las.length:Int)) Oe0.out hsp (by omega) (by omega) (by omega)).mono ?_
     rintro e w8 ⟨A8,n8,c8,rfl,vz,ht8⟩
     rw [Int.toNat_natCast] at vz
     obtain⟨a4,za⟩:∃ a,a=e0++Cd.num m.las.length:=⟨_,rfl⟩
     rw [← za] at vz
     have Qa4:=hid za
     have Oa4:=hid vz
     have na4:a4.length≤3009:=by
      rw [za]
      have:=ax m.las.length
      simp only [List.length_append]
      omega
     have BM:=hid (zI.out.trans ht8)
     clear l0 l1 l2 l3 l4 l5 l6 l7 l8
     obtain⟨l0,l1,l2,l3,l4,l5,l6,l7,l8⟩:=ag (BM.out.blk PB.out (by decide))
     clear vz ht8 za
     have O40:Hid (w8.ownsRow B 5 1 (.slice A8 n8 c8) (a4++(m.las.take 0).flatMap T9.dw).length (af (a4++(m.las.take 0).flatMap T9.dw))):=hid (by have q:=Oa4.out;simpa using q)
     go_wp2_with fail
     go_loopw [5,64] (fun s5 s64 wr=>∃ (k:Nat) (A:Option Addr) (n c:Nat),s5=.slice A n c∧s64=.int .i64 k∧k≤m.las.length∧Aside (wr.ownsRow B 5 1 (.slice A n c) (a4++(m.las.take k).flatMap T9.dw).length (af (a4++(m.las.take k).flatMap T9.dw)))∧Aside (aG B [5] w3 wr)) (fun _ s64 _=>m.las.length - (intOf s64).toNat)
     case atStart=>exact⟨0,A8,n8,c8,rfl,rfl,Nat.zero_le _,O40.out,BM.out⟩
     case round =>
      obtain⟨wp2,hwp2⟩:∃ u,u=wr:=⟨_,rfl⟩
      subst hwp2
      obtain⟨k,A5,n5,c5,rfl,rfl,hk,hO,hT⟩:=hrel
      have Twx:=hid hT.out
      obtain⟨f0,qf0⟩:∃ a,a=a4++(m.las.take k).flatMap T9.dw:=⟨_,rfl⟩
      have Of0:Hid (wp2.ownsRow B 5 1 (.slice A5 n5 c5) f0.length (af f0)):=hid (by rw [qf0];exact hO.out)
      have fk:=FA.out k
      have nf0:f0.length≤40000:=by rw [qf0,List.length_append];omega
      have Qf0:=hid qf0
      have hsx2:B≤wp2.heap.size:=by have:=Twx.out.size;have:=BB.out.2;omega
      have BW2:Hid (Below w1.heap.size w1 wp2):=hid (C3.out.trans (Twx.out.below.mono BB.out.1))
      clear hT hO fk
      by_cases hlt3:k<m.las.length
      ·have lN:(k:Int)<(m.las.length:Int):=by omega
       obtain⟨ad3,x,hA,hx,r0,r1⟩:=(H1.out.a.stay BW2.out).at_ (k:=k) hlt3
       rw [hA] at l6 ⊢
       have X:=hid hx
       obtain⟨xo1,xo2⟩:=HO.out.a x (List.mem_of_getElem? hx)
       have XO1:=hid xo1
       have XO2:=hid xo2
       obtain⟨wq,hwq⟩:∃ u,wp2.alloc (.cells #[.int .u64 (x.who:Int),.int .u64 (x.id:Int)] 61)=u:=⟨_,rfl⟩
       obtain⟨lq,bq,zq⟩:=aM hwq
       have LQ:=hid lq
       have Ba:Hid (aG B [5] w3 wq.drew):=hid (by rw [← hwq];exact (Twx.out.alloc hsx2 _).drew)
       have OQ:Hid (wq.drew.ownsRow B 5 1 (.slice A5 n5 c5) f0.length (af f0)):=hid (by rw [← hwq];exact Of0.out.alloc _)
       have hsq:B≤wq.drew.heap.size:=by
        have e:wq.drew.heap.size=wq.heap.size:=rfl
        omega
       clear hx lq bq zq qf0 xo1 xo2
       go_wp2_with fail
       refine wp_region_held_drew (S:=fun u=>u.heap[wp2.heap.size]?=some (.cells #[.int .u64 (x.who:Int),.int .u64 (x.id:Int)] 61 (0,0))) (by kernel_rfl) (LQ.out) (fun S0=>?_)
       refine dH 0 ?_ rfl (by kernel_rfl) rfl ?_ S0 ?_
       rotate_left
       ·intro u hu;go_simp;try rfl
       try simp only [Act.put,pS]
       refine dH 1 ?_ rfl (by kernel_rfl) rfl ?_ S0 ?_
       rotate_left
       ·intro u hu;go_simp;try rfl
       try simp only [Act.put,pS]
       refine dH 2 ?_ rfl (by kernel_rfl) rfl ?_ S0 ?_
       rotate_left
       ·intro u hu;obtain⟨l0,l1⟩:=ai hu;go_simp;try rfl
       try simp only [Act.put,pS]
       refine dH 4 ?_ rfl (by kernel_rfl) rfl ?_ S0 ?_
       rotate_left
       ·intro u hu;go_simp;try rfl
       try simp only [Act.put,pS]
       refine dH 5 ?_ rfl (by kernel_rfl) rfl ?_ S0 ?_
       rotate_left
       ·intro u hu;obtain⟨l0,l1⟩:=ai hu;go_simp;try rfl
       try simp only [Act.put,pS]
       have BZ:B=w3.heap.size:=BB.out.2
       refine aJ (i:=3) (by kernel_rfl) rfl (fun K hK=>?_)
       go_simp
       refine (kV (n:=(x.who:Int)) OQ.out (by have:=Ba.out.size;omega) (by omega) (by have:=XO1.out;omega) (by (try simp only [List.length_append]);have:=ax x.who;omega)).mono ?_
       rintro e v1 ⟨A1x,n1x,c1x,rfl,O1x,t1x⟩
       rw [Int.toNat_natCast] at O1x
       have S1:=t1x.blk S0 (by decide)
       have T1x:=Ba.out.trans t1x
       refine hK _ _ S1 ?_
       clear hK K S0
       have S0:=S1
       clear S1
       try simp only [Act.put,pS]
       refine aJ (i:=6) (by kernel_rfl) rfl (fun K hK=>?_)
       go_simp
       refine (kV (n:=(x.id:Int)) O1x (by have:=T1x.size;omega) (by omega) (by have:=XO2.out;omega) (by (try simp only [List.length_append]);have:=ax x.who;omega)).mono ?_
       rintro e v2 ⟨A2x,n2x,c2x,rfl,O2x,t2x⟩
       rw [Int.toNat_natCast] at O2x
       have S1:=t2x.blk S0 (by decide)
       have T2x:=T1x.trans t2x
       refine hK _ _ S1 ?_
       clear hK K S0
       have S0:=S1
       clear S1
       try simp only [Act.put,pS]
       refine dH 7 ?_ rfl (by kernel_rfl) rfl ?_ S0 ?_
       rotate_left
       ·intro u hu;go_simp;try rfl
       try simp only [Act.put,pS]
       refine wpAnyH_done (by kernel_rfl) ?_ _
       have HO7:=hid O2x
       have BL:=hid T2x
       clear O2x O1x T2x T1x t1x t2x S0
       go_wp2
       go_roundw
       case rel =>
        refine⟨k+1,A2x,n2x,c2x,rfl,by go_num,by omega,?_,BL.out⟩
        have e:(f0++Cd.num x.who)++Cd.num x.id=a4++(m.las.take (k+1)).flatMap T9.dw:=by
         rw [Qf0.out,aF X.out,List.flatMap_append]
         simp [T9.dw]
        rw [← e]
        exact HO7.out
       case measure=>simp [intOf];omega
      ·obtain rfl:k=m.las.length:=by omega
       have lN:¬ ((m.las.length:Int)<(m.las.length:Int)):=by omega
       have Qa5:Hid (f0=a4++m.las.flatMap T9.dw):=hid (by rw [qf0,List.take_length])
       obtain⟨l0,l1,l2,l3,l4,l5,l6,l7,l8⟩:=ag (Twx.out.blk PB.out (by decide))
       clear qf0
       go_wp2_with fail
       refine (KS.out wp2 BW2.out).out.mono ?_
       rintro e lv ⟨A9,n9,c9,rfl,tK,qR⟩
       obtain⟨g,rfl,rfl,zg,NE,LS9,O9⟩:=jD Of0.out qR tK (T9.yH _)
       have sJ:=hid (Twx.out.trans (aG.of_below qR hsx2 _))
       have HO9:=hid O9
       have HL9:=hid LS9
       have HN9:=hid NE
       have tL:B≤lv.heap.size:=by have:=qR.size;omega
       clear tK qR O9 LS9 NE
       go_wp2_with fail
       refine (kJ (g:=g) HO9.out tL zg HN9.out HL9.out rfl (by have:=LS.out;omega)).mono ?_
       rintro e mI ⟨A7,n7,c7,rfl,rV,ht7⟩
       have EB:f0++(Cd.num (T9.oP m.s.st).length++T9.oP m.s.st)=T9.iE m.mg:=by
        rw [Qa5.out,Qa4.out,Qa3.out,Qa2.out,EN.out]
        simp [St.wb]
       rw [EB] at rV
       obtain⟨rfl,_⟩:=aA rV
       have qK:=hid (sJ.out.trans ht7)
       have FP:=hid (kY (c:=c7) (aD (B:=0) rV) rfl LE.out)
       have BF:Hid (Below w.heap.size w mI):=hid (B1.out.trans ((C3.out.trans (qK.out.below.mono BB.out.1)).mono B1.out.size))
       clear rV ht7 EB
       go_wp2_with fail
       refine FP.out.mono ?_
       rintro e n_ ⟨A8,n8,c8,rfl,vz,hb8⟩
       obtain⟨rfl,hc8⟩:=aA vz
       obtain⟨g8,rfl,_⟩:=ui vz (by rw [Fr.mW];omega)
       have qn:=QN.out n_ (some ⟨g8,0,none⟩) (Fr.frame (T9.iE m.mg)).length c8 0 0
       simp only [Option.isNone_some] at qn
       have R7:=hid (And.intro hc8 (And.intro (gp vz BF.out.size) (BF.out.trans (hb8.mono BF.out.size))))
       obtain⟨nf,hnf⟩:∃ n,n=(Fr.frame (T9.iE m.mg)).length:=⟨_,rfl⟩
       have NF:=hid hnf
       rw [← hnf] at R7 qn ⊢
       clear hc8 vz hb8 hnf
       go_wp2
       go_ret2
       exact⟨_,nf,c8,rfl,NF.out,R7.out.1,R7.out.2.1,R7.out.2.2⟩
end
end
section
section
open Go.RowKit Go.Lib
theorem yA {m p:dR} {w:World} (h:WM m w) (hp:WM p w) (hf:m.fit) (hg:p.fit) :
  Calls prog 3 #[m.val,p.val] w fun e w'=>e=.returned (.bool true)∧Below w.heap.size w w':=by
 obtain⟨w1,hw1⟩:∃ u,w.alloc (.cells #[.int .i64 m.kind,.int .u64 (m.line:Int),.int .u64 (m.aK:Int),.int .u64 (m.bE:Int),.int .u64 (m.bI:Int),.slice m.A m.is.length m.c,.slice m.A1 m.las.length m.c1,.slice m.s.A m.s.ls.length m.s.c,.slice m.s.A2 m.s.ms.length m.s.c2] 30)=u:=⟨_,rfl⟩
 obtain⟨lb,b1,zz1⟩:=bD hw1
 obtain⟨w2,hw2⟩:∃ u,w1.alloc (.cells #[.int .i64 p.kind,.int .u64 (p.line:Int),.int .u64 (p.aK:Int),.int .u64 (p.bE:Int),.int .u64 (p.bI:Int),.slice p.A p.is.length p.c,.slice p.A1 p.las.length p.c1,.slice p.s.A p.s.ls.length p.s.c,.slice p.s.A2 p.s.ms.length p.s.c2] 30)=u:=⟨_,rfl⟩
 obtain⟨pb,b2,zz2⟩:=bD hw2
 have B2:Hid (Below w.heap.size w w2):=hid (b1.trans (b2.mono b1.size))
 have LB:=hid (ah lb b2)
 have PB:=hid pb
 have H2:=hid (h.stay B2.out)
 have P2:=hid (hp.stay B2.out)
 have AW:=hid (rD w2)
 have LT:∀ u,Below w2.heap.size w2 u→Hid (Calls prog 6 #[m.val] u (wZ m u)):=fun u hu=>hid (pG (H2.out.stay hu) hf)
 have LT2:∀ u,Below w2.heap.size w2 u→Hid (Calls prog 6 #[p.val] u (wZ p u)):=fun u hu=>hid (pG (P2.out.stay hu) hg)
 have HF:=hid hf
 have HG:=hid hg
 have KT:=hid LT
 have KT2:=hid LT2
 unfold dR.val at KT KT2
 clear LT LT2 lb b1 pb b2 h hp hf hg zz1 zz2
 unfold dR.val
 go_enter func3,ntmps3
 go_wp2_with fail
 refine AW.out.mono ?_
 rintro e w3 ⟨rfl,c3⟩
 have C3:=hid c3
 obtain⟨l0,l1,l2,l3,l4,l5,l6,l7,l8⟩:=ag (ah LB.out c3)
 obtain⟨q0,q1,q2,q3,q4,q5,q6,q7,q8⟩:=ag (ah PB.out c3)
 clear c3
 go_wp2_with fail
 refine (KT.out w3 C3.out).out.mono ?_
 rintro e w4 ⟨b,rfl,hb,c4⟩
 have C4:=hid (C3.out.trans (c4.mono C3.out.size))
 have HB:=hid hb
 clear hb c4 l0 l1 l2 l3 l4 l5 l6 l7 l8 q0 q1 q2 q3 q4 q5 q6 q7 q8
 obtain⟨l0,l1,l2,l3,l4,l5,l6,l7,l8⟩:=ag (ah LB.out C4.out)
 obtain⟨q0,q1,q2,q3,q4,q5,q6,q7,q8⟩:=ag (ah PB.out C4.out)
 cases b
 ·go_wp2
  go_ret
  exact⟨aj (by simp),B2.out.trans (C4.out.mono B2.out.size)⟩
 go_wp2_with fail
 refine (KT2.out w4 C4.out).out.mono ?_
 rintro e w5 ⟨b,rfl,hb,c5⟩
 have C5:=hid (C4.out.trans (c5.mono C4.out.size))
 have HB2:=hid hb
 clear hb c5 l0 l1 l2 l3 l4 l5 l6 l7 l8 q0 q1 q2 q3 q4 q5 q6 q7 q8
 cases b
 ·go_wp2
  go_ret
  exact⟨aj (by simp),B2.out.trans (C5.out.mono B2.out.size)⟩
 have FE:=hid (HB.out (by simp))
 have FP:=hid (HB2.out (by simp))
 have SH:Hid m.s.st.short:=hid FE.out.s.short
 have rA:Hid p.s.st.short:=hid FP.out.s.short
 have NL:Hid (m.is.length≤maxLen∧m.las.length≤maxLen):=hid ⟨Nat.le_trans H2.out.ic HF.out.ic,Nat.le_trans H2.out.ac HF.out.ac⟩
 have PU:=hid (uj (H2.out.stay C5.out) HF.out.ok FE.out.t SH.out NL.out.1 NL.out.2)
 unfold fU dR.val at PU
 obtain⟨ck,hck⟩:∃ v,T9.bA m.mg=v:=⟨_,rfl⟩
 obtain⟨bs,hbs⟩:∃ v,(if T9.okW m.mg=true then Fr.frame (T9.iE m.mg) else [])=v:=⟨_,rfl⟩
 have HCK:=hid hck
 have HBS:=hid hbs
 rw [hck,hbs] at PU
 obtain⟨l0,l1,l2,l3,l4,l5,l6,l7,l8⟩:=ag (ah LB.out C5.out)
 clear hck hbs
 go_wp2_with fail
 refine PU.out.mono ?_
 rintro e w6 ⟨A6,n6,c6,rfl,hn6,hc6,ho6,hb6⟩
 have C6:=hid (C5.out.trans (hb6.mono C5.out.size))
 have L6:=hid (aD (B:=0) ho6)
 have N6:=hid hn6
 have PR:=hid (x9 (H2.out.stay C6.out) HF.out.ok FE.out.t SH.out)
 unfold fU dR.val at PR
 rw [HCK.out,HBS.out] at PR
 clear hn6 hc6 ho6 hb6 l0 l1 l2 l3 l4 l5 l6 l7 l8
 obtain⟨l0,l1,l2,l3,l4,l5,l6,l7,l8⟩:=ag (ah LB.out C6.out)
 go_wp2_with fail
 refine PR.out.mono ?_
 rintro e w7 ⟨A7,n7,c7,rfl,hn7,hc7,rV,Bc⟩
 have C7:=hid (C6.out.trans (Bc.mono C6.out.size))
 have L7:=hid (aD (B:=0) rV)
 have M6:=hid (L6.out.below (Nat.zero_le _) Bc)
 have N7:=hid hn7
 obtain⟨sm,hsm⟩:∃ v,T9.mr m.mg p.mg=v:=⟨_,rfl⟩
 have CH:∀ u,Below w2.heap.size w2 u→Hid (Calls prog 9 #[.agg #[.int .i64 m.kind,.int .u64 (m.line:Int),.int .u64 (m.aK:Int),.int .u64 (m.bE:Int),.int .u64 (m.bI:Int),.slice m.A m.is.length m.c,.slice m.A1 m.las.length m.c1,.slice m.s.A m.s.ls.length m.s.c,.slice m.s.A2 m.s.ms.length m.s.c2]] u fun e w'=>e=.returned (.int .i64 ck)∧Below u.heap.size u w'):=fun u hu=>hid (by rw [← HCK.out];exact mU (H2.out.stay hu) HF.out.ok FE.out.t SH.out NL.out.1 NL.out.2)
 have CR:∀ u,Below w2.heap.size w2 u→Hid (Calls prog 10 #[.agg #[.int .i64 m.kind,.int .u64 (m.line:Int),.int .u64 (m.aK:Int),.int .u64 (m.bE:Int),.int .u64 (m.bI:Int),.slice m.A m.is.length m.c,.slice m.A1 m.las.length m.c1,.slice m.s.A m.s.ls.length m.s.c,.slice m.s.A2 m.s.ms.length m.s.c2]] u fun e w'=>e=.returned (.int .i64 ck)∧Below u.heap.size u w'):=fun u hu=>hid (by rw [← HCK.out];exact ja (H2.out.stay hu) HF.out.ok FE.out.t SH.out)
 have SS:∀ u,Below w2.heap.size w2 u→Hid (Calls prog 11 #[.agg #[.int .i64 m.kind,.int .u64 (m.line:Int),.int .u64 (m.aK:Int),.int .u64 (m.bE:Int),.int .u64 (m.bI:Int),.slice m.A m.is.length m.c,.slice m.A1 m.las.length m.c1,.slice m.s.A m.s.ls.length m.s.c,.slice m.s.A2 m.s.ms.length m.s.c2],.agg #[.int .i64 p.kind,.int .u64 (p.line:Int),.int .u64 (p.aK:Int),.int .u64 (p.bE:Int),.int .u64 (p.bI:Int),.slice p.A p.is.length p.c,.slice p.A1 p.las.length p.c1,.slice p.s.A p.s.ls.length p.s.c,.slice p.s.A2 p.s.ms.length p.s.c2]] u fun e w'=>e=.returned (.bool sm)∧Below u.heap.size u w'):=fun u hu=>hid (by rw [← hsm];exact wE (H2.out.stay hu) (P2.out.stay hu) HF.out.ok HG.out.ok SH.out rA.out (by have:=FE.out.i;omega) (by have:=FE.out.a;omega))
 have SR:∀ u,Below w2.heap.size w2 u→Hid (Calls prog 12 #[.agg #[.int .i64 m.kind,.int .u64 (m.line:Int),.int .u64 (m.aK:Int),.int .u64 (m.bE:Int),.int .u64 (m.bI:Int),.slice m.A m.is.length m.c,.slice m.A1 m.las.length m.c1,.slice m.s.A m.s.ls.length m.s.c,.slice m.s.A2 m.s.ms.length m.s.c2],.agg #[.int .i64 p.kind,.int .u64 (p.line:Int),.int .u64 (p.aK:Int),.int .u64 (p.bE:Int),.int .u64 (p.bI:Int),.slice p.A p.is.length p.c,.slice p.A1 p.las.length p.c1,.slice p.s.A p.s.ls.length p.s.c,.slice p.s.A2 p.s.ms.length p.s.c2]] u fun e w'=>e=.returned (.bool sm)∧Below u.heap.size u w'):=fun u hu=>hid (by rw [← hsm];exact jE (H2.out.stay hu) (P2.out.stay hu) HF.out.ok HG.out.ok SH.out rA.out (by have:=FE.out.i;omega) (by have:=FE.out.a;omega))
 have SI:∀ u,Below w2.heap.size w2 u→Hid (Calls prog 11 #[.agg #[.int .i64 m.kind,.int .u64 (m.line:Int),.int .u64 (m.aK:Int),.int .u64 (m.bE:Int),.int .u64 (m.bI:Int),.slice m.A m.is.length m.c,.slice m.A1 m.las.length m.c1,.slice m.s.A m.s.ls.length m.s.c,.slice m.s.A2 m.s.ms.length m.s.c2],.agg #[.int .i64 m.kind,.int .u64 (m.line:Int),.int .u64 (m.aK:Int),.int .u64 (m.bE:Int),.int .u64 (m.bI:Int),.slice m.A m.is.length m.c,.slice m.A1 m.las.length m.c1,.slice m.s.A m.s.ls.length m.s.c,.slice m.s.A2 m.s.ms.length m.s.c2]] u fun e w'=>e=.returned (.bool true)∧Below u.heap.size u w'):=fun u hu=>hid (by
  have q:=wE (H2.out.stay hu) (H2.out.stay hu) HF.out.ok HF.out.ok SH.out SH.out (by have:=FE.out.i;omega) (by have:=FE.out.a;omega)
  rw [T9.lg] at q
  exact q)
 have HCH:=hid CH
 have HCR:=hid CR
 have HSS:=hid SS
 have HSR:=hid SR
 have HSI:=hid SI
 have D7:Hid (Below w2.heap.size w2 w7.drew):=hid C7.out.drew
 have X6:Hid (av w7.drew 0 5 A6 (af bs)):=hid M6.out.drew
 have X7:Hid (av w7.drew 0 5 A7 (af bs)):=hid L7.out.drew
 have BB:(bs==bs)=true:=by simp
 have BS2:(str bs==str bs)=true:=by rw [wH];simp
 clear CH CR SS SR SI hsm hn7 hc7 rV Bc l0 l1 l2 l3 l4 l5 l6 l7 l8
 go_wp2_with fail
 refine wp_region_held_drew (S:=fun u=>Below w2.heap.size w2 u∧u.heap[w.heap.size]?=some (.cells #[.int .i64 m.kind,.int .u64 (m.line:Int),.int .u64 (m.aK:Int),.int .u64 (m.bE:Int),.int .u64 (m.bI:Int),.slice m.A m.is.length m.c,.slice m.A1 m.las.length m.c1,.slice m.s.A m.s.ls.length m.s.c,.slice m.s.A2 m.s.ms.length m.s.c2] 30 (0,0))∧u.heap[w1.heap.size]?=some (.cells #[.int .i64 p.kind,.int .u64 (p.line:Int),.int .u64 (p.aK:Int),.int .u64 (p.bE:Int),.int .u64 (p.bI:Int),.slice p.A p.is.length p.c,.slice p.A1 p.las.length p.c1,.slice p.s.A p.s.ls.length p.s.c,.slice p.s.A2 p.s.ms.length p.s.c2] 30 (0,0))∧av u 0 5 A6 (af bs)∧av u 0 5 A7 (af bs)) (by kernel_rfl) (⟨D7.out,ah LB.out D7.out,ah PB.out D7.out,X6.out,X7.out⟩) (fun S0=>?_)
 refine dH 0 ?_ rfl (by kernel_rfl) rfl ?_ S0 ?_
 rotate_left
 ·intro u hu;obtain⟨l0,l1,l2,l3,l4,l5,l6,l7,l8⟩:=ag hu.2.1;go_simp;try rfl
 try simp only [Act.put,pS]
 refine dH 2 ?_ rfl (by kernel_rfl) rfl ?_ S0 ?_
 rotate_left
 ·intro u hu;obtain⟨l0,l1,l2,l3,l4,l5,l6,l7,l8⟩:=ag hu.2.1;go_simp;try rfl
 try simp only [Act.put,pS]
 refine aJ (i:=1) (by kernel_rfl) rfl (fun K hK=>?_)
 go_simp
 refine (HCH.out _ S0.1).out.mono ?_
 rintro e v1 ⟨rfl,hbv⟩
 have S1:=And.intro (S0.1.trans (hbv.mono S0.1.size)) (And.intro (ah S0.2.1 hbv) (And.intro (ah S0.2.2.1 hbv) (And.intro (S0.2.2.2.1.below (Nat.zero_le _) hbv) (S0.2.2.2.2.below (Nat.zero_le _) hbv))))
 refine hK _ _ S1 ?_
 clear hK K S0 hbv
 have S0:=S1
 clear S1
 try simp only [Act.put,pS]
 refine aJ (i:=3) (by kernel_rfl) rfl (fun K hK=>?_)
 go_simp
 refine (HCR.out _ S0.1).out.mono ?_
 rintro e v3 ⟨rfl,hbv⟩
 have S1:=And.intro (S0.1.trans (hbv.mono S0.1.size)) (And.intro (ah S0.2.1 hbv) (And.intro (ah S0.2.2.1 hbv) (And.intro (S0.2.2.2.1.below (Nat.zero_le _) hbv) (S0.2.2.2.2.below (Nat.zero_le _) hbv))))
 refine hK _ _ S1 ?_
 clear hK K S0 hbv
 have S0:=S1
 clear S1
 try simp only [Act.put,pS]
 refine dH 4 ?_ rfl (by kernel_rfl) rfl ?_ S0 ?_
 rotate_left
 ·intro u hu;go_simp;try rfl
 try simp only [Act.put,pS]
 refine dH 5 ?_ rfl (by kernel_rfl) rfl ?_ S0 ?_
 rotate_left
 ·intro u hu;go_simp;try rfl
 try simp only [Act.put,pS]
 refine dH 6 ?_ rfl (by kernel_rfl) rfl ?_ S0 ?_
 rotate_left
 ·intro u hu;go_simp;try rfl
 try simp only [Act.put,pS]
 refine dH 7 ?_ rfl (by kernel_rfl) rfl ?_ S0 ?_
 rotate_left
 ·intro u hu;have k1:=bR (c:=c6) hu.2.2.2.1 N6.out;go_simp;try rfl
 try simp only [Act.put,pS]
 refine dH 8 ?_ rfl (by kernel_rfl) rfl ?_ S0 ?_
 rotate_left
 ·intro u hu;go_simp;try rfl
 try simp only [Act.put,pS]
 refine dH 9 ?_ rfl (by kernel_rfl) rfl ?_ S0 ?_
 rotate_left
 ·intro u hu;have k2:=bR (c:=c7) hu.2.2.2.2 N7.out;go_simp;try rfl
 try simp only [Act.put,pS]
 refine dH 10 ?_ rfl (by kernel_rfl) rfl ?_ S0 ?_
 rotate_left
 ·intro u hu;go_simp;try rfl
 try simp only [Act.put,pS]
 refine dH 11 ?_ rfl (by kernel_rfl) rfl ?_ S0 ?_
 rotate_left
 ·intro u hu;go_simp;try rfl
 try simp only [Act.put,pS]
 refine dH 12 ?_ rfl (by kernel_rfl) rfl ?_ S0 ?_
 rotate_left
 ·intro u hu;go_simp;try rfl
 try simp only [Act.put,pS]
 refine dH 13 ?_ rfl (by kernel_rfl) rfl ?_ S0 ?_
 rotate_left
 ·intro u hu;go_simp;try rfl
 try simp only [Act.put,pS]
 refine dH 14 ?_ rfl (by kernel_rfl) rfl ?_ S0 ?_
 rotate_left
 ·intro u hu;go_simp;try rfl
 try simp only [Act.put,pS]
 refine dH 15 ?_ rfl (by kernel_rfl) rfl ?_ S0 ?_
 rotate_left
 ·intro u hu;go_simp;try rfl
 try simp only [Act.put,pS]
 refine dH 16 ?_ rfl (by kernel_rfl) rfl ?_ S0 ?_
 rotate_left
 ·intro u hu;go_simp;try rfl
 try simp only [Act.put,pS]
 refine dH 17 ?_ rfl (by kernel_rfl) rfl ?_ S0 ?_
 rotate_left
 ·intro u hu;go_simp;try rfl
 try simp only [Act.put,pS]
 refine dH 18 ?_ rfl (by kernel_rfl) rfl ?_ S0 ?_
 rotate_left
 ·intro u hu;obtain⟨l0,l1,l2,l3,l4,l5,l6,l7,l8⟩:=ag hu.2.1;go_simp;try rfl
 try simp only [Act.put,pS]
 refine dH 19 ?_ rfl (by kernel_rfl) rfl ?_ S0 ?_
 rotate_left
 ·intro u hu;obtain⟨q0,q1,q2,q3,q4,q5,q6,q7,q8⟩:=ag hu.2.2.1;go_simp;try rfl
 try simp only [Act.put,pS]
 refine dH 21 ?_ rfl (by kernel_rfl) rfl ?_ S0 ?_
 rotate_left
 ·intro u hu;obtain⟨l0,l1,l2,l3,l4,l5,l6,l7,l8⟩:=ag hu.2.1;go_simp;try rfl
 try simp only [Act.put,pS]
 refine dH 22 ?_ rfl (by kernel_rfl) rfl ?_ S0 ?_
 rotate_left
 ·intro u hu;obtain⟨q0,q1,q2,q3,q4,q5,q6,q7,q8⟩:=ag hu.2.2.1;go_simp;try rfl
 try simp only [Act.put,pS]
 refine aJ (i:=20) (by kernel_rfl) rfl (fun K hK=>?_)
 go_simp
 refine (HSS.out _ S0.1).out.mono ?_
 rintro e v20 ⟨rfl,hbv⟩
 have S1:=And.intro (S0.1.trans (hbv.mono S0.1.size)) (And.intro (ah S0.2.1 hbv) (And.intro (ah S0.2.2.1 hbv) (And.intro (S0.2.2.2.1.below (Nat.zero_le _) hbv) (S0.2.2.2.2.below (Nat.zero_le _) hbv))))
 refine hK _ _ S1 ?_
 clear hK K S0 hbv
 have S0:=S1
 clear S1
 try simp only [Act.put,pS]
 refine aJ (i:=23) (by kernel_rfl) rfl (fun K hK=>?_)
 go_simp
 refine (HSR.out _ S0.1).out.mono ?_
 rintro e v23 ⟨rfl,hbv⟩
 have S1:=And.intro (S0.1.trans (hbv.mono S0.1.size)) (And.intro (ah S0.2.1 hbv) (And.intro (ah S0.2.2.1 hbv) (And.intro (S0.2.2.2.1.below (Nat.zero_le _) hbv) (S0.2.2.2.2.below (Nat.zero_le _) hbv))))
 refine hK _ _ S1 ?_
 clear hK K S0 hbv
 have S0:=S1
 clear S1
 try simp only [Act.put,pS]
 refine dH 24 ?_ rfl (by kernel_rfl) rfl ?_ S0 ?_
 rotate_left
 ·intro u hu;go_simp;try rfl
 try simp only [Act.put,pS]
 refine dH 25 ?_ rfl (by kernel_rfl) rfl ?_ S0 ?_
 rotate_left
 ·intro u hu;go_simp;try rfl
 try simp only [Act.put,pS]
 refine dH 26 ?_ rfl (by kernel_rfl) rfl ?_ S0 ?_
 rotate_left
 ·intro u hu;go_simp;try rfl
 try simp only [Act.put,pS]
 refine dH 27 ?_ rfl (by kernel_rfl) rfl ?_ S0 ?_
 rotate_left
 ·intro u hu;obtain⟨l0,l1,l2,l3,l4,l5,l6,l7,l8⟩:=ag hu.2.1;go_simp;try rfl
 try simp only [Act.put,pS]
 refine dH 28 ?_ rfl (by kernel_rfl) rfl ?_ S0 ?_
 rotate_left
 ·intro u hu;obtain⟨l0,l1,l2,l3,l4,l5,l6,l7,l8⟩:=ag hu.2.1;go_simp;try rfl
 try simp only [Act.put,pS]
 refine aJ (i:=29) (by kernel_rfl) rfl (fun K hK=>?_)
 go_simp
 refine (HSI.out _ S0.1).out.mono ?_
 rintro e v29 ⟨rfl,hbv⟩
 have S1:=And.intro (S0.1.trans (hbv.mono S0.1.size)) (And.intro (ah S0.2.1 hbv) (And.intro (ah S0.2.2.1 hbv) (And.intro (S0.2.2.2.1.below (Nat.zero_le _) hbv) (S0.2.2.2.2.below (Nat.zero_le _) hbv))))
 refine hK _ _ S1 ?_
 clear hK K S0 hbv
 have S0:=S1
 clear S1
 try simp only [Act.put,pS]
 refine dH 30 ?_ rfl (by kernel_rfl) rfl ?_ S0 ?_
 rotate_left
 ·intro u hu;go_simp;try rfl
 try simp only [Act.put,pS]
 refine dH 31 ?_ rfl (by kernel_rfl) rfl ?_ S0 ?_
 rotate_left
 ·intro u hu;go_simp;try rfl
 try simp only [Act.put,pS]
 refine wpAnyH_done (by kernel_rfl) ?_ _
 have FIN:=hid (B2.out.trans (S0.1.mono B2.out.size))
 clear S0
 go_wp2
 go_ret
 exact⟨aj (by cases sm <;> simp),FIN.out⟩
end
end
section
open Go.ChangeShapes Go.WideShapes Go.ChangeAt Go.RowKit
theorem oo (os:Os) (started:os.Started) (H:Type) (enc:TypeId × Value→H) :
  ReturnsInHanded {} Tryz.checked os 3 .any (Rows.wirePutsSpec.pre6 enc prog Tryz.f3 Rows.wirePutsRow.domain false) (Rows.wirePutsSpec.post enc prog Tryz.f3 false true false false):=by
 refine returnsInHanded_of_change (C:=Tryz.checked) Tryz.own2 started (by kernel_rfl) func3
  (ChangeSpec.witness6 (enc:=enc) (C:=Tryz.checked) false ⟨#[],#[.agg #[.int .i64 0,.int .u64 0,.int .u64 0,.int .u64 0,.int .u64 0,.slice none 0 0,.slice none 0 0,.slice none 0 0,.slice none 0 0],.agg #[.int .i64 0,.int .u64 0,.int .u64 0,.int .u64 0,.int .u64 0,.slice none 0 0,.slice none 0 0,.slice none 0 0,.slice none 0 0]],[]⟩ 8 (by kernel_rfl) (by kernel_rfl) (by kernel_rfl) (by kernel_rfl)) ?_
 intro W base args ds gs before hval0 hW hcnd _
 have hval:∀ (j:Nat) t v,Tryz.f3.params[j]?=some t→args[j]?=some v→Value.okWide prog W .any base t v:=hval0
 have hW':=hW
 obtain⟨p,q,hA0,hV,rfl,hfz,hnd⟩:=hW
 have hA:DataW.TrodAll enc prog W 0 (fun _=>true) true Tryz.f3.params.toList args.toList ds p:=hA0
 rw [Tryz.params3] at hA hval
 obtain⟨v0,v1,d0,d1,p0,p1,rfl,rfl,hps,h0,h1⟩:=trodAll_two hA
 obtain⟨m0,e0,hs0,hf0⟩:=pV (hval 0 30 v0 rfl rfl) h0
 subst e0
 obtain⟨m1,e1,hs1,hf1⟩:=pV (hval 1 30 v1 rfl rfl) h1
 subst e1
 refine (yA hs0 hs1 hf0 hf1).mono fun e W' ⟨he,hw⟩=>?_
 subst he
 refine⟨_,rfl,vS (tb:=4) Tryz.laidOut2 ?_ rfl (by kernel_rfl) underlying4 hW' hw ?_ ?_ ?_⟩
 ·intro t ht
  rw [Tryz.params3] at ht
  simp at ht
  rcases ht with rfl | rfl
  all_goals exact⟨by kernel_rfl,of_decide_eq_true (by kernel_rfl)⟩
 all_goals
  obtain⟨rfl,rfl⟩:=trodVars_none hV
  rfl
theorem wirePuts_holds:Rows.WirePutsSaid :=
 OpenClaim.holds_of_wide 3 Tryz.f3 rfl rfl rfl rfl rfl rfl rfl ⟨rfl,rfl,rfl,rfl,rfl⟩ rfl rfl rfl rfl rfl (by kernel_rfl) func3 (by kernel_rfl)
  (of_decide_eq_true (by kernel_rfl)) (by unfold Func.isWrapper;first | (rw [if_pos (by decide +kernel)];kernel_rfl) | (rw [if_neg (by decide +kernel)];exact⟨rfl,rfl⟩))
  (fun os started H enc _=>oo os started H enc)
end
end Go.Proofs.YtmcfknnfaokmlaaGreat
