import Derived.Test.YtcedlgedmkghgaaGreatZ49
namespace Go.Proofs.YtcedlgedmkghgaaGreat
set_option maxHeartbeats 16000000
open Go.Lib Go.Proofs.Tryz
set_option linter.unusedSimpArgs false
set_option maxRecDepth 100000
section
set_option linter.unusedSimpArgs false
section
open Go.RowKit Go.Lib Go.Shelf
attribute [local go_sem] Oper.semAt_some
theorem Tryz.infoE14:(prog.info? 50).map (fun i=>(i.zero,i.size,i.bytes))=some (some (.int .i64 0),1,8):=by kernel_rfl
theorem ve (k:Nat) (hk:k≤1000000):∃ Z:Array Value,Z.size=k∧∀ w:World,(Instr.makeSlice 36 (.int .i64 0) (.int .i64 (k:Int))).run prog w=.ok (.slice (some ⟨w.heap.size,0,none⟩) 0 k) (w.alloc (.cells Z 50)):=by
 obtain⟨ti,hi,EX,EY,EZ⟩:=info_parts Tryz.infoE14
 refine⟨madeCells (Value.int .i64 0).cells k,?_,fun w=>?_⟩
 ·have e:=congrArg List.length (toList_madeCells_one (.int .i64 0) k)
  rw [Array.length_toList,List.length_replicate] at e
  exact e
 ·have q:=run_make (P:=prog) w 36 50 ti _ underlying36 hi EX .i64 .i64 0 k (by omega) (by omega) (by rw [EZ];omega) (by omega)
  rw [q,Int.toNat_natCast,EY,Nat.mul_one]
  rfl
structure Fb (w:World) (eb:Nat) (es:List Int) (W:World):Prop where
 row:∃ A c,W.heap[eb]?=some (.cells #[.slice A es.length c] 36 (0,0))∧W.ownsRow w.heap.size 50 1 (.slice A es.length c) es.length (es.map encZ)
theorem Fb.bH {w W W':World} {eb B:Nat} {es:List Int} {ts:List TypeId} (h:Fb w eb es W) (hT:aN B ts W W') (h1:36 ∉ ts) (h2:50 ∉ ts):Fb w eb es W':=by
 obtain⟨A,c,hb,hr⟩:=h.row
 exact⟨A,c,hT.blk hb h1,bP hr hT h2⟩
structure vT (w:World) (nb eb:Nat) (s:T9.St) (ms:List T9.Mu) (pre:List (Int × aW)) (W:World):Prop where
 now:∃ q:aW,W.heap[nb]?=some (.cells #[.slice q.A q.ls.length q.c,.slice q.A2 q.ms.length q.c2] 25 (0,0))∧j_ q W∧q.st=T9.cK s (ms.take pre.length)
 err:Fb w eb (T9.dJ s (ms.take pre.length)) W
 res:W.heap[w.heap.size+1]?=some (.cells #[.slice none 0 0,.slice none 0 0] 25 (0,0))
 low:Below w.heap.size w W
theorem vT.bH {w W W':World} {nb eb B:Nat} {s:T9.St} {ms:List T9.Mu} {pre:List (Int × aW)} (h:vT w nb eb s ms pre W) (hB:w.heap.size≤B) (hT:aN B [] W W'):vT w nb eb s ms pre W':=by
 obtain⟨q,h1,h2,h3⟩:=h.now
 exact⟨⟨q,hT.blk h1 (by simp),h2.bH hT (by simp) (by simp) (by simp),h3⟩,h.err.bH hT (by simp) (by simp),hT.blk h.res (by simp),h.low.trans (hT.below.mono hB)⟩
theorem vT.stp {w W W':World} {nb eb B:Nat} {s:T9.St} {ms:List T9.Mu} {pre:List (Int × aW)} (h:vT w nb eb s ms pre W) (hn:nb<B) (hB:w.heap.size+1<B) (hT:Fj B W W'):vT w nb eb s ms pre W':=by
 obtain⟨q,h1,h2,h3⟩:=h.now
 exact⟨⟨q,(hT.o nb (lt_of_block h1) (by omega)).trans h1,h2.bH hT.t (by decide) (by decide) (by decide),h3⟩,h.err.bH hT.t (by decide) (by decide),(hT.o _ (lt_of_block h.res) (by omega)).trans h.res,h.low.trans (hT.t.below.mono (by omega))⟩
theorem yL {n0 B l:Nat} {ts:List TypeId} {A:World} {r:Loop} (o:Obj) (h:A.heap[l]?=some (.loop r)) (h1:n0≤l) (h2:l≠B):xO n0 ts B A (A.putObj l o):=⟨((vL o h h1).more (by simp)),World.putObj_heap_other (by omega)⟩
theorem xO.trans {n0 B:Nat} {ts:List TypeId} {A A' A'':World} (h:xO n0 ts B A A') (k:xO n0 ts B A' A''):xO n0 ts B A A'':=⟨h.1.trans k.1,k.2.trans h.2⟩
theorem allF:AllF:=by
 intro s A n c xs w hs hf hI hn hx km
 obtain⟨w0,hw0⟩:∃ u,w.alloc (.cells #[.slice s.A s.ls.length s.c,.slice s.A2 s.ms.length s.c2] 25)=u:=⟨_,rfl⟩
 obtain⟨lb,b1,z1⟩:=ak hw0
 obtain⟨w1,hw1⟩:∃ u,w0.alloc (.cells #[.slice none 0 0,.slice none 0 0] 25)=u:=⟨_,rfl⟩
 obtain⟨rb,b2,z2⟩:=ak hw1
 rw [z1] at rb
 have B1:Hid (Below w.heap.size w w1):=hid (b1.trans (b2.mono (by omega)))
 have RB:=hid rb
 have BG:=hid (vG (hs.stay B1.out) hf.cs hf.n1 hf.n2 hf.n3)
 unfold qF at BG
 obtain⟨s0,hs0⟩:∃ r,T9.dO s.st=r:=⟨_,rfl⟩
 have SD:Hid (T9.fV s0):=hid (by rw [← hs0];exact T9.kH hf.ok)
 rw [hs0] at BG ⊢
 have H:=hid hI
 have HN:=hid hn
 have KM:=hid km
 have HX:=hid hx
 have Z2:Hid (w1.heap.size=w.heap.size+2):=hid (by omega)
 obtain⟨l0,l1⟩:=aa (ae lb b2)
 obtain⟨Z,hZ,hmk⟩:=ve n hx
 have ZS:=hid hZ
 unfold aW.val at BG ⊢
 clear lb b1 rb b2 z2 hs hf hI hn km hs0 hZ
 refine iZ func27 rfl ?_
 simp only [ntmps27,List.size_toArray,List.length_cons,List.length_nil,Nat.reduceAdd,Nat.reduceSub,Array.replicate_succ,Array.replicate_zero,List.push_toArray,List.append_toArray,List.nil_append,List.cons_append]
 go_wp2_with fail
 refine BG.out.mono ?_
 rintro e w2 ⟨q0,rfl,hq0,hqs0,hb2⟩
 have HB2:=hid hb2
 obtain⟨w3,hw3⟩:∃ u,w2.alloc (.cells #[.slice q0.A q0.ls.length q0.c,.slice q0.A2 q0.ms.length q0.c2] 25)=u:=⟨_,rfl⟩
 obtain⟨nb,b3,z3⟩:=ak hw3
 have made:=World.ownsRow_made (base:=w.heap.size) (e:=50) (size:=1) w3 Z n (by have:=B1.out.size;have:=HB2.out.size;omega) (by unfold maxLen;omega) (by rw [ZS.out,Nat.mul_one])
 have q4:=heap_alloc_new w3 (.cells Z 50)
 obtain⟨w4,hw4⟩:∃ u,w3.alloc (.cells Z 50)=u:=⟨_,rfl⟩
 have z4:w4.heap.size=w3.heap.size+1:=by rw [← hw4];simp
 have b4:Below w3.heap.size w3 w4:=by rw [← hw4];exact (Below.refl _ w3).alloc (Nat.le_refl _) _
 rw [hw4] at made
 obtain⟨w5,fQ⟩:∃ u,w4.alloc (.cells #[.slice (some ⟨w3.heap.size,0,none⟩) 0 n] 36)=u:=⟨_,rfl⟩
 have eb:w5.heap[w4.heap.size]?=some (.cells #[.slice (some ⟨w3.heap.size,0,none⟩) 0 n] 36 (0,0)):=by rw [← fQ];exact heap_alloc_new w4 _
 have z5:w5.heap.size=w4.heap.size+1:=by rw [← fQ];simp
 have b5:Below w4.heap.size w4 w5:=by rw [← fQ];exact (Below.refl _ w4).alloc (Nat.le_refl _) _
 have b25:Below w2.heap.size w2 w5:=b3.trans ((b4.trans (b5.mono (by omega))).mono (by omega))
 have B5:Hid (Below w.heap.size w w5):=hid ((B1.out.trans (HB2.out.mono B1.out.size)).trans (b25.mono (by have:=B1.out.size;have:=HB2.out.size;omega)))
 have NB5:=hid (ae nb (b4.trans (b5.mono (by omega))))
 have EB5:=hid eb
 have zP:=hid (ae RB.out (HB2.out.trans (b25.mono HB2.out.size)))
 have kG:=hid (own_below made b5)
 have Q5:=hid (hq0.stay b25)
 have QS:=hid hqs0
 have CST:=hid (vH (s:=q0) (A:=A) (n:=n) (c:=c) (w:=w5))
 unfold Fq aW.val at CST
 have ZZ:Hid (w.heap.size+2≤w2.heap.size∧w3.heap.size=w2.heap.size+1∧w4.heap.size=w3.heap.size+1∧w5.heap.size=w4.heap.size+1):=hid ⟨by have:=Z2.out;have:=HB2.out.size;omega,z3,z4,z5⟩
 obtain⟨k0,k1⟩:=aa NB5.out
 have HMK:=hid hmk
 have r2:=hmk w3
 rw [hw4] at r2
 clear nb b3 made q4 b4 eb b5 b25 hq0 hqs0 hb2 l0 l1 hmk z3 z4 z5
 obtain⟨m0,m1⟩:=aa (show w3.heap[w2.heap.size]?=_ from (by rw [← hw3];exact heap_alloc_new w2 _))
 go_wp2_with fail
 refine CST.out.mono ?_
 rintro e w6 ⟨rfl,hb6,hl6,h6,z6⟩
 have H6:=hid h6
 have N6:=hid (ae NB5.out h6)
 have E6:=hid (ae EB5.out h6)
 have R6:=hid (ae zP.out h6)
 have O6:=hid (own_below kG.out h6)
 have Q6:=hid (Q5.out.stay h6)
 have B6:Hid (Below w.heap.size w w6):=hid (B5.out.trans (h6.mono B5.out.size))
 have Z6:=hid z6
 have SG:Hid (∀ W,Below w6.heap.size w6 W→W.heap.size=w6.heap.size+2→xQ (9 - 1) prog 76 #[.pointer (some ⟨w5.heap.size,0,none⟩),.pointer (some ⟨w5.heap.size+1,0,none⟩)] nZ Fj (xO w.heap.size [25,50,36]) (fun _ _ _=>True) (fun B x W=>j_ x.2 W∧Ty W B 25) (SE14 s0 (dx xs)) (Af s0 (dx xs)) n W):=hid (fun W hW hz=>by
  rw [← QS.out]
  exact vI (ae hb6 hW) (ae hl6 hW) (Q6.out.stay hW) (by rw [QS.out];exact SD.out) (au.below (au.below H.out (Nat.le_refl _) B6.out) B6.out.size (hW.mono (Nat.le_refl _))) HN.out HX.out KM.out (Nat.le_trans B6.out.size hW.size) (by decide) (by decide) (by decide) (by decide) (by decide))
 have I6:Hid (vT w w2.heap.size w4.heap.size s0 (dx xs) [] w6):=hid ⟨⟨q0,N6.out,Q6.out,QS.out⟩,⟨_,_,E6.out,O6.out⟩,R6.out,B6.out⟩
 clear h6 hb6 hl6 k0 k1 m0 m1 r2 z1 z6 hw0 hw1 hw3 hw4 fQ CST
 go_wp2_with fail
 refine (wpIn_wide (n:=9)).1 ?_
 refine' CJ (α:=Int × aW) (n:=9) (by decide) (gf:=76) rfl (enters_of func76 (by kernel_rfl) rfl) SG.out (fun _=>rfl) (fun h=>h.t.below) (fun h k=>h.trans k) (fun o h=>yL o h (by have:=B6.out.size;omega) (by omega)) (fun _ _=>trivial) (fun _ _ _=>trivial)
  (vT w w2.heap.size w4.heap.size s0 (dx xs)) (fun _ _=>False) (fun _ _ _ h hT=>h.bH B6.out.size hT) (fun _ _ _ h _=>h) (fun _ _ _ h hT=>h.stp (by have:=ZZ.out;have:=Z6.out;omega) (by have:=ZZ.out;have:=Z6.out;omega) hT) (fun _ _ _ h _=>h) I6.out (fun x b=>{ tmps:=#[.agg #[.slice s.A s.ls.length s.c,.slice s.A2 s.ms.length s.c2],.slice A n c,.pointer (some ⟨w.heap.size,0,none⟩),undef,.pointer (some ⟨w.heap.size+1,0,none⟩),.slice none 0 0,.pointer (some ⟨w2.heap.size,0,none⟩),.pointer (some ⟨w4.heap.size,0,none⟩),.int .i64 x.1,.pointer (some ⟨b,0,none⟩),.agg #[.slice s.A s.ls.length s.c,.slice s.A2 s.ms.length s.c2],.agg #[.slice q0.A q0.ls.length q0.c,.slice q0.A2 q0.ms.length q0.c2],.slice A n c,.int .i64 (n:Int),.slice (some ⟨w3.heap.size,0,none⟩) 0 n,.agg #[.slice q0.A q0.ls.length q0.c,.slice q0.A2 q0.ms.length q0.c2],.slice A n c,.func (.func 76) #[] #[.pointer (some ⟨w5.heap.size,0,none⟩),.pointer (some ⟨w5.heap.size+1,0,none⟩)],.int .i64 x.1,.agg #[.slice x.2.A x.2.ls.length x.2.c,.slice x.2.A2 x.2.ms.length x.2.c2],undef,undef,undef,undef,undef,undef,undef],defers:=[] })
  (fun pre x b W=>vT w w2.heap.size w4.heap.size s0 (dx xs) pre W∧j_ x.2 W∧W.heap[b]?=some (.cells #[.slice x.2.A x.2.ls.length x.2.c,.slice x.2.A2 x.2.ms.length x.2.c2] 25 (0,0))∧b≠w2.heap.size∧Ty W (w6.heap.size+2) 25∧b≠w6.heap.size+2)
  (fun pre x b A A' h hT=>⟨h.1.bH B6.out.size hT,h.2.1.bH hT (by simp) (by simp) (by simp),hT.blk h.2.2.1 (by simp),h.2.2.2.1,(by obtain⟨cs,fr,y⟩:=h.2.2.2.2.1;exact⟨cs,fr,hT.blk y (by simp)⟩),h.2.2.2.2.2⟩) ?assign ?body ?done ?stop
 case assign =>
  rintro pre x W zQ ⟨hq,hty⟩ hpn hzW
  unfold nZ aW.val
  dsimp only at hq ⊢
  obtain⟨b,hb⟩:∃ b,W.heap.size=b:=⟨_,rfl⟩
  obtain⟨W1,hW1⟩:∃ u,W.alloc (.cells #[.slice x.2.A x.2.ls.length x.2.c,.slice x.2.A2 x.2.ms.length x.2.c2] 25)=u:=⟨_,rfl⟩
  obtain⟨xb,bx,zx⟩:=ak hW1
  rw [hb] at xb
  have XB:=hid xb
  have BX:=hid bx
  have Ju:=hid zQ
  have HQ:=hid hq
  have TY:=hid hty
  have HZ:=hid hzW
  have HB:=hid hb
  have LT:Hid (w6.heap.size+2<W.heap.size):=hid (by obtain⟨cs,fr,y⟩:=hty;exact lt_of_block y)
  clear xb bx zx zQ hq hty hb
  gi_wp2
  rw [HB.out]
  refine⟨⟨BX.out.block _ HZ.out,BX.out.block _ (by have:=HZ.out;omega)⟩,⟨aN.of_below BX.out Ju.out.low.size _,BX.out.block _ LT.out⟩,b,rfl,Ju.out.bH Ju.out.low.size (aN.of_below BX.out (Nat.le_refl _) _),HQ.out.stay BX.out,XB.out,?_,?_,?_⟩
  ·rw [← HB.out];have:=LT.out;have:=ZZ.out;have:=Z6.out;omega
  ·obtain⟨cs,fr,y⟩:=TY.out
   exact⟨cs,fr,ae y BX.out⟩
  ·rw [← HB.out];have:=LT.out;omega
 case body =>
  rintro pre x b W ⟨zQ,hq,hb,hbn,hty,hb2⟩ hpn hsp hz hn1 hn2
  obtain⟨q,hnb,hqS,mO⟩:=zQ.now
  obtain⟨A7,c7,uC,hrow⟩:=zQ.err.row
  obtain⟨hsE,hsS⟩:=hsp.last
  have esl:(T9.dJ s0 ((dx xs).take pre.length)).length≤1000000:=by rw [T9.ja,List.length_take];omega
  obtain⟨es,hes⟩:∃ r,T9.dJ s0 ((dx xs).take pre.length)=r:=⟨_,rfl⟩
  rw [hes] at uC hrow hsE esl
  have ce:=iC uC
  have fe:=af uC 0
  obtain⟨i0,hi,EX,EY,EZ⟩:=info_parts Tryz.infoE14
  have HNW:Hid (∀ j u,[encZ x.1][j]?=some u→(W.alloc (.cells #[encZ x.1] 50)).cell? ((⟨W.heap.size,0,none⟩:Addr).add j)=some u):=hid (fun j u hj=>by
   have hn':=iC (heap_alloc_new W (.cells #[encZ x.1] 50))
   cases j with
   | zero=>simpa [Addr.add] using hn'.trans hj
   | succ j=>simp at hj)
  have LT:Hid (w6.heap.size+2<W.heap.size):=hid (by obtain⟨cs,fr,y⟩:=hty;exact lt_of_block y)
  have HR:=hid hrow
  have HEB:=hid uC
  have HNB:=hid hnb
  have HBB:=hid hb
  have HQX:=hid hq
  have Ju:=hid zQ
  have N1:=hid hn1
  have N2:=hid hn2
  have TY:=hid hty
  have HSE:=hid hsE
  have HSS:=hid hsS
  have BN:=hid (And.intro hbn hb2)
  have PN:=hid hpn
  have HZW:=hid hz
  have wsz:=Ju.out.low.size
  clear hrow uC hnb hb hq zQ hn1 hn2 hty hsE hsS hbn hb2 hqS mO hes hsp hpn hz
  unfold encZ at HNW
  gi_wp2_with (gi_at_builtin;refine wpListIn_append_own _ rfl _ _ 36 rfl w.heap.size 50 i0 _ 1 8 underlying36 hi EX EY EZ rfl (by decide) _ es.length (es.map encZ) rfl (HR.out.alloc _) ⟨W.heap.size,0,none⟩ 1 1 [.int .i64 x.1] rfl rfl HNW.out (by intro u hu;rw [List.mem_singleton] at hu;subst hu;rfl) (by unfold maxLen;omega) (by omega) (by simp;omega) ?_)
  intro v' w7 hown' hgrow hor
  obtain⟨A8,k8,rfl⟩:=aA hown'
  have e7:=jb (HR.out.alloc _) hgrow (aY HEB.out _) (by decide)
  have n7:=jb (HR.out.alloc _) hgrow (aY HNB.out _) (by decide)
  have b7:=jb (HR.out.alloc _) hgrow (aY HBB.out _) (by decide)
  have r7:=jb (HR.out.alloc _) hgrow (aY Ju.out.res _) (by decide)
  have ne1:b≠w4.heap.size:=rT HBB.out HEB.out (by decide)
  have JE:w2.heap.size≠w4.heap.size:=rT HNB.out HEB.out (by decide)
  have ne3:w.heap.size+1≠w4.heap.size:=rT Ju.out.res HEB.out (by decide)
  have ne4:w.heap.size+1≠w2.heap.size:=by have:=ZZ.out;omega
  obtain⟨w8,hw8⟩:∃ u,w7.setCell ⟨w4.heap.size,0,none⟩ (.slice A8 (es.length+1) k8)=u:=⟨_,rfl⟩
  have e8:w8.heap[w4.heap.size]?=some (.cells #[.slice A8 (es.length+1) k8] 36 (0,0)):=by rw [← hw8];exact ah e7 0 _
  have n8:w8.heap[w2.heap.size]?=some (.cells #[.slice q.A q.ls.length q.c,.slice q.A2 q.ms.length q.c2] 25 (0,0)):=by rw [← hw8];exact av n7 JE _
  have b8:w8.heap[b]?=some (.cells #[.slice x.2.A x.2.ls.length x.2.c,.slice x.2.A2 x.2.ms.length x.2.c2] 25 (0,0)):=by rw [← hw8];exact av b7 ne1 _
  have r8:w8.heap[w.heap.size+1]?=some (.cells #[.slice none 0 0,.slice none 0 0] 25 (0,0)):=by rw [← hw8];exact av r7 ne3 _
  obtain⟨w9,jD⟩:∃ u,(w8.setCell ⟨w2.heap.size,0,none⟩ (.slice x.2.A x.2.ls.length x.2.c)).setCell ⟨w2.heap.size,1,none⟩ (.slice x.2.A2 x.2.ms.length x.2.c2)=u:=⟨_,rfl⟩
  have n9:w9.heap[w2.heap.size]?=some (.cells #[.slice x.2.A x.2.ls.length x.2.c,.slice x.2.A2 x.2.ms.length x.2.c2] 25 (0,0)):=by rw [← jD];exact ah (ah n8 0 _) 1 _
  have e9:w9.heap[w4.heap.size]?=some (.cells #[.slice A8 (es.length+1) k8] 36 (0,0)):=by rw [← jD];exact av (av e8 (Ne.symm JE) _) (Ne.symm JE) _
  have r9:w9.heap[w.heap.size+1]?=some (.cells #[.slice none 0 0,.slice none 0 0] 25 (0,0)):=by rw [← jD];exact av (av r8 ne4 _) ne4 _
  have T7:aN w.heap.size [36,50,25] W w7:=((aN.refl w.heap.size [36,50,25] W).alloc wsz _).trans (dP (HR.out.alloc _) hgrow (Nat.le_refl _) (by simp;omega) (by decide))
  have T8:aN w.heap.size [36,50,25] w7 w8:=by rw [← hw8];exact (aN.refl _ _ w7).setCell (p:=⟨w4.heap.size,0,none⟩) e7 (by decide) (by have:=ZZ.out;show _≤w4.heap.size;omega) _
  have Y8:Ty w8 w2.heap.size 25:=⟨_,_,n8⟩
  have T9':aN w.heap.size [36,50,25] w8 w9:=by
   rw [← jD]
   exact ((aN.refl _ _ w8).aC (p:=⟨w2.heap.size,0,none⟩) Y8 (by decide) (by have:=ZZ.out;show _≤w2.heap.size;omega) _).aC (p:=⟨w2.heap.size,1,none⟩) (Y8.set _ _) (by decide) (by have:=ZZ.out;show _≤w2.heap.size;omega) _
  have TT:=hid ((T7.trans T8).trans T9')
  have far:∀ k,k≠w4.heap.size→k≠w2.heap.size→w9.heap[k]?=w7.heap[k]?:=fun k h1 h2=>by
   rw [← jD,← hw8]
   exact (Below.heap_setCell _ _ _ k h2).trans ((Below.heap_setCell _ _ _ k h2).trans (Below.heap_setCell _ _ _ k h1))
  have FAR:=hid far
  have O9:Hid (w9.ownsRow w.heap.size 50 1 (.slice A8 (es.length+1) k8) (es.length+1) (es.map encZ++[.int .i64 x.1])):=hid (bP (bP hown' (show aN w.heap.size [36] w7 w8 by rw [← hw8];exact (aN.refl _ _ w7).setCell (p:=⟨w4.heap.size,0,none⟩) e7 (by decide) (by have:=ZZ.out;show _≤w4.heap.size;omega) _) (by decide)) (show aN w.heap.size [25] w8 w9 by
   rw [← jD]
   exact ((aN.refl _ _ w8).aC (p:=⟨w2.heap.size,0,none⟩) Y8 (by decide) (by have:=ZZ.out;show _≤w2.heap.size;omega) _).aC (p:=⟨w2.heap.size,1,none⟩) (Y8.set _ _) (by decide) (by have:=ZZ.out;show _≤w2.heap.size;omega) _) (by decide))
  have N9:=hid n9
  have E9:=hid e9
  have R9:=hid r9
  have G7:=hid hgrow
  have fe7:=af e7 0
  have ce7:=iC e7
  have f80:=af n8 0
  have f81:=af n8 1
  obtain⟨y80,y81⟩:=aa n8
  obtain⟨x80,x81⟩:=aa b8
  clear hown' hgrow hor e7 n7 b7 r7 e8 n8 b8 r8 n9 e9 r9 T7 T8 Y8 T9' far ne1 JE ne3 ne4
  gi_wp2
  have e10:(pre++[x]).length=pre.length+1:=by simp
  have l4:w4.heap.size<w6.heap.size:=by have:=ZZ.out;have:=Z6.out;omega
  have l2:w2.heap.size<w6.heap.size:=by have:=ZZ.out;have:=Z6.out;omega
  refine⟨⟨(FAR.out _ (by omega) (by omega)).trans (AR N2.out HZW.out HR.out G7.out),(FAR.out _ (by omega) (by omega)).trans (AR N1.out (by have:=HZW.out;omega) HR.out G7.out)⟩,⟨TT.out.more (by decide),(FAR.out _ (by omega) (by omega)).trans ?_⟩,⟨⟨x.2,N9.out,HQX.out.bH TT.out (by decide) (by decide) (by decide),?_⟩,⟨A8,k8,?_⟩,R9.out,Ju.out.low.trans TT.out.below⟩⟩
  ·refine (G7.out.block _ (by have:=LT.out;simp;omega) (fun q=>?_)).trans (Below.heap_alloc W _ _ LT.out)
   obtain⟨_,cs2,fr2,r⟩:=bM (HR.out.alloc (.cells #[.int .i64 x.1] 50)) _ q.symm
   obtain⟨cs3,fr3,y⟩:=TY.out
   rw [(Below.heap_alloc W _ _ LT.out).trans y] at r
   injection r with r
   injection r with _ r _
   exact absurd r (by decide)
  ·rw [e10];exact HSS.out
  ·rw [e10,HSE.out,List.length_append,List.length_singleton,List.map_append]
   exact⟨E9.out,O9.out⟩
 case done =>
  rintro xs' W ⟨hsp,hsl⟩ zQ hD
  obtain⟨q,hnb,hqS,mO⟩:=zQ.now
  obtain⟨A7,c7,uC,hrow⟩:=zQ.err.row
  rw [hsl,List.take_length] at mO uC hrow
  rw [T9.ja] at uC hrow
  have ce:=iC uC
  obtain⟨y0,y1⟩:=aa hnb
  have g0:=af zQ.res 0
  have g1:=af zQ.res 1
  obtain⟨m0,m1⟩:=aa zQ.res
  have hr:=zQ.res
  obtain⟨wz,hwz⟩:∃ u,(W.setCell ⟨w.heap.size+1,0,none⟩ (.slice q.A q.ls.length q.c)).setCell ⟨w.heap.size+1,1,none⟩ (.slice q.A2 q.ms.length q.c2)=u:=⟨_,rfl⟩
  have YR:Ty W (w.heap.size+1) 25:=⟨_,_,hr⟩
  have TZ:Hid (aN w.heap.size [25] W wz):=hid (by
   rw [← hwz]
   exact ((aN.refl _ _ W).aC (p:=⟨w.heap.size+1,0,none⟩) YR (by simp) (Nat.le_succ _) _).aC (p:=⟨w.heap.size+1,1,none⟩) (YR.set _ _) (by simp) (Nat.le_succ _) _)
  have RBZ:Hid (wz.heap[w.heap.size+1]?=some (.cells #[.slice q.A q.ls.length q.c,.slice q.A2 q.ms.length q.c2] 25 (0,0))):=hid (by rw [← hwz];exact ah (ah hr 0 _) 1 _)
  have ez:wz.heap[w4.heap.size]?=some (.cells #[.slice A7 (dx xs).length c7] 36 (0,0)):=by
   have:=ZZ.out
   rw [← hwz]
   exact av (av uC (by show _≠w.heap.size+1;omega) _) (by show _≠w.heap.size+1;omega) _
  have cez:=iC ez
  have DZ:Hid (wz.heap[w6.heap.size]?=some (.deferred (some []))):=hid (by
   have:=B6.out.size
   have:=ZZ.out
   have:=Z6.out
   rw [← hwz]
   exact (Below.heap_setCell _ _ _ _ (by show _≠w.heap.size+1;omega)).trans ((Below.heap_setCell _ _ _ _ (by show _≠w.heap.size+1;omega)).trans hD))
  have Ju:=hid zQ
  have QZ:=hid (hqS.bH TZ.out (by decide) (by decide) (by decide))
  have OZ:=hid (bP hrow TZ.out (by decide))
  have QQ:=hid mO
  clear ez hsp hsl hnb hqS mO uC hrow hr YR zQ hD
  go_wp2_with fail
  go_region
  go_wp2
  have TF:aN w.heap.size [] wz.drew (wz.drew.putObj w6.heap.size (.deferred none)):=uh _ (show wz.drew.heap[w6.heap.size]?=_ from DZ.out) B6.out.size
  obtain⟨y0,y1⟩:=aa (TF.blk (show wz.drew.heap[w.heap.size+1]?=_ from RBZ.out) (by simp))
  refine⟨by simp,.inl ⟨_,_,rfl,run_takeDeferred (show wz.drew.heap[w6.heap.size]?=_ from DZ.out),?_⟩⟩
  refine⟨.tuple #[.agg #[.slice q.A q.ls.length q.c,.slice q.A2 q.ms.length q.c2],.slice A7 (dx xs).length c7],by simp [results,results27,go_sem,y0,y1],?_⟩
  have TD:aN w.heap.size [] wz wz.drew:=(aN.refl _ _ wz).drew
  exact⟨q,A7,c7,rfl,(QZ.out.bH TD (by simp) (by simp) (by simp)).bH TF (by simp) (by simp) (by simp),QQ.out,bP (bP OZ.out TD (by simp)) TF (by simp),((Ju.out.low.trans TZ.out.below).trans TD.below).trans TF.below⟩
 case stop =>
  rintro pre W _ h _
  exact h.elim
end
end
end Go.Proofs.YtcedlgedmkghgaaGreat
