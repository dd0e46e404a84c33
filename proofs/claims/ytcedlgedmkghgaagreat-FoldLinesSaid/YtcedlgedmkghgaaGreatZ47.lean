import Derived.Test.YtcedlgedmkghgaaGreatZ46
import Derived.Test.YtcedlgedmkghgaaGreatZ42
namespace Go.Proofs.YtcedlgedmkghgaaGreat
set_option maxHeartbeats 16000000
open Go.Lib Go.Proofs.Tryz
set_option linter.unusedSimpArgs false
set_option maxRecDepth 100000
section
set_option linter.unusedSimpArgs false
section
open Go.RowKit Go.Lib Go.Shelf
def FewOk (n:Nat) (xs:List It) (w:World) (e:Ending) (w':World):Prop:=∃ b,e=.returned (.bool b)∧(b=true→n≤30∧∀ x∈xs,x.m.text.length≤200)∧Below w.heap.size w w'
theorem Ci {A:Option Addr} {n c:Nat} {xs:List It} {w:World} (h:IL w A xs) (hn:n=xs.length) (hs:n≤maxLen) :
  Calls prog 8 #[.slice A n c] w (FewOk n xs w):=by
 have H:=hid h
 have HN:=hid hn
 have hs:n≤9223372036854775807:=by unfold maxLen at hs;omega
 clear h hn
 go_enter func8,ntmps8
 go_wp2
 go_loopw [7] (fun s7 wr=>∃ i:Nat,s7=.int .i64 i∧i≤n∧Hid (∀ x∈xs.take i,x.m.text.length≤200)∧Hid (Below w.heap.size w wr)) (fun s7 _=>n - (intOf s7).toNat)
 case atStart=>exact⟨0,rfl,Nat.zero_le _,hid (by simp),hid (Below.refl _ _)⟩
 case round =>
  obtain⟨i,rfl,hi,HU,BR⟩:=hrel
  by_cases hlt:i<n
  ·have hltz:(i:Int)<(n:Int):=by omega
   obtain⟨ad,x,hA,hx,r0,r1,r2,r3,r4,r5,r6,r7⟩:=(H.out.stay BR.out).at_ (k:=i) (by rw [← HN.out];exact hlt)
   obtain⟨xw,xi,⟨mk,mi,ml,mt,mf,mg⟩⟩:=x
   dsimp only at r0 r1 r2 r3 r4 r5 r6 r7
   subst hA
   have X:=hid hx
   obtain⟨wa,dA⟩:∃ u,wr.alloc (.cells #[.int .u64 (xw:Int),.int .u64 (xi:Int),.int .i64 mk,.int .u64 (mi:Int),.int .u64 (ml:Int),.string (str mt),.float .f64 mf,.bool mg] 67)=u:=⟨_,rfl⟩
   obtain⟨lb,ba,_⟩:=mV dA
   have BA:Hid (Below w.heap.size w wa):=hid (BR.out.trans (ba.mono BR.out.size))
   obtain⟨l0,l1,l2,l3,l4,l5,l6,l7⟩:=kr lb
   have LI:=hid (Eg (m:=⟨mk,mi,ml,mt,mf,mg⟩) (w:=wa))
   unfold T9.Mu.val at LI
   clear hx lb ba
   by_cases hl:mt.length≤200
   ·rw [decide_eq_true hl] at LI
    have U:Hid (∀ y∈xs.take (i+1),y.m.text.length≤200):=hid fun y hy=>by
     rw [bL X.out] at hy
     rcases List.mem_append.1 hy with q | q
     ·exact HU.out y q
     ·rw [List.mem_singleton] at q
      subst q
      exact hl
    clear hl
    go_wp2_with fail
    refine LI.out.mono ?_
    rintro e wb ⟨rfl,hb⟩
    have BB:Hid (Below w.heap.size w wb):=hid (BA.out.trans (hb.mono BA.out.size))
    clear hb
    go_wp2_with fail
    go_roundw
    case rel=>exact⟨i+1,by go_num,by omega,U,BB⟩
    case measure=>simp [intOf];omega
   ·rw [decide_eq_false hl] at LI
    clear hl
    go_wp2_with fail
    refine LI.out.mono ?_
    rintro e wb ⟨rfl,hb⟩
    go_wp2_with fail
    go_ret
    exact⟨false,rfl,by simp,BA.out.trans (hb.mono BA.out.size)⟩
  ·obtain rfl:i=n:=by omega
   have hltz:¬ ((i:Int)<(i:Int)):=by omega
   by_cases h8:i≤30
   ·have hz:(i:Int)≤30:=by omega
    go_wp2
    go_ret
    exact⟨true,aP (by simp),fun _=>⟨h8,by have:=HU.out;rwa [HN.out,List.take_length] at this⟩,BR.out⟩
   ·have hz:¬ ((i:Int)≤30):=by omega
    go_wp2
    go_ret
    exact⟨false,aP (by simp),by simp,BR.out⟩
end
end
section
set_option linter.unusedSimpArgs false
section
open Go.RowKit Go.Lib Go.Shelf
def qF (s:T9.St) (w:World) (e:Ending) (w':World):Prop:=∃ q:aW,e=.returned q.val∧j_ q w'∧q.st=s∧Below w.heap.size w w'
theorem jQ (w:World):(Instr.build 25 #[]).run prog w=.ok (.agg #[.slice none 0 0,.slice none 0 0]) w:=run_build w 25 _ _ (by kernel_rfl)
theorem Dq {s:aW} {w:World} (hs:SM s w) (hl2:(T9.canon s.st).short) (n1:s.ls.length≤1000) (n2:s.ms.length≤1000) (n3:∀ t∈s.ms,t.t.tags.length≤1000) :
  Calls prog 31 #[s.val] w (qF (T9.dO s.st) w):=by
 have hbl:=jQ
 obtain⟨w0,hw0⟩:∃ u,w.alloc (.cells #[.slice s.A s.ls.length s.c,.slice s.A2 s.ms.length s.c2] 25)=u:=⟨_,rfl⟩
 obtain⟨lb,b1,z1⟩:=ak hw0
 obtain⟨w1,hw1⟩:∃ u,w0.alloc (.cells #[.slice none 0 0,.slice none 0 0] 25)=u:=⟨_,rfl⟩
 obtain⟨rb,b2,z2⟩:=ak hw1
 rw [z1] at rb
 have B1:Hid (Below w.heap.size w w1):=hid (b1.trans (b2.mono (by omega)))
 have LB:=hid (ae lb b2)
 have RB:=hid rb
 have S1:=hid (hs.stay B1.out)
 have De:=hid hl2
 have CC:=hid (p9 (c1:=s.c) (c2:=s.c2) S1.out.l S1.out.k rfl rfl n1 n2 n3)
 rw [show T9.canon ⟨s.ls,ay s.ms⟩=T9.canon s.st from rfl] at CC
 obtain⟨cs,hcs⟩:∃ r,T9.canon s.st=r:=⟨_,rfl⟩
 have BG:Hid (T9.dO s.st=if T9.aH cs=0 then cs else ⟨[],[]⟩):=hid (by unfold T9.dO;rw [hcs])
 rw [hcs] at CC De
 obtain⟨l0,l1⟩:=aa LB.out
 unfold aW.val
 clear lb b1 rb b2 z2 hs hl2 n1 n2 n3 hcs
 go_enter func31,ntmps31
 go_upto_region 2 with (go_at_call 74;refine CC.out.mono ?_;rintro e w2 ⟨q,rfl,hq,hq1,hq2,hq3,hq4,hq5,_,_,hb2⟩;have Q2:=hid (show j_ q w2 from⟨hq1,hq2,fun x hx=>hq3 x hx,hq4,hq5⟩);have QS:=hid hq;unfold aW.val;have yM:=ae LB.out hb2;have LB2:=hid yM;have Dl:=hid (ae RB.out hb2);have HB2:=hid hb2;have f0:=af yM 0;have f1:=af yM 1;obtain⟨l0,l1⟩:=aa yM;clear hb2 yM hq hq1 hq2 hq3 hq4 hq5)
 obtain⟨w3,hw3⟩:∃ u,(w2.setCell ⟨w.heap.size,0,none⟩ (.slice q.A q.ls.length q.c)).setCell ⟨w.heap.size,1,none⟩ (.slice q.A2 q.ms.length q.c2)=u:=⟨_,rfl⟩
 try rw [hw3]
 have Y2:Ty w2 w.heap.size 25:=⟨_,_,LB2.out⟩
 have T3:Hid (aN w.heap.size [25] w2 w3):=hid (by
  rw [← hw3]
  exact ((aN.refl _ _ w2).aC (p:=⟨w.heap.size,0,none⟩) Y2 (by simp) (Nat.le_refl _) _).aC (p:=⟨w.heap.size,1,none⟩) (Y2.set _ _) (by simp) (Nat.le_refl _) _)
 have LB3:Hid (w3.heap[w.heap.size]?=some (.cells #[.slice q.A q.ls.length q.c,.slice q.A2 q.ms.length q.c2] 25 (0,0))):=hid (by rw [← hw3];exact ah (ah LB2.out 0 _) 1 _)
 have uM:Hid (w3.heap[w.heap.size+1]?=some (.cells #[.slice none 0 0,.slice none 0 0] 25 (0,0))):=hid (by rw [← hw3];exact av (av Dl.out (by simp) _) (by simp) _)
 have B3:Hid (Below w.heap.size w w3):=hid ((B1.out.trans (HB2.out.mono B1.out.size)).trans T3.out.below)
 have Q3:=hid (Q2.out.bH T3.out (by decide) (by decide) (by decide))
 clear hw3 f0 f1 l0 l1 Y2
 obtain⟨l0,l1⟩:=aa LB3.out
 have CR:=hid (tL (c:=q.c) (c2:=q.c2) Q3.out.sm.l Q3.out.sm.k rfl rfl (show q.st.short by rw [QS.out];exact De.out))
 rw [show (⟨q.ls,ay q.ms⟩:T9.St)=cs from QS.out] at CR
 obtain⟨R,hR⟩:∃ r,T9.aH cs=r:=⟨_,rfl⟩
 rw [hR] at CR BG
 have CRH:=hid CR.out
 clear hR CR
 by_cases hr:R=0
 ·subst hr
  have uD:((0:Int) != 0)=false:=by decide
  rw [if_pos rfl] at BG
  go_upto_region 4 with (go_at_call 57;refine CRH.out.mono ?_;rintro e w4 ⟨rfl,hb4⟩;have Ca:=hid hb4;obtain⟨l0,l1⟩:=aa (ae LB3.out hb4);have tH:=ae uM.out hb4;have Ce:=hid tH;have f0:=af tH 0;have f1:=af tH 1;obtain⟨r0,r1⟩:=aa tH;clear hb4 tH)
  obtain⟨w5,fQ⟩:∃ u,(w4.setCell ⟨w.heap.size+1,0,none⟩ (.slice q.A q.ls.length q.c)).setCell ⟨w.heap.size+1,1,none⟩ (.slice q.A2 q.ms.length q.c2)=u:=⟨_,rfl⟩
  have Y4:Ty w4 (w.heap.size+1) 25:=⟨_,_,Ce.out⟩
  have T5:Hid (aN w.heap.size [25] w4 w5):=hid (by
   rw [← fQ]
   exact ((aN.refl _ _ w4).aC (p:=⟨w.heap.size+1,0,none⟩) Y4 (by simp) (Nat.le_succ _) _).aC (p:=⟨w.heap.size+1,1,none⟩) (Y4.set _ _) (by simp) (Nat.le_succ _) _)
  have zP:w5.heap[w.heap.size+1]?=some (.cells #[.slice q.A q.ls.length q.c,.slice q.A2 q.ms.length q.c2] 25 (0,0)):=by rw [← fQ];exact ah (ah Ce.out 0 _) 1 _
  have B5:Hid (Below w.heap.size w w5):=hid ((B3.out.trans (Ca.out.mono B3.out.size)).trans T5.out.below)
  have Q5:=hid ((Q3.out.stay Ca.out).bH T5.out (by decide) (by decide) (by decide))
  obtain⟨k0,k1⟩:=aa zP
  clear zP Y4
  go_wp2
  try rw [fQ]
  refine bodyPost_ret (v:=.agg #[.slice q.A q.ls.length q.c,.slice q.A2 q.ms.length q.c2]) (by simp [results,results31,go_sem,k0,k1]) rfl ?_
  exact⟨q,rfl,Q5.out,by rw [BG.out,QS.out],B5.out⟩
 ·have uD:(R != 0)=true:=by simp [hr]
  rw [if_neg hr] at BG
  clear hr
  go_upto_region 3 with (go_at_call 57;refine CRH.out.mono ?_;rintro e w4 ⟨rfl,hb4⟩;have Ca:=hid hb4;obtain⟨l0,l1⟩:=aa (ae LB3.out hb4);have tH:=ae uM.out hb4;have Ce:=hid tH;have f0:=af tH 0;have f1:=af tH 1;obtain⟨r0,r1⟩:=aa tH;clear hb4 tH)
  obtain⟨w5,fQ⟩:∃ u,(w4.setCell ⟨w.heap.size+1,0,none⟩ (.slice none 0 0)).setCell ⟨w.heap.size+1,1,none⟩ (.slice none 0 0)=u:=⟨_,rfl⟩
  have Y4:Ty w4 (w.heap.size+1) 25:=⟨_,_,Ce.out⟩
  have T5:Hid (aN w.heap.size [25] w4 w5):=hid (by
   rw [← fQ]
   exact ((aN.refl _ _ w4).aC (p:=⟨w.heap.size+1,0,none⟩) Y4 (by simp) (Nat.le_succ _) _).aC (p:=⟨w.heap.size+1,1,none⟩) (Y4.set _ _) (by simp) (Nat.le_succ _) _)
  have zP:w5.heap[w.heap.size+1]?=some (.cells #[.slice none 0 0,.slice none 0 0] 25 (0,0)):=by rw [← fQ];exact ah (ah Ce.out 0 _) 1 _
  have B5:Hid (Below w.heap.size w w5):=hid ((B3.out.trans (Ca.out.mono B3.out.size)).trans T5.out.below)
  obtain⟨k0,k1⟩:=aa zP
  clear zP Y4
  go_wp2
  try rw [fQ]
  refine bodyPost_ret (v:=.agg #[.slice none 0 0,.slice none 0 0]) (by simp [results,results31,go_sem,k0,k1]) rfl ?_
  exact⟨⟨[],none,0,[],none,0⟩,rfl,j_.pg,by rw [BG.out];rfl,B5.out⟩
end
end
section
set_option linter.unusedSimpArgs false
section
open Go.RowKit Go.Lib Go.Shelf
def encZ (k:Int):Value:=.int .i64 k
theorem Tryz.infoZ14:(prog.info? 3).map (fun i=>(i.zero,i.size,i.bytes))=some (some (.int .i64 0),1,8):=by kernel_rfl
theorem tC {w:World} {b b' e s n:Nat} {v:Value} {xs:List Value} (h:w.ownsRow b e s v n xs) (hb:b'≤b):w.ownsRow b' e s v n xs :=
 ⟨h.1,h.2.imp id fun ⟨g,cap,cur,h1,h2,h3⟩=>⟨g,cap,cur,h1,Nat.le_trans hb h2,h3⟩⟩
def uK (T:TypeId) (s:T9.St) (l:List T9.Mu) (w:World) (e:Ending) (w':World):Prop:=∃ (q:aW) (A:Option Addr) (c:Nat),e=.returned (.tuple #[q.val,.slice A l.length c])∧j_ q w'∧q.st=T9.cK s l∧w'.ownsRow w.heap.size T 1 (.slice A l.length c) l.length ((T9.dJ s l).map encZ)∧Below w.heap.size w w'
theorem IG {s:aW} {A:Option Addr} {n c:Nat} {xs:List It} {w:World} (hs:SM s w) (hl2:(T9.canon s.st).short) (n1:s.ls.length≤1000) (n2:s.ms.length≤1000) (n3:∀ t∈s.ms,t.t.tags.length≤1000) (ho:s.st.ok)
  (h:IL w A xs) (hn:n=xs.length) (hx:n≤1000000) (km:∀ x∈xs,x.m.ok∧x.m.text.length≤200) :
  Calls prog 10 #[s.val,.slice A n c] w (uK 3 (T9.dO s.st) (dx xs) w):=by
 obtain⟨w0,hw0⟩:∃ u,w.alloc (.cells #[.slice s.A s.ls.length s.c,.slice s.A2 s.ms.length s.c2] 25)=u:=⟨_,rfl⟩
 obtain⟨lb,b1,z1⟩:=ak hw0
 obtain⟨w1,hw1⟩:∃ u,w0.alloc (.cells #[.slice none 0 0,.slice none 0 0] 25)=u:=⟨_,rfl⟩
 obtain⟨rb,b2,z2⟩:=ak hw1
 rw [z1] at rb
 have B1:Hid (Below w.heap.size w w1):=hid (b1.trans (b2.mono (by omega)))
 have LB:=hid (ae lb b2)
 have RB:=hid rb
 have BG:=hid (Dq (hs.stay B1.out) hl2 n1 n2 n3)
 unfold qF at BG
 obtain⟨s0,hs0⟩:∃ r,T9.dO s.st=r:=⟨_,rfl⟩
 have SD:Hid (T9.fV s0):=hid (by rw [← hs0];exact T9.kH ho)
 rw [hs0] at BG ⊢
 have H:=hid h
 have HN:=hid hn
 have KM:=hid km
 have Z2:Hid (w1.heap.size=w.heap.size+2):=hid (by omega)
 obtain⟨l0,l1⟩:=aa LB.out
 unfold aW.val at BG ⊢
 clear lb b1 rb b2 z2 hs hl2 n1 n2 n3 ho h hn km hs0
 go_enter func10,ntmps10
 go_upto_region 2 with (go_at_call 31;refine BG.out.mono ?_;rintro e w2 ⟨q,rfl,hq,mO,hb2⟩;have Q2:=hid hq;have QS:=hid mO;have yM:=ae LB.out hb2;have LB2:=hid yM;have Dl:=hid (ae RB.out hb2);have HB2:=hid hb2;have f0:=af yM 0;have f1:=af yM 1;obtain⟨l0,l1⟩:=aa yM;clear hb2 yM hq mO)
 obtain⟨w3,hw3⟩:∃ u,(w2.setCell ⟨w.heap.size,0,none⟩ (.slice q.A q.ls.length q.c)).setCell ⟨w.heap.size,1,none⟩ (.slice q.A2 q.ms.length q.c2)=u:=⟨_,rfl⟩
 try rw [hw3]
 have Y2:Ty w2 w.heap.size 25:=⟨_,_,LB2.out⟩
 have T3:Hid (aN w.heap.size [25] w2 w3):=hid (by
  rw [← hw3]
  exact ((aN.refl _ _ w2).aC (p:=⟨w.heap.size,0,none⟩) Y2 (by simp) (Nat.le_refl _) _).aC (p:=⟨w.heap.size,1,none⟩) (Y2.set _ _) (by simp) (Nat.le_refl _) _)
 have LB3:Hid (w3.heap[w.heap.size]?=some (.cells #[.slice q.A q.ls.length q.c,.slice q.A2 q.ms.length q.c2] 25 (0,0))):=hid (by rw [← hw3];exact ah (ah LB2.out 0 _) 1 _)
 have uM:Hid (w3.heap[w.heap.size+1]?=some (.cells #[.slice none 0 0,.slice none 0 0] 25 (0,0))):=hid (by rw [← hw3];exact av (av Dl.out (by simp) _) (by simp) _)
 have B3:Hid (Below w.heap.size w w3):=hid ((B1.out.trans (HB2.out.mono B1.out.size)).trans T3.out.below)
 have Z3:Hid (w.heap.size+2≤w3.heap.size):=hid (by have:=Z2.out;have:=HB2.out.size;have:=T3.out.size;omega)
 have Q3:=hid (Q2.out.bH T3.out (by decide) (by decide) (by decide))
 clear hw0 hw1 hw3 f0 f1 l0 l1 Y2 BG Q2 LB2 Dl
 go_wp2_with fail
 go_loopw [6,15] (fun s6 s15 wr=>∃ (i:Nat) (A6:Option Addr) (c6:Nat) (q:aW),s6=.slice A6 i c6∧s15=.int .i64 i∧i≤n∧Hid (j_ q wr∧q.st=T9.cK s0 ((dx xs).take i))∧Hid (wr.ownsRow w3.heap.size 3 1 (.slice A6 i c6) i ((T9.dJ s0 ((dx xs).take i)).map encZ))∧Hid (wr.heap[w.heap.size]?=some (.cells #[.slice q.A q.ls.length q.c,.slice q.A2 q.ms.length q.c2] 25 (0,0)))∧Hid (wr.heap[w.heap.size+1]?=some (.cells #[.slice none 0 0,.slice none 0 0] 25 (0,0)))∧Hid (aN w.heap.size [25,3] w3 wr)) (fun _ s15 _=>n - (intOf s15).toNat)
 case atStart=>exact⟨0,none,0,q,rfl,rfl,Nat.zero_le _,hid ⟨Q3.out,QS.out⟩,hid (World.ownsRow_nil _ _ _ _),LB3,uM,hid (aN.refl _ _ _)⟩
 case round =>
  obtain⟨i,A6,c6,p,rfl,rfl,hi,HP,OW,LP,RBR,TC⟩:=hrel
  have BR:Hid (Below w.heap.size w wr):=hid (B3.out.trans TC.out.below)
  by_cases hlt:i<n
  ·have hltz:(i:Int)<(n:Int):=by omega
   obtain⟨ad,x,hA,hx1,r0,r1,r2,r3,r4,r5,r6,r7⟩:=(H.out.stay BR.out).at_ (k:=i) (by rw [← HN.out];exact hlt)
   have hm:=KM.out x (List.mem_of_getElem? hx1)
   obtain⟨xw,xi,⟨mk,mi,ml,mt,mf,mg⟩⟩:=x
   dsimp only at r0 r1 r2 r3 r4 r5 r6 r7 hm
   subst hA
   have FN:=hid (T9.sH (s:=s0) (rF hx1))
   have EN:=hid (T9.kX (s:=s0) (rF hx1))
   obtain⟨wa,dA⟩:∃ u,wr.alloc (.cells #[.int .u64 (xw:Int),.int .u64 (xi:Int),.int .i64 mk,.int .u64 (mi:Int),.int .u64 (ml:Int),.string (str mt),.float .f64 mf,.bool mg] 67)=u:=⟨_,rfl⟩
   obtain⟨lb,ba,_⟩:=mV dA
   obtain⟨l0,l1,l2,l3,l4,l5,l6,l7⟩:=kr lb
   obtain⟨k0,k1⟩:=aa (ae LP.out ba)
   have LPa:=hid (ae LP.out ba)
   have BA:=hid ba
   have PS:Hid (T9.fV p.st):=hid (by rw [HP.out.2];exact T9.iP SD.out (fun m hm=>by obtain⟨x,hx,rfl⟩:=List.mem_map.1 (List.mem_of_mem_take hm);exact (KM.out x hx).1))
   have AC:=hid (ze (m:=⟨mk,mi,ml,mt,mf,mg⟩) (HP.out.1.stay ba).sm PS.out.short PS.out.2 hm.2)
   unfold vW T9.Mu.val aW.val at AC
   rw [HP.out.2] at AC
   dsimp only at FN EN
   obtain⟨ap,hap⟩:∃ r,T9.bA (T9.cK s0 ((dx xs).take i)) ⟨mk,mi,ml,mt,mf,mg⟩=r:=⟨_,rfl⟩
   obtain⟨aS,aE⟩:=ap
   rw [hap] at AC EN
   unfold T9.ou at FN
   rw [hap] at FN
   dsimp only at AC EN FN
   clear hx1 hm lb ba hap
   go_wp2_with fail
   refine AC.out.mono ?_
   rintro e wb ⟨q2,er,rfl,hq2,hb,yw,her⟩
   subst er
   obtain⟨wc,hwc⟩:∃ u,wb.alloc (.cells #[.slice q2.A q2.ls.length q2.c,.slice q2.A2 q2.ms.length q2.c2] 25)=u:=⟨_,rfl⟩
   obtain⟨nb,bc,zc⟩:=ak hwc
   have BC:Hid (Below wr.heap.size wr wc):=hid (BA.out.trans ((hb.trans (bc.mono hb.size)).mono BA.out.size))
   have NB:=hid nb
   have QC:=hid (hq2.stay bc)
   have QS2:=hid yw
   have LPc:=hid (ae LP.out BC.out)
   have PC:=hid (HP.out.1.stay BC.out)
   have RBc:=hid (ae RBR.out BC.out)
   have OWc:=hid (own_below OW.out BC.out)
   have TCc:=hid (TC.out.trans (aN.of_below (B:=w.heap.size) BC.out BR.out.size _))
   obtain⟨er0,her0⟩:∃ f,(T9.dJ s0 ((dx xs).take i)).map encZ=f:=⟨_,rfl⟩
   rw [her0] at OWc
   have HE:=hid her0
   clear nb bc zc hb hq2 yw l0 l1 l2 l3 l4 l5 l6 l7 k0 k1 her0
   have g0:=af LPc.out 0
   have g1:=af LPc.out 1
   obtain⟨k0,k1⟩:=aa LPc.out
   obtain⟨n0,n1⟩:=aa NB.out
   obtain⟨vN,vM,vQ,vR,vS⟩:=info_parts Tryz.infoZ14
   by_cases he:aE=0
   ·subst he
    have uD:((0:Int)==0)=true:=by decide
    rw [if_pos rfl] at FN
    go_upto_region 9 with fail
    obtain⟨wd,hwd⟩:∃ u,(wc.setCell ⟨w.heap.size,0,none⟩ (.slice q2.A q2.ls.length q2.c)).setCell ⟨w.heap.size,1,none⟩ (.slice q2.A2 q2.ms.length q2.c2)=u:=⟨_,rfl⟩
    try rw [hwd]
    have YC:Ty wc w.heap.size 25:=⟨_,_,LPc.out⟩
    have TD:Hid (aN w.heap.size [25] wc wd):=hid (by
     rw [← hwd]
     exact ((aN.refl _ _ wc).aC (p:=⟨w.heap.size,0,none⟩) YC (by simp) (Nat.le_refl _) _).aC (p:=⟨w.heap.size,1,none⟩) (YC.set _ _) (by simp) (Nat.le_refl _) _)
    have LPv:Hid (wd.heap[w.heap.size]?=some (.cells #[.slice q2.A q2.ls.length q2.c,.slice q2.A2 q2.ms.length q2.c2] 25 (0,0))):=hid (by rw [← hwd];exact ah (ah LPc.out 0 _) 1 _)
    have RBv:Hid (wd.heap[w.heap.size+1]?=some (.cells #[.slice none 0 0,.slice none 0 0] 25 (0,0))):=hid (by rw [← hwd];exact av (av RBc.out (by simp) _) (by simp) _)
    have OWv:=hid (bP OWc.out TD.out (by decide))
    have TCv:=hid (TCc.out.trans (TD.out.more (by simp)))
    have QV:=hid (QC.out.bH TD.out (by decide) (by decide) (by decide))
    clear hwd YC g0 g1 k0 k1 n0 n1
    have lI:=hid (OWv.out.alloc (.cells #[.int .i64 0] 3))
    have LE:Hid (au (wd.alloc (.cells #[.int .i64 0] 3)) 0 3 (some ⟨wd.heap.size,0,none⟩) [encZ 0]):=hid (au.gY (heap_alloc_new wd _))
    have zz:w3.heap.size≤wd.heap.size:=TCv.out.size
    have ZZ:=hid zz
    have RBE:=hid (aY RBv.out (.cells #[.int .i64 0] 3))
    have LPE:=hid (aY LPv.out (.cells #[.int .i64 0] 3))
    go_wp2_with (at_builtin;refine bE _ rfl _ _ 27 rfl w3.heap.size 3 vN _ 1 8 underlying27 vM vQ vR vS rfl (by decide) (.slice A6 i c6) i er0 rfl lI.out 0 _ 1 1 [encZ 0] 3 rfl rfl LE.out (by intro u hu;rw [List.mem_singleton] at hu;subst hu;rfl) (by unfold maxLen;omega) (by omega) (by simp;omega) ?_)
    intro v6 w6 hown6 aM ed
    obtain⟨A7,k7,rfl⟩:=aA hown6
    have LP6:Hid (w6.heap[w.heap.size]?=some (.cells #[.slice q2.A q2.ls.length q2.c,.slice q2.A2 q2.ms.length q2.c2] 25 (0,0))):=hid ((aM.block w.heap.size (lt_of_block LPE.out) (fun q=>by
     obtain⟨_,cs2,fr2,r⟩:=bM lI.out _ q.symm
     rw [LPE.out] at r
     injection r with r
     injection r with _ r _
     exact absurd r (by decide))).trans LPE.out)
    have RB6:Hid (w6.heap[w.heap.size+1]?=some (.cells #[.slice none 0 0,.slice none 0 0] 25 (0,0))):=hid ((aM.block (w.heap.size+1) (lt_of_block RBE.out) (fun q=>by
     obtain⟨_,cs2,fr2,r⟩:=bM lI.out _ q.symm
     rw [RBE.out] at r
     injection r with r
     injection r with _ r _
     exact absurd r (by decide))).trans RBE.out)
    have T6:Hid (aN w.heap.size [25,3] wd w6):=hid (((aN.refl w.heap.size [25,3] wd).alloc (by have:=ZZ.out;have:=Z3.out;omega) (.cells #[.int .i64 0] 3)).trans (dP (B:=w.heap.size) (ts:=[25,3]) lI.out aM (by have:=Z3.out;omega) (by have:=ZZ.out;have:=Z3.out;simp;omega) (by simp)))
    have Q6:=hid (QV.out.bH T6.out (by decide) (by decide) (by decide))
    have Df:=hid hown6
    clear hown6 aM ed zz
    go_wp2
    go_roundw
    case rel =>
     refine⟨i+1,A7,k7,q2,rfl,by go_num,by omega,hid ⟨Q6.out,?_⟩,hid ?_,LP6,RB6,hid (TCv.out.trans T6.out)⟩
     ·rw [FN.out]
      exact QS2.out
     ·rw [EN.out,List.map_append,HE.out]
      exact Df.out
    case measure=>simp [intOf];omega
   ·have uD:(aE==0)=false:=by simp [he]
    rw [if_neg he] at FN
    clear he
    go_upto_region 9 with fail
    have LPv:=LPc
    have RBv:=RBc
    have OWv:=OWc
    have TCv:=TCc
    have QV:=PC
    clear hwc
    clear g0 g1 k0 k1 n0 n1
    have lI:=hid (OWv.out.alloc (.cells #[.int .i64 aE] 3))
    have LE:Hid (au (wc.alloc (.cells #[.int .i64 aE] 3)) 0 3 (some ⟨wc.heap.size,0,none⟩) [encZ aE]):=hid (au.gY (heap_alloc_new wc _))
    have zz:w3.heap.size≤wc.heap.size:=TCv.out.size
    have ZZ:=hid zz
    have RBE:=hid (aY RBv.out (.cells #[.int .i64 aE] 3))
    have LPE:=hid (aY LPv.out (.cells #[.int .i64 aE] 3))
    go_wp2_with (at_builtin;refine bE _ rfl _ _ 27 rfl w3.heap.size 3 vN _ 1 8 underlying27 vM vQ vR vS rfl (by decide) (.slice A6 i c6) i er0 rfl lI.out 0 _ 1 1 [encZ aE] 3 rfl rfl LE.out (by intro u hu;rw [List.mem_singleton] at hu;subst hu;rfl) (by unfold maxLen;omega) (by omega) (by simp;omega) ?_)
    intro v6 w6 hown6 aM ed
    obtain⟨A7,k7,rfl⟩:=aA hown6
    have LP6:Hid (w6.heap[w.heap.size]?=some (.cells #[.slice p.A p.ls.length p.c,.slice p.A2 p.ms.length p.c2] 25 (0,0))):=hid ((aM.block w.heap.size (lt_of_block LPE.out) (fun q=>by
     obtain⟨_,cs2,fr2,r⟩:=bM lI.out _ q.symm
     rw [LPE.out] at r
     injection r with r
     injection r with _ r _
     exact absurd r (by decide))).trans LPE.out)
    have RB6:Hid (w6.heap[w.heap.size+1]?=some (.cells #[.slice none 0 0,.slice none 0 0] 25 (0,0))):=hid ((aM.block (w.heap.size+1) (lt_of_block RBE.out) (fun q=>by
     obtain⟨_,cs2,fr2,r⟩:=bM lI.out _ q.symm
     rw [RBE.out] at r
     injection r with r
     injection r with _ r _
     exact absurd r (by decide))).trans RBE.out)
    have T6:Hid (aN w.heap.size [25,3] wc w6):=hid (((aN.refl w.heap.size [25,3] wc).alloc (by have:=ZZ.out;have:=Z3.out;omega) (.cells #[.int .i64 aE] 3)).trans (dP (B:=w.heap.size) (ts:=[25,3]) lI.out aM (by have:=Z3.out;omega) (by have:=ZZ.out;have:=Z3.out;simp;omega) (by simp)))
    have Q6:=hid (QV.out.bH T6.out (by decide) (by decide) (by decide))
    have Df:=hid hown6
    clear hown6 aM ed zz
    go_wp2
    go_roundw
    case rel =>
     refine⟨i+1,A7,k7,p,rfl,by go_num,by omega,hid ⟨Q6.out,?_⟩,hid ?_,LP6,RB6,hid (TCv.out.trans T6.out)⟩
     ·rw [FN.out]
      exact HP.out.2
     ·rw [EN.out,List.map_append,HE.out]
      exact Df.out
    case measure=>simp [intOf];omega
  ·obtain rfl:i=n:=by omega
   have hltz:¬ ((i:Int)<(i:Int)):=by omega
   have g0:=af RBR.out 0
   have g1:=af RBR.out 1
   obtain⟨k0,k1⟩:=aa LP.out
   obtain⟨m0,m1⟩:=aa RBR.out
   obtain⟨wz,hwz⟩:∃ u,(wr.setCell ⟨w.heap.size+1,0,none⟩ (.slice p.A p.ls.length p.c)).setCell ⟨w.heap.size+1,1,none⟩ (.slice p.A2 p.ms.length p.c2)=u:=⟨_,rfl⟩
   have YR:Ty wr (w.heap.size+1) 25:=⟨_,_,RBR.out⟩
   have TZ:Hid (aN w.heap.size [25] wr wz):=hid (by
    rw [← hwz]
    exact ((aN.refl _ _ wr).aC (p:=⟨w.heap.size+1,0,none⟩) YR (by simp) (Nat.le_succ _) _).aC (p:=⟨w.heap.size+1,1,none⟩) (YR.set _ _) (by simp) (Nat.le_succ _) _)
   have RBZ:Hid (wz.heap[w.heap.size+1]?=some (.cells #[.slice p.A p.ls.length p.c,.slice p.A2 p.ms.length p.c2] 25 (0,0))):=hid (by rw [← hwz];exact ah (ah RBR.out 0 _) 1 _)
   obtain⟨y0,y1⟩:=aa RBZ.out
   have TK:(dx xs).take i=dx xs:=by rw [show i=(dx xs).length by rw [ic];exact HN.out];exact List.take_length
   rw [TK] at HP OW
   have ML:(dx xs).length=i:=by rw [ic];exact HN.out.symm
   have HPz:=hid HP.out
   have OWz:=hid (bP OW.out TZ.out (by decide))
   have MLz:=hid ML
   clear TK ML YR HP OW
   go_wp2
   try rw [hwz]
   refine bodyPost_ret (v:=.tuple #[.agg #[.slice p.A p.ls.length p.c,.slice p.A2 p.ms.length p.c2],.slice A6 i c6]) (by simp [results,results10,go_sem,y0,y1]) rfl ?_
   refine⟨p,A6,c6,by rw [MLz.out];rfl,HPz.out.1.bH TZ.out (by decide) (by decide) (by decide),HPz.out.2,?_,BR.out.trans TZ.out.below⟩
   rw [MLz.out]
   exact tC OWz.out B3.out.size
end
end
end Go.Proofs.YtcedlgedmkghgaaGreat
