import Derived.Test.YtcedlgedmkghgaaGreatZ48
namespace Go.Proofs.YtcedlgedmkghgaaGreat
set_option maxHeartbeats 16000000
open Go.Lib Go.Proofs.Tryz
set_option linter.unusedSimpArgs false
set_option maxRecDepth 100000
section
set_option linter.unusedSimpArgs false
section
open Go.RowKit Go.Lib Go.Shelf
theorem rV {s:aW} {w:World} (hs:SM s w) (n1:s.ls.length≤1000) (n2:s.ms.length≤1000) (n3:∀ t∈s.ms,t.t.tags.length<20):Calls prog 73 #[s.val] w (qF (T9.canon s.st) w):=by
 refine (rU (c:=s.c) (c2:=s.c2) hs.l hs.k rfl rfl (by omega) (by omega) n3).mono ?_
 rintro e w' ⟨m,rfl,hm,hst,hb,⟨hl0,ht0,hk0⟩,_⟩
 refine⟨m,rfl,⟨hl0,?_,fun q hq=>⟨ht0 q hq,(hm.k.2 q hq).2⟩,hm.lc,hm.kc⟩,hst,hb⟩
 rcases hk0 with e0 | ⟨g,e1,e2⟩
 ·rw [e0];exact au.nil
 ·rw [e1];exact au.Ig e2
theorem vG {s:aW} {w:World} (hs:SM s w) (hl2:(T9.canon s.st).short) (n1:s.ls.length≤1000) (n2:s.ms.length≤1000) (n3:∀ t∈s.ms,t.t.tags.length<20) :
  Calls prog 30 #[s.val] w (qF (T9.dO s.st) w):=by
 have hbl:=jQ
 obtain⟨w0,hw0⟩:∃ u,w.alloc (.cells #[.slice s.A s.ls.length s.c,.slice s.A2 s.ms.length s.c2] 25)=u:=⟨_,rfl⟩
 obtain⟨lb,b1,z1⟩:=ak hw0
 obtain⟨w1,hw1⟩:∃ u,w0.alloc (.cells #[.slice none 0 0,.slice none 0 0] 25)=u:=⟨_,rfl⟩
 obtain⟨rb,b2,z2⟩:=ak hw1
 rw [z1] at rb
 have B1:Hid (Below w.heap.size w w1):=hid (b1.trans (b2.mono (by omega)))
 have LB:=hid (ae lb b2)
 have RB:=hid rb
 have S1:=hid (hs.stay B1.out)
 have De:=hid hl2
 have CC:=hid (rV S1.out n1 n2 n3)
 unfold aW.val at CC
 obtain⟨cs,hcs⟩:∃ r,T9.canon s.st=r:=⟨_,rfl⟩
 have BG:Hid (T9.dO s.st=if T9.aH cs=0 then cs else ⟨[],[]⟩):=hid (by unfold T9.dO;rw [hcs])
 rw [hcs] at CC De
 obtain⟨l0,l1⟩:=aa LB.out
 unfold aW.val
 clear lb b1 rb b2 z2 hs hl2 n1 n2 n3 hcs
 go_enter func30,ntmps30
 go_upto_region 2 with (go_at_call 73;refine CC.out.mono ?_;rintro e w2 ⟨q,rfl,hq1,hq,hb2⟩;have Q2:=hid hq1;have QS:=hid hq;unfold aW.val;have yM:=ae LB.out hb2;have LB2:=hid yM;have Dl:=hid (ae RB.out hb2);have HB2:=hid hb2;have f0:=af yM 0;have f1:=af yM 1;obtain⟨l0,l1⟩:=aa yM;clear hb2 yM hq hq1)
 obtain⟨w3,hw3⟩:∃ u,(w2.setCell ⟨w.heap.size,0,none⟩ (.slice q.A q.ls.length q.c)).setCell ⟨w.heap.size,1,none⟩ (.slice q.A2 q.ms.length q.c2)=u:=⟨_,rfl⟩
 try rw [hw3]
 have Y2:Ty w2 w.heap.size 25:=⟨_,_,LB2.out⟩
 have T3:Hid (aN w.heap.size [25] w2 w3):=hid (by
  rw [← hw3]
  exact ((aN.refl _ _ w2).aC (p:=⟨w.heap.size,0,none⟩) Y2 (by simp) (Nat.le_refl _) _).aC (p:=⟨w.heap.size,1,none⟩) (Y2.set _ _) (by simp) (Nat.le_refl _) _)
 have LB3:Hid (w3.heap[w.heap.size]?=some (.cells #[.slice q.A q.ls.length q.c,.slice q.A2 q.ms.length q.c2] 25 (0,0))):=hid (by rw [← hw3];exact ah (ah LB2.out 0 _) 1 _)
 have uM:Hid (w3.heap[w.heap.size+1]?=some (.cells #[.slice none 0 0,.slice none 0 0] 25 (0,0))):=hid (by rw [← hw3];exact av (av Dl.out (by simp) _) (by simp) _)
 have B3:Hid (Below w.heap.size w w3):=hid ((B1.out.trans (HB2.out.mono B1.out.size)).trans T3.out.below)
 have Q3:=hid (Q2.out.bH T3.out (by decide) (by decide) (by decide))
 clear hw3 f0 f1 l0 l1 Y2
 obtain⟨l0,l1⟩:=aa LB3.out
 have CR:=hid (CO (c:=q.c) (c2:=q.c2) Q3.out.sm.l Q3.out.sm.k rfl rfl (show q.st.short by rw [QS.out];exact De.out) ⟨Q3.out.lc,Q3.out.kc⟩)
 rw [show (⟨q.ls,ay q.ms⟩:T9.St)=cs from QS.out] at CR
 obtain⟨R,hR⟩:∃ r,T9.aH cs=r:=⟨_,rfl⟩
 rw [hR] at CR BG
 have CRH:=hid CR.out
 clear hR CR
 by_cases hr:R=0
 ·subst hr
  have uD:((0:Int) != 0)=false:=by decide
  rw [if_pos rfl] at BG
  go_upto_region 4 with (go_at_call 55;refine CRH.out.mono ?_;rintro e w4 ⟨rfl,hb4⟩;have Ca:=hid hb4;obtain⟨l0,l1⟩:=aa (ae LB3.out hb4);have tH:=ae uM.out hb4;have Ce:=hid tH;have f0:=af tH 0;have f1:=af tH 1;obtain⟨r0,r1⟩:=aa tH;clear hb4 tH)
  obtain⟨w5,fQ⟩:∃ u,(w4.setCell ⟨w.heap.size+1,0,none⟩ (.slice q.A q.ls.length q.c)).setCell ⟨w.heap.size+1,1,none⟩ (.slice q.A2 q.ms.length q.c2)=u:=⟨_,rfl⟩
  have Y4:Ty w4 (w.heap.size+1) 25:=⟨_,_,Ce.out⟩
  have T5:Hid (aN w.heap.size [25] w4 w5):=hid (by
   rw [← fQ]
   exact ((aN.refl _ _ w4).aC (p:=⟨w.heap.size+1,0,none⟩) Y4 (by simp) (Nat.le_succ _) _).aC (p:=⟨w.heap.size+1,1,none⟩) (Y4.set _ _) (by simp) (Nat.le_succ _) _)
  have zP:w5.heap[w.heap.size+1]?=some (.cells #[.slice q.A q.ls.length q.c,.slice q.A2 q.ms.length q.c2] 25 (0,0)):=by rw [← fQ];exact ah (ah Ce.out 0 _) 1 _
  have B5:Hid (Below w.heap.size w w5):=hid ((B3.out.trans (Ca.out.mono B3.out.size)).trans T5.out.below)
  have Q5:=hid ((Q3.out.stay Ca.out).bH T5.out (by decide) (by decide) (by decide))
  obtain⟨k0,k1⟩:=aa zP
  clear zP Y4
  go_wp2
  try rw [fQ]
  refine bodyPost_ret (v:=.agg #[.slice q.A q.ls.length q.c,.slice q.A2 q.ms.length q.c2]) (by simp [results,results30,go_sem,k0,k1]) rfl ?_
  exact⟨q,rfl,Q5.out,by rw [BG.out,QS.out],B5.out⟩
 ·have uD:(R != 0)=true:=by simp [hr]
  rw [if_neg hr] at BG
  clear hr
  go_upto_region 3 with (go_at_call 55;refine CRH.out.mono ?_;rintro e w4 ⟨rfl,hb4⟩;have Ca:=hid hb4;obtain⟨l0,l1⟩:=aa (ae LB3.out hb4);have tH:=ae uM.out hb4;have Ce:=hid tH;have f0:=af tH 0;have f1:=af tH 1;obtain⟨r0,r1⟩:=aa tH;clear hb4 tH)
  obtain⟨w5,fQ⟩:∃ u,(w4.setCell ⟨w.heap.size+1,0,none⟩ (.slice none 0 0)).setCell ⟨w.heap.size+1,1,none⟩ (.slice none 0 0)=u:=⟨_,rfl⟩
  have Y4:Ty w4 (w.heap.size+1) 25:=⟨_,_,Ce.out⟩
  have T5:Hid (aN w.heap.size [25] w4 w5):=hid (by
   rw [← fQ]
   exact ((aN.refl _ _ w4).aC (p:=⟨w.heap.size+1,0,none⟩) Y4 (by simp) (Nat.le_succ _) _).aC (p:=⟨w.heap.size+1,1,none⟩) (Y4.set _ _) (by simp) (Nat.le_succ _) _)
  have zP:w5.heap[w.heap.size+1]?=some (.cells #[.slice none 0 0,.slice none 0 0] 25 (0,0)):=by rw [← fQ];exact ah (ah Ce.out 0 _) 1 _
  have B5:Hid (Below w.heap.size w w5):=hid ((B3.out.trans (Ca.out.mono B3.out.size)).trans T5.out.below)
  obtain⟨k0,k1⟩:=aa zP
  clear zP Y4
  go_wp2
  try rw [fQ]
  refine bodyPost_ret (v:=.agg #[.slice none 0 0,.slice none 0 0]) (by simp [results,results30,go_sem,k0,k1]) rfl ?_
  exact⟨⟨[],none,0,[],none,0⟩,rfl,j_.pg,by rw [BG.out];rfl,B5.out⟩
theorem Az {s:aW} {w:World} (hs:SM s w) (hd:T9.fV s.st):Calls prog 37 #[s.val] w (qF s.st w):=by
 obtain⟨w0,hw0⟩:∃ u,w.alloc (.cells #[.slice s.A s.ls.length s.c,.slice s.A2 s.ms.length s.c2] 25)=u:=⟨_,rfl⟩
 obtain⟨lb,b1,z1⟩:=ak hw0
 obtain⟨w1,hw1⟩:∃ u,w0.alloc (.cells #[.slice none 0 0,.slice none 0 0] 25)=u:=⟨_,rfl⟩
 obtain⟨rb,b2,z2⟩:=ak hw1
 rw [z1] at rb
 have B1:Hid (Below w.heap.size w w1):=hid (b1.trans (b2.mono (by omega)))
 have LB:=hid (ae lb b2)
 have RB:=hid rb
 have d:=lJ.sound hd
 have CC:=hid (rV (hs.stay B1.out) d.n1 d.n2 d.n3)
 rw [hd.canon] at CC
 unfold aW.val at CC ⊢
 obtain⟨l0,l1⟩:=aa LB.out
 clear lb b1 rb b2 z2 hs hd d
 go_enter func37,ntmps37
 go_upto_region 2 with (go_at_call 73;refine CC.out.mono ?_;rintro e w2 ⟨q,rfl,hq1,hq,hb2⟩;have Q2:=hid hq1;have QS:=hid hq;unfold aW.val;have uy:=ae RB.out hb2;have Dl:=hid uy;have HB2:=hid hb2;have f0:=af uy 0;have f1:=af uy 1;obtain⟨r0,r1⟩:=aa uy;clear hb2 uy hq hq1)
 obtain⟨w3,hw3⟩:∃ u,(w2.setCell ⟨w.heap.size+1,0,none⟩ (.slice q.A q.ls.length q.c)).setCell ⟨w.heap.size+1,1,none⟩ (.slice q.A2 q.ms.length q.c2)=u:=⟨_,rfl⟩
 have Y2:Ty w2 (w.heap.size+1) 25:=⟨_,_,Dl.out⟩
 have T3:Hid (aN w.heap.size [25] w2 w3):=hid (by
  rw [← hw3]
  exact ((aN.refl _ _ w2).aC (p:=⟨w.heap.size+1,0,none⟩) Y2 (by simp) (Nat.le_succ _) _).aC (p:=⟨w.heap.size+1,1,none⟩) (Y2.set _ _) (by simp) (Nat.le_succ _) _)
 have uM:w3.heap[w.heap.size+1]?=some (.cells #[.slice q.A q.ls.length q.c,.slice q.A2 q.ms.length q.c2] 25 (0,0)):=by rw [← hw3];exact ah (ah Dl.out 0 _) 1 _
 have B3:Hid (Below w.heap.size w w3):=hid ((B1.out.trans (HB2.out.mono B1.out.size)).trans T3.out.below)
 have Q3:=hid (Q2.out.bH T3.out (by decide) (by decide) (by decide))
 obtain⟨k0,k1⟩:=aa uM
 clear uM Y2
 try go_wp2
 try rw [hw3]
 refine bodyPost_ret (v:=.agg #[.slice q.A q.ls.length q.c,.slice q.A2 q.ms.length q.c2]) (by simp [results,results37,go_sem,k0,k1]) rfl ?_
 exact⟨q,rfl,Q3.out,QS.out,B3.out⟩
def Fq (s:aW) (A:Option Addr) (n c:Nat) (w:World) (e:Ending) (w':World):Prop:=e=.returned (.func (.func 76) #[] #[.pointer (some ⟨w.heap.size,0,none⟩),.pointer (some ⟨w.heap.size+1,0,none⟩)])∧w'.heap[w.heap.size]?=some (.cells #[.slice s.A s.ls.length s.c,.slice s.A2 s.ms.length s.c2] 25 (0,0))∧w'.heap[w.heap.size+1]?=some (.cells #[.slice A n c] 26 (0,0))∧Below w.heap.size w w'∧w'.heap.size=w.heap.size+2
theorem vH {s:aW} {A:Option Addr} {n c:Nat} {w:World}:Calls prog 34 #[s.val,.slice A n c] w (Fq s A n c w):=by
 obtain⟨w0,hw0⟩:∃ u,w.alloc (.cells #[.slice s.A s.ls.length s.c,.slice s.A2 s.ms.length s.c2] 25)=u:=⟨_,rfl⟩
 obtain⟨lb,b1,z1⟩:=ak hw0
 have hmf:∀ (fn:Fn) (first cap:Array Value) (w:World),(Instr.makeFunc fn first cap).run prog w=.ok (.func fn first cap) w:=fun _ _ _ _=>rfl
 unfold aW.val
 go_enter func34,ntmps34
 go_wp2
 go_ret
 refine⟨rfl,?_,?_,?_,?_⟩
 ·exact aY lb _
 ·rw [← z1]
  exact heap_alloc_new w0 _
 ·exact b1.trans ((Below.refl _ w0).alloc b1.size _)
 ·rw [World.size_alloc,z1]
end
end
section
set_option linter.unusedSimpArgs false
section
open Go.RowKit Go.Lib Go.Shelf
attribute [local go_sem] Oper.semAt_some
def nZ (x:Int × aW):Array Value:=#[.int .i64 x.1,x.2.val]
structure Fj (B:Nat) (A A':World):Prop where
 t:aN B [25] A A'
 o:∀ k,k<A.heap.size→k≠B→A'.heap[k]?=A.heap[k]?
def xO (n0:Nat) (ts:List TypeId) (B:Nat) (A A':World):Prop:=aN n0 ts A A'∧A'.heap[B]?=A.heap[B]?
def Af (s:T9.St) (ms:List T9.Mu) (pre:List (Int × aW)):Prop:=pre.length≤ms.length∧pre.map (·.1)=T9.dJ s (ms.take pre.length)∧∀ i x,pre[i]?=some x→x.2.st=T9.cK s (ms.take (i+1))
def SE14 (s:T9.St) (ms:List T9.Mu) (pre:List (Int × aW)):Prop:=Af s ms pre∧pre.length=ms.length
theorem Af.nil {s:T9.St} {ms:List T9.Mu}:Af s ms []:=⟨Nat.zero_le _,rfl,by simp⟩
theorem Af.nxt {s:T9.St} {ms:List T9.Mu} {pre:List (Int × aW)} {x:Int × aW} (h:Af s ms pre) (hl:pre.length<ms.length) (h1:T9.dJ s (ms.take (pre.length+1))=T9.dJ s (ms.take pre.length)++[x.1]) (h2:x.2.st=T9.cK s (ms.take (pre.length+1))):Af s ms (pre++[x]):=by
 refine⟨by rw [List.length_append];exact hl,?_,fun i y hy=>?_⟩
 ·rw [List.map_append,List.length_append,List.length_singleton,h1,h.2.1]
  rfl
 ·rcases Nat.lt_trichotomy i pre.length with q | q | q
  ·rw [List.getElem?_append_left q] at hy
   exact h.2.2 i y hy
  ·subst q
   rw [List.getElem?_append_right (Nat.le_refl _),Nat.sub_self] at hy
   injection hy with hy
   subst hy
   exact h2
  ·rw [List.getElem?_eq_none (by rw [List.length_append,List.length_singleton];omega)] at hy
   cases hy
theorem Af.last {s:T9.St} {ms:List T9.Mu} {pre:List (Int × aW)} {x:Int × aW} (h:Af s ms (pre++[x])):T9.dJ s (ms.take (pre.length+1))=T9.dJ s (ms.take pre.length)++[x.1]∧x.2.st=T9.cK s (ms.take (pre.length+1)):=by
 refine⟨?_,h.2.2 pre.length x (by rw [List.getElem?_append_right (Nat.le_refl _),Nat.sub_self];rfl)⟩
 have q:=h.2.1
 have hl:=h.1
 rw [List.length_append,List.length_singleton] at q hl
 obtain⟨m,hm⟩:∃ m,ms[pre.length]?=some m:=⟨_,List.getElem?_eq_getElem hl⟩
 rw [List.map_append,T9.kX hm] at q
 have:=List.append_inj_right' q rfl
 rw [T9.kX hm,← this]
 rfl
theorem vI {m Bs Bl n0:Nat} {ts:List TypeId} {tI:TypeId} {s:aW} {A:Option Addr} {n c:Nat} {xs:List It} {w:World} {f1 f2:Nat × Nat}
  (hs:w.heap[Bs]?=some (.cells #[.slice s.A s.ls.length s.c,.slice s.A2 s.ms.length s.c2] 25 f1)) (hl:w.heap[Bl]?=some (.cells #[.slice A n c] 26 f2))
  (hS:j_ s w) (hd:T9.fV s.st) (hI:au w n0 tI A (eH xs)) (hn:n=xs.length) (hx:n≤1000000) (km:∀ x∈xs,x.m.ok∧x.m.text.length≤200) (h0B:n0≤w.heap.size)
  (t1:71 ∉ ts) (t2:74 ∉ ts) (t3:9 ∉ ts) (t4:tI ∉ ts) (t5:tI ∉ [25]) :
  xQ m prog 76 #[.pointer (some ⟨Bs,0,none⟩),.pointer (some ⟨Bl,0,none⟩)] nZ Fj (xO n0 ts) (fun _ _ _=>True) (fun B x W=>j_ x.2 W∧Ty W B 25) (SE14 s.st (dx xs)) (Af s.st (dx xs)) n w:=by
 intro l J Jx hJ hJx hY h0
 obtain⟨s0,s1⟩:=aa hs
 have i0:=iC hl
 obtain⟨w1,hw1⟩:∃ u,w.alloc (.cells #[.slice s.A s.ls.length s.c,.slice s.A2 s.ms.length s.c2] 25)=u:=⟨_,rfl⟩
 obtain⟨nb1,b1,z1⟩:=ak hw1
 have i1:=iC (ae hl b1)
 have HJ:=hid hJ
 have HY:=hid hY
 have D:=hid hd
 have HN:=hid hn
 have KM:=hid km
 have H0B:=hid h0B
 have J1:=hid (hJ [] w w1 h0 ⟨aN.of_below b1 (Nat.le_refl _) _,fun k hk _=>b1.block k hk⟩)
 have S1:=hid (hS.stay b1)
 have NB1:=hid nb1
 have I1:=hid (hI.below h0B b1)
 have HX:=hid hx
 have T:=hid (And.intro t1 (And.intro t2 (And.intro t3 t4)))
 have T5:=hid t5
 clear hs hl hS hd hI hn km h0B t1 t2 t3 t4 t5 hJ hJx hY h0 nb1 b1
 refine callsIn_of_wp func76 rfl trivial ?_ rfl
 simp only [ntmps76,List.size_toArray,List.length_cons,List.length_nil,Nat.reduceAdd,Nat.reduceSub,Array.replicate_succ,Array.replicate_zero,List.push_toArray,List.append_toArray,List.nil_append,List.cons_append]
 gi_wp2
 gi_loopw [12] (fun p wr=>∃ (i:Nat) (pre:List (Int × aW)) (q:aW),p=.int .i64 i∧i≤n∧Hid (i=pre.length)∧Hid (Af s.st (dx xs) pre)∧Hid (J pre wr)∧Hid (wr.heap[w.heap.size]?=some (.cells #[.slice q.A q.ls.length q.c,.slice q.A2 q.ms.length q.c2] 25 (0,0)))∧Hid (j_ q wr∧q.st=T9.cK s.st ((dx xs).take i))∧Hid (au wr n0 tI A (eH xs))∧Hid (w.heap.size+1≤wr.heap.size))
  (fun p _=>n - (intOf p).toNat)
 case atStart=>exact⟨0,[],s,rfl,Nat.zero_le _,hid rfl,hid Af.nil,J1,NB1,hid ⟨S1.out,rfl⟩,I1,hid (by omega)⟩
 case round =>
  obtain⟨i,pre,q,rfl,hi,HIP,SP,JR,NB,QR,IR,ZR⟩:=hrel
  by_cases hlt:i<n
  ·have hltz:(i:Int)<(n:Int):=by omega
   have hwn:IntKind.i64.wrap ((i:Int)+1)=(i:Int)+1:=by rw [IntKind.wrap_i64];omega
   obtain⟨ad,x,hA,hx1,r0,r1,r2,r3,r4,r5,r6,r7⟩:=(show IL wr A xs from IR.out.old).at_ (k:=i) (by rw [← HN.out];exact hlt)
   have hm:=KM.out x (List.mem_of_getElem? hx1)
   obtain⟨xw,xi,⟨mk,mi,ml,mt,mf,mg⟩⟩:=x
   dsimp only at r0 r1 r2 r3 r4 r5 r6 r7 hm
   subst hA
   have FN:=hid (T9.sH (s:=s.st) (rF hx1))
   have EN:=hid (T9.kX (s:=s.st) (rF hx1))
   obtain⟨wa,dA⟩:∃ u,wr.alloc (.cells #[.int .u64 (xw:Int),.int .u64 (xi:Int),.int .i64 mk,.int .u64 (mi:Int),.int .u64 (ml:Int),.string (str mt),.float .f64 mf,.bool mg] 67)=u:=⟨_,rfl⟩
   obtain⟨lb,ba,_⟩:=mV dA
   obtain⟨l0,l1,l2,l3,l4,l5,l6,l7⟩:=kr lb
   obtain⟨k0,k1⟩:=aa (ae NB.out ba)
   have BA:=hid ba
   have PS:Hid (T9.fV q.st):=hid (by rw [QR.out.2];exact T9.iP D.out (fun m hm=>by obtain⟨x,hx,rfl⟩:=List.mem_map.1 (List.mem_of_mem_take hm);exact (KM.out x hx).1))
   have AC:=hid (yR (m:=⟨mk,mi,ml,mt,mf,mg⟩) (QR.out.1.stay ba).sm PS.out.short PS.out.2 hm.2)
   unfold vW T9.Mu.val aW.val at AC
   rw [QR.out.2] at AC
   dsimp only at FN EN
   obtain⟨ap,hap⟩:∃ r,T9.bA (T9.cK s.st ((dx xs).take i)) ⟨mk,mi,ml,mt,mf,mg⟩=r:=⟨_,rfl⟩
   obtain⟨aS,aE⟩:=ap
   rw [hap] at AC EN
   unfold T9.ou at FN
   rw [hap] at FN
   dsimp only at AC EN FN
   clear hx1 hm lb ba hap
   gi_wp2_with fail
   refine⟨trivial,(fun h=>by cases h),?_⟩
   refine (callsIn_wide.2 AC.out).mono ?_
   rintro e wb ⟨q2,er,rfl,hq2,hb,yw,her⟩
   subst er
   obtain⟨wc,hwc⟩:∃ u,wb.alloc (.cells #[.slice q2.A q2.ls.length q2.c,.slice q2.A2 q2.ms.length q2.c2] 25)=u:=⟨_,rfl⟩
   obtain⟨nb,bc,zc⟩:=ak hwc
   have BC:Hid (Below wr.heap.size wr wc):=hid (BA.out.trans ((hb.trans (bc.mono hb.size)).mono BA.out.size))
   have XB:=hid nb
   have QC:=hid (hq2.stay bc)
   have QS2:=hid yw
   have NBc:=hid (ae NB.out BC.out)
   have PC:=hid (QR.out.1.stay BC.out)
   have JC:=hid (HJ.out pre wr wc JR.out ⟨aN.of_below BC.out (by have:=ZR.out;omega) _,fun k hk _=>BC.out.block k hk⟩)
   have IC:=hid (IR.out.below (by have:=H0B.out;have:=ZR.out;omega) BC.out)
   have ZC:Hid (w.heap.size+1≤wc.heap.size):=hid (Nat.le_trans ZR.out BC.out.size)
   have LPn:Hid (pre.length<n):=hid (by rw [← HIP.out];exact hlt)
   have LPm:Hid (pre.length<(dx xs).length):=hid (by rw [ic,← HN.out,← HIP.out];exact hlt)
   clear nb bc zc hb hq2 yw l0 l1 l2 l3 l4 l5 l6 l7 k0 k1 r0 r1 r2 r3 r4 r5 r6 r7
   have g0:=af NBc.out 0
   have g1:=af NBc.out 1
   obtain⟨k0,k1⟩:=aa NBc.out
   obtain⟨n0c,n1c⟩:=aa XB.out
   by_cases he:aE=0
   ·subst he
    have uD:((0:Int)==0)=true:=by decide
    rw [if_pos rfl] at FN
    obtain⟨wd,hwd⟩:∃ u,(wc.setCell ⟨w.heap.size,0,none⟩ (.slice q2.A q2.ls.length q2.c)).setCell ⟨w.heap.size,1,none⟩ (.slice q2.A2 q2.ms.length q2.c2)=u:=⟨_,rfl⟩
    have YC:Ty wc w.heap.size 25:=⟨_,_,NBc.out⟩
    have TD:Hid (aN w.heap.size [25] wc wd):=hid (by
     rw [← hwd]
     exact ((aN.refl _ _ wc).aC (p:=⟨w.heap.size,0,none⟩) YC (by simp) (Nat.le_refl _) _).aC (p:=⟨w.heap.size,1,none⟩) (YC.set _ _) (by simp) (Nat.le_refl _) _)
    have OD:Hid (∀ k,k<wc.heap.size→k≠w.heap.size→wd.heap[k]?=wc.heap[k]?):=hid (fun k _ hk=>by rw [← hwd];exact (Below.heap_setCell _ _ _ k hk).trans (Below.heap_setCell _ _ _ k hk))
    have NBd:Hid (wd.heap[w.heap.size]?=some (.cells #[.slice q2.A q2.ls.length q2.c,.slice q2.A2 q2.ms.length q2.c2] 25 (0,0))):=hid (by rw [← hwd];exact ah (ah NBc.out 0 _) 1 _)
    have QD:=hid (QC.out.bH TD.out (by decide) (by decide) (by decide))
    have JD:=hid (HJ.out pre wc wd JC.out ⟨TD.out,OD.out⟩)
    have ID:=hid (IC.out.bH (TD.out.mono H0B.out) T5.out)
    have ZD:Hid (w.heap.size+1≤wd.heap.size):=hid (Nat.le_trans ZC.out TD.out.size)
    have SPn:Hid (Af s.st (dx xs) (pre++[((0:Int),q2)])):=hid (SP.out.nxt LPm.out (by rw [← HIP.out];exact EN.out) (by rw [← HIP.out,QS2.out];exact FN.out.symm))
    obtain⟨d0,d1⟩:=aa NBd.out
    obtain⟨fn,tmps,assign,body,hy,hR⟩:=HY.out pre (0,q2) wd JD.out LPn.out SPn.out ⟨QD.out,_,_,NBd.out⟩ (by have:=ZD.out;omega)
    unfold nZ aW.val at hy
    dsimp only at hy
    clear YC
    gi_wp2
    refine⟨(fun h=>by cases h),?_⟩
    refine hR.mono ?_
    rintro e0 w6 (⟨rfl,hJ6,hK6⟩ | ⟨rfl,Gv,_⟩)
    ·have J6:=hid hJ6
     have K6:=hid hK6
     clear hJ6 hK6 hR hy
     gi_wp2
     go_roundw
     case rel =>
      refine⟨i+1,pre++[(0,q2)],q2,by go_num,by omega,hid (by rw [List.length_append,← HIP.out];rfl),SPn,J6,hid (K6.out.2.trans NBd.out),hid ⟨QD.out.bH K6.out.1 T.out.1 T.out.2.1 T.out.2.2.1,?_⟩,hid (ID.out.bH K6.out.1 T.out.2.2.2),hid (Nat.le_trans ZD.out K6.out.1.size)⟩
      rw [QS2.out,FN.out]
     case measure=>simp [intOf];omega
    ·have J6:=hid Gv
     clear Gv hR hy
     gi_wp2
     refine bodyPost_ret (results_none rfl _ _ _) rfl ?_
     exact⟨⟨_,rfl⟩,.inr ⟨pre++[(0,q2)],SPn.out,J6.out⟩⟩
   ·have uD:(aE==0)=false:=by simp [he]
    rw [if_neg he] at FN
    clear he
    have SPn:Hid (Af s.st (dx xs) (pre++[(aE,q)])):=hid (SP.out.nxt LPm.out (by rw [← HIP.out];exact EN.out) (by rw [← HIP.out,QR.out.2];exact FN.out.symm))
    obtain⟨fn,tmps,assign,body,hy,hR⟩:=HY.out pre (aE,q) wc JC.out LPn.out SPn.out ⟨PC.out,_,_,NBc.out⟩ (by have:=ZC.out;omega)
    unfold nZ aW.val at hy
    dsimp only at hy
    gi_wp2
    refine⟨(fun h=>by cases h),?_⟩
    refine hR.mono ?_
    rintro e0 w6 (⟨rfl,hJ6,hK6⟩ | ⟨rfl,Gv,_⟩)
    ·have J6:=hid hJ6
     have K6:=hid hK6
     clear hJ6 hK6 hR hy
     gi_wp2
     go_roundw
     case rel =>
      refine⟨i+1,pre++[(aE,q)],q,by go_num,by omega,hid (by rw [List.length_append,← HIP.out];rfl),SPn,J6,hid (K6.out.2.trans NBc.out),hid ⟨PC.out.bH K6.out.1 T.out.1 T.out.2.1 T.out.2.2.1,?_⟩,hid (IC.out.bH K6.out.1 T.out.2.2.2),hid (Nat.le_trans ZC.out K6.out.1.size)⟩
      rw [QR.out.2,FN.out]
     case measure=>simp [intOf];omega
    ·have J6:=hid Gv
     clear Gv hR hy
     gi_wp2
     refine bodyPost_ret (results_none rfl _ _ _) rfl ?_
     exact⟨⟨_,rfl⟩,.inr ⟨pre++[(aE,q)],SPn.out,J6.out⟩⟩
  ·obtain rfl:i=n:=by omega
   have hltz:¬ ((i:Int)<(i:Int)):=by omega
   gi_wp2
   go_end0
   exact⟨⟨_,rfl⟩,.inl ⟨pre,⟨SP.out,by rw [ic,← HN.out,HIP.out]⟩,JR.out⟩⟩
end
end
end Go.Proofs.YtcedlgedmkghgaaGreat
