import Derived.Test.YtcmiompdjjiojaaGreatZ27
import Derived.Test.YtcmiompdjjiojaaGreatZ33
import Derived.Test.YtcmiompdjjiojaaGreatZ34
namespace Go.Proofs.YtcmiompdjjiojaaGreat
set_option maxHeartbeats 16000000
open Go.Lib Go.Proofs.Tryz
set_option linter.unusedSimpArgs false
set_option maxRecDepth 100000
section
open Go.RowKit Go.Lib
theorem Bh {ts:List T9.Tk} {x:T9.Tk} (h:∀ t∈ts,t.ok) (hx:x.ok):∀ t∈Sr.ins T9.jg x ts,t.ok:=fun t ht=>by
 rcases Sr.kU ht with rfl | q
 ·exact hx
 ·exact h t q
theorem ug {ts:List T9.Tk} {l i:Nat} {d:Bool} (h:∀ t∈ts,t.ok):∀ t∈T9.wo ts l d i,t.ok:=fun t ht=>h t (List.mem_filter.1 ht).1
theorem Hm {ts:List T9.Tk} {i:Nat} (h:∀ t∈ts,t.ok) (hh:T9.eB ts i=true):(T9.dJ ts i).1.ok:=h _ (T9.lF hh).1
theorem KP {l:List T9.Tk} {t:T9.Tk} (hl:l.length≤60) (h:t.ok):(T9.oP l t).ok:=by
 unfold T9.oP
 cases e:T9.zR l t.id with
 | none=>exact h
 | some j =>
  obtain⟨x,hx,_⟩:=T9.Bu e
  have:=(List.getElem?_eq_some_iff.1 hx).1
  have hb:=(Fl.JU (j+1) (by omega)).1
  dsimp only
  generalize Fl.zP (j+1)=f at hb ⊢
  exact⟨h.1,h.2.1,hb,h.2.2.2⟩
theorem Ei (ts:List T9.Tk) (l:Nat):(T9.lw ts l).length≤ts.length:=by
 unfold T9.lw
 have q:∀ (xs o:List T9.Tk),(xs.foldl (fun o x=>Sr.ins T9.lM x o) o).length≤o.length+xs.length:=by
  intro xs
  induction xs with
  | nil=>intro o;simp
  | cons x xs ih =>
   intro o
   have a:=ih (Sr.ins T9.lM x o)
   have b:∀ o:List T9.Tk,(Sr.ins T9.lM x o).length≤o.length+1:=by
    intro o
    induction o with
    | nil=>simp [Sr.ins]
    | cons y o ih2=>unfold Sr.ins;split <;> (try split) <;> simp <;> omega
   have c:=b o
   simp only [List.foldl_cons,List.length_cons]
   omega
 have a:=q (T9.fM ts l) []
 have b:(T9.fM ts l).length≤ts.length:=by unfold T9.fM;exact List.length_filter_le _ _
 unfold Sr.canon
 simp only [List.length_nil,Nat.zero_add] at a
 omega
theorem KO {home:Bool} {m:T9.Mu} {t:T9.Tk} (km:m.ok) (h:t.ok):(T9.pX home m t).2.ok:=by
 unfold T9.pX
 split
 ·exact h
 split
 ·exact h
 split
 ·exact⟨h.1,km.2.1,km.2.2,h.2.2.2⟩
 split
 ·exact⟨h.1,h.2.1,km.2.2,h.2.2.2⟩
 split
 ·exact⟨h.1,h.2.1,h.2.2.1,km.2.2⟩
 ·exact h
theorem JK {s:T9.St} {m:T9.Mu} (h:s.ok) (km:m.ok) (hr:T9.aJ s=0) (hd:(T9.eD s m).1=0):(T9.eD s m).2.ok:=by
 unfold T9.eD at hd ⊢
 by_cases k1:m.kind=1
 ·rw [if_pos k1] at hd ⊢
  split at hd
  ·cases hd
  rename_i a
  rw [if_neg a]
  split at hd
  ·cases hd
  rename_i b
  rw [if_neg b]
  refine⟨fun l hl=>?_,h.2⟩
  rcases Sr.kU hl with rfl | q
  ·exact km.1
  ·exact h.1 l q
 rw [if_neg k1] at hd ⊢
 by_cases k2:m.kind=2
 ·rw [if_pos k2] at hd ⊢
  split at hd
  ·cases hd
  rename_i a
  rw [if_neg a]
  exact⟨fun l hl=>h.1 l (List.mem_filter.1 hl).1,ug h.2⟩
 rw [if_neg k2] at hd ⊢
 by_cases k12:m.kind=12
 ·rw [if_pos k12] at hd ⊢
  split at hd
  ·cases hd
  rename_i a
  rw [if_neg a]
  exact⟨h.1,ug h.2⟩
 rw [if_neg k12] at hd ⊢
 by_cases k13:m.kind=13
 ·rw [if_pos k13] at hd ⊢
  split at hd
  ·cases hd
  rename_i a
  rw [if_neg a]
  refine⟨h.1,fun t ht=>?_⟩
  obtain⟨x,hx,rfl⟩:=List.mem_map.1 ht
  exact KP (Nat.le_trans (Ei _ _) (T9.aF hr).2.1) (h.2 x hx)
 rw [if_neg k13] at hd ⊢
 by_cases k3:m.kind=3
 ·rw [if_pos k3] at hd ⊢
  split at hd
  ·cases hd
  rename_i a
  rw [if_neg a]
  split at hd
  ·cases hd
  rename_i b
  rw [if_neg b]
  split at hd
  ·cases hd
  rename_i c
  rw [if_neg c]
  exact⟨h.1,Bh h.2 ⟨km.1,km.2.1,km.2.2,(by decide +kernel:Fl.iF<18446744073709551616)⟩⟩
 rw [if_neg k3] at hd ⊢
 split at hd
 ·cases hd
 rename_i a
 rw [if_neg a]
 have a':T9.eB s.tasks m.id=true:=by simpa using a
 by_cases k11:m.kind=11
 ·rw [if_pos k11]
  exact⟨h.1,ug h.2⟩
 ·rw [if_neg k11]
  exact⟨h.1,Bh (ug h.2) (KO km (Hm h.2 a'))⟩
end
section
open Go.RowKit Go.Lib
namespace T9
def bV (s:St):St:=if aJ (canon s)=0 then canon s else ⟨[],[]⟩
def pR (s:St) (m:Mu):St:=if (bA s m).2=0 then (bA s m).1 else s
def bZ (s:St):List Mu→St
 | []=>s
 | m :: l=>bZ (pR s m) l
def fK (s:St):List Mu→List Int
 | []=>[]
 | m :: l=>(bA s m).2 :: fK (pR s m) l
def dX (s:St):Prop:=aJ s=0∧s.ok
theorem dX.short {s:St} (h:dX s):s.short:=BU h.1
theorem dX.canon {s:St} (h:dX s):T9.canon s=s:=kS h.1
theorem iC {s:St} (h:s.ok):dX (bV s):=by
 unfold bV
 split
 ·rename_i q
  exact⟨q,T9.Jp h⟩
 ·exact⟨by decide,by simp,by simp⟩
theorem qj {s:St} (h:dX s):bV s=s:=by
 unfold bV
 rw [h.canon,if_pos h.1]
theorem zF {s:St} {m:Mu} (h:dX s) (km:m.ok):dX (pR s m):=by
 unfold pR
 split
 ·rename_i e
  obtain⟨a1,a2,a3,a4⟩:=Gj e
  rw [a4]
  exact⟨Gx a1 a2 a3,JK h.2 km a1 a3⟩
 ·exact h
theorem jd {l:List Mu}:∀ {s:St},dX s→(∀ m∈l,m.ok)→dX (bZ s l):=by
 induction l with
 | nil=>exact fun h _=>h
 | cons m l ih=>exact fun h k=>ih (zF h (k m (List.mem_cons_self ..))) fun x hx=>k x (List.mem_cons_of_mem _ hx)
theorem kF {l k:List Mu}:∀ {s:St},bZ s (l++k)=bZ (bZ s l) k:=by
 induction l with
 | nil=>exact rfl
 | cons m l ih=>exact ih
theorem DK {l k:List Mu}:∀ {s:St},fK s (l++k)=fK s l++fK (bZ s l) k:=by
 induction l with
 | nil=>exact rfl
 | cons m l ih=>exact fun {s}=>congrArg ((bA s m).2 :: ·) ih
theorem uM {l:List Mu}:∀ {s:St},(fK s l).length=l.length:=by
 induction l with
 | nil=>exact rfl
 | cons m l ih=>exact fun {s}=>congrArg (·+1) ih
theorem uN {l:List Mu} {s:St} {i:Nat} {m:Mu} (h:l[i]?=some m):bZ s (l.take (i+1))=pR (bZ s (l.take i)) m:=by
 rw [bH h,kF]
 rfl
theorem lV {l:List Mu} {s:St} {i:Nat} {m:Mu} (h:l[i]?=some m):fK s (l.take (i+1))=fK s (l.take i)++[(bA (bZ s (l.take i)) m).2]:=by
 rw [bH h,DK]
 rfl
end T9
end
section
section
open Go.RowKit Go.Lib Go.Shelf
def sI (s:T9.St) (w:World) (e:Ending) (w':World):Prop:=∃ q:aQ,e=.returned q.val∧kR q w'∧q.st=s∧Below w.heap.size w w'
theorem j_ (w:World):(Instr.build 26 #[]).run prog w=.ok (.agg #[.slice none 0 0,.slice none 0 0]) w:=run_build w 26 _ _ (by kernel_rfl)
theorem xm {s:aQ} {w:World} (hs:SM s w) (hl2:(T9.canon s.st).short) (n1:s.ls.length≤1000) (n2:s.ms.length≤1000) (n3:∀ t∈s.ms,t.t.tags.length≤1000) :
  Calls prog 26 #[s.val] w (sI (T9.bV s.st) w):=by
 have hbl:=j_
 obtain⟨w0,hw0⟩:=nm (w.alloc (.cells #[.slice s.A s.ls.length s.c,.slice s.A2 s.ms.length s.c2] 26))
 obtain⟨lb,b1,z1⟩:=aj hw0
 obtain⟨w1,hw1⟩:=nm (w0.alloc (.cells #[.slice none 0 0,.slice none 0 0] 26))
 obtain⟨rb,b2,z2⟩:=aj hw1
 rw [z1] at rb
 have B1:Hid (Below w.heap.size w w1):=hid (b1.trans (b2.mono (by omega)))
 have LB:=hid (ae lb b2)
 have RB:=hid rb
 have S1:=hid (hs.stay B1.out)
 have Ga:=hid hl2
 have CC:=hid (rP (c1:=s.c) (c2:=s.c2) S1.out.l S1.out.k rfl rfl n1 n2 n3)
 rw [show T9.canon ⟨s.ls,ay s.ms⟩=T9.canon s.st from rfl] at CC
 obtain⟨cs,hcs⟩:=nm (T9.canon s.st)
 have BG:Hid (T9.bV s.st=if T9.aJ cs=0 then cs else ⟨[],[]⟩):=hid (by unfold T9.bV;rw [hcs])
 rw [hcs] at CC Ga
 obtain⟨l0,l1⟩:=aa LB.out
 unfold aQ.val
 clear lb b1 rb b2 z2 hs hl2 n1 n2 n3 hcs
 go_enter func26,ntmps26
 go_upto_region 2 with (go_at_call 42;refine CC.out.mono ?_;rintro e w2 ⟨q,rfl,hq,hq1,hq2,hq3,hq4,Ff,_,_,hb2⟩;have Q2:=hid (show kR q w2 from⟨hq1,hq2,fun x hx=>hq3 x hx,hq4,Ff⟩);have QS:=hid hq;unfold aQ.val;have AZ:=ae LB.out hb2;have LB2:=hid AZ;have zV:=hid (ae RB.out hb2);have HB2:=hid hb2;have f0:=af AZ 0;have f1:=af AZ 1;obtain⟨l0,l1⟩:=aa AZ;clear hb2 AZ hq hq1 hq2 hq3 hq4 Ff)
 obtain⟨w3,hw3⟩:=nm ((w2.setCell ⟨w.heap.size,0,none⟩ (.slice q.A q.ls.length q.c)).setCell ⟨w.heap.size,1,none⟩ (.slice q.A2 q.ms.length q.c2))
 try rw [hw3]
 have Y2:Ty w2 w.heap.size 26:=⟨_,_,LB2.out⟩
 have T3:Hid (aM w.heap.size [26] w2 w3):=hid (by
  rw [← hw3]
  exact ((aM.refl _ _ w2).aB (p:=⟨w.heap.size,0,none⟩) Y2 (by simp) (Nat.le_refl _) _).aB (p:=⟨w.heap.size,1,none⟩) (Y2.set _ _) (by simp) (Nat.le_refl _) _)
 have LB3:Hid (w3.heap[w.heap.size]?=some (.cells #[.slice q.A q.ls.length q.c,.slice q.A2 q.ms.length q.c2] 26 (0,0))):=hid (by rw [← hw3];exact ah (ah LB2.out 0 _) 1 _)
 have xh:Hid (w3.heap[w.heap.size+1]?=some (.cells #[.slice none 0 0,.slice none 0 0] 26 (0,0))):=hid (by rw [← hw3];exact az (az zV.out (by simp) _) (by simp) _)
 have B3:Hid (Below w.heap.size w w3):=hid ((B1.out.trans (HB2.out.mono B1.out.size)).trans T3.out.below)
 have Q3:=hid (Q2.out.bE T3.out (by decide) (by decide) (by decide))
 clear hw3 f0 f1 l0 l1 Y2
 obtain⟨l0,l1⟩:=aa LB3.out
 have CR:=hid (vP (c:=q.c) (c2:=q.c2) Q3.out.sm.l Q3.out.sm.k rfl rfl (show q.st.short by rw [QS.out];exact Ga.out))
 rw [show (⟨q.ls,ay q.ms⟩:T9.St)=cs from QS.out] at CR
 obtain⟨R,hR⟩:=nm (T9.aJ cs)
 rw [hR] at CR BG
 have CRH:=hid CR.out
 clear hR CR
 by_cases hr:R=0
 ·subst hr
  have wT:((0:Int) != 0)=false:=by decide
  rw [if_pos rfl] at BG
  go_upto_region 4 with (go_at_call 43;refine CRH.out.mono ?_;rintro e w4 ⟨rfl,hb4⟩;have EO:=hid hb4;obtain⟨l0,l1⟩:=aa (ae LB3.out hb4);have vK:=ae xh.out hb4;have EU:=hid vK;have f0:=af vK 0;have f1:=af vK 1;obtain⟨r0,r1⟩:=aa vK;clear hb4 vK)
  obtain⟨w5,fV⟩:=nm ((w4.setCell ⟨w.heap.size+1,0,none⟩ (.slice q.A q.ls.length q.c)).setCell ⟨w.heap.size+1,1,none⟩ (.slice q.A2 q.ms.length q.c2))
  have Y4:Ty w4 (w.heap.size+1) 26:=⟨_,_,EU.out⟩
  have T5:Hid (aM w.heap.size [26] w4 w5):=hid (by
   rw [← fV]
   exact ((aM.refl _ _ w4).aB (p:=⟨w.heap.size+1,0,none⟩) Y4 (by simp) (Nat.le_succ _) _).aB (p:=⟨w.heap.size+1,1,none⟩) (Y4.set _ _) (by simp) (Nat.le_succ _) _)
  have EW:w5.heap[w.heap.size+1]?=some (.cells #[.slice q.A q.ls.length q.c,.slice q.A2 q.ms.length q.c2] 26 (0,0)):=by rw [← fV];exact ah (ah EU.out 0 _) 1 _
  have B5:Hid (Below w.heap.size w w5):=hid ((B3.out.trans (EO.out.mono B3.out.size)).trans T5.out.below)
  have Q5:=hid ((Q3.out.stay EO.out).bE T5.out (by decide) (by decide) (by decide))
  obtain⟨k0,k1⟩:=aa EW
  clear EW Y4
  go_wp2
  try rw [fV]
  refine bodyPost_ret (v:=.agg #[.slice q.A q.ls.length q.c,.slice q.A2 q.ms.length q.c2]) (by simp [results,results26,go_sem,k0,k1]) rfl ?_
  exact⟨q,rfl,Q5.out,by rw [BG.out,QS.out],B5.out⟩
 ·have wT:(R != 0)=true:=by simp [hr]
  rw [if_neg hr] at BG
  clear hr
  go_upto_region 3 with (go_at_call 43;refine CRH.out.mono ?_;rintro e w4 ⟨rfl,hb4⟩;have EO:=hid hb4;obtain⟨l0,l1⟩:=aa (ae LB3.out hb4);have vK:=ae xh.out hb4;have EU:=hid vK;have f0:=af vK 0;have f1:=af vK 1;obtain⟨r0,r1⟩:=aa vK;clear hb4 vK)
  obtain⟨w5,fV⟩:=nm ((w4.setCell ⟨w.heap.size+1,0,none⟩ (.slice none 0 0)).setCell ⟨w.heap.size+1,1,none⟩ (.slice none 0 0))
  have Y4:Ty w4 (w.heap.size+1) 26:=⟨_,_,EU.out⟩
  have T5:Hid (aM w.heap.size [26] w4 w5):=hid (by
   rw [← fV]
   exact ((aM.refl _ _ w4).aB (p:=⟨w.heap.size+1,0,none⟩) Y4 (by simp) (Nat.le_succ _) _).aB (p:=⟨w.heap.size+1,1,none⟩) (Y4.set _ _) (by simp) (Nat.le_succ _) _)
  have EW:w5.heap[w.heap.size+1]?=some (.cells #[.slice none 0 0,.slice none 0 0] 26 (0,0)):=by rw [← fV];exact ah (ah EU.out 0 _) 1 _
  have B5:Hid (Below w.heap.size w w5):=hid ((B3.out.trans (EO.out.mono B3.out.size)).trans T5.out.below)
  obtain⟨k0,k1⟩:=aa EW
  clear EW Y4
  go_wp2
  try rw [fV]
  refine bodyPost_ret (v:=.agg #[.slice none 0 0,.slice none 0 0]) (by simp [results,results26,go_sem,k0,k1]) rfl ?_
  exact⟨⟨[],none,0,[],none,0⟩,rfl,kR.qN,by rw [BG.out];rfl,B5.out⟩
end
end
section
section
open Go.RowKit Go.Lib Go.Shelf
def encZ (k:Int):Value:=.int .i64 k
theorem Tryz.infoZ14:(prog.info? 3).map (fun i=>(i.zero,i.size,i.bytes))=some (some (.int .i64 0),1,8):=by kernel_rfl
theorem l_ {w:World} {b b' e s n:Nat} {v:Value} {xs:List Value} (h:w.ownsRow b e s v n xs) (hb:b'≤b):w.ownsRow b' e s v n xs :=
 ⟨h.1,h.2.imp id fun ⟨g,cap,cur,h1,h2,h3⟩=>⟨g,cap,cur,h1,Nat.le_trans hb h2,h3⟩⟩
def AllOk (T:TypeId) (s:T9.St) (l:List T9.Mu) (w:World) (e:Ending) (w':World):Prop:=∃ (q:aQ) (A:Option Addr) (c:Nat),e=.returned (.tuple #[q.val,.slice A l.length c])∧kR q w'∧q.st=T9.bZ s l∧w'.ownsRow w.heap.size T 1 (.slice A l.length c) l.length ((T9.fK s l).map encZ)∧Below w.heap.size w w'
theorem Lp {s:aQ} {A:Option Addr} {n c:Nat} {xs:List It} {w:World} (hs:SM s w) (hl2:(T9.canon s.st).short) (n1:s.ls.length≤1000) (n2:s.ms.length≤1000) (n3:∀ t∈s.ms,t.t.tags.length≤1000) (ho:s.st.ok)
  (h:IL w A xs) (hn:n=xs.length) (hx:n≤1000000) (km:∀ x∈xs,x.m.ok∧x.m.text.length≤200) :
  Calls prog 22 #[s.val,.slice A n c] w (AllOk 3 (T9.bV s.st) (cZ xs) w):=by
 obtain⟨w0,hw0⟩:=nm (w.alloc (.cells #[.slice s.A s.ls.length s.c,.slice s.A2 s.ms.length s.c2] 26))
 obtain⟨lb,b1,z1⟩:=aj hw0
 obtain⟨w1,hw1⟩:=nm (w0.alloc (.cells #[.slice none 0 0,.slice none 0 0] 26))
 obtain⟨rb,b2,z2⟩:=aj hw1
 rw [z1] at rb
 have B1:Hid (Below w.heap.size w w1):=hid (b1.trans (b2.mono (by omega)))
 have LB:=hid (ae lb b2)
 have RB:=hid rb
 have BG:=hid (xm (hs.stay B1.out) hl2 n1 n2 n3)
 unfold sI at BG
 obtain⟨s0,hs0⟩:=nm (T9.bV s.st)
 have SD:Hid (T9.dX s0):=hid (by rw [← hs0];exact T9.iC ho)
 rw [hs0] at BG ⊢
 have H:=hid h
 have HN:=hid hn
 have KM:=hid km
 have Z2:Hid (w1.heap.size=w.heap.size+2):=hid (by omega)
 obtain⟨l0,l1⟩:=aa LB.out
 unfold aQ.val at BG ⊢
 clear lb b1 rb b2 z2 hs hl2 n1 n2 n3 ho h hn km hs0
 go_enter func22,ntmps22
 go_upto_region 2 with (go_at_call 26;refine BG.out.mono ?_;rintro e w2 ⟨q,rfl,hq,sM,hb2⟩;have Q2:=hid hq;have QS:=hid sM;have AZ:=ae LB.out hb2;have LB2:=hid AZ;have zV:=hid (ae RB.out hb2);have HB2:=hid hb2;have f0:=af AZ 0;have f1:=af AZ 1;obtain⟨l0,l1⟩:=aa AZ;clear hb2 AZ hq sM)
 obtain⟨w3,hw3⟩:=nm ((w2.setCell ⟨w.heap.size,0,none⟩ (.slice q.A q.ls.length q.c)).setCell ⟨w.heap.size,1,none⟩ (.slice q.A2 q.ms.length q.c2))
 try rw [hw3]
 have Y2:Ty w2 w.heap.size 26:=⟨_,_,LB2.out⟩
 have T3:Hid (aM w.heap.size [26] w2 w3):=hid (by
  rw [← hw3]
  exact ((aM.refl _ _ w2).aB (p:=⟨w.heap.size,0,none⟩) Y2 (by simp) (Nat.le_refl _) _).aB (p:=⟨w.heap.size,1,none⟩) (Y2.set _ _) (by simp) (Nat.le_refl _) _)
 have LB3:Hid (w3.heap[w.heap.size]?=some (.cells #[.slice q.A q.ls.length q.c,.slice q.A2 q.ms.length q.c2] 26 (0,0))):=hid (by rw [← hw3];exact ah (ah LB2.out 0 _) 1 _)
 have xh:Hid (w3.heap[w.heap.size+1]?=some (.cells #[.slice none 0 0,.slice none 0 0] 26 (0,0))):=hid (by rw [← hw3];exact az (az zV.out (by simp) _) (by simp) _)
 have B3:Hid (Below w.heap.size w w3):=hid ((B1.out.trans (HB2.out.mono B1.out.size)).trans T3.out.below)
 have Z3:Hid (w.heap.size+2≤w3.heap.size):=hid (by have:=Z2.out;have:=HB2.out.size;have:=T3.out.size;omega)
 have Q3:=hid (Q2.out.bE T3.out (by decide) (by decide) (by decide))
 clear hw0 hw1 hw3 f0 f1 l0 l1 Y2 BG Q2 LB2 zV
 go_wp2_with fail
 go_loopw [6,15] (fun s6 s15 wr=>∃ (i:Nat) (A6:Option Addr) (c6:Nat) (q:aQ),s6=.slice A6 i c6∧s15=.int .i64 i∧i≤n∧Hid (kR q wr∧q.st=T9.bZ s0 ((cZ xs).take i))∧Hid (wr.ownsRow w3.heap.size 3 1 (.slice A6 i c6) i ((T9.fK s0 ((cZ xs).take i)).map encZ))∧Hid (wr.heap[w.heap.size]?=some (.cells #[.slice q.A q.ls.length q.c,.slice q.A2 q.ms.length q.c2] 26 (0,0)))∧Hid (wr.heap[w.heap.size+1]?=some (.cells #[.slice none 0 0,.slice none 0 0] 26 (0,0)))∧Hid (aM w.heap.size [26,3] w3 wr)) (fun _ s15 _=>n - (intOf s15).toNat)
 case atStart=>exact⟨0,none,0,q,rfl,rfl,Nat.zero_le _,hid ⟨Q3.out,QS.out⟩,hid (World.ownsRow_nil _ _ _ _),LB3,xh,hid (aM.refl _ _ _)⟩
 case round =>
  obtain⟨i,A6,c6,p,rfl,rfl,hi,HP,OW,LP,RBR,TC⟩:=hrel
  have BR:Hid (Below w.heap.size w wr):=hid (B3.out.trans TC.out.below)
  by_cases hlt:i<n
  ·have hltz:(i:Int)<(n:Int):=by omega
   obtain⟨ad,x,hA,hx1,r0,r1,r2,r3,r4,r5,r6,r7⟩:=(H.out.stay BR.out).at_ (k:=i) (by rw [← HN.out];exact hlt)
   have hm:=KM.out x (List.mem_of_getElem? hx1)
   obtain⟨xw,xi,⟨mk,mi,ml,mt,mf,mg⟩⟩:=x
   dsimp only at r0 r1 r2 r3 r4 r5 r6 r7 hm
   subst hA
   have FN:=hid (T9.uN (s:=s0) (tZ hx1))
   have EN:=hid (T9.lV (s:=s0) (tZ hx1))
   obtain⟨wa,dB⟩:=nm (wr.alloc (.cells #[.int .u64 (xw:Int),.int .u64 (xi:Int),.int .i64 mk,.int .u64 (mi:Int),.int .u64 (ml:Int),.string (str mt),.float .f64 mf,.bool mg] 59))
   obtain⟨lb,ba,_⟩:=kg dB
   obtain⟨l0,l1,l2,l3,l4,l5,l6,l7⟩:=iQ lb
   obtain⟨k0,k1⟩:=aa (ae LP.out ba)
   have LPa:=hid (ae LP.out ba)
   have BA:=hid ba
   have PS:Hid (T9.dX p.st):=hid (by rw [HP.out.2];exact T9.jd SD.out (fun m hm=>by obtain⟨x,hx,rfl⟩:=List.mem_map.1 (List.mem_of_mem_take hm);exact (KM.out x hx).1))
   have AC:=hid (Bz (m:=⟨mk,mi,ml,mt,mf,mg⟩) (HP.out.1.stay ba).sm PS.out.short PS.out.2 hm.2)
   unfold yh T9.Mu.val aQ.val at AC
   rw [HP.out.2] at AC
   dsimp only at FN EN
   obtain⟨ap,hap⟩:=nm (T9.bA (T9.bZ s0 ((cZ xs).take i)) ⟨mk,mi,ml,mt,mf,mg⟩)
   obtain⟨aS,aE⟩:=ap
   rw [hap] at AC EN
   unfold T9.pR at FN
   rw [hap] at FN
   dsimp only at AC EN FN
   clear hx1 hm lb ba hap
   go_wp2_with fail
   refine AC.out.mono ?_
   rintro e wb ⟨q2,er,rfl,hq2,hb,r9,her⟩
   subst er
   obtain⟨wc,hwc⟩:=nm (wb.alloc (.cells #[.slice q2.A q2.ls.length q2.c,.slice q2.A2 q2.ms.length q2.c2] 26))
   obtain⟨nb,bc,zc⟩:=aj hwc
   have BC:Hid (Below wr.heap.size wr wc):=hid (BA.out.trans ((hb.trans (bc.mono hb.size)).mono BA.out.size))
   have NB:=hid nb
   have QC:=hid (hq2.stay bc)
   have QS2:=hid r9
   have LPc:=hid (ae LP.out BC.out)
   have PC:=hid (HP.out.1.stay BC.out)
   have RBc:=hid (ae RBR.out BC.out)
   have OWc:=hid (own_below OW.out BC.out)
   have TCc:=hid (TC.out.trans (aM.of_below (B:=w.heap.size) BC.out BR.out.size _))
   obtain⟨er0,her0⟩:=nm ((T9.fK s0 ((cZ xs).take i)).map encZ)
   rw [her0] at OWc
   have HE:=hid her0
   clear nb bc zc hb hq2 r9 l0 l1 l2 l3 l4 l5 l6 l7 k0 k1 her0
   have g0:=af LPc.out 0
   have g1:=af LPc.out 1
   obtain⟨k0,k1⟩:=aa LPc.out
   obtain⟨n0,n1⟩:=aa NB.out
   obtain⟨xX,xW,x8,x9,x_⟩:=info_parts Tryz.infoZ14
   by_cases he:aE=0
   ·subst he
    have wT:((0:Int)==0)=true:=by decide
    rw [if_pos rfl] at FN
    go_upto_region 9 with fail
    obtain⟨wd,hwd⟩:=nm ((wc.setCell ⟨w.heap.size,0,none⟩ (.slice q2.A q2.ls.length q2.c)).setCell ⟨w.heap.size,1,none⟩ (.slice q2.A2 q2.ms.length q2.c2))
    try rw [hwd]
    have YC:Ty wc w.heap.size 26:=⟨_,_,LPc.out⟩
    have TD:Hid (aM w.heap.size [26] wc wd):=hid (by
     rw [← hwd]
     exact ((aM.refl _ _ wc).aB (p:=⟨w.heap.size,0,none⟩) YC (by simp) (Nat.le_refl _) _).aB (p:=⟨w.heap.size,1,none⟩) (YC.set _ _) (by simp) (Nat.le_refl _) _)
    have LPv:Hid (wd.heap[w.heap.size]?=some (.cells #[.slice q2.A q2.ls.length q2.c,.slice q2.A2 q2.ms.length q2.c2] 26 (0,0))):=hid (by rw [← hwd];exact ah (ah LPc.out 0 _) 1 _)
    have RBv:Hid (wd.heap[w.heap.size+1]?=some (.cells #[.slice none 0 0,.slice none 0 0] 26 (0,0))):=hid (by rw [← hwd];exact az (az RBc.out (by simp) _) (by simp) _)
    have OWv:=hid (bX OWc.out TD.out (by decide))
    have TCv:=hid (TCc.out.trans (TD.out.more (by simp)))
    have QV:=hid (QC.out.bE TD.out (by decide) (by decide) (by decide))
    clear hwd YC g0 g1 k0 k1 n0 n1
    have mG:=hid (OWv.out.alloc (.cells #[.int .i64 0] 3))
    have LE:Hid (au (wd.alloc (.cells #[.int .i64 0] 3)) 0 3 (some ⟨wd.heap.size,0,none⟩) [encZ 0]):=hid (au.iy (heap_alloc_new wd _))
    have zz:w3.heap.size≤wd.heap.size:=TCv.out.size
    have ZZ:=hid zz
    have RBE:=hid (bu RBv.out (.cells #[.int .i64 0] 3))
    have LPE:=hid (bu LPv.out (.cells #[.int .i64 0] 3))
    go_wp2_with (at_builtin;refine bL _ rfl _ _ 51 rfl w3.heap.size 3 xX _ 1 8 underlying51 xW x8 x9 x_ rfl (by decide) (.slice A6 i c6) i er0 rfl mG.out 0 _ 1 1 [encZ 0] 3 rfl rfl LE.out (by intro u hu;rw [List.mem_singleton] at hu;subst hu;rfl) (by unfold maxLen;omega) (by omega) (by simp;omega) ?_)
    intro v6 w6 hown6 aX fA
    obtain⟨A7,k7,rfl⟩:=aD hown6
    have LP6:Hid (w6.heap[w.heap.size]?=some (.cells #[.slice q2.A q2.ls.length q2.c,.slice q2.A2 q2.ms.length q2.c2] 26 (0,0))):=hid ((aX.block w.heap.size (lt_of_block LPE.out) (fun q=>by
     obtain⟨_,cs2,fr2,r⟩:=bM mG.out _ q.symm
     rw [LPE.out] at r
     injection r with r
     injection r with _ r _
     exact absurd r (by decide))).trans LPE.out)
    have RB6:Hid (w6.heap[w.heap.size+1]?=some (.cells #[.slice none 0 0,.slice none 0 0] 26 (0,0))):=hid ((aX.block (w.heap.size+1) (lt_of_block RBE.out) (fun q=>by
     obtain⟨_,cs2,fr2,r⟩:=bM mG.out _ q.symm
     rw [RBE.out] at r
     injection r with r
     injection r with _ r _
     exact absurd r (by decide))).trans RBE.out)
    have T6:Hid (aM w.heap.size [26,3] wd w6):=hid (((aM.refl w.heap.size [26,3] wd).alloc (by have:=ZZ.out;have:=Z3.out;omega) (.cells #[.int .i64 0] 3)).trans (ed (B:=w.heap.size) (ts:=[26,3]) mG.out aX (by have:=Z3.out;omega) (by have:=ZZ.out;have:=Z3.out;simp;omega) (by simp)))
    have Q6:=hid (QV.out.bE T6.out (by decide) (by decide) (by decide))
    have Gc:=hid hown6
    clear hown6 aX fA zz
    go_wp2
    go_roundw
    case rel =>
     refine⟨i+1,A7,k7,q2,rfl,by go_num,by omega,hid ⟨Q6.out,?_⟩,hid ?_,LP6,RB6,hid (TCv.out.trans T6.out)⟩
     ·rw [FN.out]
      exact QS2.out
     ·rw [EN.out,List.map_append,HE.out]
      exact Gc.out
    case measure=>simp [intOf];omega
   ·have wT:(aE==0)=false:=by simp [he]
    rw [if_neg he] at FN
    clear he
    go_upto_region 9 with fail
    have LPv:=LPc
    have RBv:=RBc
    have OWv:=OWc
    have TCv:=TCc
    have QV:=PC
    clear hwc
    clear g0 g1 k0 k1 n0 n1
    have mG:=hid (OWv.out.alloc (.cells #[.int .i64 aE] 3))
    have LE:Hid (au (wc.alloc (.cells #[.int .i64 aE] 3)) 0 3 (some ⟨wc.heap.size,0,none⟩) [encZ aE]):=hid (au.iy (heap_alloc_new wc _))
    have zz:w3.heap.size≤wc.heap.size:=TCv.out.size
    have ZZ:=hid zz
    have RBE:=hid (bu RBv.out (.cells #[.int .i64 aE] 3))
    have LPE:=hid (bu LPv.out (.cells #[.int .i64 aE] 3))
    go_wp2_with (at_builtin;refine bL _ rfl _ _ 51 rfl w3.heap.size 3 xX _ 1 8 underlying51 xW x8 x9 x_ rfl (by decide) (.slice A6 i c6) i er0 rfl mG.out 0 _ 1 1 [encZ aE] 3 rfl rfl LE.out (by intro u hu;rw [List.mem_singleton] at hu;subst hu;rfl) (by unfold maxLen;omega) (by omega) (by simp;omega) ?_)
    intro v6 w6 hown6 aX fA
    obtain⟨A7,k7,rfl⟩:=aD hown6
    have LP6:Hid (w6.heap[w.heap.size]?=some (.cells #[.slice p.A p.ls.length p.c,.slice p.A2 p.ms.length p.c2] 26 (0,0))):=hid ((aX.block w.heap.size (lt_of_block LPE.out) (fun q=>by
     obtain⟨_,cs2,fr2,r⟩:=bM mG.out _ q.symm
     rw [LPE.out] at r
     injection r with r
     injection r with _ r _
     exact absurd r (by decide))).trans LPE.out)
    have RB6:Hid (w6.heap[w.heap.size+1]?=some (.cells #[.slice none 0 0,.slice none 0 0] 26 (0,0))):=hid ((aX.block (w.heap.size+1) (lt_of_block RBE.out) (fun q=>by
     obtain⟨_,cs2,fr2,r⟩:=bM mG.out _ q.symm
     rw [RBE.out] at r
     injection r with r
     injection r with _ r _
     exact absurd r (by decide))).trans RBE.out)
    have T6:Hid (aM w.heap.size [26,3] wc w6):=hid (((aM.refl w.heap.size [26,3] wc).alloc (by have:=ZZ.out;have:=Z3.out;omega) (.cells #[.int .i64 aE] 3)).trans (ed (B:=w.heap.size) (ts:=[26,3]) mG.out aX (by have:=Z3.out;omega) (by have:=ZZ.out;have:=Z3.out;simp;omega) (by simp)))
    have Q6:=hid (QV.out.bE T6.out (by decide) (by decide) (by decide))
    have Gc:=hid hown6
    clear hown6 aX fA zz
    go_wp2
    go_roundw
    case rel =>
     refine⟨i+1,A7,k7,p,rfl,by go_num,by omega,hid ⟨Q6.out,?_⟩,hid ?_,LP6,RB6,hid (TCv.out.trans T6.out)⟩
     ·rw [FN.out]
      exact HP.out.2
     ·rw [EN.out,List.map_append,HE.out]
      exact Gc.out
    case measure=>simp [intOf];omega
  ·obtain rfl:i=n:=by omega
   have hltz:¬ ((i:Int)<(i:Int)):=by omega
   have g0:=af RBR.out 0
   have g1:=af RBR.out 1
   obtain⟨k0,k1⟩:=aa LP.out
   obtain⟨m0,m1⟩:=aa RBR.out
   obtain⟨wz,hwz⟩:=nm ((wr.setCell ⟨w.heap.size+1,0,none⟩ (.slice p.A p.ls.length p.c)).setCell ⟨w.heap.size+1,1,none⟩ (.slice p.A2 p.ms.length p.c2))
   have YR:Ty wr (w.heap.size+1) 26:=⟨_,_,RBR.out⟩
   have TZ:Hid (aM w.heap.size [26] wr wz):=hid (by
    rw [← hwz]
    exact ((aM.refl _ _ wr).aB (p:=⟨w.heap.size+1,0,none⟩) YR (by simp) (Nat.le_succ _) _).aB (p:=⟨w.heap.size+1,1,none⟩) (YR.set _ _) (by simp) (Nat.le_succ _) _)
   have RBZ:Hid (wz.heap[w.heap.size+1]?=some (.cells #[.slice p.A p.ls.length p.c,.slice p.A2 p.ms.length p.c2] 26 (0,0))):=hid (by rw [← hwz];exact ah (ah RBR.out 0 _) 1 _)
   obtain⟨y0,y1⟩:=aa RBZ.out
   have TK:(cZ xs).take i=cZ xs:=by rw [show i=(cZ xs).length by rw [gI];exact HN.out];exact List.take_length
   rw [TK] at HP OW
   have ML:(cZ xs).length=i:=by rw [gI];exact HN.out.symm
   have HPz:=hid HP.out
   have OWz:=hid (bX OW.out TZ.out (by decide))
   have MLz:=hid ML
   clear TK ML YR HP OW
   go_wp2
   try rw [hwz]
   refine bodyPost_ret (v:=.tuple #[.agg #[.slice p.A p.ls.length p.c,.slice p.A2 p.ms.length p.c2],.slice A6 i c6]) (by simp [results,results22,go_sem,y0,y1]) rfl ?_
   refine⟨p,A6,c6,by rw [MLz.out];rfl,HPz.out.1.bE TZ.out (by decide) (by decide) (by decide),HPz.out.2,?_,BR.out.trans TZ.out.below⟩
   rw [MLz.out]
   exact l_ OWz.out B3.out.size
end
end
section
section
open Go.RowKit Go.Lib Go.Shelf
end
end
section
section
open Go.RowKit Go.Lib Go.Shelf
theorem lg {B:Nat} {a w:World} (h:Below B a w) (j:Nat):Below B a (w.drewN j):=⟨h.os,h.tape,h.output,h.size,h.block⟩
theorem Ha {xs:List It} (ko:∀ x∈xs,x.ok):∀ m∈cZ xs,m.ok:=fun m hm=>by
 obtain⟨x,hx,rfl⟩:=List.mem_map.1 hm
 exact ko x hx
structure jF (s:aQ):Prop where
 sh:s.st.short
 cs:(T9.canon s.st).short
 n1:s.ls.length≤1000
 n2:s.ms.length≤1000
 n3:∀ t∈s.ms,t.t.tags.length<20
 ok:s.st.ok
theorem jF.nC {s:aQ} (h:s.st.nC) (ho:s.st.ok):jF s :=
 ⟨h.short,(T9.z_ h).short,Nat.le_trans h.nl (by decide),by rw [← aK];exact Nat.le_trans h.nt (by decide),fun t ht=>Nat.lt_of_le_of_lt (h.few t.t (List.mem_map.2 ⟨t,ht,rfl⟩)) (by decide),ho⟩
theorem jF.sound {s:aQ} (h:T9.dX s.st):jF s:=by
 have d:=Ai h.1 h.2
 exact⟨h.short,by rw [h.canon];exact h.short,d.n1,by rw [← aK];exact d.n2,fun t ht=>Nat.lt_of_le_of_lt ((T9.cu ((T9.iV (T9.aF h.1).2.2.2).1 t.t (List.mem_map.2 ⟨t,ht,rfl⟩)).2.1).2.2.2.2.1) (by decide),h.2⟩
theorem Ht {s:aQ} {A:Option Addr} {n c:Nat} {xs:List It} {w:World} (hs:SM s w) (hf:jF s) (h:IL w A xs) (hn:n=xs.length) (hx:n≤1000000) (km:∀ x∈xs,x.m.ok∧x.m.text.length≤200) :
  Calls prog 22 #[s.val,.slice A n c] w (AllOk 3 (T9.bV s.st) (cZ xs) w):=Lp hs hf.cs hf.n1 hf.n2 (fun t ht=>Nat.le_trans (Nat.le_of_lt (hf.n3 t ht)) (by decide)) hf.ok h hn hx km
def zM:It:=⟨0,0,⟨1,1,0,[108],0,false⟩⟩
def m14:aQ:=⟨[],none,0,[],none,0⟩
theorem Fe:jF m14:=⟨⟨by simp [m14,aQ.st],by simp [m14,aQ.st,ay],by decide,by decide⟩,by
 rw [show T9.canon m14.st=⟨[],[]⟩ from by decide +kernel]
 exact⟨by simp,by simp,by decide,by decide⟩,by decide,by decide,by simp [m14],⟨by simp [m14,aQ.st],by simp [m14,aQ.st,ay]⟩⟩
theorem bdM14 (w:World):(Instr.build 57 #[(0,.int .i64 1),(1,.int .u64 1),(3,.string ⟨#[108]⟩)]).run prog w=.ok (.agg #[.int .i64 1,.int .u64 1,.int .u64 0,.string ⟨#[108]⟩,.float .f64 0,.bool false]) w:=run_build w 57 _ _ (by kernel_rfl)
theorem bdI14 (w:World):(Instr.build 59 #[(2,.agg #[.int .i64 1,.int .u64 1,.int .u64 0,.string ⟨#[108]⟩,.float .f64 0,.bool false])]).run prog w=.ok (.agg #[.int .u64 0,.int .u64 0,.int .i64 1,.int .u64 1,.int .u64 0,.string ⟨#[108]⟩,.float .f64 0,.bool false]) w:=run_build w 59 _ _ (by kernel_rfl)
theorem Tryz.infoI14:(prog.info? 59).map (fun i=>(i.zero,i.size,i.bytes))=some (some (.agg #[.int .u64 0,.int .u64 0,.int .i64 0,.int .u64 0,.int .u64 0,.string ⟨#[]⟩,.float .f64 0,.bool false]),8,72):=by kernel_rfl
end
end
section
section
open Go.RowKit Go.Lib Go.Shelf
theorem uz {s:aQ} {w:World} (hs:SM s w) (n1:s.ls.length≤1000) (n2:s.ms.length≤1000) (n3:∀ t∈s.ms,t.t.tags.length<20):Calls prog 64 #[s.val] w (sI (T9.canon s.st) w):=by
 refine (uy (c:=s.c) (c2:=s.c2) hs.l hs.k rfl rfl (by omega) (by omega) n3).mono ?_
 rintro e w' ⟨m,rfl,hm,hst,hb,⟨hl0,ht0,hk0⟩,_⟩
 refine⟨m,rfl,⟨hl0,?_,fun q hq=>⟨ht0 q hq,(hm.k.2 q hq).2⟩,hm.lc,hm.kc⟩,hst,hb⟩
 rcases hk0 with e0 | ⟨g,e1,e2⟩
 ·rw [e0];exact au.nil
 ·rw [e1];exact au.KJ e2
theorem Im {s:aQ} {w:World} (hs:SM s w) (hl2:(T9.canon s.st).short) (n1:s.ls.length≤1000) (n2:s.ms.length≤1000) (n3:∀ t∈s.ms,t.t.tags.length<20) :
  Calls prog 53 #[s.val] w (sI (T9.bV s.st) w):=by
 have hbl:=j_
 obtain⟨w0,hw0⟩:=nm (w.alloc (.cells #[.slice s.A s.ls.length s.c,.slice s.A2 s.ms.length s.c2] 26))
 obtain⟨lb,b1,z1⟩:=aj hw0
 obtain⟨w1,hw1⟩:=nm (w0.alloc (.cells #[.slice none 0 0,.slice none 0 0] 26))
 obtain⟨rb,b2,z2⟩:=aj hw1
 rw [z1] at rb
 have B1:Hid (Below w.heap.size w w1):=hid (b1.trans (b2.mono (by omega)))
 have LB:=hid (ae lb b2)
 have RB:=hid rb
 have S1:=hid (hs.stay B1.out)
 have Ga:=hid hl2
 have CC:=hid (uz S1.out n1 n2 n3)
 unfold aQ.val at CC
 obtain⟨cs,hcs⟩:=nm (T9.canon s.st)
 have BG:Hid (T9.bV s.st=if T9.aJ cs=0 then cs else ⟨[],[]⟩):=hid (by unfold T9.bV;rw [hcs])
 rw [hcs] at CC Ga
 obtain⟨l0,l1⟩:=aa LB.out
 unfold aQ.val
 clear lb b1 rb b2 z2 hs hl2 n1 n2 n3 hcs
 go_enter func53,ntmps53
 go_upto_region 2 with (go_at_call 64;refine CC.out.mono ?_;rintro e w2 ⟨q,rfl,hq1,hq,hb2⟩;have Q2:=hid hq1;have QS:=hid hq;unfold aQ.val;have AZ:=ae LB.out hb2;have LB2:=hid AZ;have zV:=hid (ae RB.out hb2);have HB2:=hid hb2;have f0:=af AZ 0;have f1:=af AZ 1;obtain⟨l0,l1⟩:=aa AZ;clear hb2 AZ hq hq1)
 obtain⟨w3,hw3⟩:=nm ((w2.setCell ⟨w.heap.size,0,none⟩ (.slice q.A q.ls.length q.c)).setCell ⟨w.heap.size,1,none⟩ (.slice q.A2 q.ms.length q.c2))
 try rw [hw3]
 have Y2:Ty w2 w.heap.size 26:=⟨_,_,LB2.out⟩
 have T3:Hid (aM w.heap.size [26] w2 w3):=hid (by
  rw [← hw3]
  exact ((aM.refl _ _ w2).aB (p:=⟨w.heap.size,0,none⟩) Y2 (by simp) (Nat.le_refl _) _).aB (p:=⟨w.heap.size,1,none⟩) (Y2.set _ _) (by simp) (Nat.le_refl _) _)
 have LB3:Hid (w3.heap[w.heap.size]?=some (.cells #[.slice q.A q.ls.length q.c,.slice q.A2 q.ms.length q.c2] 26 (0,0))):=hid (by rw [← hw3];exact ah (ah LB2.out 0 _) 1 _)
 have xh:Hid (w3.heap[w.heap.size+1]?=some (.cells #[.slice none 0 0,.slice none 0 0] 26 (0,0))):=hid (by rw [← hw3];exact az (az zV.out (by simp) _) (by simp) _)
 have B3:Hid (Below w.heap.size w w3):=hid ((B1.out.trans (HB2.out.mono B1.out.size)).trans T3.out.below)
 have Q3:=hid (Q2.out.bE T3.out (by decide) (by decide) (by decide))
 clear hw3 f0 f1 l0 l1 Y2
 obtain⟨l0,l1⟩:=aa LB3.out
 have CR:=hid (FJ (c:=q.c) (c2:=q.c2) Q3.out.sm.l Q3.out.sm.k rfl rfl (show q.st.short by rw [QS.out];exact Ga.out) ⟨Q3.out.lc,Q3.out.kc⟩)
 rw [show (⟨q.ls,ay q.ms⟩:T9.St)=cs from QS.out] at CR
 obtain⟨R,hR⟩:=nm (T9.aJ cs)
 rw [hR] at CR BG
 have CRH:=hid CR.out
 clear hR CR
 by_cases hr:R=0
 ·subst hr
  have wT:((0:Int) != 0)=false:=by decide
  rw [if_pos rfl] at BG
  go_upto_region 4 with (go_at_call 72;refine CRH.out.mono ?_;rintro e w4 ⟨rfl,hb4⟩;have EO:=hid hb4;obtain⟨l0,l1⟩:=aa (ae LB3.out hb4);have vK:=ae xh.out hb4;have EU:=hid vK;have f0:=af vK 0;have f1:=af vK 1;obtain⟨r0,r1⟩:=aa vK;clear hb4 vK)
  obtain⟨w5,fV⟩:=nm ((w4.setCell ⟨w.heap.size+1,0,none⟩ (.slice q.A q.ls.length q.c)).setCell ⟨w.heap.size+1,1,none⟩ (.slice q.A2 q.ms.length q.c2))
  have Y4:Ty w4 (w.heap.size+1) 26:=⟨_,_,EU.out⟩
  have T5:Hid (aM w.heap.size [26] w4 w5):=hid (by
   rw [← fV]
   exact ((aM.refl _ _ w4).aB (p:=⟨w.heap.size+1,0,none⟩) Y4 (by simp) (Nat.le_succ _) _).aB (p:=⟨w.heap.size+1,1,none⟩) (Y4.set _ _) (by simp) (Nat.le_succ _) _)
  have EW:w5.heap[w.heap.size+1]?=some (.cells #[.slice q.A q.ls.length q.c,.slice q.A2 q.ms.length q.c2] 26 (0,0)):=by rw [← fV];exact ah (ah EU.out 0 _) 1 _
  have B5:Hid (Below w.heap.size w w5):=hid ((B3.out.trans (EO.out.mono B3.out.size)).trans T5.out.below)
  have Q5:=hid ((Q3.out.stay EO.out).bE T5.out (by decide) (by decide) (by decide))
  obtain⟨k0,k1⟩:=aa EW
  clear EW Y4
  go_wp2
  try rw [fV]
  refine bodyPost_ret (v:=.agg #[.slice q.A q.ls.length q.c,.slice q.A2 q.ms.length q.c2]) (by simp [results,results53,go_sem,k0,k1]) rfl ?_
  exact⟨q,rfl,Q5.out,by rw [BG.out,QS.out],B5.out⟩
 ·have wT:(R != 0)=true:=by simp [hr]
  rw [if_neg hr] at BG
  clear hr
  go_upto_region 3 with (go_at_call 72;refine CRH.out.mono ?_;rintro e w4 ⟨rfl,hb4⟩;have EO:=hid hb4;obtain⟨l0,l1⟩:=aa (ae LB3.out hb4);have vK:=ae xh.out hb4;have EU:=hid vK;have f0:=af vK 0;have f1:=af vK 1;obtain⟨r0,r1⟩:=aa vK;clear hb4 vK)
  obtain⟨w5,fV⟩:=nm ((w4.setCell ⟨w.heap.size+1,0,none⟩ (.slice none 0 0)).setCell ⟨w.heap.size+1,1,none⟩ (.slice none 0 0))
  have Y4:Ty w4 (w.heap.size+1) 26:=⟨_,_,EU.out⟩
  have T5:Hid (aM w.heap.size [26] w4 w5):=hid (by
   rw [← fV]
   exact ((aM.refl _ _ w4).aB (p:=⟨w.heap.size+1,0,none⟩) Y4 (by simp) (Nat.le_succ _) _).aB (p:=⟨w.heap.size+1,1,none⟩) (Y4.set _ _) (by simp) (Nat.le_succ _) _)
  have EW:w5.heap[w.heap.size+1]?=some (.cells #[.slice none 0 0,.slice none 0 0] 26 (0,0)):=by rw [← fV];exact ah (ah EU.out 0 _) 1 _
  have B5:Hid (Below w.heap.size w w5):=hid ((B3.out.trans (EO.out.mono B3.out.size)).trans T5.out.below)
  obtain⟨k0,k1⟩:=aa EW
  clear EW Y4
  go_wp2
  try rw [fV]
  refine bodyPost_ret (v:=.agg #[.slice none 0 0,.slice none 0 0]) (by simp [results,results53,go_sem,k0,k1]) rfl ?_
  exact⟨⟨[],none,0,[],none,0⟩,rfl,kR.qN,by rw [BG.out];rfl,B5.out⟩
theorem Dx {s:aQ} {w:World} (hs:SM s w) (hd:T9.dX s.st):Calls prog 48 #[s.val] w (sI s.st w):=by
 obtain⟨w0,hw0⟩:=nm (w.alloc (.cells #[.slice s.A s.ls.length s.c,.slice s.A2 s.ms.length s.c2] 26))
 obtain⟨lb,b1,z1⟩:=aj hw0
 obtain⟨w1,hw1⟩:=nm (w0.alloc (.cells #[.slice none 0 0,.slice none 0 0] 26))
 obtain⟨rb,b2,z2⟩:=aj hw1
 rw [z1] at rb
 have B1:Hid (Below w.heap.size w w1):=hid (b1.trans (b2.mono (by omega)))
 have LB:=hid (ae lb b2)
 have RB:=hid rb
 have d:=jF.sound hd
 have CC:=hid (uz (hs.stay B1.out) d.n1 d.n2 d.n3)
 rw [hd.canon] at CC
 unfold aQ.val at CC ⊢
 obtain⟨l0,l1⟩:=aa LB.out
 clear lb b1 rb b2 z2 hs hd d
 go_enter func48,ntmps48
 go_upto_region 2 with (go_at_call 64;refine CC.out.mono ?_;rintro e w2 ⟨q,rfl,hq1,hq,hb2⟩;have Q2:=hid hq1;have QS:=hid hq;unfold aQ.val;have wM:=ae RB.out hb2;have zV:=hid wM;have HB2:=hid hb2;have f0:=af wM 0;have f1:=af wM 1;obtain⟨r0,r1⟩:=aa wM;clear hb2 wM hq hq1)
 obtain⟨w3,hw3⟩:=nm ((w2.setCell ⟨w.heap.size+1,0,none⟩ (.slice q.A q.ls.length q.c)).setCell ⟨w.heap.size+1,1,none⟩ (.slice q.A2 q.ms.length q.c2))
 have Y2:Ty w2 (w.heap.size+1) 26:=⟨_,_,zV.out⟩
 have T3:Hid (aM w.heap.size [26] w2 w3):=hid (by
  rw [← hw3]
  exact ((aM.refl _ _ w2).aB (p:=⟨w.heap.size+1,0,none⟩) Y2 (by simp) (Nat.le_succ _) _).aB (p:=⟨w.heap.size+1,1,none⟩) (Y2.set _ _) (by simp) (Nat.le_succ _) _)
 have xh:w3.heap[w.heap.size+1]?=some (.cells #[.slice q.A q.ls.length q.c,.slice q.A2 q.ms.length q.c2] 26 (0,0)):=by rw [← hw3];exact ah (ah zV.out 0 _) 1 _
 have B3:Hid (Below w.heap.size w w3):=hid ((B1.out.trans (HB2.out.mono B1.out.size)).trans T3.out.below)
 have Q3:=hid (Q2.out.bE T3.out (by decide) (by decide) (by decide))
 obtain⟨k0,k1⟩:=aa xh
 clear xh Y2
 try go_wp2
 try rw [hw3]
 refine bodyPost_ret (v:=.agg #[.slice q.A q.ls.length q.c,.slice q.A2 q.ms.length q.c2]) (by simp [results,results48,go_sem,k0,k1]) rfl ?_
 exact⟨q,rfl,Q3.out,QS.out,B3.out⟩
def StpOk (s:aQ) (A:Option Addr) (n c:Nat) (w:World) (e:Ending) (w':World):Prop:=e=.returned (.func (.func 62) #[] #[.pointer (some ⟨w.heap.size,0,none⟩),.pointer (some ⟨w.heap.size+1,0,none⟩)])∧w'.heap[w.heap.size]?=some (.cells #[.slice s.A s.ls.length s.c,.slice s.A2 s.ms.length s.c2] 26 (0,0))∧w'.heap[w.heap.size+1]?=some (.cells #[.slice A n c] 27 (0,0))∧Below w.heap.size w w'∧w'.heap.size=w.heap.size+2
theorem Io {s:aQ} {A:Option Addr} {n c:Nat} {w:World}:Calls prog 47 #[s.val,.slice A n c] w (StpOk s A n c w):=by
 obtain⟨w0,hw0⟩:=nm (w.alloc (.cells #[.slice s.A s.ls.length s.c,.slice s.A2 s.ms.length s.c2] 26))
 obtain⟨lb,b1,z1⟩:=aj hw0
 have hmf:∀ (fn:Fn) (first cap:Array Value) (w:World),(Instr.makeFunc fn first cap).run prog w=.ok (.func fn first cap) w:=fun _ _ _ _=>rfl
 unfold aQ.val
 go_enter func47,ntmps47
 go_wp2
 go_ret
 refine⟨rfl,?_,?_,?_,?_⟩
 ·exact bu lb _
 ·rw [← z1]
  exact heap_alloc_new w0 _
 ·exact b1.trans ((Below.refl _ w0).alloc b1.size _)
 ·rw [World.size_alloc,z1]
end
end
section
section
open Go.RowKit Go.Lib Go.Shelf
attribute [local go_sem] Oper.semAt_some
def uJ (x:Int × aQ):Array Value:=#[.int .i64 x.1,x.2.val]
structure St14 (B:Nat) (A A':World):Prop where
 t:aM B [26] A A'
 o:∀ k,k<A.heap.size→k≠B→A'.heap[k]?=A.heap[k]?
def CU (n0:Nat) (ts:List TypeId) (B:Nat) (A A':World):Prop:=aM n0 ts A A'∧A'.heap[B]?=A.heap[B]?
def EY (s:T9.St) (ms:List T9.Mu) (pre:List (Int × aQ)):Prop:=pre.length≤ms.length∧pre.map (·.1)=T9.fK s (ms.take pre.length)∧∀ i x,pre[i]?=some x→x.2.st=T9.bZ s (ms.take (i+1))
def SE14 (s:T9.St) (ms:List T9.Mu) (pre:List (Int × aQ)):Prop:=EY s ms pre∧pre.length=ms.length
theorem EY.nil {s:T9.St} {ms:List T9.Mu}:EY s ms []:=⟨Nat.zero_le _,rfl,by simp⟩
theorem EY.nxt {s:T9.St} {ms:List T9.Mu} {pre:List (Int × aQ)} {x:Int × aQ} (h:EY s ms pre) (hl:pre.length<ms.length) (h1:T9.fK s (ms.take (pre.length+1))=T9.fK s (ms.take pre.length)++[x.1]) (h2:x.2.st=T9.bZ s (ms.take (pre.length+1))):EY s ms (pre++[x]):=by
 refine⟨by rw [List.length_append];exact hl,?_,fun i y hy=>?_⟩
 ·rw [List.map_append,List.length_append,List.length_singleton,h1,h.2.1]
  rfl
 ·rcases Nat.lt_trichotomy i pre.length with q | q | q
  ·rw [List.getElem?_append_left q] at hy
   exact h.2.2 i y hy
  ·subst q
   rw [List.getElem?_append_right (Nat.le_refl _),Nat.sub_self] at hy
   injection hy with hy
   subst hy
   exact h2
  ·rw [List.getElem?_eq_none (by rw [List.length_append,List.length_singleton];omega)] at hy
   cases hy
theorem EY.last {s:T9.St} {ms:List T9.Mu} {pre:List (Int × aQ)} {x:Int × aQ} (h:EY s ms (pre++[x])):T9.fK s (ms.take (pre.length+1))=T9.fK s (ms.take pre.length)++[x.1]∧x.2.st=T9.bZ s (ms.take (pre.length+1)):=by
 refine⟨?_,h.2.2 pre.length x (by rw [List.getElem?_append_right (Nat.le_refl _),Nat.sub_self];rfl)⟩
 have q:=h.2.1
 have hl:=h.1
 rw [List.length_append,List.length_singleton] at q hl
 obtain⟨m,hm⟩:∃ m,ms[pre.length]?=some m:=⟨_,List.getElem?_eq_getElem hl⟩
 rw [List.map_append,T9.lV hm] at q
 have:=List.append_inj_right' q rfl
 rw [T9.lV hm,← this]
 rfl
theorem Ip {m Bs Bl n0:Nat} {ts:List TypeId} {tI:TypeId} {s:aQ} {A:Option Addr} {n c:Nat} {xs:List It} {w:World} {f1 f2:Nat × Nat}
  (hs:w.heap[Bs]?=some (.cells #[.slice s.A s.ls.length s.c,.slice s.A2 s.ms.length s.c2] 26 f1)) (hl:w.heap[Bl]?=some (.cells #[.slice A n c] 27 f2))
  (hS:kR s w) (hd:T9.dX s.st) (hI:au w n0 tI A (ax xs)) (hn:n=xs.length) (hx:n≤1000000) (km:∀ x∈xs,x.m.ok∧x.m.text.length≤200) (h0B:n0≤w.heap.size)
  (t1:61 ∉ ts) (t2:64 ∉ ts) (t3:9 ∉ ts) (t4:tI ∉ ts) (t5:tI ∉ [26]) :
  EX m prog 62 #[.pointer (some ⟨Bs,0,none⟩),.pointer (some ⟨Bl,0,none⟩)] uJ St14 (CU n0 ts) (fun _ _ _=>True) (fun B x W=>kR x.2 W∧Ty W B 26) (SE14 s.st (cZ xs)) (EY s.st (cZ xs)) n w:=by
 intro l J Jx hJ hJx hY h0
 obtain⟨s0,s1⟩:=aa hs
 have i0:=lT hl
 obtain⟨w1,hw1⟩:=nm (w.alloc (.cells #[.slice s.A s.ls.length s.c,.slice s.A2 s.ms.length s.c2] 26))
 obtain⟨nb1,b1,z1⟩:=aj hw1
 have i1:=lT (ae hl b1)
 have HJ:=hid hJ
 have HY:=hid hY
 have D:=hid hd
 have HN:=hid hn
 have KM:=hid km
 have H0B:=hid h0B
 have J1:=hid (hJ [] w w1 h0 ⟨aM.of_below b1 (Nat.le_refl _) _,fun k hk _=>b1.block k hk⟩)
 have S1:=hid (hS.stay b1)
 have NB1:=hid nb1
 have I1:=hid (hI.below h0B b1)
 have HX:=hid hx
 have T:=hid (And.intro t1 (And.intro t2 (And.intro t3 t4)))
 have T5:=hid t5
 clear hs hl hS hd hI hn km h0B t1 t2 t3 t4 t5 hJ hJx hY h0 nb1 b1
 refine callsIn_of_wp func62 rfl trivial ?_ rfl
 simp only [ntmps62,List.size_toArray,List.length_cons,List.length_nil,Nat.reduceAdd,Nat.reduceSub,Array.replicate_succ,Array.replicate_zero,List.push_toArray,List.append_toArray,List.nil_append,List.cons_append]
 gi_wp2
 gi_loopw [12] (fun p wr=>∃ (i:Nat) (pre:List (Int × aQ)) (q:aQ),p=.int .i64 i∧i≤n∧Hid (i=pre.length)∧Hid (EY s.st (cZ xs) pre)∧Hid (J pre wr)∧Hid (wr.heap[w.heap.size]?=some (.cells #[.slice q.A q.ls.length q.c,.slice q.A2 q.ms.length q.c2] 26 (0,0)))∧Hid (kR q wr∧q.st=T9.bZ s.st ((cZ xs).take i))∧Hid (au wr n0 tI A (ax xs))∧Hid (w.heap.size+1≤wr.heap.size))
  (fun p _=>n - (intOf p).toNat)
 case atStart=>exact⟨0,[],s,rfl,Nat.zero_le _,hid rfl,hid EY.nil,J1,NB1,hid ⟨S1.out,rfl⟩,I1,hid (by omega)⟩
 case round =>
  obtain⟨i,pre,q,rfl,hi,HIP,SP,JR,NB,QR,IR,ZR⟩:=hrel
  by_cases hlt:i<n
  ·have hltz:(i:Int)<(n:Int):=by omega
   have hwn:IntKind.i64.wrap ((i:Int)+1)=(i:Int)+1:=by rw [IntKind.wrap_i64];omega
   obtain⟨ad,x,hA,hx1,r0,r1,r2,r3,r4,r5,r6,r7⟩:=(show IL wr A xs from IR.out.old).at_ (k:=i) (by rw [← HN.out];exact hlt)
   have hm:=KM.out x (List.mem_of_getElem? hx1)
   obtain⟨xw,xi,⟨mk,mi,ml,mt,mf,mg⟩⟩:=x
   dsimp only at r0 r1 r2 r3 r4 r5 r6 r7 hm
   subst hA
   have FN:=hid (T9.uN (s:=s.st) (tZ hx1))
   have EN:=hid (T9.lV (s:=s.st) (tZ hx1))
   obtain⟨wa,dB⟩:=nm (wr.alloc (.cells #[.int .u64 (xw:Int),.int .u64 (xi:Int),.int .i64 mk,.int .u64 (mi:Int),.int .u64 (ml:Int),.string (str mt),.float .f64 mf,.bool mg] 59))
   obtain⟨lb,ba,_⟩:=kg dB
   obtain⟨l0,l1,l2,l3,l4,l5,l6,l7⟩:=iQ lb
   obtain⟨k0,k1⟩:=aa (ae NB.out ba)
   have BA:=hid ba
   have PS:Hid (T9.dX q.st):=hid (by rw [QR.out.2];exact T9.jd D.out (fun m hm=>by obtain⟨x,hx,rfl⟩:=List.mem_map.1 (List.mem_of_mem_take hm);exact (KM.out x hx).1))
   have AC:=hid (Be (m:=⟨mk,mi,ml,mt,mf,mg⟩) (QR.out.1.stay ba).sm PS.out.short PS.out.2 hm.2)
   unfold yh T9.Mu.val aQ.val at AC
   rw [QR.out.2] at AC
   dsimp only at FN EN
   obtain⟨ap,hap⟩:=nm (T9.bA (T9.bZ s.st ((cZ xs).take i)) ⟨mk,mi,ml,mt,mf,mg⟩)
   obtain⟨aS,aE⟩:=ap
   rw [hap] at AC EN
   unfold T9.pR at FN
   rw [hap] at FN
   dsimp only at AC EN FN
   clear hx1 hm lb ba hap
   gi_wp2_with fail
   refine⟨trivial,(fun h=>by cases h),?_⟩
   refine (callsIn_wide.2 AC.out).mono ?_
   rintro e wb ⟨q2,er,rfl,hq2,hb,r9,her⟩
   subst er
   obtain⟨wc,hwc⟩:=nm (wb.alloc (.cells #[.slice q2.A q2.ls.length q2.c,.slice q2.A2 q2.ms.length q2.c2] 26))
   obtain⟨nb,bc,zc⟩:=aj hwc
   have BC:Hid (Below wr.heap.size wr wc):=hid (BA.out.trans ((hb.trans (bc.mono hb.size)).mono BA.out.size))
   have XB:=hid nb
   have QC:=hid (hq2.stay bc)
   have QS2:=hid r9
   have NBc:=hid (ae NB.out BC.out)
   have PC:=hid (QR.out.1.stay BC.out)
   have JC:=hid (HJ.out pre wr wc JR.out ⟨aM.of_below BC.out (by have:=ZR.out;omega) _,fun k hk _=>BC.out.block k hk⟩)
   have IC:=hid (IR.out.below (by have:=H0B.out;have:=ZR.out;omega) BC.out)
   have ZC:Hid (w.heap.size+1≤wc.heap.size):=hid (Nat.le_trans ZR.out BC.out.size)
   have LPn:Hid (pre.length<n):=hid (by rw [← HIP.out];exact hlt)
   have LPm:Hid (pre.length<(cZ xs).length):=hid (by rw [gI,← HN.out,← HIP.out];exact hlt)
   clear nb bc zc hb hq2 r9 l0 l1 l2 l3 l4 l5 l6 l7 k0 k1 r0 r1 r2 r3 r4 r5 r6 r7
   have g0:=af NBc.out 0
   have g1:=af NBc.out 1
   obtain⟨k0,k1⟩:=aa NBc.out
   obtain⟨n0c,n1c⟩:=aa XB.out
   by_cases he:aE=0
   ·subst he
    have wT:((0:Int)==0)=true:=by decide
    rw [if_pos rfl] at FN
    obtain⟨wd,hwd⟩:=nm ((wc.setCell ⟨w.heap.size,0,none⟩ (.slice q2.A q2.ls.length q2.c)).setCell ⟨w.heap.size,1,none⟩ (.slice q2.A2 q2.ms.length q2.c2))
    have YC:Ty wc w.heap.size 26:=⟨_,_,NBc.out⟩
    have TD:Hid (aM w.heap.size [26] wc wd):=hid (by
     rw [← hwd]
     exact ((aM.refl _ _ wc).aB (p:=⟨w.heap.size,0,none⟩) YC (by simp) (Nat.le_refl _) _).aB (p:=⟨w.heap.size,1,none⟩) (YC.set _ _) (by simp) (Nat.le_refl _) _)
    have OD:Hid (∀ k,k<wc.heap.size→k≠w.heap.size→wd.heap[k]?=wc.heap[k]?):=hid (fun k _ hk=>by rw [← hwd];exact (Below.heap_setCell _ _ _ k hk).trans (Below.heap_setCell _ _ _ k hk))
    have NBd:Hid (wd.heap[w.heap.size]?=some (.cells #[.slice q2.A q2.ls.length q2.c,.slice q2.A2 q2.ms.length q2.c2] 26 (0,0))):=hid (by rw [← hwd];exact ah (ah NBc.out 0 _) 1 _)
    have QD:=hid (QC.out.bE TD.out (by decide) (by decide) (by decide))
    have JD:=hid (HJ.out pre wc wd JC.out ⟨TD.out,OD.out⟩)
    have ID:=hid (IC.out.bE (TD.out.mono H0B.out) T5.out)
    have ZD:Hid (w.heap.size+1≤wd.heap.size):=hid (Nat.le_trans ZC.out TD.out.size)
    have SPn:Hid (EY s.st (cZ xs) (pre++[((0:Int),q2)])):=hid (SP.out.nxt LPm.out (by rw [← HIP.out];exact EN.out) (by rw [← HIP.out,QS2.out];exact FN.out.symm))
    obtain⟨d0,d1⟩:=aa NBd.out
    obtain⟨fn,tmps,assign,body,hy,hR⟩:=HY.out pre (0,q2) wd JD.out LPn.out SPn.out ⟨QD.out,_,_,NBd.out⟩ (by have:=ZD.out;omega)
    unfold uJ aQ.val at hy
    dsimp only at hy
    clear YC
    gi_wp2
    refine⟨(fun h=>by cases h),?_⟩
    refine hR.mono ?_
    rintro e0 w6 (⟨rfl,hJ6,hK6⟩ | ⟨rfl,JV,_⟩)
    ·have J6:=hid hJ6
     have K6:=hid hK6
     clear hJ6 hK6 hR hy
     gi_wp2
     go_roundw
     case rel =>
      refine⟨i+1,pre++[(0,q2)],q2,by go_num,by omega,hid (by rw [List.length_append,← HIP.out];rfl),SPn,J6,hid (K6.out.2.trans NBd.out),hid ⟨QD.out.bE K6.out.1 T.out.1 T.out.2.1 T.out.2.2.1,?_⟩,hid (ID.out.bE K6.out.1 T.out.2.2.2),hid (Nat.le_trans ZD.out K6.out.1.size)⟩
      rw [QS2.out,FN.out]
     case measure=>simp [intOf];omega
    ·have J6:=hid JV
     clear JV hR hy
     gi_wp2
     refine bodyPost_ret (results_none rfl _ _ _) rfl ?_
     exact⟨⟨_,rfl⟩,.inr ⟨pre++[(0,q2)],SPn.out,J6.out⟩⟩
   ·have wT:(aE==0)=false:=by simp [he]
    rw [if_neg he] at FN
    clear he
    have SPn:Hid (EY s.st (cZ xs) (pre++[(aE,q)])):=hid (SP.out.nxt LPm.out (by rw [← HIP.out];exact EN.out) (by rw [← HIP.out,QR.out.2];exact FN.out.symm))
    obtain⟨fn,tmps,assign,body,hy,hR⟩:=HY.out pre (aE,q) wc JC.out LPn.out SPn.out ⟨PC.out,_,_,NBc.out⟩ (by have:=ZC.out;omega)
    unfold uJ aQ.val at hy
    dsimp only at hy
    gi_wp2
    refine⟨(fun h=>by cases h),?_⟩
    refine hR.mono ?_
    rintro e0 w6 (⟨rfl,hJ6,hK6⟩ | ⟨rfl,JV,_⟩)
    ·have J6:=hid hJ6
     have K6:=hid hK6
     clear hJ6 hK6 hR hy
     gi_wp2
     go_roundw
     case rel =>
      refine⟨i+1,pre++[(aE,q)],q,by go_num,by omega,hid (by rw [List.length_append,← HIP.out];rfl),SPn,J6,hid (K6.out.2.trans NBc.out),hid ⟨PC.out.bE K6.out.1 T.out.1 T.out.2.1 T.out.2.2.1,?_⟩,hid (IC.out.bE K6.out.1 T.out.2.2.2),hid (Nat.le_trans ZC.out K6.out.1.size)⟩
      rw [QR.out.2,FN.out]
     case measure=>simp [intOf];omega
    ·have J6:=hid JV
     clear JV hR hy
     gi_wp2
     refine bodyPost_ret (results_none rfl _ _ _) rfl ?_
     exact⟨⟨_,rfl⟩,.inr ⟨pre++[(aE,q)],SPn.out,J6.out⟩⟩
  ·obtain rfl:i=n:=by omega
   have hltz:¬ ((i:Int)<(i:Int)):=by omega
   gi_wp2
   go_end0
   exact⟨⟨_,rfl⟩,.inl ⟨pre,⟨SP.out,by rw [gI,← HN.out,HIP.out]⟩,JR.out⟩⟩
end
end
section
section
open Go.RowKit Go.Lib Go.Shelf
attribute [local go_sem] Oper.semAt_some
theorem Tryz.infoE14:(prog.info? 92).map (fun i=>(i.zero,i.size,i.bytes))=some (some (.int .i64 0),1,8):=by kernel_rfl
theorem G_ (k:Nat) (hk:k≤1000000):∃ Z:Array Value,Z.size=k∧∀ w:World,(Instr.makeSlice 74 (.int .i64 0) (.int .i64 (k:Int))).run prog w=.ok (.slice (some ⟨w.heap.size,0,none⟩) 0 k) (w.alloc (.cells Z 92)):=by
 obtain⟨ti,hi,iz0,iz1,iz2⟩:=info_parts Tryz.infoE14
 refine⟨madeCells (Value.int .i64 0).cells k,?_,fun w=>?_⟩
 ·have e:=congrArg List.length (toList_madeCells_one (.int .i64 0) k)
  rw [Array.length_toList,List.length_replicate] at e
  exact e
 ·have q:=run_make (P:=prog) w 74 92 ti _ underlying74 hi iz0 .i64 .i64 0 k (by omega) (by omega) (by rw [iz2];omega) (by omega)
  rw [q,Int.toNat_natCast,iz1,Nat.mul_one]
  rfl
structure EB14 (w:World) (eb:Nat) (es:List Int) (W:World):Prop where
 row:∃ A c,W.heap[eb]?=some (.cells #[.slice A es.length c] 74 (0,0))∧W.ownsRow w.heap.size 92 1 (.slice A es.length c) es.length (es.map encZ)
theorem EB14.bE {w W W':World} {eb B:Nat} {es:List Int} {ts:List TypeId} (h:EB14 w eb es W) (hT:aM B ts W W') (h1:74 ∉ ts) (h2:92 ∉ ts):EB14 w eb es W':=by
 obtain⟨A,c,hb,hr⟩:=h.row
 exact⟨A,c,hT.blk hb h1,bX hr hT h2⟩
theorem Kn {n0 B l:Nat} {ts:List TypeId} {A:World} {r:Loop} (o:Obj) (h:A.heap[l]?=some (.loop r)) (h1:n0≤l) (h2:l≠B):CU n0 ts B A (A.putObj l o):=⟨((xV o h h1).more (by simp)),World.putObj_heap_other (by omega)⟩
theorem CU.trans {n0 B:Nat} {ts:List TypeId} {A A' A'':World} (h:CU n0 ts B A A') (k:CU n0 ts B A' A''):CU n0 ts B A A'':=⟨h.1.trans k.1,k.2.trans h.2⟩
end
end
section
section
open Go.RowKit Go.Lib Go.Shelf
def p8 (T:TypeId) (k n:Nat) (cs:List Value) (w:World) (e:Ending) (w':World):Prop:=∃ A2 c2,e=.returned (.slice A2 n c2)∧w'.ownsRow w.heap.size T k (.slice A2 n c2) n cs∧Below w.heap.size w w'
def pI (q:aQ):List Value:=[.slice q.A q.ls.length q.c,.slice q.A2 q.ms.length q.c2]
def eF (qs:List aQ):List Value:=qs.flatMap pI
theorem kL (qs:List aQ):(eF qs).length=qs.length * 2:=jb fun x _=>(rfl:(pI x).length=2)
theorem vZ (qs:List aQ):∀ v∈eF qs,v.oneCell'=true:=fun v hv=>by
 obtain⟨l,_,h⟩:=List.mem_flatMap.1 hv
 simp only [pI,List.mem_cons,List.not_mem_nil,or_false] at h
 rcases h with rfl | rfl <;> rfl
theorem vY (xs ys:List aQ):eF (xs++ys)=eF xs++eF ys:=by simp [eF]
theorem Tryz.infoS14:(prog.info? 26).map (fun i=>(i.zero,i.size,i.bytes))=some (some (.agg #[.slice none 0 0,.slice none 0 0]),2,48):=by kernel_rfl
theorem uE {A:Option Addr} {n c B:Nat} {t:TypeId} {xs:List It} {w:World} (h:au w B t A (ax xs)) (hB:B≤w.heap.size) (hn:n=xs.length) (hs:n≤1000000):Calls prog 31 #[.slice A n c] w (p8 59 8 n (ax xs) w):=by
 obtain⟨i0,hi,hz0,hz1,hz2⟩:=info_parts Tryz.infoI14
 have q:=fun (w:World) a n c n' c'=>Lib.run_eql_slice_nil (P:=prog) w 27 59 a n c n' c' underlying27
 have HL:=hid h
 have HN:=hid hn
 clear h hn
 rcases A with _ | ad
 ·have h0:n=0:=by
   rcases Nat.eq_zero_or_pos n with q | q
   ·exact q
   ·obtain⟨ad,e,_⟩:=HL.out.at_ (k:=0) (by rw [dw,← HN.out];omega)
    cases e
  subst h0
  have e:xs=[]:=List.length_eq_zero_iff.1 HN.out.symm
  subst e
  go_enter func31,ntmps31
  go_wp2
  go_ret
  exact⟨_,0,rfl,World.ownsRow_nil _ _ _ _,Below.refl _ _⟩
 ·have ho:(w.alloc (.cells #[] 59)).ownsRow w.heap.size 59 8 (.slice (some ⟨w.heap.size,0,none⟩) 0 0) 0 []:=World.ownsRow_made w #[] 0 (Nat.le_refl _) (by unfold maxLen;omega) rfl
  have HO:=hid ho
  clear ho
  go_enter func31,ntmps31
  go_wp2_with (at_builtin;refine bL _ rfl _ _ 27 rfl w.heap.size 59 i0 _ 8 72 underlying27 hi hz0 hz1 hz2 rfl (by decide) _ 0 [] rfl HO.out B _ n c (ax xs) t rfl (by rw [dw,HN.out]) (HL.out.below hB ((Below.refl _ _).alloc (Nat.le_refl _) _)) (nu _) (by unfold maxLen;omega) (by omega) (by simp) ?_)
  intro v' w1 hown' hgrow _
  obtain⟨A2,k2,rfl⟩:=aD hown'
  have T1:=rG HO.out hgrow
  have ho2:w1.ownsRow w.heap.size 59 8 (.slice A2 n k2) n (ax xs):=by simpa using hown'
  have HO2:=hid ho2
  have HT:=hid T1
  clear hown' ho2 T1 hgrow
  go_wp2
  go_ret
  exact⟨A2,k2,by simp,HO2.out,HT.out⟩
theorem Dv {A:Option Addr} {n c B:Nat} {t:TypeId} {xs:List aQ} {w:World} (h:au w B t A (eF xs)) (hB:B≤w.heap.size) (hn:n=xs.length) (hs:n≤1000000):Calls prog 45 #[.slice A n c] w (p8 26 2 n (eF xs) w):=by
 obtain⟨i0,hi,hz0,hz1,hz2⟩:=info_parts Tryz.infoS14
 have q:=fun (w:World) a n c n' c'=>Lib.run_eql_slice_nil (P:=prog) w 85 26 a n c n' c' underlying85
 have HL:=hid h
 have HN:=hid hn
 clear h hn
 rcases A with _ | ad
 ·have h0:n=0:=by
   rcases Nat.eq_zero_or_pos n with q | q
   ·exact q
   ·obtain⟨ad,e,_⟩:=HL.out.at_ (k:=0) (by rw [kL,← HN.out];omega)
    cases e
  subst h0
  have e:xs=[]:=List.length_eq_zero_iff.1 HN.out.symm
  subst e
  go_enter func45,ntmps45
  go_wp2
  go_ret
  exact⟨_,0,rfl,World.ownsRow_nil _ _ _ _,Below.refl _ _⟩
 ·have ho:(w.alloc (.cells #[] 26)).ownsRow w.heap.size 26 2 (.slice (some ⟨w.heap.size,0,none⟩) 0 0) 0 []:=World.ownsRow_made w #[] 0 (Nat.le_refl _) (by unfold maxLen;omega) rfl
  have HO:=hid ho
  clear ho
  go_enter func45,ntmps45
  go_wp2_with (at_builtin;refine bL _ rfl _ _ 85 rfl w.heap.size 26 i0 _ 2 48 underlying85 hi hz0 hz1 hz2 rfl (by decide) _ 0 [] rfl HO.out B _ n c (eF xs) t rfl (by rw [kL,HN.out]) (HL.out.below hB ((Below.refl _ _).alloc (Nat.le_refl _) _)) (vZ _) (by unfold maxLen;omega) (by omega) (by simp) ?_)
  intro v' w1 hown' hgrow _
  obtain⟨A2,k2,rfl⟩:=aD hown'
  have T1:=rG HO.out hgrow
  have ho2:w1.ownsRow w.heap.size 26 2 (.slice A2 n k2) n (eF xs):=by simpa using hown'
  have HO2:=hid ho2
  have HT:=hid T1
  clear hown' ho2 T1 hgrow
  go_wp2
  go_ret
  exact⟨A2,k2,by simp,HO2.out,HT.out⟩
end
end
section
section
open Go.RowKit Go.Lib Go.Shelf
structure oD (base lp fst:Nat) (A:Option Addr) (c:Nat) (qs:List aQ) (W:World):Prop where
 blk:W.heap[lp]?=some (.cells #[.int .i64 (fst:Int),.slice A qs.length c] 88 (0,0))
 row:W.ownsRow base 26 2 (.slice A qs.length c) qs.length (eF qs)
 sm:∀ q∈qs,kR q W
section
variable {base lp fst c : Nat} {A : Option Addr} {qs : List aQ} {W W' : World}
theorem oD.bE {B:Nat} {ts:List TypeId} (h:oD base lp fst A c qs W) (hT:aM B ts W W') (h1:88 ∉ ts) (h2:26 ∉ ts) (h3:61 ∉ ts) (h4:64 ∉ ts) (h5:9 ∉ ts):oD base lp fst A c qs W':=⟨hT.blk h.blk h1,bX h.row hT h2,fun q hq=>(h.sm q hq).bE hT h3 h4 h5⟩
theorem oD.stay (h:oD base lp fst A c qs W) (hb:Below W.heap.size W W'):oD base lp fst A c qs W':=h.bE (aM.of_below hb (Nat.le_refl _) []) (by simp) (by simp) (by simp) (by simp) (by simp)
theorem oD.cells (h:oD base lp fst A c qs W):W.cell? ⟨lp,0,none⟩=some (.int .i64 (fst:Int))∧W.cell? ⟨lp,1,none⟩=some (.slice A qs.length c):=aa h.blk
theorem sj {B:Nat} {t:TypeId} (h:au W B t A (eF qs)) {k:Nat} (hk:k<qs.length):∃ ad q,A=some ad∧qs[k]?=some q∧W.cell? (ad.add (k * 2))=some (.slice q.A q.ls.length q.c)∧W.cell? ⟨(ad.add (k * 2)).block,(ad.add (k * 2)).off+1,none⟩=some (.slice q.A2 q.ms.length q.c2):=by
 have hx:qs[k]?=some qs[k]:=List.getElem?_eq_getElem hk
 obtain⟨ad,e,_,hc⟩:=h (fun q=>by have:=kL qs;rw [q] at this;simp at this;omega)
 have c':∀ j u,j<2→(pI qs[k])[j]?=some u→W.cell? ((ad.add (k * 2)).add j)=some u:=fun j u hj hu=>by
  rw [addr_add]
  exact hc _ _ ((ig (f:=pI) (size:=2) (fun l _=>rfl) hx hj).trans hu)
 exact⟨ad,qs[k],e,hx,c' 0 _ (by omega) rfl,c' 1 _ (by omega) rfl⟩
theorem ve {k:Nat} (h1:W.cell? ⟨lp,1,none⟩=some (.slice A k c)) (hk:0<k):Calls prog 46 #[.pointer (some ⟨lp,0,none⟩)] W fun e w'=>e=.returned (.bool true)∧W=w':=by
 have hz:(0:Int)<(k:Int):=by omega
 go_enter func46,ntmps46
 go_wp2
 go_ret
 exact⟨rfl,rfl⟩
theorem Fv {k N:Nat} (h0:W.cell? ⟨lp,0,none⟩=some (.int .i64 (fst:Int))) (h1:W.cell? ⟨lp,1,none⟩=some (.slice A k c)) (hk:0<k) (hN:fst+k=N+1) (hs:N≤1000000):Calls prog 36 #[.pointer (some ⟨lp,0,none⟩)] W fun e w'=>e=.returned (.int .i64 (N:Int))∧∃ j,w'=W.drewN j:=by
 have hz:(0:Int)<(k:Int):=by omega
 have w1:IntKind.i64.wrap ((fst:Int)+(k:Int))=(N:Int)+1:=by rw [IntKind.wrap_i64];omega
 have w2:IntKind.i64.wrap ((N:Int)+1 - 1)=(N:Int):=by rw [IntKind.wrap_i64];omega
 have MD:=hid (ve h1 hk)
 clear hN
 go_enter func36,ntmps36
 go_wp2_with fail
 refine MD.out.mono ?_
 rintro e w ⟨rfl,rfl⟩
 go_wp2_with fail
 go_quiet (fail)
 go_wp2
 go_ret
 exact⟨rfl,_,rfl⟩
theorem sH {k N:Nat} {n:Int} {b:Bool} (hb:b=decide ((fst:Int)≤n∧n≤(N:Int))) (h0:W.cell? ⟨lp,0,none⟩=some (.int .i64 (fst:Int))) (h1:W.cell? ⟨lp,1,none⟩=some (.slice A k c)) (hk:0<k) (hN:fst+k=N+1) (hs:N≤1000000):Calls prog 44 #[.pointer (some ⟨lp,0,none⟩),.int .i64 n] W fun e w'=>e=.returned (.bool b)∧∃ j,w'=W.drewN j:=by
 have MD:=hid (ve h1 hk)
 have LE:=hid (Fv h0 h1 hk hN hs)
 by_cases hf:(fst:Int)≤n
 ·by_cases hg:n≤(N:Int)
  ·obtain rfl:b=true:=by rw [hb];exact decide_eq_true ⟨hf,hg⟩
   clear hb
   go_enter func44,ntmps44
   go_wp2_with fail
   refine MD.out.mono ?_
   rintro e w ⟨rfl,rfl⟩
   go_wp2_with fail
   refine LE.out.mono ?_
   rintro e w ⟨rfl,j,rfl⟩
   go_wp2
   go_ret
   exact⟨aI (by simp [hg]),j,rfl⟩
  ·obtain rfl:b=false:=by rw [hb];exact decide_eq_false (fun q=>hg q.2)
   clear hb
   go_enter func44,ntmps44
   go_wp2_with fail
   refine MD.out.mono ?_
   rintro e w ⟨rfl,rfl⟩
   go_wp2_with fail
   refine LE.out.mono ?_
   rintro e w ⟨rfl,j,rfl⟩
   go_wp2
   go_ret
   exact⟨aI (by simp;omega),j,rfl⟩
 ·obtain rfl:b=false:=by rw [hb];exact decide_eq_false (fun q=>hf q.1)
  clear hb
  go_enter func44,ntmps44
  go_wp2_with fail
  refine MD.out.mono ?_
  rintro e w ⟨rfl,rfl⟩
  go_wp2
  go_ret
  exact⟨rfl,0,rfl⟩
def dC (b:Bool) (s:T9.St) (w:World) (e:Ending) (w':World):Prop:=∃ q:aQ,e=.returned (.tuple #[q.val,.bool b])∧kR q w'∧q.st=s∧Below w.heap.size w w'
theorem Ji {N i:Nat} {n:Int} (hL:oD base lp fst A c qs W) (hN:fst+qs.length=N+1) (hs:N≤1000000) (hn:n=((fst+i:Nat):Int)) (hi:i<qs.length) (hd:∀ q∈qs,T9.dX q.st) {s:T9.St} (hst:∀ q,qs[i]?=some q→q.st=s):Calls prog 35 #[.pointer (some ⟨lp,0,none⟩),.int .i64 n] W (dC true s W):=by
 obtain⟨w1,hw1⟩:=nm (W.alloc (.cells #[.slice none 0 0,.slice none 0 0] 26))
 obtain⟨rb,b1,z1⟩:=aj hw1
 have L1:=hL.stay b1
 have TE:=hid (sH (n:=n) rfl L1.cells.1 L1.cells.2 (by omega) hN hs)
 rw [decide_eq_true (show (fst:Int)≤n∧n≤(N:Int) by omega)] at TE
 have RB:=hid rb
 have B1:=hid b1
 have HL1:=hid L1
 obtain⟨ad,q,rfl,hq,a0,a1⟩:=sj (aH (B:=0) L1.row) hi
 obtain⟨k,hk⟩:=nm qs.length
 have hw:IntKind.i64.wrap (n - (fst:Int))=(i:Int):=by rw [IntKind.wrap_i64];omega
 have hi0:0≤(i:Int):=by omega
 have hik:(i:Int)<(k:Int):=by omega
 have HD:=hid (hd q (List.mem_of_getElem? hq))
 have HST:=hid (hst q hq)
 have HQ:=hid (L1.sm q (List.mem_of_getElem? hq))
 have HC:=hid (show ∀ u,Below w1.heap.size w1 u→(u.cell? ⟨lp,0,none⟩=some (.int .i64 (fst:Int))∧u.cell? ⟨lp,1,none⟩=some (.slice (some ad) k c))∧u.cell? (ad.add (i * 2))=some (.slice q.A q.ls.length q.c)∧u.cell? ⟨(ad.add (i * 2)).block,(ad.add (i * 2)).off+1,none⟩=some (.slice q.A2 q.ms.length q.c2) from fun u hu=>by
  rw [← hk]
  exact⟨(L1.stay hu).cells,(hu.cell (World.block_lt_of_cell? _ _ a0)).trans a0,(hu.cell (World.block_lt_of_cell? _ _ a1)).trans a1⟩)
 have HK:=hid hk
 clear hL L1 rb b1 z1 hN hs hn hi hd hst hq a0 a1 hk
 go_enter func35,ntmps35
 go_wp2_with fail
 refine TE.out.mono ?_
 rintro e w2 ⟨rfl,j,rfl⟩
 go_wp2_with fail
 have B2:Below w1.heap.size w1 (w1.drewN j):=lg (Below.refl _ w1) j
 have B2':=hid B2
 refine (wpIn_wide (n:=9)).1 (dK.begin (S:=fun u=>Below w1.heap.size w1 u) (st:=13) (by kernel_rfl) ?_)
 have S0:Below w1.heap.size w1 (w1.drewN j).drew:=B2.drew
 generalize (w1.drewN j).drew=wd at S0 ⊢
 clear B2
 refine mr 0 S0 ?_
 refine mr 1 S0 ?_
 refine mr 2 S0 ?_
 refine mr 3 S0 ?_ (hy:=by intro u hu;obtain⟨⟨c0,c1⟩,c2,c3⟩:=HC.out u hu;clear hu;go_simp;try rfl)
 refine mr 4 S0 ?_
 refine mr 5 S0 ?_
 refine mr 6 S0 ?_
 refine mr 7 S0 ?_
 refine mr 8 S0 ?_ (hy:=by intro u hu;obtain⟨⟨c0,c1⟩,c2,c3⟩:=HC.out u hu;clear hu;go_simp;try rfl)
 refine mr 9 S0 ?_
 refine mr 10 S0 ?_
 refine mr 11 S0 ?_ (hy:=by intro u hu;obtain⟨⟨c0,c1⟩,c2,c3⟩:=HC.out u hu;clear hu;go_simp;try rfl)
 refine dK.nH (fun _=>trivial) (by kernel_rfl) eH (i:=12) (by kernel_rfl) rfl (fun K hK=>?_)
 go_simp
 have CP:=Dx (s:=q) (w:=wd) (HQ.out.stay S0).sm HD.out
 unfold sI aQ.val at CP
 refine CP.mono ?_
 rintro e w3 ⟨q2,rfl,hq2,r9,hb3⟩
 have S1:Below w1.heap.size w1 w3:=S0.trans (hb3.mono S0.size)
 refine hK _ _ (fun _ _=>S1) ?_
 have Q2:=hid hq2
 have QS2:=hid r9
 clear hK K S0 hq2 r9 hb3 CP
 have S0:=S1
 clear S1
 try simp only [Act.put,pS]
 refine dK.nH (fun _=>trivial) (by kernel_rfl) eH (i:=13) (by kernel_rfl) rfl (fun K hK=>?_)
 have rb:=ae RB.out S0
 obtain⟨g0,g1⟩:=aa rb
 have xG:=af rb 0
 have xH:=af rb 1
 go_simp
 obtain⟨vz,jQ⟩:=nm ((w3.setCell ⟨W.heap.size,0,none⟩ (.slice q2.A q2.ls.length q2.c)).setCell ⟨W.heap.size,1,none⟩ (.slice q2.A2 q2.ms.length q2.c2))
 try rw [jQ]
 have Y:Ty w3 W.heap.size 26:=⟨_,_,rb⟩
 have tz:aM W.heap.size [26] w3 vz:=by
  rw [← jQ]
  exact ((aM.refl _ _ w3).aB (p:=⟨W.heap.size,0,none⟩) Y (by simp) (Nat.le_refl _) _).aB (p:=⟨W.heap.size,1,none⟩) (Y.set _ _) (by simp) (Nat.le_refl _) _
 have RZ:Hid (vz.cell? ⟨W.heap.size,0,none⟩=some (.slice q2.A q2.ls.length q2.c)∧vz.cell? ⟨W.heap.size,1,none⟩=some (.slice q2.A2 q2.ms.length q2.c2)):=hid (by rw [← jQ];exact aa (ah (ah rb 0 _) 1 _))
 have Q3:=hid (Q2.out.bE tz (by decide) (by decide) (by decide))
 have B3:Hid (Below W.heap.size W vz):=hid ((B1.out.trans (S0.mono B1.out.size)).trans tz.below)
 refine hK _ _ (fun _ h=>absurd rfl h) ?_
 clear hK K S0 rb g0 g1 xG xH Y tz jQ
 try simp only [Act.put,pS]
 refine dK.nH (fun _=>trivial) (by kernel_rfl) eH (i:=14) (by kernel_rfl) rfl (fun K hK=>?_)
 go_simp
 refine hK _ _ (fun h=>by cases h) ?_
 clear hK K
 try simp only [Act.put,pS]
 refine dK.done (by kernel_rfl) ⟨rfl,?_⟩
 go_wp2
 refine bodyPost_ret (v:=.tuple #[.agg #[.slice q2.A q2.ls.length q2.c,.slice q2.A2 q2.ms.length q2.c2],.bool true]) (by simp [results,results35,go_sem,RZ.out.1,RZ.out.2]) rfl ?_
 exact⟨q2,rfl,Q3.out,QS2.out.trans HST.out,B3.out⟩
end
end
end
end Go.Proofs.YtcmiompdjjiojaaGreat
