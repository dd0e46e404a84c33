import Derived.Test.YtcedlgedmkghgaaGreatZ15
namespace Go.Proofs.YtcedlgedmkghgaaGreat
set_option maxHeartbeats 16000000
open Go.Lib Go.Proofs.Tryz
set_option linter.unusedSimpArgs false
set_option maxRecDepth 100000
section
open Go.Shelf Go.RowKit Go.Lib Go.Sort
theorem Bq {P Y1 Y2 Q:List Value} {y v:Value} {o:Nat} (ho:o=P.length+Y1.length):splice (P++(Y1++y :: Y2)++Q) o [v]=P++(Y1++v :: Y2)++Q:=by
 subst ho
 unfold splice
 have e:P++(Y1++y :: Y2)++Q=(P++Y1)++([y]++(Y2++Q)):=by simp
 have d:(P++(Y1++y :: Y2)++Q).drop (P.length+Y1.length+[v].length)=Y2++Q:=by
  rw [e,show P.length+Y1.length+[v].length=((P++Y1)++[y]).length by simp;omega,← List.append_assoc,List.drop_left]
 have t:(P++(Y1++y :: Y2)++Q).take (P.length+Y1.length)=P++Y1:=by
  rw [e,show P.length+Y1.length=(P++Y1).length by simp,List.take_left]
 rw [d,t]
 simp
theorem gD {ms:List aL} {i j:Nat} {m m':aL} {v:Value} (hm:ms[i]?=some m) (hj:j<7) (he:az m'=(az m).set j v):splice (ai ms) (i * 7+j) [v]=ai (ms.set i m'):=by
 have hi:i<ms.length:=by
  rcases Nat.lt_or_ge i ms.length with q | q
  ·exact q
  ·rw [List.getElem?_eq_none q] at hm;cases hm
 have e1:ms=ms.take i++m :: ms.drop (i+1):=by
  have q:=List.drop_eq_getElem_cons hi
  rw [List.getElem?_eq_getElem hi] at hm
  injection hm with hm
  rw [hm] at q
  rw [← q,List.take_append_drop]
 have e2:ms.set i m'=ms.take i++m' :: ms.drop (i+1):=by rw [List.set_eq_take_append_cons_drop,if_pos hi]
 have lp:(ai (ms.take i)).length=i * 7:=by rw [aQ,List.length_take,Nat.min_eq_left (by omega)]
 have lj:j<(az m).length:=by rw [aU];exact hj
 have c1:az m=(az m).take j++(az m)[j] :: (az m).drop (j+1):=by rw [← List.drop_eq_getElem_cons lj,List.take_append_drop]
 have c2:az m'=(az m).take j++v :: (az m).drop (j+1):=by rw [he,List.set_eq_take_append_cons_drop,if_pos lj]
 have k1:ai ms=ai (ms.take i)++((az m).take j++(az m)[j] :: (az m).drop (j+1))++ai (ms.drop (i+1)):=by
  rw [← c1]
  conv=>lhs;rw [e1]
  simp [ai]
 rw [k1,Bq (by rw [lp,List.length_take,Nat.min_eq_left (by omega)]),e2,← c2]
 simp [ai]
theorem Dv (ms:List aL):ay (Sr.canon iy ms)=Sr.canon T9.iT (ay ms):=(Sr.uQ (lt:=iy) (lt':=T9.iT) (f:=fun m:aL=>m.t) (fun _ _=>rfl) ms).symm
def dX (w:World) (B:Nat) (t:TypeId) (k:Nat) (A:Option Addr) (n c:Nat) (xs:List Value):Prop:=(n=0∧c=0)∨∃ g,A=some ⟨g,0,none⟩∧w.ownsRow B t k (.slice (some ⟨g,0,none⟩) n c) n xs
theorem dX.bH {w w':World} {B B':Nat} {t:TypeId} {k n c:Nat} {A:Option Addr} {xs:List Value} {ts:List TypeId} (h:dX w B t k A n c xs) (hT:aN B' ts w w') (ht:t ∉ ts):dX w' B t k A n c xs:=by
 rcases h with q | ⟨g,e,q⟩
 ·exact .inl q
 ·exact .inr ⟨g,e,bP q hT ht⟩
theorem dX.below {w w':World} {B:Nat} {t:TypeId} {k n c:Nat} {A:Option Addr} {xs:List Value} (h:dX w B t k A n c xs) (hb:Below w.heap.size w w'):dX w' B t k A n c xs:=h.bH (aN.of_below hb (Nat.le_refl _) []) (by simp)
theorem dX.less {w:World} {B B':Nat} {t:TypeId} {k n c:Nat} {A:Option Addr} {xs:List Value} (h:dX w B t k A n c xs) (hb:B'≤B):dX w B' t k A n c xs:=by
 rcases h with q | ⟨g,e,q⟩
 ·exact .inl q
 ·exact .inr ⟨g,e,eu q hb⟩
theorem dX.lies {w:World} {B:Nat} {t:TypeId} {k n c:Nat} {A:Option Addr} {xs:List Value} (h:dX w B t k A n c xs) (hx:xs.length=n * k):au w 0 t A xs:=by
 rcases h with⟨q,_⟩ | ⟨g,e,q⟩
 ·rw [List.length_eq_zero_iff.1 (show xs.length=0 by rw [hx,q,Nat.zero_mul])];exact au.nil
 ·rw [e];exact aG q
def aL.blk (m:aL):Option Nat:=if m.c=0 then none else m.A.map (·.block)
def bI (w:World) (B:Nat) (ms:List aL):Prop:=(∀ m∈ms,dX w B 9 1 m.A m.t.tags.length m.c (aB m.t.tags))∧ms.Pairwise fun a b=>∀ g,a.blk=some g→b.blk≠some g
theorem bI.nil {w:World} {B:Nat}:bI w B []:=⟨by simp,.nil⟩
theorem bI.bH {w w':World} {B B':Nat} {ms:List aL} {ts:List TypeId} (h:bI w B ms) (hT:aN B' ts w w') (ht:9 ∉ ts):bI w' B ms:=⟨fun m hm=>(h.1 m hm).bH hT ht,h.2⟩
theorem dX.rR {w:World} {B:Nat} {m:aL} (h:dX w B 9 1 m.A m.t.tags.length m.c (aB m.t.tags)) {g:Nat} (e:m.blk=some g):B≤g∧g<w.heap.size:=by
 unfold aL.blk at e
 rcases h with⟨_,q⟩ | ⟨g',e',q⟩
 ·rw [if_pos q] at e;cases e
 ·by_cases hc:m.c=0
  ·rw [if_pos hc] at e;cases e
  ·rw [if_neg hc,e'] at e
   injection e with e
   subst e
   exact q.lt g' rfl
theorem bI.snoc {w w':World} {B B':Nat} {ms:List aL} {m:aL} (h:bI w B ms) (hT:bI w' B ms) (hm:dX w' B' 9 1 m.A m.t.tags.length m.c (aB m.t.tags)) (hB:w.heap.size≤B') (hB2:B≤B'):bI w' B (ms++[m]):=by
 refine⟨fun x hx=>?_,List.pairwise_append.2 ⟨hT.2,by simp,fun a ha b hb g e1 e2=>?_⟩⟩
 ·rcases List.mem_append.1 hx with q | q
  ·exact hT.1 x q
  ·simp only [List.mem_cons,List.not_mem_nil,or_false] at q
   subst q
   exact hm.less hB2
 ·simp only [List.mem_cons,List.not_mem_nil,or_false] at hb
  subst hb
  have a1:=((h.1 a ha).rR e1).2
  have a2:=(hm.rR e2).1
  omega
structure KC (w0:World) (g n c:Nat) (ks:List T9.Tk) (i:Nat) (ms:List aL) (w:World):Prop where
 own:w.ownsRow w0.heap.size 74 7 (.slice (some ⟨g,0,none⟩) n c) n (ai ms)
 fine:∀ m∈ms,au w w0.heap.size 9 m.A (aB m.t.tags)∧m.t.tags.length≤m.c
 few:∀ m∈ms.drop i,m.t.tags.length<20
 ay:ay ms=(ks.take i).map T9.norm++ks.drop i
 neu:bI w w0.heap.size (ms.take i)
theorem ui {w0 w w':World} {A:Option Addr} {xs:List Value} (h:au w w0.heap.size 9 A xs) (hT:aN w0.heap.size [74] w w'):au w' w0.heap.size 9 A xs:=h.bH hT (by decide)
def StRetO (s:T9.St) (w:World) (e:Ending) (w':World):Prop:=∃ m:aW,e=.returned m.val∧SM m w'∧m.st=s∧Below w.heap.size w w' ∧
 (au w' 0 71 m.A (aJ m.ls)∧(∀ x∈m.ms,au w' 0 9 x.A (aB x.t.tags))∧(m.ms=[]∨∃ g,m.A2=some ⟨g,0,none⟩∧w'.ownsRow w.heap.size 74 7 (.slice (some ⟨g,0,none⟩) m.ms.length m.c2) m.ms.length (ai m.ms))) ∧
 (dX w' w.heap.size 71 2 m.A m.ls.length m.c (aJ m.ls)∧dX w' w.heap.size 74 7 m.A2 m.ms.length m.c2 (ai m.ms)∧bI w' w.heap.size m.ms)
theorem rU {ls:List T9.Li} {A:Option Addr} {c n1:Nat} {ms:List aL} {A2:Option Addr} {c2 n2:Nat} {w:World} (hl:LL w A ls) (hk:KL w A2 ms) (en1:n1=ls.length) (en2:n2=ms.length) (h1:n1≤1000000) (h2:n2≤1000000) (h3:∀ t∈ms,t.t.tags.length<20) :
  Calls prog 73 #[.agg #[.slice A n1 c,.slice A2 n2 c2]] w (StRetO (T9.canon ⟨ls,ay ms⟩) w):=by
 have HL:=hid hl
 have HK:=hid hk
 have H3:=hid h3
 have N1:=hid en1
 have N2:=hid en2
 clear hl hk h3 en1 en2
 obtain⟨wB,iR⟩:∃ u,(w.alloc (.cells #[.slice A n1 c,.slice A2 n2 c2] 25)).alloc (.cells #[.slice none 0 0,.slice none 0 0] 25)=u:=⟨_,rfl⟩
 have bB:Below w.heap.size w wB:=by rw [← iR];exact ((Below.refl _ w).alloc (Nat.le_refl _) _).alloc (by simp) _
 have k0:wB.heap[w.heap.size]?=some (.cells #[.slice A n1 c,.slice A2 n2 c2] 25 (0,0)):=by rw [← iR];exact aY (heap_alloc_new w _) _
 have k1:wB.heap[w.heap.size+1]?=some (.cells #[.slice none 0 0,.slice none 0 0] 25 (0,0)):=by
  rw [← iR]
  have:=heap_alloc_new (w.alloc (.cells #[.slice A n1 c,.slice A2 n2 c2] 25)) (.cells #[.slice none 0 0,.slice none 0 0] 25)
  rwa [World.size_alloc] at this
 have sB:wB.heap.size=w.heap.size+2:=by rw [← iR];simp
 have BB:=hid bB
 have K0:=hid k0
 have K1:=hid k1
 have SB:=hid sB
 have c00:=(aa k0).1
 have R1:=hid (EA (c:=c) (n:=n1) (HL.out.stay bB) N1.out h1)
 clear bB k0 k1 sB
 go_enter func73,ntmps73
 go_wp2_with fail
 refine R1.out.mono ?_
 rintro e w1 ⟨A3,c3,rfl,hc3,ho3,hl3,hb1⟩
 have HR3:=hid (And.intro hc3 (And.intro ho3 hl3))
 have HB1:=hid hb1
 clear hc3 ho3 hl3 hb1
 have z1:=HB1.out.size
 have k01:=(HB1.out.block w.heap.size (by have:=SB.out;omega)).trans K0.out
 have c01:=(aa k01).2
 have BW1:=hid (BB.out.trans (HB1.out.mono (by have:=SB.out;omega)))
 have R2:=hid (EB (c:=c2) (n:=n2) (HK.out.stay BW1.out).1 N2.out h2)
 clear k01 c00
 go_wp2_with fail
 refine R2.out.mono ?_
 rintro e w2 ⟨A4,c4,rfl,hc4,ho4,hl4,hb2⟩
 have HR4:=hid (And.intro hc4 (And.intro ho4 hl4))
 have HB2:=hid hb2
 clear hc4 ho4 hl4 hb2
 have z2:=HB2.out.size
 have BW2:=hid (BW1.out.trans (HB2.out.mono (by have:=SB.out;omega)))
 have K12:=hid ((HB2.out.block (w.heap.size+1) (by have:=SB.out;omega)).trans ((HB1.out.block (w.heap.size+1) (by have:=SB.out;omega)).trans K1.out))
 have LSO:Hid (dX w2 w.heap.size 71 2 A3 (Sr.canon T9.iN ls).length c3 (aJ (Sr.canon T9.iN ls))):=hid (by
  rcases HR3.out.2.1 with q | ⟨g,rfl,q⟩
  ·exact .inl q
  ·exact .inr ⟨g,rfl,eu (own_below q HB2.out) (by have:=SB.out;omega)⟩)
 have LS:Hid (au w2 0 71 A3 (aJ (Sr.canon T9.iN ls))∧(Sr.canon T9.iN ls).length≤c3):=hid (by
  refine⟨?_,HR3.out.1⟩
  rcases HR3.out.2.1 with q | ⟨g,rfl,q⟩
  ·rw [List.length_eq_zero_iff.1 q.1];exact au.nil
  ·exact aG (own_below q HB2.out))
 obtain⟨L3,el3⟩:∃ n,n=(Sr.canon T9.iN ls).length:=⟨_,rfl⟩
 obtain⟨L4,el4⟩:∃ n,n=(Sr.canon iy ms).length:=⟨_,rfl⟩
 have EL3:=hid el3
 have EL4:=hid el4
 rw [← el3,← el4]
 have hL4:L4≤1000000:=by
  have q:=Sr.dB (lt:=iy) ms
  have:=N2.out
  omega
 clear c01 el3 el4
 have KS:Hid (ay (Sr.canon iy ms)=Sr.canon T9.iT (ay ms)):=hid (Dv ms)
 have FW:Hid (∀ m∈Sr.canon iy ms,m∈ms):=hid fun m hm=>Sr.gJ hm
 go_wp2_with fail
 go_loopw [15] (fun s15 wr=>∃ (i:Nat) (ms':List aL),s15=.int .i64 i∧i≤L4∧ms'.length=L4∧Aside (aN w.heap.size [74] w2 wr∧(L4=0∧c4=0∨∃ g,A4=some ⟨g,0,none⟩∧KC w g L4 c4 (ay (Sr.canon iy ms)) i ms' wr))) (fun s15 _=>L4 - (intOf s15).toNat)
 case atStart =>
  refine⟨0,Sr.canon iy ms,rfl,Nat.zero_le _,EL4.out.symm,aN.refl _ _ _,?_⟩
  rcases HR4.out.2.1 with q | ⟨g,rfl,q⟩
  ·exact .inl ⟨EL4.out.trans q.1,q.2⟩
  ·refine .inr ⟨g,rfl,?_,fun m hm=>?_,fun m hm=>H3.out m (FW.out m (by simpa using hm)),by simp,by rw [List.take_zero];exact bI.nil⟩
   ·have q':=eu q (b:=w.heap.size) (by have:=SB.out;omega)
    rw [← EL4.out] at q'
    exact q'
   ·have f:=(HK.out.2 m (FW.out m hm))
    exact⟨(f.1.old (t':=9)).below (Nat.le_refl _) BW2.out,f.2⟩
 case round =>
  obtain⟨i,ms',rfl,hi,xL,EP⟩:=hrel
  by_cases hlt:i<L4
  ·have hltz:(i:Int)<(L4:Int):=by omega
   obtain⟨g,hA4,kc⟩:=EP.out.2.resolve_left (by omega)
   have T0:=hid EP.out.1
   have G4:=hid hA4
   rw [hA4]
   obtain⟨m,hm⟩:∃ m,ms'[i]?=some m:=⟨_,List.getElem?_eq_getElem (by omega)⟩
   have HM:=hid hm
   have KCR:=hid kc
   have hgw:w.heap.size≤g∧g<wr.heap.size:=kc.own.lt g rfl
   have few:m.t.tags.length<20:=kc.few m (by
    have:=List.mem_of_getElem? (l:=ms'.drop i) (i:=0) (a:=m) (by rw [List.getElem?_drop];simpa using hm)
    exact this)
   have cell:∀ j v,(az m)[j]?=some v→wr.cell? ⟨g,i * 7+j,none⟩=some v:=fun j v hv=>by
    have hj:j<7:=by
     rcases Nat.lt_or_ge j (az m).length with q | q
     ·rw [aU] at q;exact q
     ·rw [List.getElem?_eq_none q] at hv;cases hv
    exact cZ kc.own ((iB (f:=az) (size:=7) (fun x _=>aU x) hm hj).trans hv)
   have r0:=cell 0 _ rfl
   have r1:=cell 1 _ rfl
   have r2:=cell 2 _ rfl
   have r3:=cell 3 _ rfl
   have r4:=cell 4 _ rfl
   have r5:=cell 5 _ rfl
   have r6:=cell 6 _ rfl
   rw [Nat.add_zero] at r0
   obtain⟨wp,hwp⟩:∃ u,wr.alloc (.cells #[.int .u64 (m.t.id:Int),.int .u64 (m.t.list:Int),.string (str m.t.title),.bool m.t.done,.float .f64 m.t.rank,.float .f64 m.t.est,.slice m.A m.t.tags.length m.c] 74)=u:=⟨_,rfl⟩
   have pb:wp.heap[wr.heap.size]?=some (.cells #[.int .u64 (m.t.id:Int),.int .u64 (m.t.list:Int),.string (str m.t.title),.bool m.t.done,.float .f64 m.t.rank,.float .f64 m.t.est,.slice m.A m.t.tags.length m.c] 74 (0,0)):=by rw [← hwp];exact heap_alloc_new wr _
   have bp:Below wr.heap.size wr wp:=by rw [← hwp];exact (Below.refl _ wr).alloc (Nat.le_refl _) _
   have sp:wp.heap.size=wr.heap.size+1:=by rw [← hwp];simp
   have PB:=hid pb
   have BP:=hid bp
   have SP:=hid sp
   obtain⟨p0,p1,p2,p3,p4,p5,p6⟩:=aj pb
   have fine:=hid (kc.fine m (List.mem_of_getElem? hm))
   have RS:=hid (ED (c:=m.c) (n:=m.t.tags.length) (fine.out.1.below (by omega) bp) rfl few)
   clear kc hA4 hm cell pb bp sp few
   go_wp2_with fail
   refine RS.out.mono ?_
   rintro e w3 ⟨A5,c5,rfl,hc5,ho5,hl5,hb3⟩
   have HR5:=hid (And.intro hc5 (And.intro ho5 hl5))
   have HB3:=hid hb3
   clear hc5 ho5 hl5 hb3
   have O3:=hid (own_below (own_below KCR.out.own BP.out) HB3.out)
   have fr3:∀ j,w3.frozen? ⟨g,j,none⟩=false:=fun j=>O3.out.frozenAt (g:=g) j
   obtain⟨w4,hw4⟩:∃ u,w3.setCell ⟨g,i * 7+6,none⟩ (.slice A5 (Sr.canon T9.dL m.t.tags).length c5)=u:=⟨_,rfl⟩
   have pb3:=(HB3.out.block wr.heap.size (by have:=SP.out;omega)).trans PB.out
   have gne:wr.heap.size≠g:=by omega
   have pb4:=(show w4.heap[wr.heap.size]?=w3.heap[wr.heap.size]? by rw [← hw4];exact Below.heap_setCell _ _ _ _ gne).trans pb3
   have lx:(ai ms').length=L4 * 7:=by rw [aQ,xL]
   have M4:Hid ((ms'.set i ⟨{ m.t with tags:=Sr.canon T9.dL m.t.tags },A5,c5⟩)[i]?=some ⟨{ m.t with tags:=Sr.canon T9.dL m.t.tags },A5,c5⟩):=hid (by rw [List.getElem?_set_self (by omega)])
   have O4:Hid (w4.ownsRow w.heap.size 74 7 (.slice (some ⟨g,0,none⟩) L4 c4) L4 (ai (ms'.set i ⟨{ m.t with tags:=Sr.canon T9.dL m.t.tags },A5,c5⟩))):=hid (by
    rw [← hw4,← gD HM.out (by decide:6<7) (v:=(.slice A5 (Sr.canon T9.dL m.t.tags).length c5)) rfl]
    exact aV (vs:=[(.slice A5 (Sr.canon T9.dL m.t.tags).length c5)]) O3.out (by rw [lx];simp;omega))
   have fr4:∀ j,w4.frozen? ⟨g,j,none⟩=false:=fun j=>O4.out.frozenAt (g:=g) j
   obtain⟨w5,fQ⟩:∃ u,w4.setCell ⟨g,i * 7+4,none⟩ (.float .f64 (Fl.canon m.t.rank))=u:=⟨_,rfl⟩
   have pb5:=(show w5.heap[wr.heap.size]?=w4.heap[wr.heap.size]? by rw [← fQ];exact Below.heap_setCell _ _ _ _ gne).trans pb4
   have M5:Hid (((ms'.set i ⟨{ m.t with tags:=Sr.canon T9.dL m.t.tags },A5,c5⟩).set i ⟨{ m.t with tags:=Sr.canon T9.dL m.t.tags,rank:=Fl.canon m.t.rank },A5,c5⟩)[i]?=some ⟨{ m.t with tags:=Sr.canon T9.dL m.t.tags,rank:=Fl.canon m.t.rank },A5,c5⟩):=hid (by rw [List.getElem?_set_self (by rw [List.length_set];omega)])
   have O5:Hid (w5.ownsRow w.heap.size 74 7 (.slice (some ⟨g,0,none⟩) L4 c4) L4 (ai ((ms'.set i ⟨{ m.t with tags:=Sr.canon T9.dL m.t.tags },A5,c5⟩).set i ⟨{ m.t with tags:=Sr.canon T9.dL m.t.tags,rank:=Fl.canon m.t.rank },A5,c5⟩))):=hid (by
    rw [← fQ,← gD M4.out (by decide:4<7) (v:=(.float .f64 (Fl.canon m.t.rank))) rfl]
    exact aV (vs:=[(.float .f64 (Fl.canon m.t.rank))]) O4.out (by rw [aQ,List.length_set,xL];simp;omega))
   have fr5:∀ j,w5.frozen? ⟨g,j,none⟩=false:=fun j=>O5.out.frozenAt (g:=g) j
   obtain⟨w6,uX⟩:∃ u,w5.setCell ⟨g,i * 7+5,none⟩ (.float .f64 (Fl.canon m.t.est))=u:=⟨_,rfl⟩
   have O6:Hid (w6.ownsRow w.heap.size 74 7 (.slice (some ⟨g,0,none⟩) L4 c4) L4 (ai (ms'.set i ⟨T9.norm m.t,A5,c5⟩))):=hid (by
    have q:=gD M5.out (by decide:5<7) (v:=(.float .f64 (Fl.canon m.t.est))) (m':=⟨T9.norm m.t,A5,c5⟩) rfl
    rw [List.set_set,List.set_set] at q
    rw [← uX,← q]
    have o:=aV (o:=i * 7+5) (vs:=[(.float .f64 (Fl.canon m.t.est))]) O5.out (by rw [aQ,List.length_set,List.length_set,xL];simp;omega)
    rw [List.set_set] at o
    exact o)
   have T6:Hid (aN w.heap.size [74] wr w6):=hid (by
    have t0:aN w.heap.size [74] wr w3:=((aN.of_below BP.out (by omega) _).trans (aN.of_below HB3.out (by have:=SP.out;omega) _))
    have y3:Ty w3 g 74:=(by obtain⟨_,cs,fr,r⟩:=bM O3.out g rfl;exact⟨cs,fr,r⟩)
    rw [← uX,← fQ,← hw4]
    exact ((t0.aC (p:=⟨g,i * 7+6,none⟩) y3 (by decide) hgw.1 (.slice A5 (Sr.canon T9.dL m.t.tags).length c5)).aC (p:=⟨g,i * 7+4,none⟩) (y3.set _ _) (by decide) hgw.1 (.float .f64 (Fl.canon m.t.rank))).aC (p:=⟨g,i * 7+5,none⟩) ((y3.set _ _).set _ _) (by decide) hgw.1 (.float .f64 (Fl.canon m.t.est)))
   have rr:∀ (W:World) (ns:List aL) (x:aL) (j:Nat) (v:Value),W.ownsRow w.heap.size 74 7 (.slice (some ⟨g,0,none⟩) L4 c4) L4 (ai ns)→ns[i]?=some x→j<7→(az x)[j]?=some v→W.cell? ⟨g,i * 7+j,none⟩=some v:=fun W ns x j v o hx hj hv=>cZ o ((iB (f:=az) (size:=7) (fun x _=>aU x) hx hj).trans hv)
   have q3:=rr w3 _ _ 6 _ O3.out HM.out (by decide) rfl
   have q4:=rr w4 _ _ 4 _ O4.out M4.out (by decide) rfl
   have q5:=rr w5 _ _ 5 _ O5.out M5.out (by decide) rfl
   have f3:=fr3 (i * 7+6)
   have f4:=fr4 (i * 7+4)
   have f5:=fr5 (i * 7+5)
   have b44:=(aj pb4).2.2.2.2.1
   have b55:=(aj pb5).2.2.2.2.2.1
   have HML:=hid xL
   clear rr fr3 fr4 fr5 pb3 pb4 pb5 lx xL r0 r1 r2 r3 r4 r5 r6 p0 p1 p2 p3 p4 p5 p6 hwp
   go_wp2_with (go_at_call 128;refine (mK _ _).mono ?_;rintro e w' ⟨rfl,rfl⟩)
   go_roundw
   case rel =>
    refine⟨i+1,ms'.set i ⟨T9.norm m.t,A5,c5⟩,by go_num,by omega,by rw [List.length_set];exact HML.out,T0.out.trans T6.out,  .inr ⟨g,rfl,O6.out,fun x hx=>?_,fun x hx=>?_,?_,?_⟩⟩
    ·rcases List.mem_or_eq_of_mem_set hx with q | rfl
     ·exact⟨ui (KCR.out.fine x q).1 T6.out,(KCR.out.fine x q).2⟩
     ·have y3:Ty w3 g 74:=(by obtain⟨_,cs,fr,r⟩:=bM O3.out g rfl;exact⟨cs,fr,r⟩)
      have t36:aN w.heap.size [74] w3 w6:=by
       rw [← uX,← fQ,← hw4]
       exact (((aN.refl _ _ w3).aC (p:=⟨g,i * 7+6,none⟩) y3 (by decide) hgw.1 (.slice A5 (Sr.canon T9.dL m.t.tags).length c5)).aC (p:=⟨g,i * 7+4,none⟩) (y3.set _ _) (by decide) hgw.1 (.float .f64 (Fl.canon m.t.rank))).aC (p:=⟨g,i * 7+5,none⟩) ((y3.set _ _).set _ _) (by decide) hgw.1 (.float .f64 (Fl.canon m.t.est))
      refine⟨ui ?_ t36,HR5.out.1⟩
      rcases HR5.out.2.1 with q | ⟨g5,rfl,q⟩
      ·show au _ _ _ _ (aB (Sr.canon T9.dL m.t.tags))
       rw [List.length_eq_zero_iff.1 q.1];exact au.nil
      ·exact aG q
    ·refine KCR.out.few x ?_
     rw [List.drop_set_of_lt (by omega)] at hx
     rw [← List.drop_drop (i:=1) (j:=i)] at hx
     exact List.mem_of_mem_drop hx
    ·have kt:=KCR.out.ay
     have hi2:i<(ay (Sr.canon iy ms)).length:=by rw [aI];have:=EL4.out;omega
     have e1:ay (ms'.set i ⟨T9.norm m.t,A5,c5⟩)=(ay ms').set i (T9.norm m.t):=by unfold ay;rw [List.map_set]
     have e2:(ay (Sr.canon iy ms))[i]?=some m.t:=by
      have q:(ay ms')[i]?=some m.t:=by unfold ay;rw [List.getElem?_map,HM.out];rfl
      rw [kt,List.getElem?_append_right (by rw [List.length_map,List.length_take];omega),List.length_map,List.length_take,Nat.min_eq_left (by omega),Nat.sub_self,List.getElem?_drop,Nat.add_zero] at q
      exact q
     have e3:=List.drop_eq_getElem_cons hi2
     rw [List.getElem?_eq_getElem hi2] at e2
     injection e2 with e2
     rw [e2] at e3
     rw [e1,kt,e3,List.set_append_right _ _ (by rw [List.length_map,List.length_take];omega),List.length_map,List.length_take,Nat.min_eq_left (by omega),Nat.sub_self,List.set_cons_zero,List.take_add_one,List.getElem?_eq_getElem hi2,e2]
     simp
    ·have e:(ms'.set i ⟨T9.norm m.t,A5,c5⟩)[i]?=some ⟨T9.norm m.t,A5,c5⟩:=by rw [List.getElem?_set_self (by have:=HML.out;omega)]
     rw [jS e,List.take_set_of_le (Nat.le_refl _)]
     have y3:Ty w3 g 74:=(by obtain⟨_,cs,fr,r⟩:=bM O3.out g rfl;exact⟨cs,fr,r⟩)
     have t36:aN w.heap.size [74] w3 w6:=by
      rw [← uX,← fQ,← hw4]
      exact (((aN.refl _ _ w3).aC (p:=⟨g,i * 7+6,none⟩) y3 (by decide) hgw.1 (.slice A5 (Sr.canon T9.dL m.t.tags).length c5)).aC (p:=⟨g,i * 7+4,none⟩) (y3.set _ _) (by decide) hgw.1 (.float .f64 (Fl.canon m.t.rank))).aC (p:=⟨g,i * 7+5,none⟩) ((y3.set _ _).set _ _) (by decide) hgw.1 (.float .f64 (Fl.canon m.t.est))
     refine KCR.out.neu.snoc (KCR.out.neu.bH T6.out (by decide)) (B':=wp.heap.size) ?_ BP.out.size (by have:=SP.out;omega)
     refine dX.bH (w:=w3) ?_ t36 (by decide)
     rcases HR5.out.2.1 with q | ⟨g5,rfl,q⟩
     ·exact .inl q
     ·exact .inr ⟨g5,rfl,q⟩
   case measure=>simp [intOf];omega
  ·obtain rfl:i=L4:=by omega
   have hltz:¬ (i:Int)<(i:Int):=by omega
   have TT:=hid EP.out.1
   have KR:=hid (TT.out.blk K12.out (by decide))
   have kr0:=(aa KR.out).1
   have kr1:=(aa KR.out).2
   have jC:=af KR.out 0
   have jl:=af KR.out 1
   have KR2:Hid (((wr.setCell ⟨w.heap.size+1,0,none⟩ (.slice A3 L3 c3)).setCell ⟨w.heap.size+1,1,none⟩ (.slice A4 i c4)).heap[w.heap.size+1]?=some (.cells #[.slice A3 L3 c3,.slice A4 i c4] 25 (0,0))):=hid ((ah (ah KR.out 0 (.slice A3 L3 c3)) 1 (.slice A4 i c4)).trans rfl)
   have TF:Hid (aN w.heap.size [74,25] w2 ((wr.setCell ⟨w.heap.size+1,0,none⟩ (.slice A3 L3 c3)).setCell ⟨w.heap.size+1,1,none⟩ (.slice A4 i c4))):=hid (by
    have y:Ty wr (w.heap.size+1) 25:=⟨_,_,KR.out⟩
    exact ((TT.out.more (by simp)).aC (p:=⟨w.heap.size+1,0,none⟩) y (by decide) (Nat.le_succ _) _).aC (p:=⟨w.heap.size+1,1,none⟩) (y.set _ _) (by decide) (Nat.le_succ _) _)
   have kf0:=(aa KR2.out).1
   have kf1:=(aa KR2.out).2
   go_wp2
   refine bodyPost_ret (v:=.agg #[.slice A3 L3 c3,.slice A4 i c4]) (by simp [results,results73,go_sem,kf0,kf1]) rfl ?_
   have TG:aN w.heap.size [25] wr ((wr.setCell ⟨w.heap.size+1,0,none⟩ (.slice A3 L3 c3)).setCell ⟨w.heap.size+1,1,none⟩ (.slice A4 i c4)):=by
    have y:Ty wr (w.heap.size+1) 25:=⟨_,_,KR.out⟩
    exact ((aN.refl _ _ wr).aC (p:=⟨w.heap.size+1,0,none⟩) y (by decide) (Nat.le_succ _) _).aC (p:=⟨w.heap.size+1,1,none⟩) (y.set _ _) (by decide) (Nat.le_succ _) _
   refine⟨⟨Sr.canon T9.iN ls,A3,c3,ms',A4,c4⟩,?_,⟨?_,?_,LS.out.2,?_⟩,?_,BW2.out.trans TF.out.below,⟨dD LS.out.1 TF.out (by decide),?_,?_⟩,LSO.out.bH TF.out (by decide),?_,?_⟩
   ·unfold aW.val
    rw [xL,← EL3.out]
   ·exact (dD LS.out.1 TF.out (by decide)).old
   ·rcases EP.out.2 with q | ⟨g,rfl,kc⟩
    ·have:ms'=[]:=List.length_eq_zero_iff.1 (by omega)
     subst this
     exact KL.nil
    ·exact⟨(aG (B:=0) (bP kc.own TG (by decide))).old,fun x hx=>⟨((kc.fine x hx).1.bH TG (by decide)).old,(kc.fine x hx).2⟩⟩
   ·rw [xL,EL4.out]
    exact HR4.out.1
   ·unfold aW.st T9.canon
    dsimp only
    congr 1
    rw [← KS.out]
    rcases EP.out.2 with q | ⟨g,rfl,kc⟩
    ·have h0:ms'=[]:=List.length_eq_zero_iff.1 (by omega)
     have h1:Sr.canon iy ms=[]:=List.length_eq_zero_iff.1 (by rw [← EL4.out];exact q.1)
     rw [h0,h1]
     rfl
    ·have l:(ay (Sr.canon iy ms)).length=i:=by rw [aI];exact EL4.out.symm
     rw [kc.ay,← l,List.take_length,List.drop_length,List.append_nil]
   ·rcases EP.out.2 with q | ⟨g,rfl,kc⟩
    ·have:ms'=[]:=List.length_eq_zero_iff.1 (by omega)
     subst this
     simp
    ·exact fun x hx=>dD ((kc.neu.1 x (by rw [List.take_of_length_le (by omega)];exact hx)).lies (by rw [dC,Nat.mul_one])) TG (by decide)
   ·rcases EP.out.2 with q | ⟨g,rfl,kc⟩
    ·exact .inl (List.length_eq_zero_iff.1 (by show ms'.length=0;omega))
    ·refine .inr ⟨g,rfl,?_⟩
     show World.ownsRow _ _ _ _ (.slice _ ms'.length _) ms'.length _
     rw [xL]
     exact bP kc.own TG (by decide)
   ·rcases EP.out.2 with q | ⟨g,rfl,kc⟩
    ·exact .inl ⟨by show ms'.length=0;omega,q.2⟩
    ·refine .inr ⟨g,rfl,?_⟩
     show World.ownsRow _ _ _ _ (.slice _ ms'.length _) ms'.length _
     rw [xL]
     exact bP kc.own TG (by decide)
   ·rcases EP.out.2 with q | ⟨g,rfl,kc⟩
    ·have:ms'=[]:=List.length_eq_zero_iff.1 (by omega)
     subst this
     exact bI.nil
    ·have q:=kc.neu
     rw [List.take_of_length_le (by omega)] at q
     exact q.bH TG (by decide)
end
end Go.Proofs.YtcedlgedmkghgaaGreat
