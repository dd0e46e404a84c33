import Derived.Test.YtcmiompdjjiojaaGreatZ18
namespace Go.Proofs.YtcmiompdjjiojaaGreat
set_option maxHeartbeats 16000000
open Go.Lib Go.Proofs.Tryz
set_option linter.unusedSimpArgs false
set_option maxRecDepth 100000
section
section
open Go.RowKit Go.Lib
theorem chg11_c {s:aQ} {u:T9.Mu} {B:Nat} {w:World} (h:OS s B w) (hB:B≤w.heap.size) (hr:T9.aJ s.st=0) (hk:u.kind=11) :
  Calls prog 79 #[s.val,u.val] w (dO (T9.eD s.st u) B w):=by
 obtain⟨kd,id,list,text,f,flag⟩:=u
 obtain rfl:kd=11:=hk
 obtain⟨w1,hw1⟩:=nm (w.alloc (.cells #[.slice s.A s.ls.length s.c,.slice s.A2 s.ms.length s.c2] 26))
 obtain⟨w2,hw2⟩:=nm (w1.alloc (.cells #[.int .i64 11,.int .u64 (id:Int),.int .u64 (list:Int),.string (str text),.float .f64 f,.bool flag] 57))
 obtain⟨w3,hw3⟩:=nm (w2.alloc (.cells #[.slice none 0 0,.slice none 0 0] 26))
 obtain⟨cf,b3,z1,z2⟩:=CF.start (s:=s) (m:=⟨11,id,list,text,f,flag⟩) (B:=B) hw1 hw2 hw3
 have C3:=hid cf
 have B3:=hid b3
 have O3:=hid (h.stay b3)
 have HB:=hid hB
 have O0:=hid h
 have UL:=hid (iU hr)
 have UK:=hid (iT hr)
 obtain⟨s0,s1⟩:=aa cf.st
 obtain⟨m0,m1,m2,m3,m4,m5⟩:=ag cf.mu
 have nl:s.ls.length≤20:=(T9.aF hr).1
 have nk:s.ms.length≤60:=by have:=(T9.aF hr).2.1;simpa [aQ.st,ay] using this
 obtain⟨R,hR⟩:=nm (T9.eD s.st ⟨11,id,list,text,f,flag⟩)
 rw [hR]
 have HR:=hid hR
 have Gd:=hid hr
 unfold aQ.val T9.Mu.val
 dsimp only
 clear h hB hr cf b3 hR
 obtain⟨pp,gy⟩:=nm (T9.dW (ay s.ms) id)
 have HP:=hid gy
 cases gU:T9.eB (ay s.ms) id with
 | false =>
  have LC:=hid (nG (id:=id) O3.out.sm (by omega) UK.out gU)
  have e:R=(93,s.st):=HR.out.symm.trans (T9.mU (by omega) gU)
  have E:=hid e
  unfold aQ.val at LC
  clear gy gU e
  go_enter func79,ntmps79
  go_wp2_with fail
  refine LC.out.mono ?_
  rintro e w4 ⟨rfl,h4⟩
  have B4:=hid (B3.out.trans (h4.mono B3.out.size))
  rw [E.out]
  exact⟨rfl,dO.bad (B4.out.mono HB.out) (show (93:Int)≠0 by decide)⟩
 | true =>
  have LC:=hid (lY (id:=id) O3.out.sm (by omega) UK.out gU)
  rw [gy] at LC
  have HH:=hid gU
  have PP:pp<s.ms.length:=by
   obtain⟨y,hy,_⟩:=(T9.lW UK.out).1 gU
   have z:T9.dW (ay s.ms) id<(ay s.ms).length:=(List.getElem?_eq_some_iff.1 hy).1
   rw [gy,aK] at z
   exact z
  unfold aQ.val at LC
  clear gy gU
  go_enter func79,ntmps79
  go_wp2_with fail
  refine LC.out.mono ?_
  rintro e w4 ⟨rfl,h4⟩
  have C4:=hid (C3.out.stay h4)
  have O4:=hid (O3.out.stay h4)
  have B4:=hid (B3.out.trans (h4.mono B3.out.size))
  have D4:=hid (B4.out.mono HB.out)
  clear h4
  clear s0 s1 m0 m1 m2 m3 m4 m5
  obtain⟨s0,s1⟩:=aa C4.out.st
  obtain⟨m0,m1,m2,m3,m4,m5⟩:=ag C4.out.mu
  have kQ:IntKind.i64.wrap ((pp:Int)+1)=(pp:Int)+1:=by rw [IntKind.wrap_i64];omega
  obtain⟨ns,hns⟩:=nm (s.ms.take pp++s.ms.drop (pp+1))
  have MG:=hid hns
  have LN:ns.length=s.ms.length - 1:=by rw [← hns,List.length_append,List.length_take,List.length_drop];omega
  have DL0:=Aj (p:=pp) O4.out.k (cB _) PP (by omega)
  rw [← LN,eU,fP] at DL0
  have DL:=hid DL0
  clear DL0 LN hns
  go_wp2_with fail
  refine DL.out.mono ?_
  rintro e w5 ⟨A',c',rfl,ho,hg,hb⟩
  have T5:=hid (O4.out.k.nQ hg (Nat.le_trans HB.out D4.out.size))
  have O5:Hid (OS { s with A2:=A',ms:=ns,c2:=c' } B w5):=hid ⟨O4.out.l.bE T5.out (by decide),by
   have e:ai ns=ai (s.ms.take pp)++ai (s.ms.drop (pp+1)):=by rw [← MG.out];simp [ai]
   show dZ w5 B _ 7 A' ns.length c' (ai ns)
   rw [e]
   exact ho,(O4.out.t.bE T5.out (by decide)).sub (by show ns.Sublist s.ms;rw [← MG.out];exact cut_sub _ _)⟩
  have C5:=hid (C4.out.bE T5.out (by decide) (by decide))
  have D5:Hid (Below B w w5):=hid (D4.out.trans T5.out.below)
  clear ho hg hb s0 s1 m0 m1 m2 m3 m4 m5
  obtain⟨s0,s1⟩:=aa C5.out.st
  have f1:=af C5.out.st 1
  have TL:=C5.out.F6 A' ns c'
  obtain⟨w6,xI⟩:=nm (w5.setCell ⟨w.heap.size,1,none⟩ (.slice A' ns.length c'))
  rw [xI] at TL
  have C6:=hid TL.1
  have T6:=hid TL.2
  have O6:=hid (O5.out.bE T6.out (by decide) (by decide) (by decide))
  have D6:Hid (Below B w w6):=hid (D5.out.trans (T6.out.below.mono HB.out))
  clear TL
  have ER:Hid (R=(0,⟨s.ls,ay ns⟩)):=hid (by
   refine HR.out.symm.trans ((T9.yF HH.out).trans ?_)
   rw [T9.Fb UK.out HH.out,← MG.out]
   refine congrArg (fun z=>((0:Int),T9.St.mk _ z)) ?_
   rw [show T9.dW s.st.tasks id=pp from HP.out]
   unfold ay aQ.st ay
   dsimp only
   rw [List.map_append,List.map_take,List.map_drop])
  obtain⟨wz,hwz⟩:=nm ((w6.setCell ⟨w.heap.size+2,0,none⟩ (Value.slice s.A s.ls.length s.c)).setCell ⟨w.heap.size+2,1,none⟩ (Value.slice A' ns.length c'))
  have FN:=hid (C6.out.fin (w':=wz) O6.out.MM (by dsimp only;exact hwz))
  have g0:=af C6.out.rv 0
  have g1:=af C6.out.rv 1
  obtain⟨u0,u1⟩:=aa C6.out.st
  obtain⟨v0,v1⟩:=aa C6.out.rv
  have y0:=FN.out.2.2.1
  have y1:=FN.out.2.2.2
  dsimp only at u0 u1 y0 y1
  skip
  go_wp2
  refine bodyPost_ret (v:=.agg #[Value.slice s.A s.ls.length s.c,Value.slice A' ns.length c']) (by simp [results,results79,go_sem,y0,y1]) rfl ?_
  have G:=dO.good (r:=R) (B:=B) (w:=w) ((D6.out).trans (FN.out.2.1.mono HB.out)) FN.out.1 ER.out
  unfold aQ.val at G
  dsimp only at G
  skip
  exact G
theorem chg13_c {s:aQ} {u:T9.Mu} {B:Nat} {w:World} (h:OS s B w) (hB:B≤w.heap.size) (hr:T9.aJ s.st=0) (hk:u.kind=13) (ho:s.st.ok) :
  Calls prog 79 #[s.val,u.val] w (dO (T9.eD s.st u) B w):=by
 obtain⟨kd,id,list,text,f,flag⟩:=u
 obtain rfl:kd=13:=hk
 obtain⟨w1,hw1⟩:=nm (w.alloc (.cells #[.slice s.A s.ls.length s.c,.slice s.A2 s.ms.length s.c2] 26))
 obtain⟨w2,hw2⟩:=nm (w1.alloc (.cells #[.int .i64 13,.int .u64 (id:Int),.int .u64 (list:Int),.string (str text),.float .f64 f,.bool flag] 57))
 obtain⟨w3,hw3⟩:=nm (w2.alloc (.cells #[.slice none 0 0,.slice none 0 0] 26))
 obtain⟨cf,b3,z1,z2⟩:=CF.start (s:=s) (m:=⟨13,id,list,text,f,flag⟩) (B:=B) hw1 hw2 hw3
 have C3:=hid cf
 have B3:=hid b3
 have O3:=hid (h.stay b3)
 have HB:=hid hB
 have O0:=hid h
 have UL:=hid (iU hr)
 have UK:=hid (iT hr)
 obtain⟨s0,s1⟩:=aa cf.st
 obtain⟨m0,m1,m2,m3,m4,m5⟩:=ag cf.mu
 have nl:s.ls.length≤20:=(T9.aF hr).1
 have nk:s.ms.length≤60:=by have:=(T9.aF hr).2.1;simpa [aQ.st,ay] using this
 obtain⟨R,hR⟩:=nm (T9.eD s.st ⟨13,id,list,text,f,flag⟩)
 rw [hR]
 have HR:=hid hR
 have Gd:=hid hr
 unfold aQ.val T9.Mu.val
 dsimp only
 clear h hB hr cf b3 hR
 have TGS:Hid (∀ m∈s.ms,m.t.tags.length<20):=hid fun m hm=>by
  have q:=((T9.cz.1 (T9.aF Gd.out).2.2.2).1 m.t (List.mem_map.2 ⟨m,hm,rfl⟩)).2.1
  have:=(T9.cu q).2.2.2.2.1
  omega
 have RKS:Hid (∀ m∈s.ms,m.t.rank<18446744073709551616):=hid fun m hm=>(ho.2 m.t (List.mem_map.2 ⟨m,hm,rfl⟩)).2.2.1
 clear ho
 obtain⟨pp,gy⟩:=nm (T9.iX (s.ls) list)
 have HP:=hid gy
 cases gU:T9.bC (s.ls) list with
 | false =>
  have LC:=hid (jI (id:=list) O3.out.sm (by omega) UL.out gU)
  have e:R=(91,s.st):=HR.out.symm.trans (T9.Fa  gU)
  have E:=hid e
  unfold aQ.val at LC
  clear gy gU e
  go_enter func79,ntmps79
  go_wp2_with fail
  refine LC.out.mono ?_
  rintro e w4 ⟨rfl,h4⟩
  have B4:=hid (B3.out.trans (h4.mono B3.out.size))
  rw [E.out]
  exact⟨rfl,dO.bad (B4.out.mono HB.out) (show (91:Int)≠0 by decide)⟩
 | true =>
  have LC:=hid (je (id:=list) O3.out.sm (by omega) UL.out gU)
  rw [gy] at LC
  have HH:=hid gU
  have PP:pp<s.ls.length:=by
   obtain⟨y,hy,_⟩:=(T9.qF UL.out).1 gU
   have z:T9.iX (s.ls) list<(s.ls).length:=(List.getElem?_eq_some_iff.1 hy).1
   rw [gy] at z
   exact z
  unfold aQ.val at LC
  clear gy gU
  go_enter func79,ntmps79
  go_wp2_with fail
  refine LC.out.mono ?_
  rintro e w4 ⟨rfl,h4⟩
  have C4:=hid (C3.out.stay h4)
  have O4:=hid (O3.out.stay h4)
  have B4:=hid (B3.out.trans (h4.mono B3.out.size))
  have D4:=hid (B4.out.mono HB.out)
  clear h4
  clear s0 s1 m0 m1 m2 m3 m4 m5
  obtain⟨s0,s1⟩:=aa C4.out.st
  obtain⟨m0,m1,m2,m3,m4,m5⟩:=ag C4.out.mu
  have SC:=hid (Mf (c:=s.c) (c2:=s.c2) (list:=list) O4.out.sm.l O4.out.sm.k rfl rfl (by omega) (by omega) TGS.out RKS.out)
  go_wp2_with fail
  refine SC.out.mono ?_
  rintro e w5 ⟨q,l,rfl,_,h5,ho,hst,hmt⟩
  have M5:=hid hmt
  have C5:=hid (C4.out.stay h5)
  have D5:Hid (Below B w w5):=hid (D4.out.trans (h5.mono (Nat.le_trans HB.out D4.out.size)))
  have ER:Hid (R=(0,q.st)):=hid (by
   refine HR.out.symm.trans ((T9.yH HH.out).trans ?_)
   have cn:T9.canon ⟨s.ls,ay s.ms⟩=⟨s.ls,ay s.ms⟩:=T9.kS Gd.out
   rw [cn] at ho
   rw [hst,cn,T9.ordK_of ho (T9.Mh (T9.cz.1 (T9.aF Gd.out).2.2.2).2)]
   rfl)
  obtain⟨Cw,qA,qc,nms,qA2,qc2⟩:=q
  unfold aQ.val
  dsimp only
  clear h5 ho hst hmt s0 s1 m0 m1 m2 m3 m4 m5
  obtain⟨s0,s1⟩:=aa C5.out.st
  have f0:=af C5.out.st 0
  have f1:=af C5.out.st 1
  have TL:=C5.out.turn (q:=⟨Cw,qA,qc,nms,qA2,qc2⟩)
  dsimp only at TL
  obtain⟨w6,xI⟩:=nm ((w5.setCell ⟨w.heap.size,0,none⟩ (.slice qA Cw.length qc)).setCell ⟨w.heap.size,1,none⟩ (.slice qA2 nms.length qc2))
  rw [xI] at TL
  have C6:=hid TL.1
  have T6:=hid TL.2
  have M6:=hid (M5.out.bE T6.out (by decide) (by decide) (by decide))
  have D6:Hid (Below B w w6):=hid (D5.out.trans (T6.out.below.mono HB.out))
  clear TL
  obtain⟨wz,hwz⟩:=nm ((w6.setCell ⟨w.heap.size+2,0,none⟩ (Value.slice qA Cw.length qc)).setCell ⟨w.heap.size+2,1,none⟩ (Value.slice qA2 nms.length qc2))
  have FN:=hid (C6.out.fin (w':=wz) M6.out (by dsimp only;exact hwz))
  have g0:=af C6.out.rv 0
  have g1:=af C6.out.rv 1
  obtain⟨u0,u1⟩:=aa C6.out.st
  obtain⟨v0,v1⟩:=aa C6.out.rv
  have y0:=FN.out.2.2.1
  have y1:=FN.out.2.2.2
  dsimp only at u0 u1 y0 y1
  skip
  go_wp2
  refine bodyPost_ret (v:=.agg #[Value.slice qA Cw.length qc,Value.slice qA2 nms.length qc2]) (by simp [results,results79,go_sem,y0,y1]) rfl ?_
  have G:=dO.good (r:=R) (B:=B) (w:=w) ((D6.out).trans (FN.out.2.1.mono HB.out)) FN.out.1 ER.out
  unfold aQ.val at G
  dsimp only at G
  skip
  exact G
end
section
open Go.RowKit Go.Lib
theorem chg6_c {s:aQ} {u:T9.Mu} {B:Nat} {w:World} (h:OS s B w) (hB:B≤w.heap.size) (hr:T9.aJ s.st=0) (hk:u.kind=6) :
  Calls prog 79 #[s.val,u.val] w (dO (T9.eD s.st u) B w):=by
 obtain⟨kd,id,list,text,f,flag⟩:=u
 obtain rfl:kd=6:=hk
 obtain⟨w1,hw1⟩:=nm (w.alloc (.cells #[.slice s.A s.ls.length s.c,.slice s.A2 s.ms.length s.c2] 26))
 obtain⟨w2,hw2⟩:=nm (w1.alloc (.cells #[.int .i64 6,.int .u64 (id:Int),.int .u64 (list:Int),.string (str text),.float .f64 f,.bool flag] 57))
 obtain⟨w3,hw3⟩:=nm (w2.alloc (.cells #[.slice none 0 0,.slice none 0 0] 26))
 obtain⟨cf,b3,z1,z2⟩:=CF.start (s:=s) (m:=⟨6,id,list,text,f,flag⟩) (B:=B) hw1 hw2 hw3
 have C3:=hid cf
 have B3:=hid b3
 have O3:=hid (h.stay b3)
 have HB:=hid hB
 have O0:=hid h
 have UL:=hid (iU hr)
 have UK:=hid (iT hr)
 obtain⟨s0,s1⟩:=aa cf.st
 obtain⟨m0,m1,m2,m3,m4,m5⟩:=ag cf.mu
 have nl:s.ls.length≤20:=(T9.aF hr).1
 have nk:s.ms.length≤60:=by have:=(T9.aF hr).2.1;simpa [aQ.st,ay] using this
 obtain⟨R,hR⟩:=nm (T9.eD s.st ⟨6,id,list,text,f,flag⟩)
 rw [hR]
 have HR:=hid hR
 have Gd:=hid hr
 unfold aQ.val T9.Mu.val
 dsimp only
 clear h hB hr cf b3 hR
 obtain⟨pp,gy⟩:=nm (T9.dW (ay s.ms) id)
 have HP:=hid gy
 cases gU:T9.eB (ay s.ms) id with
 | false =>
  have LC:=hid (nG (id:=id) O3.out.sm (by omega) UK.out gU)
  have e:R=(93,s.st):=HR.out.symm.trans (T9.mU (by omega) gU)
  have E:=hid e
  unfold aQ.val at LC
  clear gy gU e
  go_enter func79,ntmps79
  go_wp2_with fail
  refine LC.out.mono ?_
  rintro e w4 ⟨rfl,h4⟩
  have B4:=hid (B3.out.trans (h4.mono B3.out.size))
  rw [E.out]
  exact⟨rfl,dO.bad (B4.out.mono HB.out) (show (93:Int)≠0 by decide)⟩
 | true =>
  have LC:=hid (lY (id:=id) O3.out.sm (by omega) UK.out gU)
  rw [gy] at LC
  have HH:=hid gU
  have PP:pp<s.ms.length:=by
   obtain⟨y,hy,_⟩:=(T9.lW UK.out).1 gU
   have z:T9.dW (ay s.ms) id<(ay s.ms).length:=(List.getElem?_eq_some_iff.1 hy).1
   rw [gy,aK] at z
   exact z
  unfold aQ.val at LC
  clear gy gU
  go_enter func79,ntmps79
  go_wp2_with fail
  refine LC.out.mono ?_
  rintro e w4 ⟨rfl,h4⟩
  have C4:=hid (C3.out.stay h4)
  have O4:=hid (O3.out.stay h4)
  have B4:=hid (B3.out.trans (h4.mono B3.out.size))
  have D4:=hid (B4.out.mono HB.out)
  clear h4
  clear s0 s1 m0 m1 m2 m3 m4 m5
  obtain⟨s0,s1⟩:=aa C4.out.st
  obtain⟨m0,m1,m2,m3,m4,m5⟩:=ag C4.out.mu
  cases DR:T9.bC s.ls list with
  | false =>
   have Gf:=hid (jI (id:=list) O4.out.sm (by omega) UL.out DR)
   have ER:Hid (R.1=91):=hid (by
    rw [show R=_ from HR.out.symm.trans (T9.mV (by omega) HH.out)]
    show (T9.pX (T9.bC s.ls list) _ _).1=91
    rw [DR]
    rfl)
   unfold aQ.val at Gf
   clear DR
   go_wp2_with fail
   refine Gf.out.mono ?_
   rintro e w5 ⟨rfl,h5⟩
   have D5:=hid (D4.out.trans (h5.mono (Nat.le_trans HB.out D4.out.size)))
   have G:=dO.bad (r:=R) D5.out (by rw [ER.out];decide)
   rw [ER.out] at G
   exact⟨rfl,G⟩
  | true =>
   have Gf:=hid (je (id:=list) O4.out.sm (by omega) UL.out DR)
   obtain⟨p2,hp2⟩:=nm (T9.iX s.ls list)
   rw [hp2] at Gf
   obtain⟨g,hgA,c0,own⟩:=O4.out.k.parts.resolve_left (fun z=>by omega)
   obtain⟨x,hx⟩:∃ x,s.ms[pp]?=some x:=⟨_,List.getElem?_eq_getElem PP⟩
   have X:=hid hx
   have FX:Hid (x.t=(T9.dJ (ay s.ms) id).1∧x.t.id=id):=hid (by
    have q:=T9.Ao UK.out HH.out
    rw [show T9.dW s.st.tasks id=pp from HP.out,show s.st.tasks=ay s.ms from rfl,iA hx] at q
    injection q.1 with q1
    exact⟨q1,by rw [q1];exact q.2⟩)
   have HL2:=hid DR
   have HGA:=hid hgA
   have OWG:=hid own
   unfold aQ.val at Gf
   clear DR hp2 hgA own hx
   go_wp2_with fail
   refine Gf.out.mono ?_
   rintro e w5 ⟨rfl,h5⟩
   have C5:=hid (C4.out.stay h5)
   have O5:=hid (O4.out.stay h5)
   have D5:=hid (D4.out.trans (h5.mono (Nat.le_trans HB.out D4.out.size)))
   have KS5:Hid (KS w5 B g s.ms.length s.c2 s.ms):=hid ⟨own_below OWG.out h5,O5.out.t⟩
   clear s0 s1 m0 m1 m2 m3 m4 m5 h5
   obtain⟨s0,s1⟩:=aa C5.out.st
   obtain⟨m0,m1,m2,m3,m4,m5⟩:=ag C5.out.mu
   have q1:=KS5.out.cell X.out 1 _ rfl
   have q4:=KS5.out.cell X.out 4 _ rfl
   have jB:=KS5.out.free (pp * 7+1)
   have fr4:=KS5.out.free (pp * 7+4)
   have ppz:(pp:Int)<(s.ms.length:Int):=by omega
   have glt:g<w.heap.size:=by
    obtain⟨g2,e2,_,q⟩:=O0.out.k.parts.resolve_left (fun z=>by omega)
    rw [HGA.out] at e2
    injection e2 with e2
    injection e2 with e2
    subst e2
    exact (q.lt g rfl).2
   have n1:¬ (w.heap.size=g):=by omega
   have n2:¬ (w.heap.size+1=g):=by omega
   have n3:¬ (g=w.heap.size):=by omega
   have n4:¬ (g=w.heap.size+1):=by omega
   rw [HGA.out] at s1
   go_wp2_with fail
   go_region
   obtain⟨k1,t1⟩:=KS5.out.put (j:=1) (x':=⟨{ x.t with list:=list },x.A,x.c⟩) (v:=.int .u64 (list:Int)) X.out (by decide) rfl rfl rfl rfl
   have X1:(s.ms.set pp ⟨{ x.t with list:=list },x.A,x.c⟩)[pp]?=some ⟨{ x.t with list:=list },x.A,x.c⟩:=List.getElem?_set_self PP
   obtain⟨k2,t2⟩:=k1.put (j:=4) (x':=⟨{ x.t with list:=list,rank:=f },x.A,x.c⟩) (v:=.float .f64 f) X1 (by decide) rfl rfl rfl rfl
   rw [List.set_set] at k2
   obtain⟨ns,hns⟩:=nm (s.ms.set pp ⟨{ x.t with list:=list,rank:=f },x.A,x.c⟩)
   rw [hns] at k2
   have zT:Hid (ns.length=s.ms.length):=hid (by rw [← hns,List.length_set])
   have ER:Hid (R=(0,⟨s.ls,ay ns⟩)):=hid (by
    refine HR.out.symm.trans ((T9.mV (by omega) HH.out).trans ?_)
    rw [show s.st.tasks=ay s.ms from rfl,← FX.out.1,show T9.bC s.st.lists list=true from HL2.out]
    refine congrArg (fun z=>((0:Int),T9.St.mk s.ls z)) ?_
    have e:=T9.Fg (l:=ay s.ms) (id:=id) (t:=(T9.pX true ⟨6,id,list,text,f,flag⟩ x.t).2) UK.out HH.out FX.out.2
    rw [show T9.dW (ay s.ms) id=pp from HP.out] at e
    refine e.trans ?_
    rw [← hns]
    unfold ay
    rw [List.map_set]
    rfl)
   obtain⟨w7,hw7⟩:=nm (((w5.setCell ⟨g,pp * 7+1,none⟩ (.int .u64 (list:Int))).setCell ⟨g,pp * 7+4,none⟩ (.float .f64 f)).drew)
   rw [hw7]
   have T7:Hid (aM B [64,9] w5 w7):=hid (by rw [← hw7];exact (t1.trans t2).drew)
   have O7:Hid (OS { s with ms:=ns } B w7):=hid (by
    refine⟨O5.out.l.bE T7.out (by decide),.inr ⟨g,HGA.out,?_⟩,?_⟩
    ·show w7.ownsRow B _ 7 (.slice (some ⟨g,0,none⟩) ns.length s.c2) ns.length (ai ns)
     rw [zT.out,← hw7]
     exact b_ k2.row
    ·rw [← hw7]
     exact k2.tags)
   have C7:Hid (CF { s with ms:=ns } ⟨6,id,list,text,f,flag⟩ B w.heap.size w7):=hid (by
    have z:=C5.out.bE T7.out (by decide) (by decide)
    exact⟨by show w7.heap[w.heap.size]?=some (.cells #[.slice s.A s.ls.length s.c,.slice s.A2 ns.length s.c2] _ (0,0));rw [zT.out];exact z.st,z.mu,z.rv⟩)
   have D7:Hid (Below B w w7):=hid (D5.out.trans T7.out.below)
   clear k1 k2 t1 t2 X1 hns hw7 s0 s1 q1 q4 jB fr4 m0 m1 m2 m3 m4 m5
   obtain⟨wz,hwz⟩:=nm ((w7.setCell ⟨w.heap.size+2,0,none⟩ (Value.slice s.A s.ls.length s.c)).setCell ⟨w.heap.size+2,1,none⟩ (Value.slice s.A2 s.ms.length s.c2))
   have FN:=hid (C7.out.fin (w':=wz) O7.out.MM (by dsimp only;rw [zT.out];exact hwz))
   have g0:=af C7.out.rv 0
   have g1:=af C7.out.rv 1
   obtain⟨u0,u1⟩:=aa C7.out.st
   obtain⟨v0,v1⟩:=aa C7.out.rv
   have y0:=FN.out.2.2.1
   have y1:=FN.out.2.2.2
   dsimp only at u0 u1 y0 y1
   try rw [zT.out] at u0
   try rw [zT.out] at u1
   try rw [zT.out] at y0
   try rw [zT.out] at y1
   go_wp2
   refine bodyPost_ret (v:=.agg #[Value.slice s.A s.ls.length s.c,Value.slice s.A2 s.ms.length s.c2]) (by simp [results,results79,go_sem,y0,y1]) rfl ?_
   have G:=dO.good (r:=R) (B:=B) (w:=w) ((D7.out).trans (FN.out.2.1.mono HB.out)) FN.out.1 ER.out
   unfold aQ.val at G
   dsimp only at G
   rw [zT.out] at G
   exact G
end
section
open Go.RowKit Go.Lib
theorem rT {s:aQ} {u:T9.Mu} {B:Nat} {w:World} (h:OS s B w) (hB:B≤w.heap.size) (hr:T9.aJ s.st=0) (hk:u.kind=4∨u.kind=5∨u.kind=7∨u.kind=8∨u.kind=9∨u.kind=10) (hCT:∀ (g n c i:Nat) (ms:List aN) (x:aN) (w':World),KS w' B g n c ms→ms[i]?=some x→B≤w'.heap.size→Sr.Str T9.dN x.t.tags→x.t.tags.length≤100→Calls prog 113 #[.pointer (some ⟨g,i * 7,none⟩),u.val] w' (zS (T9.pX true u x.t) B g n c ms i w')) :
  Calls prog 79 #[s.val,u.val] w (dO (T9.eD s.st u) B w):=by
 obtain⟨kd,id,list,text,f,flag⟩:=u
 have hk:kd=4∨kd=5∨kd=7∨kd=8∨kd=9∨kd=10:=hk
 obtain⟨w1,hw1⟩:=nm (w.alloc (.cells #[.slice s.A s.ls.length s.c,.slice s.A2 s.ms.length s.c2] 26))
 obtain⟨w2,hw2⟩:=nm (w1.alloc (.cells #[.int .i64 kd,.int .u64 (id:Int),.int .u64 (list:Int),.string (str text),.float .f64 f,.bool flag] 57))
 obtain⟨w3,hw3⟩:=nm (w2.alloc (.cells #[.slice none 0 0,.slice none 0 0] 26))
 obtain⟨cf,b3,z1,z2⟩:=CF.start (s:=s) (m:=⟨kd,id,list,text,f,flag⟩) (B:=B) hw1 hw2 hw3
 have C3:=hid cf
 have B3:=hid b3
 have O3:=hid (h.stay b3)
 have HB:=hid hB
 have O0:=hid h
 have UL:=hid (iU hr)
 have UK:=hid (iT hr)
 obtain⟨s0,s1⟩:=aa cf.st
 obtain⟨m0,m1,m2,m3,m4,m5⟩:=ag cf.mu
 have nl:s.ls.length≤20:=(T9.aF hr).1
 have nk:s.ms.length≤60:=by have:=(T9.aF hr).2.1;simpa [aQ.st,ay] using this
 obtain⟨R,hR⟩:=nm (T9.eD s.st ⟨kd,id,list,text,f,flag⟩)
 rw [hR]
 have HR:=hid hR
 have Gd:=hid hr
 unfold aQ.val T9.Mu.val
 dsimp only
 have HCT:=hid hCT
 have HK:=hid hk
 have e1:(kd==1)=false:=by rw [beq_eq_false_iff_ne];omega
 have e2:(kd==2)=false:=by rw [beq_eq_false_iff_ne];omega
 have e12:(kd==12)=false:=by rw [beq_eq_false_iff_ne];omega
 have e13:(kd==13)=false:=by rw [beq_eq_false_iff_ne];omega
 have e3:(kd==3)=false:=by rw [beq_eq_false_iff_ne];omega
 have e11:(kd==11)=false:=by rw [beq_eq_false_iff_ne];omega
 have e6:(kd==6)=false:=by rw [beq_eq_false_iff_ne];omega
 clear h hB hr cf b3 hR hCT
 obtain⟨pp,gy⟩:=nm (T9.dW (ay s.ms) id)
 have HP:=hid gy
 have SF:CF s ⟨kd,id,list,text,f,flag⟩ B w.heap.size w3.drew:=C3.out.stay (Below.refl _ w3).drew
 cases gU:T9.eB (ay s.ms) id with
 | false =>
  have LC:=hid (nG (id:=id) (w:=w3.drew) (O3.out.stay (Below.refl _ w3).drew).sm (by omega) UK.out gU)
  have e:R=(93,s.st):=HR.out.symm.trans (T9.mU (by omega) gU)
  have E:=hid e
  unfold aQ.val at LC
  have HSF:=hid SF
  clear gy gU e hk SF
  go_enter func79,ntmps79
  go_wp2_with fail
  refine wp_region_held_drew (S:=fun v=>CF s ⟨kd,id,list,text,f,flag⟩ B w.heap.size v) (by kernel_rfl) (HSF.out) (fun S0=>?_)
  refine av 0 S0 ?_
  refine av 1 S0 ?_ (hy:=by intro u hu;obtain⟨x0,x1⟩:=aa hu.st;go_simp;try rfl)
  refine av 2 S0 ?_ (hy:=by intro u hu;obtain⟨x0,x1⟩:=aa hu.st;go_simp;try rfl)
  refine av 3 S0 ?_
  refine av 4 S0 ?_ (hy:=by intro u hu;obtain⟨x0,x1,x2,x3,x4,x5⟩:=ag hu.mu;go_simp;try rfl)
  refine av 7 S0 ?_ (hy:=by intro u hu;obtain⟨x0,x1,x2,x3,x4,x5⟩:=ag hu.mu;go_simp;try rfl)
  refine fw 5 fun K hK=>?_
  go_simp
  refine LC.out.mono ?_
  rintro e w4 ⟨rfl,h4⟩
  have D4:Below B w w4:=(B3.out.mono HB.out).trans ((Below.refl _ w3).drew.trans h4 |>.mono (Nat.le_trans HB.out B3.out.size))
  rw [E.out]
  exact⟨rfl,dO.bad D4 (show (93:Int)≠0 by decide)⟩
 | true =>
  have LC:=hid (lY (id:=id) (w:=w3.drew) (O3.out.stay (Below.refl _ w3).drew).sm (by omega) UK.out gU)
  rw [gy] at LC
  have HH:=hid gU
  have PP:pp<s.ms.length:=by
   obtain⟨y,hy,_⟩:=(T9.lW UK.out).1 gU
   have z:T9.dW (ay s.ms) id<(ay s.ms).length:=(List.getElem?_eq_some_iff.1 hy).1
   rw [gy,aK] at z
   exact z
  obtain⟨g,hgA,c0,own⟩:=O3.out.k.parts.resolve_left (fun z=>by omega)
  obtain⟨x,hx⟩:∃ x,s.ms[pp]?=some x:=⟨_,List.getElem?_eq_getElem PP⟩
  have X:=hid hx
  have FX:Hid (x.t=(T9.dJ (ay s.ms) id).1∧x.t.id=id):=hid (by
   have q:=T9.Ao UK.out HH.out
   rw [show T9.dW s.st.tasks id=pp from HP.out,show s.st.tasks=ay s.ms from rfl,iA hx] at q
   injection q.1 with q1
   exact⟨q1,by rw [q1];exact q.2⟩)
  have TR:Hid (Sr.Str T9.dN x.t.tags∧x.t.tags.length≤100):=hid (by
   have q:=((T9.cz.1 (T9.aF Gd.out).2.2.2).1 x.t (List.mem_map.2 ⟨x,List.mem_of_getElem? hx,rfl⟩)).2.1
   have z:=T9.cu q
   exact⟨(T9.mq z.2.2.2.2.2).2,by have:=z.2.2.2.2.1;omega⟩)
  have RE:Hid (R=((T9.pX true ⟨kd,id,list,text,f,flag⟩ x.t).1,⟨s.ls,Sr.ins T9.jg (T9.pX true ⟨kd,id,list,text,f,flag⟩ x.t).2 (T9.wo (ay s.ms) 0 false id)⟩)):=hid (by
   refine HR.out.symm.trans ((T9.mV (by omega) HH.out).trans ?_)
   rw [show s.st.tasks=ay s.ms from rfl,← FX.out.1]
   have e:T9.pX (T9.bC s.st.lists list) ⟨kd,id,list,text,f,flag⟩ x.t=T9.pX true ⟨kd,id,list,text,f,flag⟩ x.t:=by
    unfold T9.pX
    dsimp only
    rw [if_neg (show ¬ kd=6 by omega),if_neg (show ¬ kd=6 by omega)]
   rw [e]
   rfl)
  have IDS:Hid ((T9.pX true ⟨kd,id,list,text,f,flag⟩ x.t).2.id=id):=hid (by
   rw [← FX.out.2]
   unfold T9.pX
   repeat' split
   all_goals rfl)
  have HGA:=hid hgA
  have OWG:=hid own
  have ppz:(pp:Int)<(s.ms.length:Int):=by omega
  unfold aQ.val at LC
  have HSF:=hid SF
  obtain⟨cr,hcr⟩:=nm (T9.pX true ⟨kd,id,list,text,f,flag⟩ x.t)
  have HCR:=hid hcr
  rw [hcr] at RE IDS
  clear gy gU hgA own hx hk SF hcr
  go_enter func79,ntmps79
  go_wp2_with fail
  refine wp_region_held_drew (S:=fun v=>CF s ⟨kd,id,list,text,f,flag⟩ B w.heap.size v) (by kernel_rfl) (HSF.out) (fun S0=>?_)
  refine av 0 S0 ?_
  refine av 1 S0 ?_ (hy:=by intro u hu;obtain⟨x0,x1⟩:=aa hu.st;go_simp;try rfl)
  refine av 2 S0 ?_ (hy:=by intro u hu;obtain⟨x0,x1⟩:=aa hu.st;go_simp;try rfl)
  refine av 3 S0 ?_
  refine av 4 S0 ?_ (hy:=by intro u hu;obtain⟨x0,x1,x2,x3,x4,x5⟩:=ag hu.mu;go_simp;try rfl)
  refine av 7 S0 ?_ (hy:=by intro u hu;obtain⟨x0,x1,x2,x3,x4,x5⟩:=ag hu.mu;go_simp;try rfl)
  refine fw 5 fun K hK=>?_
  go_simp
  refine (LC.out).mono ?_
  rintro e w4 ⟨rfl,h4⟩
  have S1:=S0.stay h4
  have EO:Hid (Below w3.heap.size w3 w4):=hid ((Below.refl _ w3).drew.trans h4)
  clear h4
  have KS4:Hid (KS w4 B g s.ms.length s.c2 s.ms):=hid ⟨own_below OWG.out EO.out,(O3.out.stay EO.out).t⟩
  have D4:Hid (Below B w w4):=hid ((B3.out.mono HB.out).trans (EO.out.mono (Nat.le_trans HB.out B3.out.size)))
  have CT:=hid (HCT.out g s.ms.length s.c2 pp s.ms x w4 KS4.out X.out (Nat.le_trans HB.out D4.out.size) TR.out.1 TR.out.2)
  unfold T9.Mu.val at CT
  dsimp only at CT
  rw [HCR.out] at CT
  refine hK _ _ S1 ?_
  clear hK K S0
  have S0:=S1
  clear S1
  try simp only [Act.put,pS]
  rw [HGA.out]
  refine av 6 S0 ?_
  refine fw 8 fun K hK=>?_
  go_simp
  refine CT.out.mono ?_
  rintro e w5 ⟨t5,hok,hbad⟩
  have T5:=hid t5
  by_cases h0:cr.1=0
  case neg =>
   obtain rfl:=hbad h0
   have G:=dO.bad (r:=R) (D4.out.trans T5.out.below) (by rw [RE.out];exact h0)
   rw [RE.out] at G ⊢
   exact⟨rfl,G⟩
  obtain⟨x',rfl,hx',hks⟩:=hok h0
  have HX':=hid hx'
  have HKS:=hid hks
  have H0:=hid h0
  have S1:CF s ⟨kd,id,list,text,f,flag⟩ B w.heap.size w5:=S0.bE T5.out (by decide) (by decide)
  have C5:=hid S1
  refine hK _ _ S1 ?_
  clear hK K S0 S1 t5 hok hbad hx' hks h0
  try simp only [Act.put,pS]
  refine wpAnyH_done (by kernel_rfl) ?_ _
  obtain⟨ns,hns⟩:=nm (s.ms.set pp x')
  have MG:=hid hns
  have zT:Hid (ns.length=s.ms.length):=hid (by rw [← hns,List.length_set])
  have ER:Hid (R=(0,⟨s.ls,ay ns⟩)):=hid (by
   rw [RE.out,H0.out]
   refine congrArg (fun z=>((0:Int),T9.St.mk s.ls z)) ?_
   have e:=T9.Fg (l:=ay s.ms) (id:=id) (t:=cr.2) UK.out HH.out IDS.out
   rw [show T9.dW (ay s.ms) id=pp from HP.out] at e
   refine e.trans ?_
   rw [← hns,← HX'.out]
   unfold ay
   rw [List.map_set])
  have O5:Hid (OS { s with ms:=ns } B w5):=hid (by
   refine⟨(O3.out.l.below (EO.out)).bE T5.out (by decide),.inr ⟨g,HGA.out,?_⟩,?_⟩
   ·show w5.ownsRow B _ 7 (.slice (some ⟨g,0,none⟩) ns.length s.c2) ns.length (ai ns)
    rw [zT.out,← hns]
    exact HKS.out.row
   ·show bI w5 B ns
    rw [← hns]
    exact HKS.out.tags)
  have C6:Hid (CF { s with ms:=ns } ⟨kd,id,list,text,f,flag⟩ B w.heap.size w5):=hid ⟨by show w5.heap[w.heap.size]?=some (.cells #[.slice s.A s.ls.length s.c,.slice s.A2 ns.length s.c2] _ (0,0));rw [zT.out];exact C5.out.st,C5.out.mu,C5.out.rv⟩
  have D5:Hid (Below B w w5):=hid (D4.out.trans T5.out.below)
  clear hns s0 s1 m0 m1 m2 m3 m4 m5
  obtain⟨wz,hwz⟩:=nm ((w5.setCell ⟨w.heap.size+2,0,none⟩ (Value.slice s.A s.ls.length s.c)).setCell ⟨w.heap.size+2,1,none⟩ (Value.slice s.A2 s.ms.length s.c2))
  have FN:=hid (C6.out.fin (w':=wz) O5.out.MM (by dsimp only;rw [zT.out];exact hwz))
  have g0:=af C6.out.rv 0
  have g1:=af C6.out.rv 1
  obtain⟨u0,u1⟩:=aa C6.out.st
  obtain⟨v0,v1⟩:=aa C6.out.rv
  have y0:=FN.out.2.2.1
  have y1:=FN.out.2.2.2
  dsimp only at u0 u1 y0 y1
  try rw [zT.out] at u0
  try rw [zT.out] at u1
  try rw [zT.out] at y0
  try rw [zT.out] at y1
  go_wp2
  refine bodyPost_ret (v:=.agg #[Value.slice s.A s.ls.length s.c,Value.slice s.A2 s.ms.length s.c2]) (by simp [results,results79,go_sem,y0,y1]) rfl ?_
  have G:=dO.good (r:=R) (B:=B) (w:=w) ((D5.out).trans (FN.out.2.1.mono HB.out)) FN.out.1 ER.out
  unfold aQ.val at G
  dsimp only at G
  rw [zT.out] at G
  exact G
end
section
open Go.RowKit Go.Lib
theorem bI.ins {w:World} {B p:Nat} {ms:List aN} {x:aN} (h:bI w B ms) (hc:x.c=0) (ht:x.t.tags=[]):bI w B (ms.take p++x :: ms.drop p):=by
 have nb:x.blk=none:=by unfold aN.blk;rw [if_pos hc]
 have q:=h.2
 rw [← List.take_append_drop p ms,List.pairwise_append] at q
 refine⟨fun m hm=>?_,List.pairwise_append.2 ⟨q.1,List.pairwise_cons.2 ⟨fun b _ g e=>?_,q.2.1⟩,fun a ha b hb g e1 e2=>?_⟩⟩
 ·rcases List.mem_append.1 hm with z | z
  ·exact h.1 m (List.mem_of_mem_take z)
  ·rcases List.mem_cons.1 z with rfl | z
   ·exact .inl ⟨by rw [ht];rfl,hc⟩
   ·exact h.1 m (List.mem_of_mem_drop z)
 ·rw [nb] at e;cases e
 ·rcases List.mem_cons.1 hb with rfl | hb
  ·rw [nb] at e2;cases e2
  ·exact q.2.2 a ha b hb g e1 e2
theorem bk11 (a b:Int) (t:ByteArray) (f e:Nat) (w:World):(Instr.build 64 #[(0,.int .u64 a),(1,.int .u64 b),(2,.string t),(4,.float .f64 f),(5,.float .f64 e)]).run prog w=.ok (.agg #[.int .u64 a,.int .u64 b,.string t,.bool false,.float .f64 f,.float .f64 e,.slice none 0 0]) w:=run_build w 64 _ _ (by kernel_rfl)
theorem Dk (w:World):Calls prog 86 #[.float .f64 Fl.iF] w fun e w'=>e=.returned (.float .f64 Fl.iF)∧w=w':=by
 have q:=nV Fl.iF w
 rw [show Fl.canon Fl.iF=Fl.iF by decide +kernel] at q
 exact q
theorem chg3_c {s:aQ} {u:T9.Mu} {B:Nat} {w:World} (h:OS s B w) (hB:B≤w.heap.size) (hr:T9.aJ s.st=0) (hk:u.kind=3) :
  Calls prog 79 #[s.val,u.val] w (dO (T9.eD s.st u) B w):=by
 obtain⟨kd,id,list,text,f,flag⟩:=u
 obtain rfl:kd=3:=hk
 obtain⟨w1,hw1⟩:=nm (w.alloc (.cells #[.slice s.A s.ls.length s.c,.slice s.A2 s.ms.length s.c2] 26))
 obtain⟨w2,hw2⟩:=nm (w1.alloc (.cells #[.int .i64 3,.int .u64 (id:Int),.int .u64 (list:Int),.string (str text),.float .f64 f,.bool flag] 57))
 obtain⟨w3,hw3⟩:=nm (w2.alloc (.cells #[.slice none 0 0,.slice none 0 0] 26))
 obtain⟨cf,b3,z1,z2⟩:=CF.start (s:=s) (m:=⟨3,id,list,text,f,flag⟩) (B:=B) hw1 hw2 hw3
 have C3:=hid cf
 have B3:=hid b3
 have O3:=hid (h.stay b3)
 have HB:=hid hB
 have O0:=hid h
 have UL:=hid (iU hr)
 have UK:=hid (iT hr)
 obtain⟨s0,s1⟩:=aa cf.st
 obtain⟨m0,m1,m2,m3,m4,m5⟩:=ag cf.mu
 have nl:s.ls.length≤20:=(T9.aF hr).1
 have nk:s.ms.length≤60:=by have:=(T9.aF hr).2.1;simpa [aQ.st,ay] using this
 obtain⟨R,hR⟩:=nm (T9.eD s.st ⟨3,id,list,text,f,flag⟩)
 rw [hR]
 have HR:=hid hR
 have Gd:=hid hr
 unfold aQ.val T9.Mu.val
 dsimp only
 clear h hB hr cf b3 hR
 have LC:=hid (wC (id:=id) O3.out.sm (by omega) UK.out)
 obtain⟨pp,gy⟩:=nm (T9.dW (ay s.ms) id)
 obtain⟨hh,gU⟩:=nm (T9.eB (ay s.ms) id)
 rw [gU,gy] at LC
 have HH:=hid gU
 have HP:=hid gy
 have PP:pp≤s.ms.length:=by
  have z:T9.dW (ay s.ms) id≤(ay s.ms).length:=Sr.pO
  rw [gy,aK] at z
  exact z
 unfold aQ.val at LC
 clear gU gy
 go_enter func79,ntmps79
 go_wp2_with fail
 refine LC.out.mono ?_
 rintro e w4 ⟨rfl,h4⟩
 have C4:=hid (C3.out.stay h4)
 have O4:=hid (O3.out.stay h4)
 have B4:=hid (B3.out.trans (h4.mono B3.out.size))
 clear h4 s0 s1 m0 m1 m2 m3 m4 m5
 obtain⟨s0,s1⟩:=aa C4.out.st
 obtain⟨m0,m1,m2,m3,m4,m5⟩:=ag C4.out.mu
 cases hh with
 | true =>
  go_wp2_with (go_at_call 95;refine (eZ _ _).mono ?_;rintro e w' ⟨rfl,rfl⟩)
  have e:R=(92,s.st):=HR.out.symm.trans (T9.JG HH.out)
  subst e
  exact⟨rfl,dO.bad (B4.out.mono HB.out) (show (92:Int)≠0 by decide)⟩
 | false =>
  cases DR:T9.bC s.ls list with
  | false =>
   have Gf:=hid (jI (id:=list) O4.out.sm (by omega) UL.out DR)
   have e:R=(91,s.st):=HR.out.symm.trans (T9.JH HH.out DR)
   have E:=hid e
   unfold aQ.val at Gf
   clear DR e
   go_wp2_with (go_at_call 95;refine (fD _ _).mono ?_;rintro e w' ⟨rfl,rfl⟩)
   refine Gf.out.mono ?_
   rintro e w5 ⟨rfl,h5⟩
   rw [E.out]
   exact⟨rfl,dO.bad ((B4.out.trans (h5.mono B4.out.size)).mono HB.out) (show (91:Int)≠0 by decide)⟩
  | true =>
   have Gf:=hid (je (id:=list) O4.out.sm (by omega) UL.out DR)
   obtain⟨p2,hp2⟩:=nm (T9.iX s.ls list)
   rw [hp2] at Gf
   have HH2:=hid DR
   unfold aQ.val at Gf
   clear DR hp2
   go_wp2_with (go_at_call 95;refine (fD _ _).mono ?_;rintro e w' ⟨rfl,rfl⟩)
   refine Gf.out.mono ?_
   rintro e w5 ⟨rfl,h5⟩
   have C5:=hid (C4.out.stay h5)
   have O5:=hid (O4.out.stay h5)
   have D5:Hid (Below B w w5):=hid ((B4.out.trans (h5.mono B4.out.size)).mono HB.out)
   clear h5 s0 s1 m0 m1 m2 m3 m4 m5
   obtain⟨s0,s1⟩:=aa C5.out.st
   obtain⟨m0,m1,m2,m3,m4,m5⟩:=ag C5.out.mu
   by_cases h60:60≤s.ms.length
   ·have h60z:(60:Int)≤(s.ms.length:Int):=by omega
    have h60d:decide ((60:Int)≤(s.ms.length:Int))=true:=decide_eq_true h60z
    have h60n:decide (60≤s.ms.length)=true:=decide_eq_true h60
    go_wp2_with (go_at_call 95;refine (eZ _ _).mono ?_;rintro e w' ⟨rfl,rfl⟩)
    have e:R=(95,s.st):=HR.out.symm.trans (T9.JI HH.out HH2.out (by show 60≤(ay s.ms).length;rw [aK];exact h60))
    subst e
    exact⟨rfl,dO.bad D5.out (show (95:Int)≠0 by decide)⟩
   ·have h60z:¬ ((60:Int)≤(s.ms.length:Int)):=by omega
    have h60d:decide ((60:Int)≤(s.ms.length:Int))=false:=decide_eq_false h60z
    have h60n:decide (60≤s.ms.length)=false:=decide_eq_false h60
    have hbk:=bk11 (id:Int) (list:Int) (str text) f Fl.iF
    have hbs:∀ w:World,(Instr.buildSlice 24 1 #[(0,.agg #[.int .u64 (id:Int),.int .u64 (list:Int),.string (str text),.bool false,.float .f64 f,.float .f64 Fl.iF,.slice none 0 0])]).run prog w=.ok (.slice (some ⟨w.heap.size,0,none⟩) 1 1) (w.alloc (.cells #[.int .u64 (id:Int),.int .u64 (list:Int),.string (str text),.bool false,.float .f64 f,.float .f64 Fl.iF,.slice none 0 0] 64)):=fun w=>eu (⟨⟨id,list,text,false,f,Fl.iF,[]⟩,none,0⟩:aN) w
    obtain⟨w6,xI⟩:=nm (w5.drew.alloc (.cells #[.int .u64 (id:Int),.int .u64 (list:Int),.string (str text),.bool false,.float .f64 f,.float .f64 Fl.iF,.slice none 0 0] 64))
    obtain⟨lb,b6,z6⟩:=bf xI
    have b6':Below w5.heap.size w5 w6:=(Below.refl _ w5).drew.trans b6
    have O6:=hid (O5.out.stay b6')
    have C6:=hid (C5.out.stay b6')
    have D6:Hid (Below B w w6):=hid (D5.out.trans (b6'.mono (Nat.le_trans HB.out D5.out.size)))
    have NE:Hid (oJ s.A2 s.c2≠some w5.heap.size):=hid fun e=>by
     rcases O5.out.k.parts with⟨_,q⟩ | ⟨g,e2,c0,q⟩
     ·rw [show oJ s.A2 s.c2=none by unfold oJ;rw [if_pos q]] at e;cases e
     ·rw [e2,aY c0] at e
      injection e with e
      have:=(q.lt g rfl).2
      omega
    have IC:=hid (GJ (p:=pp) (gv:=w5.heap.size) (v:=aA (⟨⟨id,list,text,false,f,Fl.iF,[]⟩,none,0⟩:aN)) O6.out.k (aP _) (cB _) lb rfl (dL _) PP NE.out (by omega) (Nat.le_trans HB.out D6.out.size))
    clear lb b6 z6 b6'
    go_wp2_with (go_at_call 95;refine (fD _ _).mono ?_;rintro e w' ⟨rfl,rfl⟩)
    refine Any.begin (S:=fun v=>CF s ⟨3,id,list,text,f,flag⟩ B w.heap.size v) (st:=17) yX ?_
    have S0:=C5.out.stay (Below.refl _ w5).drew
    refine rq 0 ?_ rfl (by kernel_rfl) rfl (by kernel_rfl) rfl ?_ S0 ?_
    rotate_left
    ·intro u hu;go_simp;try rfl
    try simp only [Act.put,pS]
    refine rq 1 ?_ rfl (by kernel_rfl) rfl (by kernel_rfl) rfl ?_ S0 ?_
    rotate_left
    ·intro u hu;obtain⟨x0,x1⟩:=aa hu.st;go_simp;try rfl
    try simp only [Act.put,pS]
    refine rq 2 ?_ rfl (by kernel_rfl) rfl (by kernel_rfl) rfl ?_ S0 ?_
    rotate_left
    ·intro u hu;go_simp;try rfl
    try simp only [Act.put,pS]
    refine rq 3 ?_ rfl (by kernel_rfl) rfl (by kernel_rfl) rfl ?_ S0 ?_
    rotate_left
    ·intro u hu;go_simp;try rfl
    try simp only [Act.put,pS]
    refine rq 5 ?_ rfl (by kernel_rfl) rfl (by kernel_rfl) rfl ?_ S0 ?_
    rotate_left
    ·intro u hu;go_simp;try rfl
    try simp only [Act.put,pS]
    refine rq 7 ?_ rfl (by kernel_rfl) rfl (by kernel_rfl) rfl ?_ S0 ?_
    rotate_left
    ·intro u hu;go_simp;try rfl
    try simp only [Act.put,pS]
    refine rq 9 ?_ rfl (by kernel_rfl) rfl (by kernel_rfl) rfl ?_ S0 ?_
    rotate_left
    ·intro u hu;go_simp;try rfl
    try simp only [Act.put,pS]
    refine rq 4 ?_ rfl (by kernel_rfl) rfl (by kernel_rfl) rfl ?_ S0 ?_
    rotate_left
    ·intro u hu;obtain⟨x0,x1,x2,x3,x4,x5⟩:=ag hu.mu;go_simp;try rfl
    try simp only [Act.put,pS]
    refine rq 6 ?_ rfl (by kernel_rfl) rfl (by kernel_rfl) rfl ?_ S0 ?_
    rotate_left
    ·intro u hu;obtain⟨x0,x1,x2,x3,x4,x5⟩:=ag hu.mu;go_simp;try rfl
    try simp only [Act.put,pS]
    refine rq 8 ?_ rfl (by kernel_rfl) rfl (by kernel_rfl) rfl ?_ S0 ?_
    rotate_left
    ·intro u hu;obtain⟨x0,x1,x2,x3,x4,x5⟩:=ag hu.mu;go_simp;try rfl
    try simp only [Act.put,pS]
    refine rq 10 ?_ rfl (by kernel_rfl) rfl (by kernel_rfl) rfl ?_ S0 ?_
    rotate_left
    ·intro u hu;obtain⟨x0,x1,x2,x3,x4,x5⟩:=ag hu.mu;go_simp;try rfl
    try simp only [Act.put,pS]
    refine Any.one (i:=11) (by kernel_rfl) rfl (fun K hK=>?_)
    go_simp
    refine (KH _).mono ?_
    rintro e w' ⟨rfl,rfl⟩
    have S1:=S0
    refine hK _ _ (fun _=>S1) ?_
    clear hK K S0
    have S0:=S1
    clear S1
    try simp only [Act.put,pS]
    refine Any.one (i:=12) (by kernel_rfl) rfl (fun K hK=>?_)
    go_simp
    refine (Dk _).mono ?_
    rintro e w' ⟨rfl,rfl⟩
    have S1:=S0
    refine hK _ _ (fun _=>S1) ?_
    clear hK K S0
    have S0:=S1
    clear S1
    try simp only [Act.put,pS]
    refine Any.one (i:=13) (by kernel_rfl) rfl (fun K hK=>?_)
    go_simp
    have S1:=S0
    refine hK _ _ (fun _=>S1) ?_
    clear hK K S0
    have S0:=S1
    clear S1
    try simp only [Act.put,pS]
    refine Any.one (i:=14) (by kernel_rfl) rfl (fun K hK=>?_)
    go_simp
    have S1:=C6.out
    refine hK _ _ (fun _=>S1) ?_
    clear hK K S0
    have S0:=S1
    clear S1
    try simp only [Act.put,pS]
    refine Any.one (i:=15) (by kernel_rfl) rfl (fun K hK=>?_)
    go_simp
    refine IC.out.mono ?_
    rintro e w7 ⟨A',c',rfl,ho,hg,hb⟩
    have T7:=hid (O6.out.k.nQ hg (Nat.le_trans HB.out D6.out.size))
    have HO:=hid ho
    have C7:=hid (C6.out.bE T7.out (by decide) (by decide))
    have f1:=af C7.out.st 1
    have S1:=C7.out
    clear ho hg hb
    refine hK _ _ (fun _=>S1) ?_
    clear hK K S0
    have S0:=S1
    clear S1
    try simp only [Act.put,pS]
    refine Any.one (i:=16) (by kernel_rfl) rfl (fun K hK=>?_)
    go_simp
    have S1:=S0
    refine hK _ _ (fun _=>S1) ?_
    clear hK K S0
    have S0:=S1
    clear S1
    try simp only [Act.put,pS]
    refine Any.one (i:=17) (by kernel_rfl) rfl (fun K hK=>?_)
    go_simp
    have y1:=(aa S0.st).2
    go_simp
    refine hK _ _ (fun z=>absurd rfl z) ?_
    clear hK K S0
    try simp only [Act.put,pS]
    refine Any.done (by kernel_rfl) ?_
    obtain⟨ns,hns⟩:=nm (s.ms.take pp++(⟨⟨id,list,text,false,f,Fl.iF,[]⟩,none,0⟩:aN) :: s.ms.drop pp)
    have LN:Hid (ns.length=s.ms.length+1):=hid (by rw [← hns,List.length_append,List.length_cons,List.length_take,List.length_drop];omega)
    have O7:Hid (OS { s with A2:=A',ms:=ns,c2:=c' } B w7):=hid ⟨O6.out.l.bE T7.out (by decide),by
     have ho:=HO.out
     rw [eU,fP] at ho
     have e:ai ns=ai (s.ms.take pp)++aA (⟨⟨id,list,text,false,f,Fl.iF,[]⟩,none,0⟩:aN)++ai (s.ms.drop pp):=by rw [← hns];simp [ai]
     show dZ w7 B _ 7 A' ns.length c' (ai ns)
     rw [LN.out,e]
     exact ho,by
     show bI w7 B ns
     rw [← hns]
     exact (O6.out.t.bE T7.out (by decide)).ins rfl rfl⟩
    have ER:Hid (R=(0,⟨s.ls,ay ns⟩)):=hid (by
     refine HR.out.symm.trans ((T9.JJ HH.out HH2.out (by show ¬ 60≤(ay s.ms).length;rw [aK];exact h60)).trans ?_)
     refine congrArg (fun z=>((0:Int),T9.St.mk s.ls z)) ?_
     have e:=insK_at (ls:=ay s.ms) (x:=⟨id,list,text,false,f,Fl.iF,[]⟩) HH.out
     rw [show T9.dW (ay s.ms) (T9.Tk.mk id list text false f Fl.iF []).id=pp from HP.out] at e
     refine e.trans ?_
     rw [← hns]
     unfold ay
     rw [List.map_append,List.map_cons,List.map_take,List.map_drop])
    have TL:=C7.out.F6 A' ns c'
    rw [LN.out] at TL
    obtain⟨w8,hw8⟩:=nm (w7.setCell ⟨w.heap.size,1,none⟩ (.slice A' (s.ms.length+1) c'))
    rw [hw8] at TL
    have C8:=hid TL.1
    have T8:=hid TL.2
    have O8:=hid (O7.out.bE T8.out (by decide) (by decide) (by decide))
    have D8:Hid (Below B w w8):=hid ((D6.out.trans T7.out.below).trans (T8.out.below.mono HB.out))
    clear TL hns s0 s1 m0 m1 m2 m3 m4 m5
    obtain⟨wz,hwz⟩:=nm ((w8.setCell ⟨w.heap.size+2,0,none⟩ (Value.slice s.A s.ls.length s.c)).setCell ⟨w.heap.size+2,1,none⟩ (Value.slice A' (s.ms.length+1) c'))
    have FN:=hid (C8.out.fin (w':=wz) O8.out.MM (by dsimp only;rw [LN.out];exact hwz))
    have g0:=af C8.out.rv 0
    have g1:=af C8.out.rv 1
    obtain⟨u0,u1⟩:=aa C8.out.st
    obtain⟨v0,v1⟩:=aa C8.out.rv
    have y0:=FN.out.2.2.1
    have y1:=FN.out.2.2.2
    dsimp only at u0 u1 y0 y1
    try rw [LN.out] at u0
    try rw [LN.out] at u1
    try rw [LN.out] at y0
    try rw [LN.out] at y1
    go_wp2
    refine bodyPost_ret (v:=.agg #[Value.slice s.A s.ls.length s.c,Value.slice A' (s.ms.length+1) c']) (by simp [results,results79,go_sem,y0,y1]) rfl ?_
    have G:=dO.good (r:=R) (B:=B) (w:=w) ((D8.out).trans (FN.out.2.1.mono HB.out)) FN.out.1 ER.out
    unfold aQ.val at G
    dsimp only at G
    rw [LN.out] at G
    exact G
end
end
end Go.Proofs.YtcmiompdjjiojaaGreat
