import Derived.Test.YtcedlgedmkghgaaGreatZ14
import Derived.Test.YtcedlgedmkghgaaGreatZ31
import Derived.Test.YtcedlgedmkghgaaGreatZ37
namespace Go.Proofs.YtcedlgedmkghgaaGreat
set_option maxHeartbeats 16000000
open Go.Lib Go.Proofs.Tryz
set_option linter.unusedSimpArgs false
set_option maxRecDepth 100000
section
section
open Go.RowKit Go.Lib
theorem chg11_c {s:aW} {u:T9.Mu} {B:Nat} {w:World} (h:OS s B w) (hB:B≤w.heap.size) (hr:T9.aH s.st=0) (hk:u.kind=11) :
  Calls prog 142 #[s.val,u.val] w (dM (T9.eB s.st u) B w):=by
 obtain⟨kd,id,list,text,f,flag⟩:=u
 obtain rfl:kd=11:=hk
 obtain⟨w1,hw1⟩:∃ v,w.alloc (.cells #[.slice s.A s.ls.length s.c,.slice s.A2 s.ms.length s.c2] 25)=v:=⟨_,rfl⟩
 obtain⟨w2,hw2⟩:∃ v,w1.alloc (.cells #[.int .i64 11,.int .u64 (id:Int),.int .u64 (list:Int),.string (str text),.float .f64 f,.bool flag] 65)=v:=⟨_,rfl⟩
 obtain⟨w3,hw3⟩:∃ v,w2.alloc (.cells #[.slice none 0 0,.slice none 0 0] 25)=v:=⟨_,rfl⟩
 obtain⟨cf,b3,z1,z2⟩:=CF.start (s:=s) (m:=⟨11,id,list,text,f,flag⟩) (B:=B) hw1 hw2 hw3
 have C3:=hid cf
 have B3:=hid b3
 have O3:=hid (h.stay b3)
 have HB:=hid hB
 have O0:=hid h
 have UL:=hid (iJ hr)
 have UK:=hid (iI hr)
 obtain⟨s0,s1⟩:=aa cf.st
 obtain⟨m0,m1,m2,m3,m4,m5⟩:=ag cf.mu
 have nl:s.ls.length≤20:=(T9.aD hr).1
 have nk:s.ms.length≤60:=by have:=(T9.aD hr).2.1;simpa [aW.st,ay] using this
 obtain⟨R,hR⟩:∃ r,T9.eB s.st ⟨11,id,list,text,f,flag⟩=r:=⟨_,rfl⟩
 rw [hR]
 have HR:=hid hR
 have Dh:=hid hr
 unfold aW.val T9.Mu.val
 dsimp only
 clear h hB hr cf b3 hR
 obtain⟨pp,fP⟩:∃ b,T9.dV (ay s.ms) id=b:=⟨_,rfl⟩
 have HP:=hid fP
 cases gK:T9.d_ (ay s.ms) id with
 | false =>
  have LC:=hid (mr (id:=id) O3.out.sm (by omega) UK.out gK)
  have e:R=(93,s.st):=HR.out.symm.trans (T9.lV (by omega) gK)
  have E:=hid e
  unfold aW.val at LC
  clear fP gK e
  go_enter func142,ntmps142
  go_wp2_with fail
  refine LC.out.mono ?_
  rintro e w4 ⟨rfl,h4⟩
  have B4:=hid (B3.out.trans (h4.mono B3.out.size))
  rw [E.out]
  exact⟨rfl,dM.bad (B4.out.mono HB.out) (show (93:Int)≠0 by decide)⟩
 | true =>
  have LC:=hid (lg (id:=id) O3.out.sm (by omega) UK.out gK)
  rw [fP] at LC
  have HH:=hid gK
  have PP:pp<s.ms.length:=by
   obtain⟨y,hy,_⟩:=(T9.kY UK.out).1 gK
   have z:T9.dV (ay s.ms) id<(ay s.ms).length:=(List.getElem?_eq_some_iff.1 hy).1
   rw [fP,aI] at z
   exact z
  unfold aW.val at LC
  clear fP gK
  go_enter func142,ntmps142
  go_wp2_with fail
  refine LC.out.mono ?_
  rintro e w4 ⟨rfl,h4⟩
  have C4:=hid (C3.out.stay h4)
  have O4:=hid (O3.out.stay h4)
  have B4:=hid (B3.out.trans (h4.mono B3.out.size))
  have D4:=hid (B4.out.mono HB.out)
  clear h4
  clear s0 s1 m0 m1 m2 m3 m4 m5
  obtain⟨s0,s1⟩:=aa C4.out.st
  obtain⟨m0,m1,m2,m3,m4,m5⟩:=ag C4.out.mu
  have jD:IntKind.i64.wrap ((pp:Int)+1)=(pp:Int)+1:=by rw [IntKind.wrap_i64];omega
  obtain⟨ns,hns⟩:∃ l,s.ms.take pp++s.ms.drop (pp+1)=l:=⟨_,rfl⟩
  have Jz:=hid hns
  have LN:ns.length=s.ms.length - 1:=by rw [← hns,List.length_append,List.length_take,List.length_drop];omega
  have DL0:=yh (p:=pp) O4.out.k (cB _) PP (by omega)
  rw [← LN,eQ,fI] at DL0
  have DL:=hid DL0
  clear DL0 LN hns
  go_wp2_with fail
  refine DL.out.mono ?_
  rintro e w5 ⟨A',c',rfl,ho,hg,hb⟩
  have T5:=hid (O4.out.k.mH hg (Nat.le_trans HB.out D4.out.size))
  have O5:Hid (OS { s with A2:=A',ms:=ns,c2:=c' } B w5):=hid ⟨O4.out.l.bH T5.out (by decide),by
   have e:ai ns=ai (s.ms.take pp)++ai (s.ms.drop (pp+1)):=by rw [← Jz.out];simp [ai]
   show dX w5 B _ 7 A' ns.length c' (ai ns)
   rw [e]
   exact ho,(O4.out.t.bH T5.out (by decide)).sub (by show ns.Sublist s.ms;rw [← Jz.out];exact cut_sub _ _)⟩
  have C5:=hid (C4.out.bH T5.out (by decide) (by decide))
  have D5:Hid (Below B w w5):=hid (D4.out.trans T5.out.below)
  clear ho hg hb s0 s1 m0 m1 m2 m3 m4 m5
  obtain⟨s0,s1⟩:=aa C5.out.st
  have f1:=af C5.out.st 1
  have TL:=C5.out.C_ A' ns c'
  obtain⟨w6,uX⟩:∃ v,w5.setCell ⟨w.heap.size,1,none⟩ (.slice A' ns.length c')=v:=⟨_,rfl⟩
  rw [uX] at TL
  have C6:=hid TL.1
  have T6:=hid TL.2
  have O6:=hid (O5.out.bH T6.out (by decide) (by decide) (by decide))
  have D6:Hid (Below B w w6):=hid (D5.out.trans (T6.out.below.mono HB.out))
  clear TL
  have ER:Hid (R=(0,⟨s.ls,ay ns⟩)):=hid (by
   refine HR.out.symm.trans ((T9.wG HH.out).trans ?_)
   rw [T9.Cj UK.out HH.out,← Jz.out]
   refine congrArg (fun z=>((0:Int),T9.St.mk _ z)) ?_
   rw [show T9.dV s.st.tasks id=pp from HP.out]
   unfold ay aW.st ay
   dsimp only
   rw [List.map_append,List.map_take,List.map_drop])
  obtain⟨wz,hwz⟩:∃ v,(w6.setCell ⟨w.heap.size+2,0,none⟩ (Value.slice s.A s.ls.length s.c)).setCell ⟨w.heap.size+2,1,none⟩ (Value.slice A' ns.length c')=v:=⟨_,rfl⟩
  have FN:=hid (C6.out.fin (w':=wz) O6.out.JG (by dsimp only;exact hwz))
  have g0:=af C6.out.rv 0
  have g1:=af C6.out.rv 1
  obtain⟨u0,u1⟩:=aa C6.out.st
  obtain⟨v0,v1⟩:=aa C6.out.rv
  have y0:=FN.out.2.2.1
  have y1:=FN.out.2.2.2
  dsimp only at u0 u1 y0 y1
  skip
  go_wp2
  refine bodyPost_ret (v:=.agg #[Value.slice s.A s.ls.length s.c,Value.slice A' ns.length c']) (by simp [results,results142,go_sem,y0,y1]) rfl ?_
  have G:=dM.good (r:=R) (B:=B) (w:=w) ((D6.out).trans (FN.out.2.1.mono HB.out)) FN.out.1 ER.out
  unfold aW.val at G
  dsimp only at G
  skip
  exact G
theorem chg13_c {s:aW} {u:T9.Mu} {B:Nat} {w:World} (h:OS s B w) (hB:B≤w.heap.size) (hr:T9.aH s.st=0) (hk:u.kind=13) (ho:s.st.ok) :
  Calls prog 142 #[s.val,u.val] w (dM (T9.eB s.st u) B w):=by
 obtain⟨kd,id,list,text,f,flag⟩:=u
 obtain rfl:kd=13:=hk
 obtain⟨w1,hw1⟩:∃ v,w.alloc (.cells #[.slice s.A s.ls.length s.c,.slice s.A2 s.ms.length s.c2] 25)=v:=⟨_,rfl⟩
 obtain⟨w2,hw2⟩:∃ v,w1.alloc (.cells #[.int .i64 13,.int .u64 (id:Int),.int .u64 (list:Int),.string (str text),.float .f64 f,.bool flag] 65)=v:=⟨_,rfl⟩
 obtain⟨w3,hw3⟩:∃ v,w2.alloc (.cells #[.slice none 0 0,.slice none 0 0] 25)=v:=⟨_,rfl⟩
 obtain⟨cf,b3,z1,z2⟩:=CF.start (s:=s) (m:=⟨13,id,list,text,f,flag⟩) (B:=B) hw1 hw2 hw3
 have C3:=hid cf
 have B3:=hid b3
 have O3:=hid (h.stay b3)
 have HB:=hid hB
 have O0:=hid h
 have UL:=hid (iJ hr)
 have UK:=hid (iI hr)
 obtain⟨s0,s1⟩:=aa cf.st
 obtain⟨m0,m1,m2,m3,m4,m5⟩:=ag cf.mu
 have nl:s.ls.length≤20:=(T9.aD hr).1
 have nk:s.ms.length≤60:=by have:=(T9.aD hr).2.1;simpa [aW.st,ay] using this
 obtain⟨R,hR⟩:∃ r,T9.eB s.st ⟨13,id,list,text,f,flag⟩=r:=⟨_,rfl⟩
 rw [hR]
 have HR:=hid hR
 have Dh:=hid hr
 unfold aW.val T9.Mu.val
 dsimp only
 clear h hB hr cf b3 hR
 have TGS:Hid (∀ m∈s.ms,m.t.tags.length<20):=hid fun m hm=>by
  have q:=((T9.cu.1 (T9.aD Dh.out).2.2.2).1 m.t (List.mem_map.2 ⟨m,hm,rfl⟩)).2.1
  have:=(T9.b_ q).2.2.2.2.1
  omega
 have RKS:Hid (∀ m∈s.ms,m.t.rank<18446744073709551616):=hid fun m hm=>(ho.2 m.t (List.mem_map.2 ⟨m,hm,rfl⟩)).2.2.1
 clear ho
 obtain⟨pp,fP⟩:∃ b,T9.iM (s.ls) list=b:=⟨_,rfl⟩
 have HP:=hid fP
 cases gK:T9.bC (s.ls) list with
 | false =>
  have LC:=hid (jr (id:=list) O3.out.sm (by omega) UL.out gK)
  have e:R=(91,s.st):=HR.out.symm.trans (T9.Ch  gK)
  have E:=hid e
  unfold aW.val at LC
  clear fP gK e
  go_enter func142,ntmps142
  go_wp2_with fail
  refine LC.out.mono ?_
  rintro e w4 ⟨rfl,h4⟩
  have B4:=hid (B3.out.trans (h4.mono B3.out.size))
  rw [E.out]
  exact⟨rfl,dM.bad (B4.out.mono HB.out) (show (91:Int)≠0 by decide)⟩
 | true =>
  have LC:=hid (iQ (id:=list) O3.out.sm (by omega) UL.out gK)
  rw [fP] at LC
  have HH:=hid gK
  have PP:pp<s.ls.length:=by
   obtain⟨y,hy,_⟩:=(T9.oU UL.out).1 gK
   have z:T9.iM (s.ls) list<(s.ls).length:=(List.getElem?_eq_some_iff.1 hy).1
   rw [fP] at z
   exact z
  unfold aW.val at LC
  clear fP gK
  go_enter func142,ntmps142
  go_wp2_with fail
  refine LC.out.mono ?_
  rintro e w4 ⟨rfl,h4⟩
  have C4:=hid (C3.out.stay h4)
  have O4:=hid (O3.out.stay h4)
  have B4:=hid (B3.out.trans (h4.mono B3.out.size))
  have D4:=hid (B4.out.mono HB.out)
  clear h4
  clear s0 s1 m0 m1 m2 m3 m4 m5
  obtain⟨s0,s1⟩:=aa C4.out.st
  obtain⟨m0,m1,m2,m3,m4,m5⟩:=ag C4.out.mu
  have SC:=hid (Jf (c:=s.c) (c2:=s.c2) (list:=list) O4.out.sm.l O4.out.sm.k rfl rfl (by omega) (by omega) TGS.out RKS.out)
  go_wp2_with fail
  refine SC.out.mono ?_
  rintro e w5 ⟨q,l,rfl,_,h5,ho,hst,hmt⟩
  have M5:=hid hmt
  have C5:=hid (C4.out.stay h5)
  have D5:Hid (Below B w w5):=hid (D4.out.trans (h5.mono (Nat.le_trans HB.out D4.out.size)))
  have ER:Hid (R=(0,q.st)):=hid (by
   refine HR.out.symm.trans ((T9.wI HH.out).trans ?_)
   have cn:T9.canon ⟨s.ls,ay s.ms⟩=⟨s.ls,ay s.ms⟩:=T9.kg Dh.out
   rw [cn] at ho
   rw [hst,cn,T9.ordK_of ho (T9.Jh (T9.cu.1 (T9.aD Dh.out).2.2.2).2)]
   rfl)
  obtain⟨zR,qA,qc,nms,qA2,qc2⟩:=q
  unfold aW.val
  dsimp only
  clear h5 ho hst hmt s0 s1 m0 m1 m2 m3 m4 m5
  obtain⟨s0,s1⟩:=aa C5.out.st
  have f0:=af C5.out.st 0
  have f1:=af C5.out.st 1
  have TL:=C5.out.turn (q:=⟨zR,qA,qc,nms,qA2,qc2⟩)
  dsimp only at TL
  obtain⟨w6,uX⟩:∃ v,(w5.setCell ⟨w.heap.size,0,none⟩ (.slice qA zR.length qc)).setCell ⟨w.heap.size,1,none⟩ (.slice qA2 nms.length qc2)=v:=⟨_,rfl⟩
  rw [uX] at TL
  have C6:=hid TL.1
  have T6:=hid TL.2
  have M6:=hid (M5.out.bH T6.out (by decide) (by decide) (by decide))
  have D6:Hid (Below B w w6):=hid (D5.out.trans (T6.out.below.mono HB.out))
  clear TL
  obtain⟨wz,hwz⟩:∃ v,(w6.setCell ⟨w.heap.size+2,0,none⟩ (Value.slice qA zR.length qc)).setCell ⟨w.heap.size+2,1,none⟩ (Value.slice qA2 nms.length qc2)=v:=⟨_,rfl⟩
  have FN:=hid (C6.out.fin (w':=wz) M6.out (by dsimp only;exact hwz))
  have g0:=af C6.out.rv 0
  have g1:=af C6.out.rv 1
  obtain⟨u0,u1⟩:=aa C6.out.st
  obtain⟨v0,v1⟩:=aa C6.out.rv
  have y0:=FN.out.2.2.1
  have y1:=FN.out.2.2.2
  dsimp only at u0 u1 y0 y1
  skip
  go_wp2
  refine bodyPost_ret (v:=.agg #[Value.slice qA zR.length qc,Value.slice qA2 nms.length qc2]) (by simp [results,results142,go_sem,y0,y1]) rfl ?_
  have G:=dM.good (r:=R) (B:=B) (w:=w) ((D6.out).trans (FN.out.2.1.mono HB.out)) FN.out.1 ER.out
  unfold aW.val at G
  dsimp only at G
  skip
  exact G
end
section
open Go.RowKit Go.Lib
theorem chg6_c {s:aW} {u:T9.Mu} {B:Nat} {w:World} (h:OS s B w) (hB:B≤w.heap.size) (hr:T9.aH s.st=0) (hk:u.kind=6) :
  Calls prog 142 #[s.val,u.val] w (dM (T9.eB s.st u) B w):=by
 obtain⟨kd,id,list,text,f,flag⟩:=u
 obtain rfl:kd=6:=hk
 obtain⟨w1,hw1⟩:∃ v,w.alloc (.cells #[.slice s.A s.ls.length s.c,.slice s.A2 s.ms.length s.c2] 25)=v:=⟨_,rfl⟩
 obtain⟨w2,hw2⟩:∃ v,w1.alloc (.cells #[.int .i64 6,.int .u64 (id:Int),.int .u64 (list:Int),.string (str text),.float .f64 f,.bool flag] 65)=v:=⟨_,rfl⟩
 obtain⟨w3,hw3⟩:∃ v,w2.alloc (.cells #[.slice none 0 0,.slice none 0 0] 25)=v:=⟨_,rfl⟩
 obtain⟨cf,b3,z1,z2⟩:=CF.start (s:=s) (m:=⟨6,id,list,text,f,flag⟩) (B:=B) hw1 hw2 hw3
 have C3:=hid cf
 have B3:=hid b3
 have O3:=hid (h.stay b3)
 have HB:=hid hB
 have O0:=hid h
 have UL:=hid (iJ hr)
 have UK:=hid (iI hr)
 obtain⟨s0,s1⟩:=aa cf.st
 obtain⟨m0,m1,m2,m3,m4,m5⟩:=ag cf.mu
 have nl:s.ls.length≤20:=(T9.aD hr).1
 have nk:s.ms.length≤60:=by have:=(T9.aD hr).2.1;simpa [aW.st,ay] using this
 obtain⟨R,hR⟩:∃ r,T9.eB s.st ⟨6,id,list,text,f,flag⟩=r:=⟨_,rfl⟩
 rw [hR]
 have HR:=hid hR
 have Dh:=hid hr
 unfold aW.val T9.Mu.val
 dsimp only
 clear h hB hr cf b3 hR
 obtain⟨pp,fP⟩:∃ b,T9.dV (ay s.ms) id=b:=⟨_,rfl⟩
 have HP:=hid fP
 cases gK:T9.d_ (ay s.ms) id with
 | false =>
  have LC:=hid (mr (id:=id) O3.out.sm (by omega) UK.out gK)
  have e:R=(93,s.st):=HR.out.symm.trans (T9.lV (by omega) gK)
  have E:=hid e
  unfold aW.val at LC
  clear fP gK e
  go_enter func142,ntmps142
  go_wp2_with fail
  refine LC.out.mono ?_
  rintro e w4 ⟨rfl,h4⟩
  have B4:=hid (B3.out.trans (h4.mono B3.out.size))
  rw [E.out]
  exact⟨rfl,dM.bad (B4.out.mono HB.out) (show (93:Int)≠0 by decide)⟩
 | true =>
  have LC:=hid (lg (id:=id) O3.out.sm (by omega) UK.out gK)
  rw [fP] at LC
  have HH:=hid gK
  have PP:pp<s.ms.length:=by
   obtain⟨y,hy,_⟩:=(T9.kY UK.out).1 gK
   have z:T9.dV (ay s.ms) id<(ay s.ms).length:=(List.getElem?_eq_some_iff.1 hy).1
   rw [fP,aI] at z
   exact z
  unfold aW.val at LC
  clear fP gK
  go_enter func142,ntmps142
  go_wp2_with fail
  refine LC.out.mono ?_
  rintro e w4 ⟨rfl,h4⟩
  have C4:=hid (C3.out.stay h4)
  have O4:=hid (O3.out.stay h4)
  have B4:=hid (B3.out.trans (h4.mono B3.out.size))
  have D4:=hid (B4.out.mono HB.out)
  clear h4
  clear s0 s1 m0 m1 m2 m3 m4 m5
  obtain⟨s0,s1⟩:=aa C4.out.st
  obtain⟨m0,m1,m2,m3,m4,m5⟩:=ag C4.out.mu
  cases AP:T9.bC s.ls list with
  | false =>
   have Di:=hid (jr (id:=list) O4.out.sm (by omega) UL.out AP)
   have ER:Hid (R.1=91):=hid (by
    rw [show R=_ from HR.out.symm.trans (T9.lW (by omega) HH.out)]
    show (T9.oD (T9.bC s.ls list) _ _).1=91
    rw [AP]
    rfl)
   unfold aW.val at Di
   clear AP
   go_wp2_with fail
   refine Di.out.mono ?_
   rintro e w5 ⟨rfl,h5⟩
   have D5:=hid (D4.out.trans (h5.mono (Nat.le_trans HB.out D4.out.size)))
   have G:=dM.bad (r:=R) D5.out (by rw [ER.out];decide)
   rw [ER.out] at G
   exact⟨rfl,G⟩
  | true =>
   have Di:=hid (iQ (id:=list) O4.out.sm (by omega) UL.out AP)
   obtain⟨p2,hp2⟩:∃ p,T9.iM s.ls list=p:=⟨_,rfl⟩
   rw [hp2] at Di
   obtain⟨g,hgA,c0,own⟩:=O4.out.k.parts.resolve_left (fun z=>by omega)
   obtain⟨x,hx⟩:∃ x,s.ms[pp]?=some x:=⟨_,List.getElem?_eq_getElem PP⟩
   have X:=hid hx
   have FX:Hid (x.t=(T9.dH (ay s.ms) id).1∧x.t.id=id):=hid (by
    have q:=T9.ym UK.out HH.out
    rw [show T9.dV s.st.tasks id=pp from HP.out,show s.st.tasks=ay s.ms from rfl,gZ hx] at q
    injection q.1 with q1
    exact⟨q1,by rw [q1];exact q.2⟩)
   have HL2:=hid AP
   have HGA:=hid hgA
   have OWG:=hid own
   unfold aW.val at Di
   clear AP hp2 hgA own hx
   go_wp2_with fail
   refine Di.out.mono ?_
   rintro e w5 ⟨rfl,h5⟩
   have C5:=hid (C4.out.stay h5)
   have O5:=hid (O4.out.stay h5)
   have D5:=hid (D4.out.trans (h5.mono (Nat.le_trans HB.out D4.out.size)))
   have KS5:Hid (KS w5 B g s.ms.length s.c2 s.ms):=hid ⟨own_below OWG.out h5,O5.out.t⟩
   clear s0 s1 m0 m1 m2 m3 m4 m5 h5
   obtain⟨s0,s1⟩:=aa C5.out.st
   obtain⟨m0,m1,m2,m3,m4,m5⟩:=ag C5.out.mu
   have q1:=KS5.out.cell X.out 1 _ rfl
   have q4:=KS5.out.cell X.out 4 _ rfl
   have jl:=KS5.out.free (pp * 7+1)
   have fr4:=KS5.out.free (pp * 7+4)
   have ppz:(pp:Int)<(s.ms.length:Int):=by omega
   have glt:g<w.heap.size:=by
    obtain⟨g2,e2,_,q⟩:=O0.out.k.parts.resolve_left (fun z=>by omega)
    rw [HGA.out] at e2
    injection e2 with e2
    injection e2 with e2
    subst e2
    exact (q.lt g rfl).2
   have n1:¬ (w.heap.size=g):=by omega
   have n2:¬ (w.heap.size+1=g):=by omega
   have n3:¬ (g=w.heap.size):=by omega
   have n4:¬ (g=w.heap.size+1):=by omega
   rw [HGA.out] at s1
   go_wp2_with fail
   go_region
   obtain⟨k1,t1⟩:=KS5.out.put (j:=1) (x':=⟨{ x.t with list:=list },x.A,x.c⟩) (v:=.int .u64 (list:Int)) X.out (by decide) rfl rfl rfl rfl
   have X1:(s.ms.set pp ⟨{ x.t with list:=list },x.A,x.c⟩)[pp]?=some ⟨{ x.t with list:=list },x.A,x.c⟩:=List.getElem?_set_self PP
   obtain⟨k2,t2⟩:=k1.put (j:=4) (x':=⟨{ x.t with list:=list,rank:=f },x.A,x.c⟩) (v:=.float .f64 f) X1 (by decide) rfl rfl rfl rfl
   rw [List.set_set] at k2
   obtain⟨ns,hns⟩:∃ l,s.ms.set pp ⟨{ x.t with list:=list,rank:=f },x.A,x.c⟩=l:=⟨_,rfl⟩
   rw [hns] at k2
   have xP:Hid (ns.length=s.ms.length):=hid (by rw [← hns,List.length_set])
   have ER:Hid (R=(0,⟨s.ls,ay ns⟩)):=hid (by
    refine HR.out.symm.trans ((T9.lW (by omega) HH.out).trans ?_)
    rw [show s.st.tasks=ay s.ms from rfl,← FX.out.1,show T9.bC s.st.lists list=true from HL2.out]
    refine congrArg (fun z=>((0:Int),T9.St.mk s.ls z)) ?_
    have e:=T9.Ck (l:=ay s.ms) (id:=id) (t:=(T9.oD true ⟨6,id,list,text,f,flag⟩ x.t).2) UK.out HH.out FX.out.2
    rw [show T9.dV (ay s.ms) id=pp from HP.out] at e
    refine e.trans ?_
    rw [← hns]
    unfold ay
    rw [List.map_set]
    rfl)
   obtain⟨w7,hw7⟩:∃ v,((w5.setCell ⟨g,pp * 7+1,none⟩ (.int .u64 (list:Int))).setCell ⟨g,pp * 7+4,none⟩ (.float .f64 f)).drew=v:=⟨_,rfl⟩
   rw [hw7]
   have T7:Hid (aN B [74,9] w5 w7):=hid (by rw [← hw7];exact (t1.trans t2).drew)
   have O7:Hid (OS { s with ms:=ns } B w7):=hid (by
    refine⟨O5.out.l.bH T7.out (by decide),.inr ⟨g,HGA.out,?_⟩,?_⟩
    ·show w7.ownsRow B _ 7 (.slice (some ⟨g,0,none⟩) ns.length s.c2) ns.length (ai ns)
     rw [xP.out,← hw7]
     exact bZ k2.row
    ·rw [← hw7]
     exact k2.tags)
   have C7:Hid (CF { s with ms:=ns } ⟨6,id,list,text,f,flag⟩ B w.heap.size w7):=hid (by
    have z:=C5.out.bH T7.out (by decide) (by decide)
    exact⟨by show w7.heap[w.heap.size]?=some (.cells #[.slice s.A s.ls.length s.c,.slice s.A2 ns.length s.c2] _ (0,0));rw [xP.out];exact z.st,z.mu,z.rv⟩)
   have D7:Hid (Below B w w7):=hid (D5.out.trans T7.out.below)
   clear k1 k2 t1 t2 X1 hns hw7 s0 s1 q1 q4 jl fr4 m0 m1 m2 m3 m4 m5
   obtain⟨wz,hwz⟩:∃ v,(w7.setCell ⟨w.heap.size+2,0,none⟩ (Value.slice s.A s.ls.length s.c)).setCell ⟨w.heap.size+2,1,none⟩ (Value.slice s.A2 s.ms.length s.c2)=v:=⟨_,rfl⟩
   have FN:=hid (C7.out.fin (w':=wz) O7.out.JG (by dsimp only;rw [xP.out];exact hwz))
   have g0:=af C7.out.rv 0
   have g1:=af C7.out.rv 1
   obtain⟨u0,u1⟩:=aa C7.out.st
   obtain⟨v0,v1⟩:=aa C7.out.rv
   have y0:=FN.out.2.2.1
   have y1:=FN.out.2.2.2
   dsimp only at u0 u1 y0 y1
   try rw [xP.out] at u0
   try rw [xP.out] at u1
   try rw [xP.out] at y0
   try rw [xP.out] at y1
   go_wp2
   refine bodyPost_ret (v:=.agg #[Value.slice s.A s.ls.length s.c,Value.slice s.A2 s.ms.length s.c2]) (by simp [results,results142,go_sem,y0,y1]) rfl ?_
   have G:=dM.good (r:=R) (B:=B) (w:=w) ((D7.out).trans (FN.out.2.1.mono HB.out)) FN.out.1 ER.out
   unfold aW.val at G
   dsimp only at G
   rw [xP.out] at G
   exact G
end
section
open Go.RowKit Go.Lib
theorem qd {s:aW} {u:T9.Mu} {B:Nat} {w:World} (h:OS s B w) (hB:B≤w.heap.size) (hr:T9.aH s.st=0) (hk:u.kind=4∨u.kind=5∨u.kind=7∨u.kind=8∨u.kind=9∨u.kind=10) (hCT:∀ (g n c i:Nat) (ms:List aL) (x:aL) (w':World),KS w' B g n c ms→ms[i]?=some x→B≤w'.heap.size→Sr.Str T9.dL x.t.tags→x.t.tags.length≤100→Calls prog 209 #[.pointer (some ⟨g,i * 7,none⟩),u.val] w' (xN (T9.oD true u x.t) B g n c ms i w')) :
  Calls prog 142 #[s.val,u.val] w (dM (T9.eB s.st u) B w):=by
 obtain⟨kd,id,list,text,f,flag⟩:=u
 have hk:kd=4∨kd=5∨kd=7∨kd=8∨kd=9∨kd=10:=hk
 obtain⟨w1,hw1⟩:∃ v,w.alloc (.cells #[.slice s.A s.ls.length s.c,.slice s.A2 s.ms.length s.c2] 25)=v:=⟨_,rfl⟩
 obtain⟨w2,hw2⟩:∃ v,w1.alloc (.cells #[.int .i64 kd,.int .u64 (id:Int),.int .u64 (list:Int),.string (str text),.float .f64 f,.bool flag] 65)=v:=⟨_,rfl⟩
 obtain⟨w3,hw3⟩:∃ v,w2.alloc (.cells #[.slice none 0 0,.slice none 0 0] 25)=v:=⟨_,rfl⟩
 obtain⟨cf,b3,z1,z2⟩:=CF.start (s:=s) (m:=⟨kd,id,list,text,f,flag⟩) (B:=B) hw1 hw2 hw3
 have C3:=hid cf
 have B3:=hid b3
 have O3:=hid (h.stay b3)
 have HB:=hid hB
 have O0:=hid h
 have UL:=hid (iJ hr)
 have UK:=hid (iI hr)
 obtain⟨s0,s1⟩:=aa cf.st
 obtain⟨m0,m1,m2,m3,m4,m5⟩:=ag cf.mu
 have nl:s.ls.length≤20:=(T9.aD hr).1
 have nk:s.ms.length≤60:=by have:=(T9.aD hr).2.1;simpa [aW.st,ay] using this
 obtain⟨R,hR⟩:∃ r,T9.eB s.st ⟨kd,id,list,text,f,flag⟩=r:=⟨_,rfl⟩
 rw [hR]
 have HR:=hid hR
 have Dh:=hid hr
 unfold aW.val T9.Mu.val
 dsimp only
 have HCT:=hid hCT
 have HK:=hid hk
 have e1:(kd==1)=false:=by rw [beq_eq_false_iff_ne];omega
 have e2:(kd==2)=false:=by rw [beq_eq_false_iff_ne];omega
 have e12:(kd==12)=false:=by rw [beq_eq_false_iff_ne];omega
 have e13:(kd==13)=false:=by rw [beq_eq_false_iff_ne];omega
 have e3:(kd==3)=false:=by rw [beq_eq_false_iff_ne];omega
 have e11:(kd==11)=false:=by rw [beq_eq_false_iff_ne];omega
 have e6:(kd==6)=false:=by rw [beq_eq_false_iff_ne];omega
 clear h hB hr cf b3 hR hCT
 obtain⟨pp,fP⟩:∃ b,T9.dV (ay s.ms) id=b:=⟨_,rfl⟩
 have HP:=hid fP
 have SF:CF s ⟨kd,id,list,text,f,flag⟩ B w.heap.size w3.drew:=C3.out.stay (Below.refl _ w3).drew
 cases gK:T9.d_ (ay s.ms) id with
 | false =>
  have LC:=hid (mr (id:=id) (w:=w3.drew) (O3.out.stay (Below.refl _ w3).drew).sm (by omega) UK.out gK)
  have e:R=(93,s.st):=HR.out.symm.trans (T9.lV (by omega) gK)
  have E:=hid e
  unfold aW.val at LC
  have HSF:=hid SF
  clear fP gK e hk SF
  go_enter func142,ntmps142
  go_wp2_with fail
  refine wp_region_held_drew (S:=fun v=>CF s ⟨kd,id,list,text,f,flag⟩ B w.heap.size v) (by kernel_rfl) (HSF.out) (fun S0=>?_)
  refine aK 0 ?_ rfl (by kernel_rfl) rfl ?_ S0 ?_
  rotate_left
  ·intro u hu;go_simp;try rfl
  try simp only [Act.put,pS]
  refine aK 1 ?_ rfl (by kernel_rfl) rfl ?_ S0 ?_
  rotate_left
  ·intro u hu;obtain⟨x0,x1⟩:=aa hu.st;go_simp;try rfl
  try simp only [Act.put,pS]
  refine aK 2 ?_ rfl (by kernel_rfl) rfl ?_ S0 ?_
  rotate_left
  ·intro u hu;obtain⟨x0,x1⟩:=aa hu.st;go_simp;try rfl
  try simp only [Act.put,pS]
  refine aK 3 ?_ rfl (by kernel_rfl) rfl ?_ S0 ?_
  rotate_left
  ·intro u hu;go_simp;try rfl
  try simp only [Act.put,pS]
  refine aK 4 ?_ rfl (by kernel_rfl) rfl ?_ S0 ?_
  rotate_left
  ·intro u hu;obtain⟨x0,x1,x2,x3,x4,x5⟩:=ag hu.mu;go_simp;try rfl
  try simp only [Act.put,pS]
  refine aK 7 ?_ rfl (by kernel_rfl) rfl ?_ S0 ?_
  rotate_left
  ·intro u hu;obtain⟨x0,x1,x2,x3,x4,x5⟩:=ag hu.mu;go_simp;try rfl
  try simp only [Act.put,pS]
  refine ax (i:=5) (by kernel_rfl) rfl (fun K hK=>?_)
  go_simp
  refine LC.out.mono ?_
  rintro e w4 ⟨rfl,h4⟩
  have D4:Below B w w4:=(B3.out.mono HB.out).trans ((Below.refl _ w3).drew.trans h4 |>.mono (Nat.le_trans HB.out B3.out.size))
  rw [E.out]
  exact⟨rfl,dM.bad D4 (show (93:Int)≠0 by decide)⟩
 | true =>
  have LC:=hid (lg (id:=id) (w:=w3.drew) (O3.out.stay (Below.refl _ w3).drew).sm (by omega) UK.out gK)
  rw [fP] at LC
  have HH:=hid gK
  have PP:pp<s.ms.length:=by
   obtain⟨y,hy,_⟩:=(T9.kY UK.out).1 gK
   have z:T9.dV (ay s.ms) id<(ay s.ms).length:=(List.getElem?_eq_some_iff.1 hy).1
   rw [fP,aI] at z
   exact z
  obtain⟨g,hgA,c0,own⟩:=O3.out.k.parts.resolve_left (fun z=>by omega)
  obtain⟨x,hx⟩:∃ x,s.ms[pp]?=some x:=⟨_,List.getElem?_eq_getElem PP⟩
  have X:=hid hx
  have FX:Hid (x.t=(T9.dH (ay s.ms) id).1∧x.t.id=id):=hid (by
   have q:=T9.ym UK.out HH.out
   rw [show T9.dV s.st.tasks id=pp from HP.out,show s.st.tasks=ay s.ms from rfl,gZ hx] at q
   injection q.1 with q1
   exact⟨q1,by rw [q1];exact q.2⟩)
  have TR:Hid (Sr.Str T9.dL x.t.tags∧x.t.tags.length≤100):=hid (by
   have q:=((T9.cu.1 (T9.aD Dh.out).2.2.2).1 x.t (List.mem_map.2 ⟨x,List.mem_of_getElem? hx,rfl⟩)).2.1
   have z:=T9.b_ q
   exact⟨(T9.lD z.2.2.2.2.2).2,by have:=z.2.2.2.2.1;omega⟩)
  have RE:Hid (R=((T9.oD true ⟨kd,id,list,text,f,flag⟩ x.t).1,⟨s.ls,Sr.ins T9.iT (T9.oD true ⟨kd,id,list,text,f,flag⟩ x.t).2 (T9.wo (ay s.ms) 0 false id)⟩)):=hid (by
   refine HR.out.symm.trans ((T9.lW (by omega) HH.out).trans ?_)
   rw [show s.st.tasks=ay s.ms from rfl,← FX.out.1]
   have e:T9.oD (T9.bC s.st.lists list) ⟨kd,id,list,text,f,flag⟩ x.t=T9.oD true ⟨kd,id,list,text,f,flag⟩ x.t:=by
    unfold T9.oD
    dsimp only
    rw [if_neg (show ¬ kd=6 by omega),if_neg (show ¬ kd=6 by omega)]
   rw [e]
   rfl)
  have IDS:Hid ((T9.oD true ⟨kd,id,list,text,f,flag⟩ x.t).2.id=id):=hid (by
   rw [← FX.out.2]
   unfold T9.oD
   repeat' split
   all_goals rfl)
  have HGA:=hid hgA
  have OWG:=hid own
  have ppz:(pp:Int)<(s.ms.length:Int):=by omega
  unfold aW.val at LC
  have HSF:=hid SF
  obtain⟨cr,hcr⟩:∃ r,T9.oD true ⟨kd,id,list,text,f,flag⟩ x.t=r:=⟨_,rfl⟩
  have HCR:=hid hcr
  rw [hcr] at RE IDS
  clear fP gK hgA own hx hk SF hcr
  go_enter func142,ntmps142
  go_wp2_with fail
  refine wp_region_held_drew (S:=fun v=>CF s ⟨kd,id,list,text,f,flag⟩ B w.heap.size v) (by kernel_rfl) (HSF.out) (fun S0=>?_)
  refine aK 0 ?_ rfl (by kernel_rfl) rfl ?_ S0 ?_
  rotate_left
  ·intro u hu;go_simp;try rfl
  try simp only [Act.put,pS]
  refine aK 1 ?_ rfl (by kernel_rfl) rfl ?_ S0 ?_
  rotate_left
  ·intro u hu;obtain⟨x0,x1⟩:=aa hu.st;go_simp;try rfl
  try simp only [Act.put,pS]
  refine aK 2 ?_ rfl (by kernel_rfl) rfl ?_ S0 ?_
  rotate_left
  ·intro u hu;obtain⟨x0,x1⟩:=aa hu.st;go_simp;try rfl
  try simp only [Act.put,pS]
  refine aK 3 ?_ rfl (by kernel_rfl) rfl ?_ S0 ?_
  rotate_left
  ·intro u hu;go_simp;try rfl
  try simp only [Act.put,pS]
  refine aK 4 ?_ rfl (by kernel_rfl) rfl ?_ S0 ?_
  rotate_left
  ·intro u hu;obtain⟨x0,x1,x2,x3,x4,x5⟩:=ag hu.mu;go_simp;try rfl
  try simp only [Act.put,pS]
  refine aK 7 ?_ rfl (by kernel_rfl) rfl ?_ S0 ?_
  rotate_left
  ·intro u hu;obtain⟨x0,x1,x2,x3,x4,x5⟩:=ag hu.mu;go_simp;try rfl
  try simp only [Act.put,pS]
  refine ax (i:=5) (by kernel_rfl) rfl (fun K hK=>?_)
  go_simp
  refine (LC.out).mono ?_
  rintro e w4 ⟨rfl,h4⟩
  have S1:=S0.stay h4
  have Ca:Hid (Below w3.heap.size w3 w4):=hid ((Below.refl _ w3).drew.trans h4)
  clear h4
  have KS4:Hid (KS w4 B g s.ms.length s.c2 s.ms):=hid ⟨own_below OWG.out Ca.out,(O3.out.stay Ca.out).t⟩
  have D4:Hid (Below B w w4):=hid ((B3.out.mono HB.out).trans (Ca.out.mono (Nat.le_trans HB.out B3.out.size)))
  have CT:=hid (HCT.out g s.ms.length s.c2 pp s.ms x w4 KS4.out X.out (Nat.le_trans HB.out D4.out.size) TR.out.1 TR.out.2)
  unfold T9.Mu.val at CT
  dsimp only at CT
  rw [HCR.out] at CT
  refine hK _ _ S1 ?_
  clear hK K S0
  have S0:=S1
  clear S1
  try simp only [Act.put,pS]
  rw [HGA.out]
  refine aK 6 ?_ rfl (by kernel_rfl) rfl ?_ S0 ?_
  rotate_left
  ·intro u hu;go_simp;try rfl
  try simp only [Act.put,pS]
  refine ax (i:=8) (by kernel_rfl) rfl (fun K hK=>?_)
  go_simp
  refine CT.out.mono ?_
  rintro e w5 ⟨t5,hok,hbad⟩
  have T5:=hid t5
  by_cases h0:cr.1=0
  case neg =>
   obtain rfl:=hbad h0
   have G:=dM.bad (r:=R) (D4.out.trans T5.out.below) (by rw [RE.out];exact h0)
   rw [RE.out] at G ⊢
   exact⟨rfl,G⟩
  obtain⟨x',rfl,hx',hks⟩:=hok h0
  have HX':=hid hx'
  have HKS:=hid hks
  have H0:=hid h0
  have S1:CF s ⟨kd,id,list,text,f,flag⟩ B w.heap.size w5:=S0.bH T5.out (by decide) (by decide)
  have C5:=hid S1
  refine hK _ _ S1 ?_
  clear hK K S0 S1 t5 hok hbad hx' hks h0
  try simp only [Act.put,pS]
  refine wpAnyH_done (by kernel_rfl) ?_ _
  obtain⟨ns,hns⟩:∃ l,s.ms.set pp x'=l:=⟨_,rfl⟩
  have Jz:=hid hns
  have xP:Hid (ns.length=s.ms.length):=hid (by rw [← hns,List.length_set])
  have ER:Hid (R=(0,⟨s.ls,ay ns⟩)):=hid (by
   rw [RE.out,H0.out]
   refine congrArg (fun z=>((0:Int),T9.St.mk s.ls z)) ?_
   have e:=T9.Ck (l:=ay s.ms) (id:=id) (t:=cr.2) UK.out HH.out IDS.out
   rw [show T9.dV (ay s.ms) id=pp from HP.out] at e
   refine e.trans ?_
   rw [← hns,← HX'.out]
   unfold ay
   rw [List.map_set])
  have O5:Hid (OS { s with ms:=ns } B w5):=hid (by
   refine⟨(O3.out.l.below (Ca.out)).bH T5.out (by decide),.inr ⟨g,HGA.out,?_⟩,?_⟩
   ·show w5.ownsRow B _ 7 (.slice (some ⟨g,0,none⟩) ns.length s.c2) ns.length (ai ns)
    rw [xP.out,← hns]
    exact HKS.out.row
   ·show bI w5 B ns
    rw [← hns]
    exact HKS.out.tags)
  have C6:Hid (CF { s with ms:=ns } ⟨kd,id,list,text,f,flag⟩ B w.heap.size w5):=hid ⟨by show w5.heap[w.heap.size]?=some (.cells #[.slice s.A s.ls.length s.c,.slice s.A2 ns.length s.c2] _ (0,0));rw [xP.out];exact C5.out.st,C5.out.mu,C5.out.rv⟩
  have D5:Hid (Below B w w5):=hid (D4.out.trans T5.out.below)
  clear hns s0 s1 m0 m1 m2 m3 m4 m5
  obtain⟨wz,hwz⟩:∃ v,(w5.setCell ⟨w.heap.size+2,0,none⟩ (Value.slice s.A s.ls.length s.c)).setCell ⟨w.heap.size+2,1,none⟩ (Value.slice s.A2 s.ms.length s.c2)=v:=⟨_,rfl⟩
  have FN:=hid (C6.out.fin (w':=wz) O5.out.JG (by dsimp only;rw [xP.out];exact hwz))
  have g0:=af C6.out.rv 0
  have g1:=af C6.out.rv 1
  obtain⟨u0,u1⟩:=aa C6.out.st
  obtain⟨v0,v1⟩:=aa C6.out.rv
  have y0:=FN.out.2.2.1
  have y1:=FN.out.2.2.2
  dsimp only at u0 u1 y0 y1
  try rw [xP.out] at u0
  try rw [xP.out] at u1
  try rw [xP.out] at y0
  try rw [xP.out] at y1
  go_wp2
  refine bodyPost_ret (v:=.agg #[Value.slice s.A s.ls.length s.c,Value.slice s.A2 s.ms.length s.c2]) (by simp [results,results142,go_sem,y0,y1]) rfl ?_
  have G:=dM.good (r:=R) (B:=B) (w:=w) ((D5.out).trans (FN.out.2.1.mono HB.out)) FN.out.1 ER.out
  unfold aW.val at G
  dsimp only at G
  rw [xP.out] at G
  exact G
end
section
open Go.RowKit Go.Lib
theorem bI.ins {w:World} {B p:Nat} {ms:List aL} {x:aL} (h:bI w B ms) (hc:x.c=0) (ht:x.t.tags=[]):bI w B (ms.take p++x :: ms.drop p):=by
 have nb:x.blk=none:=by unfold aL.blk;rw [if_pos hc]
 have q:=h.2
 rw [← List.take_append_drop p ms,List.pairwise_append] at q
 refine⟨fun m hm=>?_,List.pairwise_append.2 ⟨q.1,List.pairwise_cons.2 ⟨fun b _ g e=>?_,q.2.1⟩,fun a ha b hb g e1 e2=>?_⟩⟩
 ·rcases List.mem_append.1 hm with z | z
  ·exact h.1 m (List.mem_of_mem_take z)
  ·rcases List.mem_cons.1 z with rfl | z
   ·exact .inl ⟨by rw [ht];rfl,hc⟩
   ·exact h.1 m (List.mem_of_mem_drop z)
 ·rw [nb] at e;cases e
 ·rcases List.mem_cons.1 hb with rfl | hb
  ·rw [nb] at e2;cases e2
  ·exact q.2.2 a ha b hb g e1 e2
theorem bk11 (a b:Int) (t:ByteArray) (f e:Nat) (w:World):(Instr.build 74 #[(0,.int .u64 a),(1,.int .u64 b),(2,.string t),(4,.float .f64 f),(5,.float .f64 e)]).run prog w=.ok (.agg #[.int .u64 a,.int .u64 b,.string t,.bool false,.float .f64 f,.float .f64 e,.slice none 0 0]) w:=run_build w 74 _ _ (by kernel_rfl)
theorem Am (w:World):Calls prog 128 #[.float .f64 Fl.ig] w fun e w'=>e=.returned (.float .f64 Fl.ig)∧w=w':=by
 have q:=mK Fl.ig w
 rw [show Fl.canon Fl.ig=Fl.ig by decide +kernel] at q
 exact q
theorem chg3_c {s:aW} {u:T9.Mu} {B:Nat} {w:World} (h:OS s B w) (hB:B≤w.heap.size) (hr:T9.aH s.st=0) (hk:u.kind=3) :
  Calls prog 142 #[s.val,u.val] w (dM (T9.eB s.st u) B w):=by
 obtain⟨kd,id,list,text,f,flag⟩:=u
 obtain rfl:kd=3:=hk
 obtain⟨w1,hw1⟩:∃ v,w.alloc (.cells #[.slice s.A s.ls.length s.c,.slice s.A2 s.ms.length s.c2] 25)=v:=⟨_,rfl⟩
 obtain⟨w2,hw2⟩:∃ v,w1.alloc (.cells #[.int .i64 3,.int .u64 (id:Int),.int .u64 (list:Int),.string (str text),.float .f64 f,.bool flag] 65)=v:=⟨_,rfl⟩
 obtain⟨w3,hw3⟩:∃ v,w2.alloc (.cells #[.slice none 0 0,.slice none 0 0] 25)=v:=⟨_,rfl⟩
 obtain⟨cf,b3,z1,z2⟩:=CF.start (s:=s) (m:=⟨3,id,list,text,f,flag⟩) (B:=B) hw1 hw2 hw3
 have C3:=hid cf
 have B3:=hid b3
 have O3:=hid (h.stay b3)
 have HB:=hid hB
 have O0:=hid h
 have UL:=hid (iJ hr)
 have UK:=hid (iI hr)
 obtain⟨s0,s1⟩:=aa cf.st
 obtain⟨m0,m1,m2,m3,m4,m5⟩:=ag cf.mu
 have nl:s.ls.length≤20:=(T9.aD hr).1
 have nk:s.ms.length≤60:=by have:=(T9.aD hr).2.1;simpa [aW.st,ay] using this
 obtain⟨R,hR⟩:∃ r,T9.eB s.st ⟨3,id,list,text,f,flag⟩=r:=⟨_,rfl⟩
 rw [hR]
 have HR:=hid hR
 have Dh:=hid hr
 unfold aW.val T9.Mu.val
 dsimp only
 clear h hB hr cf b3 hR
 have LC:=hid (uf (id:=id) O3.out.sm (by omega) UK.out)
 obtain⟨pp,fP⟩:∃ b,T9.dV (ay s.ms) id=b:=⟨_,rfl⟩
 obtain⟨hh,gK⟩:∃ b,T9.d_ (ay s.ms) id=b:=⟨_,rfl⟩
 rw [gK,fP] at LC
 have HH:=hid gK
 have HP:=hid fP
 have PP:pp≤s.ms.length:=by
  have z:T9.dV (ay s.ms) id≤(ay s.ms).length:=Sr.om
  rw [fP,aI] at z
  exact z
 unfold aW.val at LC
 clear gK fP
 go_enter func142,ntmps142
 go_wp2_with fail
 refine LC.out.mono ?_
 rintro e w4 ⟨rfl,h4⟩
 have C4:=hid (C3.out.stay h4)
 have O4:=hid (O3.out.stay h4)
 have B4:=hid (B3.out.trans (h4.mono B3.out.size))
 clear h4 s0 s1 m0 m1 m2 m3 m4 m5
 obtain⟨s0,s1⟩:=aa C4.out.st
 obtain⟨m0,m1,m2,m3,m4,m5⟩:=ag C4.out.mu
 cases hh with
 | true =>
  go_wp2_with (go_at_call 192;refine (eX _ _).mono ?_;rintro e w' ⟨rfl,rfl⟩)
  have e:R=(92,s.st):=HR.out.symm.trans (T9.Gf HH.out)
  subst e
  exact⟨rfl,dM.bad (B4.out.mono HB.out) (show (92:Int)≠0 by decide)⟩
 | false =>
  cases AP:T9.bC s.ls list with
  | false =>
   have Di:=hid (jr (id:=list) O4.out.sm (by omega) UL.out AP)
   have e:R=(91,s.st):=HR.out.symm.trans (T9.Gg HH.out AP)
   have E:=hid e
   unfold aW.val at Di
   clear AP e
   go_wp2_with (go_at_call 192;refine (fq _ _).mono ?_;rintro e w' ⟨rfl,rfl⟩)
   refine Di.out.mono ?_
   rintro e w5 ⟨rfl,h5⟩
   rw [E.out]
   exact⟨rfl,dM.bad ((B4.out.trans (h5.mono B4.out.size)).mono HB.out) (show (91:Int)≠0 by decide)⟩
  | true =>
   have Di:=hid (iQ (id:=list) O4.out.sm (by omega) UL.out AP)
   obtain⟨p2,hp2⟩:∃ p,T9.iM s.ls list=p:=⟨_,rfl⟩
   rw [hp2] at Di
   have HH2:=hid AP
   unfold aW.val at Di
   clear AP hp2
   go_wp2_with (go_at_call 192;refine (fq _ _).mono ?_;rintro e w' ⟨rfl,rfl⟩)
   refine Di.out.mono ?_
   rintro e w5 ⟨rfl,h5⟩
   have C5:=hid (C4.out.stay h5)
   have O5:=hid (O4.out.stay h5)
   have D5:Hid (Below B w w5):=hid ((B4.out.trans (h5.mono B4.out.size)).mono HB.out)
   clear h5 s0 s1 m0 m1 m2 m3 m4 m5
   obtain⟨s0,s1⟩:=aa C5.out.st
   obtain⟨m0,m1,m2,m3,m4,m5⟩:=ag C5.out.mu
   by_cases h60:60≤s.ms.length
   ·have h60z:(60:Int)≤(s.ms.length:Int):=by omega
    have h60d:decide ((60:Int)≤(s.ms.length:Int))=true:=decide_eq_true h60z
    have h60n:decide (60≤s.ms.length)=true:=decide_eq_true h60
    go_wp2_with (go_at_call 192;refine (eX _ _).mono ?_;rintro e w' ⟨rfl,rfl⟩)
    have e:R=(95,s.st):=HR.out.symm.trans (T9.Gh HH.out HH2.out (by show 60≤(ay s.ms).length;rw [aI];exact h60))
    subst e
    exact⟨rfl,dM.bad D5.out (show (95:Int)≠0 by decide)⟩
   ·have h60z:¬ ((60:Int)≤(s.ms.length:Int)):=by omega
    have h60d:decide ((60:Int)≤(s.ms.length:Int))=false:=decide_eq_false h60z
    have h60n:decide (60≤s.ms.length)=false:=decide_eq_false h60
    have hbk:=bk11 (id:Int) (list:Int) (str text) f Fl.ig
    have hbs:∀ w:World,(Instr.buildSlice 23 1 #[(0,.agg #[.int .u64 (id:Int),.int .u64 (list:Int),.string (str text),.bool false,.float .f64 f,.float .f64 Fl.ig,.slice none 0 0])]).run prog w=.ok (.slice (some ⟨w.heap.size,0,none⟩) 1 1) (w.alloc (.cells #[.int .u64 (id:Int),.int .u64 (list:Int),.string (str text),.bool false,.float .f64 f,.float .f64 Fl.ig,.slice none 0 0] 74)):=fun w=>dZ (⟨⟨id,list,text,false,f,Fl.ig,[]⟩,none,0⟩:aL) w
    obtain⟨w6,uX⟩:∃ v,w5.drew.alloc (.cells #[.int .u64 (id:Int),.int .u64 (list:Int),.string (str text),.bool false,.float .f64 f,.float .f64 Fl.ig,.slice none 0 0] 74)=v:=⟨_,rfl⟩
    obtain⟨lb,b6,z6⟩:=bn uX
    have b6':Below w5.heap.size w5 w6:=(Below.refl _ w5).drew.trans b6
    have O6:=hid (O5.out.stay b6')
    have C6:=hid (C5.out.stay b6')
    have D6:Hid (Below B w w6):=hid (D5.out.trans (b6'.mono (Nat.le_trans HB.out D5.out.size)))
    have NE:Hid (nG s.A2 s.c2≠some w5.heap.size):=hid fun e=>by
     rcases O5.out.k.parts with⟨_,q⟩ | ⟨g,e2,c0,q⟩
     ·rw [show nG s.A2 s.c2=none by unfold nG;rw [if_pos q]] at e;cases e
     ·rw [e2,aZ c0] at e
      injection e with e
      have:=(q.lt g rfl).2
      omega
    have IC:=hid (Ea (p:=pp) (gv:=w5.heap.size) (v:=az (⟨⟨id,list,text,false,f,Fl.ig,[]⟩,none,0⟩:aL)) O6.out.k (aQ _) (cB _) lb rfl (dI _) PP NE.out (by omega) (Nat.le_trans HB.out D6.out.size))
    clear lb b6 z6 b6'
    go_wp2_with (go_at_call 192;refine (fq _ _).mono ?_;rintro e w' ⟨rfl,rfl⟩)
    refine Any.begin (S:=fun v=>CF s ⟨3,id,list,text,f,flag⟩ B w.heap.size v) (st:=17) wX ?_
    have S0:=C5.out.stay (Below.refl _ w5).drew
    refine pU 0 ?_ rfl (by kernel_rfl) rfl (by kernel_rfl) rfl ?_ S0 ?_
    rotate_left
    ·intro u hu;go_simp;try rfl
    try simp only [Act.put,pS]
    refine pU 1 ?_ rfl (by kernel_rfl) rfl (by kernel_rfl) rfl ?_ S0 ?_
    rotate_left
    ·intro u hu;obtain⟨x0,x1⟩:=aa hu.st;go_simp;try rfl
    try simp only [Act.put,pS]
    refine pU 2 ?_ rfl (by kernel_rfl) rfl (by kernel_rfl) rfl ?_ S0 ?_
    rotate_left
    ·intro u hu;go_simp;try rfl
    try simp only [Act.put,pS]
    refine pU 3 ?_ rfl (by kernel_rfl) rfl (by kernel_rfl) rfl ?_ S0 ?_
    rotate_left
    ·intro u hu;go_simp;try rfl
    try simp only [Act.put,pS]
    refine pU 5 ?_ rfl (by kernel_rfl) rfl (by kernel_rfl) rfl ?_ S0 ?_
    rotate_left
    ·intro u hu;go_simp;try rfl
    try simp only [Act.put,pS]
    refine pU 7 ?_ rfl (by kernel_rfl) rfl (by kernel_rfl) rfl ?_ S0 ?_
    rotate_left
    ·intro u hu;go_simp;try rfl
    try simp only [Act.put,pS]
    refine pU 9 ?_ rfl (by kernel_rfl) rfl (by kernel_rfl) rfl ?_ S0 ?_
    rotate_left
    ·intro u hu;go_simp;try rfl
    try simp only [Act.put,pS]
    refine pU 4 ?_ rfl (by kernel_rfl) rfl (by kernel_rfl) rfl ?_ S0 ?_
    rotate_left
    ·intro u hu;obtain⟨x0,x1,x2,x3,x4,x5⟩:=ag hu.mu;go_simp;try rfl
    try simp only [Act.put,pS]
    refine pU 6 ?_ rfl (by kernel_rfl) rfl (by kernel_rfl) rfl ?_ S0 ?_
    rotate_left
    ·intro u hu;obtain⟨x0,x1,x2,x3,x4,x5⟩:=ag hu.mu;go_simp;try rfl
    try simp only [Act.put,pS]
    refine pU 8 ?_ rfl (by kernel_rfl) rfl (by kernel_rfl) rfl ?_ S0 ?_
    rotate_left
    ·intro u hu;obtain⟨x0,x1,x2,x3,x4,x5⟩:=ag hu.mu;go_simp;try rfl
    try simp only [Act.put,pS]
    refine pU 10 ?_ rfl (by kernel_rfl) rfl (by kernel_rfl) rfl ?_ S0 ?_
    rotate_left
    ·intro u hu;obtain⟨x0,x1,x2,x3,x4,x5⟩:=ag hu.mu;go_simp;try rfl
    try simp only [Act.put,pS]
    refine Any.one (i:=11) (by kernel_rfl) rfl (fun K hK=>?_)
    go_simp
    refine (Ie _).mono ?_
    rintro e w' ⟨rfl,rfl⟩
    have S1:=S0
    refine hK _ _ (fun _=>S1) ?_
    clear hK K S0
    have S0:=S1
    clear S1
    try simp only [Act.put,pS]
    refine Any.one (i:=12) (by kernel_rfl) rfl (fun K hK=>?_)
    go_simp
    refine (Am _).mono ?_
    rintro e w' ⟨rfl,rfl⟩
    have S1:=S0
    refine hK _ _ (fun _=>S1) ?_
    clear hK K S0
    have S0:=S1
    clear S1
    try simp only [Act.put,pS]
    refine Any.one (i:=13) (by kernel_rfl) rfl (fun K hK=>?_)
    go_simp
    have S1:=S0
    refine hK _ _ (fun _=>S1) ?_
    clear hK K S0
    have S0:=S1
    clear S1
    try simp only [Act.put,pS]
    refine Any.one (i:=14) (by kernel_rfl) rfl (fun K hK=>?_)
    go_simp
    have S1:=C6.out
    refine hK _ _ (fun _=>S1) ?_
    clear hK K S0
    have S0:=S1
    clear S1
    try simp only [Act.put,pS]
    refine Any.one (i:=15) (by kernel_rfl) rfl (fun K hK=>?_)
    go_simp
    refine IC.out.mono ?_
    rintro e w7 ⟨A',c',rfl,ho,hg,hb⟩
    have T7:=hid (O6.out.k.mH hg (Nat.le_trans HB.out D6.out.size))
    have HO:=hid ho
    have C7:=hid (C6.out.bH T7.out (by decide) (by decide))
    have f1:=af C7.out.st 1
    have S1:=C7.out
    clear ho hg hb
    refine hK _ _ (fun _=>S1) ?_
    clear hK K S0
    have S0:=S1
    clear S1
    try simp only [Act.put,pS]
    refine Any.one (i:=16) (by kernel_rfl) rfl (fun K hK=>?_)
    go_simp
    have S1:=S0
    refine hK _ _ (fun _=>S1) ?_
    clear hK K S0
    have S0:=S1
    clear S1
    try simp only [Act.put,pS]
    refine Any.one (i:=17) (by kernel_rfl) rfl (fun K hK=>?_)
    go_simp
    have y1:=(aa S0.st).2
    go_simp
    refine hK _ _ (fun z=>absurd rfl z) ?_
    clear hK K S0
    try simp only [Act.put,pS]
    refine Any.done (by kernel_rfl) ?_
    obtain⟨ns,hns⟩:∃ l,s.ms.take pp++(⟨⟨id,list,text,false,f,Fl.ig,[]⟩,none,0⟩:aL) :: s.ms.drop pp=l:=⟨_,rfl⟩
    have LN:Hid (ns.length=s.ms.length+1):=hid (by rw [← hns,List.length_append,List.length_cons,List.length_take,List.length_drop];omega)
    have O7:Hid (OS { s with A2:=A',ms:=ns,c2:=c' } B w7):=hid ⟨O6.out.l.bH T7.out (by decide),by
     have ho:=HO.out
     rw [eQ,fI] at ho
     have e:ai ns=ai (s.ms.take pp)++az (⟨⟨id,list,text,false,f,Fl.ig,[]⟩,none,0⟩:aL)++ai (s.ms.drop pp):=by rw [← hns];simp [ai]
     show dX w7 B _ 7 A' ns.length c' (ai ns)
     rw [LN.out,e]
     exact ho,by
     show bI w7 B ns
     rw [← hns]
     exact (O6.out.t.bH T7.out (by decide)).ins rfl rfl⟩
    have ER:Hid (R=(0,⟨s.ls,ay ns⟩)):=hid (by
     refine HR.out.symm.trans ((T9.Gi HH.out HH2.out (by show ¬ 60≤(ay s.ms).length;rw [aI];exact h60)).trans ?_)
     refine congrArg (fun z=>((0:Int),T9.St.mk s.ls z)) ?_
     have e:=insK_at (ls:=ay s.ms) (x:=⟨id,list,text,false,f,Fl.ig,[]⟩) HH.out
     rw [show T9.dV (ay s.ms) (T9.Tk.mk id list text false f Fl.ig []).id=pp from HP.out] at e
     refine e.trans ?_
     rw [← hns]
     unfold ay
     rw [List.map_append,List.map_cons,List.map_take,List.map_drop])
    have TL:=C7.out.C_ A' ns c'
    rw [LN.out] at TL
    obtain⟨w8,hw8⟩:∃ v,w7.setCell ⟨w.heap.size,1,none⟩ (.slice A' (s.ms.length+1) c')=v:=⟨_,rfl⟩
    rw [hw8] at TL
    have C8:=hid TL.1
    have T8:=hid TL.2
    have O8:=hid (O7.out.bH T8.out (by decide) (by decide) (by decide))
    have D8:Hid (Below B w w8):=hid ((D6.out.trans T7.out.below).trans (T8.out.below.mono HB.out))
    clear TL hns s0 s1 m0 m1 m2 m3 m4 m5
    obtain⟨wz,hwz⟩:∃ v,(w8.setCell ⟨w.heap.size+2,0,none⟩ (Value.slice s.A s.ls.length s.c)).setCell ⟨w.heap.size+2,1,none⟩ (Value.slice A' (s.ms.length+1) c')=v:=⟨_,rfl⟩
    have FN:=hid (C8.out.fin (w':=wz) O8.out.JG (by dsimp only;rw [LN.out];exact hwz))
    have g0:=af C8.out.rv 0
    have g1:=af C8.out.rv 1
    obtain⟨u0,u1⟩:=aa C8.out.st
    obtain⟨v0,v1⟩:=aa C8.out.rv
    have y0:=FN.out.2.2.1
    have y1:=FN.out.2.2.2
    dsimp only at u0 u1 y0 y1
    try rw [LN.out] at u0
    try rw [LN.out] at u1
    try rw [LN.out] at y0
    try rw [LN.out] at y1
    go_wp2
    refine bodyPost_ret (v:=.agg #[Value.slice s.A s.ls.length s.c,Value.slice A' (s.ms.length+1) c']) (by simp [results,results142,go_sem,y0,y1]) rfl ?_
    have G:=dM.good (r:=R) (B:=B) (w:=w) ((D8.out).trans (FN.out.2.1.mono HB.out)) FN.out.1 ER.out
    unfold aW.val at G
    dsimp only at G
    rw [LN.out] at G
    exact G
end
end
end Go.Proofs.YtcedlgedmkghgaaGreat
