/- The law ClogDoes: the row. Every input,no condition. -/
import Derived.Test.YtcmiompdjjiojaaGreatZ38
namespace Go.Proofs.YtcmiompdjjiojaaGreat
set_option maxHeartbeats 16000000
open Go.Lib Go.Proofs.Tryz
set_option linter.unusedSimpArgs false
set_option maxRecDepth 100000
section
section
open Go.RowKit Go.Lib Go.Shelf
structure uk (B1 B2 g lp g' N:Nat) (A:Option Addr) (c:Nat) (q:aQ) (A':Option Addr) (c':Nat) (L:D17.Lg) (W:World):Prop where
 code:fq B1 g lp A c N L W
 doc:jm B2 g' q A' c' L W
 good:dU L
 apart:∀ k,iP A' c'=some k→vw A≠some k
section
variable {B1 B2 g lp g' N c c' : Nat} {A A' : Option Addr} {q : aQ} {L : D17.Lg} {W W' : World}
theorem uk.stay (h:uk B1 B2 g lp g' N A c q A' c' L W) (hb:Below W.heap.size W W'):uk B1 B2 g lp g' N A c q A' c' L W':=⟨h.code.stay hb,h.doc.stay hb,h.good,h.apart⟩
theorem jm.code (h:jm B2 g' q A' c' L W) (hT:aM B1 [72,88] W W'):jm B2 g' q A' c' L W':=h.bE hT (by decide) (by decide) (by decide) (by decide) (fun k hk=>by
 obtain⟨_,cs,f,r⟩:=h.row.blk hk
 exact hT.typed k cs _ f r (by decide))
theorem fq.Kk (h:fq B1 g lp A c N L W) {B:Nat} (hT:aM B [59] W W') (hk:∀ k,vw A=some k→W'.heap[k]?=W.heap[k]?):fq B1 g lp A c N L W':=by
 obtain⟨first,fr,bs,ms,a,r⟩:=h.ex
 exact⟨⟨first,fr,bs,ms,a.bE hT (by decide) (by decide) (by decide) (by decide) (by decide) (by decide),r⟩,dh h.row (fun k hq=>hk k (by rw [← uf A L.xs.length c];exact hq)),h.low⟩
theorem fq.KI (h:fq B1 g lp A c N L W) {k:Nat} (hk:vw A=some k):k<W.heap.size:=by
 obtain⟨_,cs,f,r⟩:=bM h.row k (by rw [uf];exact hk)
 exact lt_of_block r
theorem dU.add (h:dU L) {ys:List It} (hy:∀ x∈ys,x.m.ok∧x.m.text.length≤200) (hv:L.iW+ys.length≤4398046511104) (hl:L.xs.length+ys.length≤1000):dU (L.add ys) :=
 ⟨h.ok.add (fun x hx=>(hy x hx).1),fun x hx=>(List.mem_append.1 hx).elim (h.text x) (fun q=>(hy x q).2),by show L.base+(L.xs++ys).length≤_;rw [List.length_append];have:L.iW=L.base+L.xs.length:=rfl;omega,by show (L.xs++ys).length≤1000;rw [List.length_append];exact hl⟩
end
theorem Dt {b:Nat} {s:aQ} {A1:Option Addr} {n1 c1:Nat} {xs:List It} {A2:Option Addr} {n2 c2:Nat} {ys:List It} {A3:Option Addr} {n3 c3:Nat} {ts:List Int} {v:Nat} {m:Int} {w:World} (hs:SM s w) (ho:s.st.ok) (fs:s.far) (hxs:IL w A1 xs) (Av:n1=xs.length) (Ar:n1≤maxLen) (AY:∀ x∈xs,x.ok) (hys:IL w A2 ys) (hnys:n2=ys.length) (hcys:n2≤maxLen) (koys:∀ x∈ys,x.ok) (ht:au w w.heap.size 0 A3 (ts.map (Value.int .u64))) (htn:n3=ts.length) (htb:∀ t∈ts,0≤t∧t<18446744073709551616) :
  Calls prog 3 #[.int .u64 (b:Int),s.val,.slice A1 n1 c1,.slice A2 n2 c2,.slice A3 n3 c3,.int .u64 (v:Int),.int .i64 m] w fun e w'=>e=.returned (.bool true)∧Below w.heap.size w w':=by
 obtain⟨u0,hu0⟩:=nm (w.alloc (.cells #[.slice s.A s.ls.length s.c,.slice s.A2 s.ms.length s.c2] 26))
 obtain⟨pb,b0,z0⟩:=aj hu0
 have B0:=hid b0
 have GS:=hid pb
 have SS:=hid (hs.stay b0)
 have Ixs:=hid (hxs.stay b0)
 have EP:=hid Av
 have Cxs:=hid Ar
 have Kxs:=hid AY
 have Iys:=hid (hys.stay b0)
 have Nys:=hid hnys
 have Cys:=hid hcys
 have Kys:=hid koys
 have OS:=hid ho
 have FS:=hid fs
 have AW:=hid (rH u0)
 have TS:=hid (au.stay ht b0)
 have TN:=hid htn
 have TB:=hid htb
 unfold aQ.val
 clear hs ho fs pb b0 hxs Av Ar AY hys hnys hcys koys ht htn htb
 go_enter func3,ntmps3
 go_wp2_with fail
 refine AW.out.mono ?_
 rintro e v0 ⟨rfl,h0⟩
 have H0:=hid h0
 obtain⟨x0,x1⟩:=aa (ae GS.out h0)
 have LS:=hid (uY (c:=s.c) (c2:=s.c2) (SS.out.stay h0).l (SS.out.stay h0).k rfl rfl FS.out)
 clear h0 AW
 go_wp2_with fail
 refine LS.out.mono ?_
 rintro e v1 ⟨bb,rfl,hbb,h1⟩
 have H1:Hid (Below u0.heap.size u0 v1):=hid (H0.out.trans (h1.mono H0.out.size))
 clear h1 x0 x1 LS
 cases bb with
 | false =>
  clear hbb
  go_wp2_with fail
  go_ret
  exact⟨rfl,B0.out.trans (H1.out.mono B0.out.size)⟩
 | true =>
 have LT:=hid (hbb rfl)
 have FW:=hid (tQ (c:=c1) (Ixs.out.stay H1.out) EP.out Cxs.out)
 clear hbb
 go_wp2_with fail
 refine FW.out.mono ?_
 rintro e v2 ⟨bb,rfl,hbb,h2⟩
 have H2:Hid (Below u0.heap.size u0 v2):=hid (H1.out.trans (h2.mono H1.out.size))
 clear h2 FW
 cases bb with
 | false =>
  clear hbb
  go_wp2_with fail
  go_ret
  exact⟨rfl,B0.out.trans (H2.out.mono B0.out.size)⟩
 | true =>
 have zN:=hid (hbb rfl)
 have FW:=hid (tQ (c:=c2) (Iys.out.stay H2.out) Nys.out Cys.out)
 clear hbb
 go_wp2_with fail
 refine FW.out.mono ?_
 rintro e v3 ⟨bb,rfl,hbb,h2⟩
 have H3:Hid (Below u0.heap.size u0 v3):=hid (H2.out.trans (h2.mono H2.out.size))
 clear h2 FW
 cases bb with
 | false =>
  clear hbb
  go_wp2_with fail
  go_ret
  exact⟨rfl,B0.out.trans (H3.out.mono B0.out.size)⟩
 | true =>
 have Fys:=hid (hbb rfl)
 clear hbb
 obtain⟨L,hL⟩:=nm ((⟨min b 1099511627776,T9.bV s.st,xs⟩:D17.Lg))
 have KM:Hid (∀ x∈xs,x.m.ok∧x.m.text.length≤200):=hid (fun x hx=>⟨Kxs.out x hx,zN.out.2 x hx⟩)
 have GD:Hid (dU L):=hid (by
  have n0:=EP.out
  have n1:=zN.out.1
  rw [← hL]
  exact⟨⟨T9.iC OS.out,Kxs.out⟩,fun x hx=>zN.out.2 x hx,by show min b 1099511627776+xs.length≤4398046511104;omega,by show xs.length≤1000;omega⟩)
 have LX:Hid (L.xs=xs):=hid (by rw [← hL])
 have KN:Hid (∀ x∈ys,x.m.ok∧x.m.text.length≤200):=hid (fun x hx=>⟨Kys.out x hx,Fys.out.2 x hx⟩)
 by_cases h6:6<n3
 ·have hz:(6:Int)<(n3:Int):=by omega
  have hz2:decide ((6:Int)<(n3:Int))=true:=by simp;omega
  have hz3:decide (6<n3)=true:=by simp [h6]
  clear hL h6
  go_wp2
  go_ret
  exact⟨rfl,B0.out.trans (H3.out.mono B0.out.size)⟩
 have hz:¬ (6:Int)<(n3:Int):=by omega
 have hz2:decide ((6:Int)<(n3:Int))=false:=by simp;omega
 have hz3:decide (6<n3)=false:=by simp [h6]
 have N6:Hid (n3≤6):=hid (by omega)
 have HNC:=hid (show ∀ u,Below u0.heap.size u0 u→Calls prog 9 #[.int .u64 (b:Int),.agg #[.slice s.A s.ls.length s.c,.slice s.A2 s.ms.length s.c2],.slice A1 n1 c1] u (nU L u) from fun u hu=>by
  have q:=t_ (b:=b) (cI:=c1) (SS.out.stay hu) (jF.nC LT.out OS.out) OS.out (Ixs.out.stay hu) EP.out (by have:=zN.out.1;omega) KM.out
  rw [hL] at q
  exact q)
 have HND:=hid (show ∀ u,Below u0.heap.size u0 u→Calls prog 10 #[.int .u64 (b:Int),.agg #[.slice s.A s.ls.length s.c,.slice s.A2 s.ms.length s.c2],.slice A1 n1 c1] u (zU L u) from fun u hu=>by
  have q:=Ep (b:=b) (cI:=c1) (SS.out.stay hu) (jF.nC LT.out OS.out) (Ixs.out.stay hu) EP.out (by have:=zN.out.1;omega)
  rw [hL] at q
  exact q)
 have LV:Hid (L.iW≤1099511627776+30∧L.xs.length≤30):=hid (by
  have n0:=EP.out
  have n1:=zN.out.1
  have e:=LX.out
  have e2:L.base=min b 1099511627776:=by rw [← hL]
  have e3:L.iW=L.base+L.xs.length:=rfl
  rw [e] at e3 ⊢
  omega)
 clear hL h6
 go_upto_region 5 with fail
 refine wp_region_held_drew (S:=fun u=>Below u0.heap.size u0 u) (by kernel_rfl) (H3.out.drew) (fun S0=>?_)
 generalize v3.drew=wd at S0 ⊢
 refine av 0 S0 ?_
 refine av 1 S0 ?_ (hy:=by intro u hu;obtain⟨y0,y1⟩:=aa (ae GS.out hu);clear hu;go_simp;try rfl)
 refine av 2 S0 ?_
 refine av 4 S0 ?_
 refine av 5 S0 ?_ (hy:=by intro u hu;obtain⟨y0,y1⟩:=aa (ae GS.out hu);clear hu;go_simp;try rfl)
 refine av 6 S0 ?_
 refine fw 3 fun K hK=>?_
 go_simp
 have CN:=HNC.out wd S0
 refine CN.mono ?_
 rintro e w5 ⟨g,lp,A,c,rfl,IG,h5⟩
 have S1:=S0.trans (h5.mono S0.size)
 refine hK _ _ S1 ?_
 have C5:=hid IG
 have WB:=hid S0.size
 clear hK K S0 IG h5 CN
 have S0:=S1
 clear S1
 try simp only [Act.put,pS]
 refine fw 7 fun K hK=>?_
 go_simp
 have CN:=HND.out w5 S0
 refine CN.mono ?_
 rintro e w6 ⟨g',q,A',c',rfl,hd6,h6⟩
 have S1:=S0.trans (h6.mono S0.size)
 refine hK _ _ S1 ?_
 have TW:Hid (uk wd.heap.size w5.heap.size g lp g' L.xs.length A c q A' c' L w6):=hid ⟨C5.out.stay h6,hd6,GD.out,fun k hk e=>by
  have a:=(hd6.row.blk hk).1
  have b:=C5.out.KI e
  omega⟩
 have WC:Hid (wd.heap.size≤w5.heap.size∧u0.heap.size≤wd.heap.size):=hid ⟨Nat.le_trans C5.out.low (Nat.le_of_lt C5.out.lt.1),WB.out⟩
 clear hK K S0 hd6 h6 CN
 have S0:=S1
 clear S1
 try simp only [Act.put,pS]
 refine av 8 S0 ?_
 refine av 9 S0 ?_
 refine wpAnyH_done (by kernel_rfl) ?_ _
 have H6:=hid S0
 clear S0
 have SM6:=hid (vU (v:=v) (m:=m) TW.out.code TW.out.doc TW.out.good)
 obtain⟨B1,hB1⟩:=nm wd.heap.size
 obtain⟨B2,hB2⟩:=nm w5.heap.size
 rw [hB1,hB2] at TW WC
 clear hB1 hB2
 go_wp2_with fail
 refine SM6.out.mono ?_
 rintro e w7 ⟨rfl,h7⟩
 have H7:Hid (Below u0.heap.size u0 w7):=hid (H6.out.trans (h7.mono H6.out.size))
 have TW7:=hid (TW.out.stay h7)
 clear h7 SM6 TW
 go_wp2_with fail
 go_loopw [55] (fun s55 wr=>∃ (i N c c':Nat) (A A':Option Addr) (q:aQ) (G:D17.Lg),s55=.int .i64 i∧i≤n3∧Hid (uk B1 B2 g lp g' N A c q A' c' G wr)∧Hid (N≤60∧(i=0→N≤30∧G.iW≤1099511627776+30))∧Hid (Below u0.heap.size u0 wr)) (fun s55 _=>n3 - (intOf s55).toNat)
 case atStart=>exact⟨0,L.xs.length,c,c',A,A',q,L,rfl,Nat.zero_le _,TW7.out,hid ⟨by have:=LV.out;omega,fun _=>⟨LV.out.2,LV.out.1⟩⟩,H7⟩
 case round =>
  obtain⟨i,N,c,c',A,A',q,G,rfl,hi,TW,NB,BR⟩:=hrel
  by_cases hlt:i<n3
  ·have hltz:(i:Int)<(n3:Int):=by omega
   have i0:0≤(i:Int):=by omega
   obtain⟨ad,x,hA,hx,q0⟩:=(au.stay TS.out BR.out).int (k:=i) (by rw [← TN.out];exact hlt)
   subst hA
   obtain⟨t,rfl⟩:∃ t:Nat,x=(t:Int):=⟨x.toNat,by have:=(TB.out x (List.mem_of_getElem? hx)).1;omega⟩
   obtain⟨bb,hbb⟩:∃ r,r=decide (G.has t):=⟨_,rfl⟩
   have BB:=hid hbb
   have CC:=hid (TW.out.code.compact hbb)
   unfold nT at CC
   have ebb:(bb != bb)=false:=by cases bb <;> rfl
   have ebb2:(bb==bb)=true:=by cases bb <;> rfl
   clear hx hbb
   go_wp2_with fail
   refine CC.out.mono ?_
   rintro e w8 ⟨A8,c8,rfl,hc8,ht8,_,_,hn8⟩
   have B8:Hid (Below u0.heap.size u0 w8):=hid (BR.out.trans (ht8.below.mono WC.out.2))
   have D8:=hid (TW.out.doc.code ht8)
   have C8:=hid hc8
   have AP8:Hid (∀ k,iP A' c'=some k→vw A8≠some k):=hid (fun k hk e=>(hn8 k e).elim (fun r=>TW.out.apart k hk r) (fun r=>absurd (TW.out.doc.row.lt hk) (by omega)))
   have DC:=hid (D8.out |> fun h=>vN (t:=t) h TW.out.good BB.out)
   unfold uj at DC
   clear hc8 ht8 hn8 CC q0
   go_wp2_with fail
   refine DC.out.mono ?_
   rintro e w9 ⟨q9,A9,c9,rfl,hd9,ht9,hn9⟩
   have B9:Hid (Below u0.heap.size u0 w9):=hid (B8.out.trans (ht9.below.mono (Nat.le_trans WC.out.2 WC.out.1)))
   obtain⟨G9,hG9⟩:=nm (G.cut t)
   have C9:=C8.out.bE ht9 (by decide) (by decide) (by decide) (by decide) (by decide) (by decide) (by decide)
   have gd9:=TW.out.good.cut t
   rw [hG9] at C9 hd9 gd9
   have TW9:Hid (uk B1 B2 g lp g' N A8 c8 q9 A9 c9 G9 w9):=hid ⟨C9,hd9,gd9,fun k hk e=>AP8.out k (hn9 k hk) e⟩
   have NV9:Hid (i=0→N≤30∧G9.iW≤1099511627776+30):=hid (fun q=>by
    have r:=NB.out.2 q
    rw [← hG9,D17.Lg.tO]
    exact r)
   have SM9:=hid (vU (v:=v) (m:=m) TW9.out.code TW9.out.doc TW9.out.good)
   clear C9 hd9 gd9 ht9 hn9 hG9 DC
   go_wp2_with fail
   refine SM9.out.mono ?_
   rintro e iB ⟨rfl,h10⟩
   have B10:Hid (Below u0.heap.size u0 iB):=hid (B9.out.trans (h10.mono B9.out.size))
   have wP:=hid (TW9.out.stay h10)
   clear h10 SM9
   by_cases e0:i=0
   ·have f0:((i:Int)==0)=true:=by simp [e0]
    have f1:decide ((i:Int)=0)=true:=by simp [e0]
    have f2:(i==0)=true:=by simp [e0]
    have NV:=NV9.out e0
    have AC:=hid (wP.out.code.add (m:=n2) (cI:=c2) (AI:=A2) (ys:=ys) (by have:=Fys.out.1;omega) (((show au u0 u0.heap.size 0 A2 (ax ys) from Iys.out).below (Nat.le_refl _) B10.out).more WC.out.2) Nys.out (by have:=Fys.out.1;omega) KN.out (by omega))
    unfold IM at AC
    have NVH:=hid NV
    clear NV
    clear e0
    go_wp2_with fail
    refine AC.out.mono ?_
    rintro e kC ⟨cK,c11,rfl,hc11,ht11,hk11,fU⟩
    have B11:Hid (Below u0.heap.size u0 kC):=hid (B10.out.trans (ht11.below.mono WC.out.2))
    have C11:=hid hc11
    have D11:=hid (wP.out.doc.bE ht11 (by decide) (by decide) (by decide) (by decide) (fun k hk=>by
     obtain⟨_,cs,f,r⟩:=wP.out.doc.row.blk hk
     exact hk11 k cs f r (wP.out.apart k hk)))
    have AP11:Hid (∀ k,iP A9 c9=some k→vw cK≠some k):=hid (fun k hk e=>(fU k e).elim (fun r=>wP.out.apart k hk r) (fun r=>absurd (wP.out.doc.row.lt hk) (by omega)))
    obtain⟨n9,hn9⟩:=nm G9.xs.length
    have N9:=hid hn9
    have qg:=hid D11.out.row
    have gb:=D11.out.blk
    rw [hn9] at gb qg
    obtain⟨y0,y1,y2,y3⟩:=j4 gb
    have GB:=hid gb
    have Z11:Hid (B2≤kC.heap.size):=hid (Nat.le_trans D11.out.low (Nat.le_of_lt (lt_of_block gb)))
    have NX:Hid (n9≤1000):=hid (by rw [← hn9];exact wP.out.good.len)
    clear hc11 ht11 hk11 fU AC hn9 gb
    go_wp2_with (at_builtin;refine mD rfl _ _ rfl rfl qg.out Z11.out rfl (Iys.out.stay B11.out) Nys.out (by have:=Fys.out.1;have:=NX.out;omega) ?_)
    intro A12 c12 w12 hap
    have AP:=hid hap
    have gb:=hap.bE.blk GB.out (by decide)
    obtain⟨y0,y1,y2,y3⟩:=j4 gb
    have f3:=af gb 3
    have GB12:=hid gb
    clear hap gb
    go_wp2_with fail
    obtain⟨w13,hw13⟩:=nm (w12.setCell ⟨g',3,none⟩ (.slice A12 (n9+n2) c12))
    rw [hw13]
    have t13:aM B2 [40] w12 w13:=by rw [← hw13];exact (aM.refl _ _ w12).setCell (p:=⟨g',3,none⟩) GB12.out (by simp) D11.out.low _
    have g13:w13.heap[g']?=some (.cells #[.int .u64 (G9.base:Int),.slice q9.A q9.ls.length q9.c,.slice q9.A2 q9.ms.length q9.c2,.slice A12 (n9+n2) c12] 40 (0,0)):=by rw [← hw13];exact ah GB12.out 3 _
    have TF:Hid (uk B1 B2 g lp g' (N+n2) cK c11 q9 A12 c12 (G9.add ys) w13):=hid (by
     have el:(G9.add ys).xs.length=n9+n2:=by show (G9.xs++ys).length=_;rw [List.length_append,N9.out,Nys.out]
     refine⟨(C11.out.Kk AP.out.bE (fun k hk=>AP.out.far k (C11.out.KI hk) (fun e=>AP11.out k e hk))).bE t13 (by decide) (by decide) (by decide) (by decide) (by decide) (by decide) (by decide),⟨?_,?_,D11.out.st,?_,D11.out.low⟩,?_,fun k hk e=>?_⟩
     ·rw [el];exact g13
     ·exact (D11.out.sm.bE AP.out.bE (by decide) (by decide) (by decide)).bE t13 (by decide) (by decide) (by decide)
     ·rw [el]
      have r:=AP.out.row
      rw [← Nys.out] at r
      exact r.bE t13 (by decide)
     ·exact wP.out.good.add KN.out (by have a:=NVH.out.2;have b:=Fys.out.1;have d:=Nys.out;omega) (by have a:=NX.out;have b:=Fys.out.1;have d:=Nys.out;have e:=N9.out;have f:=wP.out.code.ex;obtain⟨_,_,_,ms,a1,_,_,_,a2⟩:=f;have a3:=a1.len;have a4:=NVH.out.1;omega)
     ·exact (AP.out.new k hk).elim (fun r=>AP11.out k r e) (fun r=>absurd (C11.out.KI e) (by omega)))
    have BF:Hid (Below u0.heap.size u0 w13):=hid (B11.out.trans ((AP.out.bE.below.trans t13.below).mono (Nat.le_trans WC.out.2 WC.out.1)))
    have NF:Hid (N+n2≤60):=hid (by have:=NVH.out.1;have:=Fys.out.1;omega)
    clear hw13 t13 g13 y0 y1 y2 y3 f3
    go_wp2
    go_roundw
    case rel=>exact⟨i+1,N+n2,c11,c12,cK,A12,q9,G9.add ys,by go_num,by omega,TF,hid ⟨NF.out,fun q=>absurd q (Nat.succ_ne_zero i)⟩,BF⟩
    case measure=>simp [intOf];omega
   ·have f0:((i:Int)==0)=false:=by simp [e0]
    have f1:decide ((i:Int)=0)=false:=by simp [e0]
    have f2:(i==0)=false:=by simp [e0]
    go_wp2
    go_roundw
    case rel=>exact⟨i+1,N,c8,c9,A8,A9,q9,G9,by go_num,by omega,wP,hid ⟨NB.out.1,fun q=>absurd q (Nat.succ_ne_zero i)⟩,B10⟩
    case measure=>simp [intOf];omega
  ·obtain rfl:i=n3:=by omega
   have hltz:¬ ((i:Int)<(i:Int)):=by omega
   have SMF:=hid (vU (v:=v) (m:=m) TW.out.code TW.out.doc TW.out.good)
   go_wp2_with fail
   refine SMF.out.mono ?_
   rintro e w8 ⟨rfl,h8⟩
   have B8:Hid (Below u0.heap.size u0 w8):=hid (BR.out.trans (h8.mono BR.out.size))
   clear h8
   go_wp2
   go_ret
   exact⟨rfl,B0.out.trans (B8.out.mono B0.out.size)⟩
end
end
section
open Go.ChangeShapes Go.WideShapes Go.ChangeAt Go.RowKit
theorem xc {H:Type} {enc:TypeId × Value→H} {P:Program} {w:World} {base:Nat} {sp:Nat→Bool} {held:Bool} {t0 t1 t2 t3 t4 t5 t6:TypeId} {args:Array Value} {ds:List (DataW H)} {ps:List MemPlace}
  (h:DataW.TrodAll enc P w base sp held [t0,t1,t2,t3,t4,t5,t6] args.toList ds ps) :
  ∃ v0 v1 v2 v3 v4 v5 v6 d0 d1 d2 d3 d4 d5 d6 p0 p1 p2 p3 p4 p5 p6,args=#[v0,v1,v2,v3,v4,v5,v6]∧ds=[d0,d1,d2,d3,d4,d5,d6]∧ps=p0++(p1++(p2++(p3++p4++p5++p6))) ∧
   DataW.Trod enc P w base sp held t0 v0 d0 p0∧DataW.Trod enc P w base sp held t1 v1 d1 p1∧DataW.Trod enc P w base sp held t2 v2 d2 p2∧DataW.Trod enc P w base sp held t3 v3 d3 p3∧DataW.Trod enc P w base sp held t4 v4 d4 p4∧DataW.Trod enc P w base sp held t5 v5 d5 p5∧DataW.Trod enc P w base sp held t6 v6 d6 p6:=by
 obtain⟨v0,vs,d0,ds1,p0,q0,ha,rfl,rfl,h0,hr⟩:=trodAll_cons h
 obtain⟨v1,v2,v3,v4,v5,v6,d1,d2,d3,d4,d5,d6,p1,p2,p3,p4,p5,p6,e,rfl,rfl,h1,h2,h3,h4,h5,h6⟩:=sU (args:=vs.toArray) (by simpa using hr)
 have e2:vs=[v1,v2,v3,v4,v5,v6]:=by simpa using congrArg Array.toList e
 subst e2
 exact⟨v0,v1,v2,v3,v4,v5,v6,d0,d1,d2,d3,d4,d5,d6,p0,p1,p2,p3,p4,p5,p6,by cases args;simp_all,rfl,rfl,h0,h1,h2,h3,h4,h5,h6⟩
theorem Tryz.oneU17:prog.cellsOf 22=1:=by kernel_rfl
theorem Eh {H:Type} {enc:TypeId × Value→H} {w:World} {base:Nat} {v:Value} {d:DataW H} {ps:List MemPlace} (hval:Value.okWide prog w .any base 28 v) (h:DataW.Trod enc prog w 0 (fun _=>true) true 28 v d ps) :
  ∃ (A:Option Addr) (c:Nat) (ks:List Int),v=.slice A ks.length c∧au w w.heap.size 0 A (ks.map (Value.int .u64))∧∀ t∈ks,0≤t∧t<18446744073709551616:=by
 obtain⟨a,len,cap,rfl⟩:=okWide_slice underlying28 hval
 obtain⟨fuel,hf⟩:=h
 obtain⟨A,c,ns,hv,h1,h2,hwf,hL⟩:=Dq underlying28 underlying22 Tryz.oneU17 hf
 exact⟨A,c,ns,hv,hL,fun t ht=>wf_u64 (hwf t ht)⟩
theorem tu (os:Os) (started:os.Started) (H:Type) (enc:TypeId × Value→H) :
  ReturnsInHanded {} Tryz.checked os 3 .any (Rows.clogDoesSpec.pre6 enc prog Tryz.f3 Rows.clogDoesRow.domain false) (Rows.clogDoesSpec.post enc prog Tryz.f3 false true false false):=by
 refine returnsInHanded_of_change (C:=Tryz.checked) Tryz.own2 started (by kernel_rfl) func3
  (ChangeSpec.witness6 (enc:=enc) (C:=Tryz.checked) false ⟨#[],#[.int .u64 0,.agg #[.slice none 0 0,.slice none 0 0],.slice none 0 0,.slice none 0 0,.slice none 0 0,.int .u64 0,.int .i64 0],[]⟩ 8 (by kernel_rfl) (by kernel_rfl) (by kernel_rfl) (by kernel_rfl)) ?_
 intro W base args ds gs before hval0 hW hcnd _
 have hval:∀ (j:Nat) t v,Tryz.f3.params[j]?=some t→args[j]?=some v→Value.okWide prog W .any base t v:=hval0
 have hW':=hW
 obtain⟨p,q,hA0,hV,rfl,hfz,hnd⟩:=hW
 have hA:DataW.TrodAll enc prog W 0 (fun _=>true) true Tryz.f3.params.toList args.toList ds p:=hA0
 rw [Tryz.params3] at hA hval
 obtain⟨v0,v1,v2,v3,v4,v5,v6,d0,d1,d2,d3,d4,d5,d6,p0,p1,p2,p3,p4,p5,p6,rfl,rfl,hps,h0,h1,h2,h3,h4,h5,h6⟩:=xc hA
 obtain⟨x0,e0,f0,g0,w0⟩:=open_int underlying22 (hval 0 22 v0 rfl rfl) h0
 subst e0
 obtain⟨y0,rfl⟩:=Int.eq_ofNat_of_zero_le (wf_u64 w0).1
 obtain⟨m1,e1,hs1,ho1,hf1⟩:=nI (hval 1 26 v1 rfl rfl) h1
 subst e1
 obtain⟨A2,c2,xs2,e2,hl2,hi2,ho2,hc2⟩:=j5 (hval 2 27 v2 rfl rfl) h2
 subst e2
 obtain⟨A3,c3,xs3,e3,hl3,hi3,ho3,hc3⟩:=j5 (hval 3 27 v3 rfl rfl) h3
 subst e3
 obtain⟨A4,c4,ks4,e4,hL4,hb4⟩:=Eh (hval 4 28 v4 rfl rfl) h4
 subst e4
 obtain⟨x5,e5,f5,g5,w5⟩:=open_int underlying22 (hval 5 22 v5 rfl rfl) h5
 subst e5
 obtain⟨y5,rfl⟩:=Int.eq_ofNat_of_zero_le (wf_u64 w5).1
 obtain⟨x6,e6,f6,g6,w6⟩:=open_int underlying3 (hval 6 3 v6 rfl rfl) h6
 subst e6
 refine (Dt hs1 ho1 hf1 hi2 rfl (Nat.le_trans hl2 hc2) ho2 hi3 rfl (Nat.le_trans hl3 hc3) ho3 hL4 rfl hb4).mono fun e W' ⟨he,hw⟩=>?_
 subst he
 refine⟨_,rfl,vJ (tb:=4) Tryz.laidOut2 ?_ rfl (by kernel_rfl) underlying4 hW' hw ?_ ?_ ?_⟩
 ·intro t ht
  rw [Tryz.params3] at ht
  simp at ht
  rcases ht with rfl | rfl | rfl | rfl | rfl | rfl | rfl
  all_goals exact⟨by kernel_rfl,of_decide_eq_true (by kernel_rfl)⟩
 all_goals
  obtain⟨rfl,rfl⟩:=trodVars_none hV
  rfl
theorem clogDoes_holds:Rows.ClogDoesSaid :=
 OpenClaim.holds_of_wide 3 Tryz.f3 rfl rfl rfl rfl rfl rfl rfl ⟨rfl,rfl,rfl,rfl,rfl⟩ rfl rfl rfl rfl rfl (by kernel_rfl) func3 (by kernel_rfl)
  (of_decide_eq_true (by kernel_rfl)) (by unfold Func.isWrapper;first | (rw [if_pos (by decide +kernel)];kernel_rfl) | (rw [if_neg (by decide +kernel)];exact⟨rfl,rfl⟩))
  (fun os started H enc _=>tu os started H enc)
end
end Go.Proofs.YtcmiompdjjiojaaGreat
