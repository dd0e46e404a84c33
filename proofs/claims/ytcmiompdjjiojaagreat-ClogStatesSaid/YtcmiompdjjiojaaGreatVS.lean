/- The law ClogStates: the row. Every input,no condition. -/
import Derived.Test.YtcmiompdjjiojaaGreatZ38
namespace Go.Proofs.YtcmiompdjjiojaaGreat
set_option maxHeartbeats 16000000
open Go.Lib Go.Proofs.Tryz
set_option linter.unusedSimpArgs false
set_option maxRecDepth 100000
section
section
open Go.RowKit Go.Lib Go.Shelf
theorem yA {b:Nat} {s:aQ} {A1:Option Addr} {n1 c1:Nat} {xs:List It} {t v:Nat} {w:World} (hs:SM s w) (ho:s.st.ok) (fs:s.far) (hxs:IL w A1 xs) (Av:n1=xs.length) (Ar:n1≤maxLen) (AY:∀ x∈xs,x.ok) (hv:v<18446744073709551616) :
  Calls prog 5 #[.int .u64 (b:Int),s.val,.slice A1 n1 c1,.int .u64 (t:Int),.int .u64 (v:Int)] w fun e w'=>e=.returned (.bool true)∧Below w.heap.size w w':=by
 obtain⟨u0,hu0⟩:=nm (w.alloc (.cells #[.slice s.A s.ls.length s.c,.slice s.A2 s.ms.length s.c2] 26))
 obtain⟨pb,b0,z0⟩:=aj hu0
 have B0:=hid b0
 have GS:=hid pb
 have SS:=hid (hs.stay b0)
 have Ixs:=hid (hxs.stay b0)
 have EP:=hid Av
 have Cxs:=hid Ar
 have Kxs:=hid AY
 have OS:=hid ho
 have FS:=hid fs
 have AW:=hid (rH u0)
 have HV:=hid hv
 unfold aQ.val
 clear hs ho fs pb b0 hxs Av Ar AY hv
 go_enter func5,ntmps5
 go_wp2_with fail
 refine AW.out.mono ?_
 rintro e v0 ⟨rfl,h0⟩
 have H0:=hid h0
 obtain⟨x0,x1⟩:=aa (ae GS.out h0)
 have LS:=hid (uY (c:=s.c) (c2:=s.c2) (SS.out.stay h0).l (SS.out.stay h0).k rfl rfl FS.out)
 clear h0 AW
 go_wp2_with fail
 refine LS.out.mono ?_
 rintro e v1 ⟨bb,rfl,hbb,h1⟩
 have H1:Hid (Below u0.heap.size u0 v1):=hid (H0.out.trans (h1.mono H0.out.size))
 clear h1 x0 x1 LS
 cases bb with
 | false =>
  clear hbb
  go_wp2_with fail
  go_ret
  exact⟨rfl,B0.out.trans (H1.out.mono B0.out.size)⟩
 | true =>
 have LT:=hid (hbb rfl)
 have FW:=hid (tQ (c:=c1) (Ixs.out.stay H1.out) EP.out Cxs.out)
 clear hbb
 go_wp2_with fail
 refine FW.out.mono ?_
 rintro e v2 ⟨bb,rfl,hbb,h2⟩
 have H2:Hid (Below u0.heap.size u0 v2):=hid (H1.out.trans (h2.mono H1.out.size))
 clear h2 FW
 cases bb with
 | false =>
  clear hbb
  go_wp2_with fail
  go_ret
  exact⟨rfl,B0.out.trans (H2.out.mono B0.out.size)⟩
 | true =>
 have zN:=hid (hbb rfl)
 clear hbb
 obtain⟨L,hL⟩:=nm ((⟨min b 1099511627776,T9.bV s.st,xs⟩:D17.Lg))
 have KM:Hid (∀ x∈xs,x.m.ok∧x.m.text.length≤200):=hid (fun x hx=>⟨Kxs.out x hx,zN.out.2 x hx⟩)
 have GD:Hid (dU L):=hid (by
  have n0:=EP.out
  have n1:=zN.out.1
  rw [← hL]
  exact⟨⟨T9.iC OS.out,Kxs.out⟩,fun x hx=>zN.out.2 x hx,by show min b 1099511627776+xs.length≤4398046511104;omega,by show xs.length≤1000;omega⟩)
 have LX:Hid (L.xs=xs):=hid (by rw [← hL])
 have NC:=hid (t_ (b:=b) (cI:=c1) (SS.out.stay H2.out) (jF.nC LT.out OS.out) OS.out (Ixs.out.stay H2.out) EP.out (by have:=zN.out.1;omega) KM.out)
 unfold aQ.val at NC
 rw [hL] at NC
 obtain⟨x0,x1⟩:=aa (ae GS.out H2.out)
 have KY:=hid (fun x (hx:x∈xs)=>zN.out.2 x hx)
 clear hL
 go_wp2_with fail
 refine NC.out.mono ?_
 rintro e v3 ⟨g,lp,A,c,rfl,hc3,h3⟩
 have H3:Hid (Below u0.heap.size u0 v3):=hid (H2.out.trans (h3.mono H2.out.size))
 have LW:Hid (u0.heap.size≤v2.heap.size):=hid H2.out.size
 have CC:=hid (hc3.compact (t:=t) rfl)
 unfold nT at CC
 clear hc3 h3 x0 x1 NC
 go_wp2_with fail
 refine CC.out.mono ?_
 rintro e v4 ⟨A4,c4,rfl,hc4,ht4,_,_⟩
 have H4:Hid (Below u0.heap.size u0 v4):=hid (H3.out.trans (ht4.below.mono LW.out))
 have GG:=hid (GD.out.cut t)
 obtain⟨G,hG⟩:=nm (L.cut t)
 rw [hG] at hc4 GG
 have C4:=hid hc4
 clear hc4 ht4 CC hG
 by_cases hv:G.has v
 ·obtain⟨a1,a2⟩:=hv
  have HAS:Hid (G.has v):=hid ⟨a1,a2⟩
  have AT:=hid (C4.out.at_ (v:=v) (b:=true) (decide_eq_true HAS.out).symm)
  obtain⟨s5,hs5⟩:=nm (G.at_ v)
  rw [hs5] at AT
  have S5:=hid hs5
  unfold dC aQ.val at AT
  clear hs5
  go_wp2_with fail
  refine AT.out.mono ?_
  rintro e v5 ⟨q5,rfl,Ff,hs5,h5⟩
  obtain⟨u5,iw⟩:=nm (v5.alloc (.cells #[.slice q5.A q5.ls.length q5.c,.slice q5.A2 q5.ms.length q5.c2] 26))
  obtain⟨vH,o_,K_⟩:=aj iw
  have E5:Hid (Below v4.heap.size v4 u5):=hid (h5.trans (o_.mono h5.size))
  have H5:Hid (Below u0.heap.size u0 u5):=hid (H4.out.trans (E5.out.mono H4.out.size))
  have C5:=hid (C4.out.stay E5.out)
  have Q5:=hid (Ff.stay o_)
  have QS5:=hid (hs5.trans rfl)
  have X5:=hid vH
  have BE:=hid C5.out.mO
  obtain⟨B,hB⟩:=nm G.base
  rw [hB] at BE
  have HB:=hid hB
  clear Ff hs5 h5 vH o_ K_ hB AT a1 a2
  go_wp2_with fail
  refine BE.out.mono ?_
  rintro e v6 ⟨rfl,h6⟩
  have C6:=hid (C5.out.stay h6)
  have E6:=hid h6
  have AT:=hid (C6.out.at_ (v:=B) (b:=true) (by rw [← HB.out];exact (decide_eq_true G.lH).symm))
  rw [← HB.out,D17.Lg.tL,HB.out] at AT
  unfold dC aQ.val at AT
  clear h6 BE
  go_wp2_with fail
  refine AT.out.mono ?_
  rintro e v7 ⟨q7,rfl,hq7,hs7,h7⟩
  obtain⟨u7,hu7⟩:=nm (v7.alloc (.cells #[.slice q7.A q7.ls.length q7.c,.slice q7.A2 q7.ms.length q7.c2] 26))
  obtain⟨p7box,Lc,p7sz⟩:=aj hu7
  have E7:Hid (Below u5.heap.size u5 u7):=hid (E6.out.trans ((h7.trans (Lc.mono h7.size)).mono E6.out.size))
  have C7:=hid (C5.out.stay E7.out)
  have Q7:=hid (hq7.stay Lc)
  have QS7:=hid hs7
  have X7:=hid p7box
  have BE:=hid C7.out.mO
  rw [HB.out] at BE
  clear hq7 hs7 h7 p7box Lc p7sz AT
  go_wp2_with fail
  refine BE.out.mono ?_
  rintro e v8 ⟨rfl,h8⟩
  have E8:=hid h8
  have BE:=hid (C7.out.stay h8).mO
  rw [HB.out] at BE
  clear h8
  go_wp2_with fail
  refine BE.out.mono ?_
  rintro e v9 ⟨rfl,h9⟩
  have E9:Hid (Below u7.heap.size u7 v9):=hid (E8.out.trans (h9.mono E8.out.size))
  obtain⟨i,hi⟩:=nm (v - B)
  have LE:Hid (B≤v∧v≤G.iW):=hid (by have:=HAS.out;rw [← HB.out];exact this)
  have VB:=hid GG.out.iW
  have w1:IntKind.u64.wrap ((v:Int) - (B:Int))=(i:Int):=by have:=LE.out;have:=VB.out;rw [fQ] <;> omega
  have w2:IntKind.i64.wrap (i:Int)=(i:Int):=by have:=LE.out;have:=VB.out;exact zL (by omega) (by omega)
  have w3:IntKind.u64.wrap (i:Int)=(i:Int):=by have:=LE.out;have:=VB.out;exact fQ (by omega) (by omega)
  have IE:=hid ((C7.out.stay E9.out).items (v:=B) (m:=(i:Int)) (b:=true) (by rw [← HB.out];exact (decide_eq_true G.lH).symm))
  obtain⟨ys,hys⟩:=nm (G.from_ B (i:Int))
  rw [hys] at IE
  have YL:Hid (ys.length=i):=hid (by rw [← hys,← hi,← HB.out];exact D17.Lg.wS HAS.out)
  have YF:Hid (T9.bZ G.s (cZ ys)=s5):=hid (by rw [← hys,← hi,← HB.out,← G.tL,D17.Lg.states HAS.out];exact S5.out)
  have YK:Hid (∀ x∈ys,x.m.ok∧x.m.text.length≤200):=hid (fun x hx=>by
   rw [← hys,← HB.out,D17.Lg.kG G.lH] at hx
   have q:=List.mem_of_mem_drop (List.mem_of_mem_take hx)
   exact⟨GG.out.ok.m x q,GG.out.text x q⟩)
  unfold gP at IE
  rw [YL.out] at IE
  have HI:=hid hi
  clear h9 BE hys hi
  go_wp2_with fail
  refine IE.out.mono ?_
  rintro e v10 ⟨bU,c10,rfl,hr10,h10⟩
  have F_:Hid (Below u7.heap.size u7 v10):=hid (E9.out.trans (h10.mono E9.out.size))
  have Q10:=hid (Q7.out.stay F_.out)
  have AL:=hid (vM (c:=c10) (n:=i) (xs:=ys) Q10.out (by rw [QS7.out];exact GG.out.ok.s) (show IL v10 bU ys from (aH (B:=0) hr10).old) YL.out.symm (by have:=LE.out;have:=VB.out;have:=GG.out.len;have:=HI.out;have:G.iW=G.base+G.xs.length:=rfl;have:=HB.out;omega) YK.out)
  rw [QS7.out,YF.out] at AL
  unfold tJ at AL
  obtain⟨x0,x1⟩:=aa (ae X7.out F_.out)
  clear hr10 h10 IE
  go_wp2_with fail
  refine AL.out.mono ?_
  rintro e v11 ⟨q11,cK,c11,rfl,hq11,hs11,h11⟩
  obtain⟨u11,hu11⟩:=nm (v11.alloc (.cells #[.slice q11.A q11.ls.length q11.c,.slice q11.A2 q11.ms.length q11.c2] 26))
  obtain⟨K9,El,p11sz⟩:=aj hu11
  have Mx:Hid (Below u7.heap.size u7 u11):=hid ((F_.out.trans (h11.mono F_.out.size)).trans (El.mono (Nat.le_trans F_.out.size h11.size)))
  have F11:Hid (Below u5.heap.size u5 u11):=hid (E7.out.trans (Mx.out.mono E7.out.size))
  have Q11:=hid (hq11.stay El)
  have QS11:=hid hs11
  have X11:=hid K9
  have BE:=hid (C7.out.stay Mx.out).mO
  rw [HB.out] at BE
  clear hq11 hs11 h11 K9 El p11sz x0 x1 AL
  go_wp2_with fail
  refine BE.out.mono ?_
  rintro e v12 ⟨rfl,h12⟩
  have Iw:Hid (Below u5.heap.size u5 v12):=hid (F11.out.trans (h12.mono F11.out.size))
  obtain⟨y0,y1⟩:=aa (ae X11.out h12)
  obtain⟨z0',z1'⟩:=aa (ae X5.out Iw.out)
  have SD:Hid (T9.dX s5):=hid (by rw [← S5.out];exact GG.out.at_ v)
  have SC:=hid (nM (a:=q11) (b:=q5) (w:=v12) (Q11.out.stay h12).sm (Q5.out.stay Iw.out).sm (by rw [QS11.out];exact SD.out.short) (by rw [QS5.out];exact SD.out.short) (by rw [QS11.out];exact SD.out.2) (by rw [QS5.out];exact SD.out.2))
  rw [QS11.out,QS5.out,T9.sD] at SC
  unfold aQ.val at SC
  clear h12 BE
  go_wp2_with fail
  refine SC.out.mono ?_
  rintro e v13 ⟨rfl,MI⟩
  have H13:Hid (Below u0.heap.size u0 v13):=hid ((H5.out.trans (Iw.out.mono H5.out.size)).trans (MI.mono (Nat.le_trans H5.out.size Iw.out.size)))
  clear MI
  go_wp2
  go_ret
  exact⟨rfl,B0.out.trans (H13.out.mono B0.out.size)⟩
 ·have AT:=hid (C4.out.at_ (v:=v) (b:=false) (decide_eq_false hv).symm)
  rw [D17.Lg.uu hv] at AT
  unfold dC aQ.val at AT
  have NV:Hid (¬ (G.base≤v∧v≤G.iW)):=hid hv
  clear hv
  go_wp2_with fail
  refine AT.out.mono ?_
  rintro e v5 ⟨q5,rfl,Ff,hs5,h5⟩
  obtain⟨u5,iw⟩:=nm (v5.alloc (.cells #[.slice q5.A q5.ls.length q5.c,.slice q5.A2 q5.ms.length q5.c2] 26))
  obtain⟨vH,o_,K_⟩:=aj iw
  have E5:Hid (Below v4.heap.size v4 u5):=hid (h5.trans (o_.mono h5.size))
  have H5:Hid (Below u0.heap.size u0 u5):=hid (H4.out.trans (E5.out.mono H4.out.size))
  have C5:=hid (C4.out.stay E5.out)
  have BE:=hid C5.out.mO
  obtain⟨B,hB⟩:=nm G.base
  obtain⟨V,hV⟩:=nm G.iW
  rw [hB] at BE
  have VE:=hid (fun u hu=>(C5.out.stay (W':=u) hu).iW)
  rw [hV] at VE
  have NV:¬ (B≤v∧v≤V):=by rw [← hB,← hV];exact NV.out
  clear Ff hs5 h5 vH o_ K_ hB hV AT
  by_cases h1:v<B
  ·have d1:decide ((v:Int)<(B:Int))=true:=by simp;omega
   have d2:(v:Int)<(B:Int):=by omega
   have d3:decide (v<B)=true:=by simp [h1]
   clear NV
   go_wp2_with fail
   refine BE.out.mono ?_
   rintro e v6 ⟨rfl,h6⟩
   have H6:Hid (Below u0.heap.size u0 v6):=hid (H5.out.trans (h6.mono H5.out.size))
   clear h6
   go_wp2
   go_ret
   exact⟨rfl,B0.out.trans (H6.out.mono B0.out.size)⟩
  ·have h2:V<v:=by omega
   have d1:decide ((v:Int)<(B:Int))=false:=by simp;omega
   have d2:¬ (v:Int)<(B:Int):=by omega
   have d3:decide (v<B)=false:=by simp [h1]
   have e1:decide ((V:Int)<(v:Int))=true:=by simp;omega
   have e2:(V:Int)<(v:Int):=by omega
   have e3:decide (V<v)=true:=by simp [h2]
   clear NV
   go_wp2_with fail
   refine BE.out.mono ?_
   rintro e v6 ⟨rfl,h6⟩
   have H6:Hid (Below u0.heap.size u0 v6):=hid (H5.out.trans (h6.mono H5.out.size))
   have VE:=hid (VE.out v6 h6)
   clear h6
   go_wp2_with fail
   refine VE.out.mono ?_
   rintro e v7 ⟨rfl,h7⟩
   have H7:Hid (Below u0.heap.size u0 v7):=hid (H6.out.trans (h7.mono H6.out.size))
   clear h7
   go_wp2
   go_ret
   exact⟨rfl,B0.out.trans (H7.out.mono B0.out.size)⟩
end
end
section
open Go.ChangeShapes Go.WideShapes Go.ChangeAt Go.RowKit
theorem qm (os:Os) (started:os.Started) (H:Type) (enc:TypeId × Value→H) :
  ReturnsInHanded {} Tryz.checked os 5 .any (Rows.clogStatesSpec.pre6 enc prog Tryz.f5 Rows.clogStatesRow.domain false) (Rows.clogStatesSpec.post enc prog Tryz.f5 false true false false):=by
 refine returnsInHanded_of_change (C:=Tryz.checked) Tryz.own2 started (by kernel_rfl) func5
  (ChangeSpec.witness6 (enc:=enc) (C:=Tryz.checked) false ⟨#[],#[.int .u64 0,.agg #[.slice none 0 0,.slice none 0 0],.slice none 0 0,.int .u64 0,.int .u64 0],[]⟩ 8 (by kernel_rfl) (by kernel_rfl) (by kernel_rfl) (by kernel_rfl)) ?_
 intro W base args ds gs before hval0 hW hcnd _
 have hval:∀ (j:Nat) t v,Tryz.f5.params[j]?=some t→args[j]?=some v→Value.okWide prog W .any base t v:=hval0
 have hW':=hW
 obtain⟨p,q,hA0,hV,rfl,hfz,hnd⟩:=hW
 have hA:DataW.TrodAll enc prog W 0 (fun _=>true) true Tryz.f5.params.toList args.toList ds p:=hA0
 rw [Tryz.params5] at hA hval
 obtain⟨v0,v1,v2,v3,v4,d0,d1,d2,d3,d4,p0,p1,p2,p3,p4,rfl,rfl,hps,h0,h1,h2,h3,h4⟩:=ru hA
 obtain⟨x0,e0,f0,g0,w0⟩:=open_int underlying22 (hval 0 22 v0 rfl rfl) h0
 subst e0
 obtain⟨y0,rfl⟩:=Int.eq_ofNat_of_zero_le (wf_u64 w0).1
 obtain⟨m1,e1,hs1,ho1,hf1⟩:=nI (hval 1 26 v1 rfl rfl) h1
 subst e1
 obtain⟨A2,c2,xs2,e2,hl2,hi2,ho2,hc2⟩:=j5 (hval 2 27 v2 rfl rfl) h2
 subst e2
 obtain⟨x3,e3,f3,g3,w3⟩:=open_int underlying22 (hval 3 22 v3 rfl rfl) h3
 subst e3
 obtain⟨y3,rfl⟩:=Int.eq_ofNat_of_zero_le (wf_u64 w3).1
 obtain⟨x4,e4,f4,g4,w4⟩:=open_int underlying22 (hval 4 22 v4 rfl rfl) h4
 subst e4
 obtain⟨y4,rfl⟩:=Int.eq_ofNat_of_zero_le (wf_u64 w4).1
 refine (yA hs1 ho1 hf1 hi2 rfl (Nat.le_trans hl2 hc2) ho2 (by have:=(wf_u64 w4).2;omega)).mono fun e W' ⟨he,hw⟩=>?_
 subst he
 refine⟨_,rfl,vJ (tb:=4) Tryz.laidOut2 ?_ rfl (by kernel_rfl) underlying4 hW' hw ?_ ?_ ?_⟩
 ·intro t ht
  rw [Tryz.params5] at ht
  simp at ht
  rcases ht with rfl | rfl | rfl | rfl | rfl
  all_goals exact⟨by kernel_rfl,of_decide_eq_true (by kernel_rfl)⟩
 all_goals
  obtain⟨rfl,rfl⟩:=trodVars_none hV
  rfl
theorem clogStates_holds:Rows.ClogStatesSaid :=
 OpenClaim.holds_of_wide 5 Tryz.f5 rfl rfl rfl rfl rfl rfl rfl ⟨rfl,rfl,rfl,rfl,rfl⟩ rfl rfl rfl rfl rfl (by kernel_rfl) func5 (by kernel_rfl)
  (of_decide_eq_true (by kernel_rfl)) (by unfold Func.isWrapper;first | (rw [if_pos (by decide +kernel)];kernel_rfl) | (rw [if_neg (by decide +kernel)];exact⟨rfl,rfl⟩))
  (fun os started H enc _=>qm os started H enc)
end
end Go.Proofs.YtcmiompdjjiojaaGreat
