/- The law ClogUnseen: the row. Every input,no condition. -/
import Derived.Test.YtcmiompdjjiojaaGreatZ38
namespace Go.Proofs.YtcmiompdjjiojaaGreat
set_option maxHeartbeats 16000000
open Go.Lib Go.Proofs.Tryz
set_option linter.unusedSimpArgs false
set_option maxRecDepth 100000
section
section
open Go.RowKit Go.Lib Go.Shelf
theorem fq.beside {base g lp c N B:Nat} {A:Option Addr} {L:D17.Lg} {W W':World} (h:fq base g lp A c N L W) (hT:aM B [72,88] W W') (hg:W'.heap[g]?=W.heap[g]?) (hl:W'.heap[lp]?=W.heap[lp]?):fq base g lp A c N L W':=by
 obtain⟨first,fr,bs,ms,a,r⟩:=h.ex
 obtain⟨A',c',qs,l,r'⟩:=a.line.line
 exact⟨⟨first,fr,bs,ms,⟨hg.trans a.blk,⟨⟨A',c',qs,⟨hl.trans l.blk,bX l.row hT (by decide),fun q hq=>(l.sm q hq).bE hT (by decide) (by decide) (by decide)⟩,r'⟩,a.line.low⟩,a.len,a.mb,a.vb,a.bd,a.km⟩,r⟩,bX h.row hT (by decide),h.low⟩
theorem yB {b:Nat} {s:aQ} {A1:Option Addr} {n1 c1:Nat} {xs:List It} {t v:Nat} {m:Int} {w:World} (hs:SM s w) (ho:s.st.ok) (fs:s.far) (hxs:IL w A1 xs) (Av:n1=xs.length) (Ar:n1≤maxLen) (AY:∀ x∈xs,x.ok) :
  Calls prog 4 #[.int .u64 (b:Int),s.val,.slice A1 n1 c1,.int .u64 (t:Int),.int .u64 (v:Int),.int .i64 m] w fun e w'=>e=.returned (.bool true)∧Below w.heap.size w w':=by
 obtain⟨u0,hu0⟩:=nm (w.alloc (.cells #[.slice s.A s.ls.length s.c,.slice s.A2 s.ms.length s.c2] 26))
 obtain⟨pb,b0,z0⟩:=aj hu0
 have B0:=hid b0
 have GS:=hid pb
 have SS:=hid (hs.stay b0)
 have Ixs:=hid (hxs.stay b0)
 have EP:=hid Av
 have Cxs:=hid Ar
 have Kxs:=hid AY
 have OS:=hid ho
 have FS:=hid fs
 have AW:=hid (rH u0)
 unfold aQ.val
 clear hs ho fs pb b0 hxs Av Ar AY
 go_enter func4,ntmps4
 go_wp2_with fail
 refine AW.out.mono ?_
 rintro e v0 ⟨rfl,h0⟩
 have H0:=hid h0
 obtain⟨x0,x1⟩:=aa (ae GS.out h0)
 have LS:=hid (uY (c:=s.c) (c2:=s.c2) (SS.out.stay h0).l (SS.out.stay h0).k rfl rfl FS.out)
 clear h0 AW
 go_wp2_with fail
 refine LS.out.mono ?_
 rintro e v1 ⟨bb,rfl,hbb,h1⟩
 have H1:Hid (Below u0.heap.size u0 v1):=hid (H0.out.trans (h1.mono H0.out.size))
 clear h1 x0 x1 LS
 cases bb with
 | false =>
  clear hbb
  go_wp2_with fail
  go_ret
  exact⟨rfl,B0.out.trans (H1.out.mono B0.out.size)⟩
 | true =>
 have LT:=hid (hbb rfl)
 have FW:=hid (tQ (c:=c1) (Ixs.out.stay H1.out) EP.out Cxs.out)
 clear hbb
 go_wp2_with fail
 refine FW.out.mono ?_
 rintro e v2 ⟨bb,rfl,hbb,h2⟩
 have H2:Hid (Below u0.heap.size u0 v2):=hid (H1.out.trans (h2.mono H1.out.size))
 clear h2 FW
 cases bb with
 | false =>
  clear hbb
  go_wp2_with fail
  go_ret
  exact⟨rfl,B0.out.trans (H2.out.mono B0.out.size)⟩
 | true =>
 have zN:=hid (hbb rfl)
 clear hbb
 obtain⟨L,hL⟩:=nm ((⟨min b 1099511627776,T9.bV s.st,xs⟩:D17.Lg))
 have KM:Hid (∀ x∈xs,x.m.ok∧x.m.text.length≤200):=hid (fun x hx=>⟨Kxs.out x hx,zN.out.2 x hx⟩)
 have GD:Hid (dU L):=hid (by
  have n0:=EP.out
  have n1:=zN.out.1
  rw [← hL]
  exact⟨⟨T9.iC OS.out,Kxs.out⟩,fun x hx=>zN.out.2 x hx,by show min b 1099511627776+xs.length≤4398046511104;omega,by show xs.length≤1000;omega⟩)
 have LX:Hid (L.xs=xs):=hid (by rw [← hL])
 have NC:=hid (t_ (b:=b) (cI:=c1) (SS.out.stay H2.out) (jF.nC LT.out OS.out) OS.out (Ixs.out.stay H2.out) EP.out (by have:=zN.out.1;omega) KM.out)
 unfold aQ.val at NC
 rw [hL] at NC
 obtain⟨x0,x1⟩:=aa (ae GS.out H2.out)
 clear hL
 go_wp2_with fail
 refine NC.out.mono ?_
 rintro e v3 ⟨g,lp,A,c,rfl,hc3,h3⟩
 have H3:Hid (Below u0.heap.size u0 v3):=hid (H2.out.trans (h3.mono H2.out.size))
 have LW:Hid (u0.heap.size≤v2.heap.size):=hid H2.out.size
 have C3:=hid hc3
 have GL:=hid hc3.lt
 have CP:=hid (hc3.copy (by have:=GD.out.len;have:=LX.out;rw [LX.out];have:=EP.out;have:=zN.out.1;omega) GD.out.ok GD.out.text)
 unfold nU at CP
 clear hc3 h3 x0 x1 NC
 go_wp2_with fail
 refine CP.out.mono ?_
 rintro e v4 ⟨g',lp',A',c',rfl,hc4,h4⟩
 have H4:Hid (Below u0.heap.size u0 v4):=hid (H3.out.trans (h4.mono H3.out.size))
 have C4:=hid (C3.out.stay h4)
 have D4:=hid hc4
 have NE:Hid (g'≠g∧g'≠lp∧lp'≠g∧lp'≠lp):=hid (by have a:=GL.out;have b:=hc4.lt;have d:=hc4.low;omega)
 obtain⟨bb,hbb⟩:∃ r,r=decide (L.has v):=⟨_,rfl⟩
 have BB:=hid hbb
 obtain⟨s5,hs5⟩:=nm (L.at_ v)
 obtain⟨ys,hys⟩:=nm (L.from_ v m)
 have S5:=hid hs5
 have YS:=hid hys
 have AT:=hid (hc4.at_ (v:=v) hbb)
 rw [hs5] at AT
 unfold dC aQ.val at AT
 clear hc4 h4 CP hbb hs5 hys
 go_wp2_with fail
 refine AT.out.mono ?_
 rintro e v5 ⟨q5,rfl,Ff,hs5,h5⟩
 obtain⟨u5,iw⟩:=nm (v5.alloc (.cells #[.slice q5.A q5.ls.length q5.c,.slice q5.A2 q5.ms.length q5.c2] 26))
 obtain⟨vH,o_,K_⟩:=aj iw
 have E5:Hid (Below v4.heap.size v4 u5):=hid (h5.trans (o_.mono h5.size))
 have H5:Hid (Below u0.heap.size u0 u5):=hid (H4.out.trans (E5.out.mono H4.out.size))
 have C5:=hid (C4.out.stay E5.out)
 have D5:=hid (D4.out.stay E5.out)
 have Q5:=hid (Ff.stay o_)
 have QS5:=hid (hs5.trans rfl)
 have X5:=hid vH
 have IE:=hid (D5.out.items (v:=v) (m:=m) BB.out)
 rw [YS.out] at IE
 unfold gP at IE
 obtain⟨n,hn⟩:=nm ys.length
 rw [hn] at IE
 have YN:=hid hn
 clear Ff hs5 h5 vH o_ K_ AT hn
 go_wp2_with fail
 refine IE.out.mono ?_
 rintro e v6 ⟨A6,c6,rfl,hr6,h6⟩
 have H6:Hid (Below u0.heap.size u0 v6):=hid (H5.out.trans (h6.mono H5.out.size))
 have C6:=hid (C5.out.stay h6)
 have D6:=hid (D5.out.stay h6)
 have Q6:=hid (Q5.out.stay h6)
 have X6:=hid (ae X5.out h6)
 have R6:Hid (au v6 0 59 A6 (ax ys)):=hid (aH (B:=0) hr6)
 have U5:=hid h6.size
 have CC:=hid (C6.out.compact (t:=t) rfl)
 unfold nT at CC
 have ML:Hid (u0.heap.size≤v2.heap.size):=LW
 clear hr6 h6 IE
 by_cases ht:L.has t
 ·rw [decide_eq_true ht] at CC
  have HT:=hid ht
  go_wp2_with fail
  refine CC.out.mono ?_
  rintro e v7 ⟨A7,c7,rfl,hc7,ht7,hk7,-⟩
  have H7:Hid (Below u0.heap.size u0 v7):=hid (H6.out.trans (ht7.below.mono ML.out))
  have D7:=hid (D6.out.beside ht7 (hk7 g' D6.out.lt.1 NE.out.1 NE.out.2.1) (hk7 lp' D6.out.lt.2.1 NE.out.2.2.1 NE.out.2.2.2))
  have Q7:=hid (Q6.out.bE ht7 (by decide) (by decide) (by decide))
  have X7:=hid (ht7.blk X6.out (by decide))
  have R7:=hid (R6.out.keep (fun k hk=>hk.elim (fun q=>absurd q (Nat.not_lt_zero k)) (fun ⟨cs,f,q⟩=>ht7.typed k cs _ f q (by decide))))
  have GG:=hid (GD.out.cut t)
  obtain⟨G,hG⟩:=nm (L.cut t)
  rw [hG] at hc7 GG
  have C7:=hid hc7
  have GV:Hid (G.iW=L.iW):=hid (by rw [← hG];exact L.tO t)
  have GB:Hid (G.base=t):=hid (by rw [← hG];exact D17.Lg.Jz HT.out)
  have HG:=hid hG
  clear hc7 ht7 hk7 CC ht hG
  by_cases hvt:v<t
  ·have NO:Hid (¬ G.has v):=hid (by rw [← HG.out,D17.Lg.nX HT.out];omega)
   have d1:decide ((v:Int)<(t:Int))=true:=by simp;omega
   have d2:(v:Int)<(t:Int):=by omega
   have d3:decide (v<t)=true:=by simp [hvt]
   have BW:Hid (false=decide (G.has v)):=hid (decide_eq_false NO.out).symm
   clear hvt
   have AT:=hid (C7.out.at_ (v:=v) BW.out)
   unfold dC aQ.val at AT
   obtain⟨s8,GH⟩:=nm (G.at_ v)
   rw [GH] at AT
   have S8:=hid GH
   clear GH
   go_wp2_with fail
   refine AT.out.mono ?_
   rintro e v8 ⟨q8,rfl,hq8,GH,h8⟩
   obtain⟨u8,hu8⟩:=nm (v8.alloc (.cells #[.slice q8.A q8.ls.length q8.c,.slice q8.A2 q8.ms.length q8.c2] 26))
   obtain⟨Bn,vI,p8sz⟩:=aj hu8
   have E8:Hid (Below v7.heap.size v7 u8):=hid (h8.trans (vI.mono h8.size))
   have C8:=hid (C7.out.stay E8.out)
   have Q8:=hid (hq8.stay vI)
   have QS8:=hid (GH.trans rfl)
   have X8:=hid Bn
   have IE:=hid (C8.out.items (v:=v) (m:=m) BW.out)
   unfold gP at IE
   obtain⟨zs,hzs⟩:=nm (G.from_ v m)
   rw [hzs] at IE
   have ZS:=hid hzs
   obtain⟨n2,hn2⟩:=nm zs.length
   rw [hn2] at IE
   have ZN:=hid hn2
   clear hq8 GH h8 Bn vI p8sz AT hzs hn2
   go_wp2_with fail
   refine IE.out.mono ?_
   rintro e v9 ⟨A9,c9,rfl,hr9,h9⟩
   have E9:Hid (Below v7.heap.size v7 v9):=hid (E8.out.trans (h9.mono E8.out.size))
   have X9:=hid (ae X8.out h9)
   have Q9:=hid (Q8.out.stay h9)
   have R9:Hid (au v9 0 59 A9 (ax zs)):=hid (aH (B:=0) hr9)
   have NA:=hid (uq 0 v9)
   unfold dC aQ.val at NA
   rw [show ((0:Nat):Int)=0 from rfl] at NA
   clear hr9 h9 IE
   go_wp2_with fail
   refine NA.out.mono ?_
   rintro e v10 ⟨Hr,rfl,_,_,h10⟩
   obtain⟨u10,hu10⟩:=nm (v10.alloc (.cells #[.slice Hr.A Hr.ls.length Hr.c,.slice Hr.A2 Hr.ms.length Hr.c2] 26))
   obtain⟨Ej,vG,K8⟩:=aj hu10
   have F10:Hid (Below v9.heap.size v9 u10):=hid (h10.trans (vG.mono h10.size))
   have F_:Hid (Below v7.heap.size v7 u10):=hid (E9.out.trans (F10.out.mono E9.out.size))
   have VX:=hid (C7.out.stay F_.out).iW
   rw [GV.out] at VX
   obtain⟨V,hV⟩:=nm L.iW
   rw [hV] at VX
   have HV:=hid hV
   clear h10 Ej vG K8 NA hV
   go_wp2_with fail
   refine VX.out.mono ?_
   rintro e v11 ⟨rfl,h11⟩
   have F11:Hid (Below v9.heap.size v9 v11):=hid (F10.out.trans (h11.mono F10.out.size))
   have Mx:Hid (Below v7.heap.size v7 v11):=hid (F_.out.trans (h11.mono F_.out.size))
   have VC:=hid (D7.out.stay Mx.out).iW
   rw [HV.out] at VC
   clear h11 VX
   go_wp2_with fail
   refine VC.out.mono ?_
   rintro e v12 ⟨rfl,h12⟩
   have F12:Hid (Below v9.heap.size v9 v12):=hid (F11.out.trans (h12.mono F11.out.size))
   have Iw:Hid (Below v7.heap.size v7 v12):=hid (Mx.out.trans (h12.mono Mx.out.size))
   have BX:=hid (C7.out.stay Iw.out).mO
   rw [GB.out] at BX
   clear h12 VC
   go_wp2_with fail
   refine BX.out.mono ?_
   rintro e v13 ⟨rfl,MI⟩
   have F13:Hid (Below v9.heap.size v9 v13):=hid (F12.out.trans (MI.mono F12.out.size))
   have E13:Hid (Below v7.heap.size v7 v13):=hid (Iw.out.trans (MI.mono Iw.out.size))
   have NC2:=hid (oQ 0 v13)
   rw [show ((0:Nat):Int)=0 from rfl] at NC2
   clear MI BX
   go_wp2_with fail
   refine NC2.out.mono ?_
   rintro e v14 ⟨rfl,rfl⟩
   have NP:=hid (uG v13)
   clear NC2
   go_wp2_with fail
   refine NP.out.mono ?_
   rintro e v15 ⟨rfl,h15⟩
   have F15:Hid (Below v9.heap.size v9 v15):=hid (F13.out.trans (h15.mono F13.out.size))
   have H15:Hid (Below u0.heap.size u0 v15):=hid (H7.out.trans ((E13.out.trans (h15.mono E13.out.size)).mono H7.out.size))
   have NV:=hid (yc v15)
   clear h15 NP
   go_wp2_with (go_at_call 19;refine NV.out.mono ?_;rintro e w' ⟨rfl,rfl⟩)
   go_ret
   exact⟨rfl,B0.out.trans (H15.out.mono B0.out.size)⟩
  ·have IFF:Hid (G.has v↔L.has v):=hid (by
    rw [← HG.out,D17.Lg.nX HT.out]
    have:=HT.out.1
    exact⟨fun q=>⟨by omega,q.2⟩,fun q=>⟨by omega,q.2⟩⟩)
   have d1:decide ((v:Int)<(t:Int))=false:=by simp;omega
   have d2:¬ (v:Int)<(t:Int):=by omega
   have d3:decide (v<t)=false:=by simp [hvt]
   have BW:Hid (bb=decide (G.has v)):=hid (by rw [BB.out];exact decide_eq_decide.2 IFF.out.symm)
   have AE:Hid (G.at_ v=L.at_ v∧G.from_ v m=L.from_ v m):=hid (by rw [← HG.out];exact⟨D17.Lg.lq HT.out (by omega),D17.Lg.JA HT.out (by omega)⟩)
   have ebb:(bb==bb)=true:=by cases bb <;> rfl
   clear hvt
   have AT:=hid (C7.out.at_ (v:=v) BW.out)
   unfold dC aQ.val at AT
   obtain⟨s8,GH⟩:=nm (G.at_ v)
   rw [GH] at AT
   have S8:=hid GH
   clear GH
   go_wp2_with fail
   refine AT.out.mono ?_
   rintro e v8 ⟨q8,rfl,hq8,GH,h8⟩
   obtain⟨u8,hu8⟩:=nm (v8.alloc (.cells #[.slice q8.A q8.ls.length q8.c,.slice q8.A2 q8.ms.length q8.c2] 26))
   obtain⟨Bn,vI,p8sz⟩:=aj hu8
   have E8:Hid (Below v7.heap.size v7 u8):=hid (h8.trans (vI.mono h8.size))
   have C8:=hid (C7.out.stay E8.out)
   have Q8:=hid (hq8.stay vI)
   have QS8:=hid (GH.trans rfl)
   have X8:=hid Bn
   have IE:=hid (C8.out.items (v:=v) (m:=m) BW.out)
   unfold gP at IE
   obtain⟨zs,hzs⟩:=nm (G.from_ v m)
   rw [hzs] at IE
   have ZS:=hid hzs
   obtain⟨n2,hn2⟩:=nm zs.length
   rw [hn2] at IE
   have ZN:=hid hn2
   clear hq8 GH h8 Bn vI p8sz AT hzs hn2
   go_wp2_with fail
   refine IE.out.mono ?_
   rintro e v9 ⟨A9,c9,rfl,hr9,h9⟩
   have E9:Hid (Below v7.heap.size v7 v9):=hid (E8.out.trans (h9.mono E8.out.size))
   have X9:=hid (ae X8.out h9)
   have Q9:=hid (Q8.out.stay h9)
   have R9:Hid (au v9 0 59 A9 (ax zs)):=hid (aH (B:=0) hr9)
   have NA:=hid (uq 0 v9)
   unfold dC aQ.val at NA
   rw [show ((0:Nat):Int)=0 from rfl] at NA
   clear hr9 h9 IE
   go_wp2_with fail
   refine NA.out.mono ?_
   rintro e v10 ⟨Hr,rfl,_,_,h10⟩
   obtain⟨u10,hu10⟩:=nm (v10.alloc (.cells #[.slice Hr.A Hr.ls.length Hr.c,.slice Hr.A2 Hr.ms.length Hr.c2] 26))
   obtain⟨Ej,vG,K8⟩:=aj hu10
   have F10:Hid (Below v9.heap.size v9 u10):=hid (h10.trans (vG.mono h10.size))
   have F_:Hid (Below v7.heap.size v7 u10):=hid (E9.out.trans (F10.out.mono E9.out.size))
   have VX:=hid (C7.out.stay F_.out).iW
   rw [GV.out] at VX
   obtain⟨V,hV⟩:=nm L.iW
   rw [hV] at VX
   have HV:=hid hV
   clear h10 Ej vG K8 NA hV
   go_wp2_with fail
   refine VX.out.mono ?_
   rintro e v11 ⟨rfl,h11⟩
   have F11:Hid (Below v9.heap.size v9 v11):=hid (F10.out.trans (h11.mono F10.out.size))
   have Mx:Hid (Below v7.heap.size v7 v11):=hid (F_.out.trans (h11.mono F_.out.size))
   have VC:=hid (D7.out.stay Mx.out).iW
   rw [HV.out] at VC
   clear h11 VX
   go_wp2_with fail
   refine VC.out.mono ?_
   rintro e v12 ⟨rfl,h12⟩
   have F12:Hid (Below v9.heap.size v9 v12):=hid (F11.out.trans (h12.mono F11.out.size))
   have Iw:Hid (Below v7.heap.size v7 v12):=hid (Mx.out.trans (h12.mono Mx.out.size))
   have BX:=hid (C7.out.stay Iw.out).mO
   rw [GB.out] at BX
   clear h12 VC
   go_wp2_with fail
   refine BX.out.mono ?_
   rintro e v13 ⟨rfl,MI⟩
   have F13:Hid (Below v9.heap.size v9 v13):=hid (F12.out.trans (MI.mono F12.out.size))
   have E13:Hid (Below v7.heap.size v7 v13):=hid (Iw.out.trans (MI.mono Iw.out.size))
   have NC2:=hid (oQ 0 v13)
   rw [show ((0:Nat):Int)=0 from rfl] at NC2
   clear MI BX
   go_wp2_with fail
   refine NC2.out.mono ?_
   rintro e v14 ⟨rfl,rfl⟩
   have NP:=hid (uG v13)
   clear NC2
   go_wp2_with fail
   refine NP.out.mono ?_
   rintro e v15 ⟨rfl,h15⟩
   have F15:Hid (Below v9.heap.size v9 v15):=hid (F13.out.trans (h15.mono F13.out.size))
   have H15:Hid (Below u0.heap.size u0 v15):=hid (H7.out.trans ((E13.out.trans (h15.mono E13.out.size)).mono H7.out.size))
   have NV:=hid (yc v15)
   clear h15 NP
   have E15:Hid (Below v7.heap.size v7 v15):=hid (E9.out.trans (F15.out.mono E9.out.size))
   have SD:Hid (T9.dX s5):=hid (by rw [← S5.out];exact GD.out.at_ v)
   have e8:s8=s5:=by rw [← S8.out,AE.out.1];exact S5.out
   have ez:zs=ys:=by rw [← ZS.out,AE.out.2];exact YS.out
   subst e8 ez
   have en:n2=n:=ZN.out.symm.trans YN.out
   subst en
   obtain⟨y0,y1⟩:=aa (ae X7.out E15.out)
   obtain⟨y2,y3⟩:=aa (ae X9.out F15.out)
   have SC:=hid (nM (a:=q5) (b:=q8) (w:=v15) (Q7.out.stay E15.out).sm (Q9.out.stay F15.out).sm (by rw [QS5.out];exact SD.out.short) (by rw [QS8.out];exact SD.out.short) (by rw [QS5.out];exact SD.out.2) (by rw [QS8.out];exact SD.out.2))
   rw [QS5.out,QS8.out,T9.sD] at SC
   unfold aQ.val at SC
   go_wp2_with (go_at_call 19;refine NV.out.mono ?_;rintro e w' ⟨rfl,rfl⟩)
   refine SC.out.mono ?_
   rintro e v16 ⟨rfl,h16⟩
   have XF:Hid ((∀ x∈zs,x.m.f<18446744073709551616)∧zs.length≤1000000):=hid (by rw [← YS.out];exact GD.out.from_ v m)
   have SI:=hid (nL (A:=A6) (A2:=A9) (n:=n2) (c:=c6) (n2:=n2) (c2:=c9) (ms:=zs) (ks:=zs) (w:=v16) ((R7.out.below (Nat.zero_le _) (E15.out.trans (h16.mono E15.out.size))).old) ((R9.out.below (Nat.zero_le _) (F15.out.trans (h16.mono F15.out.size))).old) ZN.out.symm ZN.out.symm (by rw [← ZN.out];exact XF.out.2) XF.out.1 XF.out.1)
   rw [T9.nN] at SI
   have H16:Hid (Below u0.heap.size u0 v16):=hid (H15.out.trans (h16.mono H15.out.size))
   clear h16 SC y0 y1 y2 y3
   go_wp2_with fail
   refine SI.out.mono ?_
   rintro e v17 ⟨rfl,h17⟩
   have H17:Hid (Below u0.heap.size u0 v17):=hid (H16.out.trans (h17.mono H16.out.size))
   clear h17
   go_wp2
   go_ret
   exact⟨rfl,B0.out.trans (H17.out.mono B0.out.size)⟩
 ·rw [decide_eq_false ht] at CC
  have NT:Hid (¬ (L.base≤t∧t≤L.iW)):=hid ht
  clear ht
  go_wp2_with fail
  refine CC.out.mono ?_
  rintro e v7 ⟨A7,c7,rfl,_,_,_,hw7⟩
  have h7:=hw7.1 trivial
  have H7:Hid (Below u0.heap.size u0 v7):=hid (H6.out.trans (h7.mono H6.out.size))
  have D7:=hid (D6.out.stay h7)
  have BE:=hid D7.out.mO
  obtain⟨B,hB⟩:=nm L.base
  obtain⟨V,hV⟩:=nm L.iW
  rw [hB] at BE
  have VE:=hid (fun u hu=>(D7.out.stay (W':=u) hu).iW)
  rw [hV] at VE
  have NV:¬ (B≤t∧t≤V):=by rw [← hB,← hV];exact NT.out
  clear hw7 h7 hB hV CC
  by_cases h1:t<B
  ·have d1:decide ((t:Int)<(B:Int))=true:=by simp;omega
   have d2:(t:Int)<(B:Int):=by omega
   have d3:decide (t<B)=true:=by simp [h1]
   clear NV
   go_wp2_with fail
   refine BE.out.mono ?_
   rintro e v8 ⟨rfl,h8⟩
   have H8:Hid (Below u0.heap.size u0 v8):=hid (H7.out.trans (h8.mono H7.out.size))
   clear h8
   go_wp2
   go_ret
   exact⟨rfl,B0.out.trans (H8.out.mono B0.out.size)⟩
  ·have h2:V<t:=by omega
   have d1:decide ((t:Int)<(B:Int))=false:=by simp;omega
   have d2:¬ (t:Int)<(B:Int):=by omega
   have d3:decide (t<B)=false:=by simp [h1]
   have e1:decide ((V:Int)<(t:Int))=true:=by simp;omega
   have e2:(V:Int)<(t:Int):=by omega
   have e3:decide (V<t)=true:=by simp [h2]
   clear NV
   go_wp2_with fail
   refine BE.out.mono ?_
   rintro e v8 ⟨rfl,h8⟩
   have H8:Hid (Below u0.heap.size u0 v8):=hid (H7.out.trans (h8.mono H7.out.size))
   have VE:=hid (VE.out v8 h8)
   clear h8
   go_wp2_with fail
   refine VE.out.mono ?_
   rintro e v9 ⟨rfl,h9⟩
   have H9:Hid (Below u0.heap.size u0 v9):=hid (H8.out.trans (h9.mono H8.out.size))
   clear h9
   go_wp2
   go_ret
   exact⟨rfl,B0.out.trans (H9.out.mono B0.out.size)⟩
end
end
section
open Go.ChangeShapes Go.WideShapes Go.ChangeAt Go.RowKit
theorem qo (os:Os) (started:os.Started) (H:Type) (enc:TypeId × Value→H) :
  ReturnsInHanded {} Tryz.checked os 4 .any (Rows.clogUnseenSpec.pre6 enc prog Tryz.f4 Rows.clogUnseenRow.domain false) (Rows.clogUnseenSpec.post enc prog Tryz.f4 false true false false):=by
 refine returnsInHanded_of_change (C:=Tryz.checked) Tryz.own2 started (by kernel_rfl) func4
  (ChangeSpec.witness6 (enc:=enc) (C:=Tryz.checked) false ⟨#[],#[.int .u64 0,.agg #[.slice none 0 0,.slice none 0 0],.slice none 0 0,.int .u64 0,.int .u64 0,.int .i64 0],[]⟩ 8 (by kernel_rfl) (by kernel_rfl) (by kernel_rfl) (by kernel_rfl)) ?_
 intro W base args ds gs before hval0 hW hcnd _
 have hval:∀ (j:Nat) t v,Tryz.f4.params[j]?=some t→args[j]?=some v→Value.okWide prog W .any base t v:=hval0
 have hW':=hW
 obtain⟨p,q,hA0,hV,rfl,hfz,hnd⟩:=hW
 have hA:DataW.TrodAll enc prog W 0 (fun _=>true) true Tryz.f4.params.toList args.toList ds p:=hA0
 rw [Tryz.params4] at hA hval
 obtain⟨v0,v1,v2,v3,v4,v5,d0,d1,d2,d3,d4,d5,p0,p1,p2,p3,p4,p5,rfl,rfl,hps,h0,h1,h2,h3,h4,h5⟩:=sU hA
 obtain⟨x0,e0,f0,g0,w0⟩:=open_int underlying22 (hval 0 22 v0 rfl rfl) h0
 subst e0
 obtain⟨y0,rfl⟩:=Int.eq_ofNat_of_zero_le (wf_u64 w0).1
 obtain⟨m1,e1,hs1,ho1,hf1⟩:=nI (hval 1 26 v1 rfl rfl) h1
 subst e1
 obtain⟨A2,c2,xs2,e2,hl2,hi2,ho2,hc2⟩:=j5 (hval 2 27 v2 rfl rfl) h2
 subst e2
 obtain⟨x3,e3,f3,g3,w3⟩:=open_int underlying22 (hval 3 22 v3 rfl rfl) h3
 subst e3
 obtain⟨y3,rfl⟩:=Int.eq_ofNat_of_zero_le (wf_u64 w3).1
 obtain⟨x4,e4,f4,g4,w4⟩:=open_int underlying22 (hval 4 22 v4 rfl rfl) h4
 subst e4
 obtain⟨y4,rfl⟩:=Int.eq_ofNat_of_zero_le (wf_u64 w4).1
 obtain⟨x5,e5,f5,g5,w5⟩:=open_int underlying3 (hval 5 3 v5 rfl rfl) h5
 subst e5
 refine (yB hs1 ho1 hf1 hi2 rfl (Nat.le_trans hl2 hc2) ho2).mono fun e W' ⟨he,hw⟩=>?_
 subst he
 refine⟨_,rfl,vJ (tb:=4) Tryz.laidOut2 ?_ rfl (by kernel_rfl) underlying4 hW' hw ?_ ?_ ?_⟩
 ·intro t ht
  rw [Tryz.params4] at ht
  simp at ht
  rcases ht with rfl | rfl | rfl | rfl | rfl | rfl
  all_goals exact⟨by kernel_rfl,of_decide_eq_true (by kernel_rfl)⟩
 all_goals
  obtain⟨rfl,rfl⟩:=trodVars_none hV
  rfl
theorem clogUnseen_holds:Rows.ClogUnseenSaid :=
 OpenClaim.holds_of_wide 4 Tryz.f4 rfl rfl rfl rfl rfl rfl rfl ⟨rfl,rfl,rfl,rfl,rfl⟩ rfl rfl rfl rfl rfl (by kernel_rfl) func4 (by kernel_rfl)
  (of_decide_eq_true (by kernel_rfl)) (by unfold Func.isWrapper;first | (rw [if_pos (by decide +kernel)];kernel_rfl) | (rw [if_neg (by decide +kernel)];exact⟨rfl,rfl⟩))
  (fun os started H enc _=>qo os started H enc)
end
end Go.Proofs.YtcmiompdjjiojaaGreat
