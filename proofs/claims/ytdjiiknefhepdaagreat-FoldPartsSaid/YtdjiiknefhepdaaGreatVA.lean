/- The law FoldAll: the row. Every input,no condition. -/
import Derived.Test.YtdjiiknefhepdaaGreatZ48
import Derived.Test.YtdjiiknefhepdaaGreatZ50
import Derived.Test.YtdjiiknefhepdaaGreatZ16
import Derived.Test.YtdjiiknefhepdaaGreatZ17
import Derived.ProofKit
namespace Go.Proofs.YtdjiiknefhepdaaGreat
set_option maxHeartbeats 16000000
open Go.Lib Go.Proofs.Tryz
set_option linter.unusedSimpArgs false
set_option maxRecDepth 100000
section
set_option linter.unusedSimpArgs false
section
open Go.RowKit Go.Lib Go.Shelf
theorem EF (CF:Dz) {s:aW} {A:Option Addr} {n c:Nat} {xs:List It} {w:World} (hs:SM s w) (ho:s.st.ok) (fs:s.far) (h:IL w A xs) (hn:n=xs.length) (hc:n≤maxLen) (ko:∀ x∈xs,x.ok) :
  Calls prog 3 #[s.val,.slice A n c] w fun e w'=>e=.returned (.bool true)∧Below w.heap.size w w':=by
 obtain⟨u0,hu0⟩:∃ u,w.alloc (.cells #[.slice s.A s.ls.length s.c,.slice s.A2 s.ms.length s.c2] 25)=u:=⟨_,rfl⟩
 obtain⟨pb,b0,z0⟩:=ak hu0
 have B0:=hid b0
 have GS:=hid pb
 have SS:=hid (hs.stay b0)
 have IS:=hid (h.stay b0)
 have HN:=hid hn
 have HCn:=hid hc
 have KO:=hid ko
 have OS:=hid ho
 have FS:=hid fs
 have AW:=hid (qI CF u0)
 have CFH:=hid CF
 unfold aW.val
 clear hs ho fs h hn hc ko pb b0 CF
 go_enter func3,ntmps3
 go_wp2_with fail
 refine AW.out.mono ?_
 rintro e v0 ⟨rfl,h0⟩
 have H0:=hid h0
 obtain⟨x0,x1⟩:=aa (ae GS.out h0)
 have LS:=hid (sQ (c:=s.c) (c2:=s.c2) (SS.out.stay h0).l (SS.out.stay h0).k rfl rfl FS.out)
 clear h0 AW
 go_wp2_with fail
 refine LS.out.mono ?_
 rintro e v1 ⟨bb,rfl,hbb,h1⟩
 have H1:Hid (Below u0.heap.size u0 v1):=hid (H0.out.trans (h1.mono H0.out.size))
 clear h1 x0 x1 LS
 cases bb with
 | false =>
  clear hbb
  go_wp2_with fail
  go_ret
  exact⟨rfl,B0.out.trans (H1.out.mono B0.out.size)⟩
 | true =>
 have LT:=hid (hbb rfl)
 have FW:=hid (si (c:=c) (IS.out.stay H1.out) HN.out HCn.out)
 clear hbb
 go_wp2_with fail
 refine FW.out.mono ?_
 rintro e v2 ⟨bb,rfl,hbb,h2⟩
 have H2:Hid (Below u0.heap.size u0 v2):=hid (H1.out.trans (h2.mono H1.out.size))
 clear h2 FW
 cases bb with
 | false =>
  clear hbb
  go_wp2_with fail
  go_ret
  exact⟨rfl,B0.out.trans (H2.out.mono B0.out.size)⟩
 | true =>
 have FT:=hid (hbb rfl)
 have FI:Hid (jQ s):=hid (jQ.oo LT.out OS.out)
 have KM:Hid (∀ x∈xs,x.m.ok∧x.m.text.length≤200):=hid (fun x hx=>⟨KO.out x hx,FT.out.2 x hx⟩)
 have NB:Hid (n≤1000000):=hid (Nat.le_trans FT.out.1 (by decide))
 obtain⟨x0,x1⟩:=aa (ae GS.out H2.out)
 have CA:=hid (CFH.out s A n c xs v2 (SS.out.stay H2.out) FI.out (IS.out.stay H2.out) HN.out NB.out KM.out)
 have ML:Hid ((bW xs).length=n):=hid (by rw [fA];exact HN.out.symm)
 have SD:Hid (T9.fZ (T9.dw (T9.bV s.st) (bW xs))):=hid (T9.fJ (T9.iw OS.out) (qE KO.out))
 obtain⟨fo,hfo⟩:∃ r,T9.dw (T9.bV s.st) (bW xs)=r:=⟨_,rfl⟩
 obtain⟨er,her⟩:∃ r,T9.eu (T9.bV s.st) (bW xs)=r:=⟨_,rfl⟩
 have EL:Hid (er.length=n):=hid (by rw [← her,T9.jZ];exact ML.out)
 unfold kI aW.val at CA
 rw [hfo,her,ML.out] at CA
 rw [hfo] at SD
 have HFO:=hid hfo
 have HER:=hid her
 clear hbb hfo her
 go_wp2_with fail
 refine CA.out.mono ?_
 rintro e v3 ⟨q,A3,c3,rfl,hq,kE,how,h3⟩
 obtain⟨v4,hv4⟩:∃ u,v3.alloc (.cells #[.slice q.A q.ls.length q.c,.slice q.A2 q.ms.length q.c2] 25)=u:=⟨_,rfl⟩
 obtain⟨qb,b4,_⟩:=ak hv4
 have B4:Hid (Below v2.heap.size v2 v4):=hid (h3.trans (b4.mono h3.size))
 have H4:Hid (Below u0.heap.size u0 v4):=hid (H2.out.trans (B4.out.mono H2.out.size))
 have QB:=hid qb
 have Q4:=hid (hq.stay b4)
 have QS:=hid kE
 have E4:Hid (au v4 v4.heap.size 0 A3 (er.map encZ)):=hid ((aG (B:=0) (own_below how b4)).old)
 have CR:=hid (qW (c:=c) (SS.out.stay H4.out) FI.out (IS.out.stay H4.out) HN.out NB.out KM.out)
 unfold kI aW.val at CR
 rw [HFO.out,HER.out,ML.out] at CR
 clear x0 x1 qb b4 hq kE how h3 CA
 obtain⟨x0,x1⟩:=aa (ae GS.out H4.out)
 go_wp2_with fail
 refine CR.out.mono ?_
 rintro e v5 ⟨p,A5,c5,rfl,hp,hps,how,h5⟩
 obtain⟨v6,hv6⟩:∃ u,v5.alloc (.cells #[.slice p.A p.ls.length p.c,.slice p.A2 p.ms.length p.c2] 25)=u:=⟨_,rfl⟩
 obtain⟨pb,b6,_⟩:=ak hv6
 have B6:Hid (Below v4.heap.size v4 v6):=hid (h5.trans (b6.mono h5.size))
 have H6:Hid (Below u0.heap.size u0 v6):=hid (H4.out.trans (B6.out.mono H4.out.size))
 have Q6:=hid (Q4.out.stay B6.out)
 have P6:=hid (hp.stay b6)
 have E6:=hid (au.stay E4.out B6.out)
 have R6:Hid (au v6 v6.heap.size 0 A5 (er.map encZ)):=hid ((aG (B:=0) (own_below how b6)).old)
 have CS:=hid (kH Q6.out.sm P6.out.sm (by rw [QS.out];exact SD.out.short) (by rw [hps];exact SD.out.short) (by rw [QS.out];exact SD.out.2) (by rw [hps];exact SD.out.2))
 rw [QS.out,hps,T9.nH] at CS
 unfold aW.val at CS
 obtain⟨k0,k1⟩:=aa (ae QB.out B6.out)
 obtain⟨y0,y1⟩:=aa pb
 clear x0 x1 b6 hp hps how h5 CR pb
 go_wp2_with fail
 refine CS.out.mono ?_
 rintro e v7 ⟨rfl,h7⟩
 have H7:Hid (Below u0.heap.size u0 v7):=hid (H6.out.trans (h7.mono H6.out.size))
 have CE:=hid (xJ (c:=c3) (c2:=c5) (au.stay E6.out h7) (au.stay R6.out h7) EL.out.symm NB.out)
 clear h7 k0 k1 y0 y1 CS
 go_wp2_with fail
 refine CE.out.mono ?_
 rintro e v8 ⟨rfl,j,rfl⟩
 go_wp2_with fail
 go_ret
 exact⟨rfl,B0.out.trans ((nX H7.out j).mono B0.out.size)⟩
end
end
section
open Go.ChangeShapes Go.WideShapes Go.ChangeAt Go.RowKit
theorem uh (CF:Dz) (os:Os) (started:os.Started) (H:Type) (enc:TypeId × Value→H) :
  ReturnsInHanded {} Tryz.checked os 3 .any (Rows.foldAllSpec.pre6 enc prog Tryz.f3 Rows.foldAllRow.domain false) (Rows.foldAllSpec.post enc prog Tryz.f3 false true false false):=by
 refine returnsInHanded_of_change (C:=Tryz.checked) Tryz.own2 started (by kernel_rfl) func3
  (ChangeSpec.witness6 (enc:=enc) (C:=Tryz.checked) false ⟨#[],#[.agg #[.slice none 0 0,.slice none 0 0],.slice none 0 0],[]⟩ 8 (by kernel_rfl) (by kernel_rfl) (by kernel_rfl) (by kernel_rfl)) ?_
 intro W base args ds gs before hval0 hW hcnd _
 have hval:∀ (j:Nat) t v,Tryz.f3.params[j]?=some t→args[j]?=some v→Value.okWide prog W .any base t v:=hval0
 have hW':=hW
 obtain⟨p,q,hA0,hV,rfl,hfz,hnd⟩:=hW
 have hA:DataW.TrodAll enc prog W 0 (fun _=>true) true Tryz.f3.params.toList args.toList ds p:=hA0
 rw [Tryz.params3] at hA hval
 obtain⟨v0,v1,d0,d1,p0,p1,rfl,rfl,hps,h0,h1⟩:=trodAll_two hA
 obtain⟨m0,e0,hs0,ho0,hf0⟩:=mr (hval 0 25 v0 rfl rfl) h0
 subst e0
 obtain⟨A1,c1,xs1,e1,hl1,hi1,ho1,hc1⟩:=jU (hval 1 26 v1 rfl rfl) h1
 subst e1
 refine (EF CF hs0 ho0 hf0 hi1 rfl (Nat.le_trans hl1 hc1) ho1).mono fun e W' ⟨he,hw⟩=>?_
 subst he
 refine⟨_,rfl,uM (tb:=4) Tryz.laidOut2 ?_ rfl (by kernel_rfl) underlying4 hW' hw ?_ ?_ ?_⟩
 ·intro t ht
  rw [Tryz.params3] at ht
  simp at ht
  rcases ht with rfl | rfl
  all_goals exact⟨by kernel_rfl,of_decide_eq_true (by kernel_rfl)⟩
 all_goals
  obtain⟨rfl,rfl⟩:=trodVars_none hV
  rfl
theorem foldAll_holds:Rows.FoldAllSaid :=
 OpenClaim.holds_of_wide 3 Tryz.f3 rfl rfl rfl rfl rfl rfl rfl ⟨rfl,rfl,rfl,rfl,rfl⟩ rfl rfl rfl rfl rfl (by kernel_rfl) func3 (by kernel_rfl)
  (of_decide_eq_true (by kernel_rfl)) (by unfold Func.isWrapper;first | (rw [if_pos (by decide +kernel)];kernel_rfl) | (rw [if_neg (by decide +kernel)];exact⟨rfl,rfl⟩))
  (fun os started H enc _=>uh allF os started H enc)
end
end Go.Proofs.YtdjiiknefhepdaaGreat
