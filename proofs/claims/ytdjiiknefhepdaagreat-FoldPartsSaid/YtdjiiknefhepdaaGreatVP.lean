/- The law FoldParts: the row. Every input,no condition. -/
import Derived.Test.YtdjiiknefhepdaaGreatZ13
import Derived.Test.YtdjiiknefhepdaaGreatVA
import Derived.Test.YtdjiiknefhepdaaGreatZ50
import Derived.Test.YtdjiiknefhepdaaGreatZ16
import Derived.Test.YtdjiiknefhepdaaGreatZ17
import Derived.BigQuiet
import Derived.ProofKit
namespace Go.Proofs.YtdjiiknefhepdaaGreat
set_option maxHeartbeats 16000000
open Go.Lib Go.Proofs.Tryz
set_option linter.unusedSimpArgs false
set_option maxRecDepth 100000
section
set_option linter.unusedSimpArgs false
section
open Go.RowKit Go.Lib Go.Shelf
theorem zY (CF:Dz) {s:aW} {A A2:Option Addr} {n c m c2:Nat} {xs ys:List It} {w:World} (hs:SM s w) (ho:s.st.ok) (fs:s.far) (h:IL w A xs) (hn:n=xs.length) (hc:n≤maxLen) (ko:∀ x∈xs,x.ok) (h':IL w A2 ys) (hm:m=ys.length) (hc':m≤maxLen) (ko':∀ x∈ys,x.ok) :
  Calls prog 4 #[s.val,.slice A n c,.slice A2 m c2] w fun e w'=>e=.returned (.bool true)∧Below w.heap.size w w':=by
 obtain⟨u0,hu0⟩:∃ u,w.alloc (.cells #[.slice s.A s.ls.length s.c,.slice s.A2 s.ms.length s.c2] 25)=u:=⟨_,rfl⟩
 obtain⟨pb,b0,_⟩:=ak hu0
 have B0:=hid b0
 have GS:=hid pb
 have SS:=hid (hs.stay b0)
 have IS:=hid (h.stay b0)
 have JS:=hid (h'.stay b0)
 have HN:=hid hn
 have HM:=hid hm
 have HCn:=hid hc
 have HCm:=hid hc'
 have KO:=hid ko
 have KP:=hid ko'
 have OS:=hid ho
 have FS:=hid fs
 have AW:=hid (qI CF u0)
 have CFH:=hid CF
 unfold aW.val
 clear hs ho fs h hn hc ko h' hm hc' ko' pb b0 CF
 go_enter func4,ntmps4
 go_wp2_with fail
 refine AW.out.mono ?_
 rintro e v0 ⟨rfl,h0⟩
 have H0:=hid h0
 obtain⟨x0,x1⟩:=aa (ae GS.out h0)
 have LS:=hid (sQ (c:=s.c) (c2:=s.c2) (SS.out.stay h0).l (SS.out.stay h0).k rfl rfl FS.out)
 clear h0 AW
 go_wp2_with fail
 refine LS.out.mono ?_
 rintro e v1 ⟨bb,rfl,hbb,h1⟩
 have H1:Hid (Below u0.heap.size u0 v1):=hid (H0.out.trans (h1.mono H0.out.size))
 clear h1 x0 x1 LS
 cases bb with
 | false =>
  clear hbb
  go_wp2_with fail
  go_ret
  exact⟨rfl,B0.out.trans (H1.out.mono B0.out.size)⟩
 | true =>
 have LT:=hid (hbb rfl)
 have FW:=hid (si (c:=c) (IS.out.stay H1.out) HN.out HCn.out)
 clear hbb
 go_wp2_with fail
 refine FW.out.mono ?_
 rintro e v2 ⟨bb,rfl,hbb,h2⟩
 have H2:Hid (Below u0.heap.size u0 v2):=hid (H1.out.trans (h2.mono H1.out.size))
 clear h2 FW
 cases bb with
 | false =>
  clear hbb
  go_wp2_with fail
  go_ret
  exact⟨rfl,B0.out.trans (H2.out.mono B0.out.size)⟩
 | true =>
 have FT:=hid (hbb rfl)
 have FW:=hid (si (c:=c2) (JS.out.stay H2.out) HM.out HCm.out)
 clear hbb
 go_wp2_with fail
 refine FW.out.mono ?_
 rintro e v3 ⟨bb,rfl,hbb,h2⟩
 have H3:Hid (Below u0.heap.size u0 v3):=hid (H2.out.trans (h2.mono H2.out.size))
 clear h2 FW
 cases bb with
 | false =>
  clear hbb
  go_wp2_with fail
  go_ret
  exact⟨rfl,B0.out.trans (H3.out.mono B0.out.size)⟩
 | true =>
 have FU:=hid (hbb rfl)
 clear hbb
 have FI:Hid (jQ s):=hid (jQ.oo LT.out OS.out)
 have KM:Hid (∀ x∈xs,x.m.ok∧x.m.text.length≤200):=hid (fun x hx=>⟨KO.out x hx,FT.out.2 x hx⟩)
 have KL':Hid (∀ x∈ys,x.m.ok∧x.m.text.length≤200):=hid (fun x hx=>⟨KP.out x hx,FU.out.2 x hx⟩)
 have KB:Hid (∀ x∈xs++ys,x.m.ok∧x.m.text.length≤200):=hid (fun x hx=>(List.mem_append.1 hx).elim (KM.out x) (KL'.out x))
 have nb:n≤30:=FT.out.1
 have mb:m≤30:=FU.out.1
 obtain⟨k,hk⟩:∃ k,n+m=k:=⟨_,rfl⟩
 have HK:=hid hk
 have kb:k≤60:=by omega
 have kw:IntKind.i64.wrap ((n:Int)+(m:Int))=(k:Int):=by rw [IntKind.wrap_i64];omega
 obtain⟨bs,hbs⟩:∃ r,T9.bV s.st=r:=⟨_,rfl⟩
 have BS:Hid (T9.fZ bs):=hid (by rw [← hbs];exact T9.iw OS.out)
 obtain⟨fo,hfo⟩:∃ r,T9.dw bs (bW xs)=r:=⟨_,rfl⟩
 have FOS:Hid (T9.fZ fo):=hid (by rw [← hfo];exact T9.fJ BS.out (qE KO.out))
 obtain⟨fz,hfz⟩:∃ r,T9.dw fo (bW ys)=r:=⟨_,rfl⟩
 have FZS:Hid (T9.fZ fz):=hid (by rw [← hfz];exact T9.fJ FOS.out (qE KP.out))
 obtain⟨ex,hex⟩:∃ r,T9.eu bs (bW xs)=r:=⟨_,rfl⟩
 obtain⟨ey,hey⟩:∃ r,T9.eu fo (bW ys)=r:=⟨_,rfl⟩
 have EX:Hid (ex.length=n):=hid (by rw [← hex,T9.jZ,fA];exact HN.out.symm)
 have EY:Hid (ey.length=m):=hid (by rw [← hey,T9.jZ,fA];exact HM.out.symm)
 have FB:Hid (T9.dw bs (bW (xs++ys))=fz):=hid (by rw [zm,T9.sK,hfo,hfz])
 have EB:Hid (T9.eu bs (bW (xs++ys))=ex++ey):=hid (by rw [zm,T9.uT,hfo,hex,hey])
 have LB:Hid ((bW (xs++ys)).length=k):=hid (by rw [fA,List.length_append,← HN.out,← HM.out];exact HK.out)
 have HBS:=hid hbs
 have HFO:=hid hfo
 have HFZ:=hid hfz
 have HEX:=hid hex
 have HEY:=hid hey
 clear hk hbs hfo hfz hex hey
 obtain⟨qJ,qU,qB,qM,qp⟩:=info_parts Tryz.infoI14
 have SSR:=hid (SS.out.stay H3.out)
 have ISR:=hid (IS.out.stay H3.out)
 have JSR:=hid (JS.out.stay H3.out)
 have GSR:=hid (ae GS.out H3.out)
 go_upto_region 5 with fail
 go_cut [7,8] (fun s7 s8 wx=>∃ (g:Nat) (q:aW) (A8:Option Addr) (c8:Nat),s7=.pointer (some ⟨g,0,none⟩)∧s8=.slice A8 k c8∧Hid (wx.heap[g]?=some (.cells #[.slice q.A q.ls.length q.c,.slice q.A2 q.ms.length q.c2] 25 (0,0))∧kY q wx∧q.st=fz∧wx.ownsRow v3.heap.size 39 1 (.slice A8 k c8) k ((ex++ey).map encZ)∧v3.heap.size≤g∧Below v3.heap.size v3 wx))
 case first =>
  refine wp_region_held_drew (S:=fun u=>Below v3.heap.size v3 u) (by kernel_rfl) ((Below.refl v3.heap.size v3).drew) (fun S0=>?_)
  generalize v3.drew=wd at S0 ⊢
  refine aK 0 ?_ rfl (by kernel_rfl) rfl ?_ S0 ?_
  rotate_left
  ·intro u hu;obtain⟨y0,y1⟩:=aa (ae GSR.out hu);go_simp;try rfl
  try simp only [Act.put,pS]
  refine aK 1 ?_ rfl (by kernel_rfl) rfl ?_ S0 ?_
  rotate_left
  ·intro u hu;skip;go_simp;try rfl
  try simp only [Act.put,pS]
  refine aK 3 ?_ rfl (by kernel_rfl) rfl ?_ S0 ?_
  rotate_left
  ·intro u hu;skip;go_simp;try rfl
  try simp only [Act.put,pS]
  refine wpAnyH_ready (rs:=[2,9]) (by kernel_rfl) (by simp) (AllReadyH.cons rfl (fun K hK=>?_) (AllReadyH.cons rfl (fun K hK=>?_) AllReadyH.nil))
  ·skip
   refine dA rfl _ _ 26 rfl v3.heap.size 58 qJ _ 8 72 underlying26 qU qB qM qp rfl (by decide) _ 0 [] rfl (World.ownsRow_nil _ _ _ _) v3.heap.size A n c (bU xs) 0 rfl (by rw [fF];rw [← HN.out]) (ISR.out.below (Nat.le_refl _) S0) (iM _) (by unfold maxLen;omega) (by omega) S0.size ?_
   intro v6 ua hown6 aI dO
   rw [Nat.zero_add] at hown6
   obtain⟨A6,c6,rfl⟩:=aA hown6
   have S1:Below v3.heap.size v3 ua:=S0.grown aI S0.size (fun k e=>by cases e)
   have OW:=hid hown6
   clear hown6 aI dO
   refine hK.out _ _ S1 (fun _=>?_)
   clear hK K S0
   have S0:=S1
   clear S1
   try simp only [Act.put,pS]
   refine wpAnyH_ready (rs:=[4,9]) (by kernel_rfl) (by simp) (AllReadyH.cons rfl (fun K hK=>?_) (AllReadyH.cons rfl (fun K hK=>?_) AllReadyH.nil))
   ·skip
    refine dA rfl _ _ 26 rfl v3.heap.size 58 qJ _ 8 72 underlying26 qU qB qM qp rfl (by decide) _ n ([]++bU xs) rfl OW.out v3.heap.size A2 m c2 (bU ys) 0 rfl (by rw [fF];rw [← HM.out]) (JSR.out.below (Nat.le_refl _) S0) (iM _) (by unfold maxLen;omega) (by omega) S0.size ?_
    intro v6 ub hown6 aI dO
    rw [List.nil_append,← kP,HK.out] at hown6
    obtain⟨A7,c7,rfl⟩:=aA hown6
    have S1:Below v3.heap.size v3 ub:=S0.grown aI S0.size (fun k e=>(OW.out.lt k e).1)
    have OV:=hid hown6
    clear hown6 aI dO
    refine hK.out _ _ S1 (fun _=>?_)
    clear hK K S0
    have S0:=S1
    clear S1
    try simp only [Act.put,pS]
    refine wpAnyH_ready (rs:=[5,9]) (by kernel_rfl) (by simp) (AllReadyH.cons rfl (fun K hK=>?_) (AllReadyH.cons rfl (fun K hK=>?_) AllReadyH.nil))
    ·skip
     go_simp
     have CC:=CFH.out s A7 k c7 (xs++ys) ub (SSR.out.stay S0) FI.out ((aG (B:=0) OV.out).old) (by rw [List.length_append,← HN.out,← HM.out];exact HK.out.symm) (by omega) KB.out
     unfold kI aW.val at CC
     rw [HBS.out,FB.out,EB.out,LB.out] at CC
     refine CC.mono ?_
     rintro e uc ⟨q,A8,c8,rfl,hq,kE,how,hv⟩
     have S1:=S0.trans (hv.mono S0.size)
     have HQ:=hid hq
     have Hd:=hid kE
     have HOW:=hid (kv how S0.size)
     clear hq kE how hv CC
     refine hK.out _ _ S1 (fun _=>?_)
     clear hK K S0
     have S0:=S1
     clear S1
     try simp only [Act.put,pS]
     refine aK 6 ?_ rfl (by kernel_rfl) rfl ?_ S0 ?_
     rotate_left
     ·intro u hu;skip;go_simp;try rfl
     try simp only [Act.put,pS]
     refine aK 7 ?_ rfl (by kernel_rfl) rfl ?_ S0 ?_
     rotate_left
     ·intro u hu;skip;go_simp;try rfl
     try simp only [Act.put,pS]
     refine aK 8 ?_ rfl (by kernel_rfl) rfl ?_ S0 ?_
     rotate_left
     ·intro u hu;skip;go_simp;try rfl
     try simp only [Act.put,pS]
     refine av (i:=9) (by kernel_rfl) rfl (fun K hK=>?_)
     go_simp
     obtain⟨vg,ol⟩:∃ u,uc.alloc (.cells #[.slice none 0 0,.slice none 0 0] 25)=u:=⟨_,rfl⟩
     obtain⟨gb,bg,zg⟩:=ak ol
     try rw [ol]
     have S1:=S0.trans (bg.mono S0.size)
     obtain⟨gx,hgx⟩:∃ g,uc.heap.size=g:=⟨_,rfl⟩
     rw [hgx] at gb
     have GX:=hid gb
     have GW:Hid (v3.heap.size≤gx):=hid (by rw [← hgx];exact S0.size)
     have HQ:=hid (HQ.out.stay bg)
     have HOW:=hid (own_below HOW.out bg)
     try rw [hgx]
     clear gb bg zg hgx ol
     refine hK _ _ S1 ?_
     clear hK K S0
     have S0:=S1
     clear S1
     try simp only [Act.put,pS]
     refine av (i:=10) (by kernel_rfl) rfl (fun K hK=>?_)
     have gq:=GX.out
     obtain⟨g0,g1⟩:=aa gq
     have zX:=af gq 0
     have xY:=af gq 1
     go_simp
     obtain⟨vz,lG⟩:∃ u,(vg.setCell ⟨gx,0,none⟩ (.slice q.A q.ls.length q.c)).setCell ⟨gx,1,none⟩ (.slice q.A2 q.ms.length q.c2)=u:=⟨_,rfl⟩
     try rw [lG]
     have Y:Ty vg gx 25:=⟨_,_,gq⟩
     have tz:aY v3.heap.size [25] vg vz:=by
      rw [← lG]
      exact ((aY.refl _ _ vg).aB (p:=⟨gx,0,none⟩) Y (by simp) GW.out _).aB (p:=⟨gx,1,none⟩) (Y.set _ _) (by simp) GW.out _
     have S1:Below v3.heap.size v3 vz:=S0.trans tz.below
     have HQZ:=hid (HQ.out.bM tz (by decide) (by decide) (by decide))
     have HOZ:=hid (dz HOW.out tz (by decide))
     have GZ:Hid (vz.heap[gx]?=some (.cells #[.slice q.A q.ls.length q.c,.slice q.A2 q.ms.length q.c2] 25 (0,0))):=hid (by rw [← lG];exact ah (ah gq 0 _) 1 _)
     clear gq g0 g1 zX xY tz lG Y
     refine hK _ _ S1 ?_
     clear hK K S0
     have S0:=S1
     clear S1
     try simp only [Act.put,pS]
     refine aK 11 ?_ rfl (by kernel_rfl) rfl ?_ S0 ?_
     rotate_left
     ·intro u hu;skip;go_simp;try rfl
     try simp only [Act.put,pS]
     refine wpAnyH_done (by kernel_rfl) ?_ _
     go_wp2
     go_meet
     case rel=>exact⟨gx,q,A8,c8,rfl,rfl,hid ⟨GZ.out,HQZ.out,Hd.out,HOZ.out,GW.out,S0⟩⟩
    ·skip
     go_simp
     obtain⟨vg,ol⟩:∃ u,ub.alloc (.cells #[.slice none 0 0,.slice none 0 0] 25)=u:=⟨_,rfl⟩
     obtain⟨gb,bg,zg⟩:=ak ol
     try rw [ol]
     have S1:=S0.trans (bg.mono S0.size)
     obtain⟨gx,hgx⟩:∃ g,ub.heap.size=g:=⟨_,rfl⟩
     rw [hgx] at gb
     have GX:=hid gb
     have GW:Hid (v3.heap.size≤gx):=hid (by rw [← hgx];exact S0.size)
     have OV:=hid (own_below OV.out bg)
     try rw [hgx]
     clear gb bg zg hgx ol
     refine hK.out _ _ S1 (fun _=>?_)
     clear hK K S0
     have S0:=S1
     clear S1
     try simp only [Act.put,pS]
     refine av (i:=5) (by kernel_rfl) rfl (fun K hK=>?_)
     go_simp
     have CC:=CFH.out s A7 k c7 (xs++ys) vg (SSR.out.stay S0) FI.out ((aG (B:=0) OV.out).old) (by rw [List.length_append,← HN.out,← HM.out];exact HK.out.symm) (by omega) KB.out
     unfold kI aW.val at CC
     rw [HBS.out,FB.out,EB.out,LB.out] at CC
     refine CC.mono ?_
     rintro e uc ⟨q,A8,c8,rfl,hq,kE,how,hv⟩
     have S1:=S0.trans (hv.mono S0.size)
     have HQ:=hid hq
     have Hd:=hid kE
     have HOW:=hid (kv how S0.size)
     have GX:=hid (ae GX.out hv)
     clear hq kE how hv CC
     refine hK _ _ S1 ?_
     clear hK K S0
     have S0:=S1
     clear S1
     try simp only [Act.put,pS]
     refine aK 6 ?_ rfl (by kernel_rfl) rfl ?_ S0 ?_
     rotate_left
     ·intro u hu;skip;go_simp;try rfl
     try simp only [Act.put,pS]
     refine aK 7 ?_ rfl (by kernel_rfl) rfl ?_ S0 ?_
     rotate_left
     ·intro u hu;skip;go_simp;try rfl
     try simp only [Act.put,pS]
     refine aK 8 ?_ rfl (by kernel_rfl) rfl ?_ S0 ?_
     rotate_left
     ·intro u hu;skip;go_simp;try rfl
     try simp only [Act.put,pS]
     refine av (i:=10) (by kernel_rfl) rfl (fun K hK=>?_)
     have gq:=GX.out
     obtain⟨g0,g1⟩:=aa gq
     have zX:=af gq 0
     have xY:=af gq 1
     go_simp
     obtain⟨vz,lG⟩:∃ u,(uc.setCell ⟨gx,0,none⟩ (.slice q.A q.ls.length q.c)).setCell ⟨gx,1,none⟩ (.slice q.A2 q.ms.length q.c2)=u:=⟨_,rfl⟩
     try rw [lG]
     have Y:Ty uc gx 25:=⟨_,_,gq⟩
     have tz:aY v3.heap.size [25] uc vz:=by
      rw [← lG]
      exact ((aY.refl _ _ uc).aB (p:=⟨gx,0,none⟩) Y (by simp) GW.out _).aB (p:=⟨gx,1,none⟩) (Y.set _ _) (by simp) GW.out _
     have S1:Below v3.heap.size v3 vz:=S0.trans tz.below
     have HQZ:=hid (HQ.out.bM tz (by decide) (by decide) (by decide))
     have HOZ:=hid (dz HOW.out tz (by decide))
     have GZ:Hid (vz.heap[gx]?=some (.cells #[.slice q.A q.ls.length q.c,.slice q.A2 q.ms.length q.c2] 25 (0,0))):=hid (by rw [← lG];exact ah (ah gq 0 _) 1 _)
     clear gq g0 g1 zX xY tz lG Y
     refine hK _ _ S1 ?_
     clear hK K S0
     have S0:=S1
     clear S1
     try simp only [Act.put,pS]
     refine aK 11 ?_ rfl (by kernel_rfl) rfl ?_ S0 ?_
     rotate_left
     ·intro u hu;skip;go_simp;try rfl
     try simp only [Act.put,pS]
     refine wpAnyH_done (by kernel_rfl) ?_ _
     go_wp2
     go_meet
     case rel=>exact⟨gx,q,A8,c8,rfl,rfl,hid ⟨GZ.out,HQZ.out,Hd.out,HOZ.out,GW.out,S0⟩⟩
   ·skip
    go_simp
    obtain⟨vg,ol⟩:∃ u,ua.alloc (.cells #[.slice none 0 0,.slice none 0 0] 25)=u:=⟨_,rfl⟩
    obtain⟨gb,bg,zg⟩:=ak ol
    try rw [ol]
    have S1:=S0.trans (bg.mono S0.size)
    obtain⟨gx,hgx⟩:∃ g,ua.heap.size=g:=⟨_,rfl⟩
    rw [hgx] at gb
    have GX:=hid gb
    have GW:Hid (v3.heap.size≤gx):=hid (by rw [← hgx];exact S0.size)
    have OW:=hid (own_below OW.out bg)
    try rw [hgx]
    clear gb bg zg hgx ol
    refine hK.out _ _ S1 (fun _=>?_)
    clear hK K S0
    have S0:=S1
    clear S1
    try simp only [Act.put,pS]
    refine av (i:=4) (by kernel_rfl) rfl (fun K hK=>?_)
    refine dA rfl _ _ 26 rfl v3.heap.size 58 qJ _ 8 72 underlying26 qU qB qM qp rfl (by decide) _ n ([]++bU xs) rfl OW.out v3.heap.size A2 m c2 (bU ys) 0 rfl (by rw [fF];rw [← HM.out]) (JSR.out.below (Nat.le_refl _) S0) (iM _) (by unfold maxLen;omega) (by omega) S0.size ?_
    intro v6 ub hown6 aI dO
    rw [List.nil_append,← kP,HK.out] at hown6
    obtain⟨A7,c7,rfl⟩:=aA hown6
    have S1:Below v3.heap.size v3 ub:=S0.grown aI S0.size (fun k e=>(OW.out.lt k e).1)
    have OV:=hid hown6
    have GX:=hid ((aI.block gx (lt_of_block GX.out) (fun q=>by
     obtain⟨_,cs2,fr2,r⟩:=bN OW.out _ q.symm
     rw [GX.out] at r
     injection r with r
     injection r with _ r _
     exact absurd r (by decide))).trans GX.out)
    clear hown6 aI dO
    refine hK _ _ S1 ?_
    clear hK K S0
    have S0:=S1
    clear S1
    try simp only [Act.put,pS]
    refine av (i:=5) (by kernel_rfl) rfl (fun K hK=>?_)
    go_simp
    have CC:=CFH.out s A7 k c7 (xs++ys) ub (SSR.out.stay S0) FI.out ((aG (B:=0) OV.out).old) (by rw [List.length_append,← HN.out,← HM.out];exact HK.out.symm) (by omega) KB.out
    unfold kI aW.val at CC
    rw [HBS.out,FB.out,EB.out,LB.out] at CC
    refine CC.mono ?_
    rintro e uc ⟨q,A8,c8,rfl,hq,kE,how,hv⟩
    have S1:=S0.trans (hv.mono S0.size)
    have HQ:=hid hq
    have Hd:=hid kE
    have HOW:=hid (kv how S0.size)
    have GX:=hid (ae GX.out hv)
    clear hq kE how hv CC
    refine hK _ _ S1 ?_
    clear hK K S0
    have S0:=S1
    clear S1
    try simp only [Act.put,pS]
    refine aK 6 ?_ rfl (by kernel_rfl) rfl ?_ S0 ?_
    rotate_left
    ·intro u hu;skip;go_simp;try rfl
    try simp only [Act.put,pS]
    refine aK 7 ?_ rfl (by kernel_rfl) rfl ?_ S0 ?_
    rotate_left
    ·intro u hu;skip;go_simp;try rfl
    try simp only [Act.put,pS]
    refine aK 8 ?_ rfl (by kernel_rfl) rfl ?_ S0 ?_
    rotate_left
    ·intro u hu;skip;go_simp;try rfl
    try simp only [Act.put,pS]
    refine av (i:=10) (by kernel_rfl) rfl (fun K hK=>?_)
    have gq:=GX.out
    obtain⟨g0,g1⟩:=aa gq
    have zX:=af gq 0
    have xY:=af gq 1
    go_simp
    obtain⟨vz,lG⟩:∃ u,(uc.setCell ⟨gx,0,none⟩ (.slice q.A q.ls.length q.c)).setCell ⟨gx,1,none⟩ (.slice q.A2 q.ms.length q.c2)=u:=⟨_,rfl⟩
    try rw [lG]
    have Y:Ty uc gx 25:=⟨_,_,gq⟩
    have tz:aY v3.heap.size [25] uc vz:=by
     rw [← lG]
     exact ((aY.refl _ _ uc).aB (p:=⟨gx,0,none⟩) Y (by simp) GW.out _).aB (p:=⟨gx,1,none⟩) (Y.set _ _) (by simp) GW.out _
    have S1:Below v3.heap.size v3 vz:=S0.trans tz.below
    have HQZ:=hid (HQ.out.bM tz (by decide) (by decide) (by decide))
    have HOZ:=hid (dz HOW.out tz (by decide))
    have GZ:Hid (vz.heap[gx]?=some (.cells #[.slice q.A q.ls.length q.c,.slice q.A2 q.ms.length q.c2] 25 (0,0))):=hid (by rw [← lG];exact ah (ah gq 0 _) 1 _)
    clear gq g0 g1 zX xY tz lG Y
    refine hK _ _ S1 ?_
    clear hK K S0
    have S0:=S1
    clear S1
    try simp only [Act.put,pS]
    refine aK 11 ?_ rfl (by kernel_rfl) rfl ?_ S0 ?_
    rotate_left
    ·intro u hu;skip;go_simp;try rfl
    try simp only [Act.put,pS]
    refine wpAnyH_done (by kernel_rfl) ?_ _
    go_wp2
    go_meet
    case rel=>exact⟨gx,q,A8,c8,rfl,rfl,hid ⟨GZ.out,HQZ.out,Hd.out,HOZ.out,GW.out,S0⟩⟩
  ·skip
   go_simp
   obtain⟨vg,ol⟩:∃ u,wd.alloc (.cells #[.slice none 0 0,.slice none 0 0] 25)=u:=⟨_,rfl⟩
   obtain⟨gb,bg,zg⟩:=ak ol
   try rw [ol]
   have S1:=S0.trans (bg.mono S0.size)
   obtain⟨gx,hgx⟩:∃ g,wd.heap.size=g:=⟨_,rfl⟩
   rw [hgx] at gb
   have GX:=hid gb
   have GW:Hid (v3.heap.size≤gx):=hid (by rw [← hgx];exact S0.size)
   try rw [hgx]
   clear gb bg zg hgx ol
   refine hK.out _ _ S1 (fun _=>?_)
   clear hK K S0
   have S0:=S1
   clear S1
   try simp only [Act.put,pS]
   refine av (i:=2) (by kernel_rfl) rfl (fun K hK=>?_)
   refine dA rfl _ _ 26 rfl v3.heap.size 58 qJ _ 8 72 underlying26 qU qB qM qp rfl (by decide) _ 0 [] rfl (World.ownsRow_nil _ _ _ _) v3.heap.size A n c (bU xs) 0 rfl (by rw [fF];rw [← HN.out]) (ISR.out.below (Nat.le_refl _) S0) (iM _) (by unfold maxLen;omega) (by omega) S0.size ?_
   intro v6 ua hown6 aI dO
   rw [Nat.zero_add] at hown6
   obtain⟨A6,c6,rfl⟩:=aA hown6
   have S1:Below v3.heap.size v3 ua:=S0.grown aI S0.size (fun k e=>by cases e)
   have OW:=hid hown6
   have GX:=hid ((aI.block gx (lt_of_block GX.out) (by intro q;cases q)).trans GX.out)
   clear hown6 aI dO
   refine hK _ _ S1 ?_
   clear hK K S0
   have S0:=S1
   clear S1
   try simp only [Act.put,pS]
   refine av (i:=4) (by kernel_rfl) rfl (fun K hK=>?_)
   refine dA rfl _ _ 26 rfl v3.heap.size 58 qJ _ 8 72 underlying26 qU qB qM qp rfl (by decide) _ n ([]++bU xs) rfl OW.out v3.heap.size A2 m c2 (bU ys) 0 rfl (by rw [fF];rw [← HM.out]) (JSR.out.below (Nat.le_refl _) S0) (iM _) (by unfold maxLen;omega) (by omega) S0.size ?_
   intro v6 ub hown6 aI dO
   rw [List.nil_append,← kP,HK.out] at hown6
   obtain⟨A7,c7,rfl⟩:=aA hown6
   have S1:Below v3.heap.size v3 ub:=S0.grown aI S0.size (fun k e=>(OW.out.lt k e).1)
   have OV:=hid hown6
   have GX:=hid ((aI.block gx (lt_of_block GX.out) (fun q=>by
    obtain⟨_,cs2,fr2,r⟩:=bN OW.out _ q.symm
    rw [GX.out] at r
    injection r with r
    injection r with _ r _
    exact absurd r (by decide))).trans GX.out)
   clear hown6 aI dO
   refine hK _ _ S1 ?_
   clear hK K S0
   have S0:=S1
   clear S1
   try simp only [Act.put,pS]
   refine av (i:=5) (by kernel_rfl) rfl (fun K hK=>?_)
   go_simp
   have CC:=CFH.out s A7 k c7 (xs++ys) ub (SSR.out.stay S0) FI.out ((aG (B:=0) OV.out).old) (by rw [List.length_append,← HN.out,← HM.out];exact HK.out.symm) (by omega) KB.out
   unfold kI aW.val at CC
   rw [HBS.out,FB.out,EB.out,LB.out] at CC
   refine CC.mono ?_
   rintro e uc ⟨q,A8,c8,rfl,hq,kE,how,hv⟩
   have S1:=S0.trans (hv.mono S0.size)
   have HQ:=hid hq
   have Hd:=hid kE
   have HOW:=hid (kv how S0.size)
   have GX:=hid (ae GX.out hv)
   clear hq kE how hv CC
   refine hK _ _ S1 ?_
   clear hK K S0
   have S0:=S1
   clear S1
   try simp only [Act.put,pS]
   refine aK 6 ?_ rfl (by kernel_rfl) rfl ?_ S0 ?_
   rotate_left
   ·intro u hu;skip;go_simp;try rfl
   try simp only [Act.put,pS]
   refine aK 7 ?_ rfl (by kernel_rfl) rfl ?_ S0 ?_
   rotate_left
   ·intro u hu;skip;go_simp;try rfl
   try simp only [Act.put,pS]
   refine aK 8 ?_ rfl (by kernel_rfl) rfl ?_ S0 ?_
   rotate_left
   ·intro u hu;skip;go_simp;try rfl
   try simp only [Act.put,pS]
   refine av (i:=10) (by kernel_rfl) rfl (fun K hK=>?_)
   have gq:=GX.out
   obtain⟨g0,g1⟩:=aa gq
   have zX:=af gq 0
   have xY:=af gq 1
   go_simp
   obtain⟨vz,lG⟩:∃ u,(uc.setCell ⟨gx,0,none⟩ (.slice q.A q.ls.length q.c)).setCell ⟨gx,1,none⟩ (.slice q.A2 q.ms.length q.c2)=u:=⟨_,rfl⟩
   try rw [lG]
   have Y:Ty uc gx 25:=⟨_,_,gq⟩
   have tz:aY v3.heap.size [25] uc vz:=by
    rw [← lG]
    exact ((aY.refl _ _ uc).aB (p:=⟨gx,0,none⟩) Y (by simp) GW.out _).aB (p:=⟨gx,1,none⟩) (Y.set _ _) (by simp) GW.out _
   have S1:Below v3.heap.size v3 vz:=S0.trans tz.below
   have HQZ:=hid (HQ.out.bM tz (by decide) (by decide) (by decide))
   have HOZ:=hid (dz HOW.out tz (by decide))
   have GZ:Hid (vz.heap[gx]?=some (.cells #[.slice q.A q.ls.length q.c,.slice q.A2 q.ms.length q.c2] 25 (0,0))):=hid (by rw [← lG];exact ah (ah gq 0 _) 1 _)
   clear gq g0 g1 zX xY tz lG Y
   refine hK _ _ S1 ?_
   clear hK K S0
   have S0:=S1
   clear S1
   try simp only [Act.put,pS]
   refine aK 11 ?_ rfl (by kernel_rfl) rfl ?_ S0 ?_
   rotate_left
   ·intro u hu;skip;go_simp;try rfl
   try simp only [Act.put,pS]
   refine wpAnyH_done (by kernel_rfl) ?_ _
   go_wp2
   go_meet
   case rel=>exact⟨gx,q,A8,c8,rfl,rfl,hid ⟨GZ.out,HQZ.out,Hd.out,HOZ.out,GW.out,S0⟩⟩
 case rest =>
  obtain⟨g,q,A8,c8,rfl,rfl,HH⟩:=hcut
  obtain⟨v5,hv5⟩:∃ u,u=wc:=⟨_,rfl⟩
  subst wc
  have H5:Hid (Below u0.heap.size u0 v5):=hid (H3.out.trans (HH.out.2.2.2.2.2.mono H3.out.size))
  have GQ:=hid HH.out.1
  have QQ:=hid HH.out.2.1
  have QQS:=hid HH.out.2.2.1
  have EQ5:Hid (au v5 v5.heap.size 0 A8 ((ex++ey).map encZ)):=hid ((aG (B:=0) HH.out.2.2.2.1).old)
  have CX:=hid (CFH.out s A n c xs v5 (SS.out.stay H5.out) FI.out (IS.out.stay H5.out) HN.out (by omega) KM.out)
  unfold kI aW.val at CX
  rw [HBS.out,HFO.out,HEX.out,fA,← HN.out] at CX
  obtain⟨x0,x1⟩:=aa (ae GS.out H5.out)
  clear SSR ISR JSR GSR HH qJ qU qB qM qp
  go_wp2_with fail
  refine CX.out.mono ?_
  rintro e v6 ⟨p,A9,c9,rfl,hp,hps,how,h6⟩
  obtain⟨v7,hv7⟩:∃ u,v6.alloc (.cells #[.slice p.A p.ls.length p.c,.slice p.A2 p.ms.length p.c2] 25)=u:=⟨_,rfl⟩
  obtain⟨pb,b7,_⟩:=ak hv7
  have B7:Hid (Below v5.heap.size v5 v7):=hid (h6.trans (b7.mono h6.size))
  have H7:Hid (Below u0.heap.size u0 v7):=hid (H5.out.trans (B7.out.mono H5.out.size))
  have P7:=hid (hp.stay b7)
  have PS:=hid hps
  have EP7:Hid (au v7 v7.heap.size 0 A9 (ex.map encZ)):=hid ((aG (B:=0) (own_below how b7)).old)
  have CY:=hid (CFH.out p A2 m c2 ys v7 P7.out.sm (jQ.sound (by rw [PS.out];exact FOS.out)) (JS.out.stay H7.out) HM.out (by omega) KL'.out)
  unfold kI aW.val at CY
  rw [PS.out,T9.wN FOS.out,HFZ.out,HEY.out,fA,← HM.out] at CY
  obtain⟨y0,y1⟩:=aa pb
  have PB:=hid pb
  clear x0 x1 hp hps how h6 pb b7 CX
  go_wp2_with fail
  refine CY.out.mono ?_
  rintro e v8 ⟨r,Aa,ca,rfl,hr,hrs,how,h8⟩
  obtain⟨v9,hv9⟩:∃ u,v8.alloc (.cells #[.slice r.A r.ls.length r.c,.slice r.A2 r.ms.length r.c2] 25)=u:=⟨_,rfl⟩
  obtain⟨rb,b9,_⟩:=ak hv9
  have B9:Hid (Below v7.heap.size v7 v9):=hid (h8.trans (b9.mono h8.size))
  have H9:Hid (Below u0.heap.size u0 v9):=hid (H7.out.trans (B9.out.mono H7.out.size))
  have BB:Hid (Below v5.heap.size v5 v9):=hid (B7.out.trans (B9.out.mono B7.out.size))
  have Q9:=hid (QQ.out.stay BB.out)
  have R9:=hid (hr.stay b9)
  have E9:=hid (au.stay EQ5.out BB.out)
  have F9:=hid (au.stay EP7.out B9.out)
  have G9:Hid (au v9 v9.heap.size 0 Aa (ey.map encZ)):=hid ((aG (B:=0) (own_below how b9)).old)
  have CS:=hid (kH Q9.out.sm R9.out.sm (by rw [QQS.out];exact FZS.out.short) (by rw [hrs];exact FZS.out.short) (by rw [QQS.out];exact FZS.out.2) (by rw [hrs];exact FZS.out.2))
  rw [QQS.out,hrs,T9.nH] at CS
  unfold aW.val at CS
  obtain⟨k0,k1⟩:=aa (ae GQ.out BB.out)
  obtain⟨r0,r1⟩:=aa rb
  have kk:((k:Int) != (k:Int))=false:=by simp
  clear y0 y1 hr hrs how h8 rb b9 CY
  go_wp2_with fail
  refine CS.out.mono ?_
  rintro e va ⟨rfl,ha⟩
  have HA:Hid (Below u0.heap.size u0 va):=hid (H9.out.trans (ha.mono H9.out.size))
  have EA:=hid (au.stay E9.out ha)
  have FA:=hid (au.stay F9.out ha)
  have GA:=hid (au.stay G9.out ha)
  clear ha k0 k1 r0 r1 CS
  go_wp2_with fail
  go_loopw [66] (fun s66 wr=>∃ i j:Nat,s66=.int .i64 i∧i≤k∧wr=va.drewN j) (fun s66 _=>k - (intOf s66).toNat)
  case atStart=>exact⟨0,0,rfl,Nat.zero_le _,rfl⟩
  case round =>
   obtain⟨i,j,rfl,hi,rfl⟩:=hrel
   by_cases hlt:i<k
   ·have hltz:(i:Int)<(k:Int):=by omega
    have i0:0≤(i:Int):=by omega
    obtain⟨ad,z,rfl,hz,c0⟩:=lw EA.out (k:=i) (by rw [List.length_append,EX.out,EY.out,HK.out];exact hlt)
    have zz:(z != z)=false:=by simp
    by_cases hf:i<n
    ·have d1:decide ((i:Int)<(n:Int))=true:=by simp;omega
     have d2:decide ((n:Int)≤(i:Int))=false:=by simp;omega
     have d3:decide (n≤i)=false:=by simp;omega
     have d5:decide (i<n)=true:=by simp;omega
     have d4:(i:Int)<(n:Int):=by omega
     obtain⟨ad2,z2,rfl,hz2,c1⟩:=lw FA.out (k:=i) (by rw [EX.out];exact hf)
     obtain rfl:z=z2:=by
      rw [List.getElem?_append_left (by rw [EX.out];exact hf),hz2] at hz
      injection hz with hz
      exact hz.symm
     clear hz hz2
     go_wp2_with fail
     go_quiet (fail)
     go_wp2
     go_roundw
     case rel=>exact⟨i+1,_,by go_num,by omega,rfl⟩
     case measure=>simp [intOf];omega
    ·have d1:decide ((i:Int)<(n:Int))=false:=by simp;omega
     have d2:decide ((n:Int)≤(i:Int))=true:=by simp;omega
     have d3:decide (n≤i)=true:=by simp;omega
     have d5:decide (i<n)=false:=by simp;omega
     have d4:¬ (i:Int)<(n:Int):=by omega
     obtain⟨l,hl⟩:∃ l,i=n+l:=⟨i - n,by omega⟩
     obtain⟨ad2,z2,rfl,hz2,c1⟩:=lw GA.out (k:=l) (by rw [EY.out];have:=HK.out;omega)
     obtain rfl:z=z2:=by
      rw [List.getElem?_append_right (by rw [EX.out];omega),EX.out,show i - n=l by omega,hz2] at hz
      injection hz with hz
      exact hz.symm
     have sw:IntKind.i64.wrap ((i:Int) - (n:Int))=(l:Int):=by rw [IntKind.wrap_i64];omega
     have l0:0≤(l:Int):=by omega
     have l1:(l:Int)<(m:Int):=by have:=HK.out;omega
     clear hz hz2 hl
     go_wp2_with fail
     go_quiet (fail)
     go_wp2
     go_roundw
     case rel=>exact⟨i+1,_,by go_num,by omega,rfl⟩
     case measure=>simp [intOf];omega
   ·obtain rfl:i=k:=by omega
    have hltz:¬ ((i:Int)<(i:Int)):=by omega
    go_wp2
    go_ret
    exact⟨rfl,B0.out.trans ((nX HA.out j).mono B0.out.size)⟩
end
end
section
open Go.ChangeShapes Go.WideShapes Go.ChangeAt Go.RowKit
theorem qH (CF:Dz) (os:Os) (started:os.Started) (H:Type) (enc:TypeId × Value→H) :
  ReturnsInHanded {} Tryz.checked os 4 .any (Rows.foldPartsSpec.pre6 enc prog Tryz.f4 Rows.foldPartsRow.domain false) (Rows.foldPartsSpec.post enc prog Tryz.f4 false true false false):=by
 refine returnsInHanded_of_change (C:=Tryz.checked) Tryz.own2 started (by kernel_rfl) func4
  (ChangeSpec.witness6 (enc:=enc) (C:=Tryz.checked) false ⟨#[],#[.agg #[.slice none 0 0,.slice none 0 0],.slice none 0 0,.slice none 0 0],[]⟩ 8 (by kernel_rfl) (by kernel_rfl) (by kernel_rfl) (by kernel_rfl)) ?_
 intro W base args ds gs before hval0 hW hcnd _
 have hval:∀ (j:Nat) t v,Tryz.f4.params[j]?=some t→args[j]?=some v→Value.okWide prog W .any base t v:=hval0
 have hW':=hW
 obtain⟨p,q,hA0,hV,rfl,hfz,hnd⟩:=hW
 have hA:DataW.TrodAll enc prog W 0 (fun _=>true) true Tryz.f4.params.toList args.toList ds p:=hA0
 rw [Tryz.params4] at hA hval
 obtain⟨v0,v1,v2,d0,d1,d2,p0,p1,p2,rfl,rfl,hps,h0,h1,h2⟩:=trodAll_three hA
 obtain⟨m0,e0,hs0,ho0,hf0⟩:=mr (hval 0 25 v0 rfl rfl) h0
 subst e0
 obtain⟨A1,c1,xs1,e1,hl1,hi1,ho1,hc1⟩:=jU (hval 1 26 v1 rfl rfl) h1
 subst e1
 obtain⟨A2,c2,xs2,e2,hl2,hi2,ho2,hc2⟩:=jU (hval 2 26 v2 rfl rfl) h2
 subst e2
 refine (zY CF hs0 ho0 hf0 hi1 rfl (Nat.le_trans hl1 hc1) ho1 hi2 rfl (Nat.le_trans hl2 hc2) ho2).mono fun e W' ⟨he,hw⟩=>?_
 subst he
 refine⟨_,rfl,uM (tb:=4) Tryz.laidOut2 ?_ rfl (by kernel_rfl) underlying4 hW' hw ?_ ?_ ?_⟩
 ·intro t ht
  rw [Tryz.params4] at ht
  simp at ht
  rcases ht with rfl | rfl | rfl
  all_goals exact⟨by kernel_rfl,of_decide_eq_true (by kernel_rfl)⟩
 all_goals
  obtain⟨rfl,rfl⟩:=trodVars_none hV
  rfl
theorem foldParts_holds:Rows.FoldPartsSaid :=
 OpenClaim.holds_of_wide 4 Tryz.f4 rfl rfl rfl rfl rfl rfl rfl ⟨rfl,rfl,rfl,rfl,rfl⟩ rfl rfl rfl rfl rfl (by kernel_rfl) func4 (by kernel_rfl)
  (of_decide_eq_true (by kernel_rfl)) (by unfold Func.isWrapper;first | (rw [if_pos (by decide +kernel)];kernel_rfl) | (rw [if_neg (by decide +kernel)];exact⟨rfl,rfl⟩))
  (fun os started H enc _=>qH allF os started H enc)
end
end Go.Proofs.YtdjiiknefhepdaaGreat
