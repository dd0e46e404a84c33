import Derived.Test.YtcmiompdjjiojaaGreatZ21
import Derived.Test.YtcmiompdjjiojaaGreatZ22
import Derived.Test.YtcmiompdjjiojaaGreatZ23
import Derived.Test.YtcmiompdjjiojaaGreatZ26
namespace Go.Proofs.YtcmiompdjjiojaaGreat
set_option maxHeartbeats 16000000
open Go.Lib Go.Proofs.Tryz
set_option linter.unusedSimpArgs false
set_option maxRecDepth 100000
section
open Go.RowKit Go.Lib
theorem zh {s:aQ} {m:T9.Mu} {w:World} (hS:DS s w) (hB:DB s.st) (hk:1≤m.kind∧m.kind≤13) :
  Calls prog 52 #[s.val,m.val] w (p9 s.st m w):=by
 obtain⟨kd,id,list,text,f,flag⟩:=m
 obtain⟨ls,A,c,ms,A2,c2⟩:=s
 have hk:1≤kd∧kd≤13:=hk
 have c:kd=1∨kd=2∨kd=3∨kd=4∨kd=5∨kd=6∨kd=7∨kd=8∨kd=9∨kd=10∨kd=11∨kd=12∨kd=13:=by omega
 rcases c with rfl | rfl | rfl | rfl | rfl | rfl | rfl | rfl | rfl | rfl | rfl | rfl | rfl
 ·exact Lr hS hB rfl rfl
 ·exact Ls hS hB rfl rfl
 ·exact Lt hS hB rfl rfl
 ·exact Lu hS hB rfl rfl
 ·exact Lv hS hB rfl rfl
 ·exact Lx hS hB rfl rfl
 ·exact LA hS hB rfl rfl
 ·exact LG hS hB rfl rfl
 ·exact LH hS hB rfl rfl
 ·exact Hu hS hB rfl rfl
 ·exact Hw hS hB rfl rfl
 ·exact Hy hS hB rfl rfl
 ·exact Hz hS hB rfl rfl
theorem Ai {s:T9.St} (hr:T9.aJ s=0) (ho:s.ok):DB s:=⟨Nat.le_trans (T9.aF hr).1 (by decide),Nat.le_trans (T9.aF hr).2.1 (by decide),
 fun t ht=>Nat.le_trans (T9.cu ((T9.iV (T9.aF hr).2.2.2).1 t ht).2.1).2.2.2.2.1 (by decide),T9.Ib hr,fun t ht=>(ho.2 t ht).2.2.1,T9.kS hr⟩
theorem ym {q:aQ} {v v2:World} {g:Nat} {a b x y:Value} (hg:v.heap[g]?=some (.cells #[a,b] 26 (0,0))) (e:(v.setCell ⟨g,0,none⟩ x).setCell ⟨g,1,none⟩ y=v2):(DS q v→DS q v2)∧v2.heap[g]?=some (.cells #[x,y] 26 (0,0)):=by
 subst e
 have yr:Ty v g 26:=⟨_,_,hg⟩
 exact⟨fun h=>h.bE (((aM.refl 0 [26] v).aB (p:=⟨g,0,none⟩) yr (by simp) (Nat.zero_le _) x).aB (p:=⟨g,1,none⟩) (yr.set _ _) (by simp) (Nat.zero_le _) y) (by decide) (by decide) (by decide),ah (ah hg 0 _) 1 _⟩
theorem Bz {s:aQ} {m:T9.Mu} {w:World} (hs:SM s w) (hl:s.st.short) (ho:s.st.ok) (ht:m.text.length≤200) :
  Calls prog 40 #[s.val,m.val] w (yh s.st m w):=by
 obtain⟨w1,hw1⟩:=nm (w.alloc (.cells #[.slice s.A s.ls.length s.c,.slice s.A2 s.ms.length s.c2] 26))
 obtain⟨a1,b1,z1⟩:=aj hw1
 obtain⟨w2,hw2⟩:=nm (w1.alloc (.cells #[.int .i64 m.kind,.int .u64 (m.id:Int),.int .u64 (m.list:Int),.string (str m.text),.float .f64 m.f,.bool m.flag] 57))
 obtain⟨a2,b2,z2⟩:=bn hw2
 obtain⟨w3,hw3⟩:=nm (w2.alloc (.cells #[.slice none 0 0,.slice none 0 0] 26))
 obtain⟨a3,b3,z3⟩:=aj hw3
 rw [z1] at a2
 rw [z2,z1] at a3
 have SB:Hid (w3.heap[w.heap.size]?=some (.cells #[.slice s.A s.ls.length s.c,.slice s.A2 s.ms.length s.c2] 26 (0,0))):=hid (ae (ae a1 b2) b3)
 have MB:Hid (w3.heap[w.heap.size+1]?=some (.cells #[.int .i64 m.kind,.int .u64 (m.id:Int),.int .u64 (m.list:Int),.string (str m.text),.float .f64 m.f,.bool m.flag] 57 (0,0))):=hid (ae a2 b3)
 have RB:Hid (w3.heap[w.heap.size+2]?=some (.cells #[.slice none 0 0,.slice none 0 0] 26 (0,0))):=hid a3
 have B3:Hid (Below w.heap.size w w3):=hid ((b1.trans (b2.mono (by omega))).trans (b3.mono (by omega)))
 have S3:=hid (hs.stay B3.out)
 have HL:=hid hl
 have HO:=hid ho
 have HT:=hid (Nat.le_trans ht (by decide:200≤1000000))
 have RC:=hid (vP (c:=s.c) (c2:=s.c2) S3.out.l S3.out.k rfl rfl HL.out)
 obtain⟨R,hR⟩:=nm (T9.aJ ⟨s.ls,ay s.ms⟩)
 rw [hR] at RC
 have HR:Hid (T9.aJ s.st=R):=hid hR
 obtain⟨p0,p1⟩:=aa SB.out
 unfold aQ.val T9.Mu.val
 have ZZ:Hid (w3.heap.size=w.heap.size+3):=hid (by omega)
 have rA:=z1
 have rC:w2.heap.size=w.heap.size+2:=by omega
 clear hs hl ho ht a1 a2 a3 b1 b2 b3 z1 z2 z3 hR
 go_enter func40,ntmps40
 go_wp2_with fail
 refine RC.out.mono ?_
 rintro e w4 ⟨rfl,hb4⟩
 have S4:=hid (S3.out.stay hb4)
 have SB4:=hid (ae SB.out hb4)
 have MB4:=hid (ae MB.out hb4)
 have EU:=hid (ae RB.out hb4)
 have B4:=hid (B3.out.trans (hb4.mono B3.out.size))
 have Z4:Hid (w.heap.size+3≤w4.heap.size):=hid (by have:=ZZ.out;have:=hb4.size;omega)
 clear hw1 hw2 hw3 RC rA rC p0 p1 hb4
 by_cases hr:R=0
 rotate_left
 ·have hrz:(R != 0)=true:=by simp [hr]
  have AE:Hid (T9.bA s.st m=(⟨[],[]⟩,R)):=hid (by unfold T9.bA;rw [HR.out,if_pos hr])
  clear hr
  have rz:=EU.out
  obtain⟨r0,r1⟩:=aa rz
  have jO:=af rz 0
  have jB:=af rz 1
  have KB:Hid (((w4.setCell ⟨w.heap.size+2,0,none⟩ (.slice none 0 0)).setCell ⟨w.heap.size+2,1,none⟩ (.slice none 0 0)).heap[w.heap.size+2]?=some (.cells #[.slice none 0 0,.slice none 0 0] 26 (0,0))):=hid (ah (ah rz 0 _) 1 _)
  obtain⟨k0,k1⟩:=aa KB.out
  clear rz
  go_wp2
  refine bodyPost_ret (v:=.tuple #[.agg #[.slice none 0 0,.slice none 0 0],.int .i64 R]) (by simp [results,results40,go_sem,k0,k1]) rfl ?_
  exact⟨⟨[],none,0,[],none,0⟩,R,rfl,kR.qN,(B4.out.setCell (by show w.heap.size≤w.heap.size+2;omega) _).setCell (by show w.heap.size≤w.heap.size+2;omega) _,by rw [AE.out];rfl,by rw [AE.out]⟩
 subst hr
 have CC:=hid (Eo (m:=m) (w:=w4) HT.out)
 obtain⟨C,hC⟩:=nm (T9.bN m)
 rw [hC] at CC
 have HC:=hid hC
 unfold T9.Mu.val at CC
 obtain⟨m0,m1,m2,m3,m4,m5⟩:=ag MB4.out
 clear hC
 go_wp2_with fail
 refine CC.out.mono ?_
 rintro e w5 ⟨rfl,hb5⟩
 have S5:=hid (S4.out.stay hb5)
 have SB5:=hid (ae SB4.out hb5)
 have MB5:=hid (ae MB4.out hb5)
 have EW:=hid (ae EU.out hb5)
 have B5:=hid (B4.out.trans (hb5.mono B4.out.size))
 have Z5:Hid (w.heap.size+3≤w5.heap.size):=hid (by have:=Z4.out;have:=hb5.size;omega)
 clear CC m0 m1 m2 m3 m4 m5 hb5
 by_cases hc:C=0
 rotate_left
 ·have hcz:(C != 0)=true:=by simp [hc]
  have AE:Hid (T9.bA s.st m=(⟨[],[]⟩,C)):=hid (by unfold T9.bA;rw [HR.out,HC.out,if_neg (by decide),if_pos hc])
  clear hc
  have rz:=EW.out
  obtain⟨r0,r1⟩:=aa rz
  have jO:=af rz 0
  have jB:=af rz 1
  have KB:Hid (((w5.setCell ⟨w.heap.size+2,0,none⟩ (.slice none 0 0)).setCell ⟨w.heap.size+2,1,none⟩ (.slice none 0 0)).heap[w.heap.size+2]?=some (.cells #[.slice none 0 0,.slice none 0 0] 26 (0,0))):=hid (ah (ah rz 0 _) 1 _)
  obtain⟨k0,k1⟩:=aa KB.out
  clear rz
  go_wp2
  refine bodyPost_ret (v:=.tuple #[.agg #[.slice none 0 0,.slice none 0 0],.int .i64 C]) (by simp [results,results40,go_sem,k0,k1]) rfl ?_
  exact⟨⟨[],none,0,[],none,0⟩,C,rfl,kR.qN,(B5.out.setCell (by show w.heap.size≤w.heap.size+2;omega) _).setCell (by show w.heap.size≤w.heap.size+2;omega) _,by rw [AE.out];rfl,by rw [AE.out]⟩
 subst hc
 have HK:Hid (1≤m.kind∧m.kind≤13):=hid (by
  have q:=HC.out
  unfold T9.bN at q
  by_cases hk:1≤m.kind∧m.kind≤13
  ·exact hk
  ·rw [if_pos hk] at q;cases q)
 have DBS:=hid (Ai HR.out HO.out)
 have CN:=hid fun (v:World) (hv:Below w5.heap.size w5 v)=>rP (c1:=s.c) (c2:=s.c2) (S5.out.stay hv).l (S5.out.stay hv).k rfl rfl DBS.out.n1 (by have:=DBS.out.n2;unfold aQ.st at this;rwa [aK] at this) (fun t ht=>Nat.le_trans (DBS.out.t t.t (List.mem_map.2 ⟨t,ht,rfl⟩)) (by decide))
 rw [show T9.canon ⟨s.ls,ay s.ms⟩=s.st from DBS.out.c] at CN
 obtain⟨RM,hRM⟩:=nm (T9.eD s.st m)
 have HRM:=hid hRM
 clear hRM
 go_upto_region 7 with fail
 go_cut [8,9] (fun s8 s9 wr=>∃ (g:Nat) (q:aQ) (er:Int),s8=.pointer (some ⟨g,0,none⟩)∧s9=.int .i64 er∧Hid (er=RM.1∧(er=0→q.st=RM.2∧DS q wr)∧wr.heap[g]?=some (.cells #[.slice q.A q.ls.length q.c,.slice q.A2 q.ms.length q.c2] 26 (0,0))∧w5.heap.size≤g∧Below w5.heap.size w5 wr))
 case first =>
  refine wp_region_held_drew (S:=fun u=>Below w5.heap.size w5 u) (by kernel_rfl) ((Below.refl w5.heap.size w5).drew) (fun S0=>?_)
  refine av 0 S0 ?_ (hy:=by intro u hu;obtain⟨y0,y1⟩:=aa (ae SB5.out hu);go_simp;try rfl)
  refine av 2 S0 ?_ (hy:=by intro u hu;obtain⟨y0,y1,y2,y3,y4,y5⟩:=ag (ae MB5.out hu);go_simp;try rfl)
  refine wpAnyH_ready (rs:=[1,7]) (by kernel_rfl) (by simp) (AllReadyH.cons rfl (fun K hK=>?_) (AllReadyH.cons rfl (fun K hK=>?_) AllReadyH.nil))
  ·go_simp
   refine (CN.out _ S0).mono ?_
   rintro e va ⟨s7,rfl,st7,l7,k7,t7,lc7,kc7,za7,zk7,Cv⟩
   have S1:=S0.trans (Cv.mono S0.size)
   have D7:Hid (DS s7 va):=hid ⟨l7,k7,t7,lc7,kc7,za7,zk7⟩
   have Q7:=hid st7
   clear l7 k7 t7 lc7 kc7 za7 zk7 Cv st7
   refine hK.out _ _ S1 (fun _=>?_)
   clear hK K S0
   have S0:=S1
   clear S1
   try simp only [Act.put,pS]
   refine wpAnyH_ready (rs:=[3,7]) (by kernel_rfl) (by simp) (AllReadyH.cons rfl (fun K hK=>?_) (AllReadyH.cons rfl (fun K hK=>?_) AllReadyH.nil))
   ·go_simp
    refine (zh (s:=s7) (m:=m) (D7.out) (by rw [Q7.out];exact DBS.out) HK.out).mono ?_
    rintro e vb ⟨q,er,rfl,her,hq,gp⟩
    unfold aQ.val
    have S1:=S0.trans (gp.mono S0.size)
    rw [Q7.out,HRM.out] at her hq
    have HER:=hid her
    have HQ:=hid hq
    clear her hq gp
    refine hK.out _ _ S1 (fun _=>?_)
    clear hK K S0
    have S0:=S1
    clear S1
    try simp only [Act.put,pS]
    refine av 4 S0 ?_
    refine av 5 S0 ?_
    refine av 6 S0 ?_
    refine fw 7 fun K hK=>?_
    go_simp
    obtain⟨vg,hvg⟩:=nm (vb.alloc (.cells #[.slice none 0 0,.slice none 0 0] 26))
    obtain⟨gb,bg,zg⟩:=aj hvg
    rw [hvg]
    have S1:=S0.trans (bg.mono S0.size)
    have GB:=hid gb
    have GZ:Hid (w5.heap.size≤vb.heap.size):=hid S0.size
    have BG:=hid bg
    clear gb bg zg
    refine hK _ _ S1 ?_
    clear hK K S0
    have S0:=S1
    clear S1
    try simp only [Act.put,pS]
    refine fw 8 fun K hK=>?_
    go_simp
    have gq:=GB.out
    obtain⟨g0,g1⟩:=aa gq
    have xG:=af gq 0
    have xH:=af gq 1
    go_simp
    obtain⟨vz,jQ⟩:=nm ((vg.setCell ⟨vb.heap.size,0,none⟩ (.slice q.A q.ls.length q.c)).setCell ⟨vb.heap.size,1,none⟩ (.slice q.A2 q.ms.length q.c2))
    have FN:=hid (ym (q:=q) gq jQ)
    have S1:Below w5.heap.size w5 vz:=by rw [← jQ];exact (S0.setCell (p:=⟨vb.heap.size,0,none⟩) GZ.out _).setCell (p:=⟨vb.heap.size,1,none⟩) GZ.out _
    try rw [jQ]
    clear gq g0 g1 xG xH
    refine hK _ _ S1 ?_
    clear hK K S0
    have S0:=S1
    clear S1
    try simp only [Act.put,pS]
    refine fw 9 fun K hK=>?_
    go_simp
    have S1:=S0
    refine hK _ _ S1 ?_
    clear hK K S0
    have S0:=S1
    clear S1
    try simp only [Act.put,pS]
    refine wpAnyH_done (by kernel_rfl) ?_ _
    go_wp2
    go_meet
    case rel=>exact⟨vb.heap.size,q,er,rfl,rfl,hid ⟨HER.out,fun z=>⟨(HQ.out z).1,FN.out.1 ((HQ.out z).2.stay BG.out)⟩,FN.out.2,GZ.out,S0⟩⟩
   ·go_simp
    obtain⟨vg,hvg⟩:=nm (va.alloc (.cells #[.slice none 0 0,.slice none 0 0] 26))
    obtain⟨gb,bg,zg⟩:=aj hvg
    rw [hvg]
    have S1:=S0.trans (bg.mono S0.size)
    have GB:=hid gb
    have GZ:Hid (w5.heap.size≤va.heap.size):=hid S0.size
    have BG:=hid bg
    clear gb bg zg
    refine hK.out _ _ S1 (fun _=>?_)
    clear hK K S0
    have S0:=S1
    clear S1
    try simp only [Act.put,pS]
    refine fw 3 fun K hK=>?_
    go_simp
    refine (zh (s:=s7) (m:=m) (D7.out.stay BG.out) (by rw [Q7.out];exact DBS.out) HK.out).mono ?_
    rintro e vb ⟨q,er,rfl,her,hq,gp⟩
    unfold aQ.val
    have S1:=S0.trans (gp.mono S0.size)
    rw [Q7.out,HRM.out] at her hq
    have HER:=hid her
    have HQ:=hid hq
    have GB:=hid (ae GB.out gp)
    clear her hq gp
    refine hK _ _ S1 ?_
    clear hK K S0
    have S0:=S1
    clear S1
    try simp only [Act.put,pS]
    refine av 4 S0 ?_
    refine av 5 S0 ?_
    refine av 6 S0 ?_
    refine fw 8 fun K hK=>?_
    go_simp
    have gq:=GB.out
    obtain⟨g0,g1⟩:=aa gq
    have xG:=af gq 0
    have xH:=af gq 1
    go_simp
    obtain⟨vz,jQ⟩:=nm ((vb.setCell ⟨va.heap.size,0,none⟩ (.slice q.A q.ls.length q.c)).setCell ⟨va.heap.size,1,none⟩ (.slice q.A2 q.ms.length q.c2))
    have FN:=hid (ym (q:=q) gq jQ)
    have S1:Below w5.heap.size w5 vz:=by rw [← jQ];exact (S0.setCell (p:=⟨va.heap.size,0,none⟩) GZ.out _).setCell (p:=⟨va.heap.size,1,none⟩) GZ.out _
    try rw [jQ]
    clear gq g0 g1 xG xH
    refine hK _ _ S1 ?_
    clear hK K S0
    have S0:=S1
    clear S1
    try simp only [Act.put,pS]
    refine fw 9 fun K hK=>?_
    go_simp
    have S1:=S0
    refine hK _ _ S1 ?_
    clear hK K S0
    have S0:=S1
    clear S1
    try simp only [Act.put,pS]
    refine wpAnyH_done (by kernel_rfl) ?_ _
    go_wp2
    go_meet
    case rel=>exact⟨va.heap.size,q,er,rfl,rfl,hid ⟨HER.out,fun z=>⟨(HQ.out z).1,FN.out.1 ((HQ.out z).2)⟩,FN.out.2,GZ.out,S0⟩⟩
  ·go_simp
   obtain⟨vg,hvg⟩:=nm ((w5.alloc (.cells #[.slice none 0 0,.slice none 0 0] 26)).drew)
   obtain⟨gb,bg,zg⟩:=aj (show w5.drew.alloc (.cells #[.slice none 0 0,.slice none 0 0] 26)=vg from hvg)
   rw [hvg]
   have S1:=S0.trans (bg.mono S0.size)
   have GB:Hid (vg.heap[w5.heap.size]?=some (.cells #[.slice none 0 0,.slice none 0 0] 26 (0,0))):=hid gb
   have GZ:Hid (w5.heap.size≤w5.heap.size):=hid (Nat.le_refl _)
   clear gb bg zg
   refine hK.out _ _ S1 (fun _=>?_)
   clear hK K S0
   have S0:=S1
   clear S1
   try simp only [Act.put,pS]
   refine fw 1 fun K hK=>?_
   go_simp
   refine (CN.out _ S0).mono ?_
   rintro e va ⟨s7,rfl,st7,l7,k7,t7,lc7,kc7,za7,zk7,Cv⟩
   have S1:=S0.trans (Cv.mono S0.size)
   have D7:Hid (DS s7 va):=hid ⟨l7,k7,t7,lc7,kc7,za7,zk7⟩
   have Q7:=hid st7
   have GB:=hid (ae GB.out Cv)
   clear l7 k7 t7 lc7 kc7 za7 zk7 Cv st7
   refine hK _ _ S1 ?_
   clear hK K S0
   have S0:=S1
   clear S1
   try simp only [Act.put,pS]
   refine fw 3 fun K hK=>?_
   go_simp
   refine (zh (s:=s7) (m:=m) (D7.out) (by rw [Q7.out];exact DBS.out) HK.out).mono ?_
   rintro e vb ⟨q,er,rfl,her,hq,gp⟩
   unfold aQ.val
   have S1:=S0.trans (gp.mono S0.size)
   rw [Q7.out,HRM.out] at her hq
   have HER:=hid her
   have HQ:=hid hq
   have GB:=hid (ae GB.out gp)
   clear her hq gp
   refine hK _ _ S1 ?_
   clear hK K S0
   have S0:=S1
   clear S1
   try simp only [Act.put,pS]
   refine av 4 S0 ?_
   refine av 5 S0 ?_
   refine av 6 S0 ?_
   refine fw 8 fun K hK=>?_
   go_simp
   have gq:=GB.out
   obtain⟨g0,g1⟩:=aa gq
   have xG:=af gq 0
   have xH:=af gq 1
   go_simp
   obtain⟨vz,jQ⟩:=nm ((vb.setCell ⟨w5.heap.size,0,none⟩ (.slice q.A q.ls.length q.c)).setCell ⟨w5.heap.size,1,none⟩ (.slice q.A2 q.ms.length q.c2))
   have FN:=hid (ym (q:=q) gq jQ)
   have S1:Below w5.heap.size w5 vz:=by rw [← jQ];exact (S0.setCell (p:=⟨w5.heap.size,0,none⟩) GZ.out _).setCell (p:=⟨w5.heap.size,1,none⟩) GZ.out _
   try rw [jQ]
   clear gq g0 g1 xG xH
   refine hK _ _ S1 ?_
   clear hK K S0
   have S0:=S1
   clear S1
   try simp only [Act.put,pS]
   refine fw 9 fun K hK=>?_
   go_simp
   have S1:=S0
   refine hK _ _ S1 ?_
   clear hK K S0
   have S0:=S1
   clear S1
   try simp only [Act.put,pS]
   refine wpAnyH_done (by kernel_rfl) ?_ _
   go_wp2
   go_meet
   case rel=>exact⟨w5.heap.size,q,er,rfl,rfl,hid ⟨HER.out,fun z=>⟨(HQ.out z).1,FN.out.1 ((HQ.out z).2)⟩,FN.out.2,GZ.out,S0⟩⟩
 case rest =>
  obtain⟨g,q,er,rfl,rfl,HH⟩:=hcut
  have RB6:=hid (ae EW.out HH.out.2.2.2.2)
  have B6:=hid (B5.out.trans (HH.out.2.2.2.2.mono B5.out.size))
  have GB:=hid HH.out.2.2.1
  have GN:Hid (g≠w.heap.size+2):=hid (by have:=HH.out.2.2.2.1;have:=Z5.out;omega)
  by_cases he:er=0
  rotate_left
  ·have wT:(er != 0)=true:=by simp [he]
   have AE:Hid (T9.bA s.st m=(⟨[],[]⟩,er)):=hid (by unfold T9.bA;rw [HR.out,HC.out,if_neg (by decide),if_neg (by decide),HRM.out,← HH.out.1,if_pos he])
   clear he
   have rz:=RB6.out
   obtain⟨r0,r1⟩:=aa rz
   have jO:=af rz 0
   have jB:=af rz 1
   have KB:Hid (((wc.setCell ⟨w.heap.size+2,0,none⟩ (.slice none 0 0)).setCell ⟨w.heap.size+2,1,none⟩ (.slice none 0 0)).heap[w.heap.size+2]?=some (.cells #[.slice none 0 0,.slice none 0 0] 26 (0,0))):=hid (ah (ah rz 0 _) 1 _)
   obtain⟨k0,k1⟩:=aa KB.out
   clear rz
   go_wp2
   refine bodyPost_ret (v:=.tuple #[.agg #[.slice none 0 0,.slice none 0 0],.int .i64 er]) (by simp [results,results40,go_sem,k0,k1]) rfl ?_
   exact⟨⟨[],none,0,[],none,0⟩,er,rfl,kR.qN,(B6.out.setCell (by show w.heap.size≤w.heap.size+2;omega) _).setCell (by show w.heap.size≤w.heap.size+2;omega) _,by rw [AE.out];rfl,by rw [AE.out]⟩
  subst he
  have wT:((0:Int) != 0)=false:=by decide
  have AE:Hid (T9.bA s.st m=(q.st,0)):=hid (by unfold T9.bA;rw [HR.out,HC.out,if_neg (by decide),if_neg (by decide),HRM.out,← HH.out.1,if_neg (by decide),(HH.out.2.1 rfl).1])
  have DQ:=hid (HH.out.2.1 rfl).2
  obtain⟨g0,g1⟩:=aa GB.out
  obtain⟨r0,r1⟩:=aa RB6.out
  have jO:=af RB6.out 0
  have jB:=af RB6.out 1
  obtain⟨wz,hwz⟩:=nm ((wc.setCell ⟨w.heap.size+2,0,none⟩ (.slice q.A q.ls.length q.c)).setCell ⟨w.heap.size+2,1,none⟩ (.slice q.A2 q.ms.length q.c2))
  have FN:=hid (ym (q:=q) RB6.out hwz)
  have BZ:Hid (Below w.heap.size w wz):=hid (by rw [← hwz];exact (B6.out.setCell (by show w.heap.size≤w.heap.size+2;omega) _).setCell (by show w.heap.size≤w.heap.size+2;omega) _)
  obtain⟨k0,k1⟩:=aa FN.out.2
  go_wp2
  refine bodyPost_ret (v:=.tuple #[.agg #[.slice q.A q.ls.length q.c,.slice q.A2 q.ms.length q.c2],.int .i64 0]) (by simp [results,results40,go_sem,k0,k1]) rfl ?_
  have DZ:=FN.out.1 DQ.out
  exact⟨q,0,rfl,⟨DZ.l,DZ.k,fun x hx=>DZ.t x hx,DZ.lc,DZ.kc⟩,BZ.out,by rw [AE.out],by rw [AE.out]⟩
end
end Go.Proofs.YtcmiompdjjiojaaGreat
