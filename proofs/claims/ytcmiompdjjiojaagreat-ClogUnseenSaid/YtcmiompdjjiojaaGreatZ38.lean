import Derived.Test.YtcmiompdjjiojaaGreatZ37
namespace Go.Proofs.YtcmiompdjjiojaaGreat
set_option maxHeartbeats 16000000
open Go.Lib Go.Proofs.Tryz
set_option linter.unusedSimpArgs false
set_option maxRecDepth 100000
section
section
open Go.RowKit Go.Lib Go.Shelf
theorem j4 {w:World} {p:Nat} {t:TypeId} {a b c d:Value} {fr:Nat × Nat} (q:w.heap[p]?=some (.cells #[a,b,c,d] t fr)):w.cell? ⟨p,0,none⟩=some a∧w.cell? ⟨p,1,none⟩=some b∧w.cell? ⟨p,2,none⟩=some c∧w.cell? ⟨p,3,none⟩=some d:=by
 refine⟨?_,?_,?_,?_⟩ <;> simp [World.cell?,q]
theorem Db {P:Program} {md:Region.Mode} {ops:Array Oper} {Q:Exit→Act→World→Prop} {S:World→Prop} {i j:Nat} {oi oj:Oper} {f:Nat} {ls:Array Bool} {a:Act} {w:World} (hr:Region.ready md ops ls=[i,j]) (hi:ops[i]?=some oi) (hj:ops[j]?=some oj)
  (h1:∀ K:Act→World→Prop,(∀ b u,S u→wpAnyH P md ops Q S f (ls.setIfInBounds i true) b u→K b u)→if Region.wanted oi (yielded ops a.tmps)=true then Oper.wp P oi a w K Q else K (a.put oi.dst undef) w)
  (h2:∀ K:Act→World→Prop,(∀ b u,S u→wpAnyH P md ops Q S f (ls.setIfInBounds j true) b u→K b u)→if Region.wanted oj (yielded ops a.tmps)=true then Oper.wp P oj a w K Q else K (a.put oj.dst undef) w):wpAnyH P md ops Q S (f+1) ls a w:=by
 refine⟨fun e=>absurd e (by rw [hr];simp),fun k hk=>?_⟩
 rw [hr] at hk
 simp only [List.mem_cons,List.not_mem_nil,or_false] at hk
 rcases hk with rfl | rfl
 ·exact wpOp_step hi (fun K hK=>h1 K (fun b u q1 q2=>hK b u ⟨q1,q2⟩))
 ·exact wpOp_step hj (fun K hK=>h2 K (fun b u q1 q2=>hK b u ⟨q1,q2⟩))
structure jm (base g:Nat) (q:aQ) (A:Option Addr) (c:Nat) (L:D17.Lg) (W:World):Prop where
 blk:W.heap[g]?=some (.cells #[.int .u64 (L.base:Int),.slice q.A q.ls.length q.c,.slice q.A2 q.ms.length q.c2,.slice A L.xs.length c] 40 (0,0))
 sm:kR q W
 st:q.st=L.s
 row:eO base A L.xs.length c L.xs W
 low:base≤g
structure dU (L:D17.Lg):Prop where
 ok:L.Ok
 text:∀ x∈L.xs,x.m.text.length≤200
 iW:L.iW≤4398046511104
 len:L.xs.length≤1000
section
variable {base g c : Nat} {q : aQ} {A : Option Addr} {L : D17.Lg} {W W' : World}
theorem jm.bE {B:Nat} {ts:List TypeId} (h:jm base g q A c L W) (hT:aM B ts W W') (h0:40 ∉ ts) (h3:61 ∉ ts) (h4:64 ∉ ts) (h5:9 ∉ ts) (hr:∀ k,iP A c=some k→W'.heap[k]?=W.heap[k]?):jm base g q A c L W':=⟨hT.blk h.blk h0,h.sm.bE hT h3 h4 h5,h.st,h.row.keep hr,h.low⟩
theorem jm.stay (h:jm base g q A c L W) (hb:Below W.heap.size W W'):jm base g q A c L W':=⟨ae h.blk hb,h.sm.stay hb,h.st,h.row.stay hb,h.low⟩
theorem jm.cells (h:jm base g q A c L W):W.cell? ⟨g,0,none⟩=some (.int .u64 (L.base:Int))∧W.cell? ⟨g,1,none⟩=some (.slice q.A q.ls.length q.c)∧W.cell? ⟨g,2,none⟩=some (.slice q.A2 q.ms.length q.c2)∧W.cell? ⟨g,3,none⟩=some (.slice A L.xs.length c):=j4 h.blk
theorem dU.cut (h:dU L) (t:Nat):dU (L.cut t):=by
 refine⟨h.ok.cut t,fun x hx=>?_,by rw [D17.Lg.tO];exact h.iW,Nat.le_trans (L.cut_len t) h.len⟩
 by_cases q:L.has t
 ·rw [D17.Lg.jA q] at hx
  exact h.text x (List.mem_of_mem_drop hx)
 ·rw [D17.Lg.rV q] at hx
  exact h.text x hx
theorem kK (h:jm base g q A c L W) (hg:dU L):Calls prog 29 #[.pointer (some ⟨g,0,none⟩)] W fun e w'=>e=.returned (.int .u64 (L.iW:Int))∧Below W.heap.size W w':=by
 have HC:=hid (show ∀ u,Below W.heap.size W u→u.cell? ⟨g,0,none⟩=some (.int .u64 (L.base:Int))∧u.cell? ⟨g,3,none⟩=some (.slice A L.xs.length c) from fun u hu=>⟨(h.stay hu).cells.1,(h.stay hu).cells.2.2.2⟩)
 have hv:=hg.iW
 have hl:=hg.len
 obtain⟨k,hk⟩:=nm L.xs.length
 obtain⟨b,hb⟩:=nm L.base
 obtain⟨V,hV⟩:=nm L.iW
 have e:V=b+k:=by rw [← hV,← hb,← hk];rfl
 have w1:IntKind.u64.wrap (k:Int)=(k:Int):=fQ (by omega) (by omega)
 have w2:IntKind.u64.wrap ((b:Int)+(k:Int))=(V:Int):=by rw [fQ] <;> omega
 rw [hk,hb] at HC
 rw [hV]
 clear h hg hv hl hk hb hV e
 go_enter func29,ntmps29
 go_wp2_with fail
 refine wp_region_held_drew (S:=fun u=>Below W.heap.size W u) (by kernel_rfl) ((Below.refl _ W).drew) (fun S0=>?_)
 generalize W.drew=wd at S0 ⊢
 refine av 0 S0 ?_
 refine av 1 S0 ?_
 refine av 2 S0 ?_
 refine av 3 S0 ?_ (hy:=by intro u hu;obtain⟨c0,c3⟩:=HC.out u hu;clear hu;go_simp;try rfl)
 refine av 4 S0 ?_
 refine av 5 S0 ?_
 refine av 6 S0 ?_
 refine av 7 S0 ?_ (hy:=by intro u hu;obtain⟨c0,c3⟩:=HC.out u hu;clear hu;go_simp;try rfl)
 refine av 8 S0 ?_
 refine av 9 S0 ?_
 refine av 10 S0 ?_
 refine av 11 S0 ?_
 refine wpAnyH_done (by kernel_rfl) ?_ _
 go_wp2
 go_ret
 exact⟨rfl,S0⟩
def tJ (s:T9.St) (n:Nat) (w:World) (e:Ending) (w':World):Prop:=∃ (q:aQ) (A:Option Addr) (c:Nat),e=.returned (.tuple #[.agg #[.slice q.A q.ls.length q.c,.slice q.A2 q.ms.length q.c2],.slice A n c])∧kR q w'∧q.st=s∧Below w.heap.size w w'
theorem vM {s:aQ} {A:Option Addr} {n c:Nat} {xs:List It} {w:World} (hs:kR s w) (hd:T9.dX s.st) (h:IL w A xs) (hn:n=xs.length) (hx:n≤1000000) (km:∀ x∈xs,x.m.ok∧x.m.text.length≤200) :
  Calls prog 22 #[.agg #[.slice s.A s.ls.length s.c,.slice s.A2 s.ms.length s.c2],.slice A n c] w (tJ (T9.bZ s.st (cZ xs)) n w):=by
 refine (Ht (c:=c) hs.sm (jF.sound hd) h hn hx km).mono ?_
 rintro e w' ⟨q,A',c',rfl,h1,h2,_,h3⟩
 rw [T9.qj hd] at h2
 exact⟨q,A',c',by rw [gI,← hn];rfl,h1,h2,h3⟩
theorem En {v:Nat} (h:jm base g q A c L W) (hg:dU L) (hv:¬ L.has v):Calls prog 27 #[.pointer (some ⟨g,0,none⟩),.int .u64 (v:Int)] W (dC false ⟨[],[]⟩ W):=by
 have hbl:=j_
 obtain⟨w1,hw1⟩:=nm (W.alloc (.cells #[.slice none 0 0,.slice none 0 0] 26))
 obtain⟨rb,b1,z1⟩:=aj hw1
 have VE:=hid (kK (h.stay b1) hg)
 have c0:=(h.stay b1).cells.1
 obtain⟨b,hb⟩:=nm L.base
 obtain⟨V,hV⟩:=nm L.iW
 have hv:¬ (b≤v∧v≤V):=by rw [← hb,← hV];exact hv
 rw [hb] at c0
 rw [hV] at VE
 have RB:=hid rb
 have B1:=hid b1
 clear h hg rb b1 z1 hb hV
 by_cases h1:v<b
 ·have d1:decide ((v:Int)<(b:Int))=true:=by simp;omega
  have d2:(v:Int)<(b:Int):=by omega
  have d3:decide (v<b)=true:=by simp [h1]
  have f0:=af RB.out 0
  have f1:=af RB.out 1
  obtain⟨r0,r1⟩:=aa RB.out
  clear hv
  go_enter func27,ntmps27
  go_wp2
  obtain⟨wz,hwz⟩:=nm ((w1.setCell ⟨W.heap.size,0,none⟩ (.slice none 0 0)).setCell ⟨W.heap.size,1,none⟩ (.slice none 0 0))
  rw [hwz]
  have YR:Ty w1 W.heap.size 26:=⟨_,_,RB.out⟩
  have TZ:aM W.heap.size [26] w1 wz:=by
   rw [← hwz]
   exact ((aM.refl _ _ w1).aB (p:=⟨W.heap.size,0,none⟩) YR (by simp) (Nat.le_refl _) _).aB (p:=⟨W.heap.size,1,none⟩) (YR.set _ _) (by simp) (Nat.le_refl _) _
  have RZ:wz.heap[W.heap.size]?=some (.cells #[.slice none 0 0,.slice none 0 0] 26 (0,0)):=by rw [← hwz];exact ah (ah RB.out 0 _) 1 _
  obtain⟨y0,y1⟩:=aa RZ
  refine bodyPost_ret (v:=.tuple #[.agg #[.slice none 0 0,.slice none 0 0],.bool false]) (by simp [results,results27,go_sem,y0,y1]) rfl ?_
  exact⟨⟨[],none,0,[],none,0⟩,rfl,kR.qN,rfl,B1.out.trans TZ.below⟩
 ·have h2:V<v:=by omega
  have d1:decide ((v:Int)<(b:Int))=false:=by simp;omega
  have d2:¬ (v:Int)<(b:Int):=by omega
  have d3:decide (v<b)=false:=by simp [h1]
  have e1:decide ((V:Int)<(v:Int))=true:=by simp;omega
  have e2:(V:Int)<(v:Int):=by omega
  have e3:decide (V<v)=true:=by simp [h2]
  clear hv
  go_enter func27,ntmps27
  go_wp2_with fail
  refine VE.out.mono ?_
  rintro e w2 ⟨rfl,b2⟩
  have R2:=hid (ae RB.out b2)
  have B2:Hid (Below W.heap.size W w2):=hid (B1.out.trans (b2.mono B1.out.size))
  have f0:=af R2.out 0
  have f1:=af R2.out 1
  obtain⟨r0,r1⟩:=aa R2.out
  clear b2
  go_wp2
  obtain⟨wz,hwz⟩:=nm ((w2.setCell ⟨W.heap.size,0,none⟩ (.slice none 0 0)).setCell ⟨W.heap.size,1,none⟩ (.slice none 0 0))
  rw [hwz]
  have YR:Ty w2 W.heap.size 26:=⟨_,_,R2.out⟩
  have TZ:aM W.heap.size [26] w2 wz:=by
   rw [← hwz]
   exact ((aM.refl _ _ w2).aB (p:=⟨W.heap.size,0,none⟩) YR (by simp) (Nat.le_refl _) _).aB (p:=⟨W.heap.size,1,none⟩) (YR.set _ _) (by simp) (Nat.le_refl _) _
  have RZ:wz.heap[W.heap.size]?=some (.cells #[.slice none 0 0,.slice none 0 0] 26 (0,0)):=by rw [← hwz];exact ah (ah R2.out 0 _) 1 _
  obtain⟨y0,y1⟩:=aa RZ
  refine bodyPost_ret (v:=.tuple #[.agg #[.slice none 0 0,.slice none 0 0],.bool false]) (by simp [results,results27,go_sem,y0,y1]) rfl ?_
  exact⟨⟨[],none,0,[],none,0⟩,rfl,kR.qN,rfl,B2.out.trans TZ.below⟩
theorem BH {v:Nat} (h:jm base g q A c L W) (hg:dU L) (hv:L.has v):Calls prog 27 #[.pointer (some ⟨g,0,none⟩),.int .u64 (v:Int)] W (dC true (L.at_ v) W):=by
 obtain⟨w1,hw1⟩:=nm (W.alloc (.cells #[.slice none 0 0,.slice none 0 0] 26))
 obtain⟨rb,b1,z1⟩:=aj hw1
 have VE:=hid (kK (h.stay b1) hg)
 have c0:=(h.stay b1).cells.1
 obtain⟨i,hi⟩:=nm (v - L.base)
 obtain⟨ha,hb⟩:=hv
 have r_:L.iW=L.base+L.xs.length:=rfl
 have hV2:=hg.iW
 have hlen:=hg.len
 have lc:=h.row.le
 obtain⟨s',hs'⟩:=nm (L.at_ v)
 have AL:=hid (show ∀ u,Below W.heap.size W u→Calls prog 22 #[.agg #[.slice q.A q.ls.length q.c,.slice q.A2 q.ms.length q.c2],.slice A i c] u (tJ s' i u) from fun u hu=>by
  have D:=h.stay hu
  have sd:T9.dX q.st:=by rw [h.st];exact hg.ok.s
  have r:=vM (c:=c) (n:=i) (xs:=L.xs.take i) D.sm sd (nA D.row.lies (by omega)).old (by rw [List.length_take];omega) (by omega) (fun x hx=>⟨hg.ok.m x (List.mem_of_mem_take hx),hg.text x (List.mem_of_mem_take hx)⟩)
  rw [h.st,← hi,← D17.Lg.lQ (show L.has v from⟨ha,hb⟩),hs',hi] at r
  exact r)
 have HC:=hid (show ∀ u,Below W.heap.size W u→u.cell? ⟨g,0,none⟩=some (.int .u64 (L.base:Int))∧u.cell? ⟨g,1,none⟩=some (.slice q.A q.ls.length q.c)∧u.cell? ⟨g,2,none⟩=some (.slice q.A2 q.ms.length q.c2)∧u.cell? ⟨g,3,none⟩=some (.slice A L.xs.length c) from fun u hu=>(h.stay hu).cells)
 obtain⟨b,hb'⟩:=nm L.base
 obtain⟨V,hV⟩:=nm L.iW
 obtain⟨n,hn⟩:=nm L.xs.length
 rw [hb'] at c0 HC ha hi r_
 rw [hV] at VE hb r_ hV2
 rw [hn] at HC r_ hlen lc
 rw [hs']
 unfold tJ at AL
 have d1:decide ((v:Int)<(b:Int))=false:=by simp;omega
 have d2:¬ (v:Int)<(b:Int):=by omega
 have d3:decide (v<b)=false:=by simp;omega
 have e1:decide ((V:Int)<(v:Int))=false:=by simp;omega
 have e2:¬ (V:Int)<(v:Int):=by omega
 have e3:decide (V<v)=false:=by simp;omega
 have hw:IntKind.u64.wrap ((v:Int) - (b:Int))=(i:Int):=by rw [fQ] <;> omega
 have i0:0≤(i:Int):=by omega
 have i1:(i:Int)≤(c:Int):=by omega
 have RB:=hid rb
 have B1:=hid b1
 clear h hg ha hb hi r_ hV2 hlen lc hs' hb' hV hn rb b1 z1
 go_enter func27,ntmps27
 go_wp2_with fail
 refine VE.out.mono ?_
 rintro e w2 ⟨rfl,b2⟩
 have zV:=hid (ae RB.out b2)
 have B2:Hid (Below W.heap.size W w2):=hid (B1.out.trans (b2.mono B1.out.size))
 clear b2 c0
 go_wp2_with fail
 refine wp_region_held_drew (S:=fun u=>Below W.heap.size W u) (by kernel_rfl) (B2.out.drew) (fun S0=>?_)
 have RD:Hid (w2.drew.heap[W.heap.size]?=some (.cells #[.slice none 0 0,.slice none 0 0] 26 (0,0))):=hid zV.out
 generalize w2.drew=wd at S0 RD ⊢
 refine av 0 S0 ?_
 refine av 1 S0 ?_
 refine av 2 S0 ?_
 refine av 3 S0 ?_ (hy:=by intro u hu;obtain⟨c0,c1,c2,c3⟩:=HC.out u hu;clear hu;go_simp;try rfl)
 refine av 4 S0 ?_
 refine av 5 S0 ?_
 refine av 6 S0 ?_
 refine av 7 S0 ?_ (hy:=by intro u hu;obtain⟨c0,c1,c2,c3⟩:=HC.out u hu;clear hu;go_simp;try rfl)
 refine av 8 S0 ?_
 refine av 9 S0 ?_
 refine av 10 S0 ?_
 refine av 11 S0 ?_
 refine av 12 S0 ?_ (hy:=by intro u hu;obtain⟨c0,c1,c2,c3⟩:=HC.out u hu;clear hu;go_simp;try rfl)
 refine av 13 S0 ?_
 refine av 14 S0 ?_
 refine Db (i:=15) (j:=19) (by kernel_rfl) rfl rfl (fun K hK=>?_) (fun K hK=>?_)
 ·skip
  go_simp
  refine (AL.out wd S0).mono ?_
  rintro e wc ⟨q2,A2,c2,rfl,hq2,hs2,Aq⟩
  have S1:Below W.heap.size W wc:=S0.trans (Aq.mono S0.size)
  refine hK _ _ S1 ?_
  have Q2:=hid hq2
  have QS:=hid hs2
  have RC:=hid (ae RD.out Aq)
  clear hK K S0 hq2 hs2 Aq
  have S0:=S1
  clear S1
  try simp only [Act.put,pS]
  refine av 16 S0 ?_
  refine av 17 S0 ?_
  refine av 18 S0 ?_
  refine fw 19 fun K hK=>?_
  obtain⟨wa,hwn⟩:=nm (wc.alloc (.cells #[.slice none 0 0,.slice none 0 0] 26))
  obtain⟨pb,Bp,pz⟩:=aj hwn
  go_simp
  try rw [hwn]
  obtain⟨p,hp⟩:=nm wc.heap.size
  have PG:Hid (W.heap.size<p):=hid (by rw [← hp];exact lt_of_block RC.out)
  rw [hp] at pb
  try rw [hp]
  have S1:Below W.heap.size W wa:=S0.trans (Bp.mono S0.size)
  refine hK _ _ S1 ?_
  have PB:=hid pb
  have Q2:=hid (Q2.out.stay Bp)
  have RC:=hid (ae RC.out Bp)
  clear hK K S0 pb Bp pz hwn hp
  have S0:=S1
  clear S1
  try simp only [Act.put,pS]
  refine fw 20 fun K hK=>?_
  have pb:=PB.out
  obtain⟨g0,g1⟩:=aa pb
  have xG:=af pb 0
  have xH:=af pb 1
  go_simp
  obtain⟨vz,jQ⟩:=nm ((wa.setCell ⟨p,0,none⟩ (.slice q2.A q2.ls.length q2.c)).setCell ⟨p,1,none⟩ (.slice q2.A2 q2.ms.length q2.c2))
  try rw [jQ]
  have Y:Ty wa p 26:=⟨_,_,pb⟩
  have tz:aM W.heap.size [26] wa vz:=by
   rw [← jQ]
   exact ((aM.refl _ _ wa).aB (p:=⟨p,0,none⟩) Y (by simp) (Nat.le_of_lt PG.out) _).aB (p:=⟨p,1,none⟩) (Y.set _ _) (by simp) (Nat.le_of_lt PG.out) _
  have PZ:Hid (vz.heap[p]?=some (.cells #[.slice q2.A q2.ls.length q2.c,.slice q2.A2 q2.ms.length q2.c2] 26 (0,0))):=hid (by rw [← jQ];exact ah (ah pb 0 _) 1 _)
  have RZ:Hid (vz.heap[W.heap.size]?=some (.cells #[.slice none 0 0,.slice none 0 0] 26 (0,0))):=hid (by rw [← jQ];exact az (az RC.out (p:=⟨p,0,none⟩) (Nat.ne_of_lt PG.out) _) (p:=⟨p,1,none⟩) (Nat.ne_of_lt PG.out) _)
  have Q3:=hid (Q2.out.bE tz (by decide) (by decide) (by decide))
  have S1:Below W.heap.size W vz:=S0.trans tz.below
  refine hK _ _ S1 ?_
  clear hK K S0 pb g0 g1 xG xH Y tz jQ
  have S0:=S1
  clear S1
  try simp only [Act.put,pS]
  refine av 21 S0 ?_
  refine wpAnyH_done (by kernel_rfl) ?_ _
  have S4:=hid S0
  clear S0
  obtain⟨p0,p1⟩:=aa PZ.out
  obtain⟨r0,r1⟩:=aa RZ.out
  have f0:=af RZ.out 0
  have f1:=af RZ.out 1
  go_wp2
  obtain⟨wz,hwz⟩:=nm ((vz.setCell ⟨W.heap.size,0,none⟩ (.slice q2.A q2.ls.length q2.c)).setCell ⟨W.heap.size,1,none⟩ (.slice q2.A2 q2.ms.length q2.c2))
  rw [hwz]
  have YR:Ty vz W.heap.size 26:=⟨_,_,RZ.out⟩
  have TZ:aM W.heap.size [26] vz wz:=by
   rw [← hwz]
   exact ((aM.refl _ _ vz).aB (p:=⟨W.heap.size,0,none⟩) YR (by simp) (Nat.le_refl _) _).aB (p:=⟨W.heap.size,1,none⟩) (YR.set _ _) (by simp) (Nat.le_refl _) _
  have RY:wz.heap[W.heap.size]?=some (.cells #[.slice q2.A q2.ls.length q2.c,.slice q2.A2 q2.ms.length q2.c2] 26 (0,0)):=by rw [← hwz];exact ah (ah RZ.out 0 _) 1 _
  obtain⟨y0,y1⟩:=aa RY
  refine bodyPost_ret (v:=.tuple #[.agg #[.slice q2.A q2.ls.length q2.c,.slice q2.A2 q2.ms.length q2.c2],.bool true]) (by simp [results,results27,go_sem,y0,y1]) rfl ?_
  exact⟨q2,rfl,Q3.out.bE TZ (by decide) (by decide) (by decide),QS.out,S4.out.trans TZ.below⟩
 ·skip
  obtain⟨wa,hwn⟩:=nm (wd.alloc (.cells #[.slice none 0 0,.slice none 0 0] 26))
  obtain⟨pb,Bp,pz⟩:=aj hwn
  go_simp
  try rw [hwn]
  obtain⟨p,hp⟩:=nm wd.heap.size
  have PG:Hid (W.heap.size<p):=hid (by rw [← hp];exact lt_of_block RD.out)
  rw [hp] at pb
  try rw [hp]
  have S1:Below W.heap.size W wa:=S0.trans (Bp.mono S0.size)
  refine hK _ _ S1 ?_
  have PB:=hid pb
  have RD:=hid (ae RD.out Bp)
  clear hK K S0 pb Bp pz hwn hp
  have S0:=S1
  clear S1
  try simp only [Act.put,pS]
  refine fw 15 fun K hK=>?_
  go_simp
  refine (AL.out wa S0).mono ?_
  rintro e wc ⟨q2,A2,c2,rfl,hq2,hs2,Aq⟩
  have S1:Below W.heap.size W wc:=S0.trans (Aq.mono S0.size)
  refine hK _ _ S1 ?_
  have Q2:=hid hq2
  have QS:=hid hs2
  have RC:=hid (ae RD.out Aq)
  have PB:=hid (ae PB.out Aq)
  clear hK K S0 hq2 hs2 Aq
  have S0:=S1
  clear S1
  try simp only [Act.put,pS]
  refine av 16 S0 ?_
  refine av 17 S0 ?_
  refine av 18 S0 ?_
  refine fw 20 fun K hK=>?_
  have pb:=PB.out
  obtain⟨g0,g1⟩:=aa pb
  have xG:=af pb 0
  have xH:=af pb 1
  go_simp
  obtain⟨vz,jQ⟩:=nm ((wc.setCell ⟨p,0,none⟩ (.slice q2.A q2.ls.length q2.c)).setCell ⟨p,1,none⟩ (.slice q2.A2 q2.ms.length q2.c2))
  try rw [jQ]
  have Y:Ty wc p 26:=⟨_,_,pb⟩
  have tz:aM W.heap.size [26] wc vz:=by
   rw [← jQ]
   exact ((aM.refl _ _ wc).aB (p:=⟨p,0,none⟩) Y (by simp) (Nat.le_of_lt PG.out) _).aB (p:=⟨p,1,none⟩) (Y.set _ _) (by simp) (Nat.le_of_lt PG.out) _
  have PZ:Hid (vz.heap[p]?=some (.cells #[.slice q2.A q2.ls.length q2.c,.slice q2.A2 q2.ms.length q2.c2] 26 (0,0))):=hid (by rw [← jQ];exact ah (ah pb 0 _) 1 _)
  have RZ:Hid (vz.heap[W.heap.size]?=some (.cells #[.slice none 0 0,.slice none 0 0] 26 (0,0))):=hid (by rw [← jQ];exact az (az RC.out (p:=⟨p,0,none⟩) (Nat.ne_of_lt PG.out) _) (p:=⟨p,1,none⟩) (Nat.ne_of_lt PG.out) _)
  have Q3:=hid (Q2.out.bE tz (by decide) (by decide) (by decide))
  have S1:Below W.heap.size W vz:=S0.trans tz.below
  refine hK _ _ S1 ?_
  clear hK K S0 pb g0 g1 xG xH Y tz jQ
  have S0:=S1
  clear S1
  try simp only [Act.put,pS]
  refine av 21 S0 ?_
  refine wpAnyH_done (by kernel_rfl) ?_ _
  have S4:=hid S0
  clear S0
  obtain⟨p0,p1⟩:=aa PZ.out
  obtain⟨r0,r1⟩:=aa RZ.out
  have f0:=af RZ.out 0
  have f1:=af RZ.out 1
  go_wp2
  obtain⟨wz,hwz⟩:=nm ((vz.setCell ⟨W.heap.size,0,none⟩ (.slice q2.A q2.ls.length q2.c)).setCell ⟨W.heap.size,1,none⟩ (.slice q2.A2 q2.ms.length q2.c2))
  rw [hwz]
  have YR:Ty vz W.heap.size 26:=⟨_,_,RZ.out⟩
  have TZ:aM W.heap.size [26] vz wz:=by
   rw [← hwz]
   exact ((aM.refl _ _ vz).aB (p:=⟨W.heap.size,0,none⟩) YR (by simp) (Nat.le_refl _) _).aB (p:=⟨W.heap.size,1,none⟩) (YR.set _ _) (by simp) (Nat.le_refl _) _
  have RY:wz.heap[W.heap.size]?=some (.cells #[.slice q2.A q2.ls.length q2.c,.slice q2.A2 q2.ms.length q2.c2] 26 (0,0)):=by rw [← hwz];exact ah (ah RZ.out 0 _) 1 _
  obtain⟨y0,y1⟩:=aa RY
  refine bodyPost_ret (v:=.tuple #[.agg #[.slice q2.A q2.ls.length q2.c,.slice q2.A2 q2.ms.length q2.c2],.bool true]) (by simp [results,results27,go_sem,y0,y1]) rfl ?_
  exact⟨q2,rfl,Q3.out.bE TZ (by decide) (by decide) (by decide),QS.out,S4.out.trans TZ.below⟩
def mH (b:Bool) (xs:List It) (w:World) (e:Ending) (w':World):Prop:=∃ (A:Option Addr) (c:Nat),e=.returned (.tuple #[.slice A xs.length c,.bool b])∧au w' 0 59 A (ax xs)∧Below w.heap.size w w'
theorem zi {v:Nat} {m:Int} (h:jm base g q A c L W) (hg:dU L) (hv:¬ L.has v):Calls prog 28 #[.pointer (some ⟨g,0,none⟩),.int .u64 (v:Int),.int .i64 m] W (mH false [] W):=by
 have VE:=hid (kK h hg)
 have c0:=h.cells.1
 obtain⟨b,hb⟩:=nm L.base
 obtain⟨V,hV⟩:=nm L.iW
 have hv:¬ (b≤v∧v≤V):=by rw [← hb,← hV];exact hv
 rw [hb] at c0
 rw [hV] at VE
 clear h hg hb hV
 by_cases h1:v<b
 ·have d1:decide ((v:Int)<(b:Int))=true:=by simp;omega
  have d2:(v:Int)<(b:Int):=by omega
  have d3:decide (v<b)=true:=by simp [h1]
  clear hv
  go_enter func28,ntmps28
  go_wp2
  go_ret2
  exact⟨none,0,rfl,au.nil,Below.refl _ _⟩
 ·have h2:V<v:=by omega
  have d1:decide ((v:Int)<(b:Int))=false:=by simp;omega
  have d2:¬ (v:Int)<(b:Int):=by omega
  have d3:decide (v<b)=false:=by simp [h1]
  have e1:decide ((V:Int)<(v:Int))=true:=by simp;omega
  have e2:(V:Int)<(v:Int):=by omega
  have e3:decide (V<v)=true:=by simp [h2]
  clear hv
  go_enter func28,ntmps28
  go_wp2_with fail
  refine VE.out.mono ?_
  rintro e w2 ⟨rfl,b2⟩
  have B2:=hid b2
  clear b2
  go_wp2
  go_ret2
  exact⟨none,0,rfl,au.nil,B2.out⟩
theorem wW {v:Nat} {m:Int} (h:jm base g q A c L W) (hg:dU L) (hv:L.has v):Calls prog 28 #[.pointer (some ⟨g,0,none⟩),.int .u64 (v:Int),.int .i64 m] W (mH true (L.from_ v m) W):=by
 have VE:=hid (kK h hg)
 have c0:=h.cells.1
 obtain⟨i,hi⟩:=nm (v - L.base)
 rw [D17.Lg.kG hv,hi]
 obtain⟨ha,hb⟩:=hv
 have r_:L.iW=L.base+L.xs.length:=rfl
 have hV2:=hg.iW
 have hlen:=hg.len
 have lc:=h.row.le
 have HC:=hid (show ∀ u,Below W.heap.size W u→u.cell? ⟨g,0,none⟩=some (.int .u64 (L.base:Int))∧u.cell? ⟨g,3,none⟩=some (.slice A L.xs.length c) from fun u hu=>⟨(h.stay hu).cells.1,(h.stay hu).cells.2.2.2⟩)
 obtain⟨AC,hAC⟩:=nm ((if c=i then A else A.map (·.add (i * 8))))
 have LI:Hid (∀ u,Below W.heap.size W u→au u 0 59 AC (ax (L.xs.drop i))):=hid fun u hu=>by
  rw [← hAC]
  exact nz (h.stay hu).row.lies (by omega) (by omega)
 obtain⟨b,hb'⟩:=nm L.base
 obtain⟨V,hV⟩:=nm L.iW
 obtain⟨n,hn⟩:=nm L.xs.length
 rw [hb'] at c0 HC ha hi r_
 rw [hV] at VE hb r_ hV2
 rw [hn] at HC r_ hlen lc
 obtain⟨ys,hys⟩:=nm (L.xs.drop i)
 obtain⟨r,hr⟩:=nm (n - i)
 obtain⟨cc,hcc⟩:=nm (c - i)
 have YL:Hid (ys.length=r):=hid (by rw [← hys,List.length_drop,hn];exact hr)
 rw [hys] at LI ⊢
 have d1:decide ((v:Int)<(b:Int))=false:=by simp;omega
 have d2:¬ (v:Int)<(b:Int):=by omega
 have d3:decide (v<b)=false:=by simp;omega
 have e1:decide ((V:Int)<(v:Int))=false:=by simp;omega
 have e2:¬ (V:Int)<(v:Int):=by omega
 have e3:decide (V<v)=false:=by simp;omega
 have hw:IntKind.u64.wrap ((v:Int) - (b:Int))=(i:Int):=by rw [fQ] <;> omega
 have i0:0≤(i:Int):=by omega
 have i1:(i:Int)≤(n:Int):=by omega
 have rc:(r:Int)≤(cc:Int):=by omega
 clear h hg ha hb hi r_ hV2 hlen lc hb' hV hn hys
 by_cases hm:m<0
 ·have m1:decide (m<0)=true:=by simp [hm]
  have mt:m.toNat=0:=by omega
  rw [mt,List.take_zero]
  by_cases r0:0<r
  ·have r1:decide ((0:Int)<(r:Int))=true:=by simp;omega
   have r2:(0:Int)<(r:Int):=by omega
   have r3:decide (0<r)=true:=by simp [r0]
   have jc:(0:Int)≤(cc:Int):=by omega
   go_enter func28,ntmps28
   go_wp2_with fail
   refine VE.out.mono ?_
   rintro e w2 ⟨rfl,b2⟩
   have B2:=hid b2
   clear b2 c0
   go_wp2_with fail
   refine wp_region_held_drew (S:=fun u=>Below W.heap.size W u) (by kernel_rfl) (B2.out.drew) (fun S0=>?_)
   generalize w2.drew=wd at S0 ⊢
   refine av 0 S0 ?_
   refine av 1 S0 ?_
   refine av 2 S0 ?_
   refine av 3 S0 ?_ (hy:=by intro u hu;obtain⟨c0,c3⟩:=HC.out u hu;clear hu;go_simp;try rfl)
   refine av 4 S0 ?_
   refine av 5 S0 ?_
   refine av 6 S0 ?_
   refine av 7 S0 ?_
   refine av 8 S0 ?_ (hy:=by intro u hu;obtain⟨c0,c3⟩:=HC.out u hu;clear hu;go_simp;try rfl)
   refine av 9 S0 ?_
   refine av 10 S0 ?_
   refine av 11 S0 ?_
   refine wpAnyH_done (by kernel_rfl) ?_ _
   have S3:=hid S0
   clear S0
   go_wp2
   go_ret2
   exact⟨_,_,rfl,au.nil,S3.out⟩
  ·have r1:decide ((0:Int)<(r:Int))=false:=by simp;omega
   have r2:¬ (0:Int)<(r:Int):=by omega
   have r3:decide (0<r)=false:=by simp [r0]
   have rz:r=0:=by omega
   subst rz
   go_enter func28,ntmps28
   go_wp2_with fail
   refine VE.out.mono ?_
   rintro e w2 ⟨rfl,b2⟩
   have B2:=hid b2
   clear b2 c0
   go_wp2_with fail
   refine wp_region_held_drew (S:=fun u=>Below W.heap.size W u) (by kernel_rfl) (B2.out.drew) (fun S0=>?_)
   generalize w2.drew=wd at S0 ⊢
   refine av 0 S0 ?_
   refine av 1 S0 ?_
   refine av 2 S0 ?_
   refine av 3 S0 ?_ (hy:=by intro u hu;obtain⟨c0,c3⟩:=HC.out u hu;clear hu;go_simp;try rfl)
   refine av 4 S0 ?_
   refine av 5 S0 ?_
   refine av 6 S0 ?_
   refine av 7 S0 ?_
   refine av 8 S0 ?_ (hy:=by intro u hu;obtain⟨c0,c3⟩:=HC.out u hu;clear hu;go_simp;try rfl)
   refine av 9 S0 ?_
   refine av 10 S0 ?_
   refine av 11 S0 ?_
   refine wpAnyH_done (by kernel_rfl) ?_ _
   have S3:=hid S0
   clear S0
   go_wp2
   go_ret2
   exact⟨_,_,rfl,au.nil,S3.out⟩
 obtain⟨k,rfl⟩:∃ k:Nat,m=(k:Int):=⟨m.toNat,by omega⟩
 have m1:decide ((k:Int)<0)=false:=by simp
 have m2:¬ (k:Int)<0:=by omega
 have mt:(k:Int).toNat=k:=Int.toNat_natCast k
 rw [mt]
 by_cases kr:k<r
 ·have r1:decide ((k:Int)<(r:Int))=true:=by simp;omega
  have r2:(k:Int)<(r:Int):=by omega
  have r3:decide (k<r)=true:=by simp [kr]
  have jc:(k:Int)≤(cc:Int):=by omega
  have k0:0≤(k:Int):=by omega
  have TL:Hid ((ys.take k).length=k):=hid (by rw [List.length_take,YL.out];omega)
  have KY:Hid (k≤ys.length):=hid (by rw [YL.out];omega)
  clear hm mt
  go_enter func28,ntmps28
  go_wp2_with fail
  refine VE.out.mono ?_
  rintro e w2 ⟨rfl,b2⟩
  have B2:=hid b2
  clear b2 c0
  go_wp2_with fail
  refine wp_region_held_drew (S:=fun u=>Below W.heap.size W u) (by kernel_rfl) (B2.out.drew) (fun S0=>?_)
  generalize w2.drew=wd at S0 ⊢
  refine av 0 S0 ?_
  refine av 1 S0 ?_
  refine av 2 S0 ?_
  refine av 3 S0 ?_ (hy:=by intro u hu;obtain⟨c0,c3⟩:=HC.out u hu;clear hu;go_simp;try rfl)
  refine av 4 S0 ?_
  refine av 5 S0 ?_
  refine av 6 S0 ?_
  refine av 7 S0 ?_
  refine av 8 S0 ?_ (hy:=by intro u hu;obtain⟨c0,c3⟩:=HC.out u hu;clear hu;go_simp;try rfl)
  refine av 9 S0 ?_
  refine av 10 S0 ?_
  refine av 11 S0 ?_
  refine wpAnyH_done (by kernel_rfl) ?_ _
  have S3:=hid S0
  clear S0
  go_wp2
  go_ret2
  exact⟨AC,cc,by rw [TL.out] <;> rfl,nA (LI.out _ S3.out) KY.out,S3.out⟩
 ·have r1:decide ((k:Int)<(r:Int))=false:=by simp;omega
  have r2:¬ (k:Int)<(r:Int):=by omega
  have r3:decide (k<r)=false:=by simp [kr]
  have TL:Hid (ys.take k=ys):=hid (List.take_of_length_le (by rw [YL.out];omega))
  clear hm mt
  go_enter func28,ntmps28
  go_wp2_with fail
  refine VE.out.mono ?_
  rintro e w2 ⟨rfl,b2⟩
  have B2:=hid b2
  clear b2 c0
  go_wp2_with fail
  refine wp_region_held_drew (S:=fun u=>Below W.heap.size W u) (by kernel_rfl) (B2.out.drew) (fun S0=>?_)
  generalize w2.drew=wd at S0 ⊢
  refine av 0 S0 ?_
  refine av 1 S0 ?_
  refine av 2 S0 ?_
  refine av 3 S0 ?_ (hy:=by intro u hu;obtain⟨c0,c3⟩:=HC.out u hu;clear hu;go_simp;try rfl)
  refine av 4 S0 ?_
  refine av 5 S0 ?_
  refine av 6 S0 ?_
  refine av 7 S0 ?_
  refine av 8 S0 ?_ (hy:=by intro u hu;obtain⟨c0,c3⟩:=HC.out u hu;clear hu;go_simp;try rfl)
  refine av 9 S0 ?_
  refine av 10 S0 ?_
  refine av 11 S0 ?_
  refine wpAnyH_done (by kernel_rfl) ?_ _
  have S3:=hid S0
  clear S0
  go_wp2
  go_ret2
  rw [TL.out]
  exact⟨AC,cc,by rw [YL.out] <;> rfl,LI.out _ S3.out,S3.out⟩
theorem jm.iW (h:jm base g q A c L W) (hg:dU L):Calls prog 29 #[.pointer (some ⟨g,0,none⟩)] W fun e w'=>e=.returned (.int .u64 (L.iW:Int))∧Below W.heap.size W w':=kK h hg
theorem jm.at_ (h:jm base g q A c L W) (hg:dU L) {v:Nat} {b:Bool} (hb:b=decide (L.has v)):Calls prog 27 #[.pointer (some ⟨g,0,none⟩),.int .u64 (v:Int)] W (dC b (L.at_ v) W):=by
 by_cases hv:L.has v
 ·rw [decide_eq_true hv] at hb
  subst hb
  exact BH h hg hv
 ·rw [decide_eq_false hv] at hb
  subst hb
  rw [D17.Lg.uu hv]
  exact En h hg hv
theorem jm.from_ (h:jm base g q A c L W) (hg:dU L) {v:Nat} {m:Int} {b:Bool} (hb:b=decide (L.has v)):Calls prog 28 #[.pointer (some ⟨g,0,none⟩),.int .u64 (v:Int),.int .i64 m] W (mH b (L.from_ v m) W):=by
 by_cases hv:L.has v
 ·rw [decide_eq_true hv] at hb
  subst hb
  exact wW h hg hv
 ·rw [decide_eq_false hv] at hb
  subst hb
  rw [D17.Lg.qC hv]
  exact zi h hg hv
end
end
end
section
section
open Go.RowKit Go.Lib Go.Shelf
def zU (L:D17.Lg) (w:World) (e:Ending) (w':World):Prop:=∃ (g:Nat) (q:aQ) (A:Option Addr) (c:Nat),e=.returned (.pointer (some ⟨g,0,none⟩))∧jm w.heap.size g q A c L w'∧Below w.heap.size w w'
theorem zX (b n c:Nat) (A A1 A2:Option Addr) (n1 c1 n2 c2:Nat) (w:World):(Instr.build 40 #[(0,.int .u64 (b:Int)),(1,.agg #[.slice A1 n1 c1,.slice A2 n2 c2]),(2,.slice A n c)]).run prog w=.ok (.agg #[.int .u64 (b:Int),.slice A1 n1 c1,.slice A2 n2 c2,.slice A n c]) w:=run_build w 40 _ _ (by kernel_rfl)
theorem vv {w:World} {a b c d:Value} {t:TypeId} {u:World} (q:w.alloc (.cells #[a,b,c,d] t)=u):u.heap[w.heap.size]?=some (.cells #[a,b,c,d] t (0,0))∧Below w.heap.size w u∧u.heap.size=w.heap.size+1:=by
 rw [← q]
 exact⟨heap_alloc_new w _,(Below.refl _ w).alloc (Nat.le_refl _) _,by simp⟩
theorem Ep {b m cI:Nat} {s:aQ} {AI:Option Addr} {ys:List It} {W:World} (hs:SM s W) (hf:jF s) (hI:au W W.heap.size 0 AI (ax ys)) (hn:m=ys.length) (hx:m≤500) :
  Calls prog 10 #[.int .u64 (b:Int),s.val,.slice AI m cI] W (zU ⟨min b 1099511627776,T9.bV s.st,ys⟩ W):=by
 obtain⟨w1,hw1⟩:=nm (W.alloc (.cells #[.slice s.A s.ls.length s.c,.slice s.A2 s.ms.length s.c2] 26))
 obtain⟨sb,b1,z1⟩:=aj hw1
 have BC:=hid (xm (hs.stay b1) hf.cs hf.n1 hf.n2 (fun t ht=>Nat.le_trans (Nat.le_of_lt (hf.n3 t ht)) (by decide)))
 unfold sI aQ.val at BC
 obtain⟨l0,l1⟩:=aa sb
 obtain⟨bs,hbs⟩:=nm (T9.bV s.st)
 rw [hbs] at BC ⊢
 have B1:=hid b1
 have HI:=hid hI
 have HN:=hid hn
 have HX:=hid hx
 obtain⟨k,hk⟩:=nm (min b 1099511627776)
 rw [hk]
 unfold aQ.val
 by_cases hb:1099511627776<b
 ·have ek:k=1099511627776:=by omega
  have d1:decide ((1099511627776:Int)<(b:Int))=true:=by simp;omega
  have d2:(1099511627776:Int)<(b:Int):=by omega
  have d3:decide (1099511627776<b)=true:=by simp [hb]
  have EK:Hid (((1099511627776:Nat):Int)=1099511627776∧k=1099511627776):=hid ⟨rfl,ek⟩
  clear hs hf hI hn hx sb b1 z1 hbs hk ek
  go_enter func10,ntmps10
  go_wp2_with fail
  refine BC.out.mono ?_
  rintro e w2 ⟨q,rfl,hq,sM,hb2⟩
  have B2:Hid (Below W.heap.size W w2):=hid (B1.out.trans (hb2.mono B1.out.size))
  have Q2:=hid hq
  have QS:=hid sM
  clear hq sM hb2 l0 l1
  go_wp2_with (at_builtin;refine mD (base:=W.heap.size) (n:=0) (c:=0) (A:=none) (xs:=[]) rfl _ _ rfl rfl (eO.nil 0 rfl) B2.out.size rfl (HI.out.below (Nat.le_refl _) B2.out) HN.out (by have:=HX.out;omega) ?_)
  intro A3 c3 w3 hap
  have AP:=hid hap
  have B3:Hid (Below W.heap.size W w3):=hid (B2.out.trans hap.bE.below)
  have Q3:=hid (Q2.out.bE hap.bE (by decide) (by decide) (by decide))
  clear hap
  have hbd:=zX 1099511627776 m c3 A3 q.A q.A2 q.ls.length q.c q.ms.length q.c2
  rw [EK.out.1] at hbd
  obtain⟨w4,hw4⟩:=nm (w3.alloc (.cells #[.int .u64 1099511627776,.slice q.A q.ls.length q.c,.slice q.A2 q.ms.length q.c2,.slice A3 m c3] 40))
  obtain⟨gb,b4,z4⟩:=vv hw4
  have GB:=hid gb
  have Q4:=hid (Q3.out.stay b4)
  have B4:Hid (Below W.heap.size W w4):=hid (B3.out.trans (b4.mono B3.out.size))
  have R4:=hid (AP.out.row.stay b4)
  have HW4:=hid hw4
  clear gb b4 z4 hw4
  go_wp2
  go_ret
  rw [HW4.out]
  have r4:=R4.out
  rw [Nat.zero_add,List.nil_append] at r4
  refine⟨w3.heap.size,q,A3,c3,rfl,⟨?_,Q4.out,QS.out,r4,B3.out.size⟩,B4.out⟩
  show w4.heap[w3.heap.size]?=some (.cells #[.int .u64 (k:Int),.slice q.A q.ls.length q.c,.slice q.A2 q.ms.length q.c2,.slice A3 ys.length c3] 40 (0,0))
  rw [← HN.out,EK.out.2,EK.out.1]
  exact GB.out
 ·have ek:k=b:=by omega
  have d1:decide ((1099511627776:Int)<(b:Int))=false:=by simp;omega
  have d2:¬ (1099511627776:Int)<(b:Int):=by omega
  have d3:decide (1099511627776<b)=false:=by simp [hb]
  have EK:Hid (k=b):=hid ek
  clear hs hf hI hn hx sb b1 z1 hbs hk ek
  go_enter func10,ntmps10
  go_wp2_with fail
  refine BC.out.mono ?_
  rintro e w2 ⟨q,rfl,hq,sM,hb2⟩
  have B2:Hid (Below W.heap.size W w2):=hid (B1.out.trans (hb2.mono B1.out.size))
  have Q2:=hid hq
  have QS:=hid sM
  clear hq sM hb2 l0 l1
  go_wp2_with (at_builtin;refine mD (base:=W.heap.size) (n:=0) (c:=0) (A:=none) (xs:=[]) rfl _ _ rfl rfl (eO.nil 0 rfl) B2.out.size rfl (HI.out.below (Nat.le_refl _) B2.out) HN.out (by have:=HX.out;omega) ?_)
  intro A3 c3 w3 hap
  have AP:=hid hap
  have B3:Hid (Below W.heap.size W w3):=hid (B2.out.trans hap.bE.below)
  have Q3:=hid (Q2.out.bE hap.bE (by decide) (by decide) (by decide))
  clear hap
  have hbd:=zX b m c3 A3 q.A q.A2 q.ls.length q.c q.ms.length q.c2
  obtain⟨w4,hw4⟩:=nm (w3.alloc (.cells #[.int .u64 (b:Int),.slice q.A q.ls.length q.c,.slice q.A2 q.ms.length q.c2,.slice A3 m c3] 40))
  obtain⟨gb,b4,z4⟩:=vv hw4
  have GB:=hid gb
  have Q4:=hid (Q3.out.stay b4)
  have B4:Hid (Below W.heap.size W w4):=hid (B3.out.trans (b4.mono B3.out.size))
  have R4:=hid (AP.out.row.stay b4)
  have HW4:=hid hw4
  clear gb b4 z4 hw4
  go_wp2
  go_ret
  rw [HW4.out]
  have r4:=R4.out
  rw [Nat.zero_add,List.nil_append] at r4
  refine⟨w3.heap.size,q,A3,c3,rfl,⟨?_,Q4.out,QS.out,r4,B3.out.size⟩,B4.out⟩
  show w4.heap[w3.heap.size]?=some (.cells #[.int .u64 (k:Int),.slice q.A q.ls.length q.c,.slice q.A2 q.ms.length q.c2,.slice A3 ys.length c3] 40 (0,0))
  rw [← HN.out,EK.out]
  exact GB.out
section
variable {base g c : Nat} {q : aQ} {A : Option Addr} {L : D17.Lg} {W W' : World}
def uj (base g:Nat) (A:Option Addr) (c:Nat) (L:D17.Lg) (t:Nat) (b:Bool) (w:World) (e:Ending) (w':World):Prop:=∃ (q':aQ) (A':Option Addr) (c':Nat),e=.returned (.bool b)∧jm base g q' A' c' (L.cut t) w'∧aM base [40] w w'∧∀ k,iP A' c'=some k→iP A c=some k
theorem vN {t:Nat} {b:Bool} (h:jm base g q A c L W) (hg:dU L) (hb:b=decide (L.has t)):Calls prog 13 #[.pointer (some ⟨g,0,none⟩),.int .u64 (t:Int)] W (uj base g A c L t b W):=by
 have AT:=hid (h.at_ hg hb)
 unfold dC aQ.val at AT
 have HH:=hid h
 have LB:Hid (base≤W.heap.size):=hid (Nat.le_trans h.low (Nat.le_of_lt (lt_of_block h.blk)))
 have LOW:=hid h.low
 by_cases hv:L.has t
 ·rw [decide_eq_true hv] at hb
  subst hb
  obtain⟨i,hi⟩:=nm (t - L.base)
  have CUT:Hid (L.cut t=⟨t,L.at_ t,L.xs.drop i⟩):=hid (by rw [D17.Lg.jA hv,hi])
  obtain⟨ha,hb⟩:=hv
  have r_:L.iW=L.base+L.xs.length:=rfl
  have hV2:=hg.iW
  have hlen:=hg.len
  have lc:=h.row.le
  have RC:=hid (h.row.cut (k:=i) (by omega))
  have RB:=hid (fun j=>h.row.cut_blk (k:=i) (by omega) (j:=j))
  obtain⟨AC,hAC⟩:=nm ((if c=i then A else A.map (·.add (i * 8))))
  rw [hAC] at RC RB
  have HC:=hid (show ∀ u,Below W.heap.size W u→u.heap[g]?=some (.cells #[.int .u64 (L.base:Int),.slice q.A q.ls.length q.c,.slice q.A2 q.ms.length q.c2,.slice A L.xs.length c] 40 (0,0)) from fun u hu=>(h.stay hu).blk)
  obtain⟨b,hb'⟩:=nm L.base
  obtain⟨n,hn⟩:=nm L.xs.length
  obtain⟨r,hr⟩:=nm (n - i)
  obtain⟨cc,hcc⟩:=nm (c - i)
  obtain⟨s',hs'⟩:=nm (L.at_ t)
  rw [hb'] at HC ha hi r_
  rw [hn] at HC r_ hlen lc RC
  rw [hcc] at RC RB
  rw [hr] at RC
  rw [hs'] at AT CUT
  have HR:Hid ((L.xs.drop i).length=r):=hid (by rw [List.length_drop,hn];exact hr)
  have hw:IntKind.u64.wrap ((t:Int) - (b:Int))=(i:Int):=by rw [fQ] <;> omega
  have i0:0≤(i:Int):=by omega
  have i1:(i:Int)≤(n:Int):=by omega
  clear h hg ha hb hi r_ hV2 hlen lc hb' hn hs'
  go_enter func13,ntmps13
  go_wp2_with fail
  refine AT.out.mono ?_
  rintro e w2 ⟨q2,rfl,hq2,r9,hb2⟩
  have B2:=hid hb2
  obtain⟨w3,hw3⟩:=nm (w2.alloc (.cells #[.slice q2.A q2.ls.length q2.c,.slice q2.A2 q2.ms.length q2.c2] 26))
  obtain⟨sb,b3,z3⟩:=aj hw3
  have B3:Hid (Below W.heap.size W w3):=hid (hb2.trans (b3.mono hb2.size))
  have Q3:=hid (hq2.stay b3)
  have QS:=hid r9
  have HW3:=hid hw3
  obtain⟨p,hp⟩:=nm w2.heap.size
  rw [hp] at sb
  have SB:=hid sb
  have GN:Hid (g≠p):=hid (by have:=lt_of_block HH.out.blk;have:=hb2.size;omega)
  have HP:=hid hp
  clear hq2 r9 hb2 sb b3 z3 hw3 hp
  go_upto_region 3 with fail
  rw [HW3.out,HP.out]
  have gb:=HC.out w3 B3.out
  obtain⟨c0,c1,c2,c3⟩:=j4 gb
  have f0:=af gb 0
  have f1:=af gb 1
  have f2:=af gb 2
  have f3:=af gb 3
  obtain⟨s0,s1⟩:=aa SB.out
  go_region
  obtain⟨wz,hwz⟩:=nm ((((w3.setCell ⟨g,3,none⟩ (.slice AC r cc)).setCell ⟨g,1,none⟩ (.slice q2.A q2.ls.length q2.c)).setCell ⟨g,2,none⟩ (.slice q2.A2 q2.ms.length q2.c2)).setCell ⟨g,0,none⟩ (.int .u64 (t:Int)))
  rw [hwz]
  have Y:Ty w3 g 40:=⟨_,_,gb⟩
  have tz:aM base [40] w3 wz:=by
   rw [← hwz]
   exact ((((aM.refl _ _ w3).aB (p:=⟨g,3,none⟩) Y (by simp) LOW.out _).aB (p:=⟨g,1,none⟩) (Y.set _ _) (by simp) LOW.out _).aB (p:=⟨g,2,none⟩) ((Y.set _ _).set _ _) (by simp) LOW.out _).aB (p:=⟨g,0,none⟩) (((Y.set _ _).set _ _).set _ _) (by simp) LOW.out _
  have GZ:Hid (wz.heap[g]?=some (.cells #[.int .u64 (t:Int),.slice q2.A q2.ls.length q2.c,.slice q2.A2 q2.ms.length q2.c2,.slice AC r cc] 40 (0,0))):=hid (by rw [← hwz];exact ah (ah (ah (ah gb 3 _) 1 _) 2 _) 0 _)
  have TZ:=hid tz
  clear hwz Y tz gb c0 c1 c2 c3 f0 f1 f2 f3 s0 s1
  go_wp2
  go_ret
  have td:aM base [40] w3 wz.drew:=TZ.out.drew
  refine⟨q2,AC,cc,rfl,?_,(aM.of_below B3.out LB.out _).trans td,RB.out⟩
  rw [CUT.out]
  have r3:=(RC.out.stay B3.out).bE td (by decide)
  refine⟨?_,Q3.out.bE td (by decide) (by decide) (by decide),QS.out,?_,LOW.out⟩
  ·show wz.heap[g]?=some (.cells #[.int .u64 (t:Int),.slice q2.A q2.ls.length q2.c,.slice q2.A2 q2.ms.length q2.c2,.slice AC (L.xs.drop i).length cc] 40 (0,0))
   rw [HR.out]
   exact GZ.out
  ·show eO base AC (L.xs.drop i).length cc (L.xs.drop i) wz.drew
   rw [HR.out]
   exact r3
 ·rw [decide_eq_false hv] at hb
  subst hb
  rw [D17.Lg.uu hv] at AT
  have CN:=hid (D17.Lg.rV hv)
  clear h hg hv
  go_enter func13,ntmps13
  go_wp2_with fail
  refine AT.out.mono ?_
  rintro e w2 ⟨q2,rfl,hq2,r9,hb2⟩
  have B2:=hid hb2
  obtain⟨w3,hw3⟩:=nm (w2.alloc (.cells #[.slice q2.A q2.ls.length q2.c,.slice q2.A2 q2.ms.length q2.c2] 26))
  obtain⟨sb,b3,z3⟩:=aj hw3
  have B3:Hid (Below W.heap.size W w3):=hid (hb2.trans (b3.mono hb2.size))
  clear hq2 r9 hb2 sb b3 z3
  go_wp2
  go_ret
  try rw [hw3]
  rw [uj,CN.out]
  exact⟨q,A,c,rfl,HH.out.stay B3.out,aM.of_below B3.out LB.out _,fun _ hk=>hk⟩
end
end
end
section
section
open Go.RowKit Go.Lib Go.Shelf
theorem mh {P:Program} (w:World) (t e:TypeId) (cs:Array Value) (ie:TypeInfo) (z:Value) (hu:P.underlying t=some (.slice e)) (hie:P.info? e=some ie) (hz:ie.zero=some z) (hs:ie.size=cs.size) (h0:0<cs.size) (hm:cs.size≤1000) :
  (Instr.buildSlice t 3 #[(0,.agg cs),(1,.agg cs),(2,.agg cs)]).run P w=.ok (.slice (some ⟨w.heap.size,0,none⟩) 3 3) (w.alloc (.cells (cs++cs++cs) e)):=by
 refine run_buildSlice w t e 3 _ (cs++cs++cs) ie z hu hie hz (by rw [hs];show ¬ 3 * cs.size > 16777216;omega) (by rw [hs];omega) ?_
 have q:=Great.fill_whole (s:=ie.size) (by rw [hs];exact h0) [Value.agg cs,Value.agg cs,Value.agg cs] ((Array.range (3 * ie.size)).map (z.cells[· % z.cells.size]!)) (fun v hv=>by
  rcases List.mem_cons.1 hv with rfl | hv
  ·exact hs.symm
  ·rcases List.mem_cons.1 hv with rfl | hv
   ·exact hs.symm
   ·rw [List.mem_singleton] at hv;subst hv;exact hs.symm) (by simp)
 refine Eq.trans ?_ (congrArg some (show (cs.toList++(cs.toList++cs.toList)).toArray=cs++cs++cs by apply Array.ext';simp))
 simpa [Value.cells] using q
def L17:D17.Lg:=⟨0,T9.bV ⟨[],[]⟩,[zM,zM,zM]⟩
theorem Jk:decide (L17.has 2)=true∧decide ((L17.cut 2).has 1)=false∧decide ((L17.cut 2).has 3)=true∧(L17.cut 2).at_ 1=⟨[],[]⟩∧((L17.cut 2).at_ 3).lists.length=1:=by decide +kernel
theorem bdL17 (w:World):(Instr.buildSlice 27 3 #[(0,.agg #[.int .u64 0,.int .u64 0,.int .i64 1,.int .u64 1,.int .u64 0,.string ⟨#[108]⟩,.float .f64 0,.bool false]),(1,.agg #[.int .u64 0,.int .u64 0,.int .i64 1,.int .u64 1,.int .u64 0,.string ⟨#[108]⟩,.float .f64 0,.bool false]),(2,.agg #[.int .u64 0,.int .u64 0,.int .i64 1,.int .u64 1,.int .u64 0,.string ⟨#[108]⟩,.float .f64 0,.bool false])]).run prog w=.ok (.slice (some ⟨w.heap.size,0,none⟩) 3 3) (w.alloc (.cells (ax [zM,zM,zM]).toArray 59)):=by
 obtain⟨i0,hi,hz0,hz1,hz2⟩:=info_parts Tryz.infoI14
 exact mh w 27 59 (encI zM).toArray i0 _ underlying27 hi hz0 hz1 (by show 0<8;omega) (by show 8≤_;omega)
theorem rH (w:World):Calls prog 6 #[] w fun e w'=>e=.returned (.bool true)∧Below w.heap.size w w':=by
 have hb0:=j_
 have hb1:=bdM14
 have hb2:=bdI14
 have hb3:=bdL17
 go_enter func6,ntmps6
 go_upto_region 2 with fail
 obtain⟨w0,hw0⟩:=nm (w.alloc (.cells #[.int .u64 0,.int .u64 0,.int .i64 1,.int .u64 1,.int .u64 0,.string ⟨#[108]⟩,.float .f64 0,.bool false] 59))
 try rw [hw0]
 obtain⟨lb,b0,z0⟩:=kg hw0
 obtain⟨l0,l1,l2,l3,l4,l5,l6,l7⟩:=iQ lb
 obtain⟨w1,hw1⟩:=nm (w0.alloc (.cells #[.int .u64 0,.int .u64 0,.int .i64 1,.int .u64 1,.int .u64 0,.string ⟨#[108]⟩,.float .f64 0,.bool false,.int .u64 0,.int .u64 0,.int .i64 1,.int .u64 1,.int .u64 0,.string ⟨#[108]⟩,.float .f64 0,.bool false,.int .u64 0,.int .u64 0,.int .i64 1,.int .u64 1,.int .u64 0,.string ⟨#[108]⟩,.float .f64 0,.bool false] 59))
 have tb:w1.heap[w0.heap.size]?=some (.cells (ax [zM,zM,zM]).toArray 59 (0,0)):=by rw [← hw1];exact heap_alloc_new w0 _
 have b1:Below w0.heap.size w0 w1:=by rw [← hw1];exact (Below.refl _ w0).alloc (Nat.le_refl _) _
 have B1:Hid (Below w.heap.size w w1):=hid (b0.trans (b1.mono b0.size))
 have il:IL w1 (some ⟨w0.heap.size,0,none⟩) [zM,zM,zM]:=au.old (au.iy (B:=0) tb)
 have NC:=hid (t_ (b:=0) (m:=3) (cI:=3) (s:=m14) (AI:=some ⟨w0.heap.size,0,none⟩) (ys:=[zM,zM,zM]) (W:=w1) ⟨LL.nil,KL.nil,Nat.le_refl _,Nat.le_refl _⟩ Fe Fe.ok il rfl (by decide) (by intro x hx;simp only [List.mem_cons,List.not_mem_nil,or_false,or_self] at hx;subst hx;exact⟨⟨by decide,by decide,by decide⟩,by decide⟩))
 rw [z0] at NC
 rw [show (⟨min 0 1099511627776,T9.bV (aQ.st m14),[zM,zM,zM]⟩:D17.Lg)=L17 from rfl] at NC
 unfold aQ.val m14 at NC
 dsimp only [List.length_nil] at NC
 rw [show ((0:Nat):Int)=0 from rfl] at NC
 clear lb b0 b1 tb il
 go_wp2_with fail
 refine NC.out.mono ?_
 rintro e w2 ⟨g,lp,A,c,rfl,hc,hb2'⟩
 have B2:Hid (Below w.heap.size w w2):=hid (B1.out.trans (hb2'.mono B1.out.size))
 have CC:=hid (hc.compact (t:=2) (b:=true) Jk.1.symm)
 unfold nT at CC
 rw [show ((2:Nat):Int)=2 from rfl] at CC
 clear hc hb2' NC
 go_wp2_with fail
 refine CC.out.mono ?_
 rintro e w3 ⟨A3,c3,rfl,hc3,ht3,_,_⟩
 have B3:Hid (Below w.heap.size w w3):=hid (B2.out.trans (ht3.below.mono B1.out.size))
 have C3:=hid hc3
 have AT1:=hid (hc3.at_ (v:=1) (b:=false) Jk.2.1.symm)
 rw [Jk.2.2.2.1] at AT1
 unfold dC aQ.val at AT1
 rw [show ((1:Nat):Int)=1 from rfl] at AT1
 clear hc3 ht3 CC
 go_wp2_with fail
 refine AT1.out.mono ?_
 rintro e w4 ⟨q,rfl,_,_,hb4⟩
 obtain⟨w5,fV⟩:=nm (w4.alloc (.cells #[.slice q.A q.ls.length q.c,.slice q.A2 q.ms.length q.c2] 26))
 obtain⟨sb,b5,z5⟩:=aj fV
 have c5:=(C3.out.stay hb4).stay b5
 have B5:Hid (Below w.heap.size w w5):=hid ((B3.out.trans (hb4.mono B3.out.size)).trans (b5.mono (Nat.le_trans B3.out.size hb4.size)))
 have AT3:=hid (c5.at_ (v:=3) (b:=true) Jk.2.2.1.symm)
 unfold dC aQ.val at AT3
 rw [show ((3:Nat):Int)=3 from rfl] at AT3
 clear hb4 sb b5 z5 c5 AT1
 go_wp2_with fail
 refine AT3.out.mono ?_
 rintro e w6 ⟨q6,rfl,_,hq6,hb6⟩
 have e2:q6.ls.length=1:=by
  have:=Jk.2.2.2.2
  rw [← hq6] at this
  exact this
 rw [e2]
 obtain⟨w7,hw7⟩:=nm (w6.alloc (.cells #[.slice q6.A 1 q6.c,.slice q6.A2 q6.ms.length q6.c2] 26))
 obtain⟨pb,b7,_⟩:=aj hw7
 obtain⟨p0,p1⟩:=aa pb
 have B7:Hid (Below w.heap.size w w7):=hid ((B5.out.trans (hb6.mono B5.out.size)).trans (b7.mono (Nat.le_trans B5.out.size hb6.size)))
 clear hq6 hb6 pb b7 e2 AT3
 go_wp2
 go_ret
 exact⟨rfl,B7.out⟩
theorem dU.at_ {L:D17.Lg} (h:dU L) (v:Nat):T9.dX (L.at_ v):=by
 by_cases q:L.has v
 ·exact h.ok.at_ q
 ·rw [D17.Lg.uu q]
  exact T9.Cf
theorem dU.from_ {L:D17.Lg} (h:dU L) (v:Nat) (m:Int):(∀ x∈L.from_ v m,x.m.f<18446744073709551616)∧(L.from_ v m).length≤1000000:=by
 by_cases q:L.has v
 ·rw [D17.Lg.kG q]
  refine⟨fun x hx=>(h.ok.m x (List.mem_of_mem_drop (List.mem_of_mem_take hx))).2.2,?_⟩
  rw [List.length_take,List.length_drop]
  have:=h.len
  omega
 ·rw [D17.Lg.qC q]
  exact⟨fun x hx=>(by cases hx),Nat.zero_le _⟩
theorem vU {base g lp c N base' g' c':Nat} {A A':Option Addr} {q:aQ} {L:D17.Lg} {W:World} {v:Nat} {m:Int} (h:fq base g lp A c N L W) (h':jm base' g' q A' c' L W) (hg:dU L) :
  Calls prog 11 #[.pointer (some ⟨g,0,none⟩),.pointer (some ⟨g',0,none⟩),.int .u64 (v:Int),.int .i64 m] W fun e w'=>e=.returned (.bool true)∧Below W.heap.size W w':=by
 obtain⟨b,hb⟩:∃ b,b=decide (L.has v):=⟨_,rfl⟩
 obtain⟨s,hs⟩:=nm (L.at_ v)
 obtain⟨xs,hxs⟩:=nm (L.from_ v m)
 have SD:Hid (T9.dX s):=hid (by rw [← hs];exact hg.at_ v)
 have XF:Hid ((∀ x∈xs,x.m.f<18446744073709551616)∧xs.length≤1000000):=hid (by rw [← hxs];exact hg.from_ v m)
 have A1:=hid (h.at_ hb)
 have A2:=hid (show ∀ u,Below W.heap.size W u→Calls prog 27 #[.pointer (some ⟨g',0,none⟩),.int .u64 (v:Int)] u (dC b s u) from fun u hu=>by rw [← hs];exact (h'.stay hu).at_ hg hb)
 have A3:=hid (show ∀ u,Below W.heap.size W u→Calls prog 17 #[.pointer (some ⟨g,0,none⟩),.int .u64 (v:Int),.int .i64 m] u (gP b xs u) from fun u hu=>by rw [← hxs];exact (h.stay hu).items hb)
 have A4:=hid (show ∀ u,Below W.heap.size W u→Calls prog 28 #[.pointer (some ⟨g',0,none⟩),.int .u64 (v:Int),.int .i64 m] u (mH b xs u) from fun u hu=>by rw [← hxs];exact (h'.stay hu).from_ hg hb)
 obtain⟨B,hB⟩:=nm L.base
 obtain⟨V,hV⟩:=nm L.iW
 have CB:=hid (show ∀ u,Below W.heap.size W u→Calls prog 18 #[.pointer (some ⟨g,0,none⟩)] u fun e w'=>e=.returned (.int .u64 (B:Int))∧Below u.heap.size u w' from fun u hu=>by rw [← hB];exact (h.stay hu).mO)
 have CV:=hid (show ∀ u,Below W.heap.size W u→Calls prog 19 #[.pointer (some ⟨g,0,none⟩)] u fun e w'=>e=.returned (.int .u64 (V:Int))∧Below u.heap.size u w' from fun u hu=>by rw [← hV];exact (h.stay hu).iW)
 have DV:=hid (show ∀ u,Below W.heap.size W u→Calls prog 29 #[.pointer (some ⟨g',0,none⟩)] u fun e w'=>e=.returned (.int .u64 (V:Int))∧Below u.heap.size u w' from fun u hu=>by rw [← hV];exact (h'.stay hu).iW hg)
 have DB:=hid (show ∀ u,Below W.heap.size W u→u.cell? ⟨g',0,none⟩=some (.int .u64 (B:Int)) from fun u hu=>by rw [← hB];exact (h'.stay hu).cells.1)
 unfold dC aQ.val at A1 A2
 unfold gP at A3
 unfold mH at A4
 obtain⟨n,hn⟩:=nm xs.length
 have HN:=hid hn
 rw [hn] at A3 A4
 rw [hs] at A1
 clear h h' hg hb hs hxs hB hV hn
 go_enter func11,ntmps11
 go_wp2_with fail
 refine A1.out.mono ?_
 rintro e w1 ⟨q1,rfl,hq1,hs1,hb1⟩
 obtain⟨u1,hu1⟩:=nm (w1.alloc (.cells #[.slice q1.A q1.ls.length q1.c,.slice q1.A2 q1.ms.length q1.c2] 26))
 obtain⟨x1,bx1,rA⟩:=aj hu1
 have B1:Hid (Below W.heap.size W u1):=hid (hb1.trans (bx1.mono hb1.size))
 have Q1:=hid (hq1.stay bx1)
 have S1:=hid hs1
 have X1:=hid x1
 have A2':=hid (A2.out u1 B1.out)
 have Z1:Hid (W.heap.size≤w1.heap.size):=hid hb1.size
 clear hq1 hs1 hb1 x1 bx1 rA A1
 go_wp2_with fail
 refine A2'.out.mono ?_
 rintro e w2 ⟨q2,rfl,hq2,hs2,hb2⟩
 obtain⟨u2,hu2⟩:=nm (w2.alloc (.cells #[.slice q2.A q2.ls.length q2.c,.slice q2.A2 q2.ms.length q2.c2] 26))
 obtain⟨x2,bx2,rC⟩:=aj hu2
 have E2:Hid (Below u1.heap.size u1 u2):=hid (hb2.trans (bx2.mono hb2.size))
 have B2:Hid (Below W.heap.size W u2):=hid (B1.out.trans (E2.out.mono B1.out.size))
 have Q1:=hid (Q1.out.stay E2.out)
 have X1:=hid (ae X1.out E2.out)
 have Q2:=hid (hq2.stay bx2)
 have S2:=hid hs2
 have X2:=hid x2
 have A3':=hid (A3.out u2 B2.out)
 clear hq2 hs2 hb2 x2 bx2 rC A2'
 go_wp2_with fail
 refine A3'.out.mono ?_
 rintro e w3 ⟨D3,c3,rfl,hr3,hb3⟩
 have B3:Hid (Below W.heap.size W w3):=hid (B2.out.trans (hb3.mono B2.out.size))
 have Q1:=hid (Q1.out.stay hb3)
 have X1:=hid (ae X1.out hb3)
 have Q2:=hid (Q2.out.stay hb3)
 have X2:=hid (ae X2.out hb3)
 have R3:=hid (show IL w3 D3 xs from (aH (B:=0) hr3).old)
 have A4':=hid (A4.out w3 B3.out)
 clear hr3 hb3 A3'
 go_wp2_with fail
 refine A4'.out.mono ?_
 rintro e w4 ⟨D4,c4,rfl,hr4,hb4⟩
 have B4:Hid (Below W.heap.size W w4):=hid (B3.out.trans (hb4.mono B3.out.size))
 have Q1:=hid (Q1.out.stay hb4)
 have X1:=hid (ae X1.out hb4)
 have Q2:=hid (Q2.out.stay hb4)
 have X2:=hid (ae X2.out hb4)
 have R3:=hid (R3.out.stay hb4)
 have R4:=hid (show IL w4 D4 xs from hr4.old)
 clear hr4 hb4 A4'
 go_wp2_with fail
 refine wp_region_held_drew (S:=fun u=>Below W.heap.size W u∧Below w4.heap.size w4 u) (by kernel_rfl) (⟨B4.out.drew,(Below.refl _ w4).drew⟩) (fun S0=>?_)
 generalize w4.drew=wd at S0 ⊢
 refine av 0 S0 ?_
 refine av 2 S0 ?_
 refine av 3 S0 ?_
 refine av 4 S0 ?_
 refine av 5 S0 ?_ (hy:=by intro u hu;have c0:=DB.out u hu.1;clear hu;go_simp;try rfl)
 refine fw 1 fun K hK=>?_
 go_simp
 refine (CB.out wd S0.1).mono ?_
 rintro e y1 ⟨rfl,k1⟩
 have S1:=And.intro (S0.1.trans (k1.mono S0.1.size)) (S0.2.trans (k1.mono S0.2.size))
 refine hK _ _ S1 ?_
 clear k1
 clear hK K S0
 have S0:=S1
 clear S1
 try simp only [Act.put,pS]
 refine av 6 S0 ?_
 refine av 7 S0 ?_
 refine av 8 S0 ?_
 refine av 10 S0 ?_
 refine fw 9 fun K hK=>?_
 go_simp
 refine (CV.out y1 S0.1).mono ?_
 rintro e y2 ⟨rfl,k2⟩
 have S1:=And.intro (S0.1.trans (k2.mono S0.1.size)) (S0.2.trans (k2.mono S0.2.size))
 refine hK _ _ S1 ?_
 clear k2
 clear hK K S0
 have S0:=S1
 clear S1
 try simp only [Act.put,pS]
 refine fw 11 fun K hK=>?_
 go_simp
 refine (DV.out y2 S0.1).mono ?_
 rintro e y3 ⟨rfl,k3⟩
 have S1:=And.intro (S0.1.trans (k3.mono S0.1.size)) (S0.2.trans (k3.mono S0.2.size))
 refine hK _ _ S1 ?_
 clear k3
 clear hK K S0
 have S0:=S1
 clear S1
 try simp only [Act.put,pS]
 refine av 12 S0 ?_
 refine av 13 S0 ?_
 refine av 14 S0 ?_
 refine av 15 S0 ?_
 refine av 16 S0 ?_
 refine av 17 S0 ?_
 refine av 18 S0 ?_
 refine av 19 S0 ?_
 refine av 20 S0 ?_ (hy:=by intro u hu;obtain⟨x0,x1⟩:=aa (ae X1.out hu.2);clear hu;go_simp;try rfl)
 refine av 21 S0 ?_ (hy:=by intro u hu;obtain⟨x0,x1⟩:=aa (ae X2.out hu.2);clear hu;go_simp;try rfl)
 refine fw 22 fun K hK=>?_
 go_simp
 have SS:=nM (a:=q1) (b:=q2) (w:=y3) (Q1.out.stay S0.2).sm (Q2.out.stay S0.2).sm (by rw [S1.out];exact SD.out.short) (by rw [S2.out];exact SD.out.short) (by rw [S1.out];exact SD.out.2) (by rw [S2.out];exact SD.out.2)
 rw [S1.out,S2.out,T9.sD] at SS
 unfold aQ.val at SS
 refine SS.mono ?_
 rintro e y4 ⟨rfl,k4⟩
 have S1':=And.intro (S0.1.trans (k4.mono S0.1.size)) (S0.2.trans (k4.mono S0.2.size))
 refine hK _ _ S1' ?_
 clear hK K S0 k4 SS
 have S0:=S1'
 clear S1'
 try simp only [Act.put,pS]
 refine av 23 S0 ?_
 refine av 24 S0 ?_
 refine av 25 S0 ?_
 refine av 26 S0 ?_
 refine av 27 S0 ?_
 refine av 28 S0 ?_
 refine av 29 S0 ?_
 refine av 30 S0 ?_
 refine av 31 S0 ?_
 refine fw 32 fun K hK=>?_
 go_simp
 have SI:=nL (A:=D3) (A2:=D4) (n:=n) (c:=c3) (n2:=n) (c2:=c4) (ms:=xs) (ks:=xs) (w:=y4) (R3.out.stay S0.2) (R4.out.stay S0.2) HN.out.symm HN.out.symm (by rw [← HN.out];exact XF.out.2) XF.out.1 XF.out.1
 rw [T9.nN] at SI
 refine SI.mono ?_
 rintro e y5 ⟨rfl,k5⟩
 have S1':=And.intro (S0.1.trans (k5.mono S0.1.size)) (S0.2.trans (k5.mono S0.2.size))
 refine hK _ _ S1' ?_
 clear hK K S0 k5 SI
 have S0:=S1'
 clear S1'
 try simp only [Act.put,pS]
 refine av 33 S0 ?_
 refine av 34 S0 ?_
 refine wpAnyH_done (by kernel_rfl) ?_ _
 go_wp2
 go_ret
 exact⟨rfl,S0.1⟩
end
end
end Go.Proofs.YtcmiompdjjiojaaGreat
