import Derived.Test.YtcmiompdjjiojaaGreatZ9
namespace Go.Proofs.YtcmiompdjjiojaaGreat
set_option maxHeartbeats 16000000
open Go.Lib Go.Proofs.Tryz
set_option linter.unusedSimpArgs false
set_option maxRecDepth 100000
section
open Go.RowKit Go.Lib
theorem gX {w u:World} {e:TypeId} {size:Nat} {xs:List Value} (hw:w.alloc (.cells xs.toArray e)=u) (hl:xs.length=size):u.ownsRow w.heap.size e size (.slice (some ⟨w.heap.size,0,none⟩) 1 1) 1 xs :=
 ⟨by omega,.inr ⟨w.heap.size,1,xs.toArray,rfl,Nat.le_refl _,by rw [← hw];exact heap_alloc_new w _,Nat.le_refl _,by decide,by simp;omega,by rw [Nat.one_mul,← hl];simp⟩⟩
theorem au.Dy {w:World} {B:Nat} {t:TypeId} {A:Option Addr} {xs:List Value} (h:au w B t A xs) (size k c:Nat) (hs:0<size) (hc:xs.length≤c * size):au w B t (if c=k then A else A.map (·.add (k * size))) (xs.drop (k * size)):=by
 have q:=h.cut (k * size) (c * size) hc
 by_cases e:c=k
 ·rw [if_pos e]
  rw [if_pos (by rw [e])] at q
  exact q
 ·rw [if_neg e]
  rw [if_neg (fun z=>e (Nat.eq_of_mul_eq_mul_right hs z))] at q
  exact q
theorem bG {w w':World} {t:TypeId} {A:Option Addr} {xs:List Value} (h:au w 0 t A xs) (hb:Below w.heap.size w w'):au w' 0 t A xs:=h.bE (aM.of_below hb (Nat.le_refl _) []).zero (by simp)
def aN.bS (m:aN) (w:World):Prop:=au w 0 9 m.A (aC m.t.tags)∧m.t.tags.length≤m.c
theorem aN.bS.fine {m:aN} {w:World} (h:m.bS w):m.fine w:=⟨h.1.old,h.2⟩
theorem aN.bS.stay {m:aN} {w w':World} (h:m.bS w) (hb:Below w.heap.size w w'):m.bS w':=⟨bG h.1 hb,h.2⟩
theorem fC {xs ys:List Value} (h:∀ v∈xs,v.oneCell'=true) (k:∀ v∈ys,v.oneCell'=true):∀ v∈xs++ys,v.oneCell'=true:=fun v hv=>by
 rcases List.mem_append.1 hv with q | q
 ·exact h v q
 ·exact k v q
theorem kW (ls:List T9.Li) (k:Nat):(aL ls).take (k * 2)=aL (ls.take k):=by
 induction ls generalizing k with
 | nil=>simp [aL]
 | cons l ls ih =>
  cases k with
  | zero=>simp [aL]
  | succ k =>
   have e:(k+1) * 2=k * 2+1+1:=by omega
   show (a_ l++aL ls).take _=a_ l++aL (ls.take k)
   rw [e]
   simp [a_,ih k]
theorem kV (ls:List T9.Li) (k:Nat):(aL ls).drop (k * 2)=aL (ls.drop k):=by
 induction ls generalizing k with
 | nil=>simp [aL]
 | cons l ls ih =>
  cases k with
  | zero=>simp [aL]
  | succ k =>
   have e:(k+1) * 2=k * 2+1+1:=by omega
   show (a_ l++aL ls).drop _=aL (ls.drop k)
   rw [e]
   simp [a_,ih k]
theorem eU (ls:List aN) (k:Nat):(ai ls).take (k * 7)=ai (ls.take k):=by
 induction ls generalizing k with
 | nil=>simp [ai]
 | cons l ls ih =>
  cases k with
  | zero=>simp [ai]
  | succ k =>
   have e:(k+1) * 7=k * 7+1+1+1+1+1+1+1:=by omega
   show (aA l++ai ls).take _=aA l++ai (ls.take k)
   rw [e]
   simp [aA,ih k]
theorem fP (ls:List aN) (k:Nat):(ai ls).drop (k * 7)=ai (ls.drop k):=by
 induction ls generalizing k with
 | nil=>simp [ai]
 | cons l ls ih =>
  cases k with
  | zero=>simp [ai]
  | succ k =>
   have e:(k+1) * 7=k * 7+1+1+1+1+1+1+1:=by omega
   show (aA l++ai ls).drop _=ai (ls.drop k)
   rw [e]
   simp [aA,ih k]
def WLOk (ls:List T9.Li) (w:World) (e:Ending) (w':World):Prop:=∃ A c,e=.returned (.slice A ls.length c)∧au w' 0 61 A (aL ls)∧ls.length≤c∧(A=none→c=0)∧Below w.heap.size w w'
theorem wH {A:Option Addr} {n c:Nat} {ls:List T9.Li} {x:T9.Li} {w:World} (h:au w 0 61 A (aL ls)) (hn:n=ls.length) (hc:n≤c) (hz:A=none→c=0) (hs:n≤1000) :
  Calls prog 54 #[.slice A n c,.agg #[.int .u64 (x.id:Int),.string (str x.name)]] w (WLOk (Sr.ins T9.iY x ls) w):=by
 have HT:=hid h
 have HA:=True.intro
 have HL:Hid (LL w A ls):=hid (au.old h)
 have HN:=hid hn
 have HC:=hid hc
 have HZ:=hid hz
 have HF:=True.intro
 obtain⟨w1,hw1⟩:=nm (w.alloc (.cells #[.int .u64 (x.id:Int),.string (str x.name)] 61))
 obtain⟨pb,b1,z1⟩:=aj hw1
 have PB:=hid pb
 have B1:=hid b1
 clear h hn pb b1 z1 hz
 go_enter func54,ntmps54
 go_wp2_with fail
 go_loopw [5] (fun s5 wr=>∃ k:Nat,s5=.int .i64 k∧k≤n∧Aside (∀ y∈ls.take k,T9.iY y x=true)∧Aside (Below w1.heap.size w1 wr)) (fun s5 _=>n - (intOf s5).toNat)
 case atStart=>exact⟨0,rfl,Nat.zero_le _,(fun y hy=>by simp at hy:∀ y∈ls.take 0,T9.iY y x=true),Below.refl _ _⟩
 case round =>
  obtain⟨k,rfl,hk,hI,hB⟩:=hrel
  have HI:=hid hI.out
  have HB:=hid hB.out
  clear hI hB
  have BW:=hid (B1.out.trans (HB.out.mono B1.out.size))
  have PR:=hid (ae PB.out HB.out)
  obtain⟨p0,p1⟩:=aa PR.out
  have LW:=hid (HL.out.stay BW.out)
  by_cases hlt:k<n
  ·have hltz:(k:Int)<(n:Int):=by omega
   have k0:(0:Int)≤(k:Int):=by omega
   have kc:k≤c:=by omega
   have kci:(k:Int)≤(c:Int):=by omega
   have nci:(n:Int)≤(c:Int):=by omega
   have kni:(k:Int)≤(n:Int):=by omega
   have kn:k≤n:=by omega
   obtain⟨ad,l,hA,hx,r0,r1⟩:=LW.out.at_ (k:=k) (by rw [← HN.out];exact hlt)
   subst hA
   have X:=hid hx
   clear hx
   by_cases q:l.id<x.id
   ·have q1:decide ((l.id:Int)<(x.id:Int))=true:=decide_eq_true (by omega)
    have q1n:decide (l.id<x.id)=true:=decide_eq_true q
    have QX:Hid (T9.iY l x=true):=hid (decide_eq_true q)
    clear q
    go_wp2_with fail
    go_region
    go_wp2
    go_roundw
    case rel =>
     refine⟨k+1,by go_num,by omega,?_,HB.out.drew⟩
     intro y hy
     rw [bH X.out] at hy
     rcases List.mem_append.1 hy with h | h
     ·exact HI.out y h
     ·simp only [List.mem_cons,List.not_mem_nil,or_false] at h
      subst h
      exact QX.out
    case measure=>simp [intOf];omega
   ·have q1:decide ((l.id:Int)<(x.id:Int))=false:=decide_eq_false (by omega)
    have q1n:decide (l.id<x.id)=false:=decide_eq_false q
    have qz:¬ ((l.id:Int)<(x.id:Int)):=by omega
    have QN:Hid (T9.iY l x=false):=hid (decide_eq_false q)
    by_cases e:l.id=x.id
    ·have e1:((l.id:Int)==(x.id:Int))=true:=by rw [e];exact beq_self_eq_true _
     have e1n:(l.id==x.id)=true:=by rw [e];exact beq_self_eq_true _
     have e1d:decide (l.id=x.id)=true:=decide_eq_true e
     have IO:Hid (Sr.ins T9.iY x ls=ls):=hid (Sr.tT HI.out X.out QN.out (decide_eq_false (by omega)))
     clear q e
     go_wp2_with fail
     go_region
     go_wp2_with fail
     go_region
     go_wp2
     go_ret
     exact⟨some ad,c,(by rw [IO.out,← HN.out];rfl),(by rw [IO.out];exact bG HT.out BW.out.drew.drew),(by rw [IO.out,← HN.out];exact HC.out),(fun z=>by cases z),BW.out.drew.drew⟩
    ·have e1:((l.id:Int)==(x.id:Int))=false:=by rw [beq_eq_false_iff_ne];omega
     have e1n:(l.id==x.id)=false:=by rw [beq_eq_false_iff_ne];exact e
     have e1d:decide (l.id=x.id)=false:=decide_eq_false e
     have IN:Hid (Sr.ins T9.iY x ls=ls.take k++x :: ls.drop k):=hid (Sr.gV HI.out fun y hy=>by
      rw [X.out] at hy
      injection hy with hy
      subst hy
      exact⟨QN.out,decide_eq_true (by omega)⟩)
     clear q e
     go_wp2_with fail
     go_region
     go_wp2_with fail
     go_region
     go_wp2_with fail
     obtain⟨wz,hwz⟩:=nm wr.drew.drew
     rw [hwz]
     have BZ:Hid (Below w.heap.size w wz):=hid (by rw [← hwz];exact BW.out.drew.drew)
     have PZ:Hid (wz.heap[w.heap.size]?=some (.cells #[.int .u64 (x.id:Int),.string (str x.name)] 61 (0,0))):=hid (by rw [← hwz];exact PR.out)
     have LZ:=hid (HL.out.stay BZ.out)
     obtain⟨i0,hi,hz0,hz1,hz2⟩:=info_parts Tryz.infoLi9
     refine wp_region_held_drew (S:=fun u=>u.heap[w.heap.size]?=some (.cells #[.int .u64 (x.id:Int),.string (str x.name)] 61 (0,0))) (by kernel_rfl) (PZ.out) (fun S0=>?_)
     refine av 0 S0 ?_
     refine av 1 S0 ?_
     refine av 2 S0 ?_
     refine av 3 S0 ?_
     refine av 4 S0 ?_ (hy:=by intro u hu;obtain⟨p0,p1⟩:=aa hu;go_simp;try rfl)
     refine av 6 S0 ?_
     refine av 7 S0 ?_
     refine av 8 S0 ?_
     refine fw 5 fun K hK=>?_
     have hbs:=rM x wz.drew
     go_simp
     clear hbs
     have S1:=bu S0 (.cells #[.int .u64 (x.id:Int),.string (str x.name)] 61)
     refine hK _ _ S1 ?_
     clear hK K S0
     have S0:=S1
     clear S1
     try simp only [Act.put,pS]
     obtain⟨u5,iw⟩:=nm ((wz.alloc (.cells #[.int .u64 (x.id:Int),.string (str x.name)] 61)).drew)
     rw [iw]
     clear S0
     have S0:u5.heap[w.heap.size]?=some (.cells #[.int .u64 (x.id:Int),.string (str x.name)] 61 (0,0)):=by rw [← iw];exact bu PZ.out _
     have lC:u5.ownsRow wz.heap.size 61 2 (.slice (some ⟨wz.heap.size,0,none⟩) 1 1) 1 (a_ x):=by
      have o5:=gX (w:=wz) (e:=61) (xs:=a_ x) rfl (rfl:(a_ x).length=2)
      rw [← iw]
      exact o5
     have B5:Below wz.heap.size wz u5:=by rw [← iw];exact ((Below.refl wz.heap.size wz).alloc (Nat.le_refl _) _).drew
     have L5:au u5 u5.heap.size 0 (if c=k then some ad else (some ad).map (·.add (k * 2))) (aL (ls.drop k)):=by
      rw [← kV]
      exact ((au.stay LZ.out B5).Dy 2 k c (by decide) (by rw [eY,← HN.out];exact Nat.mul_le_mul_right _ HC.out))
     have di:(aL (ls.drop k)).length=(n - k) * 2:=by rw [eY,List.length_drop,← HN.out];first | done | omega
     have dn:∀ v∈(aL (ls.drop k)),v.oneCell'=true:=iL _
     have mF:∀ q,(Value.slice (some ⟨wz.heap.size,0,none⟩) 1 1).ownBlock=some q→wz.heap.size≤q:=fun q e=>by injection e with e;rw [← e];exact Nat.le_refl _
     refine fw 9 fun K hK=>?_
     refine eT rfl _ _ 23 rfl wz.heap.size 61 i0 _ 2 24 underlying23 hi hz0 hz1 hz2 rfl (by decide) _ 1 (a_ x) rfl lC u5.heap.size _ (n - k) (c - k) (aL (ls.drop k)) 0 rfl di L5 dn (by unfold maxLen;omega) (by omega) B5.size ?_
     intro v6 w6 hown6 aX fA
     obtain⟨A6,k6,rfl⟩:=aD hown6
     obtain⟨a6,tC,_,hc6⟩:=(aH (B:=0) hown6) (by simp [a_])
     subst tC
     have B6:Below wz.heap.size wz w6:=B5.grown aX B5.size mF
     have S1:w6.heap[w.heap.size]?=some (.cells #[.int .u64 (x.id:Int),.string (str x.name)] 61 (0,0)):=(B6.block _ (lt_of_block PZ.out)).trans PZ.out
     refine hK _ _ S1 ?_
     clear aX fA L5 di dn mF B5 lC
     clear hK K S0
     have S0:=S1
     clear S1
     try simp only [Act.put,pS]
     have L6:au w6 w6.heap.size 0 (some ad) (aL (ls.take k)):=by
      rw [← kW]
      exact (au.stay LZ.out B6).take _
     have dm:(aL (ls.take k)).length=k * 2:=by rw [eY,List.length_take,← HN.out,Nat.min_eq_left (by omega)]
     refine fw 10 fun K hK=>?_
     refine fF rfl _ _ 23 rfl wz.heap.size 61 i0 _ 2 24 underlying23 hi hz0 hz1 hz2 rfl w6.heap.size 0 (some ad) k (aL (ls.take k)) rfl dm L6 (by intro z;first | rfl | cases z) a6 (1+(n - k)) k6 (a_ x++(aL (ls.drop k))) rfl hown6.1 hc6 (fC (lD x) (iL _)) (by omega) (by unfold maxLen;omega) (by omega) B6.size ?_
     intro v7 w7 bR bQ hblk7
     obtain⟨A7,k7,rfl⟩:=aD bR
     have B7:Below wz.heap.size wz w7:=B6.grown bQ B6.size (fun q e=>by cases e)
     have S1:w7.heap[w.heap.size]?=some (.cells #[.int .u64 (x.id:Int),.string (str x.name)] 61 (0,0)):=(B7.block _ (lt_of_block PZ.out)).trans PZ.out
     refine hK _ _ S1 ?_
     clear bQ L6 dm
     clear hK K S0
     have S0:=S1
     clear S1
     try simp only [Act.put,pS]
     refine av 11 S0 ?_
     refine wpAnyH_done (by kernel_rfl) ?_ _
     clear S0
     have mE:=hid bR
     have pu:=hid B7
     have sZ:=hid hblk7
     clear bR B7 hblk7 hown6 hc6 B6
     generalize (if c=k then some ad else some (ad.add (k * 2)))=A8
     go_wp2
     go_ret
     have iJ:(ls.take k++x :: ls.drop k).length=k+(1+(n - k)):=by rw [List.length_append,List.length_cons,List.length_take,List.length_drop,← HN.out,Nat.min_eq_left (by omega)];omega
     have CELLS:aL (ls.take k++x :: ls.drop k)=(aL (ls.take k))++(a_ x++(aL (ls.drop k))):=by simp [aL]
     refine⟨A7,k7,(by rw [IN.out,iJ];rfl),?_,(by rw [IN.out,iJ];exact (aO mE.out).2),(fun z=>by subst z;cases sZ.out),BZ.out.trans (pu.out.mono BZ.out.size)⟩
     ·rw [IN.out,CELLS]
      exact aH (B:=0) mE.out
  ·obtain rfl:k=n:=by omega
   have hltz:¬ ((k:Int)<(k:Int)):=by omega
   have IN:Hid (Sr.ins T9.iY x ls=ls.take k++x :: ls.drop k):=hid (Sr.gV HI.out fun y hy=>by
    have:=(List.getElem?_eq_some_iff.1 hy).1
    have:=HN.out
    omega)
   cases A with
   | none =>
    obtain rfl:c=0:=HZ.out rfl
    obtain rfl:k=0:=by omega
    obtain rfl:ls=[]:=List.eq_nil_of_length_eq_zero HN.out.symm
    go_wp2_with fail
    go_region
    go_wp2_with fail
    go_region
    go_wp2_with fail
    obtain⟨wz,hwz⟩:=nm wr.drew.drew
    rw [hwz]
    have BZ:Hid (Below w.heap.size w wz):=hid (by rw [← hwz];exact BW.out.drew.drew)
    have PZ:Hid (wz.heap[w.heap.size]?=some (.cells #[.int .u64 (x.id:Int),.string (str x.name)] 61 (0,0))):=hid (by rw [← hwz];exact PR.out)
    have LZ:=hid (HL.out.stay BZ.out)
    obtain⟨i0,hi,hz0,hz1,hz2⟩:=info_parts Tryz.infoLi9
    refine wp_region_held_drew (S:=fun u=>u.heap[w.heap.size]?=some (.cells #[.int .u64 (x.id:Int),.string (str x.name)] 61 (0,0))) (by kernel_rfl) (PZ.out) (fun S0=>?_)
    refine av 0 S0 ?_
    refine av 1 S0 ?_
    refine av 2 S0 ?_
    refine av 3 S0 ?_
    refine av 4 S0 ?_ (hy:=by intro u hu;obtain⟨p0,p1⟩:=aa hu;go_simp;try rfl)
    refine av 6 S0 ?_
    refine av 7 S0 ?_
    refine av 8 S0 ?_
    refine fw 5 fun K hK=>?_
    have hbs:=rM x wz.drew
    go_simp
    clear hbs
    have S1:=bu S0 (.cells #[.int .u64 (x.id:Int),.string (str x.name)] 61)
    refine hK _ _ S1 ?_
    clear hK K S0
    have S0:=S1
    clear S1
    try simp only [Act.put,pS]
    obtain⟨u5,iw⟩:=nm ((wz.alloc (.cells #[.int .u64 (x.id:Int),.string (str x.name)] 61)).drew)
    rw [iw]
    clear S0
    have S0:u5.heap[w.heap.size]?=some (.cells #[.int .u64 (x.id:Int),.string (str x.name)] 61 (0,0)):=by rw [← iw];exact bu PZ.out _
    have lC:u5.ownsRow wz.heap.size 61 2 (.slice (some ⟨wz.heap.size,0,none⟩) 1 1) 1 (a_ x):=by
     have o5:=gX (w:=wz) (e:=61) (xs:=a_ x) rfl (rfl:(a_ x).length=2)
     rw [← iw]
     exact o5
    have B5:Below wz.heap.size wz u5:=by rw [← iw];exact ((Below.refl wz.heap.size wz).alloc (Nat.le_refl _) _).drew
    have L5:au u5 u5.heap.size 0 none ([]:List Value):=au.nil
    have di:([]:List Value).length=0 * 2:=by rfl
    have dn:∀ v∈([]:List Value),v.oneCell'=true:=by simp
    have mF:∀ q,(Value.slice (some ⟨wz.heap.size,0,none⟩) 1 1).ownBlock=some q→wz.heap.size≤q:=fun q e=>by injection e with e;rw [← e];exact Nat.le_refl _
    refine fw 9 fun K hK=>?_
    refine eT rfl _ _ 23 rfl wz.heap.size 61 i0 _ 2 24 underlying23 hi hz0 hz1 hz2 rfl (by decide) _ 1 (a_ x) rfl lC u5.heap.size _ 0 0 ([]:List Value) 0 rfl di L5 dn (by unfold maxLen;omega) (by omega) B5.size ?_
    intro v6 w6 hown6 aX fA
    obtain⟨A6,k6,rfl⟩:=aD hown6
    obtain⟨a6,tC,_,hc6⟩:=(aH (B:=0) hown6) (by simp [a_])
    subst tC
    have B6:Below wz.heap.size wz w6:=B5.grown aX B5.size mF
    have S1:w6.heap[w.heap.size]?=some (.cells #[.int .u64 (x.id:Int),.string (str x.name)] 61 (0,0)):=(B6.block _ (lt_of_block PZ.out)).trans PZ.out
    refine hK _ _ S1 ?_
    clear aX fA L5 di dn mF B5 lC
    clear hK K S0
    have S0:=S1
    clear S1
    try simp only [Act.put,pS]
    have L6:au w6 w6.heap.size 0 none ([]:List Value):=au.nil
    have dm:([]:List Value).length=0 * 2:=by rfl
    refine fw 10 fun K hK=>?_
    refine fF rfl _ _ 23 rfl wz.heap.size 61 i0 _ 2 24 underlying23 hi hz0 hz1 hz2 rfl w6.heap.size 0 none 0 ([]:List Value) rfl dm L6 (by intro z;first | rfl | cases z) a6 (1+0) k6 (a_ x++([]:List Value)) rfl hown6.1 hc6 (fC (lD x) (by simp)) (by omega) (by unfold maxLen;omega) (by omega) B6.size ?_
    intro v7 w7 bR bQ hblk7
    obtain⟨A7,k7,rfl⟩:=aD bR
    have B7:Below wz.heap.size wz w7:=B6.grown bQ B6.size (fun q e=>by cases e)
    have S1:w7.heap[w.heap.size]?=some (.cells #[.int .u64 (x.id:Int),.string (str x.name)] 61 (0,0)):=(B7.block _ (lt_of_block PZ.out)).trans PZ.out
    refine hK _ _ S1 ?_
    clear bQ L6 dm
    clear hK K S0
    have S0:=S1
    clear S1
    try simp only [Act.put,pS]
    refine av 11 S0 ?_
    refine wpAnyH_done (by kernel_rfl) ?_ _
    clear S0
    have mE:=hid bR
    have pu:=hid B7
    have sZ:=hid hblk7
    clear bR B7 hblk7 hown6 hc6 B6
    go_wp2
    go_ret
    have iJ:(List.take 0 []++x :: List.drop 0 []).length=0+(1+0):=by rfl
    have CELLS:aL (List.take 0 []++x :: List.drop 0 [])=([]:List Value)++(a_ x++([]:List Value)):=by simp [aL]
    refine⟨A7,k7,(by rw [IN.out,iJ];rfl),?_,(by rw [IN.out,iJ];exact (aO mE.out).2),(fun z=>by subst z;cases sZ.out),BZ.out.trans (pu.out.mono BZ.out.size)⟩
    ·rw [IN.out,CELLS]
     exact aH (B:=0) mE.out
   | some ad =>
    have k0:(0:Int)≤(k:Int):=by omega
    have kci:(k:Int)≤(c:Int):=by omega
    have kk:k≤k:=Nat.le_refl _
    obtain⟨n,hnk⟩:∃ n,n=k:=⟨_,rfl⟩
    go_wp2_with fail
    go_region
    go_wp2_with fail
    go_region
    go_wp2_with fail
    obtain⟨wz,hwz⟩:=nm wr.drew.drew
    rw [hwz]
    have BZ:Hid (Below w.heap.size w wz):=hid (by rw [← hwz];exact BW.out.drew.drew)
    have PZ:Hid (wz.heap[w.heap.size]?=some (.cells #[.int .u64 (x.id:Int),.string (str x.name)] 61 (0,0))):=hid (by rw [← hwz];exact PR.out)
    have LZ:=hid (HL.out.stay BZ.out)
    obtain⟨i0,hi,hz0,hz1,hz2⟩:=info_parts Tryz.infoLi9
    refine wp_region_held_drew (S:=fun u=>u.heap[w.heap.size]?=some (.cells #[.int .u64 (x.id:Int),.string (str x.name)] 61 (0,0))) (by kernel_rfl) (PZ.out) (fun S0=>?_)
    refine av 0 S0 ?_
    refine av 1 S0 ?_
    refine av 2 S0 ?_
    refine av 3 S0 ?_
    refine av 4 S0 ?_ (hy:=by intro u hu;obtain⟨p0,p1⟩:=aa hu;go_simp;try rfl)
    refine av 6 S0 ?_
    refine av 7 S0 ?_
    refine av 8 S0 ?_
    refine fw 5 fun K hK=>?_
    have hbs:=rM x wz.drew
    go_simp
    clear hbs
    have S1:=bu S0 (.cells #[.int .u64 (x.id:Int),.string (str x.name)] 61)
    refine hK _ _ S1 ?_
    clear hK K S0
    have S0:=S1
    clear S1
    try simp only [Act.put,pS]
    obtain⟨u5,iw⟩:=nm ((wz.alloc (.cells #[.int .u64 (x.id:Int),.string (str x.name)] 61)).drew)
    rw [iw]
    clear S0
    have S0:u5.heap[w.heap.size]?=some (.cells #[.int .u64 (x.id:Int),.string (str x.name)] 61 (0,0)):=by rw [← iw];exact bu PZ.out _
    have lC:u5.ownsRow wz.heap.size 61 2 (.slice (some ⟨wz.heap.size,0,none⟩) 1 1) 1 (a_ x):=by
     have o5:=gX (w:=wz) (e:=61) (xs:=a_ x) rfl (rfl:(a_ x).length=2)
     rw [← iw]
     exact o5
    have B5:Below wz.heap.size wz u5:=by rw [← iw];exact ((Below.refl wz.heap.size wz).alloc (Nat.le_refl _) _).drew
    have L5:au u5 u5.heap.size 0 (if c=k then some ad else (some ad).map (·.add (k * 2))) (aL (ls.drop k)):=by
     rw [← kV]
     exact ((au.stay LZ.out B5).Dy 2 k c (by decide) (by rw [eY,← HN.out];exact Nat.mul_le_mul_right _ HC.out))
    have di:(aL (ls.drop k)).length=0 * 2:=by rw [eY,List.length_drop,← HN.out];first | done | omega
    have dn:∀ v∈(aL (ls.drop k)),v.oneCell'=true:=iL _
    have mF:∀ q,(Value.slice (some ⟨wz.heap.size,0,none⟩) 1 1).ownBlock=some q→wz.heap.size≤q:=fun q e=>by injection e with e;rw [← e];exact Nat.le_refl _
    refine fw 9 fun K hK=>?_
    refine eT rfl _ _ 23 rfl wz.heap.size 61 i0 _ 2 24 underlying23 hi hz0 hz1 hz2 rfl (by decide) _ 1 (a_ x) rfl lC u5.heap.size _ 0 (c - k) (aL (ls.drop k)) 0 rfl di L5 dn (by unfold maxLen;omega) (by omega) B5.size ?_
    intro v6 w6 hown6 aX fA
    obtain⟨A6,k6,rfl⟩:=aD hown6
    obtain⟨a6,tC,_,hc6⟩:=(aH (B:=0) hown6) (by simp [a_])
    subst tC
    have B6:Below wz.heap.size wz w6:=B5.grown aX B5.size mF
    have S1:w6.heap[w.heap.size]?=some (.cells #[.int .u64 (x.id:Int),.string (str x.name)] 61 (0,0)):=(B6.block _ (lt_of_block PZ.out)).trans PZ.out
    refine hK _ _ S1 ?_
    clear aX fA L5 di dn mF B5 lC
    clear hK K S0
    have S0:=S1
    clear S1
    try simp only [Act.put,pS]
    have L6:au w6 w6.heap.size 0 (some ad) (aL (ls.take k)):=by
     rw [← kW]
     exact (au.stay LZ.out B6).take _
    have dm:(aL (ls.take k)).length=k * 2:=by rw [eY,List.length_take,← HN.out,Nat.min_eq_left (by omega)]
    refine fw 10 fun K hK=>?_
    refine fF rfl _ _ 23 rfl wz.heap.size 61 i0 _ 2 24 underlying23 hi hz0 hz1 hz2 rfl w6.heap.size 0 (some ad) k (aL (ls.take k)) rfl dm L6 (by intro z;first | rfl | cases z) a6 (1+0) k6 (a_ x++(aL (ls.drop k))) rfl hown6.1 hc6 (fC (lD x) (iL _)) (by omega) (by unfold maxLen;omega) (by omega) B6.size ?_
    intro v7 w7 bR bQ hblk7
    obtain⟨A7,k7,rfl⟩:=aD bR
    have B7:Below wz.heap.size wz w7:=B6.grown bQ B6.size (fun q e=>by cases e)
    have S1:w7.heap[w.heap.size]?=some (.cells #[.int .u64 (x.id:Int),.string (str x.name)] 61 (0,0)):=(B7.block _ (lt_of_block PZ.out)).trans PZ.out
    refine hK _ _ S1 ?_
    clear bQ L6 dm
    clear hK K S0
    have S0:=S1
    clear S1
    try simp only [Act.put,pS]
    refine av 11 S0 ?_
    refine wpAnyH_done (by kernel_rfl) ?_ _
    clear S0
    have mE:=hid bR
    have pu:=hid B7
    have sZ:=hid hblk7
    clear bR B7 hblk7 hown6 hc6 B6
    generalize (if c=k then some ad else some (ad.add (k * 2)))=A8
    go_wp2
    go_ret
    have iJ:(ls.take k++x :: ls.drop k).length=k+(1+0):=by rw [List.length_append,List.length_cons,List.length_take,List.length_drop,← HN.out,Nat.min_eq_left (by omega)];omega
    have CELLS:aL (ls.take k++x :: ls.drop k)=(aL (ls.take k))++(a_ x++(aL (ls.drop k))):=by simp [aL]
    refine⟨A7,k7,(by rw [IN.out,iJ];rfl),?_,(by rw [IN.out,iJ];exact (aO mE.out).2),(fun z=>by subst z;cases sZ.out),BZ.out.trans (pu.out.mono BZ.out.size)⟩
    ·rw [IN.out,CELLS]
     exact aH (B:=0) mE.out
def WKOk (ls:List aN) (w:World) (e:Ending) (w':World):Prop:=∃ A c,e=.returned (.slice A ls.length c)∧au w' 0 64 A (ai ls)∧(∀ m∈ls,m.bS w')∧ls.length≤c∧(A=none→c=0)∧Below w.heap.size w w'
theorem fo {A:Option Addr} {n c:Nat} {ls:List aN} {x:aN} {w:World} (h:au w 0 64 A (ai ls)) (ha:∀ m∈ls,m.bS w) (hf:x.bS w) (hn:n=ls.length) (hc:n≤c) (hz:A=none→c=0) (hs:n≤1000) :
  Calls prog 57 #[.slice A n c,.agg #[.int .u64 (x.t.id:Int),.int .u64 (x.t.list:Int),.string (str x.t.title),.bool x.t.done,.float .f64 x.t.rank,.float .f64 x.t.est,.slice x.A x.t.tags.length x.c]] w (WKOk (Sr.ins iI x ls) w):=by
 have HT:=hid h
 have HA:=hid ha
 have HL:Hid (KL w A ls):=hid ⟨h.old,fun m hm=>(ha m hm).fine⟩
 have HN:=hid hn
 have HC:=hid hc
 have HZ:=hid hz
 have HF:=hid hf
 obtain⟨w1,hw1⟩:=nm (w.alloc (.cells #[.int .u64 (x.t.id:Int),.int .u64 (x.t.list:Int),.string (str x.t.title),.bool x.t.done,.float .f64 x.t.rank,.float .f64 x.t.est,.slice x.A x.t.tags.length x.c] 64))
 obtain⟨pb,b1,z1⟩:=bf hw1
 have PB:=hid pb
 have B1:=hid b1
 clear h hn pb b1 z1 hz hf ha
 go_enter func57,ntmps57
 go_wp2_with fail
 go_loopw [5] (fun s5 wr=>∃ k:Nat,s5=.int .i64 k∧k≤n∧Aside (∀ y∈ls.take k,iI y x=true)∧Aside (Below w1.heap.size w1 wr)) (fun s5 _=>n - (intOf s5).toNat)
 case atStart=>exact⟨0,rfl,Nat.zero_le _,(fun y hy=>by simp at hy:∀ y∈ls.take 0,iI y x=true),Below.refl _ _⟩
 case round =>
  obtain⟨k,rfl,hk,hI,hB⟩:=hrel
  have HI:=hid hI.out
  have HB:=hid hB.out
  clear hI hB
  have BW:=hid (B1.out.trans (HB.out.mono B1.out.size))
  have PR:=hid (ae PB.out HB.out)
  obtain⟨p0,p1,p2,p3,p4,p5,p6⟩:=ak PR.out
  have LW:=hid (HL.out.stay BW.out)
  by_cases hlt:k<n
  ·have hltz:(k:Int)<(n:Int):=by omega
   have k0:(0:Int)≤(k:Int):=by omega
   have kc:k≤c:=by omega
   have kci:(k:Int)≤(c:Int):=by omega
   have nci:(n:Int)≤(c:Int):=by omega
   have kni:(k:Int)≤(n:Int):=by omega
   have kn:k≤n:=by omega
   obtain⟨ad,l,hA,hx,_,r0,r1,r2,r3,r4,r5,r6⟩:=LW.out.at_ (k:=k) (by rw [← HN.out];exact hlt)
   subst hA
   have X:=hid hx
   clear hx
   by_cases q:l.t.id<x.t.id
   ·have q1:decide ((l.t.id:Int)<(x.t.id:Int))=true:=decide_eq_true (by omega)
    have q1n:decide (l.t.id<x.t.id)=true:=decide_eq_true q
    have QX:Hid (iI l x=true):=hid (decide_eq_true q)
    clear q
    go_wp2_with fail
    go_region
    go_wp2
    go_roundw
    case rel =>
     refine⟨k+1,by go_num,by omega,?_,HB.out.drew⟩
     intro y hy
     rw [bH X.out] at hy
     rcases List.mem_append.1 hy with h | h
     ·exact HI.out y h
     ·simp only [List.mem_cons,List.not_mem_nil,or_false] at h
      subst h
      exact QX.out
    case measure=>simp [intOf];omega
   ·have q1:decide ((l.t.id:Int)<(x.t.id:Int))=false:=decide_eq_false (by omega)
    have q1n:decide (l.t.id<x.t.id)=false:=decide_eq_false q
    have qz:¬ ((l.t.id:Int)<(x.t.id:Int)):=by omega
    have QN:Hid (iI l x=false):=hid (decide_eq_false q)
    by_cases e:l.t.id=x.t.id
    ·have e1:((l.t.id:Int)==(x.t.id:Int))=true:=by rw [e];exact beq_self_eq_true _
     have e1n:(l.t.id==x.t.id)=true:=by rw [e];exact beq_self_eq_true _
     have e1d:decide (l.t.id=x.t.id)=true:=decide_eq_true e
     have IO:Hid (Sr.ins iI x ls=ls):=hid (Sr.tT HI.out X.out QN.out (decide_eq_false (by omega)))
     clear q e
     go_wp2_with fail
     go_region
     go_wp2_with fail
     go_region
     go_wp2
     go_ret
     exact⟨some ad,c,(by rw [IO.out,← HN.out];rfl),(by rw [IO.out];exact bG HT.out BW.out.drew.drew),(by rw [IO.out];exact fun m hm=>(HA.out m hm).stay BW.out.drew.drew),(by rw [IO.out,← HN.out];exact HC.out),(fun z=>by cases z),BW.out.drew.drew⟩
    ·have e1:((l.t.id:Int)==(x.t.id:Int))=false:=by rw [beq_eq_false_iff_ne];omega
     have e1n:(l.t.id==x.t.id)=false:=by rw [beq_eq_false_iff_ne];exact e
     have e1d:decide (l.t.id=x.t.id)=false:=decide_eq_false e
     have IN:Hid (Sr.ins iI x ls=ls.take k++x :: ls.drop k):=hid (Sr.gV HI.out fun y hy=>by
      rw [X.out] at hy
      injection hy with hy
      subst hy
      exact⟨QN.out,decide_eq_true (by omega)⟩)
     clear q e
     go_wp2_with fail
     go_region
     go_wp2_with fail
     go_region
     go_wp2_with fail
     obtain⟨wz,hwz⟩:=nm wr.drew.drew
     rw [hwz]
     have BZ:Hid (Below w.heap.size w wz):=hid (by rw [← hwz];exact BW.out.drew.drew)
     have PZ:Hid (wz.heap[w.heap.size]?=some (.cells #[.int .u64 (x.t.id:Int),.int .u64 (x.t.list:Int),.string (str x.t.title),.bool x.t.done,.float .f64 x.t.rank,.float .f64 x.t.est,.slice x.A x.t.tags.length x.c] 64 (0,0))):=hid (by rw [← hwz];exact PR.out)
     have LZ:=hid (HL.out.stay BZ.out)
     obtain⟨i0,hi,hz0,hz1,hz2⟩:=info_parts Tryz.infoTk9
     refine wp_region_held_drew (S:=fun u=>u.heap[w.heap.size]?=some (.cells #[.int .u64 (x.t.id:Int),.int .u64 (x.t.list:Int),.string (str x.t.title),.bool x.t.done,.float .f64 x.t.rank,.float .f64 x.t.est,.slice x.A x.t.tags.length x.c] 64 (0,0))) (by kernel_rfl) (PZ.out) (fun S0=>?_)
     refine av 0 S0 ?_
     refine av 1 S0 ?_
     refine av 2 S0 ?_
     refine av 3 S0 ?_
     refine av 4 S0 ?_ (hy:=by intro u hu;obtain⟨p0,p1,p2,p3,p4,p5,p6⟩:=ak hu;go_simp;try rfl)
     refine av 6 S0 ?_
     refine av 7 S0 ?_
     refine av 8 S0 ?_
     refine fw 5 fun K hK=>?_
     have hbs:=rJ x wz.drew
     go_simp
     clear hbs
     have S1:=bu S0 (.cells #[.int .u64 (x.t.id:Int),.int .u64 (x.t.list:Int),.string (str x.t.title),.bool x.t.done,.float .f64 x.t.rank,.float .f64 x.t.est,.slice x.A x.t.tags.length x.c] 64)
     refine hK _ _ S1 ?_
     clear hK K S0
     have S0:=S1
     clear S1
     try simp only [Act.put,pS]
     obtain⟨u5,iw⟩:=nm ((wz.alloc (.cells #[.int .u64 (x.t.id:Int),.int .u64 (x.t.list:Int),.string (str x.t.title),.bool x.t.done,.float .f64 x.t.rank,.float .f64 x.t.est,.slice x.A x.t.tags.length x.c] 64)).drew)
     rw [iw]
     clear S0
     have S0:u5.heap[w.heap.size]?=some (.cells #[.int .u64 (x.t.id:Int),.int .u64 (x.t.list:Int),.string (str x.t.title),.bool x.t.done,.float .f64 x.t.rank,.float .f64 x.t.est,.slice x.A x.t.tags.length x.c] 64 (0,0)):=by rw [← iw];exact bu PZ.out _
     have lC:u5.ownsRow wz.heap.size 64 7 (.slice (some ⟨wz.heap.size,0,none⟩) 1 1) 1 (aA x):=by
      have o5:=gX (w:=wz) (e:=64) (xs:=aA x) rfl (rfl:(aA x).length=7)
      rw [← iw]
      exact o5
     have B5:Below wz.heap.size wz u5:=by rw [← iw];exact ((Below.refl wz.heap.size wz).alloc (Nat.le_refl _) _).drew
     have L5:au u5 u5.heap.size 0 (if c=k then some ad else (some ad).map (·.add (k * 7))) (ai (ls.drop k)):=by
      rw [← fP]
      exact ((au.stay LZ.out.1 B5).Dy 7 k c (by decide) (by rw [aP,← HN.out];exact Nat.mul_le_mul_right _ HC.out))
     have di:(ai (ls.drop k)).length=(n - k) * 7:=by rw [aP,List.length_drop,← HN.out];first | done | omega
     have dn:∀ v∈(ai (ls.drop k)),v.oneCell'=true:=cB _
     have mF:∀ q,(Value.slice (some ⟨wz.heap.size,0,none⟩) 1 1).ownBlock=some q→wz.heap.size≤q:=fun q e=>by injection e with e;rw [← e];exact Nat.le_refl _
     refine fw 9 fun K hK=>?_
     refine eT rfl _ _ 24 rfl wz.heap.size 64 i0 _ 7 80 underlying24 hi hz0 hz1 hz2 rfl (by decide) _ 1 (aA x) rfl lC u5.heap.size _ (n - k) (c - k) (ai (ls.drop k)) 0 rfl di L5 dn (by unfold maxLen;omega) (by omega) B5.size ?_
     intro v6 w6 hown6 aX fA
     obtain⟨A6,k6,rfl⟩:=aD hown6
     obtain⟨a6,tC,_,hc6⟩:=(aH (B:=0) hown6) (by simp [aA])
     subst tC
     have B6:Below wz.heap.size wz w6:=B5.grown aX B5.size mF
     have S1:w6.heap[w.heap.size]?=some (.cells #[.int .u64 (x.t.id:Int),.int .u64 (x.t.list:Int),.string (str x.t.title),.bool x.t.done,.float .f64 x.t.rank,.float .f64 x.t.est,.slice x.A x.t.tags.length x.c] 64 (0,0)):=(B6.block _ (lt_of_block PZ.out)).trans PZ.out
     refine hK _ _ S1 ?_
     clear aX fA L5 di dn mF B5 lC
     clear hK K S0
     have S0:=S1
     clear S1
     try simp only [Act.put,pS]
     have L6:au w6 w6.heap.size 0 (some ad) (ai (ls.take k)):=by
      rw [← eU]
      exact (au.stay LZ.out.1 B6).take _
     have dm:(ai (ls.take k)).length=k * 7:=by rw [aP,List.length_take,← HN.out,Nat.min_eq_left (by omega)]
     refine fw 10 fun K hK=>?_
     refine fF rfl _ _ 24 rfl wz.heap.size 64 i0 _ 7 80 underlying24 hi hz0 hz1 hz2 rfl w6.heap.size 0 (some ad) k (ai (ls.take k)) rfl dm L6 (by intro z;first | rfl | cases z) a6 (1+(n - k)) k6 (aA x++(ai (ls.drop k))) rfl hown6.1 hc6 (fC (dL x) (cB _)) (by omega) (by unfold maxLen;omega) (by omega) B6.size ?_
     intro v7 w7 bR bQ hblk7
     obtain⟨A7,k7,rfl⟩:=aD bR
     have B7:Below wz.heap.size wz w7:=B6.grown bQ B6.size (fun q e=>by cases e)
     have S1:w7.heap[w.heap.size]?=some (.cells #[.int .u64 (x.t.id:Int),.int .u64 (x.t.list:Int),.string (str x.t.title),.bool x.t.done,.float .f64 x.t.rank,.float .f64 x.t.est,.slice x.A x.t.tags.length x.c] 64 (0,0)):=(B7.block _ (lt_of_block PZ.out)).trans PZ.out
     refine hK _ _ S1 ?_
     clear bQ L6 dm
     clear hK K S0
     have S0:=S1
     clear S1
     try simp only [Act.put,pS]
     refine av 11 S0 ?_
     refine wpAnyH_done (by kernel_rfl) ?_ _
     clear S0
     have mE:=hid bR
     have pu:=hid B7
     have sZ:=hid hblk7
     clear bR B7 hblk7 hown6 hc6 B6
     generalize (if c=k then some ad else some (ad.add (k * 7)))=A8
     go_wp2
     go_ret
     have iJ:(ls.take k++x :: ls.drop k).length=k+(1+(n - k)):=by rw [List.length_append,List.length_cons,List.length_take,List.length_drop,← HN.out,Nat.min_eq_left (by omega)];omega
     have CELLS:ai (ls.take k++x :: ls.drop k)=(ai (ls.take k))++(aA x++(ai (ls.drop k))):=by simp [ai]
     refine⟨A7,k7,(by rw [IN.out,iJ];rfl),?_,?_,(by rw [IN.out,iJ];exact (aO mE.out).2),(fun z=>by subst z;cases sZ.out),BZ.out.trans (pu.out.mono BZ.out.size)⟩
     ·rw [IN.out,CELLS]
      exact aH (B:=0) mE.out
     ·rw [IN.out]
      intro m hm
      have hm2:m=x∨m∈ls:=by rcases List.mem_append.1 hm with h | h;exact .inr (List.mem_of_mem_take h);rcases List.mem_cons.1 h with h | h;exact .inl h;exact .inr (List.mem_of_mem_drop h)
      rcases hm2 with rfl | h
      ·exact HF.out.stay (BZ.out.trans (pu.out.mono BZ.out.size))
      ·exact (HA.out m h).stay (BZ.out.trans (pu.out.mono BZ.out.size))
  ·obtain rfl:k=n:=by omega
   have hltz:¬ ((k:Int)<(k:Int)):=by omega
   have IN:Hid (Sr.ins iI x ls=ls.take k++x :: ls.drop k):=hid (Sr.gV HI.out fun y hy=>by
    have:=(List.getElem?_eq_some_iff.1 hy).1
    have:=HN.out
    omega)
   cases A with
   | none =>
    obtain rfl:c=0:=HZ.out rfl
    obtain rfl:k=0:=by omega
    obtain rfl:ls=[]:=List.eq_nil_of_length_eq_zero HN.out.symm
    go_wp2_with fail
    go_region
    go_wp2_with fail
    go_region
    go_wp2_with fail
    obtain⟨wz,hwz⟩:=nm wr.drew.drew
    rw [hwz]
    have BZ:Hid (Below w.heap.size w wz):=hid (by rw [← hwz];exact BW.out.drew.drew)
    have PZ:Hid (wz.heap[w.heap.size]?=some (.cells #[.int .u64 (x.t.id:Int),.int .u64 (x.t.list:Int),.string (str x.t.title),.bool x.t.done,.float .f64 x.t.rank,.float .f64 x.t.est,.slice x.A x.t.tags.length x.c] 64 (0,0))):=hid (by rw [← hwz];exact PR.out)
    have LZ:=hid (HL.out.stay BZ.out)
    obtain⟨i0,hi,hz0,hz1,hz2⟩:=info_parts Tryz.infoTk9
    refine wp_region_held_drew (S:=fun u=>u.heap[w.heap.size]?=some (.cells #[.int .u64 (x.t.id:Int),.int .u64 (x.t.list:Int),.string (str x.t.title),.bool x.t.done,.float .f64 x.t.rank,.float .f64 x.t.est,.slice x.A x.t.tags.length x.c] 64 (0,0))) (by kernel_rfl) (PZ.out) (fun S0=>?_)
    refine av 0 S0 ?_
    refine av 1 S0 ?_
    refine av 2 S0 ?_
    refine av 3 S0 ?_
    refine av 4 S0 ?_ (hy:=by intro u hu;obtain⟨p0,p1,p2,p3,p4,p5,p6⟩:=ak hu;go_simp;try rfl)
    refine av 6 S0 ?_
    refine av 7 S0 ?_
    refine av 8 S0 ?_
    refine fw 5 fun K hK=>?_
    have hbs:=rJ x wz.drew
    go_simp
    clear hbs
    have S1:=bu S0 (.cells #[.int .u64 (x.t.id:Int),.int .u64 (x.t.list:Int),.string (str x.t.title),.bool x.t.done,.float .f64 x.t.rank,.float .f64 x.t.est,.slice x.A x.t.tags.length x.c] 64)
    refine hK _ _ S1 ?_
    clear hK K S0
    have S0:=S1
    clear S1
    try simp only [Act.put,pS]
    obtain⟨u5,iw⟩:=nm ((wz.alloc (.cells #[.int .u64 (x.t.id:Int),.int .u64 (x.t.list:Int),.string (str x.t.title),.bool x.t.done,.float .f64 x.t.rank,.float .f64 x.t.est,.slice x.A x.t.tags.length x.c] 64)).drew)
    rw [iw]
    clear S0
    have S0:u5.heap[w.heap.size]?=some (.cells #[.int .u64 (x.t.id:Int),.int .u64 (x.t.list:Int),.string (str x.t.title),.bool x.t.done,.float .f64 x.t.rank,.float .f64 x.t.est,.slice x.A x.t.tags.length x.c] 64 (0,0)):=by rw [← iw];exact bu PZ.out _
    have lC:u5.ownsRow wz.heap.size 64 7 (.slice (some ⟨wz.heap.size,0,none⟩) 1 1) 1 (aA x):=by
     have o5:=gX (w:=wz) (e:=64) (xs:=aA x) rfl (rfl:(aA x).length=7)
     rw [← iw]
     exact o5
    have B5:Below wz.heap.size wz u5:=by rw [← iw];exact ((Below.refl wz.heap.size wz).alloc (Nat.le_refl _) _).drew
    have L5:au u5 u5.heap.size 0 none ([]:List Value):=au.nil
    have di:([]:List Value).length=0 * 7:=by rfl
    have dn:∀ v∈([]:List Value),v.oneCell'=true:=by simp
    have mF:∀ q,(Value.slice (some ⟨wz.heap.size,0,none⟩) 1 1).ownBlock=some q→wz.heap.size≤q:=fun q e=>by injection e with e;rw [← e];exact Nat.le_refl _
    refine fw 9 fun K hK=>?_
    refine eT rfl _ _ 24 rfl wz.heap.size 64 i0 _ 7 80 underlying24 hi hz0 hz1 hz2 rfl (by decide) _ 1 (aA x) rfl lC u5.heap.size _ 0 0 ([]:List Value) 0 rfl di L5 dn (by unfold maxLen;omega) (by omega) B5.size ?_
    intro v6 w6 hown6 aX fA
    obtain⟨A6,k6,rfl⟩:=aD hown6
    obtain⟨a6,tC,_,hc6⟩:=(aH (B:=0) hown6) (by simp [aA])
    subst tC
    have B6:Below wz.heap.size wz w6:=B5.grown aX B5.size mF
    have S1:w6.heap[w.heap.size]?=some (.cells #[.int .u64 (x.t.id:Int),.int .u64 (x.t.list:Int),.string (str x.t.title),.bool x.t.done,.float .f64 x.t.rank,.float .f64 x.t.est,.slice x.A x.t.tags.length x.c] 64 (0,0)):=(B6.block _ (lt_of_block PZ.out)).trans PZ.out
    refine hK _ _ S1 ?_
    clear aX fA L5 di dn mF B5 lC
    clear hK K S0
    have S0:=S1
    clear S1
    try simp only [Act.put,pS]
    have L6:au w6 w6.heap.size 0 none ([]:List Value):=au.nil
    have dm:([]:List Value).length=0 * 7:=by rfl
    refine fw 10 fun K hK=>?_
    refine fF rfl _ _ 24 rfl wz.heap.size 64 i0 _ 7 80 underlying24 hi hz0 hz1 hz2 rfl w6.heap.size 0 none 0 ([]:List Value) rfl dm L6 (by intro z;first | rfl | cases z) a6 (1+0) k6 (aA x++([]:List Value)) rfl hown6.1 hc6 (fC (dL x) (by simp)) (by omega) (by unfold maxLen;omega) (by omega) B6.size ?_
    intro v7 w7 bR bQ hblk7
    obtain⟨A7,k7,rfl⟩:=aD bR
    have B7:Below wz.heap.size wz w7:=B6.grown bQ B6.size (fun q e=>by cases e)
    have S1:w7.heap[w.heap.size]?=some (.cells #[.int .u64 (x.t.id:Int),.int .u64 (x.t.list:Int),.string (str x.t.title),.bool x.t.done,.float .f64 x.t.rank,.float .f64 x.t.est,.slice x.A x.t.tags.length x.c] 64 (0,0)):=(B7.block _ (lt_of_block PZ.out)).trans PZ.out
    refine hK _ _ S1 ?_
    clear bQ L6 dm
    clear hK K S0
    have S0:=S1
    clear S1
    try simp only [Act.put,pS]
    refine av 11 S0 ?_
    refine wpAnyH_done (by kernel_rfl) ?_ _
    clear S0
    have mE:=hid bR
    have pu:=hid B7
    have sZ:=hid hblk7
    clear bR B7 hblk7 hown6 hc6 B6
    go_wp2
    go_ret
    have iJ:(List.take 0 []++x :: List.drop 0 []).length=0+(1+0):=by rfl
    have CELLS:ai (List.take 0 []++x :: List.drop 0 [])=([]:List Value)++(aA x++([]:List Value)):=by simp [ai]
    refine⟨A7,k7,(by rw [IN.out,iJ];rfl),?_,?_,(by rw [IN.out,iJ];exact (aO mE.out).2),(fun z=>by subst z;cases sZ.out),BZ.out.trans (pu.out.mono BZ.out.size)⟩
    ·rw [IN.out,CELLS]
     exact aH (B:=0) mE.out
    ·rw [IN.out]
     intro m hm
     have hm2:m=x∨m∈([]:List aN):=.inl (by simpa using hm)
     rcases hm2 with rfl | h
     ·exact HF.out.stay (BZ.out.trans (pu.out.mono BZ.out.size))
     ·exact (HA.out m h).stay (BZ.out.trans (pu.out.mono BZ.out.size))
   | some ad =>
    have k0:(0:Int)≤(k:Int):=by omega
    have kci:(k:Int)≤(c:Int):=by omega
    have kk:k≤k:=Nat.le_refl _
    obtain⟨n,hnk⟩:∃ n,n=k:=⟨_,rfl⟩
    go_wp2_with fail
    go_region
    go_wp2_with fail
    go_region
    go_wp2_with fail
    obtain⟨wz,hwz⟩:=nm wr.drew.drew
    rw [hwz]
    have BZ:Hid (Below w.heap.size w wz):=hid (by rw [← hwz];exact BW.out.drew.drew)
    have PZ:Hid (wz.heap[w.heap.size]?=some (.cells #[.int .u64 (x.t.id:Int),.int .u64 (x.t.list:Int),.string (str x.t.title),.bool x.t.done,.float .f64 x.t.rank,.float .f64 x.t.est,.slice x.A x.t.tags.length x.c] 64 (0,0))):=hid (by rw [← hwz];exact PR.out)
    have LZ:=hid (HL.out.stay BZ.out)
    obtain⟨i0,hi,hz0,hz1,hz2⟩:=info_parts Tryz.infoTk9
    refine wp_region_held_drew (S:=fun u=>u.heap[w.heap.size]?=some (.cells #[.int .u64 (x.t.id:Int),.int .u64 (x.t.list:Int),.string (str x.t.title),.bool x.t.done,.float .f64 x.t.rank,.float .f64 x.t.est,.slice x.A x.t.tags.length x.c] 64 (0,0))) (by kernel_rfl) (PZ.out) (fun S0=>?_)
    refine av 0 S0 ?_
    refine av 1 S0 ?_
    refine av 2 S0 ?_
    refine av 3 S0 ?_
    refine av 4 S0 ?_ (hy:=by intro u hu;obtain⟨p0,p1,p2,p3,p4,p5,p6⟩:=ak hu;go_simp;try rfl)
    refine av 6 S0 ?_
    refine av 7 S0 ?_
    refine av 8 S0 ?_
    refine fw 5 fun K hK=>?_
    have hbs:=rJ x wz.drew
    go_simp
    clear hbs
    have S1:=bu S0 (.cells #[.int .u64 (x.t.id:Int),.int .u64 (x.t.list:Int),.string (str x.t.title),.bool x.t.done,.float .f64 x.t.rank,.float .f64 x.t.est,.slice x.A x.t.tags.length x.c] 64)
    refine hK _ _ S1 ?_
    clear hK K S0
    have S0:=S1
    clear S1
    try simp only [Act.put,pS]
    obtain⟨u5,iw⟩:=nm ((wz.alloc (.cells #[.int .u64 (x.t.id:Int),.int .u64 (x.t.list:Int),.string (str x.t.title),.bool x.t.done,.float .f64 x.t.rank,.float .f64 x.t.est,.slice x.A x.t.tags.length x.c] 64)).drew)
    rw [iw]
    clear S0
    have S0:u5.heap[w.heap.size]?=some (.cells #[.int .u64 (x.t.id:Int),.int .u64 (x.t.list:Int),.string (str x.t.title),.bool x.t.done,.float .f64 x.t.rank,.float .f64 x.t.est,.slice x.A x.t.tags.length x.c] 64 (0,0)):=by rw [← iw];exact bu PZ.out _
    have lC:u5.ownsRow wz.heap.size 64 7 (.slice (some ⟨wz.heap.size,0,none⟩) 1 1) 1 (aA x):=by
     have o5:=gX (w:=wz) (e:=64) (xs:=aA x) rfl (rfl:(aA x).length=7)
     rw [← iw]
     exact o5
    have B5:Below wz.heap.size wz u5:=by rw [← iw];exact ((Below.refl wz.heap.size wz).alloc (Nat.le_refl _) _).drew
    have L5:au u5 u5.heap.size 0 (if c=k then some ad else (some ad).map (·.add (k * 7))) (ai (ls.drop k)):=by
     rw [← fP]
     exact ((au.stay LZ.out.1 B5).Dy 7 k c (by decide) (by rw [aP,← HN.out];exact Nat.mul_le_mul_right _ HC.out))
    have di:(ai (ls.drop k)).length=0 * 7:=by rw [aP,List.length_drop,← HN.out];first | done | omega
    have dn:∀ v∈(ai (ls.drop k)),v.oneCell'=true:=cB _
    have mF:∀ q,(Value.slice (some ⟨wz.heap.size,0,none⟩) 1 1).ownBlock=some q→wz.heap.size≤q:=fun q e=>by injection e with e;rw [← e];exact Nat.le_refl _
    refine fw 9 fun K hK=>?_
    refine eT rfl _ _ 24 rfl wz.heap.size 64 i0 _ 7 80 underlying24 hi hz0 hz1 hz2 rfl (by decide) _ 1 (aA x) rfl lC u5.heap.size _ 0 (c - k) (ai (ls.drop k)) 0 rfl di L5 dn (by unfold maxLen;omega) (by omega) B5.size ?_
    intro v6 w6 hown6 aX fA
    obtain⟨A6,k6,rfl⟩:=aD hown6
    obtain⟨a6,tC,_,hc6⟩:=(aH (B:=0) hown6) (by simp [aA])
    subst tC
    have B6:Below wz.heap.size wz w6:=B5.grown aX B5.size mF
    have S1:w6.heap[w.heap.size]?=some (.cells #[.int .u64 (x.t.id:Int),.int .u64 (x.t.list:Int),.string (str x.t.title),.bool x.t.done,.float .f64 x.t.rank,.float .f64 x.t.est,.slice x.A x.t.tags.length x.c] 64 (0,0)):=(B6.block _ (lt_of_block PZ.out)).trans PZ.out
    refine hK _ _ S1 ?_
    clear aX fA L5 di dn mF B5 lC
    clear hK K S0
    have S0:=S1
    clear S1
    try simp only [Act.put,pS]
    have L6:au w6 w6.heap.size 0 (some ad) (ai (ls.take k)):=by
     rw [← eU]
     exact (au.stay LZ.out.1 B6).take _
    have dm:(ai (ls.take k)).length=k * 7:=by rw [aP,List.length_take,← HN.out,Nat.min_eq_left (by omega)]
    refine fw 10 fun K hK=>?_
    refine fF rfl _ _ 24 rfl wz.heap.size 64 i0 _ 7 80 underlying24 hi hz0 hz1 hz2 rfl w6.heap.size 0 (some ad) k (ai (ls.take k)) rfl dm L6 (by intro z;first | rfl | cases z) a6 (1+0) k6 (aA x++(ai (ls.drop k))) rfl hown6.1 hc6 (fC (dL x) (cB _)) (by omega) (by unfold maxLen;omega) (by omega) B6.size ?_
    intro v7 w7 bR bQ hblk7
    obtain⟨A7,k7,rfl⟩:=aD bR
    have B7:Below wz.heap.size wz w7:=B6.grown bQ B6.size (fun q e=>by cases e)
    have S1:w7.heap[w.heap.size]?=some (.cells #[.int .u64 (x.t.id:Int),.int .u64 (x.t.list:Int),.string (str x.t.title),.bool x.t.done,.float .f64 x.t.rank,.float .f64 x.t.est,.slice x.A x.t.tags.length x.c] 64 (0,0)):=(B7.block _ (lt_of_block PZ.out)).trans PZ.out
    refine hK _ _ S1 ?_
    clear bQ L6 dm
    clear hK K S0
    have S0:=S1
    clear S1
    try simp only [Act.put,pS]
    refine av 11 S0 ?_
    refine wpAnyH_done (by kernel_rfl) ?_ _
    clear S0
    have mE:=hid bR
    have pu:=hid B7
    have sZ:=hid hblk7
    clear bR B7 hblk7 hown6 hc6 B6
    generalize (if c=k then some ad else some (ad.add (k * 7)))=A8
    go_wp2
    go_ret
    have iJ:(ls.take k++x :: ls.drop k).length=k+(1+0):=by rw [List.length_append,List.length_cons,List.length_take,List.length_drop,← HN.out,Nat.min_eq_left (by omega)];omega
    have CELLS:ai (ls.take k++x :: ls.drop k)=(ai (ls.take k))++(aA x++(ai (ls.drop k))):=by simp [ai]
    refine⟨A7,k7,(by rw [IN.out,iJ];rfl),?_,?_,(by rw [IN.out,iJ];exact (aO mE.out).2),(fun z=>by subst z;cases sZ.out),BZ.out.trans (pu.out.mono BZ.out.size)⟩
    ·rw [IN.out,CELLS]
     exact aH (B:=0) mE.out
    ·rw [IN.out]
     intro m hm
     have hm2:m=x∨m∈ls:=by rcases List.mem_append.1 hm with h | h;exact .inr (List.mem_of_mem_take h);rcases List.mem_cons.1 h with h | h;exact .inl h;exact .inr (List.mem_of_mem_drop h)
     rcases hm2 with rfl | h
     ·exact HF.out.stay (BZ.out.trans (pu.out.mono BZ.out.size))
     ·exact (HA.out m h).stay (BZ.out.trans (pu.out.mono BZ.out.size))
end
end Go.Proofs.YtcmiompdjjiojaaGreat
