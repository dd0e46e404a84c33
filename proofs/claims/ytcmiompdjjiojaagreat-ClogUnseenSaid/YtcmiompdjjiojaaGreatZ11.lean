import Derived.Test.YtcmiompdjjiojaaGreatZ10
namespace Go.Proofs.YtcmiompdjjiojaaGreat
set_option maxHeartbeats 16000000
open Go.Lib Go.Proofs.Tryz
set_option linter.unusedSimpArgs false
set_option maxRecDepth 100000
section
section
open Go.RowKit Go.Lib
theorem qE (ts:List (List UInt8)) (k:Nat):(aC ts).take k=aC (ts.take k):=by simp [aC,List.map_take]
theorem qD (ts:List (List UInt8)) (k:Nat):(aC ts).drop k=aC (ts.drop k):=by simp [aC,List.map_drop]
def WTOk (ts:List (List UInt8)) (w:World) (e:Ending) (w':World):Prop:=∃ A c,e=.returned (.slice A ts.length c)∧au w' 0 9 A (aC ts)∧ts.length≤c∧(A=none→c=0)∧Below w.heap.size w w'
theorem F5 {A0:Option Addr} {n0 c0:Nat} {xs:List (List UInt8)} {w:World} (h:GL w A0 xs) (hn:n0=xs.length) (hs:n0≤1000) :
  Calls prog 56 #[.slice A0 n0 c0] w (WTOk (Sr.canon T9.dN xs) w):=by
 have HL:=hid h
 have HN:=hid hn
 clear h hn
 go_enter func56,ntmps56
 go_wp2_with fail
 go_loopw [3,9] (fun s3 s9 wr=>∃ (k:Nat) (A:Option Addr) (n c:Nat),s3=.slice A n c∧s9=.int .i64 k∧k≤n0∧n=(Sr.canon T9.dN (xs.take k)).length∧n≤c∧(A=none→c=0)∧Aside (au wr 0 9 A (aC (Sr.canon T9.dN (xs.take k))))∧Aside (Below w.heap.size w wr)) (fun _ s9 _=>n0 - (intOf s9).toNat)
 case atStart=>exact⟨0,none,0,0,rfl,rfl,Nat.zero_le _,rfl,Nat.le_refl _,fun _=>rfl,(au.nil:au w 0 9 none (aC (Sr.canon T9.dN (xs.take 0)))),Below.refl _ _⟩
 case round =>
  obtain⟨wo,hwo⟩:∃ u,u=wr:=⟨_,rfl⟩
  subst hwo
  obtain⟨k,A,n,c,rfl,rfl,hk,hn,hc,hz,hG,hB⟩:=hrel
  obtain⟨ts,hts⟩:∃ t,t=Sr.canon T9.dN (xs.take k):=⟨_,rfl⟩
  have hG:=hG.out
  rw [← hts] at hn hG
  have LO:=hid hG
  have BO:=hid hB.out
  have TE:=hid hts
  have TN:=hid hn
  have TC:=hid hc
  have TZ:=hid hz
  have nk:n≤k:=by
   rw [hn,hts]
   refine Nat.le_trans (Sr.dD _) ?_
   rw [List.length_take]
   omega
  clear hn hG hB hts hz
  by_cases hlt:k<n0
  ·have hltz:(k:Int)<(n0:Int):=by omega
   obtain⟨ad0,x,hA,hx,r0⟩:=(HL.out.stay BO.out).at_ (k:=k) (by rw [← HN.out];exact hlt)
   subst hA
   have X:=hid hx
   clear hx
   go_wp2_with fail
   go_loopw [6] (fun s6 wi=>∃ i:Nat,s6=.int .i64 i∧i≤n∧Aside (∀ y∈ts.take i,T9.dN y x=true)∧Aside (au wi 0 9 A (aC ts))∧Aside (Below w.heap.size w wi)) (fun s6 _=>n - (intOf s6).toNat)
   case atStart=>exact⟨0,rfl,Nat.zero_le _,(fun y hy=>by simp at hy:∀ y∈ts.take 0,T9.dN y x=true),LO.out,BO.out⟩
   case round =>
    obtain⟨i,rfl,hi,hI,hG,hB⟩:=hrel
    obtain⟨wi,hwi⟩:∃ u,u=wr:=⟨_,rfl⟩
    subst hwi
    have HI:=hid hI.out
    have LIT:=hid hG.out
    have LI:Hid (GL wi A ts):=hid LIT.out.old
    have BI:=hid hB.out
    clear hI hG hB
    by_cases hlt2:i<n
    ·have uP:(i:Int)<(n:Int):=by omega
     have k0:(0:Int)≤(i:Int):=by omega
     have kc:i≤c:=by omega
     have kci:(i:Int)≤(c:Int):=by omega
     have nci:(n:Int)≤(c:Int):=by omega
     have kni:(i:Int)≤(n:Int):=by omega
     have kn:i≤n:=by omega
     obtain⟨ad,y,hA,hy,r1⟩:=LI.out.at_ (k:=i) (by rw [← TN.out];exact hlt2)
     subst hA
     have Y:=hid hy
     clear hy
     by_cases q:y<x
     ·have q1:=qJ q
      have QX:Hid (T9.dN y x=true):=hid (decide_eq_true q)
      clear q
      go_wp2
      go_roundw
      case rel =>
       refine⟨i+1,by go_num,by omega,?_,LIT.out,BI.out⟩
       intro z hz
       rw [bH Y.out] at hz
       rcases List.mem_append.1 hz with h | h
       ·exact HI.out z h
       ·simp only [List.mem_cons,List.not_mem_nil,or_false] at h
        subst h
        exact QX.out
      case measure=>simp [intOf];omega
     ·have q1:=qI q
      have QN:Hid (T9.dN y x=false):=hid (decide_eq_false q)
      by_cases e:y=x
      ·have e1:(y==x)=true:=by rw [e];exact beq_self_eq_true _
       have e2:(str y==str x)=true:=by rw [lL];exact decide_eq_true e
       have IO:Hid (Sr.ins T9.dN x ts=ts):=hid (Sr.tT HI.out Y.out QN.out (by subst e;exact QN.out))
       clear q e
       go_wp2
       go_roundw
       case rel =>
        have EC:Sr.canon T9.dN (xs.take (k+1))=ts:=by rw [bH X.out,Sr.gD,← TE.out];exact IO.out
        refine⟨k+1,some ad,n,c,rfl,by go_num,by omega,(by rw [EC];exact TN.out),TC.out,(fun z=>by cases z),?_,BI.out⟩
        rw [EC]
        exact LIT.out
       case measure=>simp [intOf];omega
      ·have e1:(y==x)=false:=by rw [beq_eq_false_iff_ne];exact e
       have e2:(str y==str x)=false:=by rw [lL];exact decide_eq_false e
       have IN:Hid (Sr.ins T9.dN x ts=ts.take i++x :: ts.drop i):=hid (Sr.gV HI.out fun z hz=>by
        rw [Y.out] at hz
        injection hz with hz
        subst hz
        refine⟨QN.out,decide_eq_true ?_⟩
        rcases List.le_iff_lt_or_eq.1 (List.not_lt.1 q) with r | r
        ·exact r
        ·exact absurd r.symm e)
       clear q e
       go_wp2_with fail
       obtain⟨wz,hwz⟩:=nm wi
       rw [hwz]
       have BZ:Hid (Below w.heap.size w wz):=hid (by rw [← hwz];exact BI.out)
       have LZ:Hid (GL wz (some ad) ts):=hid (by rw [← hwz];exact LI.out)
       obtain⟨i0,hi0,hz0,hz1,hz2⟩:=info_parts Tryz.infoStr9
       refine wp_region_held_drew (S:=fun _=>True) (by kernel_rfl) trivial (fun S0=>?_)
       refine av 0 S0 ?_
       refine av 1 S0 ?_
       refine av 2 S0 ?_
       refine av 3 S0 ?_
       refine av 4 S0 ?_
       refine av 6 S0 ?_
       refine av 7 S0 ?_
       refine av 8 S0 ?_
       refine fw 5 fun K hK=>?_
       go_simp
       have S1:=trivial
       refine hK _ _ S1 ?_
       clear hK K S0
       have S0:=S1
       clear S1
       try simp only [Act.put,pS]
       obtain⟨u5,iw⟩:=nm ((wz.alloc (.cells #[.string (str x)] 9)).drew)
       rw [iw]
       have lC:u5.ownsRow wz.heap.size 9 1 (.slice (some ⟨wz.heap.size,0,none⟩) 1 1) 1 [encS x]:=by
        have o5:=gX (w:=wz) (e:=9) (xs:=[encS x]) rfl (rfl:[encS x].length=1)
        rw [← iw]
        exact o5
       have B5:Below wz.heap.size wz u5:=by rw [← iw];exact ((Below.refl wz.heap.size wz).alloc (Nat.le_refl _) _).drew
       have L5:au u5 u5.heap.size 0 (if c=i then some ad else (some ad).map (·.add i)) (aC (ts.drop i)):=by
        rw [← qD]
        exact (au.stay LZ.out B5).cut i c (by rw [dE,← TN.out];exact TC.out)
       have di:(aC (ts.drop i)).length=(n - i) * 1:=by rw [dE,List.length_drop,← TN.out];omega
       have dn:∀ v∈(aC (ts.drop i)),v.oneCell'=true:=eX _
       have mF:∀ q,(Value.slice (some ⟨wz.heap.size,0,none⟩) 1 1).ownBlock=some q→wz.heap.size≤q:=fun q e=>by injection e with e;rw [← e];exact Nat.le_refl _
       have KQ:∀ v∈[encS x],v.oneCell'=true:=by intro v hv;simp at hv;subst hv;rfl
       refine fw 9 fun K hK=>?_
       refine eT rfl _ _ 62 rfl wz.heap.size 9 i0 _ 1 16 underlying62 hi0 hz0 hz1 hz2 rfl (by decide) _ 1 [encS x] rfl lC u5.heap.size _ (n - i) (c - i) (aC (ts.drop i)) 0 rfl di L5 dn (by unfold maxLen;omega) (by omega) B5.size ?_
       intro v6 w6 hown6 aX fA
       obtain⟨A6,k6,rfl⟩:=aD hown6
       obtain⟨a6,tC,_,hc6⟩:=(aH (B:=0) hown6) (by simp)
       subst tC
       have B6:Below wz.heap.size wz w6:=B5.grown aX B5.size mF
       have S1:=trivial
       refine hK _ _ S1 ?_
       clear aX fA L5 di dn mF B5 lC
       clear hK K S0
       have S0:=S1
       clear S1
       try simp only [Act.put,pS]
       have L6:au w6 w6.heap.size 0 (some ad) (aC (ts.take i)):=by
        rw [← qE]
        exact (au.stay LZ.out B6).take _
       have dm:(aC (ts.take i)).length=i * 1:=by rw [dE,List.length_take,← TN.out,Nat.min_eq_left (by omega)];omega
       refine fw 10 fun K hK=>?_
       refine fF rfl _ _ 62 rfl wz.heap.size 9 i0 _ 1 16 underlying62 hi0 hz0 hz1 hz2 rfl w6.heap.size 0 (some ad) i (aC (ts.take i)) rfl dm L6 (by intro z;first | rfl | cases z) a6 (1+(n - i)) k6 ([encS x]++(aC (ts.drop i))) rfl hown6.1 hc6 (fC KQ (eX _)) (by omega) (by unfold maxLen;omega) (by omega) B6.size ?_
       intro v7 w7 bR bQ hblk7
       obtain⟨A7,k7,rfl⟩:=aD bR
       have B7:Below wz.heap.size wz w7:=B6.grown bQ B6.size (fun q e=>by cases e)
       have S1:=trivial
       refine hK _ _ S1 ?_
       clear bQ L6 dm
       clear hK K S0
       have S0:=S1
       clear S1
       try simp only [Act.put,pS]
       refine av 11 S0 ?_
       refine wpAnyH_done (by kernel_rfl) ?_ _
       clear S0
       have mE:=hid bR
       have pu:=hid B7
       have sZ:=hid hblk7
       clear bR B7 hblk7 hown6 hc6 B6
       generalize (if c=i then some ad else some (ad.add i))=A8
       go_wp2
       go_roundw
       case rel =>
        have iJ:(ts.take i++x :: ts.drop i).length=i+(1+(n - i)):=by rw [List.length_append,List.length_cons,List.length_take,List.length_drop,← TN.out,Nat.min_eq_left (by omega)];omega
        have CELLS:aC (ts.take i++x :: ts.drop i)=(aC (ts.take i))++([encS x]++(aC (ts.drop i))):=by simp [aC]
        have EC:Sr.canon T9.dN (xs.take (k+1))=(ts.take i++x :: ts.drop i):=by rw [bH X.out,Sr.gD,← TE.out];exact IN.out
        refine⟨k+1,A7,_,k7,rfl,by go_num,by omega,(by rw [EC,iJ]),(aO mE.out).2,(fun z=>by subst z;cases sZ.out),?_,BZ.out.trans (pu.out.mono BZ.out.size)⟩
        rw [EC]
        show au w7 0 9 A7 (aC (ts.take i++x :: ts.drop i))
        rw [CELLS]
        exact aH (B:=0) mE.out
       case measure=>simp [intOf];omega
    ·obtain rfl:i=n:=by omega
     have uP:¬ ((i:Int)<(i:Int)):=by omega
     have IN:Hid (Sr.ins T9.dN x ts=ts.take i++x :: ts.drop i):=hid (Sr.gV HI.out fun z hz=>by
      have:=(List.getElem?_eq_some_iff.1 hz).1
      have:=TN.out
      omega)
     cases A with
     | none =>
      obtain rfl:c=0:=TZ.out rfl
      obtain rfl:i=0:=by omega
      obtain rfl:ts=[]:=List.eq_nil_of_length_eq_zero TN.out.symm
      go_wp2_with fail
      obtain⟨wz,hwz⟩:=nm wi
      rw [hwz]
      have BZ:Hid (Below w.heap.size w wz):=hid (by rw [← hwz];exact BI.out)
      have LZ:Hid (GL wz none ([]:List (List UInt8))):=hid (by rw [← hwz];exact LI.out)
      obtain⟨i0,hi0,hz0,hz1,hz2⟩:=info_parts Tryz.infoStr9
      refine wp_region_held_drew (S:=fun _=>True) (by kernel_rfl) trivial (fun S0=>?_)
      refine av 0 S0 ?_
      refine av 1 S0 ?_
      refine av 2 S0 ?_
      refine av 3 S0 ?_
      refine av 4 S0 ?_
      refine av 6 S0 ?_
      refine av 7 S0 ?_
      refine av 8 S0 ?_
      refine fw 5 fun K hK=>?_
      go_simp
      have S1:=trivial
      refine hK _ _ S1 ?_
      clear hK K S0
      have S0:=S1
      clear S1
      try simp only [Act.put,pS]
      obtain⟨u5,iw⟩:=nm ((wz.alloc (.cells #[.string (str x)] 9)).drew)
      rw [iw]
      have lC:u5.ownsRow wz.heap.size 9 1 (.slice (some ⟨wz.heap.size,0,none⟩) 1 1) 1 [encS x]:=by
       have o5:=gX (w:=wz) (e:=9) (xs:=[encS x]) rfl (rfl:[encS x].length=1)
       rw [← iw]
       exact o5
      have B5:Below wz.heap.size wz u5:=by rw [← iw];exact ((Below.refl wz.heap.size wz).alloc (Nat.le_refl _) _).drew
      have L5:au u5 u5.heap.size 0 none ([]:List Value):=au.nil
      have di:([]:List Value).length=0 * 1:=by rfl
      have dn:∀ v∈([]:List Value),v.oneCell'=true:=by simp
      have mF:∀ q,(Value.slice (some ⟨wz.heap.size,0,none⟩) 1 1).ownBlock=some q→wz.heap.size≤q:=fun q e=>by injection e with e;rw [← e];exact Nat.le_refl _
      have KQ:∀ v∈[encS x],v.oneCell'=true:=by intro v hv;simp at hv;subst hv;rfl
      refine fw 9 fun K hK=>?_
      refine eT rfl _ _ 62 rfl wz.heap.size 9 i0 _ 1 16 underlying62 hi0 hz0 hz1 hz2 rfl (by decide) _ 1 [encS x] rfl lC u5.heap.size _ 0 0 ([]:List Value) 0 rfl di L5 dn (by unfold maxLen;omega) (by omega) B5.size ?_
      intro v6 w6 hown6 aX fA
      obtain⟨A6,k6,rfl⟩:=aD hown6
      obtain⟨a6,tC,_,hc6⟩:=(aH (B:=0) hown6) (by simp)
      subst tC
      have B6:Below wz.heap.size wz w6:=B5.grown aX B5.size mF
      have S1:=trivial
      refine hK _ _ S1 ?_
      clear aX fA L5 di dn mF B5 lC
      clear hK K S0
      have S0:=S1
      clear S1
      try simp only [Act.put,pS]
      have L6:au w6 w6.heap.size 0 none ([]:List Value):=au.nil
      have dm:([]:List Value).length=0 * 1:=by rfl
      refine fw 10 fun K hK=>?_
      refine fF rfl _ _ 62 rfl wz.heap.size 9 i0 _ 1 16 underlying62 hi0 hz0 hz1 hz2 rfl w6.heap.size 0 none 0 ([]:List Value) rfl dm L6 (by intro z;first | rfl | cases z) a6 (1+0) k6 ([encS x]++([]:List Value)) rfl hown6.1 hc6 (fC KQ (by simp)) (by omega) (by unfold maxLen;omega) (by omega) B6.size ?_
      intro v7 w7 bR bQ hblk7
      obtain⟨A7,k7,rfl⟩:=aD bR
      have B7:Below wz.heap.size wz w7:=B6.grown bQ B6.size (fun q e=>by cases e)
      have S1:=trivial
      refine hK _ _ S1 ?_
      clear bQ L6 dm
      clear hK K S0
      have S0:=S1
      clear S1
      try simp only [Act.put,pS]
      refine av 11 S0 ?_
      refine wpAnyH_done (by kernel_rfl) ?_ _
      clear S0
      have mE:=hid bR
      have pu:=hid B7
      have sZ:=hid hblk7
      clear bR B7 hblk7 hown6 hc6 B6
      go_wp2
      go_roundw
      case rel =>
       have iJ:(List.take 0 []++x :: List.drop 0 []).length=0+(1+0):=by rfl
       have CELLS:aC (List.take 0 []++x :: List.drop 0 [])=([]:List Value)++([encS x]++([]:List Value)):=by simp [aC]
       have EC:Sr.canon T9.dN (xs.take (k+1))=(List.take 0 []++x :: List.drop 0 []):=by rw [bH X.out,Sr.gD,← TE.out];exact IN.out
       refine⟨k+1,A7,_,k7,rfl,by go_num,by omega,(by rw [EC,iJ]),(aO mE.out).2,(fun z=>by subst z;cases sZ.out),?_,BZ.out.trans (pu.out.mono BZ.out.size)⟩
       rw [EC]
       show au w7 0 9 A7 (aC (List.take 0 []++x :: List.drop 0 []))
       rw [CELLS]
       exact aH (B:=0) mE.out
      case measure=>simp [intOf];omega
     | some ad =>
      have k0:(0:Int)≤(i:Int):=by omega
      have kci:(i:Int)≤(c:Int):=by omega
      have kk:i≤i:=Nat.le_refl _
      go_wp2_with fail
      obtain⟨wz,hwz⟩:=nm wi
      rw [hwz]
      have BZ:Hid (Below w.heap.size w wz):=hid (by rw [← hwz];exact BI.out)
      have LZ:Hid (GL wz (some ad) ts):=hid (by rw [← hwz];exact LI.out)
      obtain⟨i0,hi0,hz0,hz1,hz2⟩:=info_parts Tryz.infoStr9
      refine wp_region_held_drew (S:=fun _=>True) (by kernel_rfl) trivial (fun S0=>?_)
      refine av 0 S0 ?_
      refine av 1 S0 ?_
      refine av 2 S0 ?_
      refine av 3 S0 ?_
      refine av 4 S0 ?_
      refine av 6 S0 ?_
      refine av 7 S0 ?_
      refine av 8 S0 ?_
      refine fw 5 fun K hK=>?_
      go_simp
      have S1:=trivial
      refine hK _ _ S1 ?_
      clear hK K S0
      have S0:=S1
      clear S1
      try simp only [Act.put,pS]
      obtain⟨u5,iw⟩:=nm ((wz.alloc (.cells #[.string (str x)] 9)).drew)
      rw [iw]
      have lC:u5.ownsRow wz.heap.size 9 1 (.slice (some ⟨wz.heap.size,0,none⟩) 1 1) 1 [encS x]:=by
       have o5:=gX (w:=wz) (e:=9) (xs:=[encS x]) rfl (rfl:[encS x].length=1)
       rw [← iw]
       exact o5
      have B5:Below wz.heap.size wz u5:=by rw [← iw];exact ((Below.refl wz.heap.size wz).alloc (Nat.le_refl _) _).drew
      have L5:au u5 u5.heap.size 0 (if c=i then some ad else (some ad).map (·.add i)) (aC (ts.drop i)):=by
       rw [← qD]
       exact (au.stay LZ.out B5).cut i c (by rw [dE,← TN.out];exact TC.out)
      have di:(aC (ts.drop i)).length=0 * 1:=by rw [dE,List.length_drop,← TN.out];omega
      have dn:∀ v∈(aC (ts.drop i)),v.oneCell'=true:=eX _
      have mF:∀ q,(Value.slice (some ⟨wz.heap.size,0,none⟩) 1 1).ownBlock=some q→wz.heap.size≤q:=fun q e=>by injection e with e;rw [← e];exact Nat.le_refl _
      have KQ:∀ v∈[encS x],v.oneCell'=true:=by intro v hv;simp at hv;subst hv;rfl
      refine fw 9 fun K hK=>?_
      refine eT rfl _ _ 62 rfl wz.heap.size 9 i0 _ 1 16 underlying62 hi0 hz0 hz1 hz2 rfl (by decide) _ 1 [encS x] rfl lC u5.heap.size _ 0 (c - i) (aC (ts.drop i)) 0 rfl di L5 dn (by unfold maxLen;omega) (by omega) B5.size ?_
      intro v6 w6 hown6 aX fA
      obtain⟨A6,k6,rfl⟩:=aD hown6
      obtain⟨a6,tC,_,hc6⟩:=(aH (B:=0) hown6) (by simp)
      subst tC
      have B6:Below wz.heap.size wz w6:=B5.grown aX B5.size mF
      have S1:=trivial
      refine hK _ _ S1 ?_
      clear aX fA L5 di dn mF B5 lC
      clear hK K S0
      have S0:=S1
      clear S1
      try simp only [Act.put,pS]
      have L6:au w6 w6.heap.size 0 (some ad) (aC (ts.take i)):=by
       rw [← qE]
       exact (au.stay LZ.out B6).take _
      have dm:(aC (ts.take i)).length=i * 1:=by rw [dE,List.length_take,← TN.out,Nat.min_eq_left (by omega)];omega
      refine fw 10 fun K hK=>?_
      refine fF rfl _ _ 62 rfl wz.heap.size 9 i0 _ 1 16 underlying62 hi0 hz0 hz1 hz2 rfl w6.heap.size 0 (some ad) i (aC (ts.take i)) rfl dm L6 (by intro z;first | rfl | cases z) a6 (1+0) k6 ([encS x]++(aC (ts.drop i))) rfl hown6.1 hc6 (fC KQ (eX _)) (by omega) (by unfold maxLen;omega) (by omega) B6.size ?_
      intro v7 w7 bR bQ hblk7
      obtain⟨A7,k7,rfl⟩:=aD bR
      have B7:Below wz.heap.size wz w7:=B6.grown bQ B6.size (fun q e=>by cases e)
      have S1:=trivial
      refine hK _ _ S1 ?_
      clear bQ L6 dm
      clear hK K S0
      have S0:=S1
      clear S1
      try simp only [Act.put,pS]
      refine av 11 S0 ?_
      refine wpAnyH_done (by kernel_rfl) ?_ _
      clear S0
      have mE:=hid bR
      have pu:=hid B7
      have sZ:=hid hblk7
      clear bR B7 hblk7 hown6 hc6 B6
      generalize (if c=i then some ad else some (ad.add i))=A8
      go_wp2
      go_roundw
      case rel =>
       have iJ:(ts.take i++x :: ts.drop i).length=i+(1+0):=by rw [List.length_append,List.length_cons,List.length_take,List.length_drop,← TN.out,Nat.min_eq_left (by omega)];omega
       have CELLS:aC (ts.take i++x :: ts.drop i)=(aC (ts.take i))++([encS x]++(aC (ts.drop i))):=by simp [aC]
       have EC:Sr.canon T9.dN (xs.take (k+1))=(ts.take i++x :: ts.drop i):=by rw [bH X.out,Sr.gD,← TE.out];exact IN.out
       refine⟨k+1,A7,_,k7,rfl,by go_num,by omega,(by rw [EC,iJ]),(aO mE.out).2,(fun z=>by subst z;cases sZ.out),?_,BZ.out.trans (pu.out.mono BZ.out.size)⟩
       rw [EC]
       show au w7 0 9 A7 (aC (ts.take i++x :: ts.drop i))
       rw [CELLS]
       exact aH (B:=0) mE.out
      case measure=>simp [intOf];omega
  ·obtain rfl:k=n0:=by omega
   have hltz:¬ ((k:Int)<(k:Int)):=by omega
   have ET:ts=Sr.canon T9.dN xs:=by rw [TE.out,HN.out,List.take_length]
   have ET2:=hid ET
   clear ET
   go_wp2
   go_ret
   exact⟨A,c,(by rw [← ET2.out,← TN.out];rfl),(by rw [← ET2.out];exact LO.out),(by rw [← ET2.out,← TN.out];exact TC.out),TZ.out,BO.out⟩
end
section
open Go.RowKit Go.Lib
section
variable {P : Program} {ops : Array Oper} {Q : Exit → Act → World → Prop} {md : Region.Mode} {S : World → Prop} {bad : Nat → Bool}
def gN (P:Program) (md:Region.Mode) (ops:Array Oper) (Q:Exit→Act→World→Prop) (S:World→Prop) (bad:Nat→Bool):Nat→Array Bool→Act→World→Prop
 | 0,ls,a,w=>Region.ready md ops ls=[]∧Q .normal a w
 | f+1,ls,a,w=>(Region.ready md ops ls=[]→Q .normal a w)∧∀ j∈Region.ready md ops ls,wpOp P ops Q j (fun b u=>(bad j=false→S u)∧gN P md ops Q S bad f (ls.setIfInBounds j true) b u) a w
theorem gN.plain:∀ {f:Nat} {ls:Array Bool} {a:Act} {w:World},gN P md ops Q S bad f ls a w→wpAny P md ops Q f ls a w
 | 0,_,_,_,h=>h
 | _+1,_,_,_,h=>⟨h.1,fun j hj=>wpOp_mono (fun _ _ q=>q.2.plain) (h.2 j hj)⟩
theorem gN.first {i:Nat} {oi:Oper} {v:Value} (hi:ops[i]?=some oi) (hsel:Region.noSelect ops=true) (hQ:∀ c a w,Q (.panic c) (a.put oi.dst v) w→Q (.panic c) a w)
  (hw:∀ j os,bad j=true→ops[j]?=some os→∃ e∈os.after,Region.binds md e=true∧e.on=i) (f:Nat) (ls:Array Bool) (a:Act) (w:World)
  (hfree:∀ j oj,ops[j]?=some oj→j≠i→ls.getD j true=false→(∀ e∈oj.after,Region.binds md e=true→e.on≠i)→oi.apart ops oj=true)
  (hr:i∈Region.ready md ops ls) (hy:YieldsIf P ops S oi v a) (hS:S w) (H:gN P md ops Q S bad f (ls.setIfInBounds i true) (a.put oi.dst v) w):gN P md ops Q S bad (f+1) ls a w:=by
 have kZ:=Region.noSelect_spec hsel
 induction f generalizing ls a w with
 | zero =>
  refine⟨fun e=>absurd hr (by rw [e];simp),fun j hj=>?_⟩
  rcases Nat.decEq j i with q | q
  ·exact absurd (ready_mono hj q) (by rw [H.1];simp)
  ·subst q
   exact hy.wpOp hi hS ⟨fun _=>hS,H⟩
 | succ f ih =>
  refine⟨fun e=>absurd hr (by rw [e];simp),fun j hj=>?_⟩
  rcases Nat.decEq j i with q | q
  ·obtain⟨un,oj,hoj,_⟩:=mem_ready.1 hj
   have now:bad j=false:=by
    cases hb:bad j with
    | false=>rfl
    | true =>
     obtain⟨e,he,hb,hon⟩:=hw j oj hb hoj
     exact absurd hon (waits hr hj hoj e he hb)
   have stays:∀ k ok,ops[k]?=some ok→k≠i→(ls.setIfInBounds j true).getD k true=false→(∀ e∈ok.after,Region.binds md e=true→e.on≠i)→oi.apart ops ok=true:=by
    intro k ok hk hki hun hno
    refine hfree k ok hk hki ?_ hno
    rcases Nat.decEq j k with r | r
    ·rwa [getD_set_ne true r] at hun
    ·rw [← r];exact un
   have next:=wpOp_putIf hoj (hfree j oj hoj q un (waits hr hj hoj)) (fun cs b=>kZ i oi cs b hi) (fun cs b=>kZ j oj cs b hoj) hQ hy (H.2 j (ready_mono hj q))
   refine wpOp_mono (fun b u g=>⟨g.2.1,ih _ b u stays (ready_mono hr (Ne.symm q)) g.1 (g.2.1 now) ?_⟩) next
   rw [Array.setIfInBounds_comm _ _ q]
   exact g.2.2
  ·subst q
   exact hy.wpOp hi hS ⟨fun _=>hS,H⟩
theorem gN.take {i:Nat} {oi:Oper} {v:Value} {f:Nat} {ls:Array Bool} {a:Act} {w:World} (hi:ops[i]?=some oi) (hsel:Region.noSelect ops=true) (hf:Region.free md ops ls i=true) (hr:(Region.ready md ops ls).contains i=true)
  (hb:∀ j,bad j=true→j<ops.size→j∈List.range ops.size) (hw:((List.range ops.size).all fun j=>!bad j || (match ops[j]? with | some o=>o.after.any fun e=>Region.binds md e && e.on==i | none=>true))=true) (hQ:∀ c a w,Q (.panic c) (a.put oi.dst v) w→Q (.panic c) a w) (hy:YieldsIf P ops S oi v a) (hS:S w)
  (H:gN P md ops Q S bad f (ls.setIfInBounds i true) (a.put oi.dst v) w):gN P md ops Q S bad (f+1) ls a w:=by
 refine gN.first hi hsel hQ (fun j os hj ho=>?_) f ls a w (Region.free_spec hi hf) (by simpa using hr) hy hS H
 have hlt:j<ops.size:=by
  rcases Nat.lt_or_ge j ops.size with q | q
  ·exact q
  ·rw [Array.getElem?_eq_none q] at ho;cases ho
 have q:=List.all_eq_true.1 hw j (hb j hj hlt)
 rw [hj,ho] at q
 simp only [Bool.not_true,Bool.false_or] at q
 obtain⟨e,he,hb⟩:=Array.any_eq_true'.1 q
 simp only [Bool.and_eq_true,beq_iff_eq] at hb
 exact⟨e,he,hb.1,hb.2⟩
theorem gN.one {i:Nat} {oi:Oper} {f:Nat} {ls:Array Bool} {a:Act} {w:World} (hr:Region.ready md ops ls=[i]) (hi:ops[i]?=some oi)
  (h:∀ K:Act→World→Prop,(∀ b u,(bad i=false→S u)→gN P md ops Q S bad f (ls.setIfInBounds i true) b u→K b u)→if Region.wanted oi (yielded ops a.tmps)=true then Oper.wp P oi a w K Q else K (a.put oi.dst undef) w):gN P md ops Q S bad (f+1) ls a w:=by
 refine⟨fun e=>absurd e (by rw [hr];simp),fun j hj=>?_⟩
 rw [hr,List.mem_singleton] at hj
 subst hj
 exact wpOp_step hi (fun K hK=>h K (fun b u q1 q2=>hK b u ⟨q1,q2⟩))
theorem gN.done {ls:Array Bool} {a:Act} {w:World} {f:Nat} (hr:Region.ready md ops ls=[]) (h:Q .normal a w):gN P md ops Q S bad f ls a w:=by
 cases f with
 | zero=>exact⟨hr,h⟩
 | succ f=>exact⟨fun _=>h,fun j hj=>by rw [hr] at hj;cases hj⟩
theorem gN.begin {id:Nat} {a:Act} {w:World} (hm:P.follows .mixedOrders=true) (h:gN P .any ops Q S bad ops.size (Array.replicate ops.size false) a w.drew):(Code.region id ops true).wp P Q a w :=
 wp_region_any hm h.plain
end
theorem jD (x:aN) (o:List aN):ay (Sr.ins iI x o)=Sr.ins T9.jg x.t (ay o):=by
 induction o with
 | nil=>rfl
 | cons y o ih =>
  show ay (if iI y x=true then y :: Sr.ins iI x o else if iI x y=true then x :: y :: o else y :: o)=if T9.jg y.t x.t=true then y.t :: Sr.ins T9.jg x.t (ay o) else if T9.jg x.t y.t=true then x.t :: y.t :: ay o else y.t :: ay o
  show _=if iI y x=true then y.t :: Sr.ins T9.jg x.t (ay o) else if iI x y=true then x.t :: y.t :: ay o else y.t :: ay o
  split
  ·rw [← ih];rfl
  ·split <;> rfl
theorem aG {w:World} {g:Nat} {i:Nat} {u:Value} {t t0:TypeId} {A:Option Addr} {xs:List Value} (h:au w 0 t A xs) (hg:Ty w g t0) (ht:t≠t0):au (w.setCell ⟨g,i,none⟩ u) 0 t A xs :=
 h.bE ((aM.refl 0 [t0] w).aB (p:=⟨g,i,none⟩) hg (by simp) (Nat.zero_le _) u) (by simpa using ht)
def I6 (s:T9.St) (w:World) (e:Ending) (w':World):Prop:=∃ m:aQ,e=.returned m.val∧m.st=s∧au w' 0 61 m.A (aL m.ls)∧au w' 0 64 m.A2 (ai m.ms)∧(∀ q∈m.ms,q.bS w')∧m.ls.length≤m.c∧m.ms.length≤m.c2∧(m.A=none→m.c=0)∧(m.A2=none→m.c2=0)∧Below w.heap.size w w'
theorem rP {ls:List T9.Li} {A1:Option Addr} {c1 n1:Nat} {ms:List aN} {A2:Option Addr} {c2 n2:Nat} {w:World} (hl:LL w A1 ls) (hk:KL w A2 ms) (en1:n1=ls.length) (en2:n2=ms.length) (h1:n1≤1000) (h2:n2≤1000) (h3:∀ t∈ms,t.t.tags.length≤1000) :
  Calls prog 42 #[.agg #[.slice A1 n1 c1,.slice A2 n2 c2]] w (I6 (T9.canon ⟨ls,ay ms⟩) w):=by
 have HL:=hid hl
 have HK:=hid hk
 have H3:=hid h3
 have N1:=hid en1
 have N2:=hid en2
 obtain⟨wx,hwx⟩:=nm (w.alloc (.cells #[.slice A1 n1 c1,.slice A2 n2 c2] 26))
 obtain⟨px,bx,zx⟩:=aj hwx
 obtain⟨wy,tF⟩:=nm (wx.alloc (.cells #[.slice none 0 0,.slice none 0 0] 26))
 obtain⟨py,bY,zy⟩:=aj tF
 obtain⟨wB,jf⟩:=nm (wy.alloc (.cells #[.slice none 0 0,.slice none 0 0] 26))
 obtain⟨pz,bz,zz⟩:=aj jf
 rw [zx] at py
 rw [zy,zx] at pz
 have BB:Hid (Below w.heap.size w wB):=hid ((bx.trans (bY.mono (by omega))).trans (bz.mono (by omega)))
 have PX:Hid (wB.heap[w.heap.size]?=some (.cells #[.slice A1 n1 c1,.slice A2 n2 c2] 26 (0,0))):=hid (ae (ae px bY) bz)
 have PY:Hid (wB.heap[w.heap.size+1]?=some (.cells #[.slice none 0 0,.slice none 0 0] 26 (0,0))):=hid (ae py bz)
 have PZ:Hid (wB.heap[w.heap.size+2]?=some (.cells #[.slice none 0 0,.slice none 0 0] 26 (0,0))):=hid pz
 have zxx:wx.heap.size=w.heap.size+1:=zx
 have zyy:wy.heap.size=w.heap.size+2:=by omega
 obtain⟨x0,x1⟩:=aa PX.out
 clear hl hk h3 en1 en2 px bx zx py bY zy pz bz zz
 go_enter func42,ntmps42
 go_wp2_with fail
 clear hwx tF jf zxx zyy
 go_loopw [11] (fun s11 wr=>∃ (k:Nat) (A:Option Addr) (n c:Nat),s11=.int .i64 k∧k≤n1∧n=(Sr.canon T9.iY (ls.take k)).length∧n≤c∧(A=none→c=0)∧Aside (au wr 0 61 A (aL (Sr.canon T9.iY (ls.take k)))∧wr.heap[w.heap.size+2]?=some (.cells #[.slice A n c,.slice none 0 0] 26 (0,0))∧wr.heap[w.heap.size]?=some (.cells #[.slice A1 n1 c1,.slice A2 n2 c2] 26 (0,0))∧wr.heap[w.heap.size+1]?=some (.cells #[.slice none 0 0,.slice none 0 0] 26 (0,0))∧Below w.heap.size w wr)) (fun s11 _=>n1 - (intOf s11).toNat)
 case atStart=>exact⟨0,none,0,0,rfl,Nat.zero_le _,rfl,Nat.le_refl _,fun _=>rfl,au.nil,PZ.out,PX.out,PY.out,BB.out⟩
 case round =>
  obtain⟨wo,hwo⟩:∃ u,u=wr:=⟨_,rfl⟩
  subst hwo
  obtain⟨k,A,n,c,rfl,hk,hn,hc,hz,hI⟩:=hrel
  have HI:=hid hI.out
  have TN:=hid hn
  have TC:=hid hc
  have TZ:=hid hz
  have nk:n≤1000:=by
   rw [hn]
   refine Nat.le_trans (Sr.dD _) ?_
   rw [List.length_take]
   omega
  clear hI hn hc hz
  by_cases hlt:k<n1
  ·have hltz:(k:Int)<(n1:Int):=by omega
   obtain⟨ad,l,hA,hx,r0,r1⟩:=(HL.out.stay HI.out.2.2.2.2).at_ (k:=k) (by rw [← N1.out];exact hlt)
   subst hA
   have X:=hid hx
   clear hx
   obtain⟨wq,hwq⟩:=nm (wo.alloc (.cells #[.int .u64 (l.id:Int),.string (str l.name)] 61))
   obtain⟨lb,bq,zq⟩:=aj hwq
   have gq:=ae HI.out.2.1 bq
   obtain⟨g0,g1⟩:=aa gq
   obtain⟨l0,l1⟩:=aa lb
   have BQ:=hid bq
   have WL:=hid (wH (x:=l) (bG HI.out.1 bq) TN.out TC.out TZ.out nk)
   clear lb bq zq gq
   go_wp2_with fail
   refine WL.out.mono ?_
   rintro e w3 ⟨A3,c3,rfl,hl3,hc3,hz3,hb3⟩
   obtain⟨n3,hn3⟩:∃ v,v=(Sr.ins T9.iY l (Sr.canon T9.iY (ls.take k))).length:=⟨_,rfl⟩
   rw [← hn3] at hc3 ⊢
   have ES:Hid (Sr.canon T9.iY (ls.take (k+1))=Sr.ins T9.iY l (Sr.canon T9.iY (ls.take k))):=hid (by rw [bH X.out,Sr.gD])
   have N3:=hid hn3
   have C3:=hid hc3
   have Z3:=hid hz3
   have L3:=hid hl3
   have BO3:=hid (BQ.out.trans (hb3.mono BQ.out.size))
   have G3:=hid (ae HI.out.2.1 BO3.out)
   have X3:=hid (ae HI.out.2.2.1 BO3.out)
   have Y3:=hid (ae HI.out.2.2.2.1 BO3.out)
   have B3:=hid (HI.out.2.2.2.2.trans (BO3.out.mono HI.out.2.2.2.2.size))
   have f3:=af G3.out 0
   clear hn3 hc3 hz3 hl3 hb3 g0 g1 l0 l1
   obtain⟨g0,g1⟩:=aa G3.out
   obtain⟨w4,hw4⟩:=nm (w3.setCell ⟨w.heap.size+2,0,none⟩ (.slice A3 n3 c3))
   have L4:Hid (au w4 0 61 A3 (aL (Sr.canon T9.iY (ls.take (k+1))))):=hid (by rw [← hw4,ES.out];exact aG L3.out ⟨_,_,G3.out⟩ (by decide))
   have G4:Hid (w4.heap[w.heap.size+2]?=some (.cells #[.slice A3 n3 c3,.slice none 0 0] 26 (0,0))):=hid (by rw [← hw4];exact (ah G3.out 0 (.slice A3 n3 c3)).trans rfl)
   have X4:Hid (w4.heap[w.heap.size]?=some (.cells #[.slice (some ad) n1 c1,.slice A2 n2 c2] 26 (0,0))):=hid (by rw [← hw4];exact az X3.out (p:=⟨w.heap.size+2,0,none⟩) (by show w.heap.size≠w.heap.size+2;omega) _)
   have Y4:Hid (w4.heap[w.heap.size+1]?=some (.cells #[.slice none 0 0,.slice none 0 0] 26 (0,0))):=hid (by rw [← hw4];exact az Y3.out (p:=⟨w.heap.size+2,0,none⟩) (by show w.heap.size+1≠w.heap.size+2;omega) _)
   have B4:Hid (Below w.heap.size w w4):=hid (by rw [← hw4];exact B3.out.setCell (by show w.heap.size≤w.heap.size+2;omega) _)
   go_wp2
   go_roundw
   case rel=>exact⟨k+1,A3,n3,c3,by go_num,by omega,(by rw [ES.out];exact N3.out),C3.out,Z3.out,L4.out,G4.out,X4.out,Y4.out,B4.out⟩
   case measure=>simp [intOf];omega
  ·obtain rfl:k=n1:=by omega
   have hltz:¬ ((k:Int)<(k:Int)):=by omega
   have EL:Hid (Sr.canon T9.iY (ls.take k)=Sr.canon T9.iY ls):=hid (by rw [N1.out,List.take_length])
   obtain⟨q0,q1⟩:=aa HI.out.2.2.1
   go_wp2_with fail
   go_loopw [24] (fun s24 wr=>∃ (i:Nat) (B:Option Addr) (m d:Nat) (O:List aN),s24=.int .i64 i∧i≤n2∧m=O.length∧m≤i∧m≤d∧(B=none→d=0)∧Aside (ay O=Sr.canon T9.jg ((ay (ms.take i)).map T9.norm)∧au wr 0 64 B (ai O)∧(∀ m∈O,m.bS wr)∧au wr 0 61 A (aL (Sr.canon T9.iY ls))∧wr.heap[w.heap.size+2]?=some (.cells #[.slice A n c,.slice B m d] 26 (0,0))∧wr.heap[w.heap.size+1]?=some (.cells #[.slice none 0 0,.slice none 0 0] 26 (0,0))∧Below w.heap.size w wr)) (fun s24 _=>n2 - (intOf s24).toNat)
   case atStart=>exact⟨0,none,0,0,[],rfl,Nat.zero_le _,rfl,Nat.le_refl _,Nat.le_refl _,fun _=>rfl,rfl,au.nil,by simp,by rw [← EL.out];exact HI.out.1,HI.out.2.1,HI.out.2.2.2.1,HI.out.2.2.2.2⟩
   case round =>
    obtain⟨wv,hwv⟩:∃ u,u=wr:=⟨_,rfl⟩
    subst hwv
    obtain⟨i,B,m,d,O,rfl,hi,hm,hmi,hmd,hB,hJ⟩:=hrel
    have HJ:=hid hJ.out
    have MN:=hid hm
    have MD:=hid hmd
    have MZ:=hid hB
    clear hJ hm hmd hB
    by_cases hlt2:i<n2
    ·have uP:(i:Int)<(n2:Int):=by omega
     obtain⟨ad2,⟨tk,A3,c3⟩,hA,hx,hf,r0,r1,r2,r3,r4,r5,r6⟩:=(HK.out.stay HJ.out.2.2.2.2.2.2).at_ (k:=i) (by rw [← N2.out];exact hlt2)
     subst hA
     have X:=hid hx
     have h1000:=H3.out _ (List.mem_of_getElem? hx)
     have FI:Hid ((⟨tk,A3,c3⟩:aN).fine wv):=hid hf
     clear hx hf
     dsimp only at h1000 r0 r1 r2 r3 r4 r5 r6
     obtain⟨wq,hwq⟩:=nm (wv.alloc (.cells #[.int .u64 (tk.id:Int),.int .u64 (tk.list:Int),.string (str tk.title),.bool tk.done,.float .f64 tk.rank,.float .f64 tk.est,.slice A3 tk.tags.length c3] 64))
     obtain⟨lb,bq,zq⟩:=bf hwq
     have LB:=hid lb
     have BQ:=hid bq
     have GT:Hid (GL wq.drew A3 tk.tags):=hid (FI.out.gl.stay bq.drew)
     have TX:=hid (F5 (c0:=c3) GT.out rfl h1000)
     have zv:wv.heap.size<wq.heap.size:=by omega
     clear lb bq zq
     go_wp2_with fail
     have S0:wq.drew.heap[wv.heap.size]?=some (.cells #[.int .u64 (tk.id:Int),.int .u64 (tk.list:Int),.string (str tk.title),.bool tk.done,.float .f64 tk.rank,.float .f64 tk.est,.slice A3 tk.tags.length c3] 64 (0,0)):=LB.out
     refine gN.begin (S:=fun u=>u.heap[wv.heap.size]?=some (.cells #[.int .u64 (tk.id:Int),.int .u64 (tk.list:Int),.string (str tk.title),.bool tk.done,.float .f64 tk.rank,.float .f64 tk.est,.slice A3 tk.tags.length c3] 64 (0,0))) (bad:=fun j=>decide (10≤j)) jq ?_
     refine gN.take (i:=0) (v:=?_) rfl (by kernel_rfl) (by kernel_rfl) (by kernel_rfl) (fun j _ hj=>List.mem_range.2 hj) (by kernel_rfl) (fun _ _ _ h=>h) (Or.inl ⟨by rfl,?_⟩) S0 ?_
     rotate_left
     ·intro u hu
      go_simp
      try rfl
     try simp only [Act.put,pS]
     refine gN.take (i:=1) (v:=?_) rfl (by kernel_rfl) (by kernel_rfl) (by kernel_rfl) (fun j _ hj=>List.mem_range.2 hj) (by kernel_rfl) (fun _ _ _ h=>h) (Or.inl ⟨by rfl,?_⟩) S0 ?_
     rotate_left
     ·intro u hu
      obtain⟨l0,l1,l2,l3,l4,l5,l6⟩:=ak (show u.heap[wv.heap.size]?=_ from hu)
      go_simp
      try rfl
     try simp only [Act.put,pS]
     refine gN.take (i:=3) (v:=?_) rfl (by kernel_rfl) (by kernel_rfl) (by kernel_rfl) (fun j _ hj=>List.mem_range.2 hj) (by kernel_rfl) (fun _ _ _ h=>h) (Or.inl ⟨by rfl,?_⟩) S0 ?_
     rotate_left
     ·intro u hu
      go_simp
      try rfl
     try simp only [Act.put,pS]
     refine gN.take (i:=4) (v:=?_) rfl (by kernel_rfl) (by kernel_rfl) (by kernel_rfl) (fun j _ hj=>List.mem_range.2 hj) (by kernel_rfl) (fun _ _ _ h=>h) (Or.inl ⟨by rfl,?_⟩) S0 ?_
     rotate_left
     ·intro u hu
      obtain⟨l0,l1,l2,l3,l4,l5,l6⟩:=ak (show u.heap[wv.heap.size]?=_ from hu)
      go_simp
      try rfl
     try simp only [Act.put,pS]
     refine gN.take (i:=6) (v:=?_) rfl (by kernel_rfl) (by kernel_rfl) (by kernel_rfl) (fun j _ hj=>List.mem_range.2 hj) (by kernel_rfl) (fun _ _ _ h=>h) (Or.inl ⟨by rfl,?_⟩) S0 ?_
     rotate_left
     ·intro u hu
      go_simp
      try rfl
     try simp only [Act.put,pS]
     refine gN.take (i:=7) (v:=?_) rfl (by kernel_rfl) (by kernel_rfl) (by kernel_rfl) (fun j _ hj=>List.mem_range.2 hj) (by kernel_rfl) (fun _ _ _ h=>h) (Or.inl ⟨by rfl,?_⟩) S0 ?_
     rotate_left
     ·intro u hu
      obtain⟨l0,l1,l2,l3,l4,l5,l6⟩:=ak (show u.heap[wv.heap.size]?=_ from hu)
      go_simp
      try rfl
     try simp only [Act.put,pS]
     refine gN.one (i:=2) (by kernel_rfl) rfl (fun K hK=>?_)
     go_simp
     refine (iO _ _).mono ?_
     rintro e w' ⟨rfl,rfl⟩
     refine hK _ _ (fun _=>S0) ?_
     clear hK K
     try simp only [Act.put,pS]
     refine gN.take (i:=9) (v:=?_) rfl (by kernel_rfl) (by kernel_rfl) (by kernel_rfl) (fun j _ hj=>List.mem_range.2 hj) (by kernel_rfl) (fun _ _ _ h=>h) (Or.inl ⟨by rfl,?_⟩) S0 ?_
     rotate_left
     ·intro u hu
      go_simp
      try rfl
     try simp only [Act.put,pS]
     refine gN.one (i:=5) (by kernel_rfl) rfl (fun K hK=>?_)
     go_simp
     refine (iO _ _).mono ?_
     rintro e w' ⟨rfl,rfl⟩
     refine hK _ _ (fun _=>S0) ?_
     clear hK K
     try simp only [Act.put,pS]
     refine gN.one (i:=8) (by kernel_rfl) rfl (fun K hK=>?_)
     go_simp
     refine TX.out.mono ?_
     rintro e wt ⟨A5,c5,rfl,hl5,IG,_,hb5⟩
     obtain⟨n5,hn5⟩:∃ v,v=(Sr.canon T9.dN tk.tags).length:=⟨_,rfl⟩
     rw [← hn5] at IG ⊢
     have N5:=hid hn5
     have C5:=hid IG
     have L5:=hid hl5
     have BT:Hid (Below wv.heap.size wv wt):=hid (BQ.out.drew.trans (hb5.mono (show wv.heap.size≤wq.drew.heap.size from Nat.le_of_lt zv)))
     have G5:Hid (wt.heap[wv.heap.size]?=some (.cells #[.int .u64 (tk.id:Int),.int .u64 (tk.list:Int),.string (str tk.title),.bool tk.done,.float .f64 tk.rank,.float .f64 tk.est,.slice A3 tk.tags.length c3] 64 (0,0))):=hid (ae (w:=wq.drew) S0 hb5)
     refine hK _ _ (fun _=>G5.out) ?_
     clear hK K S0 hn5 IG hl5 hb5
     try simp only [Act.put,pS]
     obtain⟨y0,y1,y2,y3,y4,y5,y6⟩:=ak G5.out
     have fz:=af G5.out 4
     refine gN.one (i:=10) (by kernel_rfl) rfl (fun K hK=>?_)
     go_simp
     obtain⟨u1x,Kb⟩:=nm (wt.setCell ⟨wv.heap.size,4,none⟩ (.float .f64 (Fl.canon tk.rank)))
     rw [Kb]
     have Gu1x:Hid (u1x.heap[wv.heap.size]?=some (.cells #[.int .u64 (tk.id:Int),.int .u64 (tk.list:Int),.string (str tk.title),.bool tk.done,.float .f64 (Fl.canon tk.rank),.float .f64 tk.est,.slice A3 tk.tags.length c3] 64 (0,0))):=hid (by rw [← Kb];exact (ah G5.out 4 (.float .f64 (Fl.canon tk.rank))).trans rfl)
     have Lu1x:Hid (au u1x 0 9 A5 (aC (Sr.canon T9.dN tk.tags))):=hid (by rw [← Kb];exact aG L5.out ⟨_,_,G5.out⟩ (by decide))
     have Bu1x:Hid (Below wv.heap.size wv u1x):=hid (by rw [← Kb];exact BT.out.setCell (by show wv.heap.size≤wv.heap.size;omega) _)
     refine hK _ _ (fun e=>absurd e (by decide)) ?_
     clear hK K y0 y1 y2 y3 y4 y5 y6 fz Kb
     try simp only [Act.put,pS]
     refine gN.one (i:=11) (by kernel_rfl) rfl (fun K hK=>?_)
     go_simp
     refine hK _ _ (fun e=>absurd e (by decide)) ?_
     clear hK K
     try simp only [Act.put,pS]
     obtain⟨y0,y1,y2,y3,y4,y5,y6⟩:=ak Gu1x.out
     have fz:=af Gu1x.out 5
     refine gN.one (i:=12) (by kernel_rfl) rfl (fun K hK=>?_)
     go_simp
     obtain⟨u2x,Kc⟩:=nm (u1x.setCell ⟨wv.heap.size,5,none⟩ (.float .f64 (Fl.canon tk.est)))
     rw [Kc]
     have Gu2x:Hid (u2x.heap[wv.heap.size]?=some (.cells #[.int .u64 (tk.id:Int),.int .u64 (tk.list:Int),.string (str tk.title),.bool tk.done,.float .f64 (Fl.canon tk.rank),.float .f64 (Fl.canon tk.est),.slice A3 tk.tags.length c3] 64 (0,0))):=hid (by rw [← Kc];exact (ah Gu1x.out 5 (.float .f64 (Fl.canon tk.est))).trans rfl)
     have Lu2x:Hid (au u2x 0 9 A5 (aC (Sr.canon T9.dN tk.tags))):=hid (by rw [← Kc];exact aG Lu1x.out ⟨_,_,Gu1x.out⟩ (by decide))
     have Bu2x:Hid (Below wv.heap.size wv u2x):=hid (by rw [← Kc];exact Bu1x.out.setCell (by show wv.heap.size≤wv.heap.size;omega) _)
     refine hK _ _ (fun e=>absurd e (by decide)) ?_
     clear hK K y0 y1 y2 y3 y4 y5 y6 fz Kc
     try simp only [Act.put,pS]
     refine gN.one (i:=13) (by kernel_rfl) rfl (fun K hK=>?_)
     go_simp
     refine hK _ _ (fun e=>absurd e (by decide)) ?_
     clear hK K
     try simp only [Act.put,pS]
     obtain⟨y0,y1,y2,y3,y4,y5,y6⟩:=ak Gu2x.out
     have fz:=af Gu2x.out 6
     refine gN.one (i:=14) (by kernel_rfl) rfl (fun K hK=>?_)
     go_simp
     obtain⟨u3x,Ke⟩:=nm (u2x.setCell ⟨wv.heap.size,6,none⟩ (.slice A5 n5 c5))
     rw [Ke]
     have Gu3x:Hid (u3x.heap[wv.heap.size]?=some (.cells #[.int .u64 (tk.id:Int),.int .u64 (tk.list:Int),.string (str tk.title),.bool tk.done,.float .f64 (Fl.canon tk.rank),.float .f64 (Fl.canon tk.est),.slice A5 n5 c5] 64 (0,0))):=hid (by rw [← Ke];exact (ah Gu2x.out 6 (.slice A5 n5 c5)).trans rfl)
     have Lu3x:Hid (au u3x 0 9 A5 (aC (Sr.canon T9.dN tk.tags))):=hid (by rw [← Ke];exact aG Lu2x.out ⟨_,_,Gu2x.out⟩ (by decide))
     have IQ:Hid (Below wv.heap.size wv u3x):=hid (by rw [← Ke];exact Bu2x.out.setCell (by show wv.heap.size≤wv.heap.size;omega) _)
     refine hK _ _ (fun e=>absurd e (by decide)) ?_
     clear hK K y0 y1 y2 y3 y4 y5 y6 fz Ke
     try simp only [Act.put,pS]
     refine gN.done (by kernel_rfl) ?_
     clear TX GT zv
     obtain⟨y0,y1,y2,y3,y4,y5,y6⟩:=ak Gu3x.out
     have gs:=ae HJ.out.2.2.2.2.1 IQ.out
     obtain⟨g0,g1⟩:=aa gs
     have XF:Hid ((⟨T9.norm tk,A5,c5⟩:aN).bS u3x):=hid ⟨Lu3x.out,by show (Sr.canon T9.dN tk.tags).length≤c5;rw [← N5.out];exact C5.out⟩
     have WT:=hid (fo (x:=⟨T9.norm tk,A5,c5⟩) (bG HJ.out.2.1 IQ.out) (fun q hq=>(HJ.out.2.2.1 q hq).stay IQ.out) XF.out MN.out MD.out MZ.out (by omega))
     rw [show (T9.norm tk).tags.length=n5 from N5.out.symm] at WT
     clear gs
     go_wp2_with fail
     refine WT.out.mono ?_
     rintro e w7 ⟨B7,d7,rfl,hl7,ha7,hd7,hz7,Cv⟩
     obtain⟨m7,hm7⟩:∃ v,v=(Sr.ins iI ⟨T9.norm tk,A5,c5⟩ O).length:=⟨_,rfl⟩
     rw [← hm7] at hd7 ⊢
     have M7:=hid hm7
     have m7i:m7≤i+1:=by
      have:=MN.out
      have:=Sr.nZ (lt:=iI) (⟨T9.norm tk,A5,c5⟩:aN) O
      omega
     have D7:=hid hd7
     have Z7:=hid hz7
     have L7:=hid hl7
     have A7:=hid ha7
     have BO7:=hid (IQ.out.trans (Cv.mono IQ.out.size))
     have G7:=hid (ae HJ.out.2.2.2.2.1 BO7.out)
     have Y7:=hid (ae HJ.out.2.2.2.2.2.1 BO7.out)
     have B7':=hid (HJ.out.2.2.2.2.2.2.trans (BO7.out.mono HJ.out.2.2.2.2.2.2.size))
     have LL7:=hid (bG HJ.out.2.2.2.1 BO7.out)
     have f7:=af G7.out 1
     clear hm7 hd7 hz7 hl7 ha7 Cv g0 g1 y0 y1 y2 y3 y4 y5 y6
     obtain⟨g0,g1⟩:=aa G7.out
     obtain⟨w8,hw8⟩:=nm (w7.setCell ⟨w.heap.size+2,1,none⟩ (.slice B7 m7 d7))
     have TY8:Hid (Ty w7 (w.heap.size+2) 26):=hid ⟨_,_,G7.out⟩
     have L8:Hid (au w8 0 64 B7 (ai (Sr.ins iI ⟨T9.norm tk,A5,c5⟩ O))):=hid (by rw [← hw8];exact aG L7.out TY8.out (by decide))
     have A8:Hid (∀ q∈Sr.ins iI ⟨T9.norm tk,A5,c5⟩ O,q.bS w8):=hid (by rw [← hw8];exact fun q hq=>⟨aG (A7.out q hq).1 TY8.out (by decide),(A7.out q hq).2⟩)
     have LL8:Hid (au w8 0 61 A (aL (Sr.canon T9.iY ls))):=hid (by rw [← hw8];exact aG LL7.out TY8.out (by decide))
     have G8:Hid (w8.heap[w.heap.size+2]?=some (.cells #[.slice A n c,.slice B7 m7 d7] 26 (0,0))):=hid (by rw [← hw8];exact (ah G7.out 1 (.slice B7 m7 d7)).trans rfl)
     have Y8:Hid (w8.heap[w.heap.size+1]?=some (.cells #[.slice none 0 0,.slice none 0 0] 26 (0,0))):=hid (by rw [← hw8];exact az Y7.out (p:=⟨w.heap.size+2,1,none⟩) (by show w.heap.size+1≠w.heap.size+2;omega) _)
     have B8:Hid (Below w.heap.size w w8):=hid (by rw [← hw8];exact B7'.out.setCell (by show w.heap.size≤w.heap.size+2;omega) _)
     have E8:Hid (ay (Sr.ins iI ⟨T9.norm tk,A5,c5⟩ O)=Sr.canon T9.jg ((ay (ms.take (i+1))).map T9.norm)):=hid (by rw [jD,HJ.out.1,bH X.out,fG,List.map_append,List.map_singleton,Sr.gD])
     go_wp2
     go_roundw
     case rel=>exact⟨i+1,B7,m7,d7,Sr.ins iI ⟨T9.norm tk,A5,c5⟩ O,by go_num,by omega,M7.out,m7i,D7.out,Z7.out,E8.out,L8.out,A8.out,LL8.out,G8.out,Y8.out,B8.out⟩
     case measure=>simp [intOf];omega
    ·obtain rfl:i=n2:=by omega
     have uP:¬ ((i:Int)<(i:Int)):=by omega
     obtain⟨g0,g1⟩:=aa HJ.out.2.2.2.2.1
     obtain⟨d0,d1⟩:=aa HJ.out.2.2.2.2.2.1
     have jO:=af HJ.out.2.2.2.2.2.1 0
     have jB:=af HJ.out.2.2.2.2.2.1 1
     have RBF:Hid (((wv.setCell ⟨w.heap.size+1,0,none⟩ (.slice A n c)).setCell ⟨w.heap.size+1,1,none⟩ (.slice B m d)).heap[w.heap.size+1]?=some (.cells #[.slice A n c,.slice B m d] 26 (0,0))):=hid ((ah (ah HJ.out.2.2.2.2.2.1 0 (.slice A n c)) 1 (.slice B m d)).trans rfl)
     obtain⟨k0,k1⟩:=aa RBF.out
     have ET:Hid (ay O=(Sr.canon T9.jg (ay ms)).map T9.norm):=hid (by
      rw [HJ.out.1,N2.out,List.take_length]
      exact Sr.xx (fun _ _=>rfl) (ay ms))
     have TNL:Hid (n=(Sr.canon T9.iY ls).length):=hid (by rw [← EL.out];exact TN.out)
     go_wp2
     refine bodyPost_ret (v:=.agg #[.slice A n c,.slice B m d]) (by simp [results,results42,go_sem,k0,k1]) rfl ?_
     have yv:Ty wv (w.heap.size+1) 26:=⟨_,_,HJ.out.2.2.2.2.2.1⟩
     have TF:=((aM.refl 0 [26] wv).aB (p:=⟨w.heap.size+1,0,none⟩) yv (by simp) (Nat.zero_le _) (.slice A n c)).aB (p:=⟨w.heap.size+1,1,none⟩) (yv.set _ _) (by simp) (Nat.zero_le _) (.slice B m d)
     refine⟨⟨Sr.canon T9.iY ls,A,c,O,B,d⟩,?_,?_,?_,?_,?_,?_,?_,TZ.out,MZ.out,?_⟩
     ·show _=Ending.returned (Value.agg #[.slice A (Sr.canon T9.iY ls).length c,.slice B O.length d])
      rw [← TNL.out,← MN.out]
     ·show (⟨Sr.canon T9.iY ls,ay O⟩:T9.St)=_
      rw [ET.out];rfl
     ·exact HJ.out.2.2.2.1.bE TF (by decide)
     ·exact HJ.out.2.1.bE TF (by decide)
     ·exact fun q hq=>⟨(HJ.out.2.2.1 q hq).1.bE TF (by decide),(HJ.out.2.2.1 q hq).2⟩
     ·show (Sr.canon T9.iY ls).length≤c
      rw [← TNL.out];exact TC.out
     ·show O.length≤d
      rw [← MN.out];exact MD.out
     ·exact (HJ.out.2.2.2.2.2.2.setCell (by show w.heap.size≤w.heap.size+1;omega) _).setCell (by show w.heap.size≤w.heap.size+1;omega) _
end
end
section
open Go.Shelf Go.RowKit Go.Lib Go.Sort
theorem Ez {P Y1 Y2 Q:List Value} {y v:Value} {o:Nat} (ho:o=P.length+Y1.length):splice (P++(Y1++y :: Y2)++Q) o [v]=P++(Y1++v :: Y2)++Q:=by
 subst ho
 unfold splice
 have e:P++(Y1++y :: Y2)++Q=(P++Y1)++([y]++(Y2++Q)):=by simp
 have d:(P++(Y1++y :: Y2)++Q).drop (P.length+Y1.length+[v].length)=Y2++Q:=by
  rw [e,show P.length+Y1.length+[v].length=((P++Y1)++[y]).length by simp;omega,← List.append_assoc,List.drop_left]
 have t:(P++(Y1++y :: Y2)++Q).take (P.length+Y1.length)=P++Y1:=by
  rw [e,show P.length+Y1.length=(P++Y1).length by simp,List.take_left]
 rw [d,t]
 simp
theorem gK {ms:List aN} {i j:Nat} {m m':aN} {v:Value} (hm:ms[i]?=some m) (hj:j<7) (he:aA m'=(aA m).set j v):splice (ai ms) (i * 7+j) [v]=ai (ms.set i m'):=by
 have hi:i<ms.length:=by
  rcases Nat.lt_or_ge i ms.length with q | q
  ·exact q
  ·rw [List.getElem?_eq_none q] at hm;cases hm
 have e1:ms=ms.take i++m :: ms.drop (i+1):=by
  have q:=List.drop_eq_getElem_cons hi
  rw [List.getElem?_eq_getElem hi] at hm
  injection hm with hm
  rw [hm] at q
  rw [← q,List.take_append_drop]
 have e2:ms.set i m'=ms.take i++m' :: ms.drop (i+1):=by rw [List.set_eq_take_append_cons_drop,if_pos hi]
 have lp:(ai (ms.take i)).length=i * 7:=by rw [aP,List.length_take,Nat.min_eq_left (by omega)]
 have lj:j<(aA m).length:=by rw [aU];exact hj
 have c1:aA m=(aA m).take j++(aA m)[j] :: (aA m).drop (j+1):=by rw [← List.drop_eq_getElem_cons lj,List.take_append_drop]
 have c2:aA m'=(aA m).take j++v :: (aA m).drop (j+1):=by rw [he,List.set_eq_take_append_cons_drop,if_pos lj]
 have k1:ai ms=ai (ms.take i)++((aA m).take j++(aA m)[j] :: (aA m).drop (j+1))++ai (ms.drop (i+1)):=by
  rw [← c1]
  conv=>lhs;rw [e1]
  simp [ai]
 rw [k1,Ez (by rw [lp,List.length_take,Nat.min_eq_left (by omega)]),e2,← c2]
 simp [ai]
theorem Gn (ms:List aN):ay (Sr.canon iI ms)=Sr.canon T9.jg (ay ms):=(Sr.xx (lt:=iI) (lt':=T9.jg) (f:=fun m:aN=>m.t) (fun _ _=>rfl) ms).symm
def dZ (w:World) (B:Nat) (t:TypeId) (k:Nat) (A:Option Addr) (n c:Nat) (xs:List Value):Prop:=(n=0∧c=0)∨∃ g,A=some ⟨g,0,none⟩∧w.ownsRow B t k (.slice (some ⟨g,0,none⟩) n c) n xs
theorem dZ.bE {w w':World} {B B':Nat} {t:TypeId} {k n c:Nat} {A:Option Addr} {xs:List Value} {ts:List TypeId} (h:dZ w B t k A n c xs) (hT:aM B' ts w w') (ht:t ∉ ts):dZ w' B t k A n c xs:=by
 rcases h with q | ⟨g,e,q⟩
 ·exact .inl q
 ·exact .inr ⟨g,e,bX q hT ht⟩
theorem dZ.below {w w':World} {B:Nat} {t:TypeId} {k n c:Nat} {A:Option Addr} {xs:List Value} (h:dZ w B t k A n c xs) (hb:Below w.heap.size w w'):dZ w' B t k A n c xs:=h.bE (aM.of_below hb (Nat.le_refl _) []) (by simp)
theorem dZ.less {w:World} {B B':Nat} {t:TypeId} {k n c:Nat} {A:Option Addr} {xs:List Value} (h:dZ w B t k A n c xs) (hb:B'≤B):dZ w B' t k A n c xs:=by
 rcases h with q | ⟨g,e,q⟩
 ·exact .inl q
 ·exact .inr ⟨g,e,dA q hb⟩
theorem dZ.lies {w:World} {B:Nat} {t:TypeId} {k n c:Nat} {A:Option Addr} {xs:List Value} (h:dZ w B t k A n c xs) (hx:xs.length=n * k):au w 0 t A xs:=by
 rcases h with⟨q,_⟩ | ⟨g,e,q⟩
 ·rw [List.length_eq_zero_iff.1 (show xs.length=0 by rw [hx,q,Nat.zero_mul])];exact au.nil
 ·rw [e];exact aH q
def aN.blk (m:aN):Option Nat:=if m.c=0 then none else m.A.map (·.block)
def bI (w:World) (B:Nat) (ms:List aN):Prop:=(∀ m∈ms,dZ w B 9 1 m.A m.t.tags.length m.c (aC m.t.tags))∧ms.Pairwise fun a b=>∀ g,a.blk=some g→b.blk≠some g
theorem bI.nil {w:World} {B:Nat}:bI w B []:=⟨by simp,.nil⟩
theorem bI.bE {w w':World} {B B':Nat} {ms:List aN} {ts:List TypeId} (h:bI w B ms) (hT:aM B' ts w w') (ht:9 ∉ ts):bI w' B ms:=⟨fun m hm=>(h.1 m hm).bE hT ht,h.2⟩
theorem dZ.uw {w:World} {B:Nat} {m:aN} (h:dZ w B 9 1 m.A m.t.tags.length m.c (aC m.t.tags)) {g:Nat} (e:m.blk=some g):B≤g∧g<w.heap.size:=by
 unfold aN.blk at e
 rcases h with⟨_,q⟩ | ⟨g',e',q⟩
 ·rw [if_pos q] at e;cases e
 ·by_cases hc:m.c=0
  ·rw [if_pos hc] at e;cases e
  ·rw [if_neg hc,e'] at e
   injection e with e
   subst e
   exact q.lt g' rfl
theorem bI.snoc {w w':World} {B B':Nat} {ms:List aN} {m:aN} (h:bI w B ms) (hT:bI w' B ms) (hm:dZ w' B' 9 1 m.A m.t.tags.length m.c (aC m.t.tags)) (hB:w.heap.size≤B') (hB2:B≤B'):bI w' B (ms++[m]):=by
 refine⟨fun x hx=>?_,List.pairwise_append.2 ⟨hT.2,by simp,fun a ha b hb g e1 e2=>?_⟩⟩
 ·rcases List.mem_append.1 hx with q | q
  ·exact hT.1 x q
  ·simp only [List.mem_cons,List.not_mem_nil,or_false] at q
   subst q
   exact hm.less hB2
 ·simp only [List.mem_cons,List.not_mem_nil,or_false] at hb
  subst hb
  have a1:=((h.1 a ha).uw e1).2
  have a2:=(hm.uw e2).1
  omega
structure KC (w0:World) (g n c:Nat) (ks:List T9.Tk) (i:Nat) (ms:List aN) (w:World):Prop where
 own:w.ownsRow w0.heap.size 64 7 (.slice (some ⟨g,0,none⟩) n c) n (ai ms)
 fine:∀ m∈ms,au w w0.heap.size 9 m.A (aC m.t.tags)∧m.t.tags.length≤m.c
 few:∀ m∈ms.drop i,m.t.tags.length<20
 ay:ay ms=(ks.take i).map T9.norm++ks.drop i
 neu:bI w w0.heap.size (ms.take i)
theorem wE {w0 w w':World} {A:Option Addr} {xs:List Value} (h:au w w0.heap.size 9 A xs) (hT:aM w0.heap.size [64] w w'):au w' w0.heap.size 9 A xs:=h.bE hT (by decide)
def StRetO (s:T9.St) (w:World) (e:Ending) (w':World):Prop:=∃ m:aQ,e=.returned m.val∧SM m w'∧m.st=s∧Below w.heap.size w w' ∧
 (au w' 0 61 m.A (aL m.ls)∧(∀ x∈m.ms,au w' 0 9 x.A (aC x.t.tags))∧(m.ms=[]∨∃ g,m.A2=some ⟨g,0,none⟩∧w'.ownsRow w.heap.size 64 7 (.slice (some ⟨g,0,none⟩) m.ms.length m.c2) m.ms.length (ai m.ms))) ∧
 (dZ w' w.heap.size 61 2 m.A m.ls.length m.c (aL m.ls)∧dZ w' w.heap.size 64 7 m.A2 m.ms.length m.c2 (ai m.ms)∧bI w' w.heap.size m.ms)
theorem uy {ls:List T9.Li} {A:Option Addr} {c n1:Nat} {ms:List aN} {A2:Option Addr} {c2 n2:Nat} {w:World} (hl:LL w A ls) (hk:KL w A2 ms) (en1:n1=ls.length) (en2:n2=ms.length) (h1:n1≤1000000) (h2:n2≤1000000) (h3:∀ t∈ms,t.t.tags.length<20) :
  Calls prog 64 #[.agg #[.slice A n1 c,.slice A2 n2 c2]] w (StRetO (T9.canon ⟨ls,ay ms⟩) w):=by
 have HL:=hid hl
 have HK:=hid hk
 have H3:=hid h3
 have N1:=hid en1
 have N2:=hid en2
 clear hl hk h3 en1 en2
 obtain⟨wB,jf⟩:=nm ((w.alloc (.cells #[.slice A n1 c,.slice A2 n2 c2] 26)).alloc (.cells #[.slice none 0 0,.slice none 0 0] 26))
 have bB:Below w.heap.size w wB:=by rw [← jf];exact ((Below.refl _ w).alloc (Nat.le_refl _) _).alloc (by simp) _
 have k0:wB.heap[w.heap.size]?=some (.cells #[.slice A n1 c,.slice A2 n2 c2] 26 (0,0)):=by rw [← jf];exact bu (heap_alloc_new w _) _
 have k1:wB.heap[w.heap.size+1]?=some (.cells #[.slice none 0 0,.slice none 0 0] 26 (0,0)):=by
  rw [← jf]
  have:=heap_alloc_new (w.alloc (.cells #[.slice A n1 c,.slice A2 n2 c2] 26)) (.cells #[.slice none 0 0,.slice none 0 0] 26)
  rwa [World.size_alloc] at this
 have sB:wB.heap.size=w.heap.size+2:=by rw [← jf];simp
 have BB:=hid bB
 have K0:=hid k0
 have K1:=hid k1
 have SB:=hid sB
 have c00:=(aa k0).1
 have R1:=hid (Ic (c:=c) (n:=n1) (HL.out.stay bB) N1.out h1)
 clear bB k0 k1 sB
 go_enter func64,ntmps64
 go_wp2_with fail
 refine R1.out.mono ?_
 rintro e w1 ⟨A3,c3,rfl,hc3,ho3,hl3,hb1⟩
 have HR3:=hid (And.intro hc3 (And.intro ho3 hl3))
 have HB1:=hid hb1
 clear hc3 ho3 hl3 hb1
 have z1:=HB1.out.size
 have k01:=(HB1.out.block w.heap.size (by have:=SB.out;omega)).trans K0.out
 have c01:=(aa k01).2
 have BW1:=hid (BB.out.trans (HB1.out.mono (by have:=SB.out;omega)))
 have R2:=hid (Ie (c:=c2) (n:=n2) (HK.out.stay BW1.out).1 N2.out h2)
 clear k01 c00
 go_wp2_with fail
 refine R2.out.mono ?_
 rintro e w2 ⟨A4,c4,rfl,hc4,II,hl4,hb2⟩
 have HR4:=hid (And.intro hc4 (And.intro II hl4))
 have HB2:=hid hb2
 clear hc4 II hl4 hb2
 have z2:=HB2.out.size
 have BW2:=hid (BW1.out.trans (HB2.out.mono (by have:=SB.out;omega)))
 have K12:=hid ((HB2.out.block (w.heap.size+1) (by have:=SB.out;omega)).trans ((HB1.out.block (w.heap.size+1) (by have:=SB.out;omega)).trans K1.out))
 have LSO:Hid (dZ w2 w.heap.size 61 2 A3 (Sr.canon T9.iY ls).length c3 (aL (Sr.canon T9.iY ls))):=hid (by
  rcases HR3.out.2.1 with q | ⟨g,rfl,q⟩
  ·exact .inl q
  ·exact .inr ⟨g,rfl,dA (own_below q HB2.out) (by have:=SB.out;omega)⟩)
 have LS:Hid (au w2 0 61 A3 (aL (Sr.canon T9.iY ls))∧(Sr.canon T9.iY ls).length≤c3):=hid (by
  refine⟨?_,HR3.out.1⟩
  rcases HR3.out.2.1 with q | ⟨g,rfl,q⟩
  ·rw [List.length_eq_zero_iff.1 q.1];exact au.nil
  ·exact aH (own_below q HB2.out))
 obtain⟨L3,el3⟩:∃ n,n=(Sr.canon T9.iY ls).length:=⟨_,rfl⟩
 obtain⟨L4,el4⟩:∃ n,n=(Sr.canon iI ms).length:=⟨_,rfl⟩
 have EL3:=hid el3
 have EL4:=hid el4
 rw [← el3,← el4]
 have hL4:L4≤1000000:=by
  have q:=Sr.dD (lt:=iI) ms
  have:=N2.out
  omega
 clear c01 el3 el4
 have KS:Hid (ay (Sr.canon iI ms)=Sr.canon T9.jg (ay ms)):=hid (Gn ms)
 have FW:Hid (∀ m∈Sr.canon iI ms,m∈ms):=hid fun m hm=>Sr.gT hm
 go_wp2_with fail
 go_loopw [15] (fun s15 wr=>∃ (i:Nat) (ms':List aN),s15=.int .i64 i∧i≤L4∧ms'.length=L4∧Aside (aM w.heap.size [64] w2 wr∧(L4=0∧c4=0∨∃ g,A4=some ⟨g,0,none⟩∧KC w g L4 c4 (ay (Sr.canon iI ms)) i ms' wr))) (fun s15 _=>L4 - (intOf s15).toNat)
 case atStart =>
  refine⟨0,Sr.canon iI ms,rfl,Nat.zero_le _,EL4.out.symm,aM.refl _ _ _,?_⟩
  rcases HR4.out.2.1 with q | ⟨g,rfl,q⟩
  ·exact .inl ⟨EL4.out.trans q.1,q.2⟩
  ·refine .inr ⟨g,rfl,?_,fun m hm=>?_,fun m hm=>H3.out m (FW.out m (by simpa using hm)),by simp,by rw [List.take_zero];exact bI.nil⟩
   ·have q':=dA q (b:=w.heap.size) (by have:=SB.out;omega)
    rw [← EL4.out] at q'
    exact q'
   ·have f:=(HK.out.2 m (FW.out m hm))
    exact⟨(f.1.old (t':=9)).below (Nat.le_refl _) BW2.out,f.2⟩
 case round =>
  obtain⟨i,ms',rfl,hi,zQ,Iy⟩:=hrel
  by_cases hlt:i<L4
  ·have hltz:(i:Int)<(L4:Int):=by omega
   obtain⟨g,hA4,kc⟩:=Iy.out.2.resolve_left (by omega)
   have T0:=hid Iy.out.1
   have G4:=hid hA4
   rw [hA4]
   obtain⟨m,hm⟩:∃ m,ms'[i]?=some m:=⟨_,List.getElem?_eq_getElem (by omega)⟩
   have HM:=hid hm
   have KCR:=hid kc
   have hgw:w.heap.size≤g∧g<wr.heap.size:=kc.own.lt g rfl
   have few:m.t.tags.length<20:=kc.few m (by
    have:=List.mem_of_getElem? (l:=ms'.drop i) (i:=0) (a:=m) (by rw [List.getElem?_drop];simpa using hm)
    exact this)
   have cell:∀ j v,(aA m)[j]?=some v→wr.cell? ⟨g,i * 7+j,none⟩=some v:=fun j v hv=>by
    have hj:j<7:=by
     rcases Nat.lt_or_ge j (aA m).length with q | q
     ·rw [aU] at q;exact q
     ·rw [List.getElem?_eq_none q] at hv;cases hv
    exact df kc.own ((ig (f:=aA) (size:=7) (fun x _=>aU x) hm hj).trans hv)
   have r0:=cell 0 _ rfl
   have r1:=cell 1 _ rfl
   have r2:=cell 2 _ rfl
   have r3:=cell 3 _ rfl
   have r4:=cell 4 _ rfl
   have r5:=cell 5 _ rfl
   have r6:=cell 6 _ rfl
   rw [Nat.add_zero] at r0
   obtain⟨wp,hwp⟩:=nm (wr.alloc (.cells #[.int .u64 (m.t.id:Int),.int .u64 (m.t.list:Int),.string (str m.t.title),.bool m.t.done,.float .f64 m.t.rank,.float .f64 m.t.est,.slice m.A m.t.tags.length m.c] 64))
   have pb:wp.heap[wr.heap.size]?=some (.cells #[.int .u64 (m.t.id:Int),.int .u64 (m.t.list:Int),.string (str m.t.title),.bool m.t.done,.float .f64 m.t.rank,.float .f64 m.t.est,.slice m.A m.t.tags.length m.c] 64 (0,0)):=by rw [← hwp];exact heap_alloc_new wr _
   have bp:Below wr.heap.size wr wp:=by rw [← hwp];exact (Below.refl _ wr).alloc (Nat.le_refl _) _
   have sp:wp.heap.size=wr.heap.size+1:=by rw [← hwp];simp
   have PB:=hid pb
   have BP:=hid bp
   have SP:=hid sp
   obtain⟨p0,p1,p2,p3,p4,p5,p6⟩:=ak pb
   have fine:=hid (kc.fine m (List.mem_of_getElem? hm))
   have RS:=hid (Ig (c:=m.c) (n:=m.t.tags.length) (fine.out.1.below (by omega) bp) rfl few)
   clear kc hA4 hm cell pb bp sp few
   go_wp2_with fail
   refine RS.out.mono ?_
   rintro e w3 ⟨A5,c5,rfl,IG,ho5,hl5,hb3⟩
   have HR5:=hid (And.intro IG (And.intro ho5 hl5))
   have HB3:=hid hb3
   clear IG ho5 hl5 hb3
   have O3:=hid (own_below (own_below KCR.out.own BP.out) HB3.out)
   have fr3:∀ j,w3.frozen? ⟨g,j,none⟩=false:=fun j=>O3.out.frozenAt (g:=g) j
   obtain⟨w4,hw4⟩:=nm (w3.setCell ⟨g,i * 7+6,none⟩ (.slice A5 (Sr.canon T9.dN m.t.tags).length c5))
   have pb3:=(HB3.out.block wr.heap.size (by have:=SP.out;omega)).trans PB.out
   have gne:wr.heap.size≠g:=by omega
   have pb4:=(show w4.heap[wr.heap.size]?=w3.heap[wr.heap.size]? by rw [← hw4];exact Below.heap_setCell _ _ _ _ gne).trans pb3
   have lx:(ai ms').length=L4 * 7:=by rw [aP,zQ]
   have M4:Hid ((ms'.set i ⟨{ m.t with tags:=Sr.canon T9.dN m.t.tags },A5,c5⟩)[i]?=some ⟨{ m.t with tags:=Sr.canon T9.dN m.t.tags },A5,c5⟩):=hid (by rw [List.getElem?_set_self (by omega)])
   have O4:Hid (w4.ownsRow w.heap.size 64 7 (.slice (some ⟨g,0,none⟩) L4 c4) L4 (ai (ms'.set i ⟨{ m.t with tags:=Sr.canon T9.dN m.t.tags },A5,c5⟩))):=hid (by
    rw [← hw4,← gK HM.out (by decide:6<7) (v:=(.slice A5 (Sr.canon T9.dN m.t.tags).length c5)) rfl]
    exact aV (vs:=[(.slice A5 (Sr.canon T9.dN m.t.tags).length c5)]) O3.out (by rw [lx];simp;omega))
   have fr4:∀ j,w4.frozen? ⟨g,j,none⟩=false:=fun j=>O4.out.frozenAt (g:=g) j
   obtain⟨w5,fV⟩:=nm (w4.setCell ⟨g,i * 7+4,none⟩ (.float .f64 (Fl.canon m.t.rank)))
   have pb5:=(show w5.heap[wr.heap.size]?=w4.heap[wr.heap.size]? by rw [← fV];exact Below.heap_setCell _ _ _ _ gne).trans pb4
   have M5:Hid (((ms'.set i ⟨{ m.t with tags:=Sr.canon T9.dN m.t.tags },A5,c5⟩).set i ⟨{ m.t with tags:=Sr.canon T9.dN m.t.tags,rank:=Fl.canon m.t.rank },A5,c5⟩)[i]?=some ⟨{ m.t with tags:=Sr.canon T9.dN m.t.tags,rank:=Fl.canon m.t.rank },A5,c5⟩):=hid (by rw [List.getElem?_set_self (by rw [List.length_set];omega)])
   have O5:Hid (w5.ownsRow w.heap.size 64 7 (.slice (some ⟨g,0,none⟩) L4 c4) L4 (ai ((ms'.set i ⟨{ m.t with tags:=Sr.canon T9.dN m.t.tags },A5,c5⟩).set i ⟨{ m.t with tags:=Sr.canon T9.dN m.t.tags,rank:=Fl.canon m.t.rank },A5,c5⟩))):=hid (by
    rw [← fV,← gK M4.out (by decide:4<7) (v:=(.float .f64 (Fl.canon m.t.rank))) rfl]
    exact aV (vs:=[(.float .f64 (Fl.canon m.t.rank))]) O4.out (by rw [aP,List.length_set,zQ];simp;omega))
   have fr5:∀ j,w5.frozen? ⟨g,j,none⟩=false:=fun j=>O5.out.frozenAt (g:=g) j
   obtain⟨w6,xI⟩:=nm (w5.setCell ⟨g,i * 7+5,none⟩ (.float .f64 (Fl.canon m.t.est)))
   have O6:Hid (w6.ownsRow w.heap.size 64 7 (.slice (some ⟨g,0,none⟩) L4 c4) L4 (ai (ms'.set i ⟨T9.norm m.t,A5,c5⟩))):=hid (by
    have q:=gK M5.out (by decide:5<7) (v:=(.float .f64 (Fl.canon m.t.est))) (m':=⟨T9.norm m.t,A5,c5⟩) rfl
    rw [List.set_set,List.set_set] at q
    rw [← xI,← q]
    have o:=aV (o:=i * 7+5) (vs:=[(.float .f64 (Fl.canon m.t.est))]) O5.out (by rw [aP,List.length_set,List.length_set,zQ];simp;omega)
    rw [List.set_set] at o
    exact o)
   have T6:Hid (aM w.heap.size [64] wr w6):=hid (by
    have t0:aM w.heap.size [64] wr w3:=((aM.of_below BP.out (by omega) _).trans (aM.of_below HB3.out (by have:=SP.out;omega) _))
    have y3:Ty w3 g 64:=(by obtain⟨_,cs,fr,r⟩:=bM O3.out g rfl;exact⟨cs,fr,r⟩)
    rw [← xI,← fV,← hw4]
    exact ((t0.aB (p:=⟨g,i * 7+6,none⟩) y3 (by decide) hgw.1 (.slice A5 (Sr.canon T9.dN m.t.tags).length c5)).aB (p:=⟨g,i * 7+4,none⟩) (y3.set _ _) (by decide) hgw.1 (.float .f64 (Fl.canon m.t.rank))).aB (p:=⟨g,i * 7+5,none⟩) ((y3.set _ _).set _ _) (by decide) hgw.1 (.float .f64 (Fl.canon m.t.est)))
   have rr:∀ (W:World) (ns:List aN) (x:aN) (j:Nat) (v:Value),W.ownsRow w.heap.size 64 7 (.slice (some ⟨g,0,none⟩) L4 c4) L4 (ai ns)→ns[i]?=some x→j<7→(aA x)[j]?=some v→W.cell? ⟨g,i * 7+j,none⟩=some v:=fun W ns x j v o hx hj hv=>df o ((ig (f:=aA) (size:=7) (fun x _=>aU x) hx hj).trans hv)
   have q3:=rr w3 _ _ 6 _ O3.out HM.out (by decide) rfl
   have q4:=rr w4 _ _ 4 _ O4.out M4.out (by decide) rfl
   have q5:=rr w5 _ _ 5 _ O5.out M5.out (by decide) rfl
   have f3:=fr3 (i * 7+6)
   have f4:=fr4 (i * 7+4)
   have f5:=fr5 (i * 7+5)
   have b44:=(ak pb4).2.2.2.2.1
   have b55:=(ak pb5).2.2.2.2.2.1
   have HML:=hid zQ
   clear rr fr3 fr4 fr5 pb3 pb4 pb5 lx zQ r0 r1 r2 r3 r4 r5 r6 p0 p1 p2 p3 p4 p5 p6 hwp
   go_wp2_with (go_at_call 86;refine (nV _ _).mono ?_;rintro e w' ⟨rfl,rfl⟩)
   go_roundw
   case rel =>
    refine⟨i+1,ms'.set i ⟨T9.norm m.t,A5,c5⟩,by go_num,by omega,by rw [List.length_set];exact HML.out,T0.out.trans T6.out,  .inr ⟨g,rfl,O6.out,fun x hx=>?_,fun x hx=>?_,?_,?_⟩⟩
    ·rcases List.mem_or_eq_of_mem_set hx with q | rfl
     ·exact⟨wE (KCR.out.fine x q).1 T6.out,(KCR.out.fine x q).2⟩
     ·have y3:Ty w3 g 64:=(by obtain⟨_,cs,fr,r⟩:=bM O3.out g rfl;exact⟨cs,fr,r⟩)
      have t36:aM w.heap.size [64] w3 w6:=by
       rw [← xI,← fV,← hw4]
       exact (((aM.refl _ _ w3).aB (p:=⟨g,i * 7+6,none⟩) y3 (by decide) hgw.1 (.slice A5 (Sr.canon T9.dN m.t.tags).length c5)).aB (p:=⟨g,i * 7+4,none⟩) (y3.set _ _) (by decide) hgw.1 (.float .f64 (Fl.canon m.t.rank))).aB (p:=⟨g,i * 7+5,none⟩) ((y3.set _ _).set _ _) (by decide) hgw.1 (.float .f64 (Fl.canon m.t.est))
      refine⟨wE ?_ t36,HR5.out.1⟩
      rcases HR5.out.2.1 with q | ⟨g5,rfl,q⟩
      ·show au _ _ _ _ (aC (Sr.canon T9.dN m.t.tags))
       rw [List.length_eq_zero_iff.1 q.1];exact au.nil
      ·exact aH q
    ·refine KCR.out.few x ?_
     rw [List.drop_set_of_lt (by omega)] at hx
     rw [← List.drop_drop (i:=1) (j:=i)] at hx
     exact List.mem_of_mem_drop hx
    ·have kt:=KCR.out.ay
     have hi2:i<(ay (Sr.canon iI ms)).length:=by rw [aK];have:=EL4.out;omega
     have e1:ay (ms'.set i ⟨T9.norm m.t,A5,c5⟩)=(ay ms').set i (T9.norm m.t):=by unfold ay;rw [List.map_set]
     have e2:(ay (Sr.canon iI ms))[i]?=some m.t:=by
      have q:(ay ms')[i]?=some m.t:=by unfold ay;rw [List.getElem?_map,HM.out];rfl
      rw [kt,List.getElem?_append_right (by rw [List.length_map,List.length_take];omega),List.length_map,List.length_take,Nat.min_eq_left (by omega),Nat.sub_self,List.getElem?_drop,Nat.add_zero] at q
      exact q
     have e3:=List.drop_eq_getElem_cons hi2
     rw [List.getElem?_eq_getElem hi2] at e2
     injection e2 with e2
     rw [e2] at e3
     rw [e1,kt,e3,List.set_append_right _ _ (by rw [List.length_map,List.length_take];omega),List.length_map,List.length_take,Nat.min_eq_left (by omega),Nat.sub_self,List.set_cons_zero,List.take_add_one,List.getElem?_eq_getElem hi2,e2]
     simp
    ·have e:(ms'.set i ⟨T9.norm m.t,A5,c5⟩)[i]?=some ⟨T9.norm m.t,A5,c5⟩:=by rw [List.getElem?_set_self (by have:=HML.out;omega)]
     rw [kv e,List.take_set_of_le (Nat.le_refl _)]
     have y3:Ty w3 g 64:=(by obtain⟨_,cs,fr,r⟩:=bM O3.out g rfl;exact⟨cs,fr,r⟩)
     have t36:aM w.heap.size [64] w3 w6:=by
      rw [← xI,← fV,← hw4]
      exact (((aM.refl _ _ w3).aB (p:=⟨g,i * 7+6,none⟩) y3 (by decide) hgw.1 (.slice A5 (Sr.canon T9.dN m.t.tags).length c5)).aB (p:=⟨g,i * 7+4,none⟩) (y3.set _ _) (by decide) hgw.1 (.float .f64 (Fl.canon m.t.rank))).aB (p:=⟨g,i * 7+5,none⟩) ((y3.set _ _).set _ _) (by decide) hgw.1 (.float .f64 (Fl.canon m.t.est))
     refine KCR.out.neu.snoc (KCR.out.neu.bE T6.out (by decide)) (B':=wp.heap.size) ?_ BP.out.size (by have:=SP.out;omega)
     refine dZ.bE (w:=w3) ?_ t36 (by decide)
     rcases HR5.out.2.1 with q | ⟨g5,rfl,q⟩
     ·exact .inl q
     ·exact .inr ⟨g5,rfl,q⟩
   case measure=>simp [intOf];omega
  ·obtain rfl:i=L4:=by omega
   have hltz:¬ (i:Int)<(i:Int):=by omega
   have TT:=hid Iy.out.1
   have KR:=hid (TT.out.blk K12.out (by decide))
   have kr0:=(aa KR.out).1
   have kr1:=(aa KR.out).2
   have jO:=af KR.out 0
   have jB:=af KR.out 1
   have KR2:Hid (((wr.setCell ⟨w.heap.size+1,0,none⟩ (.slice A3 L3 c3)).setCell ⟨w.heap.size+1,1,none⟩ (.slice A4 i c4)).heap[w.heap.size+1]?=some (.cells #[.slice A3 L3 c3,.slice A4 i c4] 26 (0,0))):=hid ((ah (ah KR.out 0 (.slice A3 L3 c3)) 1 (.slice A4 i c4)).trans rfl)
   have TF:Hid (aM w.heap.size [64,26] w2 ((wr.setCell ⟨w.heap.size+1,0,none⟩ (.slice A3 L3 c3)).setCell ⟨w.heap.size+1,1,none⟩ (.slice A4 i c4))):=hid (by
    have y:Ty wr (w.heap.size+1) 26:=⟨_,_,KR.out⟩
    exact ((TT.out.more (by simp)).aB (p:=⟨w.heap.size+1,0,none⟩) y (by decide) (Nat.le_succ _) _).aB (p:=⟨w.heap.size+1,1,none⟩) (y.set _ _) (by decide) (Nat.le_succ _) _)
   have kf0:=(aa KR2.out).1
   have kf1:=(aa KR2.out).2
   go_wp2
   refine bodyPost_ret (v:=.agg #[.slice A3 L3 c3,.slice A4 i c4]) (by simp [results,results64,go_sem,kf0,kf1]) rfl ?_
   have TG:aM w.heap.size [26] wr ((wr.setCell ⟨w.heap.size+1,0,none⟩ (.slice A3 L3 c3)).setCell ⟨w.heap.size+1,1,none⟩ (.slice A4 i c4)):=by
    have y:Ty wr (w.heap.size+1) 26:=⟨_,_,KR.out⟩
    exact ((aM.refl _ _ wr).aB (p:=⟨w.heap.size+1,0,none⟩) y (by decide) (Nat.le_succ _) _).aB (p:=⟨w.heap.size+1,1,none⟩) (y.set _ _) (by decide) (Nat.le_succ _) _
   refine⟨⟨Sr.canon T9.iY ls,A3,c3,ms',A4,c4⟩,?_,⟨?_,?_,LS.out.2,?_⟩,?_,BW2.out.trans TF.out.below,⟨dF LS.out.1 TF.out (by decide),?_,?_⟩,LSO.out.bE TF.out (by decide),?_,?_⟩
   ·unfold aQ.val
    rw [zQ,← EL3.out]
   ·exact (dF LS.out.1 TF.out (by decide)).old
   ·rcases Iy.out.2 with q | ⟨g,rfl,kc⟩
    ·have:ms'=[]:=List.length_eq_zero_iff.1 (by omega)
     subst this
     exact KL.nil
    ·exact⟨(aH (B:=0) (bX kc.own TG (by decide))).old,fun x hx=>⟨((kc.fine x hx).1.bE TG (by decide)).old,(kc.fine x hx).2⟩⟩
   ·rw [zQ,EL4.out]
    exact HR4.out.1
   ·unfold aQ.st T9.canon
    dsimp only
    congr 1
    rw [← KS.out]
    rcases Iy.out.2 with q | ⟨g,rfl,kc⟩
    ·have h0:ms'=[]:=List.length_eq_zero_iff.1 (by omega)
     have h1:Sr.canon iI ms=[]:=List.length_eq_zero_iff.1 (by rw [← EL4.out];exact q.1)
     rw [h0,h1]
     rfl
    ·have l:(ay (Sr.canon iI ms)).length=i:=by rw [aK];exact EL4.out.symm
     rw [kc.ay,← l,List.take_length,List.drop_length,List.append_nil]
   ·rcases Iy.out.2 with q | ⟨g,rfl,kc⟩
    ·have:ms'=[]:=List.length_eq_zero_iff.1 (by omega)
     subst this
     simp
    ·exact fun x hx=>dF ((kc.neu.1 x (by rw [List.take_of_length_le (by omega)];exact hx)).lies (by rw [dE,Nat.mul_one])) TG (by decide)
   ·rcases Iy.out.2 with q | ⟨g,rfl,kc⟩
    ·exact .inl (List.length_eq_zero_iff.1 (by show ms'.length=0;omega))
    ·refine .inr ⟨g,rfl,?_⟩
     show World.ownsRow _ _ _ _ (.slice _ ms'.length _) ms'.length _
     rw [zQ]
     exact bX kc.own TG (by decide)
   ·rcases Iy.out.2 with q | ⟨g,rfl,kc⟩
    ·exact .inl ⟨by show ms'.length=0;omega,q.2⟩
    ·refine .inr ⟨g,rfl,?_⟩
     show World.ownsRow _ _ _ _ (.slice _ ms'.length _) ms'.length _
     rw [zQ]
     exact bX kc.own TG (by decide)
   ·rcases Iy.out.2 with q | ⟨g,rfl,kc⟩
    ·have:ms'=[]:=List.length_eq_zero_iff.1 (by omega)
     subst this
     exact bI.nil
    ·have q:=kc.neu
     rw [List.take_of_length_le (by omega)] at q
     exact q.bE TG (by decide)
end
end Go.Proofs.YtcmiompdjjiojaaGreat
