import Derived.Test.YtcedlgedmkghgaaGreatZ14
import Derived.Test.YtcedlgedmkghgaaGreatZ20
namespace Go.Proofs.YtcedlgedmkghgaaGreat
set_option maxHeartbeats 16000000
open Go.Lib Go.Proofs.Tryz
set_option linter.unusedSimpArgs false
set_option maxRecDepth 100000
section
section
open Go.RowKit Go.Lib
theorem oQ (ts:List (List UInt8)) (k:Nat):(aB ts).take k=aB (ts.take k):=by simp [aB,List.map_take]
theorem oP (ts:List (List UInt8)) (k:Nat):(aB ts).drop k=aB (ts.drop k):=by simp [aB,List.map_drop]
def WTOk (ts:List (List UInt8)) (w:World) (e:Ending) (w':World):Prop:=∃ A c,e=.returned (.slice A ts.length c)∧au w' 0 9 A (aB ts)∧ts.length≤c∧(A=none→c=0)∧Below w.heap.size w w'
theorem C9 {A0:Option Addr} {n0 c0:Nat} {xs:List (List UInt8)} {w:World} (h:GL w A0 xs) (hn:n0=xs.length) (hs:n0≤1000) :
  Calls prog 131 #[.slice A0 n0 c0] w (WTOk (Sr.canon T9.dL xs) w):=by
 have HL:=hid h
 have HN:=hid hn
 clear h hn
 go_enter func131,ntmps131
 go_wp2_with fail
 go_loopw [3,9] (fun s3 s9 wr=>∃ (k:Nat) (A:Option Addr) (n c:Nat),s3=.slice A n c∧s9=.int .i64 k∧k≤n0∧n=(Sr.canon T9.dL (xs.take k)).length∧n≤c∧(A=none→c=0)∧Aside (au wr 0 9 A (aB (Sr.canon T9.dL (xs.take k))))∧Aside (Below w.heap.size w wr)) (fun _ s9 _=>n0 - (intOf s9).toNat)
 case atStart=>exact⟨0,none,0,0,rfl,rfl,Nat.zero_le _,rfl,Nat.le_refl _,fun _=>rfl,(au.nil:au w 0 9 none (aB (Sr.canon T9.dL (xs.take 0)))),Below.refl _ _⟩
 case round =>
  obtain⟨wo,hwo⟩:∃ u,u=wr:=⟨_,rfl⟩
  subst hwo
  obtain⟨k,A,n,c,rfl,rfl,hk,hn,hc,hz,hG,hB⟩:=hrel
  obtain⟨ts,hts⟩:∃ t,t=Sr.canon T9.dL (xs.take k):=⟨_,rfl⟩
  have hG:=hG.out
  rw [← hts] at hn hG
  have LO:=hid hG
  have BO:=hid hB.out
  have TE:=hid hts
  have TN:=hid hn
  have TC:=hid hc
  have TZ:=hid hz
  have nk:n≤k:=by
   rw [hn,hts]
   refine Nat.le_trans (Sr.dB _) ?_
   rw [List.length_take]
   omega
  clear hn hG hB hts hz
  by_cases hlt:k<n0
  ·have hltz:(k:Int)<(n0:Int):=by omega
   obtain⟨ad0,x,hA,hx,r0⟩:=(HL.out.stay BO.out).at_ (k:=k) (by rw [← HN.out];exact hlt)
   subst hA
   have X:=hid hx
   clear hx
   go_wp2_with fail
   go_loopw [6] (fun s6 wi=>∃ i:Nat,s6=.int .i64 i∧i≤n∧Aside (∀ y∈ts.take i,T9.dL y x=true)∧Aside (au wi 0 9 A (aB ts))∧Aside (Below w.heap.size w wi)) (fun s6 _=>n - (intOf s6).toNat)
   case atStart=>exact⟨0,rfl,Nat.zero_le _,(fun y hy=>by simp at hy:∀ y∈ts.take 0,T9.dL y x=true),LO.out,BO.out⟩
   case round =>
    obtain⟨i,rfl,hi,hI,hG,hB⟩:=hrel
    obtain⟨wi,hwi⟩:∃ u,u=wr:=⟨_,rfl⟩
    subst hwi
    have HI:=hid hI.out
    have LIT:=hid hG.out
    have LI:Hid (GL wi A ts):=hid LIT.out.old
    have BI:=hid hB.out
    clear hI hG hB
    by_cases hlt2:i<n
    ·have sJ:(i:Int)<(n:Int):=by omega
     have k0:(0:Int)≤(i:Int):=by omega
     have kc:i≤c:=by omega
     have kci:(i:Int)≤(c:Int):=by omega
     have nci:(n:Int)≤(c:Int):=by omega
     have kni:(i:Int)≤(n:Int):=by omega
     have kn:i≤n:=by omega
     obtain⟨ad,y,hA,hy,r1⟩:=LI.out.at_ (k:=i) (by rw [← TN.out];exact hlt2)
     subst hA
     have Y:=hid hy
     clear hy
     by_cases q:y<x
     ·have q1:=o8 q
      have QX:Hid (T9.dL y x=true):=hid (decide_eq_true q)
      clear q
      go_wp2
      go_roundw
      case rel =>
       refine⟨i+1,by go_num,by omega,?_,LIT.out,BI.out⟩
       intro z hz
       rw [bL Y.out] at hz
       rcases List.mem_append.1 hz with h | h
       ·exact HI.out z h
       ·simp only [List.mem_cons,List.not_mem_nil,or_false] at h
        subst h
        exact QX.out
      case measure=>simp [intOf];omega
     ·have q1:=oZ q
      have QN:Hid (T9.dL y x=false):=hid (decide_eq_false q)
      by_cases e:y=x
      ·have e1:(y==x)=true:=by rw [e];exact beq_self_eq_true _
       have e2:(str y==str x)=true:=by rw [kS];exact decide_eq_true e
       have IO:Hid (Sr.ins T9.dL x ts=ts):=hid (Sr.rA HI.out Y.out QN.out (by subst e;exact QN.out))
       clear q e
       go_wp2
       go_roundw
       case rel =>
        have EC:Sr.canon T9.dL (xs.take (k+1))=ts:=by rw [bL X.out,Sr.f_,← TE.out];exact IO.out
        refine⟨k+1,some ad,n,c,rfl,by go_num,by omega,(by rw [EC];exact TN.out),TC.out,(fun z=>by cases z),?_,BI.out⟩
        rw [EC]
        exact LIT.out
       case measure=>simp [intOf];omega
      ·have e1:(y==x)=false:=by rw [beq_eq_false_iff_ne];exact e
       have e2:(str y==str x)=false:=by rw [kS];exact decide_eq_false e
       have IN:Hid (Sr.ins T9.dL x ts=ts.take i++x :: ts.drop i):=hid (Sr.gL HI.out fun z hz=>by
        rw [Y.out] at hz
        injection hz with hz
        subst hz
        refine⟨QN.out,decide_eq_true ?_⟩
        rcases List.le_iff_lt_or_eq.1 (List.not_lt.1 q) with r | r
        ·exact r
        ·exact absurd r.symm e)
       clear q e
       go_wp2_with fail
       obtain⟨wz,hwz⟩:∃ u,wi=u:=⟨_,rfl⟩
       rw [hwz]
       have BZ:Hid (Below w.heap.size w wz):=hid (by rw [← hwz];exact BI.out)
       have LZ:Hid (GL wz (some ad) ts):=hid (by rw [← hwz];exact LI.out)
       obtain⟨i0,hi0,hz0,hz1,hz2⟩:=info_parts Tryz.infoStr9
       refine wp_region_held_drew (S:=fun _=>True) (by kernel_rfl) trivial (fun S0=>?_)
       refine aK 0 ?_ rfl (by kernel_rfl) rfl ?_ S0 ?_
       rotate_left
       ·intro u hu;go_simp;try rfl
       try simp only [Act.put,pS]
       refine aK 1 ?_ rfl (by kernel_rfl) rfl ?_ S0 ?_
       rotate_left
       ·intro u hu;go_simp;try rfl
       try simp only [Act.put,pS]
       refine aK 2 ?_ rfl (by kernel_rfl) rfl ?_ S0 ?_
       rotate_left
       ·intro u hu;go_simp;try rfl
       try simp only [Act.put,pS]
       refine aK 3 ?_ rfl (by kernel_rfl) rfl ?_ S0 ?_
       rotate_left
       ·intro u hu;go_simp;try rfl
       try simp only [Act.put,pS]
       refine aK 4 ?_ rfl (by kernel_rfl) rfl ?_ S0 ?_
       rotate_left
       ·intro u hu;go_simp;try rfl
       try simp only [Act.put,pS]
       refine aK 6 ?_ rfl (by kernel_rfl) rfl ?_ S0 ?_
       rotate_left
       ·intro u hu;go_simp;try rfl
       try simp only [Act.put,pS]
       refine aK 7 ?_ rfl (by kernel_rfl) rfl ?_ S0 ?_
       rotate_left
       ·intro u hu;go_simp;try rfl
       try simp only [Act.put,pS]
       refine aK 8 ?_ rfl (by kernel_rfl) rfl ?_ S0 ?_
       rotate_left
       ·intro u hu;go_simp;try rfl
       try simp only [Act.put,pS]
       refine ax (i:=5) (by kernel_rfl) rfl (fun K hK=>?_)
       go_simp
       have S1:=trivial
       refine hK _ _ S1 ?_
       clear hK K S0
       have S0:=S1
       clear S1
       try simp only [Act.put,pS]
       obtain⟨u5,iL⟩:∃ u,(wz.alloc (.cells #[.string (str x)] 9)).drew=u:=⟨_,rfl⟩
       rw [iL]
       have kG:u5.ownsRow wz.heap.size 9 1 (.slice (some ⟨wz.heap.size,0,none⟩) 1 1) 1 [encS x]:=by
        have o5:=gN (w:=wz) (e:=9) (xs:=[encS x]) rfl (rfl:[encS x].length=1)
        rw [← iL]
        exact o5
       have B5:Below wz.heap.size wz u5:=by rw [← iL];exact ((Below.refl wz.heap.size wz).alloc (Nat.le_refl _) _).drew
       have L5:au u5 u5.heap.size 0 (if c=i then some ad else (some ad).map (·.add i)) (aB (ts.drop i)):=by
        rw [← oP]
        exact (au.stay LZ.out B5).cut i c (by rw [dC,← TN.out];exact TC.out)
       have dh:(aB (ts.drop i)).length=(n - i) * 1:=by rw [dC,List.length_drop,← TN.out];omega
       have dm:∀ v∈(aB (ts.drop i)),v.oneCell'=true:=eT _
       have lG:∀ q,(Value.slice (some ⟨wz.heap.size,0,none⟩) 1 1).ownBlock=some q→wz.heap.size≤q:=fun q e=>by injection e with e;rw [← e];exact Nat.le_refl _
       have Ij:∀ v∈[encS x],v.oneCell'=true:=by intro v hv;simp at hv;subst hv;rfl
       refine ax (i:=9) (by kernel_rfl) rfl (fun K hK=>?_)
       refine eP rfl _ _ 72 rfl wz.heap.size 9 i0 _ 1 16 underlying72 hi0 hz0 hz1 hz2 rfl (by decide) _ 1 [encS x] rfl kG u5.heap.size _ (n - i) (c - i) (aB (ts.drop i)) 0 rfl dh L5 dm (by unfold maxLen;omega) (by omega) B5.size ?_
       intro v6 w6 hown6 aM ed
       obtain⟨A6,k6,rfl⟩:=aA hown6
       obtain⟨a6,qX,_,hc6⟩:=(aG (B:=0) hown6) (by simp)
       subst qX
       have B6:Below wz.heap.size wz w6:=B5.grown aM B5.size lG
       have S1:=trivial
       refine hK _ _ S1 ?_
       clear aM ed L5 dh dm lG B5 kG
       clear hK K S0
       have S0:=S1
       clear S1
       try simp only [Act.put,pS]
       have L6:au w6 w6.heap.size 0 (some ad) (aB (ts.take i)):=by
        rw [← oQ]
        exact (au.stay LZ.out B6).take _
       have di:(aB (ts.take i)).length=i * 1:=by rw [dC,List.length_take,← TN.out,Nat.min_eq_left (by omega)];omega
       refine ax (i:=10) (by kernel_rfl) rfl (fun K hK=>?_)
       refine fB rfl _ _ 72 rfl wz.heap.size 9 i0 _ 1 16 underlying72 hi0 hz0 hz1 hz2 rfl w6.heap.size 0 (some ad) i (aB (ts.take i)) rfl di L6 (by intro z;first | rfl | cases z) a6 (1+(n - i)) k6 ([encS x]++(aB (ts.drop i))) rfl hown6.1 hc6 (fo Ij (eT _)) (by omega) (by unfold maxLen;omega) (by omega) B6.size ?_
       intro v7 w7 bS bR hblk7
       obtain⟨A7,k7,rfl⟩:=aA bS
       have B7:Below wz.heap.size wz w7:=B6.grown bR B6.size (fun q e=>by cases e)
       have S1:=trivial
       refine hK _ _ S1 ?_
       clear bR L6 di
       clear hK K S0
       have S0:=S1
       clear S1
       try simp only [Act.put,pS]
       refine aK 11 ?_ rfl (by kernel_rfl) rfl ?_ S0 ?_
       rotate_left
       ·intro u hu;go_simp;try rfl
       try simp only [Act.put,pS]
       refine wpAnyH_done (by kernel_rfl) ?_ _
       clear S0
       have lF:=hid bS
       have nV:=hid B7
       have qV:=hid hblk7
       clear bS B7 hblk7 hown6 hc6 B6
       generalize (if c=i then some ad else some (ad.add i))=A8
       go_wp2
       go_roundw
       case rel =>
        have iA:(ts.take i++x :: ts.drop i).length=i+(1+(n - i)):=by rw [List.length_append,List.length_cons,List.length_take,List.length_drop,← TN.out,Nat.min_eq_left (by omega)];omega
        have CELLS:aB (ts.take i++x :: ts.drop i)=(aB (ts.take i))++([encS x]++(aB (ts.drop i))):=by simp [aB]
        have EC:Sr.canon T9.dL (xs.take (k+1))=(ts.take i++x :: ts.drop i):=by rw [bL X.out,Sr.f_,← TE.out];exact IN.out
        refine⟨k+1,A7,_,k7,rfl,by go_num,by omega,(by rw [EC,iA]),(aO lF.out).2,(fun z=>by subst z;cases qV.out),?_,BZ.out.trans (nV.out.mono BZ.out.size)⟩
        rw [EC]
        show au w7 0 9 A7 (aB (ts.take i++x :: ts.drop i))
        rw [CELLS]
        exact aG (B:=0) lF.out
       case measure=>simp [intOf];omega
    ·obtain rfl:i=n:=by omega
     have sJ:¬ ((i:Int)<(i:Int)):=by omega
     have IN:Hid (Sr.ins T9.dL x ts=ts.take i++x :: ts.drop i):=hid (Sr.gL HI.out fun z hz=>by
      have:=(List.getElem?_eq_some_iff.1 hz).1
      have:=TN.out
      omega)
     cases A with
     | none =>
      obtain rfl:c=0:=TZ.out rfl
      obtain rfl:i=0:=by omega
      obtain rfl:ts=[]:=List.eq_nil_of_length_eq_zero TN.out.symm
      go_wp2_with fail
      obtain⟨wz,hwz⟩:∃ u,wi=u:=⟨_,rfl⟩
      rw [hwz]
      have BZ:Hid (Below w.heap.size w wz):=hid (by rw [← hwz];exact BI.out)
      have LZ:Hid (GL wz none ([]:List (List UInt8))):=hid (by rw [← hwz];exact LI.out)
      obtain⟨i0,hi0,hz0,hz1,hz2⟩:=info_parts Tryz.infoStr9
      refine wp_region_held_drew (S:=fun _=>True) (by kernel_rfl) trivial (fun S0=>?_)
      refine aK 0 ?_ rfl (by kernel_rfl) rfl ?_ S0 ?_
      rotate_left
      ·intro u hu;go_simp;try rfl
      try simp only [Act.put,pS]
      refine aK 1 ?_ rfl (by kernel_rfl) rfl ?_ S0 ?_
      rotate_left
      ·intro u hu;go_simp;try rfl
      try simp only [Act.put,pS]
      refine aK 2 ?_ rfl (by kernel_rfl) rfl ?_ S0 ?_
      rotate_left
      ·intro u hu;go_simp;try rfl
      try simp only [Act.put,pS]
      refine aK 3 ?_ rfl (by kernel_rfl) rfl ?_ S0 ?_
      rotate_left
      ·intro u hu;go_simp;try rfl
      try simp only [Act.put,pS]
      refine aK 4 ?_ rfl (by kernel_rfl) rfl ?_ S0 ?_
      rotate_left
      ·intro u hu;go_simp;try rfl
      try simp only [Act.put,pS]
      refine aK 6 ?_ rfl (by kernel_rfl) rfl ?_ S0 ?_
      rotate_left
      ·intro u hu;go_simp;try rfl
      try simp only [Act.put,pS]
      refine aK 7 ?_ rfl (by kernel_rfl) rfl ?_ S0 ?_
      rotate_left
      ·intro u hu;go_simp;try rfl
      try simp only [Act.put,pS]
      refine aK 8 ?_ rfl (by kernel_rfl) rfl ?_ S0 ?_
      rotate_left
      ·intro u hu;go_simp;try rfl
      try simp only [Act.put,pS]
      refine ax (i:=5) (by kernel_rfl) rfl (fun K hK=>?_)
      go_simp
      have S1:=trivial
      refine hK _ _ S1 ?_
      clear hK K S0
      have S0:=S1
      clear S1
      try simp only [Act.put,pS]
      obtain⟨u5,iL⟩:∃ u,(wz.alloc (.cells #[.string (str x)] 9)).drew=u:=⟨_,rfl⟩
      rw [iL]
      have kG:u5.ownsRow wz.heap.size 9 1 (.slice (some ⟨wz.heap.size,0,none⟩) 1 1) 1 [encS x]:=by
       have o5:=gN (w:=wz) (e:=9) (xs:=[encS x]) rfl (rfl:[encS x].length=1)
       rw [← iL]
       exact o5
      have B5:Below wz.heap.size wz u5:=by rw [← iL];exact ((Below.refl wz.heap.size wz).alloc (Nat.le_refl _) _).drew
      have L5:au u5 u5.heap.size 0 none ([]:List Value):=au.nil
      have dh:([]:List Value).length=0 * 1:=by rfl
      have dm:∀ v∈([]:List Value),v.oneCell'=true:=by simp
      have lG:∀ q,(Value.slice (some ⟨wz.heap.size,0,none⟩) 1 1).ownBlock=some q→wz.heap.size≤q:=fun q e=>by injection e with e;rw [← e];exact Nat.le_refl _
      have Ij:∀ v∈[encS x],v.oneCell'=true:=by intro v hv;simp at hv;subst hv;rfl
      refine ax (i:=9) (by kernel_rfl) rfl (fun K hK=>?_)
      refine eP rfl _ _ 72 rfl wz.heap.size 9 i0 _ 1 16 underlying72 hi0 hz0 hz1 hz2 rfl (by decide) _ 1 [encS x] rfl kG u5.heap.size _ 0 0 ([]:List Value) 0 rfl dh L5 dm (by unfold maxLen;omega) (by omega) B5.size ?_
      intro v6 w6 hown6 aM ed
      obtain⟨A6,k6,rfl⟩:=aA hown6
      obtain⟨a6,qX,_,hc6⟩:=(aG (B:=0) hown6) (by simp)
      subst qX
      have B6:Below wz.heap.size wz w6:=B5.grown aM B5.size lG
      have S1:=trivial
      refine hK _ _ S1 ?_
      clear aM ed L5 dh dm lG B5 kG
      clear hK K S0
      have S0:=S1
      clear S1
      try simp only [Act.put,pS]
      have L6:au w6 w6.heap.size 0 none ([]:List Value):=au.nil
      have di:([]:List Value).length=0 * 1:=by rfl
      refine ax (i:=10) (by kernel_rfl) rfl (fun K hK=>?_)
      refine fB rfl _ _ 72 rfl wz.heap.size 9 i0 _ 1 16 underlying72 hi0 hz0 hz1 hz2 rfl w6.heap.size 0 none 0 ([]:List Value) rfl di L6 (by intro z;first | rfl | cases z) a6 (1+0) k6 ([encS x]++([]:List Value)) rfl hown6.1 hc6 (fo Ij (by simp)) (by omega) (by unfold maxLen;omega) (by omega) B6.size ?_
      intro v7 w7 bS bR hblk7
      obtain⟨A7,k7,rfl⟩:=aA bS
      have B7:Below wz.heap.size wz w7:=B6.grown bR B6.size (fun q e=>by cases e)
      have S1:=trivial
      refine hK _ _ S1 ?_
      clear bR L6 di
      clear hK K S0
      have S0:=S1
      clear S1
      try simp only [Act.put,pS]
      refine aK 11 ?_ rfl (by kernel_rfl) rfl ?_ S0 ?_
      rotate_left
      ·intro u hu;go_simp;try rfl
      try simp only [Act.put,pS]
      refine wpAnyH_done (by kernel_rfl) ?_ _
      clear S0
      have lF:=hid bS
      have nV:=hid B7
      have qV:=hid hblk7
      clear bS B7 hblk7 hown6 hc6 B6
      go_wp2
      go_roundw
      case rel =>
       have iA:(List.take 0 []++x :: List.drop 0 []).length=0+(1+0):=by rfl
       have CELLS:aB (List.take 0 []++x :: List.drop 0 [])=([]:List Value)++([encS x]++([]:List Value)):=by simp [aB]
       have EC:Sr.canon T9.dL (xs.take (k+1))=(List.take 0 []++x :: List.drop 0 []):=by rw [bL X.out,Sr.f_,← TE.out];exact IN.out
       refine⟨k+1,A7,_,k7,rfl,by go_num,by omega,(by rw [EC,iA]),(aO lF.out).2,(fun z=>by subst z;cases qV.out),?_,BZ.out.trans (nV.out.mono BZ.out.size)⟩
       rw [EC]
       show au w7 0 9 A7 (aB (List.take 0 []++x :: List.drop 0 []))
       rw [CELLS]
       exact aG (B:=0) lF.out
      case measure=>simp [intOf];omega
     | some ad =>
      have k0:(0:Int)≤(i:Int):=by omega
      have kci:(i:Int)≤(c:Int):=by omega
      have kk:i≤i:=Nat.le_refl _
      go_wp2_with fail
      obtain⟨wz,hwz⟩:∃ u,wi=u:=⟨_,rfl⟩
      rw [hwz]
      have BZ:Hid (Below w.heap.size w wz):=hid (by rw [← hwz];exact BI.out)
      have LZ:Hid (GL wz (some ad) ts):=hid (by rw [← hwz];exact LI.out)
      obtain⟨i0,hi0,hz0,hz1,hz2⟩:=info_parts Tryz.infoStr9
      refine wp_region_held_drew (S:=fun _=>True) (by kernel_rfl) trivial (fun S0=>?_)
      refine aK 0 ?_ rfl (by kernel_rfl) rfl ?_ S0 ?_
      rotate_left
      ·intro u hu;go_simp;try rfl
      try simp only [Act.put,pS]
      refine aK 1 ?_ rfl (by kernel_rfl) rfl ?_ S0 ?_
      rotate_left
      ·intro u hu;go_simp;try rfl
      try simp only [Act.put,pS]
      refine aK 2 ?_ rfl (by kernel_rfl) rfl ?_ S0 ?_
      rotate_left
      ·intro u hu;go_simp;try rfl
      try simp only [Act.put,pS]
      refine aK 3 ?_ rfl (by kernel_rfl) rfl ?_ S0 ?_
      rotate_left
      ·intro u hu;go_simp;try rfl
      try simp only [Act.put,pS]
      refine aK 4 ?_ rfl (by kernel_rfl) rfl ?_ S0 ?_
      rotate_left
      ·intro u hu;go_simp;try rfl
      try simp only [Act.put,pS]
      refine aK 6 ?_ rfl (by kernel_rfl) rfl ?_ S0 ?_
      rotate_left
      ·intro u hu;go_simp;try rfl
      try simp only [Act.put,pS]
      refine aK 7 ?_ rfl (by kernel_rfl) rfl ?_ S0 ?_
      rotate_left
      ·intro u hu;go_simp;try rfl
      try simp only [Act.put,pS]
      refine aK 8 ?_ rfl (by kernel_rfl) rfl ?_ S0 ?_
      rotate_left
      ·intro u hu;go_simp;try rfl
      try simp only [Act.put,pS]
      refine ax (i:=5) (by kernel_rfl) rfl (fun K hK=>?_)
      go_simp
      have S1:=trivial
      refine hK _ _ S1 ?_
      clear hK K S0
      have S0:=S1
      clear S1
      try simp only [Act.put,pS]
      obtain⟨u5,iL⟩:∃ u,(wz.alloc (.cells #[.string (str x)] 9)).drew=u:=⟨_,rfl⟩
      rw [iL]
      have kG:u5.ownsRow wz.heap.size 9 1 (.slice (some ⟨wz.heap.size,0,none⟩) 1 1) 1 [encS x]:=by
       have o5:=gN (w:=wz) (e:=9) (xs:=[encS x]) rfl (rfl:[encS x].length=1)
       rw [← iL]
       exact o5
      have B5:Below wz.heap.size wz u5:=by rw [← iL];exact ((Below.refl wz.heap.size wz).alloc (Nat.le_refl _) _).drew
      have L5:au u5 u5.heap.size 0 (if c=i then some ad else (some ad).map (·.add i)) (aB (ts.drop i)):=by
       rw [← oP]
       exact (au.stay LZ.out B5).cut i c (by rw [dC,← TN.out];exact TC.out)
      have dh:(aB (ts.drop i)).length=0 * 1:=by rw [dC,List.length_drop,← TN.out];omega
      have dm:∀ v∈(aB (ts.drop i)),v.oneCell'=true:=eT _
      have lG:∀ q,(Value.slice (some ⟨wz.heap.size,0,none⟩) 1 1).ownBlock=some q→wz.heap.size≤q:=fun q e=>by injection e with e;rw [← e];exact Nat.le_refl _
      have Ij:∀ v∈[encS x],v.oneCell'=true:=by intro v hv;simp at hv;subst hv;rfl
      refine ax (i:=9) (by kernel_rfl) rfl (fun K hK=>?_)
      refine eP rfl _ _ 72 rfl wz.heap.size 9 i0 _ 1 16 underlying72 hi0 hz0 hz1 hz2 rfl (by decide) _ 1 [encS x] rfl kG u5.heap.size _ 0 (c - i) (aB (ts.drop i)) 0 rfl dh L5 dm (by unfold maxLen;omega) (by omega) B5.size ?_
      intro v6 w6 hown6 aM ed
      obtain⟨A6,k6,rfl⟩:=aA hown6
      obtain⟨a6,qX,_,hc6⟩:=(aG (B:=0) hown6) (by simp)
      subst qX
      have B6:Below wz.heap.size wz w6:=B5.grown aM B5.size lG
      have S1:=trivial
      refine hK _ _ S1 ?_
      clear aM ed L5 dh dm lG B5 kG
      clear hK K S0
      have S0:=S1
      clear S1
      try simp only [Act.put,pS]
      have L6:au w6 w6.heap.size 0 (some ad) (aB (ts.take i)):=by
       rw [← oQ]
       exact (au.stay LZ.out B6).take _
      have di:(aB (ts.take i)).length=i * 1:=by rw [dC,List.length_take,← TN.out,Nat.min_eq_left (by omega)];omega
      refine ax (i:=10) (by kernel_rfl) rfl (fun K hK=>?_)
      refine fB rfl _ _ 72 rfl wz.heap.size 9 i0 _ 1 16 underlying72 hi0 hz0 hz1 hz2 rfl w6.heap.size 0 (some ad) i (aB (ts.take i)) rfl di L6 (by intro z;first | rfl | cases z) a6 (1+0) k6 ([encS x]++(aB (ts.drop i))) rfl hown6.1 hc6 (fo Ij (eT _)) (by omega) (by unfold maxLen;omega) (by omega) B6.size ?_
      intro v7 w7 bS bR hblk7
      obtain⟨A7,k7,rfl⟩:=aA bS
      have B7:Below wz.heap.size wz w7:=B6.grown bR B6.size (fun q e=>by cases e)
      have S1:=trivial
      refine hK _ _ S1 ?_
      clear bR L6 di
      clear hK K S0
      have S0:=S1
      clear S1
      try simp only [Act.put,pS]
      refine aK 11 ?_ rfl (by kernel_rfl) rfl ?_ S0 ?_
      rotate_left
      ·intro u hu;go_simp;try rfl
      try simp only [Act.put,pS]
      refine wpAnyH_done (by kernel_rfl) ?_ _
      clear S0
      have lF:=hid bS
      have nV:=hid B7
      have qV:=hid hblk7
      clear bS B7 hblk7 hown6 hc6 B6
      generalize (if c=i then some ad else some (ad.add i))=A8
      go_wp2
      go_roundw
      case rel =>
       have iA:(ts.take i++x :: ts.drop i).length=i+(1+0):=by rw [List.length_append,List.length_cons,List.length_take,List.length_drop,← TN.out,Nat.min_eq_left (by omega)];omega
       have CELLS:aB (ts.take i++x :: ts.drop i)=(aB (ts.take i))++([encS x]++(aB (ts.drop i))):=by simp [aB]
       have EC:Sr.canon T9.dL (xs.take (k+1))=(ts.take i++x :: ts.drop i):=by rw [bL X.out,Sr.f_,← TE.out];exact IN.out
       refine⟨k+1,A7,_,k7,rfl,by go_num,by omega,(by rw [EC,iA]),(aO lF.out).2,(fun z=>by subst z;cases qV.out),?_,BZ.out.trans (nV.out.mono BZ.out.size)⟩
       rw [EC]
       show au w7 0 9 A7 (aB (ts.take i++x :: ts.drop i))
       rw [CELLS]
       exact aG (B:=0) lF.out
      case measure=>simp [intOf];omega
  ·obtain rfl:k=n0:=by omega
   have hltz:¬ ((k:Int)<(k:Int)):=by omega
   have ET:ts=Sr.canon T9.dL xs:=by rw [TE.out,HN.out,List.take_length]
   have ET2:=hid ET
   clear ET
   go_wp2
   go_ret
   exact⟨A,c,(by rw [← ET2.out,← TN.out];rfl),(by rw [← ET2.out];exact LO.out),(by rw [← ET2.out,← TN.out];exact TC.out),TZ.out,BO.out⟩
end
section
open Go.RowKit Go.Lib
section
variable {P : Program} {ops : Array Oper} {Q : Exit → Act → World → Prop} {md : Region.Mode} {S : World → Prop} {bad : Nat → Bool}
def gH (P:Program) (md:Region.Mode) (ops:Array Oper) (Q:Exit→Act→World→Prop) (S:World→Prop) (bad:Nat→Bool):Nat→Array Bool→Act→World→Prop
 | 0,ls,a,w=>Region.ready md ops ls=[]∧Q .normal a w
 | f+1,ls,a,w=>(Region.ready md ops ls=[]→Q .normal a w)∧∀ j∈Region.ready md ops ls,wpOp P ops Q j (fun b u=>(bad j=false→S u)∧gH P md ops Q S bad f (ls.setIfInBounds j true) b u) a w
theorem gH.plain:∀ {f:Nat} {ls:Array Bool} {a:Act} {w:World},gH P md ops Q S bad f ls a w→wpAny P md ops Q f ls a w
 | 0,_,_,_,h=>h
 | _+1,_,_,_,h=>⟨h.1,fun j hj=>wpOp_mono (fun _ _ q=>q.2.plain) (h.2 j hj)⟩
theorem gH.first {i:Nat} {oi:Oper} {v:Value} (hi:ops[i]?=some oi) (hsel:Region.noSelect ops=true) (hQ:∀ c a w,Q (.panic c) (a.put oi.dst v) w→Q (.panic c) a w)
  (hw:∀ j os,bad j=true→ops[j]?=some os→∃ e∈os.after,Region.binds md e=true∧e.on=i) (f:Nat) (ls:Array Bool) (a:Act) (w:World)
  (hfree:∀ j oj,ops[j]?=some oj→j≠i→ls.getD j true=false→(∀ e∈oj.after,Region.binds md e=true→e.on≠i)→oi.apart ops oj=true)
  (hr:i∈Region.ready md ops ls) (hy:YieldsIf P ops S oi v a) (hS:S w) (H:gH P md ops Q S bad f (ls.setIfInBounds i true) (a.put oi.dst v) w):gH P md ops Q S bad (f+1) ls a w:=by
 have kF:=Region.noSelect_spec hsel
 induction f generalizing ls a w with
 | zero =>
  refine⟨fun e=>absurd hr (by rw [e];simp),fun j hj=>?_⟩
  rcases Nat.decEq j i with q | q
  ·exact absurd (ready_mono hj q) (by rw [H.1];simp)
  ·subst q
   exact hy.wpOp hi hS ⟨fun _=>hS,H⟩
 | succ f ih =>
  refine⟨fun e=>absurd hr (by rw [e];simp),fun j hj=>?_⟩
  rcases Nat.decEq j i with q | q
  ·obtain⟨un,oj,hoj,_⟩:=mem_ready.1 hj
   have now:bad j=false:=by
    cases hb:bad j with
    | false=>rfl
    | true =>
     obtain⟨e,he,hb,hon⟩:=hw j oj hb hoj
     exact absurd hon (waits hr hj hoj e he hb)
   have stays:∀ k ok,ops[k]?=some ok→k≠i→(ls.setIfInBounds j true).getD k true=false→(∀ e∈ok.after,Region.binds md e=true→e.on≠i)→oi.apart ops ok=true:=by
    intro k ok hk hki hun hno
    refine hfree k ok hk hki ?_ hno
    rcases Nat.decEq j k with r | r
    ·rwa [getD_set_ne true r] at hun
    ·rw [← r];exact un
   have next:=wpOp_putIf hoj (hfree j oj hoj q un (waits hr hj hoj)) (fun cs b=>kF i oi cs b hi) (fun cs b=>kF j oj cs b hoj) hQ hy (H.2 j (ready_mono hj q))
   refine wpOp_mono (fun b u g=>⟨g.2.1,ih _ b u stays (ready_mono hr (Ne.symm q)) g.1 (g.2.1 now) ?_⟩) next
   rw [Array.setIfInBounds_comm _ _ q]
   exact g.2.2
  ·subst q
   exact hy.wpOp hi hS ⟨fun _=>hS,H⟩
theorem gH.take {i:Nat} {oi:Oper} {v:Value} {f:Nat} {ls:Array Bool} {a:Act} {w:World} (hi:ops[i]?=some oi) (hsel:Region.noSelect ops=true) (hf:Region.free md ops ls i=true) (hr:(Region.ready md ops ls).contains i=true)
  (hb:∀ j,bad j=true→j<ops.size→j∈List.range ops.size) (hw:((List.range ops.size).all fun j=>!bad j || (match ops[j]? with | some o=>o.after.any fun e=>Region.binds md e && e.on==i | none=>true))=true) (hQ:∀ c a w,Q (.panic c) (a.put oi.dst v) w→Q (.panic c) a w) (hy:YieldsIf P ops S oi v a) (hS:S w)
  (H:gH P md ops Q S bad f (ls.setIfInBounds i true) (a.put oi.dst v) w):gH P md ops Q S bad (f+1) ls a w:=by
 refine gH.first hi hsel hQ (fun j os hj ho=>?_) f ls a w (Region.free_spec hi hf) (by simpa using hr) hy hS H
 have hlt:j<ops.size:=by
  rcases Nat.lt_or_ge j ops.size with q | q
  ·exact q
  ·rw [Array.getElem?_eq_none q] at ho;cases ho
 have q:=List.all_eq_true.1 hw j (hb j hj hlt)
 rw [hj,ho] at q
 simp only [Bool.not_true,Bool.false_or] at q
 obtain⟨e,he,hb⟩:=Array.any_eq_true'.1 q
 simp only [Bool.and_eq_true,beq_iff_eq] at hb
 exact⟨e,he,hb.1,hb.2⟩
theorem gH.one {i:Nat} {oi:Oper} {f:Nat} {ls:Array Bool} {a:Act} {w:World} (hr:Region.ready md ops ls=[i]) (hi:ops[i]?=some oi)
  (h:∀ K:Act→World→Prop,(∀ b u,(bad i=false→S u)→gH P md ops Q S bad f (ls.setIfInBounds i true) b u→K b u)→if Region.wanted oi (yielded ops a.tmps)=true then Oper.wp P oi a w K Q else K (a.put oi.dst undef) w):gH P md ops Q S bad (f+1) ls a w:=by
 refine⟨fun e=>absurd e (by rw [hr];simp),fun j hj=>?_⟩
 rw [hr,List.mem_singleton] at hj
 subst hj
 exact wpOp_step hi (fun K hK=>h K (fun b u q1 q2=>hK b u ⟨q1,q2⟩))
theorem gH.done {ls:Array Bool} {a:Act} {w:World} {f:Nat} (hr:Region.ready md ops ls=[]) (h:Q .normal a w):gH P md ops Q S bad f ls a w:=by
 cases f with
 | zero=>exact⟨hr,h⟩
 | succ f=>exact⟨fun _=>h,fun j hj=>by rw [hr] at hj;cases hj⟩
theorem gH.begin {id:Nat} {a:Act} {w:World} (hm:P.follows .mixedOrders=true) (h:gH P .any ops Q S bad ops.size (Array.replicate ops.size false) a w.drew):(Code.region id ops true).wp P Q a w :=
 wp_region_any hm h.plain
end
theorem jo (x:aL) (o:List aL):ay (Sr.ins iy x o)=Sr.ins T9.iT x.t (ay o):=by
 induction o with
 | nil=>rfl
 | cons y o ih =>
  show ay (if iy y x=true then y :: Sr.ins iy x o else if iy x y=true then x :: y :: o else y :: o)=if T9.iT y.t x.t=true then y.t :: Sr.ins T9.iT x.t (ay o) else if T9.iT x.t y.t=true then x.t :: y.t :: ay o else y.t :: ay o
  show _=if iy y x=true then y.t :: Sr.ins T9.iT x.t (ay o) else if iy x y=true then x.t :: y.t :: ay o else y.t :: ay o
  split
  ·rw [← ih];rfl
  ·split <;> rfl
theorem aF {w:World} {g:Nat} {i:Nat} {u:Value} {t t0:TypeId} {A:Option Addr} {xs:List Value} (h:au w 0 t A xs) (hg:Ty w g t0) (ht:t≠t0):au (w.setCell ⟨g,i,none⟩ u) 0 t A xs :=
 h.bH ((aN.refl 0 [t0] w).aC (p:=⟨g,i,none⟩) hg (by simp) (Nat.zero_le _) u) (by simpa using ht)
def Fp (s:T9.St) (w:World) (e:Ending) (w':World):Prop:=∃ m:aW,e=.returned m.val∧m.st=s∧au w' 0 71 m.A (aJ m.ls)∧au w' 0 74 m.A2 (ai m.ms)∧(∀ q∈m.ms,q.bU w')∧m.ls.length≤m.c∧m.ms.length≤m.c2∧(m.A=none→m.c=0)∧(m.A2=none→m.c2=0)∧Below w.heap.size w w'
theorem p9 {ls:List T9.Li} {A1:Option Addr} {c1 n1:Nat} {ms:List aL} {A2:Option Addr} {c2 n2:Nat} {w:World} (hl:LL w A1 ls) (hk:KL w A2 ms) (en1:n1=ls.length) (en2:n2=ms.length) (h1:n1≤1000) (h2:n2≤1000) (h3:∀ t∈ms,t.t.tags.length≤1000) :
  Calls prog 74 #[.agg #[.slice A1 n1 c1,.slice A2 n2 c2]] w (Fp (T9.canon ⟨ls,ay ms⟩) w):=by
 have HL:=hid hl
 have HK:=hid hk
 have H3:=hid h3
 have N1:=hid en1
 have N2:=hid en2
 obtain⟨wx,hwx⟩:∃ u,w.alloc (.cells #[.slice A1 n1 c1,.slice A2 n2 c2] 25)=u:=⟨_,rfl⟩
 obtain⟨px,bx,zx⟩:=ak hwx
 obtain⟨wy,qY⟩:∃ u,wx.alloc (.cells #[.slice none 0 0,.slice none 0 0] 25)=u:=⟨_,rfl⟩
 obtain⟨py,bY,zy⟩:=ak qY
 obtain⟨wB,iR⟩:∃ u,wy.alloc (.cells #[.slice none 0 0,.slice none 0 0] 25)=u:=⟨_,rfl⟩
 obtain⟨pz,bz,zz⟩:=ak iR
 rw [zx] at py
 rw [zy,zx] at pz
 have BB:Hid (Below w.heap.size w wB):=hid ((bx.trans (bY.mono (by omega))).trans (bz.mono (by omega)))
 have PX:Hid (wB.heap[w.heap.size]?=some (.cells #[.slice A1 n1 c1,.slice A2 n2 c2] 25 (0,0))):=hid (ae (ae px bY) bz)
 have PY:Hid (wB.heap[w.heap.size+1]?=some (.cells #[.slice none 0 0,.slice none 0 0] 25 (0,0))):=hid (ae py bz)
 have PZ:Hid (wB.heap[w.heap.size+2]?=some (.cells #[.slice none 0 0,.slice none 0 0] 25 (0,0))):=hid pz
 have zxx:wx.heap.size=w.heap.size+1:=zx
 have zyy:wy.heap.size=w.heap.size+2:=by omega
 obtain⟨x0,x1⟩:=aa PX.out
 clear hl hk h3 en1 en2 px bx zx py bY zy pz bz zz
 go_enter func74,ntmps74
 go_wp2_with fail
 clear hwx qY iR zxx zyy
 go_loopw [11] (fun s11 wr=>∃ (k:Nat) (A:Option Addr) (n c:Nat),s11=.int .i64 k∧k≤n1∧n=(Sr.canon T9.iN (ls.take k)).length∧n≤c∧(A=none→c=0)∧Aside (au wr 0 71 A (aJ (Sr.canon T9.iN (ls.take k)))∧wr.heap[w.heap.size+2]?=some (.cells #[.slice A n c,.slice none 0 0] 25 (0,0))∧wr.heap[w.heap.size]?=some (.cells #[.slice A1 n1 c1,.slice A2 n2 c2] 25 (0,0))∧wr.heap[w.heap.size+1]?=some (.cells #[.slice none 0 0,.slice none 0 0] 25 (0,0))∧Below w.heap.size w wr)) (fun s11 _=>n1 - (intOf s11).toNat)
 case atStart=>exact⟨0,none,0,0,rfl,Nat.zero_le _,rfl,Nat.le_refl _,fun _=>rfl,au.nil,PZ.out,PX.out,PY.out,BB.out⟩
 case round =>
  obtain⟨wo,hwo⟩:∃ u,u=wr:=⟨_,rfl⟩
  subst hwo
  obtain⟨k,A,n,c,rfl,hk,hn,hc,hz,hI⟩:=hrel
  have HI:=hid hI.out
  have TN:=hid hn
  have TC:=hid hc
  have TZ:=hid hz
  have nk:n≤1000:=by
   rw [hn]
   refine Nat.le_trans (Sr.dB _) ?_
   rw [List.length_take]
   omega
  clear hI hn hc hz
  by_cases hlt:k<n1
  ·have hltz:(k:Int)<(n1:Int):=by omega
   obtain⟨ad,l,hA,hx,r0,r1⟩:=(HL.out.stay HI.out.2.2.2.2).at_ (k:=k) (by rw [← N1.out];exact hlt)
   subst hA
   have X:=hid hx
   clear hx
   obtain⟨wq,hwq⟩:∃ u,wo.alloc (.cells #[.int .u64 (l.id:Int),.string (str l.name)] 71)=u:=⟨_,rfl⟩
   obtain⟨lb,bq,zq⟩:=ak hwq
   have gq:=ae HI.out.2.1 bq
   obtain⟨g0,g1⟩:=aa gq
   obtain⟨l0,l1⟩:=aa lb
   have BQ:=hid bq
   have WL:=hid (um (x:=l) (bG HI.out.1 bq) TN.out TC.out TZ.out nk)
   clear lb bq zq gq
   go_wp2_with fail
   refine WL.out.mono ?_
   rintro e w3 ⟨A3,c3,rfl,hl3,hc3,hz3,hb3⟩
   obtain⟨n3,hn3⟩:∃ v,v=(Sr.ins T9.iN l (Sr.canon T9.iN (ls.take k))).length:=⟨_,rfl⟩
   rw [← hn3] at hc3 ⊢
   have ES:Hid (Sr.canon T9.iN (ls.take (k+1))=Sr.ins T9.iN l (Sr.canon T9.iN (ls.take k))):=hid (by rw [bL X.out,Sr.f_])
   have N3:=hid hn3
   have C3:=hid hc3
   have Z3:=hid hz3
   have L3:=hid hl3
   have BO3:=hid (BQ.out.trans (hb3.mono BQ.out.size))
   have G3:=hid (ae HI.out.2.1 BO3.out)
   have X3:=hid (ae HI.out.2.2.1 BO3.out)
   have Y3:=hid (ae HI.out.2.2.2.1 BO3.out)
   have B3:=hid (HI.out.2.2.2.2.trans (BO3.out.mono HI.out.2.2.2.2.size))
   have f3:=af G3.out 0
   clear hn3 hc3 hz3 hl3 hb3 g0 g1 l0 l1
   obtain⟨g0,g1⟩:=aa G3.out
   obtain⟨w4,hw4⟩:∃ u,w3.setCell ⟨w.heap.size+2,0,none⟩ (.slice A3 n3 c3)=u:=⟨_,rfl⟩
   have L4:Hid (au w4 0 71 A3 (aJ (Sr.canon T9.iN (ls.take (k+1))))):=hid (by rw [← hw4,ES.out];exact aF L3.out ⟨_,_,G3.out⟩ (by decide))
   have G4:Hid (w4.heap[w.heap.size+2]?=some (.cells #[.slice A3 n3 c3,.slice none 0 0] 25 (0,0))):=hid (by rw [← hw4];exact (ah G3.out 0 (.slice A3 n3 c3)).trans rfl)
   have X4:Hid (w4.heap[w.heap.size]?=some (.cells #[.slice (some ad) n1 c1,.slice A2 n2 c2] 25 (0,0))):=hid (by rw [← hw4];exact av X3.out (p:=⟨w.heap.size+2,0,none⟩) (by show w.heap.size≠w.heap.size+2;omega) _)
   have Y4:Hid (w4.heap[w.heap.size+1]?=some (.cells #[.slice none 0 0,.slice none 0 0] 25 (0,0))):=hid (by rw [← hw4];exact av Y3.out (p:=⟨w.heap.size+2,0,none⟩) (by show w.heap.size+1≠w.heap.size+2;omega) _)
   have B4:Hid (Below w.heap.size w w4):=hid (by rw [← hw4];exact B3.out.setCell (by show w.heap.size≤w.heap.size+2;omega) _)
   go_wp2
   go_roundw
   case rel=>exact⟨k+1,A3,n3,c3,by go_num,by omega,(by rw [ES.out];exact N3.out),C3.out,Z3.out,L4.out,G4.out,X4.out,Y4.out,B4.out⟩
   case measure=>simp [intOf];omega
  ·obtain rfl:k=n1:=by omega
   have hltz:¬ ((k:Int)<(k:Int)):=by omega
   have EL:Hid (Sr.canon T9.iN (ls.take k)=Sr.canon T9.iN ls):=hid (by rw [N1.out,List.take_length])
   obtain⟨q0,q1⟩:=aa HI.out.2.2.1
   go_wp2_with fail
   go_loopw [24] (fun s24 wr=>∃ (i:Nat) (B:Option Addr) (m d:Nat) (O:List aL),s24=.int .i64 i∧i≤n2∧m=O.length∧m≤i∧m≤d∧(B=none→d=0)∧Aside (ay O=Sr.canon T9.iT ((ay (ms.take i)).map T9.norm)∧au wr 0 74 B (ai O)∧(∀ m∈O,m.bU wr)∧au wr 0 71 A (aJ (Sr.canon T9.iN ls))∧wr.heap[w.heap.size+2]?=some (.cells #[.slice A n c,.slice B m d] 25 (0,0))∧wr.heap[w.heap.size+1]?=some (.cells #[.slice none 0 0,.slice none 0 0] 25 (0,0))∧Below w.heap.size w wr)) (fun s24 _=>n2 - (intOf s24).toNat)
   case atStart=>exact⟨0,none,0,0,[],rfl,Nat.zero_le _,rfl,Nat.le_refl _,Nat.le_refl _,fun _=>rfl,rfl,au.nil,by simp,by rw [← EL.out];exact HI.out.1,HI.out.2.1,HI.out.2.2.2.1,HI.out.2.2.2.2⟩
   case round =>
    obtain⟨wv,hwv⟩:∃ u,u=wr:=⟨_,rfl⟩
    subst hwv
    obtain⟨i,B,m,d,O,rfl,hi,hm,hmi,hmd,hB,hJ⟩:=hrel
    have HJ:=hid hJ.out
    have MN:=hid hm
    have MD:=hid hmd
    have MZ:=hid hB
    clear hJ hm hmd hB
    by_cases hlt2:i<n2
    ·have sJ:(i:Int)<(n2:Int):=by omega
     obtain⟨ad2,⟨tk,A3,c3⟩,hA,hx,hf,r0,r1,r2,r3,r4,r5,r6⟩:=(HK.out.stay HJ.out.2.2.2.2.2.2).at_ (k:=i) (by rw [← N2.out];exact hlt2)
     subst hA
     have X:=hid hx
     have h1000:=H3.out _ (List.mem_of_getElem? hx)
     have FI:Hid ((⟨tk,A3,c3⟩:aL).fine wv):=hid hf
     clear hx hf
     dsimp only at h1000 r0 r1 r2 r3 r4 r5 r6
     obtain⟨wq,hwq⟩:∃ u,wv.alloc (.cells #[.int .u64 (tk.id:Int),.int .u64 (tk.list:Int),.string (str tk.title),.bool tk.done,.float .f64 tk.rank,.float .f64 tk.est,.slice A3 tk.tags.length c3] 74)=u:=⟨_,rfl⟩
     obtain⟨lb,bq,zq⟩:=bn hwq
     have LB:=hid lb
     have BQ:=hid bq
     have GT:Hid (GL wq.drew A3 tk.tags):=hid (FI.out.gl.stay bq.drew)
     have TX:=hid (C9 (c0:=c3) GT.out rfl h1000)
     have zv:wv.heap.size<wq.heap.size:=by omega
     clear lb bq zq
     go_wp2_with fail
     have S0:wq.drew.heap[wv.heap.size]?=some (.cells #[.int .u64 (tk.id:Int),.int .u64 (tk.list:Int),.string (str tk.title),.bool tk.done,.float .f64 tk.rank,.float .f64 tk.est,.slice A3 tk.tags.length c3] 74 (0,0)):=LB.out
     refine gH.begin (S:=fun u=>u.heap[wv.heap.size]?=some (.cells #[.int .u64 (tk.id:Int),.int .u64 (tk.list:Int),.string (str tk.title),.bool tk.done,.float .f64 tk.rank,.float .f64 tk.est,.slice A3 tk.tags.length c3] 74 (0,0))) (bad:=fun j=>decide (10≤j)) jd ?_
     refine gH.take (i:=0) (v:=?_) rfl (by kernel_rfl) (by kernel_rfl) (by kernel_rfl) (fun j _ hj=>List.mem_range.2 hj) (by kernel_rfl) (fun _ _ _ h=>h) (Or.inl ⟨by rfl,?_⟩) S0 ?_
     rotate_left
     ·intro u hu
      go_simp
      try rfl
     try simp only [Act.put,pS]
     refine gH.take (i:=1) (v:=?_) rfl (by kernel_rfl) (by kernel_rfl) (by kernel_rfl) (fun j _ hj=>List.mem_range.2 hj) (by kernel_rfl) (fun _ _ _ h=>h) (Or.inl ⟨by rfl,?_⟩) S0 ?_
     rotate_left
     ·intro u hu
      obtain⟨l0,l1,l2,l3,l4,l5,l6⟩:=aj (show u.heap[wv.heap.size]?=_ from hu)
      go_simp
      try rfl
     try simp only [Act.put,pS]
     refine gH.take (i:=3) (v:=?_) rfl (by kernel_rfl) (by kernel_rfl) (by kernel_rfl) (fun j _ hj=>List.mem_range.2 hj) (by kernel_rfl) (fun _ _ _ h=>h) (Or.inl ⟨by rfl,?_⟩) S0 ?_
     rotate_left
     ·intro u hu
      go_simp
      try rfl
     try simp only [Act.put,pS]
     refine gH.take (i:=4) (v:=?_) rfl (by kernel_rfl) (by kernel_rfl) (by kernel_rfl) (fun j _ hj=>List.mem_range.2 hj) (by kernel_rfl) (fun _ _ _ h=>h) (Or.inl ⟨by rfl,?_⟩) S0 ?_
     rotate_left
     ·intro u hu
      obtain⟨l0,l1,l2,l3,l4,l5,l6⟩:=aj (show u.heap[wv.heap.size]?=_ from hu)
      go_simp
      try rfl
     try simp only [Act.put,pS]
     refine gH.take (i:=6) (v:=?_) rfl (by kernel_rfl) (by kernel_rfl) (by kernel_rfl) (fun j _ hj=>List.mem_range.2 hj) (by kernel_rfl) (fun _ _ _ h=>h) (Or.inl ⟨by rfl,?_⟩) S0 ?_
     rotate_left
     ·intro u hu
      go_simp
      try rfl
     try simp only [Act.put,pS]
     refine gH.take (i:=7) (v:=?_) rfl (by kernel_rfl) (by kernel_rfl) (by kernel_rfl) (fun j _ hj=>List.mem_range.2 hj) (by kernel_rfl) (fun _ _ _ h=>h) (Or.inl ⟨by rfl,?_⟩) S0 ?_
     rotate_left
     ·intro u hu
      obtain⟨l0,l1,l2,l3,l4,l5,l6⟩:=aj (show u.heap[wv.heap.size]?=_ from hu)
      go_simp
      try rfl
     try simp only [Act.put,pS]
     refine gH.one (i:=2) (by kernel_rfl) rfl (fun K hK=>?_)
     go_simp
     refine (iG _ _).mono ?_
     rintro e w' ⟨rfl,rfl⟩
     refine hK _ _ (fun _=>S0) ?_
     clear hK K
     try simp only [Act.put,pS]
     refine gH.take (i:=9) (v:=?_) rfl (by kernel_rfl) (by kernel_rfl) (by kernel_rfl) (fun j _ hj=>List.mem_range.2 hj) (by kernel_rfl) (fun _ _ _ h=>h) (Or.inl ⟨by rfl,?_⟩) S0 ?_
     rotate_left
     ·intro u hu
      go_simp
      try rfl
     try simp only [Act.put,pS]
     refine gH.one (i:=5) (by kernel_rfl) rfl (fun K hK=>?_)
     go_simp
     refine (iG _ _).mono ?_
     rintro e w' ⟨rfl,rfl⟩
     refine hK _ _ (fun _=>S0) ?_
     clear hK K
     try simp only [Act.put,pS]
     refine gH.one (i:=8) (by kernel_rfl) rfl (fun K hK=>?_)
     go_simp
     refine TX.out.mono ?_
     rintro e wt ⟨A5,c5,rfl,hl5,hc5,_,hb5⟩
     obtain⟨n5,hn5⟩:∃ v,v=(Sr.canon T9.dL tk.tags).length:=⟨_,rfl⟩
     rw [← hn5] at hc5 ⊢
     have N5:=hid hn5
     have C5:=hid hc5
     have L5:=hid hl5
     have BT:Hid (Below wv.heap.size wv wt):=hid (BQ.out.drew.trans (hb5.mono (show wv.heap.size≤wq.drew.heap.size from Nat.le_of_lt zv)))
     have G5:Hid (wt.heap[wv.heap.size]?=some (.cells #[.int .u64 (tk.id:Int),.int .u64 (tk.list:Int),.string (str tk.title),.bool tk.done,.float .f64 tk.rank,.float .f64 tk.est,.slice A3 tk.tags.length c3] 74 (0,0))):=hid (ae (w:=wq.drew) S0 hb5)
     refine hK _ _ (fun _=>G5.out) ?_
     clear hK K S0 hn5 hc5 hl5 hb5
     try simp only [Act.put,pS]
     obtain⟨y0,y1,y2,y3,y4,y5,y6⟩:=aj G5.out
     have fz:=af G5.out 4
     refine gH.one (i:=10) (by kernel_rfl) rfl (fun K hK=>?_)
     go_simp
     obtain⟨u1x,GY⟩:∃ u,wt.setCell ⟨wv.heap.size,4,none⟩ (.float .f64 (Fl.canon tk.rank))=u:=⟨_,rfl⟩
     rw [GY]
     have Gu1x:Hid (u1x.heap[wv.heap.size]?=some (.cells #[.int .u64 (tk.id:Int),.int .u64 (tk.list:Int),.string (str tk.title),.bool tk.done,.float .f64 (Fl.canon tk.rank),.float .f64 tk.est,.slice A3 tk.tags.length c3] 74 (0,0))):=hid (by rw [← GY];exact (ah G5.out 4 (.float .f64 (Fl.canon tk.rank))).trans rfl)
     have Lu1x:Hid (au u1x 0 9 A5 (aB (Sr.canon T9.dL tk.tags))):=hid (by rw [← GY];exact aF L5.out ⟨_,_,G5.out⟩ (by decide))
     have Bu1x:Hid (Below wv.heap.size wv u1x):=hid (by rw [← GY];exact BT.out.setCell (by show wv.heap.size≤wv.heap.size;omega) _)
     refine hK _ _ (fun e=>absurd e (by decide)) ?_
     clear hK K y0 y1 y2 y3 y4 y5 y6 fz GY
     try simp only [Act.put,pS]
     refine gH.one (i:=11) (by kernel_rfl) rfl (fun K hK=>?_)
     go_simp
     refine hK _ _ (fun e=>absurd e (by decide)) ?_
     clear hK K
     try simp only [Act.put,pS]
     obtain⟨y0,y1,y2,y3,y4,y5,y6⟩:=aj Gu1x.out
     have fz:=af Gu1x.out 5
     refine gH.one (i:=12) (by kernel_rfl) rfl (fun K hK=>?_)
     go_simp
     obtain⟨u2x,G9⟩:∃ u,u1x.setCell ⟨wv.heap.size,5,none⟩ (.float .f64 (Fl.canon tk.est))=u:=⟨_,rfl⟩
     rw [G9]
     have Gu2x:Hid (u2x.heap[wv.heap.size]?=some (.cells #[.int .u64 (tk.id:Int),.int .u64 (tk.list:Int),.string (str tk.title),.bool tk.done,.float .f64 (Fl.canon tk.rank),.float .f64 (Fl.canon tk.est),.slice A3 tk.tags.length c3] 74 (0,0))):=hid (by rw [← G9];exact (ah Gu1x.out 5 (.float .f64 (Fl.canon tk.est))).trans rfl)
     have Lu2x:Hid (au u2x 0 9 A5 (aB (Sr.canon T9.dL tk.tags))):=hid (by rw [← G9];exact aF Lu1x.out ⟨_,_,Gu1x.out⟩ (by decide))
     have Bu2x:Hid (Below wv.heap.size wv u2x):=hid (by rw [← G9];exact Bu1x.out.setCell (by show wv.heap.size≤wv.heap.size;omega) _)
     refine hK _ _ (fun e=>absurd e (by decide)) ?_
     clear hK K y0 y1 y2 y3 y4 y5 y6 fz G9
     try simp only [Act.put,pS]
     refine gH.one (i:=13) (by kernel_rfl) rfl (fun K hK=>?_)
     go_simp
     refine hK _ _ (fun e=>absurd e (by decide)) ?_
     clear hK K
     try simp only [Act.put,pS]
     obtain⟨y0,y1,y2,y3,y4,y5,y6⟩:=aj Gu2x.out
     have fz:=af Gu2x.out 6
     refine gH.one (i:=14) (by kernel_rfl) rfl (fun K hK=>?_)
     go_simp
     obtain⟨u3x,G_⟩:∃ u,u2x.setCell ⟨wv.heap.size,6,none⟩ (.slice A5 n5 c5)=u:=⟨_,rfl⟩
     rw [G_]
     have Gu3x:Hid (u3x.heap[wv.heap.size]?=some (.cells #[.int .u64 (tk.id:Int),.int .u64 (tk.list:Int),.string (str tk.title),.bool tk.done,.float .f64 (Fl.canon tk.rank),.float .f64 (Fl.canon tk.est),.slice A5 n5 c5] 74 (0,0))):=hid (by rw [← G_];exact (ah Gu2x.out 6 (.slice A5 n5 c5)).trans rfl)
     have Lu3x:Hid (au u3x 0 9 A5 (aB (Sr.canon T9.dL tk.tags))):=hid (by rw [← G_];exact aF Lu2x.out ⟨_,_,Gu2x.out⟩ (by decide))
     have Fa:Hid (Below wv.heap.size wv u3x):=hid (by rw [← G_];exact Bu2x.out.setCell (by show wv.heap.size≤wv.heap.size;omega) _)
     refine hK _ _ (fun e=>absurd e (by decide)) ?_
     clear hK K y0 y1 y2 y3 y4 y5 y6 fz G_
     try simp only [Act.put,pS]
     refine gH.done (by kernel_rfl) ?_
     clear TX GT zv
     obtain⟨y0,y1,y2,y3,y4,y5,y6⟩:=aj Gu3x.out
     have gs:=ae HJ.out.2.2.2.2.1 Fa.out
     obtain⟨g0,g1⟩:=aa gs
     have XF:Hid ((⟨T9.norm tk,A5,c5⟩:aL).bU u3x):=hid ⟨Lu3x.out,by show (Sr.canon T9.dL tk.tags).length≤c5;rw [← N5.out];exact C5.out⟩
     have WT:=hid (eY (x:=⟨T9.norm tk,A5,c5⟩) (bG HJ.out.2.1 Fa.out) (fun q hq=>(HJ.out.2.2.1 q hq).stay Fa.out) XF.out MN.out MD.out MZ.out (by omega))
     rw [show (T9.norm tk).tags.length=n5 from N5.out.symm] at WT
     clear gs
     go_wp2_with fail
     refine WT.out.mono ?_
     rintro e w7 ⟨B7,d7,rfl,hl7,ha7,hd7,hz7,EW⟩
     obtain⟨m7,hm7⟩:∃ v,v=(Sr.ins iy ⟨T9.norm tk,A5,c5⟩ O).length:=⟨_,rfl⟩
     rw [← hm7] at hd7 ⊢
     have M7:=hid hm7
     have m7i:m7≤i+1:=by
      have:=MN.out
      have:=Sr.mQ (lt:=iy) (⟨T9.norm tk,A5,c5⟩:aL) O
      omega
     have D7:=hid hd7
     have Z7:=hid hz7
     have L7:=hid hl7
     have A7:=hid ha7
     have BO7:=hid (Fa.out.trans (EW.mono Fa.out.size))
     have G7:=hid (ae HJ.out.2.2.2.2.1 BO7.out)
     have Y7:=hid (ae HJ.out.2.2.2.2.2.1 BO7.out)
     have B7':=hid (HJ.out.2.2.2.2.2.2.trans (BO7.out.mono HJ.out.2.2.2.2.2.2.size))
     have LL7:=hid (bG HJ.out.2.2.2.1 BO7.out)
     have f7:=af G7.out 1
     clear hm7 hd7 hz7 hl7 ha7 EW g0 g1 y0 y1 y2 y3 y4 y5 y6
     obtain⟨g0,g1⟩:=aa G7.out
     obtain⟨w8,hw8⟩:∃ u,w7.setCell ⟨w.heap.size+2,1,none⟩ (.slice B7 m7 d7)=u:=⟨_,rfl⟩
     have TY8:Hid (Ty w7 (w.heap.size+2) 25):=hid ⟨_,_,G7.out⟩
     have L8:Hid (au w8 0 74 B7 (ai (Sr.ins iy ⟨T9.norm tk,A5,c5⟩ O))):=hid (by rw [← hw8];exact aF L7.out TY8.out (by decide))
     have A8:Hid (∀ q∈Sr.ins iy ⟨T9.norm tk,A5,c5⟩ O,q.bU w8):=hid (by rw [← hw8];exact fun q hq=>⟨aF (A7.out q hq).1 TY8.out (by decide),(A7.out q hq).2⟩)
     have LL8:Hid (au w8 0 71 A (aJ (Sr.canon T9.iN ls))):=hid (by rw [← hw8];exact aF LL7.out TY8.out (by decide))
     have G8:Hid (w8.heap[w.heap.size+2]?=some (.cells #[.slice A n c,.slice B7 m7 d7] 25 (0,0))):=hid (by rw [← hw8];exact (ah G7.out 1 (.slice B7 m7 d7)).trans rfl)
     have Y8:Hid (w8.heap[w.heap.size+1]?=some (.cells #[.slice none 0 0,.slice none 0 0] 25 (0,0))):=hid (by rw [← hw8];exact av Y7.out (p:=⟨w.heap.size+2,1,none⟩) (by show w.heap.size+1≠w.heap.size+2;omega) _)
     have B8:Hid (Below w.heap.size w w8):=hid (by rw [← hw8];exact B7'.out.setCell (by show w.heap.size≤w.heap.size+2;omega) _)
     have E8:Hid (ay (Sr.ins iy ⟨T9.norm tk,A5,c5⟩ O)=Sr.canon T9.iT ((ay (ms.take (i+1))).map T9.norm)):=hid (by rw [jo,HJ.out.1,bL X.out,fC,List.map_append,List.map_singleton,Sr.f_])
     go_wp2
     go_roundw
     case rel=>exact⟨i+1,B7,m7,d7,Sr.ins iy ⟨T9.norm tk,A5,c5⟩ O,by go_num,by omega,M7.out,m7i,D7.out,Z7.out,E8.out,L8.out,A8.out,LL8.out,G8.out,Y8.out,B8.out⟩
     case measure=>simp [intOf];omega
    ·obtain rfl:i=n2:=by omega
     have sJ:¬ ((i:Int)<(i:Int)):=by omega
     obtain⟨g0,g1⟩:=aa HJ.out.2.2.2.2.1
     obtain⟨d0,d1⟩:=aa HJ.out.2.2.2.2.2.1
     have jC:=af HJ.out.2.2.2.2.2.1 0
     have jl:=af HJ.out.2.2.2.2.2.1 1
     have RBF:Hid (((wv.setCell ⟨w.heap.size+1,0,none⟩ (.slice A n c)).setCell ⟨w.heap.size+1,1,none⟩ (.slice B m d)).heap[w.heap.size+1]?=some (.cells #[.slice A n c,.slice B m d] 25 (0,0))):=hid ((ah (ah HJ.out.2.2.2.2.2.1 0 (.slice A n c)) 1 (.slice B m d)).trans rfl)
     obtain⟨k0,k1⟩:=aa RBF.out
     have ET:Hid (ay O=(Sr.canon T9.iT (ay ms)).map T9.norm):=hid (by
      rw [HJ.out.1,N2.out,List.take_length]
      exact Sr.uQ (fun _ _=>rfl) (ay ms))
     have TNL:Hid (n=(Sr.canon T9.iN ls).length):=hid (by rw [← EL.out];exact TN.out)
     go_wp2
     refine bodyPost_ret (v:=.agg #[.slice A n c,.slice B m d]) (by simp [results,results74,go_sem,k0,k1]) rfl ?_
     have yv:Ty wv (w.heap.size+1) 25:=⟨_,_,HJ.out.2.2.2.2.2.1⟩
     have TF:=((aN.refl 0 [25] wv).aC (p:=⟨w.heap.size+1,0,none⟩) yv (by simp) (Nat.zero_le _) (.slice A n c)).aC (p:=⟨w.heap.size+1,1,none⟩) (yv.set _ _) (by simp) (Nat.zero_le _) (.slice B m d)
     refine⟨⟨Sr.canon T9.iN ls,A,c,O,B,d⟩,?_,?_,?_,?_,?_,?_,?_,TZ.out,MZ.out,?_⟩
     ·show _=Ending.returned (Value.agg #[.slice A (Sr.canon T9.iN ls).length c,.slice B O.length d])
      rw [← TNL.out,← MN.out]
     ·show (⟨Sr.canon T9.iN ls,ay O⟩:T9.St)=_
      rw [ET.out];rfl
     ·exact HJ.out.2.2.2.1.bH TF (by decide)
     ·exact HJ.out.2.1.bH TF (by decide)
     ·exact fun q hq=>⟨(HJ.out.2.2.1 q hq).1.bH TF (by decide),(HJ.out.2.2.1 q hq).2⟩
     ·show (Sr.canon T9.iN ls).length≤c
      rw [← TNL.out];exact TC.out
     ·show O.length≤d
      rw [← MN.out];exact MD.out
     ·exact (HJ.out.2.2.2.2.2.2.setCell (by show w.heap.size≤w.heap.size+1;omega) _).setCell (by show w.heap.size≤w.heap.size+1;omega) _
end
end
end Go.Proofs.YtcedlgedmkghgaaGreat
