import Derived.Test.YtcmiompdjjiojaaGreatZ7
import Derived.StillTailTactics
namespace Go.Proofs.YtcmiompdjjiojaaGreat
set_option maxHeartbeats 16000000
open Go.Lib Go.Proofs.Tryz
set_option linter.unusedSimpArgs false
set_option maxRecDepth 100000
section
section
open Go.RowKit Go.Lib
theorem wY {A A2:Option Addr} {n c n2 c2:Nat} {ls ks:List (List UInt8)} {w:World} (h:GL w A ls) (h2:GL w A2 ks) (hn:n=ls.length) (hn2:n2=ks.length) (hs:n≤1000000) :
  Calls prog 66 #[.slice A n c,.slice A2 n2 c2] w fun e w'=>e=.returned (.bool (decide (ls=ks)))∧∃ j,w'=w.drewN j:=by
 have H:=hid h
 have H2:=hid h2
 have HN:=hid hn
 have rD:=hid hn2
 clear h h2 hn hn2
 by_cases hl:n=n2
 ·subst hl
  have HL:=hid (HN.out.symm.trans rD.out)
  go_enter func66,ntmps66
  go_wp2_with fail
  go_loopw [13] (fun i wr=>∃ k j:Nat,k≤n∧i=.int .i64 k∧ls.take k=ks.take k∧wr=w.drewN j) (fun i _=>n - (intOf i).toNat)
  case atStart=>exact⟨0,0,Nat.zero_le _,rfl,rfl,rfl⟩
  case round =>
   obtain⟨k,j,hk,rfl,he,rfl⟩:=hrel
   have HE:=hid he
   clear he
   by_cases hlt:k<n
   ·obtain⟨ad,m,rfl,hm,hc⟩:=H.out.at_ (k:=k) (by rw [← HN.out];exact hlt)
    obtain⟨ad2,m2,rfl,hm2,hc2⟩:=H2.out.at_ (k:=k) (by rw [← rD.out];exact hlt)
    have HM:=hid hm
    have Gb:=hid hm2
    clear hm hm2
    have k0:0≤(k:Int):=by omega
    have k1:(k:Int)<(n:Int):=by omega
    by_cases eq:m=m2
    ·have EQ:=hid eq
     have q1:(m==m2)=true:=by simp [eq]
     have q2:(m != m2)=false:=by simp [eq]
     clear eq
     go_wp2_with fail
     go_region
     go_wp2
     go_roundw
     case rel=>exact⟨k+1,j+1,by omega,by go_num,by rw [bH HM.out,bH Gb.out,HE.out,EQ.out],rfl⟩
     case measure=>simp [intOf];omega
    ·have NE:Hid (¬ ls=ks):=hid fun e=>eq (by
      have e1:=congrArg (·[k]?) e
      simp only [HM.out,Gb.out,Option.some.injEq] at e1
      exact e1)
     have q1:(m==m2)=false:=by simp [eq]
     have q2:(m != m2)=true:=by simp [eq]
     all_goals
      clear eq
      go_wp2_with fail
      go_region
      go_wp2
      go_ret
      exact⟨aI (by rw [decide_eq_false NE.out]),j+1,rfl⟩
   ·obtain rfl:k=n:=by omega
    have HE2:=HE.out
    rw [HN.out,List.take_length,HL.out,List.take_length] at HE2
    have HE3:=hid HE2
    clear HE2
    go_wp2
    go_ret
    exact⟨aI (by rw [decide_eq_true HE3.out]),j,rfl⟩
 ·have hl':¬ ls=ks:=fun e=>hl (by rw [HN.out,rD.out,e])
  have HL:=hid hl'
  clear hl'
  go_enter func66,ntmps66
  go_wp2
  go_ret
  exact⟨aI (by rw [decide_eq_false HL.out]),0,rfl⟩
theorem li_ne {a b:T9.Li} (h:¬ a=b):(¬ (a.id:Int)=(b.id:Int))∨(a.id:Int)=(b.id:Int)∧¬ a.name=b.name:=by
 by_cases e:a.id=b.id
 ·exact .inr ⟨by omega,fun f=>h (T9.Li.jG.2 ⟨e,f⟩)⟩
 ·exact .inl (by omega)
theorem vQ {A A2:Option Addr} {n c n2 c2:Nat} {ls ks:List (T9.Li)} {w:World} (h:LL w A ls) (h2:LL w A2 ks) (hn:n=ls.length) (hn2:n2=ks.length) (hs:n≤1000000) :
  Calls prog 37 #[.slice A n c,.slice A2 n2 c2] w fun e w'=>e=.returned (.bool (decide (ls=ks)))∧∃ j,w'=w.drewN j:=by
 have H:=hid h
 have H2:=hid h2
 have HN:=hid hn
 have rD:=hid hn2
 clear h h2 hn hn2
 by_cases hl:n=n2
 ·subst hl
  have HL:=hid (HN.out.symm.trans rD.out)
  go_enter func37,ntmps37
  go_wp2_with fail
  go_loopw [13] (fun i wr=>∃ k j:Nat,k≤n∧i=.int .i64 k∧ls.take k=ks.take k∧wr=w.drewN j) (fun i _=>n - (intOf i).toNat)
  case atStart=>exact⟨0,0,Nat.zero_le _,rfl,rfl,rfl⟩
  case round =>
   obtain⟨k,j,hk,rfl,he,rfl⟩:=hrel
   have HE:=hid he
   clear he
   by_cases hlt:k<n
   ·obtain⟨ad,m,rfl,hm,hc,hd⟩:=H.out.at_ (k:=k) (by rw [← HN.out];exact hlt)
    obtain⟨ad2,m2,rfl,hm2,hc2,hd2⟩:=H2.out.at_ (k:=k) (by rw [← rD.out];exact hlt)
    have HM:=hid hm
    have Gb:=hid hm2
    clear hm hm2
    have k0:0≤(k:Int):=by omega
    have k1:(k:Int)<(n:Int):=by omega
    by_cases eq:m=m2
    ·have EQ:=hid eq
     have q1:(m.id:Int)=(m2.id:Int):=by rw [eq]
     have q2:m.name=m2.name:=by rw [eq]
     clear eq
     go_wp2_with fail
     go_region
     go_wp2
     go_roundw
     case rel=>exact⟨k+1,j+1,by omega,by go_num,by rw [bH HM.out,bH Gb.out,HE.out,EQ.out],rfl⟩
     case measure=>simp [intOf];omega
    ·have NE:Hid (¬ ls=ks):=hid fun e=>eq (by
      have e1:=congrArg (·[k]?) e
      simp only [HM.out,Gb.out,Option.some.injEq] at e1
      exact e1)
     rcases li_ne eq with q1 | ⟨q1,q2⟩
     all_goals
      clear eq
      go_wp2_with fail
      go_region
      go_wp2
      go_ret
      exact⟨aI (by rw [decide_eq_false NE.out]),j+1,rfl⟩
   ·obtain rfl:k=n:=by omega
    have HE2:=HE.out
    rw [HN.out,List.take_length,HL.out,List.take_length] at HE2
    have HE3:=hid HE2
    clear HE2
    go_wp2
    go_ret
    exact⟨aI (by rw [decide_eq_true HE3.out]),j,rfl⟩
 ·have hl':¬ ls=ks:=fun e=>hl (by rw [HN.out,rD.out,e])
  have HL:=hid hl'
  clear hl'
  go_enter func37,ntmps37
  go_wp2
  go_ret
  exact⟨aI (by rw [decide_eq_false HL.out]),0,rfl⟩
end
section
open Go.RowKit Go.Lib
theorem xR {a:aN}:(.agg (aA a).toArray:Value)=.agg #[.int .u64 (a.t.id:Int),.int .u64 (a.t.list:Int),.string (str a.t.title),.bool a.t.done,.float .f64 a.t.rank,.float .f64 a.t.est,.slice a.A a.t.tags.length a.c]:=rfl
theorem wZ {a b:aN} {w:World} (ha:a.fine w) (hb:b.fine w) (sa:a.t.short) (_sb:b.t.short) (oa:a.t.ok) (ob:b.t.ok) :
  Calls prog 49 #[.agg (aA a).toArray,.agg (aA b).toArray] w fun e w'=>e=.returned (.bool (T9.h_ a.t b.t))∧Below w.heap.size w w':=by
 obtain⟨w1,hw1⟩:=nm (w.alloc (.cells #[.int .u64 (a.t.id:Int),.int .u64 (a.t.list:Int),.string (str a.t.title),.bool a.t.done,.float .f64 a.t.rank,.float .f64 a.t.est,.slice a.A a.t.tags.length a.c] 64))
 obtain⟨pb,b1,z1⟩:=bf hw1
 obtain⟨w2,hw2⟩:=nm (w1.alloc (.cells #[.int .u64 (b.t.id:Int),.int .u64 (b.t.list:Int),.string (str b.t.title),.bool b.t.done,.float .f64 b.t.rank,.float .f64 b.t.est,.slice b.A b.t.tags.length b.c] 64))
 obtain⟨pY,b2,z2⟩:=bf hw2
 have B:Hid (Below w.heap.size w w2):=hid (b1.trans (b2.mono (by omega)))
 have IJ:=(b2.block w.heap.size (by omega)).trans pb
 obtain⟨p0,p1,p2,p3,p4,p5,p6⟩:=ak IJ
 obtain⟨q0,q1,q2,q3,q4,q5,q6⟩:=ak pY
 have oa1:=oa.2.2.1
 have oa2:=oa.2.2.2
 have ob1:=ob.2.2.1
 have ob2:=ob.2.2.2
 have EQT:=hid (wY (c:=a.c) (c2:=b.c) (ha.gl.stay B.out) (hb.gl.stay B.out) rfl rfl sa.2.2)
 have HZ:=hid z1
 rw [xR,xR]
 clear ha hb sa oa ob pb pY IJ b1 b2 z1 z2
 cases h1:((a.t.id:Int)==(b.t.id:Int)) with
 | false =>
  have R:Hid (T9.h_ a.t b.t=false):=hid (by
   unfold T9.h_
   have k:=h1
   simp only [beq_eq_false_iff_ne,ne_eq,Int.natCast_inj] at k
   simp [k])
  go_enter func49,ntmps49
  go_wp2_with (first | (go_at_call 65;refine (gY _ _ _ (by assumption) (by assumption)).mono ?_;rintro e w' ⟨rfl,rfl⟩) | (go_at_call 66;refine EQT.out.mono ?_;rintro e w' ⟨rfl,j,rfl⟩))
  go_ret
  exact⟨aI R.out.symm,B.out⟩
 | true =>
  cases h2:((a.t.list:Int)==(b.t.list:Int)) with
  | false =>
   have R:Hid (T9.h_ a.t b.t=false):=hid (by
    unfold T9.h_
    have k:=h2
    simp only [beq_eq_false_iff_ne,ne_eq,Int.natCast_inj] at k
    simp [k])
   go_enter func49,ntmps49
   go_wp2_with (first | (go_at_call 65;refine (gY _ _ _ (by assumption) (by assumption)).mono ?_;rintro e w' ⟨rfl,rfl⟩) | (go_at_call 66;refine EQT.out.mono ?_;rintro e w' ⟨rfl,j,rfl⟩))
   go_ret
   exact⟨aI R.out.symm,B.out⟩
  | true =>
   cases h3:(a.t.title==b.t.title) with
   | false =>
    have R:Hid (T9.h_ a.t b.t=false):=hid (by
     unfold T9.h_
     have k:=h3
     simp only [beq_eq_false_iff_ne,ne_eq] at k
     simp [k])
    go_enter func49,ntmps49
    go_wp2_with (first | (go_at_call 65;refine (gY _ _ _ (by assumption) (by assumption)).mono ?_;rintro e w' ⟨rfl,rfl⟩) | (go_at_call 66;refine EQT.out.mono ?_;rintro e w' ⟨rfl,j,rfl⟩))
    go_ret
    exact⟨aI R.out.symm,B.out⟩
   | true =>
    cases h4:(a.t.done==b.t.done) with
    | false =>
     have R:Hid (T9.h_ a.t b.t=false):=hid (by
      unfold T9.h_
      have k:=h4
      simp only [beq_eq_false_iff_ne,ne_eq] at k
      simp [k])
     go_enter func49,ntmps49
     go_wp2_with (first | (go_at_call 65;refine (gY _ _ _ (by assumption) (by assumption)).mono ?_;rintro e w' ⟨rfl,rfl⟩) | (go_at_call 66;refine EQT.out.mono ?_;rintro e w' ⟨rfl,j,rfl⟩))
     go_ret
     exact⟨aI R.out.symm,B.out⟩
    | true =>
     cases h5:Fl.same a.t.rank b.t.rank with
     | false =>
      have R:Hid (T9.h_ a.t b.t=false):=hid (by
       unfold T9.h_
       have k:=h5
       simp [k])
      go_enter func49,ntmps49
      go_wp2_with (first | (go_at_call 65;refine (gY _ _ _ (by assumption) (by assumption)).mono ?_;rintro e w' ⟨rfl,rfl⟩) | (go_at_call 66;refine EQT.out.mono ?_;rintro e w' ⟨rfl,j,rfl⟩))
      go_ret
      exact⟨aI R.out.symm,B.out⟩
     | true =>
      cases h6:Fl.same a.t.est b.t.est with
      | false =>
       have R:Hid (T9.h_ a.t b.t=false):=hid (by
        unfold T9.h_
        have k:=h6
        simp [k])
       go_enter func49,ntmps49
       go_wp2_with (first | (go_at_call 65;refine (gY _ _ _ (by assumption) (by assumption)).mono ?_;rintro e w' ⟨rfl,rfl⟩) | (go_at_call 66;refine EQT.out.mono ?_;rintro e w' ⟨rfl,j,rfl⟩))
       go_ret
       exact⟨aI R.out.symm,B.out⟩
      | true =>
       have R:Hid (T9.h_ a.t b.t=decide (a.t.tags=b.t.tags)):=hid (by
        unfold T9.h_
        simp only [beq_iff_eq,Int.natCast_inj] at h1 h2 h3 h4
        simp [h1,h2,h3,h4,h5,h6])
       go_enter func49,ntmps49
       go_wp2_with (first | (go_at_call 65;refine (gY _ _ _ (by assumption) (by assumption)).mono ?_;rintro e w' ⟨rfl,rfl⟩) | (go_at_call 66;refine EQT.out.mono ?_;rintro e w' ⟨rfl,j,rfl⟩))
       go_ret
       exact⟨aI R.out.symm,below_drewN B.out j⟩
theorem T9.Ii {l m:List T9.Tk} {k:Nat} {a b:T9.Tk} (h:l[k]?=some a) (h2:m[k]?=some b) (hq:T9.h_ a b=false):T9.ib l m=false:=by
 induction l generalizing m k with
 | nil=>simp at h
 | cons x l ih =>
  cases m with
  | nil=>simp at h2
  | cons y m =>
   cases k with
   | zero =>
    simp only [List.getElem?_cons_zero,Option.some.injEq] at h h2
    subst h h2
    simp [T9.ib,hq]
   | succ k =>
    simp only [List.getElem?_cons_succ] at h h2
    simp [T9.ib,ih h h2]
theorem iA {ms:List aN} {k:Nat} {m:aN} (h:ms[k]?=some m):(ay ms)[k]?=some m.t:=by unfold ay;rw [List.getElem?_map,h];rfl
theorem vR {A A2:Option Addr} {n c n2 c2:Nat} {ms ks:List aN} {w:World} (h:KL w A ms) (h2:KL w A2 ks) (hn:n=ms.length) (hn2:n2=ks.length) (hs:n≤1000000) (s1:∀ m∈ms,m.t.short∧m.t.ok) (s2:∀ m∈ks,m.t.short∧m.t.ok) :
  Calls prog 38 #[.slice A n c,.slice A2 n2 c2] w fun e w'=>e=.returned (.bool (T9.ib (ay ms) (ay ks)))∧Below w.heap.size w w':=by
 have H:=hid h
 have H2:=hid h2
 have HN:=hid hn
 have rD:=hid hn2
 have S1:=hid s1
 have S2:=hid s2
 clear h h2 hn hn2 s1 s2
 by_cases hl:n=n2
 ·subst hl
  have HL:=hid (HN.out.symm.trans rD.out)
  go_enter func38,ntmps38
  go_wp2_with fail
  go_loopw [13] (fun i wr=>∃ k:Nat,k≤n∧i=.int .i64 k∧Hid (T9.ib (ay (ms.take k)) (ay (ks.take k))=true)∧Aside (Below w.heap.size w wr)) (fun i _=>n - (intOf i).toNat)
  case atStart=>exact⟨0,Nat.zero_le _,rfl,hid rfl,Below.refl _ _⟩
  case round =>
   obtain⟨k,hk,rfl,HE,hB⟩:=hrel
   have BR:=hid hB.out
   clear hB
   by_cases hlt:k<n
   ·obtain⟨ad,a,rfl,hm,hf,r0,r1,r2,r3,r4,r5,r6⟩:=(H.out.stay BR.out).at_ (k:=k) (by rw [← HN.out];exact hlt)
    obtain⟨ad2,b,rfl,hm2,hf2,q0,q1,q2,q3,q4,q5,q6⟩:=(H2.out.stay BR.out).at_ (k:=k) (by rw [← rD.out];exact hlt)
    have HM:=hid hm
    have Gb:=hid hm2
    have F1:=hid hf
    have F2:=hid hf2
    clear hm hm2 hf hf2
    have k0:0≤(k:Int):=by omega
    have k1:(k:Int)<(n:Int):=by omega
    have CT:Hid (Calls prog 49 #[.agg #[.int .u64 (a.t.id:Int),.int .u64 (a.t.list:Int),.string (str a.t.title),.bool a.t.done,.float .f64 a.t.rank,.float .f64 a.t.est,.slice a.A a.t.tags.length a.c],.agg #[.int .u64 (b.t.id:Int),.int .u64 (b.t.list:Int),.string (str b.t.title),.bool b.t.done,.float .f64 b.t.rank,.float .f64 b.t.est,.slice b.A b.t.tags.length b.c]] wr.drew fun e w'=>e=.returned (.bool (T9.h_ a.t b.t))∧Below wr.drew.heap.size wr.drew w'):=hid (by
     have d:Below wr.heap.size wr wr.drew:=(Below.refl _ wr).drew
     have x1:=S1.out a (List.mem_of_getElem? HM.out)
     have x2:=S2.out b (List.mem_of_getElem? Gb.out)
     exact wZ (F1.out.stay d) (F2.out.stay d) x1.1 x2.1 x1.2 x2.2)
    cases hq:T9.h_ a.t b.t with
    | true =>
     have HQ:=hid hq
     rw [hq] at CT
     clear hq
     go_wp2_with fail
     go_still_tail 8,(by kernel_rfl)
     change wpList _ _ _ _ _ wr.drew
     go_wp2_with fail
     refine CT.out.mono ?_
     rintro e w9 ⟨rfl,h9⟩
     have B9:Hid (Below w.heap.size w w9):=hid (BR.out.trans (((Below.refl _ wr).drew.trans h9).mono BR.out.size))
     clear h9
     go_wp2
     go_roundw
     case rel=>exact⟨k+1,by omega,by go_num,hid (by rw [bH HM.out,bH Gb.out,fG,fG,T9.Ey (by rw [aK,aK,List.length_take,List.length_take,HL.out]),HE.out,HQ.out];rfl),B9.out⟩
     case measure=>simp [intOf];omega
    | false =>
     have R:Hid (T9.ib (ay ms) (ay ks)=false):=hid (T9.Ii (iA HM.out) (iA Gb.out) hq)
     rw [hq] at CT
     clear hq
     go_wp2_with fail
     go_still_tail 8,(by kernel_rfl)
     change wpList _ _ _ _ _ wr.drew
     go_wp2_with fail
     refine CT.out.mono ?_
     rintro e w9 ⟨rfl,h9⟩
     have B9:Hid (Below w.heap.size w w9):=hid (BR.out.trans (((Below.refl _ wr).drew.trans h9).mono BR.out.size))
     clear h9
     go_wp2
     go_ret
     exact⟨aI R.out.symm,B9.out⟩
   ·obtain rfl:k=n:=by omega
    have HE2:=HE.out
    rw [HN.out,List.take_length,HL.out,List.take_length] at HE2
    have HE3:=hid HE2
    clear HE2
    go_wp2
    go_ret
    exact⟨aI HE3.out.symm,BR.out⟩
 ·have R:Hid (T9.ib (ay ms) (ay ks)=false):=hid (by
   cases q:T9.ib (ay ms) (ay ks) with
   | false=>rfl
   | true =>
    have:=T9.xP q
    rw [aK,aK,← HN.out,← rD.out] at this
    exact absurd this hl)
  have hlz:¬ ((n:Int)=(n2:Int)):=by omega
  go_enter func38,ntmps38
  go_wp2
  go_ret
  exact⟨aI R.out.symm,Below.refl _ _⟩
theorem nM {a b:aQ} {w:World} (ha:SM a w) (hb:SM b w) (sa:a.st.short) (sb:b.st.short) (oa:a.st.ok) (ob:b.st.ok) :
  Calls prog 20 #[a.val,b.val] w fun e w'=>e=.returned (.bool (T9.same a.st b.st))∧Below w.heap.size w w':=by
 have so:∀ (m:aQ),m.st.short→m.st.ok→∀ t∈m.ms,t.t.short∧t.t.ok:=fun m s o t ht=>⟨s.2.1 t.t (List.mem_map.2 ⟨t,ht,rfl⟩),o.2 t.t (List.mem_map.2 ⟨t,ht,rfl⟩)⟩
 have l1:a.ls.length≤1000000:=sa.2.2.1
 have l2:a.ms.length≤1000000:=by have:=sa.2.2.2;unfold aQ.st at this;rwa [aK] at this
 have SA:=hid (so a sa oa)
 have SB:=hid (so b sb ob)
 obtain⟨w1,hw1⟩:=nm (w.alloc (.cells #[.slice a.A a.ls.length a.c,.slice a.A2 a.ms.length a.c2] 26))
 obtain⟨pb,b1,z1⟩:=aj hw1
 obtain⟨w2,hw2⟩:=nm (w1.alloc (.cells #[.slice b.A b.ls.length b.c,.slice b.A2 b.ms.length b.c2] 26))
 obtain⟨pY,b2,z2⟩:=aj hw2
 have B:Hid (Below w.heap.size w w2):=hid (b1.trans (b2.mono (by omega)))
 have IJ:=(b2.block w.heap.size (by omega)).trans pb
 have PB:=hid IJ
 have PB2:=hid pY
 obtain⟨p0,p1⟩:=aa IJ
 obtain⟨q0,q1⟩:=aa pY
 have CL:=hid (vQ (c:=a.c) (c2:=b.c) (ha.l.stay B.out) (hb.l.stay B.out) rfl rfl l1)
 have CK:∀ j,Hid (Calls prog 38 #[.slice a.A2 a.ms.length a.c2,.slice b.A2 b.ms.length b.c2] (w2.drewN j) fun e w'=>e=.returned (.bool (T9.ib (ay a.ms) (ay b.ms)))∧Below (w2.drewN j).heap.size (w2.drewN j) w'):=fun j=>hid (vR (ha.k.stay (below_drewN B.out j)) (hb.k.stay (below_drewN B.out j)) rfl rfl l2 SA.out SB.out)
 unfold aQ.val
 clear ha hb sa sb oa ob pb pY IJ b1 b2 so z1 z2
 by_cases hq:a.ls=b.ls
 ·have R:Hid (T9.same a.st b.st=T9.ib (ay a.ms) (ay b.ms)):=hid (by unfold T9.same aQ.st;rw [decide_eq_true hq];rfl)
  have CL2:=CL.out
  rw [decide_eq_true hq] at CL2
  have CL3:=hid CL2
  clear hq CL2 CL
  go_enter func20,ntmps20
  go_wp2_with fail
  refine CL3.out.mono ?_
  rintro e w' ⟨rfl,j,rfl⟩
  have CK2:=CK j
  go_wp2_with fail
  refine CK2.out.mono ?_
  rintro e w' ⟨rfl,h9⟩
  have H9:=hid h9
  clear h9
  go_wp2
  go_ret
  exact⟨aI R.out.symm,(below_drewN B.out j).trans (H9.out.mono (below_drewN B.out j).size)⟩
 ·have R:Hid (T9.same a.st b.st=false):=hid (by unfold T9.same aQ.st;rw [decide_eq_false hq];rfl)
  have CL2:=CL.out
  rw [decide_eq_false hq] at CL2
  have CL3:=hid CL2
  clear hq CL2 CL
  go_enter func20,ntmps20
  go_wp2_with fail
  refine CL3.out.mono ?_
  rintro e w' ⟨rfl,j,rfl⟩
  go_wp2_with fail
  go_ret
  exact⟨aI R.out.symm,below_drewN B.out j⟩
end
end
section
section
open Go.Shelf Go.RowKit Go.Lib Go.Sort
theorem cmpM_w {bx:Nat} (x y:aN) (W:World) (hb:W.cell? ⟨bx,0,none⟩=some (.func (.func 83) #[] #[])) (hlt:bx<W.heap.size) :
  Calls prog 122 #[.agg (aA x).toArray,.agg (aA y).toArray,.pointer (some ⟨bx,0,none⟩)] W fun e w'=>e=.returned (.int .i64 (cfM x y))∧∃ q os',w'=grow (W.drewN q) os':=by
 obtain⟨wB,jf⟩:=nm ((W.alloc (.cells (aA x).toArray 64)).alloc (.cells (aA y).toArray 64))
 have sB:wB.heap.size=W.heap.size+2:=by rw [← jf];simp
 have GB:Hid (∀ q os,grow (wB.drewN q) os=grow (W.drewN q) (#[.cells (aA x).toArray 64,.cells (aA y).toArray 64]++os)):=hid fun q os=>by rw [← jf];exact mW W _ _ q os
 have cb:∀ n os,(grow (wB.drewN n) os).cell? ⟨bx,0,none⟩=some (.func (.func 83) #[] #[]):=fun n os=>cell_grown (by show bx<wB.heap.size;omega) (by
  have b2:Below W.heap.size W wB:=by rw [← jf];exact ((Below.refl _ W).alloc (Nat.le_refl _) _).alloc (by simp) _
  exact (b2.cell (p:=⟨bx,0,none⟩) hlt).trans hb) n os
 have lx:∀ n os,∀ j (h:j<(aA x).length),(grow (wB.drewN n) os).cell? ⟨W.heap.size,j,none⟩=some ((aA x)[j]):=fun n os j h=>cell_grown (by show W.heap.size<wB.heap.size;omega) (by
  have k:wB.heap[W.heap.size]?=some (.cells (aA x).toArray 64 (0,0)):=by rw [← jf];exact bu (heap_alloc_new W _) _
  rw [cell_of_row wB W.heap.size j _ _ _ k]
  simp [h]) n os
 have ly:∀ n os,∀ j (h:j<(aA y).length),(grow (wB.drewN n) os).cell? ⟨W.heap.size+1,j,none⟩=some ((aA y)[j]):=fun n os j h=>cell_grown (by show W.heap.size+1<wB.heap.size;omega) (by
  have k:wB.heap[W.heap.size+1]?=some (.cells (aA y).toArray 64 (0,0)):=by
   rw [← jf]
   have:=heap_alloc_new (W.alloc (.cells (aA x).toArray 64)) (.cells (aA y).toArray 64)
   rwa [World.size_alloc] at this
  rw [cell_of_row wB (W.heap.size+1) j _ _ _ k]
  simp [h]) n os
 have x0:=fun n os=>lx n os 0 (by rw [aU];decide)
 have y0:=fun n os=>ly n os 0 (by rw [aU];decide)
 have x1:=fun n os=>lx n os 1 (by rw [aU];decide)
 have y1:=fun n os=>ly n os 1 (by rw [aU];decide)
 have x2:=fun n os=>lx n os 2 (by rw [aU];decide)
 have y2:=fun n os=>ly n os 2 (by rw [aU];decide)
 have x3:=fun n os=>lx n os 3 (by rw [aU];decide)
 have y3:=fun n os=>ly n os 3 (by rw [aU];decide)
 have x4:=fun n os=>lx n os 4 (by rw [aU];decide)
 have y4:=fun n os=>ly n os 4 (by rw [aU];decide)
 have x5:=fun n os=>lx n os 5 (by rw [aU];decide)
 have y5:=fun n os=>ly n os 5 (by rw [aU];decide)
 have x6:=fun n os=>lx n os 6 (by rw [aU];decide)
 have y6:=fun n os=>ly n os 6 (by rw [aU];decide)
 clear lx ly hb sB
 unfold aA at x0 y0 x1 y1 x2 y2 x3 y3 x4 y4 x5 y5 x6 y6 jf ⊢
 simp only [List.getElem_cons_zero,List.getElem_cons_succ] at x0 y0 x1 y1 x2 y2 x3 y3 x4 y4 x5 y5 x6 y6
 go_enter func122,ntmps122
 go_wp2_with fail
 clear jf
 have mixed:=jq
 go_quiet_grown (first | (go_at_call 83;first | exact Calls.grown_of (yQ x _) | exact Calls.grown_of (yQ y _)) | (go_at_call 117;refine Calls.grown_of (pQ (rU _ _ _))))
 go_wp2
 go_ret
 refine⟨rfl,nq,_,GB.out nq osq⟩
theorem eqM_w {bx:Nat} (x y:aN) (W:World) (hb:W.cell? ⟨bx,0,none⟩=some (.func (.func 83) #[] #[])) (hlt:bx<W.heap.size) :
  Calls prog 124 #[.agg (aA x).toArray,.agg (aA y).toArray,.pointer (some ⟨bx,0,none⟩)] W fun e w'=>e=.returned (.bool (Sr.iq iI x y))∧∃ q os',w'=grow (W.drewN q) os':=by
 obtain⟨wB,jf⟩:=nm ((W.alloc (.cells (aA x).toArray 64)).alloc (.cells (aA y).toArray 64))
 have sB:wB.heap.size=W.heap.size+2:=by rw [← jf];simp
 have GB:Hid (∀ q os,grow (wB.drewN q) os=grow (W.drewN q) (#[.cells (aA x).toArray 64,.cells (aA y).toArray 64]++os)):=hid fun q os=>by rw [← jf];exact mW W _ _ q os
 have cb:∀ n os,(grow (wB.drewN n) os).cell? ⟨bx,0,none⟩=some (.func (.func 83) #[] #[]):=fun n os=>cell_grown (by show bx<wB.heap.size;omega) (by
  have b2:Below W.heap.size W wB:=by rw [← jf];exact ((Below.refl _ W).alloc (Nat.le_refl _) _).alloc (by simp) _
  exact (b2.cell (p:=⟨bx,0,none⟩) hlt).trans hb) n os
 have lx:∀ n os,∀ j (h:j<(aA x).length),(grow (wB.drewN n) os).cell? ⟨W.heap.size,j,none⟩=some ((aA x)[j]):=fun n os j h=>cell_grown (by show W.heap.size<wB.heap.size;omega) (by
  have k:wB.heap[W.heap.size]?=some (.cells (aA x).toArray 64 (0,0)):=by rw [← jf];exact bu (heap_alloc_new W _) _
  rw [cell_of_row wB W.heap.size j _ _ _ k]
  simp [h]) n os
 have ly:∀ n os,∀ j (h:j<(aA y).length),(grow (wB.drewN n) os).cell? ⟨W.heap.size+1,j,none⟩=some ((aA y)[j]):=fun n os j h=>cell_grown (by show W.heap.size+1<wB.heap.size;omega) (by
  have k:wB.heap[W.heap.size+1]?=some (.cells (aA y).toArray 64 (0,0)):=by
   rw [← jf]
   have:=heap_alloc_new (W.alloc (.cells (aA x).toArray 64)) (.cells (aA y).toArray 64)
   rwa [World.size_alloc] at this
  rw [cell_of_row wB (W.heap.size+1) j _ _ _ k]
  simp [h]) n os
 have x0:=fun n os=>lx n os 0 (by rw [aU];decide)
 have y0:=fun n os=>ly n os 0 (by rw [aU];decide)
 have x1:=fun n os=>lx n os 1 (by rw [aU];decide)
 have y1:=fun n os=>ly n os 1 (by rw [aU];decide)
 have x2:=fun n os=>lx n os 2 (by rw [aU];decide)
 have y2:=fun n os=>ly n os 2 (by rw [aU];decide)
 have x3:=fun n os=>lx n os 3 (by rw [aU];decide)
 have y3:=fun n os=>ly n os 3 (by rw [aU];decide)
 have x4:=fun n os=>lx n os 4 (by rw [aU];decide)
 have y4:=fun n os=>ly n os 4 (by rw [aU];decide)
 have x5:=fun n os=>lx n os 5 (by rw [aU];decide)
 have y5:=fun n os=>ly n os 5 (by rw [aU];decide)
 have x6:=fun n os=>lx n os 6 (by rw [aU];decide)
 have y6:=fun n os=>ly n os 6 (by rw [aU];decide)
 clear lx ly hb sB
 unfold aA at x0 y0 x1 y1 x2 y2 x3 y3 x4 y4 x5 y5 x6 y6 jf ⊢
 simp only [List.getElem_cons_zero,List.getElem_cons_succ] at x0 y0 x1 y1 x2 y2 x3 y3 x4 y4 x5 y5 x6 y6
 go_enter func124,ntmps124
 go_wp2_with fail
 clear jf
 have mixed:=jq
 go_quiet_grown (first | (go_at_call 83;first | exact Calls.grown_of (yQ x _) | exact Calls.grown_of (yQ y _)))
 go_wp2
 go_ret
 refine⟨aI (eqvM_id x y).symm,nq,_,GB.out nq osq⟩
theorem cmpS_w {bx:Nat} (x y:List UInt8) (W:World) (hb:W.cell? ⟨bx,0,none⟩=some (.func (.func 85) #[] #[])) (hlt:bx<W.heap.size) :
  Calls prog 127 #[encS x,encS y,.pointer (some ⟨bx,0,none⟩)] W fun e w'=>e=.returned (.int .i64 (oG x y))∧∃ q os',w'=grow (W.drewN q) os':=by
 have cb:∀ n os,(grow (W.drewN n) os).cell? ⟨bx,0,none⟩=some (.func (.func 85) #[] #[]):=fun n os=>cell_grown (by show bx<W.heap.size;omega) hb n os
 clear hb
 unfold encS
 go_enter func127,ntmps127
 go_wp2_with fail
 have mixed:=jq
 go_quiet_grown (first | (go_at_call 85;first | exact Calls.grown_of (yR x _) | exact Calls.grown_of (yR y _)) | (go_at_call 128;refine Calls.grown_of (pQ (Ju _ _ _))))
 go_wp2
 go_ret
 exact⟨rfl,nq,osq,rfl⟩
theorem eqS_w {bx:Nat} (x y:List UInt8) (W:World) (hb:W.cell? ⟨bx,0,none⟩=some (.func (.func 85) #[] #[])) (hlt:bx<W.heap.size) :
  Calls prog 130 #[encS x,encS y,.pointer (some ⟨bx,0,none⟩)] W fun e w'=>e=.returned (.bool (Sr.iq T9.dN x y))∧∃ q os',w'=grow (W.drewN q) os':=by
 have cb:∀ n os,(grow (W.drewN n) os).cell? ⟨bx,0,none⟩=some (.func (.func 85) #[] #[]):=fun n os=>cell_grown (by show bx<W.heap.size;omega) hb n os
 clear hb
 unfold encS
 go_enter func130,ntmps130
 go_wp2_with fail
 have mixed:=jq
 go_quiet_grown (first | (go_at_call 85;first | exact Calls.grown_of (yR x _) | exact Calls.grown_of (yR y _)))
 go_wp2
 go_ret
 exact⟨aI (eqvS_eq x y).symm,nq,osq,rfl⟩
theorem srtL:yj true prog:=⟨jq,func182,func178,func168,func169,func152,Tryz.call182,Tryz.call178,Tryz.call168,Tryz.call169,underlying0,isAgg0,sizeOf0,zeroValue0,underlying3,isAgg3,sizeOf3,zeroValue3,underlying4,isAgg4,sizeOf4,zeroValue4,underlying161,isAgg161,sizeOf161,zeroValue161,underlying23,isAgg23,sizeOf23,zeroValue23,underlying150,isAgg150,sizeOf150,zeroValue150,rfl,rfl,rfl,rfl,rfl⟩
theorem cptL:CptL prog:=⟨jq,func118,underlying0,isAgg0,sizeOf0,zeroValue0,underlying3,isAgg3,sizeOf3,zeroValue3,underlying4,isAgg4,sizeOf4,zeroValue4,underlying23,isAgg23,sizeOf23,zeroValue23,underlying152,isAgg152,sizeOf152,zeroValue152⟩
theorem srtK:yj false prog:=⟨jq,func183,func179,func170,func171,func154,Tryz.call183,Tryz.call179,Tryz.call170,Tryz.call171,underlying0,isAgg0,sizeOf0,zeroValue0,underlying3,isAgg3,sizeOf3,zeroValue3,underlying4,isAgg4,sizeOf4,zeroValue4,underlying161,isAgg161,sizeOf161,zeroValue161,underlying24,isAgg24,sizeOf24,zeroValue24,underlying155,isAgg155,sizeOf155,zeroValue155,rfl,rfl,rfl,rfl,rfl⟩
theorem cptK:CptK prog:=⟨jq,func123,underlying0,isAgg0,sizeOf0,zeroValue0,underlying3,isAgg3,sizeOf3,zeroValue3,underlying4,isAgg4,sizeOf4,zeroValue4,underlying24,isAgg24,sizeOf24,zeroValue24,underlying93,isAgg93,sizeOf93,zeroValue93⟩
theorem srtS:SrtS prog:=⟨jq,func172,func155,Tryz.call172,underlying0,isAgg0,sizeOf0,zeroValue0,underlying3,isAgg3,sizeOf3,zeroValue3,underlying4,isAgg4,sizeOf4,zeroValue4,underlying161,isAgg161,sizeOf161,zeroValue161,underlying62,isAgg62,sizeOf62,zeroValue62,underlying9,isAgg9,sizeOf9,zeroValue9,underlying158,isAgg158,sizeOf158,zeroValue158⟩
theorem cptS:CptS prog:=⟨jq,func129,underlying0,isAgg0,sizeOf0,zeroValue0,underlying3,isAgg3,sizeOf3,zeroValue3,underlying4,isAgg4,sizeOf4,zeroValue4,underlying62,isAgg62,sizeOf62,zeroValue62,underlying9,isAgg9,sizeOf9,underlying160,isAgg160,sizeOf160,zeroValue160⟩
theorem laysL {blk bx:Nat} {size:Nat} {w:World} (hb:w.cell? ⟨bx,0,none⟩=some (.func (.func 81) #[] #[])) (hne:bx≠blk) (hlt:bx<w.heap.size):CmpLays prog 116 #[.pointer (some ⟨bx,0,none⟩)] a_ 2 cfL blk 0 size w :=
 fun m os dk _ x y=>cmpL_w x y _ (tN hb hne hlt) (by unfold sortWorldK;rw [size_grow];have q:(putRowK a_ 2 (Sort.ahead w m) blk 0 dk).heap.size=w.heap.size:=(by rw [size_putRowK];rfl);omega)
theorem eqsL {blk bx:Nat} {size:Nat} {w:World} (hb:w.cell? ⟨bx,0,none⟩=some (.func (.func 81) #[] #[])) (hne:bx≠blk) (hlt:bx<w.heap.size):EqL prog 119 #[.pointer (some ⟨bx,0,none⟩)] a_ 2 (Sr.iq T9.iY) blk 0 size w :=
 fun m os dk _ x y=>eqL_w x y _ (tN hb hne hlt) (by unfold sortWorldK;rw [size_grow];have q:(putRowK a_ 2 (Sort.ahead w m) blk 0 dk).heap.size=w.heap.size:=(by rw [size_putRowK];rfl);omega)
theorem laysM {blk bx:Nat} {size:Nat} {w:World} (hb:w.cell? ⟨bx,0,none⟩=some (.func (.func 83) #[] #[])) (hne:bx≠blk) (hlt:bx<w.heap.size):CmpLays prog 122 #[.pointer (some ⟨bx,0,none⟩)] aA 7 cfM blk 0 size w :=
 fun m os dk _ x y=>cmpM_w x y _ (tN hb hne hlt) (by unfold sortWorldK;rw [size_grow];have q:(putRowK aA 7 (Sort.ahead w m) blk 0 dk).heap.size=w.heap.size:=(by rw [size_putRowK];rfl);omega)
theorem eqsM {blk bx:Nat} {size:Nat} {w:World} (hb:w.cell? ⟨bx,0,none⟩=some (.func (.func 83) #[] #[])) (hne:bx≠blk) (hlt:bx<w.heap.size):EqK prog 124 #[.pointer (some ⟨bx,0,none⟩)] aA 7 (Sr.iq iI) blk 0 size w :=
 fun m os dk _ x y=>eqM_w x y _ (tN hb hne hlt) (by unfold sortWorldK;rw [size_grow];have q:(putRowK aA 7 (Sort.ahead w m) blk 0 dk).heap.size=w.heap.size:=(by rw [size_putRowK];rfl);omega)
theorem laysS {blk bx:Nat} {size:Nat} {w:World} (hb:w.cell? ⟨bx,0,none⟩=some (.func (.func 85) #[] #[])) (hne:bx≠blk) (hlt:bx<w.heap.size):CmpLays1 prog 127 #[.pointer (some ⟨bx,0,none⟩)] encS oG blk 0 size w :=
 fun m os dk _ x y=>cmpS_w x y _ (zY hb hne hlt) (by unfold sortWorld;rw [size_grow];have q:(putRow encS (Sort.ahead w m) blk 0 dk).heap.size=w.heap.size:=(by simp [putRow,mapBlock,Sort.ahead]);omega)
theorem eqsS {blk bx:Nat} {size:Nat} {w:World} (hb:w.cell? ⟨bx,0,none⟩=some (.func (.func 85) #[] #[])) (hne:bx≠blk) (hlt:bx<w.heap.size):EqS prog 130 #[.pointer (some ⟨bx,0,none⟩)] encS (Sr.iq T9.dN) blk 0 size w :=
 fun m os dk _ x y=>eqS_w x y _ (zY hb hne hlt) (by unfold sortWorld;rw [size_grow];have q:(putRow encS (Sort.ahead w m) blk 0 dk).heap.size=w.heap.size:=(by simp [putRow,mapBlock,Sort.ahead]);omega)
end
section
open Go.Shelf Go.RowKit Go.Lib Go.Sort
theorem Tryz.infoLi9:(prog.info? 61).map (fun i=>(i.zero,i.size,i.bytes))=some (some (.agg #[.int .u64 0,.string ⟨#[]⟩]),2,24):=by kernel_rfl
theorem Tryz.infoTk9:(prog.info? 64).map (fun i=>(i.zero,i.size,i.bytes))=some (some (.agg #[.int .u64 0,.int .u64 0,.string ⟨#[]⟩,.bool false,.float .f64 0,.float .f64 0,.slice none 0 0]),7,80):=by kernel_rfl
theorem Tryz.infoStr9:(prog.info? 9).map (fun i=>(i.zero,i.size,i.bytes))=some (some (.string ⟨#[]⟩),1,16):=by kernel_rfl
theorem gZ {P:Program} (w:World) (t ty e:TypeId) (i:TypeInfo) (ht:P.underlying t=some (.slice e)) (hi:P.info? e=some i) (A A2:Option Addr) (n c c2:Nat) (hn:n≤c):(Builtin.append_ #[t,t] ty #[.slice A n c,.slice A2 0 c2]).run P w=.ok (.slice A n c) w:=by
 cases A2 <;> cases A <;> simp [Builtin.append_,run_underlying ht,sizeOf,typeInfo,hi,Builtin.lenOf,Builtin.firstCells,hn,storeCells,loadCells,loadCellsFrom]
def CY (t:TypeId) (size:Nat) (cells:List Value) (n:Nat) (w:World) (e:Ending) (w':World):Prop :=
 ∃ A2 c2,e=.returned (.slice A2 n c2)∧n≤c2∧(n=0∧c2=0∨∃ g,A2=some ⟨g,0,none⟩∧w'.ownsRow w.heap.size t size (.slice A2 n c2) n cells)∧Below w.heap.size w w'
theorem bO {w:World} {B:Nat} {e:TypeId} {size:Nat} {A:Option Addr} {n c:Nat} {xs:List Value} (h:w.ownsRow B e size (.slice A n c) n xs) (hn:0<n):∃ g,A=some ⟨g,0,none⟩∧B≤g:=by
 rcases h.2 with⟨_,h0⟩ | ⟨g,cap,cur,hv,hB,_⟩
 ·omega
 ·injection hv with h1
  exact⟨g,h1,hB⟩
theorem ma {w:World} {B:Nat} {e:TypeId} {size:Nat} {A:Option Addr} {n c:Nat} {xs:List Value} (h:w.ownsRow B e size (.slice A n c) n xs):c≤maxLen:=by
 rcases h.2 with⟨hv,_⟩ | ⟨g,cap,cur,hv,_,_,_,hc,_⟩
 ·injection hv with _ _ h3;subst h3;exact Nat.zero_le _
 ·injection hv with _ _ h3;subst h3;exact hc
theorem ownL_c {A:Option Addr} {n c:Nat} {xs:List Value} {w:World} {B:Nat} {t:TypeId} (h:au w B t A xs) (hl:xs.length=n * 2) (h1:∀ u∈xs,u.oneCell'=true) (hs:n≤1000000000):Calls prog 114 #[.slice A n c] w (CY 61 2 xs n w):=by
 obtain⟨i0,hi,hz0,hz1,hz2⟩:=info_parts Tryz.infoLi9
 have HL:=hid h
 have HX:=hid hl
 have H1:=hid h1
 clear h hl h1
 by_cases h0:n=0
 ·subst h0
  rcases A with _ | ad
  ·have hr:∀ ty,(Builtin.append_ #[23,23] ty #[.slice none 0 0,.slice none 0 c]).run prog w=.ok (.slice none 0 0) w:=fun ty=>gZ w _ ty _ i0 underlying23 hi none none 0 0 c (Nat.le_refl _)
   go_enter func114,ntmps114
   go_wp2
   go_ret
   exact⟨_,0,rfl,Nat.le_refl _,.inl ⟨rfl,rfl⟩,Below.refl _ _⟩
  ·have hr:∀ ty,(Builtin.append_ #[23,23] ty #[.slice (some ad) 0 0,.slice (some ad) 0 c]).run prog w=.ok (.slice (some ad) 0 0) w:=fun ty=>gZ w _ ty _ i0 underlying23 hi (some ad) (some ad) 0 0 c (Nat.le_refl _)
   go_enter func114,ntmps114
   go_wp2
   go_ret
   exact⟨_,0,rfl,Nat.le_refl _,.inl ⟨rfl,rfl⟩,Below.refl _ _⟩
 ·obtain⟨ad,rfl⟩:∃ ad,A=some ad:=by
   obtain⟨ad,e,_⟩:=HL.out (fun e=>by have:=HX.out;rw [e] at this;simp at this;omega)
   exact⟨ad,e⟩
  have hc:Hid (∀ j u,xs[j]?=some u→w.cell? (ad.add j)=some u):=hid fun j u hu=>by
   obtain⟨IA,e,_,hc⟩:=HL.out (fun e=>by rw [e] at hu;simp at hu)
   injection e with e
   subst e
   exact hc j u hu
  go_enter func114,ntmps114
  go_wp2_with (at_builtin;refine jy _ rfl _ _ 23 rfl w.heap.size 61 i0 _ 2 24 underlying23 hi hz0 hz1 hz2 rfl 0 0 (some ad) 0 [] rfl rfl au.nil (by simp) ad n c xs rfl HX.out hc.out H1.out (by omega) (by unfold maxLen;omega) (by omega) (Nat.le_refl _) ?_)
  intro v' w1 hown hgrow
  obtain⟨A2,c2,rfl⟩:=aD hown
  obtain⟨g,e,_⟩:=bO hown (by omega)
  have hr:=(aO hown).2
  have HO:=hid hown
  have HB:=hid (kD (World.ownsRow_nil w w.heap.size 61 2) hgrow (Nat.le_refl _))
  have HE:=hid e
  clear hown hgrow e
  go_wp2
  go_ret
  exact⟨A2,c2,rfl,hr,.inr ⟨g,HE.out,HO.out⟩,HB.out⟩
theorem ownM_c {A:Option Addr} {n c:Nat} {xs:List Value} {w:World} {B:Nat} {t:TypeId} (h:au w B t A xs) (hl:xs.length=n * 7) (h1:∀ u∈xs,u.oneCell'=true) (hs:n≤1000000000):Calls prog 120 #[.slice A n c] w (CY 64 7 xs n w):=by
 obtain⟨i0,hi,hz0,hz1,hz2⟩:=info_parts Tryz.infoTk9
 have HL:=hid h
 have HX:=hid hl
 have H1:=hid h1
 clear h hl h1
 by_cases h0:n=0
 ·subst h0
  rcases A with _ | ad
  ·have hr:∀ ty,(Builtin.append_ #[24,24] ty #[.slice none 0 0,.slice none 0 c]).run prog w=.ok (.slice none 0 0) w:=fun ty=>gZ w _ ty _ i0 underlying24 hi none none 0 0 c (Nat.le_refl _)
   go_enter func120,ntmps120
   go_wp2
   go_ret
   exact⟨_,0,rfl,Nat.le_refl _,.inl ⟨rfl,rfl⟩,Below.refl _ _⟩
  ·have hr:∀ ty,(Builtin.append_ #[24,24] ty #[.slice (some ad) 0 0,.slice (some ad) 0 c]).run prog w=.ok (.slice (some ad) 0 0) w:=fun ty=>gZ w _ ty _ i0 underlying24 hi (some ad) (some ad) 0 0 c (Nat.le_refl _)
   go_enter func120,ntmps120
   go_wp2
   go_ret
   exact⟨_,0,rfl,Nat.le_refl _,.inl ⟨rfl,rfl⟩,Below.refl _ _⟩
 ·obtain⟨ad,rfl⟩:∃ ad,A=some ad:=by
   obtain⟨ad,e,_⟩:=HL.out (fun e=>by have:=HX.out;rw [e] at this;simp at this;omega)
   exact⟨ad,e⟩
  have hc:Hid (∀ j u,xs[j]?=some u→w.cell? (ad.add j)=some u):=hid fun j u hu=>by
   obtain⟨IA,e,_,hc⟩:=HL.out (fun e=>by rw [e] at hu;simp at hu)
   injection e with e
   subst e
   exact hc j u hu
  go_enter func120,ntmps120
  go_wp2_with (at_builtin;refine jy _ rfl _ _ 24 rfl w.heap.size 64 i0 _ 7 80 underlying24 hi hz0 hz1 hz2 rfl 0 0 (some ad) 0 [] rfl rfl au.nil (by simp) ad n c xs rfl HX.out hc.out H1.out (by omega) (by unfold maxLen;omega) (by omega) (Nat.le_refl _) ?_)
  intro v' w1 hown hgrow
  obtain⟨A2,c2,rfl⟩:=aD hown
  obtain⟨g,e,_⟩:=bO hown (by omega)
  have hr:=(aO hown).2
  have HO:=hid hown
  have HB:=hid (kD (World.ownsRow_nil w w.heap.size 64 7) hgrow (Nat.le_refl _))
  have HE:=hid e
  clear hown hgrow e
  go_wp2
  go_ret
  exact⟨A2,c2,rfl,hr,.inr ⟨g,HE.out,HO.out⟩,HB.out⟩
theorem ownS_c {A:Option Addr} {n c:Nat} {xs:List Value} {w:World} {B:Nat} {t:TypeId} (h:au w B t A xs) (hl:xs.length=n * 1) (h1:∀ u∈xs,u.oneCell'=true) (hs:n≤1000000000):Calls prog 125 #[.slice A n c] w (CY 9 1 xs n w):=by
 obtain⟨i0,hi,hz0,hz1,hz2⟩:=info_parts Tryz.infoStr9
 have HL:=hid h
 have HX:=hid hl
 have H1:=hid h1
 clear h hl h1
 by_cases h0:n=0
 ·subst h0
  rcases A with _ | ad
  ·have hr:∀ ty,(Builtin.append_ #[62,62] ty #[.slice none 0 0,.slice none 0 c]).run prog w=.ok (.slice none 0 0) w:=fun ty=>gZ w _ ty _ i0 underlying62 hi none none 0 0 c (Nat.le_refl _)
   go_enter func125,ntmps125
   go_wp2
   go_ret
   exact⟨_,0,rfl,Nat.le_refl _,.inl ⟨rfl,rfl⟩,Below.refl _ _⟩
  ·have hr:∀ ty,(Builtin.append_ #[62,62] ty #[.slice (some ad) 0 0,.slice (some ad) 0 c]).run prog w=.ok (.slice (some ad) 0 0) w:=fun ty=>gZ w _ ty _ i0 underlying62 hi (some ad) (some ad) 0 0 c (Nat.le_refl _)
   go_enter func125,ntmps125
   go_wp2
   go_ret
   exact⟨_,0,rfl,Nat.le_refl _,.inl ⟨rfl,rfl⟩,Below.refl _ _⟩
 ·obtain⟨ad,rfl⟩:∃ ad,A=some ad:=by
   obtain⟨ad,e,_⟩:=HL.out (fun e=>by have:=HX.out;rw [e] at this;simp at this;omega)
   exact⟨ad,e⟩
  have hc:Hid (∀ j u,xs[j]?=some u→w.cell? (ad.add j)=some u):=hid fun j u hu=>by
   obtain⟨IA,e,_,hc⟩:=HL.out (fun e=>by rw [e] at hu;simp at hu)
   injection e with e
   subst e
   exact hc j u hu
  go_enter func125,ntmps125
  go_wp2_with (at_builtin;refine jy _ rfl _ _ 62 rfl w.heap.size 9 i0 _ 1 16 underlying62 hi hz0 hz1 hz2 rfl 0 0 (some ad) 0 [] rfl rfl au.nil (by simp) ad n c xs rfl HX.out hc.out H1.out (by omega) (by unfold maxLen;omega) (by omega) (Nat.le_refl _) ?_)
  intro v' w1 hown hgrow
  obtain⟨A2,c2,rfl⟩:=aD hown
  obtain⟨g,e,_⟩:=bO hown (by omega)
  have hr:=(aO hown).2
  have HO:=hid hown
  have HB:=hid (kD (World.ownsRow_nil w w.heap.size 9 1) hgrow (Nat.le_refl _))
  have HE:=hid e
  clear hown hgrow e
  go_wp2
  go_ret
  exact⟨A2,c2,rfl,hr,.inr ⟨g,HE.out,HO.out⟩,HB.out⟩
theorem EA (A:Option Addr) (c:Nat) (f:Value) (w:World):Calls prog 152 #[.slice A 0 c,.int .i64 0,f] w fun e w'=>e=.returned (.tuple #[])∧w=w':=by
 have hi:Calls prog 168 #[.slice A 0 c,.int .i64 0,.int .i64 0,f] w fun e w'=>e=.returned (.tuple #[])∧w=w':=by
  go_enter func168,ntmps168
  go_wp2_with fail
  go_loopw [8] (fun s8 wr=>s8=.int .i64 1∧wr=w) (fun _ _=>0)
  case atStart=>exact⟨rfl,rfl⟩
  case round =>
   obtain⟨rfl,rfl⟩:=hrel
   go_wp2
   go_end0
   exact⟨rfl,rfl⟩
 have HI:=hid hi
 clear hi
 go_enter func152,ntmps152
 go_wp2_with fail
 go_loopw [7,8] (fun s7 s8 wr=>s7=.int .i64 0∧s8=.int .i64 20∧wr=w) (fun _ _ _=>0)
 case atStart=>exact⟨rfl,rfl,rfl⟩
 case round =>
  obtain⟨rfl,rfl,rfl⟩:=hrel
  go_wp2_with (go_at_call 168;refine HI.out.mono ?_;rintro e w1 ⟨rfl,rfl⟩)
  go_loopw [6] (fun s6 wr2=>s6=.int .i64 20∧wr2=wr) (fun _ _=>0)
  case atStart=>exact⟨rfl,rfl⟩
  case round =>
   obtain⟨rfl,rfl⟩:=hrel
   go_wp2
   go_end0
   exact⟨rfl,rfl⟩
theorem L_ (A:Option Addr) (c:Nat) (f:Value) (w:World):Calls prog 115 #[.slice A 0 c,f] w fun e w'=>e=.returned (.tuple #[])∧w=w':=by
 go_enter func115,ntmps115
 go_wp2_with (go_at_call 152;refine (EA _ _ _ _).mono ?_;rintro e w1 ⟨rfl,rfl⟩)
 go_end0
 exact⟨rfl,rfl⟩
theorem sortL_c {blk cap:Nat} {d:Array T9.Li} {w:World} {g:Nat} {cb:Array Value} (R:RowK a_ 2 w blk 0 d) (S:SWK a_ 2 w blk 0 d w) (eg:∀ args w,(callFunc g args).run prog w=.ok (.enter g args) w) (hcmp:CmpLays prog g cb a_ 2 cfL blk 0 d.size w) (ho:Sr.WO (ltOf cfL)) (hsz:d.size<4611686018427387904) (n:Nat) (hn:n=d.size) :
  Calls prog 115 #[.slice (some ⟨blk,0,none⟩) n cap,.func (.func g) #[] cb] w fun e w'=>e=.returned (.tuple #[])∧mK cfL a_ 2 w blk 0 d [] d.toList [] w':=by
 have hc:=zD srtL 2 isAgg61 sizeOf61 a_ blk 0 cap d d w w R rfl S cfL g cb eg hcmp ho n hn hsz;simp only [cond_true,cond_false] at hc
 rw [← hn] at hc
 have HC:=hid hc
 clear hc hcmp ho R S hn hsz
 go_enter func115,ntmps115
 go_wp2_with (go_at_call 152;refine HC.out.mono ?_;rintro e w1 ⟨rfl,hw1⟩)
 have H:=hid hw1
 clear hw1
 go_wp2
 go_end0
 exact⟨rfl,H.out⟩
theorem EB (A:Option Addr) (c:Nat) (f:Value) (w:World):Calls prog 154 #[.slice A 0 c,.int .i64 0,f] w fun e w'=>e=.returned (.tuple #[])∧w=w':=by
 have hi:Calls prog 170 #[.slice A 0 c,.int .i64 0,.int .i64 0,f] w fun e w'=>e=.returned (.tuple #[])∧w=w':=by
  go_enter func170,ntmps170
  go_wp2_with fail
  go_loopw [8] (fun s8 wr=>s8=.int .i64 1∧wr=w) (fun _ _=>0)
  case atStart=>exact⟨rfl,rfl⟩
  case round =>
   obtain⟨rfl,rfl⟩:=hrel
   go_wp2
   go_end0
   exact⟨rfl,rfl⟩
 have HI:=hid hi
 clear hi
 go_enter func154,ntmps154
 go_wp2_with fail
 go_loopw [7,8] (fun s7 s8 wr=>s7=.int .i64 0∧s8=.int .i64 20∧wr=w) (fun _ _ _=>0)
 case atStart=>exact⟨rfl,rfl,rfl⟩
 case round =>
  obtain⟨rfl,rfl,rfl⟩:=hrel
  go_wp2_with (go_at_call 170;refine HI.out.mono ?_;rintro e w1 ⟨rfl,rfl⟩)
  go_loopw [6] (fun s6 wr2=>s6=.int .i64 20∧wr2=wr) (fun _ _=>0)
  case atStart=>exact⟨rfl,rfl⟩
  case round =>
   obtain⟨rfl,rfl⟩:=hrel
   go_wp2
   go_end0
   exact⟨rfl,rfl⟩
theorem Ce (A:Option Addr) (c:Nat) (f:Value) (w:World):Calls prog 121 #[.slice A 0 c,f] w fun e w'=>e=.returned (.tuple #[])∧w=w':=by
 go_enter func121,ntmps121
 go_wp2_with (go_at_call 154;refine (EB _ _ _ _).mono ?_;rintro e w1 ⟨rfl,rfl⟩)
 go_end0
 exact⟨rfl,rfl⟩
theorem sortM_c {blk cap:Nat} {d:Array aN} {w:World} {g:Nat} {cb:Array Value} (R:RowK aA 7 w blk 0 d) (S:SWK aA 7 w blk 0 d w) (eg:∀ args w,(callFunc g args).run prog w=.ok (.enter g args) w) (hcmp:CmpLays prog g cb aA 7 cfM blk 0 d.size w) (ho:Sr.WO (ltOf cfM)) (hsz:d.size<4611686018427387904) (n:Nat) (hn:n=d.size) :
  Calls prog 121 #[.slice (some ⟨blk,0,none⟩) n cap,.func (.func g) #[] cb] w fun e w'=>e=.returned (.tuple #[])∧mK cfM aA 7 w blk 0 d [] d.toList [] w':=by
 have hc:=zD srtK 7 isAgg64 sizeOf64 aA blk 0 cap d d w w R rfl S cfM g cb eg hcmp ho n hn hsz;simp only [cond_true,cond_false] at hc
 rw [← hn] at hc
 have HC:=hid hc
 clear hc hcmp ho R S hn hsz
 go_enter func121,ntmps121
 go_wp2_with (go_at_call 154;refine HC.out.mono ?_;rintro e w1 ⟨rfl,hw1⟩)
 have H:=hid hw1
 clear hw1
 go_wp2
 go_end0
 exact⟨rfl,H.out⟩
theorem ED (A:Option Addr) (c:Nat) (f:Value) (w:World):Calls prog 155 #[.slice A 0 c,.int .i64 0,f] w fun e w'=>e=.returned (.tuple #[])∧w=w':=by
 have hi:Calls prog 172 #[.slice A 0 c,.int .i64 0,.int .i64 0,f] w fun e w'=>e=.returned (.tuple #[])∧w=w':=by
  go_enter func172,ntmps172
  go_wp2_with fail
  go_loopw [8] (fun s8 wr=>s8=.int .i64 1∧wr=w) (fun _ _=>0)
  case atStart=>exact⟨rfl,rfl⟩
  case round =>
   obtain⟨rfl,rfl⟩:=hrel
   go_wp2
   go_end0
   exact⟨rfl,rfl⟩
 have HI:=hid hi
 clear hi
 go_enter func155,ntmps155
 go_wp2_with fail
 go_loopw [7,8] (fun s7 s8 wr=>s7=.int .i64 0∧s8=.int .i64 20∧wr=w) (fun _ _ _=>0)
 case atStart=>exact⟨rfl,rfl,rfl⟩
 case round =>
  obtain⟨rfl,rfl,rfl⟩:=hrel
  go_wp2_with (go_at_call 172;refine HI.out.mono ?_;rintro e w1 ⟨rfl,rfl⟩)
  go_loopw [6] (fun s6 wr2=>s6=.int .i64 20∧wr2=wr) (fun _ _=>0)
  case atStart=>exact⟨rfl,rfl⟩
  case round =>
   obtain⟨rfl,rfl⟩:=hrel
   go_wp2
   go_end0
   exact⟨rfl,rfl⟩
theorem Ma (A:Option Addr) (c:Nat) (f:Value) (w:World):Calls prog 126 #[.slice A 0 c,f] w fun e w'=>e=.returned (.tuple #[])∧w=w':=by
 go_enter func126,ntmps126
 go_wp2_with (go_at_call 155;refine (ED _ _ _ _).mono ?_;rintro e w1 ⟨rfl,rfl⟩)
 go_end0
 exact⟨rfl,rfl⟩
theorem sortS_c {blk cap:Nat} {d:Array (List UInt8)} {w:World} {g:Nat} {cb:Array Value} (R:Row1 encS w blk 0 d) (S:SW encS w blk 0 d w) (eg:∀ args w,(callFunc g args).run prog w=.ok (.enter g args) w) (hcmp:CmpLays1 prog g cb encS oG blk 0 d.size w) (ho:Sr.WO (ltOf oG)) (hsz:d.size<20) (n:Nat) (hn:n=d.size) :
  Calls prog 126 #[.slice (some ⟨blk,0,none⟩) n cap,.func (.func g) #[] cb] w fun e w'=>e=.returned (.tuple #[])∧C_ oG encS w blk 0 d [] d.toList [] w':=by
 have hc:=stableS srtS encS blk 0 cap d d w w R rfl S oG g cb eg hcmp ho n hn hsz
 rw [← hn] at hc
 have HC:=hid hc
 clear hc hcmp ho R S hn hsz
 go_enter func126,ntmps126
 go_wp2_with (go_at_call 155;refine HC.out.mono ?_;rintro e w1 ⟨rfl,hw1⟩)
 have H:=hid hw1
 clear hw1
 go_wp2
 go_end0
 exact⟨rfl,H.out⟩
theorem Af (A:Option Addr) (c:Nat) (f:Value) (w:World):Calls prog 118 #[.slice A 0 c,f] w fun e w'=>e=.returned (.slice A 0 c)∧w=w':=by
 go_enter func118,ntmps118
 go_wp2
 go_ret
 exact⟨rfl,rfl⟩
theorem Ag (A:Option Addr) (c:Nat) (f:Value) (w:World):Calls prog 123 #[.slice A 0 c,f] w fun e w'=>e=.returned (.slice A 0 c)∧w=w':=by
 go_enter func123,ntmps123
 go_wp2
 go_ret
 exact⟨rfl,rfl⟩
theorem Ah (A:Option Addr) (c:Nat) (f:Value) (w:World):Calls prog 129 #[.slice A 0 c,f] w fun e w'=>e=.returned (.slice A 0 c)∧w=w':=by
 go_enter func129,ntmps129
 go_wp2
 go_ret
 exact⟨rfl,rfl⟩
def xk (t:TypeId) (size:Nat) (cells:List Value) (n:Nat) (w:World) (e:Ending) (w':World):Prop :=
 ∃ A2 c2,e=.returned (.slice A2 n c2)∧n≤c2∧(n=0∧c2=0∨∃ g,A2=some ⟨g,0,none⟩∧w'.ownsRow w.heap.size t size (.slice A2 n c2) n cells)∧au w' w'.heap.size 0 A2 cells∧Below w.heap.size w w'
theorem Ic {A:Option Addr} {n c:Nat} {ls:List (T9.Li)} {w:World} {B:Nat} {t:TypeId} (h:au w B t A (ls.flatMap a_)) (hn:n=ls.length) (hs:n≤1000000) :
  Calls prog 80 #[.slice A n c,.func (.func 81) #[] #[]] w (xk 61 2 ((Sr.canon T9.iY ls).flatMap a_) (Sr.canon T9.iY ls).length w):=by
 have HL0:=hid (h.old (t':=0))
 have HN:=hid hn
 clear h hn
 obtain⟨wB,jf⟩:=nm (w.alloc (.cells #[.func (.func 81) #[] #[]] 124))
 have bB:Below w.heap.size w wB:=by rw [← jf];exact (Below.refl _ w).alloc (Nat.le_refl _) _
 have kB:wB.heap[w.heap.size]?=some (.cells #[.func (.func 81) #[] #[]] 124 (0,0)):=by rw [← jf];exact heap_alloc_new w _
 have sB:wB.heap.size=w.heap.size+1:=by rw [← jf];simp
 have BB:=hid bB
 have KB:=hid kB
 have SB:=hid sB
 have HL:=hid (HL0.out.below (Nat.le_refl _) bB)
 have hO:=ownL_c (c:=c) (n:=n) HL.out (by rw [HN.out];exact eY ls) (iL ls) (by omega)
 have HOW:=hid hO
 clear bB kB sB hO
 go_enter func80,ntmps80
 go_wp2_with (go_at_call 114;refine HOW.out.mono ?_;rintro e w1 ⟨A2,c2,rfl,hc2,ho,hb1⟩)
 have B1:=hid (BB.out.trans (hb1.mono (by have:=SB.out;omega)))
 have KB1:=hid ((hb1.block w.heap.size (by have:=SB.out;omega)).trans KB.out)
 have z1:=hb1.size
 have Z1:=hid z1
 have HO0:=hid ho
 clear hb1 ho z1
 by_cases h0:n=0
 ·subst h0
  have hnil:ls=[]:=List.length_eq_zero_iff.1 HN.out.symm
  have oC:=hid hnil
  clear hnil
  go_wp2_with (go_at_call 115;refine (L_ _ _ _ _).mono ?_;rintro e w2 ⟨rfl,rfl⟩)
  go_wp2_with (go_at_call 118;refine (Af _ _ _ _).mono ?_;rintro e w2 ⟨rfl,rfl⟩)
  go_ret
  exact⟨A2,c2,by rw [oC.out];rfl,by rw [oC.out];exact Nat.zero_le _,by
   rcases HO0.out with q | ⟨g,e,o⟩
   ·exact .inl ⟨by rw [oC.out];rfl,q.2⟩
   ·refine .inr ⟨g,e,?_⟩
    rw [oC.out] at o ⊢
    exact dA o (by have:=SB.out;omega),by rw [oC.out];exact au.nil,B1.out⟩
 ·obtain⟨g,hg,hown⟩:=HO0.out.resolve_left (fun q=>h0 q.1)
  have HG:=hid hg
  have HO:=hid hown
  rw [hg] at hown
  have gl:=hown.lt g rfl
  have Cu:=hid gl
  have R:RowK a_ 2 w1 g 0 ls.toArray:=vS (d:=ls.toArray) fT lD (by decide) rfl hown
  have S0:SWK a_ 2 w1 g 0 ls.toArray w1:=SWK.start R.hH
  have RR:=hid R
  have HS0:=hid S0
  have Jo:w1.cell? ⟨w.heap.size,0,none⟩=some (.func (.func 81) #[] #[]):=cell_of_one KB1.out
  have bxl:w.heap.size<w1.heap.size:=lt_of_block KB1.out
  have bxn:w.heap.size≠g:=by have:=SB.out;omega
  have MC:=hid (sortL_c (cap:=c2) R S0 (fun args w=>Tryz.call116 args w) (laysL (size:=ls.toArray.size) Jo bxn bxl) (by rw [Ec];exact T9.woL) (by simp;have:=HN.out;omega) n (by simp;exact HN.out))
  clear hown R S0 gl
  rw [hg]
  clear hg
  have BX:=hid Jo
  clear Jo
  go_wp2_with (go_at_call 115;refine MC.out.mono ?_;rintro e w2 ⟨rfl,dk,W,hs2,hd2,hl2,hw2,GI,hst⟩)
  have S2:=hid hs2
  have SR:=hid (And.intro hd2 (And.intro hl2 (And.intro GI hst)))
  have hds:dk.size=n:=by rw [hd2];simp;exact HN.out.symm
  have CC:=Jw cptL 2 isAgg61 sizeOf61 a_ (⟨0,[]⟩:T9.Li) (fun w=>zeroValue61 w) rfl g 0 c2 ls.toArray dk w1 w2 RR.out (by rw [hd2]) hs2 (Sr.iq T9.iY) 119 #[.pointer (some ⟨w.heap.size,0,none⟩)] (fun args w=>Tryz.call119 args w) (eqsL BX.out bxn bxl) (by rw [hds];exact hc2) (by have:=(ma HO.out);unfold maxLen at this;omega) (by omega)
  rw [hds] at CC
  have HCC:=hid CC
  have HDS:=hid hds
  clear hs2 hd2 hl2 hw2 GI hst CC hds
  go_wp2_with (go_at_call 118;refine HCC.out.mono ?_;rintro e w3 ⟨dk3,m,rfl,hs3,hd3,hm0,Au⟩;have HM:=hid hm0;have HL3:=hid Au;have HD3:=hid hd3;clear hm0 Au hd3)
  have hm:=HM.out
  have hl3:=HL3.out
  have hd3:=HD3.out
  have CN:Sr.compact (Sr.iq T9.iY) dk.toList=Sr.canon T9.iY ls:=Sr.lh T9.woL (by rw [← Ec];have:=SR.out.2.2.1;rw [SR.out.2.1];simpa using this) (by rw [← Ec];have:=SR.out.2.2.2;rw [SR.out.2.1];simpa using this)
  rw [CN] at hm hl3
  rw [hm] at hl3
  have zQ:(Sr.canon T9.iY ls).length≤n:=by rw [HN.out];exact Sr.dD ls
  have mX:dk3.size=ls.toArray.size:=by rw [hd3,HDS.out,HN.out];simp
  have HOG:=hid (show w1.ownsRow wB.heap.size 61 2 (.slice (some ⟨g,0,none⟩) n c2) n (ls.flatMap a_) by rw [← HG.out];exact HO.out)
  have FIN:xk 61 2 ((Sr.canon T9.iY ls).flatMap a_) (Sr.canon T9.iY ls).length w (.returned (.slice (some ⟨g,0,none⟩) m c2)) w3:=by
   refine⟨some ⟨g,0,none⟩,c2,by rw [hm],by omega,.inr ⟨g,rfl,?_⟩,?_,B1.out.trans (sF hs3 (by have:=Cu.out;have:=SB.out;omega) Cu.out.2)⟩
   ·exact dA (FQ hs3 RR.out mX HOG.out hl3 zQ) (by have:=SB.out;omega)
   ·exact qZ hs3 RR.out mX hl3 (SWK.lt hs3 Cu.out.2)
  have HF:=hid FIN
  clear FIN hs3 hd3 hl3 CN zQ mX hm
  go_wp2
  go_ret
  exact HF.out
theorem Ie {A:Option Addr} {n c:Nat} {ls:List (aN)} {w:World} {B:Nat} {t:TypeId} (h:au w B t A (ls.flatMap aA)) (hn:n=ls.length) (hs:n≤1000000) :
  Calls prog 82 #[.slice A n c,.func (.func 83) #[] #[]] w (xk 64 7 ((Sr.canon iI ls).flatMap aA) (Sr.canon iI ls).length w):=by
 have HL0:=hid (h.old (t':=0))
 have HN:=hid hn
 clear h hn
 obtain⟨wB,jf⟩:=nm (w.alloc (.cells #[.func (.func 83) #[] #[]] 126))
 have bB:Below w.heap.size w wB:=by rw [← jf];exact (Below.refl _ w).alloc (Nat.le_refl _) _
 have kB:wB.heap[w.heap.size]?=some (.cells #[.func (.func 83) #[] #[]] 126 (0,0)):=by rw [← jf];exact heap_alloc_new w _
 have sB:wB.heap.size=w.heap.size+1:=by rw [← jf];simp
 have BB:=hid bB
 have KB:=hid kB
 have SB:=hid sB
 have HL:=hid (HL0.out.below (Nat.le_refl _) bB)
 have hO:=ownM_c (c:=c) (n:=n) HL.out (by rw [HN.out];exact aP ls) (cB ls) (by omega)
 have HOW:=hid hO
 clear bB kB sB hO
 go_enter func82,ntmps82
 go_wp2_with (go_at_call 120;refine HOW.out.mono ?_;rintro e w1 ⟨A2,c2,rfl,hc2,ho,hb1⟩)
 have B1:=hid (BB.out.trans (hb1.mono (by have:=SB.out;omega)))
 have KB1:=hid ((hb1.block w.heap.size (by have:=SB.out;omega)).trans KB.out)
 have z1:=hb1.size
 have Z1:=hid z1
 have HO0:=hid ho
 clear hb1 ho z1
 by_cases h0:n=0
 ·subst h0
  have hnil:ls=[]:=List.length_eq_zero_iff.1 HN.out.symm
  have oC:=hid hnil
  clear hnil
  go_wp2_with (go_at_call 121;refine (Ce _ _ _ _).mono ?_;rintro e w2 ⟨rfl,rfl⟩)
  go_wp2_with (go_at_call 123;refine (Ag _ _ _ _).mono ?_;rintro e w2 ⟨rfl,rfl⟩)
  go_ret
  exact⟨A2,c2,by rw [oC.out];rfl,by rw [oC.out];exact Nat.zero_le _,by
   rcases HO0.out with q | ⟨g,e,o⟩
   ·exact .inl ⟨by rw [oC.out];rfl,q.2⟩
   ·refine .inr ⟨g,e,?_⟩
    rw [oC.out] at o ⊢
    exact dA o (by have:=SB.out;omega),by rw [oC.out];exact au.nil,B1.out⟩
 ·obtain⟨g,hg,hown⟩:=HO0.out.resolve_left (fun q=>h0 q.1)
  have HG:=hid hg
  have HO:=hid hown
  rw [hg] at hown
  have gl:=hown.lt g rfl
  have Cu:=hid gl
  have R:RowK aA 7 w1 g 0 ls.toArray:=vS (d:=ls.toArray) aU dL (by decide) rfl hown
  have S0:SWK aA 7 w1 g 0 ls.toArray w1:=SWK.start R.hH
  have RR:=hid R
  have HS0:=hid S0
  have Jo:w1.cell? ⟨w.heap.size,0,none⟩=some (.func (.func 83) #[] #[]):=cell_of_one KB1.out
  have bxl:w.heap.size<w1.heap.size:=lt_of_block KB1.out
  have bxn:w.heap.size≠g:=by have:=SB.out;omega
  have MC:=hid (sortM_c (cap:=c2) R S0 (fun args w=>Tryz.call122 args w) (laysM (size:=ls.toArray.size) Jo bxn bxl) (by rw [Ed];exact woM) (by simp;have:=HN.out;omega) n (by simp;exact HN.out))
  clear hown R S0 gl
  rw [hg]
  clear hg
  have BX:=hid Jo
  clear Jo
  go_wp2_with (go_at_call 121;refine MC.out.mono ?_;rintro e w2 ⟨rfl,dk,W,hs2,hd2,hl2,hw2,GI,hst⟩)
  have S2:=hid hs2
  have SR:=hid (And.intro hd2 (And.intro hl2 (And.intro GI hst)))
  have hds:dk.size=n:=by rw [hd2];simp;exact HN.out.symm
  have CC:=Jv cptK 7 isAgg64 sizeOf64 aA (⟨⟨0,0,[],false,0,0,[]⟩,none,0⟩:aN) (fun w=>zeroValue64 w) rfl g 0 c2 ls.toArray dk w1 w2 RR.out (by rw [hd2]) hs2 (Sr.iq iI) 124 #[.pointer (some ⟨w.heap.size,0,none⟩)] (fun args w=>Tryz.call124 args w) (eqsM BX.out bxn bxl) (by rw [hds];exact hc2) (by have:=(ma HO.out);unfold maxLen at this;omega) (by omega)
  rw [hds] at CC
  have HCC:=hid CC
  have HDS:=hid hds
  clear hs2 hd2 hl2 hw2 GI hst CC hds
  go_wp2_with (go_at_call 123;refine HCC.out.mono ?_;rintro e w3 ⟨dk3,m,rfl,hs3,hd3,hm0,Au⟩;have HM:=hid hm0;have HL3:=hid Au;have HD3:=hid hd3;clear hm0 Au hd3)
  have hm:=HM.out
  have hl3:=HL3.out
  have hd3:=HD3.out
  have CN:Sr.compact (Sr.iq iI) dk.toList=Sr.canon iI ls:=Sr.lh woM (by rw [← Ed];have:=SR.out.2.2.1;rw [SR.out.2.1];simpa using this) (by rw [← Ed];have:=SR.out.2.2.2;rw [SR.out.2.1];simpa using this)
  rw [CN] at hm hl3
  rw [hm] at hl3
  have zQ:(Sr.canon iI ls).length≤n:=by rw [HN.out];exact Sr.dD ls
  have mX:dk3.size=ls.toArray.size:=by rw [hd3,HDS.out,HN.out];simp
  have HOG:=hid (show w1.ownsRow wB.heap.size 64 7 (.slice (some ⟨g,0,none⟩) n c2) n (ls.flatMap aA) by rw [← HG.out];exact HO.out)
  have FIN:xk 64 7 ((Sr.canon iI ls).flatMap aA) (Sr.canon iI ls).length w (.returned (.slice (some ⟨g,0,none⟩) m c2)) w3:=by
   refine⟨some ⟨g,0,none⟩,c2,by rw [hm],by omega,.inr ⟨g,rfl,?_⟩,?_,B1.out.trans (sF hs3 (by have:=Cu.out;have:=SB.out;omega) Cu.out.2)⟩
   ·exact dA (FQ hs3 RR.out mX HOG.out hl3 zQ) (by have:=SB.out;omega)
   ·exact qZ hs3 RR.out mX hl3 (SWK.lt hs3 Cu.out.2)
  have HF:=hid FIN
  clear FIN hs3 hd3 hl3 CN zQ mX hm
  go_wp2
  go_ret
  exact HF.out
theorem Ig {A:Option Addr} {n c:Nat} {ls:List (List UInt8)} {w:World} {B:Nat} {t:TypeId} (h:au w B t A (ls.map encS)) (hn:n=ls.length) (hs:n<20) :
  Calls prog 84 #[.slice A n c,.func (.func 85) #[] #[]] w (xk 9 1 ((Sr.canon T9.dN ls).map encS) (Sr.canon T9.dN ls).length w):=by
 have HL0:=hid (h.old (t':=0))
 have HN:=hid hn
 clear h hn
 obtain⟨wB,jf⟩:=nm (w.alloc (.cells #[.func (.func 85) #[] #[]] 128))
 have bB:Below w.heap.size w wB:=by rw [← jf];exact (Below.refl _ w).alloc (Nat.le_refl _) _
 have kB:wB.heap[w.heap.size]?=some (.cells #[.func (.func 85) #[] #[]] 128 (0,0)):=by rw [← jf];exact heap_alloc_new w _
 have sB:wB.heap.size=w.heap.size+1:=by rw [← jf];simp
 have BB:=hid bB
 have KB:=hid kB
 have SB:=hid sB
 have HL:=hid (HL0.out.below (Nat.le_refl _) bB)
 have hO:=ownS_c (c:=c) (n:=n) HL.out (by rw [HN.out];exact by simp) (eX ls) (by omega)
 have HOW:=hid hO
 clear bB kB sB hO
 go_enter func84,ntmps84
 go_wp2_with (go_at_call 125;refine HOW.out.mono ?_;rintro e w1 ⟨A2,c2,rfl,hc2,ho,hb1⟩)
 have B1:=hid (BB.out.trans (hb1.mono (by have:=SB.out;omega)))
 have KB1:=hid ((hb1.block w.heap.size (by have:=SB.out;omega)).trans KB.out)
 have z1:=hb1.size
 have Z1:=hid z1
 have HO0:=hid ho
 clear hb1 ho z1
 by_cases h0:n=0
 ·subst h0
  have hnil:ls=[]:=List.length_eq_zero_iff.1 HN.out.symm
  have oC:=hid hnil
  clear hnil
  go_wp2_with (go_at_call 126;refine (Ma _ _ _ _).mono ?_;rintro e w2 ⟨rfl,rfl⟩)
  go_wp2_with (go_at_call 129;refine (Ah _ _ _ _).mono ?_;rintro e w2 ⟨rfl,rfl⟩)
  go_ret
  exact⟨A2,c2,by rw [oC.out];rfl,by rw [oC.out];exact Nat.zero_le _,by
   rcases HO0.out with q | ⟨g,e,o⟩
   ·exact .inl ⟨by rw [oC.out];rfl,q.2⟩
   ·refine .inr ⟨g,e,?_⟩
    rw [oC.out] at o ⊢
    exact dA o (by have:=SB.out;omega),by rw [oC.out];exact au.nil,B1.out⟩
 ·obtain⟨g,hg,hown⟩:=HO0.out.resolve_left (fun q=>h0 q.1)
  have HG:=hid hg
  have HO:=hid hown
  rw [hg] at hown
  have gl:=hown.lt g rfl
  have Cu:=hid gl
  have R:Row1 encS w1 g 0 ls.toArray:=LK (d:=ls.toArray) (fun x=>rfl) rfl hown
  have S0:SW encS w1 g 0 ls.toArray w1:=SW.start R.hH
  have RR:=hid R
  have HS0:=hid S0
  have Jo:w1.cell? ⟨w.heap.size,0,none⟩=some (.func (.func 85) #[] #[]):=cell_of_one KB1.out
  have bxl:w.heap.size<w1.heap.size:=lt_of_block KB1.out
  have bxn:w.heap.size≠g:=by have:=SB.out;omega
  have MC:=hid (sortS_c (cap:=c2) R S0 (fun args w=>Tryz.call127 args w) (laysS (size:=ls.toArray.size) Jo bxn bxl) (by rw [Ef];exact T9.MO) (by simp;have:=HN.out;omega) n (by simp;exact HN.out))
  clear hown R S0 gl
  rw [hg]
  clear hg
  have BX:=hid Jo
  clear Jo
  go_wp2_with (go_at_call 126;refine MC.out.mono ?_;rintro e w2 ⟨rfl,dk,W,hs2,hd2,hl2,hw2,GI,hst⟩)
  have S2:=hid hs2
  have SR:=hid (And.intro hd2 (And.intro hl2 (And.intro GI hst)))
  have hds:dk.size=n:=by rw [hd2];simp;exact HN.out.symm
  have CC:=Jy cptS encS ([]:List UInt8) (fun w=>zeroValue9 w) g 0 c2 ls.toArray dk w1 w2 RR.out (by rw [hd2]) hs2 (Sr.iq T9.dN) 130 #[.pointer (some ⟨w.heap.size,0,none⟩)] (fun args w=>Tryz.call130 args w) (eqsS BX.out bxn bxl) (by rw [hds];exact hc2) (by have:=(ma HO.out);unfold maxLen at this;omega) (by omega)
  rw [hds] at CC
  have HCC:=hid CC
  have HDS:=hid hds
  clear hs2 hd2 hl2 hw2 GI hst CC hds
  go_wp2_with (go_at_call 129;refine HCC.out.mono ?_;rintro e w3 ⟨dk3,m,rfl,hs3,hd3,hm0,Au⟩;have HM:=hid hm0;have HL3:=hid Au;have HD3:=hid hd3;clear hm0 Au hd3)
  have hm:=HM.out
  have hl3:=HL3.out
  have hd3:=HD3.out
  have CN:Sr.compact (Sr.iq T9.dN) dk.toList=Sr.canon T9.dN ls:=Sr.lh T9.MO (by rw [← Ef];have:=SR.out.2.2.1;rw [SR.out.2.1];simpa using this) (by rw [← Ef];have:=SR.out.2.2.2;rw [SR.out.2.1];simpa using this)
  rw [CN] at hm hl3
  rw [hm] at hl3
  have zQ:(Sr.canon T9.dN ls).length≤n:=by rw [HN.out];exact Sr.dD ls
  have mX:dk3.size=ls.toArray.size:=by rw [hd3,HDS.out,HN.out];simp
  have HOG:=hid (show w1.ownsRow wB.heap.size 9 1 (.slice (some ⟨g,0,none⟩) n c2) n (ls.map encS) by rw [← HG.out];exact HO.out)
  have FIN:xk 9 1 ((Sr.canon T9.dN ls).map encS) (Sr.canon T9.dN ls).length w (.returned (.slice (some ⟨g,0,none⟩) m c2)) w3:=by
   refine⟨some ⟨g,0,none⟩,c2,by rw [hm],by omega,.inr ⟨g,rfl,?_⟩,?_,B1.out.trans (Mk hs3 (by have:=Cu.out;have:=SB.out;omega) Cu.out.2)⟩
   ·exact dA (sw_own hs3 RR.out mX HOG.out hl3 zQ) (by have:=SB.out;omega)
   ·exact FO hs3 RR.out mX hl3 (SW.lt hs3 Cu.out.2)
  have HF:=hid FIN
  clear FIN hs3 hd3 hl3 CN zQ mX hm
  go_wp2
  go_ret
  exact HF.out
end
end
end Go.Proofs.YtcmiompdjjiojaaGreat
