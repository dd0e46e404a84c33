import Derived.Test.YtcedlgedmkghgaaZ12
import Derived.Test.YtcedlgedmkghgaaZ4
import Derived.StillTailTactics
namespace Go.Proofs.Ytcedlgedmkghgaa
set_option maxHeartbeats 16000000
open Go.Lib
set_option linter.unusedSimpArgs false
set_option maxRecDepth 100000
section
section
open Go.RowKit Go.Lib
theorem aG {α:Type} {l:List α} {k:Nat} {x:α} (h:l[k]?=some x):l.take (k+1)=l.take k++[x]:=by
 obtain⟨q1,q2⟩:=List.getElem?_eq_some_iff.1 h
 rw [List.take_succ_eq_append_getElem q1,q2]
theorem mh {A A2:Option Addr} {n c n2 c2:Nat} {ls ks:List (List UInt8)} {w:World} (h:GL w A ls) (h2:GL w A2 ks) (hn:n=ls.length) (hn2:n2=ks.length) (hs:n≤1000000) :
  Calls Try.prog 86 #[.slice A n c,.slice A2 n2 c2] w fun e w'=>e=.returned (.bool (decide (ls=ks)))∧∃ j,w'=w.drewN j:=by
 have H:=hid h
 have H2:=hid h2
 have HN:=hid hn
 have m_:=hid hn2
 clear h h2 hn hn2
 by_cases hl:n=n2
 ·subst hl
  have HL:=hid (HN.out.symm.trans m_.out)
  go_enter Try.func86,Try.ntmps86
  go_wp2_with fail
  go_loopw [13] (fun i wr=>∃ k j:Nat,k≤n∧i=.int .i64 k∧ls.take k=ks.take k∧wr=w.drewN j) (fun i _=>n - (intOf i).toNat)
  case atStart=>exact⟨0,0,Nat.zero_le _,rfl,rfl,rfl⟩
  case round =>
   obtain⟨k,j,hk,rfl,he,rfl⟩:=hrel
   have HE:=hid he
   clear he
   by_cases hlt:k<n
   ·obtain⟨ad,m,rfl,hm,hc⟩:=H.out.at_ (k:=k) (by rw [← HN.out];exact hlt)
    obtain⟨ad2,m2,rfl,hm2,hc2⟩:=H2.out.at_ (k:=k) (by rw [← m_.out];exact hlt)
    have HM:=hid hm
    have qz:=hid hm2
    clear hm hm2
    have k0:0≤(k:Int):=by omega
    have k1:(k:Int)<(n:Int):=by omega
    by_cases eq:m=m2
    ·have EQ:=hid eq
     have q1:(m==m2)=true:=by simp [eq]
     have q2:(m != m2)=false:=by simp [eq]
     clear eq
     go_wp2_with fail
     go_region
     go_wp2
     go_roundw
     case rel=>exact⟨k+1,j+1,by omega,by go_num,by rw [aG HM.out,aG qz.out,HE.out,EQ.out],rfl⟩
     case measure=>simp [intOf];omega
    ·have NE:Hid (¬ ls=ks):=hid fun e=>eq (by
      have e1:=congrArg (·[k]?) e
      simp only [HM.out,qz.out,Option.some.injEq] at e1
      exact e1)
     have q1:(m==m2)=false:=by simp [eq]
     have q2:(m != m2)=true:=by simp [eq]
     all_goals
      clear eq
      go_wp2_with fail
      go_region
      go_wp2
      go_ret
      exact⟨ag (by rw [decide_eq_false NE.out]),j+1,rfl⟩
   ·obtain rfl:k=n:=by omega
    have HE2:=HE.out
    rw [HN.out,List.take_length,HL.out,List.take_length] at HE2
    have HE3:=hid HE2
    clear HE2
    go_wp2
    go_ret
    exact⟨ag (by rw [decide_eq_true HE3.out]),j,rfl⟩
 ·have hl':¬ ls=ks:=fun e=>hl (by rw [HN.out,m_.out,e])
  have HL:=hid hl'
  clear hl'
  go_enter Try.func86,Try.ntmps86
  go_wp2
  go_ret
  exact⟨ag (by rw [decide_eq_false HL.out]),0,rfl⟩
theorem li_ne {a b:T9.Li} (h:¬ a=b):(¬ (a.id:Int)=(b.id:Int))∨(a.id:Int)=(b.id:Int)∧¬ a.name=b.name:=by
 by_cases e:a.id=b.id
 ·exact .inr ⟨by omega,fun f=>h (T9.Li.dF.2 ⟨e,f⟩)⟩
 ·exact .inl (by omega)
theorem lC {A A2:Option Addr} {n c n2 c2:Nat} {ls ks:List (T9.Li)} {w:World} (h:LL w A ls) (h2:LL w A2 ks) (hn:n=ls.length) (hn2:n2=ks.length) (hs:n≤1000000) :
  Calls Try.prog 49 #[.slice A n c,.slice A2 n2 c2] w fun e w'=>e=.returned (.bool (decide (ls=ks)))∧∃ j,w'=w.drewN j:=by
 have H:=hid h
 have H2:=hid h2
 have HN:=hid hn
 have m_:=hid hn2
 clear h h2 hn hn2
 by_cases hl:n=n2
 ·subst hl
  have HL:=hid (HN.out.symm.trans m_.out)
  go_enter Try.func49,Try.ntmps49
  go_wp2_with fail
  go_loopw [13] (fun i wr=>∃ k j:Nat,k≤n∧i=.int .i64 k∧ls.take k=ks.take k∧wr=w.drewN j) (fun i _=>n - (intOf i).toNat)
  case atStart=>exact⟨0,0,Nat.zero_le _,rfl,rfl,rfl⟩
  case round =>
   obtain⟨k,j,hk,rfl,he,rfl⟩:=hrel
   have HE:=hid he
   clear he
   by_cases hlt:k<n
   ·obtain⟨ad,m,rfl,hm,hc,hd⟩:=H.out.at_ (k:=k) (by rw [← HN.out];exact hlt)
    obtain⟨ad2,m2,rfl,hm2,hc2,hd2⟩:=H2.out.at_ (k:=k) (by rw [← m_.out];exact hlt)
    have HM:=hid hm
    have qz:=hid hm2
    clear hm hm2
    have k0:0≤(k:Int):=by omega
    have k1:(k:Int)<(n:Int):=by omega
    by_cases eq:m=m2
    ·have EQ:=hid eq
     have q1:(m.id:Int)=(m2.id:Int):=by rw [eq]
     have q2:m.name=m2.name:=by rw [eq]
     clear eq
     go_wp2_with fail
     go_region
     go_wp2
     go_roundw
     case rel=>exact⟨k+1,j+1,by omega,by go_num,by rw [aG HM.out,aG qz.out,HE.out,EQ.out],rfl⟩
     case measure=>simp [intOf];omega
    ·have NE:Hid (¬ ls=ks):=hid fun e=>eq (by
      have e1:=congrArg (·[k]?) e
      simp only [HM.out,qz.out,Option.some.injEq] at e1
      exact e1)
     rcases li_ne eq with q1 | ⟨q1,q2⟩
     all_goals
      clear eq
      go_wp2_with fail
      go_region
      go_wp2
      go_ret
      exact⟨ag (by rw [decide_eq_false NE.out]),j+1,rfl⟩
   ·obtain rfl:k=n:=by omega
    have HE2:=HE.out
    rw [HN.out,List.take_length,HL.out,List.take_length] at HE2
    have HE3:=hid HE2
    clear HE2
    go_wp2
    go_ret
    exact⟨ag (by rw [decide_eq_true HE3.out]),j,rfl⟩
 ·have hl':¬ ls=ks:=fun e=>hl (by rw [HN.out,m_.out,e])
  have HL:=hid hl'
  clear hl'
  go_enter Try.func49,Try.ntmps49
  go_wp2
  go_ret
  exact⟨ag (by rw [decide_eq_false HL.out]),0,rfl⟩
end
section
open Go.RowKit Go.Lib
theorem mW {a:fe}:(.agg (dm a).toArray:Value)=.agg #[.int .u64 (a.t.id:Int),.int .u64 (a.t.list:Int),.string (str a.t.title),.bool a.t.done,.float .f64 a.t.rank,.float .f64 a.t.est,.slice a.A a.t.tags.length a.c]:=rfl
theorem mq {a b:fe} {w:World} (ha:a.fine w) (hb:b.fine w) (sa:a.t.short) (_sb:b.t.short) (oa:a.t.ok) (ob:b.t.ok) :
  Calls Try.prog 71 #[.agg (dm a).toArray,.agg (dm b).toArray] w fun e w'=>e=.returned (.bool (T9.bX a.t b.t))∧Below w.heap.size w w':=by
 obtain⟨w1,hw1⟩:∃ u,w.alloc (.cells #[.int .u64 (a.t.id:Int),.int .u64 (a.t.list:Int),.string (str a.t.title),.bool a.t.done,.float .f64 a.t.rank,.float .f64 a.t.est,.slice a.A a.t.tags.length a.c] 69)=u:=⟨_,rfl⟩
 obtain⟨pb,b1,z1⟩:=dO hw1
 obtain⟨w2,hw2⟩:∃ u,w1.alloc (.cells #[.int .u64 (b.t.id:Int),.int .u64 (b.t.list:Int),.string (str b.t.title),.bool b.t.done,.float .f64 b.t.rank,.float .f64 b.t.est,.slice b.A b.t.tags.length b.c] 69)=u:=⟨_,rfl⟩
 obtain⟨lW,b2,z2⟩:=dO hw2
 have B:Hid (Below w.heap.size w w2):=hid (b1.trans (b2.mono (by omega)))
 have qB:=(b2.block w.heap.size (by omega)).trans pb
 obtain⟨p0,p1,p2,p3,p4,p5,p6⟩:=ax qB
 obtain⟨q0,q1,q2,q3,q4,q5,q6⟩:=ax lW
 have oa1:=oa.2.2.1
 have oa2:=oa.2.2.2
 have ob1:=ob.2.2.1
 have ob2:=ob.2.2.2
 have EQT:=hid (mh (c:=a.c) (c2:=b.c) (ha.gl.stay B.out) (hb.gl.stay B.out) rfl rfl sa.2.2)
 have HZ:=hid z1
 rw [mW,mW]
 clear ha hb sa oa ob pb lW qB b1 b2 z1 z2
 cases h1:((a.t.id:Int)==(b.t.id:Int)) with
 | false =>
  have R:Hid (T9.bX a.t b.t=false):=hid (by
   unfold T9.bX
   have k:=h1
   simp only [beq_eq_false_iff_ne,ne_eq,Int.natCast_inj] at k
   simp [k])
  go_enter Try.func71,Try.ntmps71
  go_wp2_with (first | (go_at_call 85;refine (dz _ _ _ (by assumption) (by assumption)).mono ?_;rintro e w' ⟨rfl,rfl⟩) | (go_at_call 86;refine EQT.out.mono ?_;rintro e w' ⟨rfl,j,rfl⟩))
  go_ret
  exact⟨ag R.out.symm,B.out⟩
 | true =>
  cases h2:((a.t.list:Int)==(b.t.list:Int)) with
  | false =>
   have R:Hid (T9.bX a.t b.t=false):=hid (by
    unfold T9.bX
    have k:=h2
    simp only [beq_eq_false_iff_ne,ne_eq,Int.natCast_inj] at k
    simp [k])
   go_enter Try.func71,Try.ntmps71
   go_wp2_with (first | (go_at_call 85;refine (dz _ _ _ (by assumption) (by assumption)).mono ?_;rintro e w' ⟨rfl,rfl⟩) | (go_at_call 86;refine EQT.out.mono ?_;rintro e w' ⟨rfl,j,rfl⟩))
   go_ret
   exact⟨ag R.out.symm,B.out⟩
  | true =>
   cases h3:(a.t.title==b.t.title) with
   | false =>
    have R:Hid (T9.bX a.t b.t=false):=hid (by
     unfold T9.bX
     have k:=h3
     simp only [beq_eq_false_iff_ne,ne_eq] at k
     simp [k])
    go_enter Try.func71,Try.ntmps71
    go_wp2_with (first | (go_at_call 85;refine (dz _ _ _ (by assumption) (by assumption)).mono ?_;rintro e w' ⟨rfl,rfl⟩) | (go_at_call 86;refine EQT.out.mono ?_;rintro e w' ⟨rfl,j,rfl⟩))
    go_ret
    exact⟨ag R.out.symm,B.out⟩
   | true =>
    cases h4:(a.t.done==b.t.done) with
    | false =>
     have R:Hid (T9.bX a.t b.t=false):=hid (by
      unfold T9.bX
      have k:=h4
      simp only [beq_eq_false_iff_ne,ne_eq] at k
      simp [k])
     go_enter Try.func71,Try.ntmps71
     go_wp2_with (first | (go_at_call 85;refine (dz _ _ _ (by assumption) (by assumption)).mono ?_;rintro e w' ⟨rfl,rfl⟩) | (go_at_call 86;refine EQT.out.mono ?_;rintro e w' ⟨rfl,j,rfl⟩))
     go_ret
     exact⟨ag R.out.symm,B.out⟩
    | true =>
     cases h5:Fl.same a.t.rank b.t.rank with
     | false =>
      have R:Hid (T9.bX a.t b.t=false):=hid (by
       unfold T9.bX
       have k:=h5
       simp [k])
      go_enter Try.func71,Try.ntmps71
      go_wp2_with (first | (go_at_call 85;refine (dz _ _ _ (by assumption) (by assumption)).mono ?_;rintro e w' ⟨rfl,rfl⟩) | (go_at_call 86;refine EQT.out.mono ?_;rintro e w' ⟨rfl,j,rfl⟩))
      go_ret
      exact⟨ag R.out.symm,B.out⟩
     | true =>
      cases h6:Fl.same a.t.est b.t.est with
      | false =>
       have R:Hid (T9.bX a.t b.t=false):=hid (by
        unfold T9.bX
        have k:=h6
        simp [k])
       go_enter Try.func71,Try.ntmps71
       go_wp2_with (first | (go_at_call 85;refine (dz _ _ _ (by assumption) (by assumption)).mono ?_;rintro e w' ⟨rfl,rfl⟩) | (go_at_call 86;refine EQT.out.mono ?_;rintro e w' ⟨rfl,j,rfl⟩))
       go_ret
       exact⟨ag R.out.symm,B.out⟩
      | true =>
       have R:Hid (T9.bX a.t b.t=decide (a.t.tags=b.t.tags)):=hid (by
        unfold T9.bX
        simp only [beq_iff_eq,Int.natCast_inj] at h1 h2 h3 h4
        simp [h1,h2,h3,h4,h5,h6])
       go_enter Try.func71,Try.ntmps71
       go_wp2_with (first | (go_at_call 85;refine (dz _ _ _ (by assumption) (by assumption)).mono ?_;rintro e w' ⟨rfl,rfl⟩) | (go_at_call 86;refine EQT.out.mono ?_;rintro e w' ⟨rfl,j,rfl⟩))
       go_ret
       exact⟨ag R.out.symm,below_drewN B.out j⟩
theorem T9.uO {l m:List T9.Tk} {k:Nat} {a b:T9.Tk} (h:l[k]?=some a) (h2:m[k]?=some b) (hq:T9.bX a b=false):T9.bY l m=false:=by
 induction l generalizing m k with
 | nil=>simp at h
 | cons x l ih =>
  cases m with
  | nil=>simp at h2
  | cons y m =>
   cases k with
   | zero =>
    simp only [List.getElem?_cons_zero,Option.some.injEq] at h h2
    subst h h2
    simp [T9.bY,hq]
   | succ k =>
    simp only [List.getElem?_cons_succ] at h h2
    simp [T9.bY,ih h h2]
theorem xO {ms:List fe} {k:Nat} {m:fe} (h:ms[k]?=some m):(bS ms)[k]?=some m.t:=by unfold bS;rw [List.getElem?_map,h];rfl
theorem lD {A A2:Option Addr} {n c n2 c2:Nat} {ms ks:List fe} {w:World} (h:KL w A ms) (h2:KL w A2 ks) (hn:n=ms.length) (hn2:n2=ks.length) (hs:n≤1000000) (s1:∀ m∈ms,m.t.short∧m.t.ok) (s2:∀ m∈ks,m.t.short∧m.t.ok) :
  Calls Try.prog 50 #[.slice A n c,.slice A2 n2 c2] w fun e w'=>e=.returned (.bool (T9.bY (bS ms) (bS ks)))∧Below w.heap.size w w':=by
 have H:=hid h
 have H2:=hid h2
 have HN:=hid hn
 have m_:=hid hn2
 have S1:=hid s1
 have S2:=hid s2
 clear h h2 hn hn2 s1 s2
 by_cases hl:n=n2
 ·subst hl
  have HL:=hid (HN.out.symm.trans m_.out)
  go_enter Try.func50,Try.ntmps50
  go_wp2_with fail
  go_loopw [13] (fun i wr=>∃ k:Nat,k≤n∧i=.int .i64 k∧Hid (T9.bY (bS (ms.take k)) (bS (ks.take k))=true)∧Aside (Below w.heap.size w wr)) (fun i _=>n - (intOf i).toNat)
  case atStart=>exact⟨0,Nat.zero_le _,rfl,hid rfl,Below.refl _ _⟩
  case round =>
   obtain⟨k,hk,rfl,HE,hB⟩:=hrel
   have BR:=hid hB.out
   clear hB
   by_cases hlt:k<n
   ·obtain⟨ad,a,rfl,hm,hf,r0,r1,r2,r3,r4,r5,r6⟩:=(H.out.stay BR.out).at_ (k:=k) (by rw [← HN.out];exact hlt)
    obtain⟨ad2,b,rfl,hm2,hf2,q0,q1,q2,q3,q4,q5,q6⟩:=(H2.out.stay BR.out).at_ (k:=k) (by rw [← m_.out];exact hlt)
    have HM:=hid hm
    have qz:=hid hm2
    have F1:=hid hf
    have F2:=hid hf2
    clear hm hm2 hf hf2
    have k0:0≤(k:Int):=by omega
    have k1:(k:Int)<(n:Int):=by omega
    have CT:Hid (Calls Try.prog 71 #[.agg #[.int .u64 (a.t.id:Int),.int .u64 (a.t.list:Int),.string (str a.t.title),.bool a.t.done,.float .f64 a.t.rank,.float .f64 a.t.est,.slice a.A a.t.tags.length a.c],.agg #[.int .u64 (b.t.id:Int),.int .u64 (b.t.list:Int),.string (str b.t.title),.bool b.t.done,.float .f64 b.t.rank,.float .f64 b.t.est,.slice b.A b.t.tags.length b.c]] wr.drew fun e w'=>e=.returned (.bool (T9.bX a.t b.t))∧Below wr.drew.heap.size wr.drew w'):=hid (by
     have d:Below wr.heap.size wr wr.drew:=(Below.refl _ wr).drew
     have x1:=S1.out a (List.mem_of_getElem? HM.out)
     have x2:=S2.out b (List.mem_of_getElem? qz.out)
     exact mq (F1.out.stay d) (F2.out.stay d) x1.1 x2.1 x1.2 x2.2)
    cases hq:T9.bX a.t b.t with
    | true =>
     have HQ:=hid hq
     rw [hq] at CT
     clear hq
     go_wp2_with fail
     go_still_tail 8,(by kernel_rfl)
     change wpList _ _ _ _ _ wr.drew
     go_wp2_with fail
     refine CT.out.mono ?_
     rintro e w9 ⟨rfl,h9⟩
     have B9:Hid (Below w.heap.size w w9):=hid (BR.out.trans (((Below.refl _ wr).drew.trans h9).mono BR.out.size))
     clear h9
     go_wp2
     go_roundw
     case rel=>exact⟨k+1,by omega,by go_num,hid (by rw [aG HM.out,aG qz.out,je,je,T9.rG (by rw [bO,bO,List.length_take,List.length_take,HL.out]),HE.out,HQ.out];rfl),B9.out⟩
     case measure=>simp [intOf];omega
    | false =>
     have R:Hid (T9.bY (bS ms) (bS ks)=false):=hid (T9.uO (xO HM.out) (xO qz.out) hq)
     rw [hq] at CT
     clear hq
     go_wp2_with fail
     go_still_tail 8,(by kernel_rfl)
     change wpList _ _ _ _ _ wr.drew
     go_wp2_with fail
     refine CT.out.mono ?_
     rintro e w9 ⟨rfl,h9⟩
     have B9:Hid (Below w.heap.size w w9):=hid (BR.out.trans (((Below.refl _ wr).drew.trans h9).mono BR.out.size))
     clear h9
     go_wp2
     go_ret
     exact⟨ag R.out.symm,B9.out⟩
   ·obtain rfl:k=n:=by omega
    have HE2:=HE.out
    rw [HN.out,List.take_length,HL.out,List.take_length] at HE2
    have HE3:=hid HE2
    clear HE2
    go_wp2
    go_ret
    exact⟨ag HE3.out.symm,BR.out⟩
 ·have R:Hid (T9.bY (bS ms) (bS ks)=false):=hid (by
   cases q:T9.bY (bS ms) (bS ks) with
   | false=>rfl
   | true =>
    have:=T9.mV q
    rw [bO,bO,← HN.out,← m_.out] at this
    exact absurd this hl)
  have hlz:¬ ((n:Int)=(n2:Int)):=by omega
  go_enter Try.func50,Try.ntmps50
  go_wp2
  go_ret
  exact⟨ag R.out.symm,Below.refl _ _⟩
theorem qc {a b:jk} {w:World} (ha:SM a w) (hb:SM b w) (sa:a.st.short) (sb:b.st.short) (oa:a.st.ok) (ob:b.st.ok) :
  Calls Try.prog 23 #[a.val,b.val] w fun e w'=>e=.returned (.bool (T9.same a.st b.st))∧Below w.heap.size w w':=by
 have so:∀ (m:jk),m.st.short→m.st.ok→∀ t∈m.ms,t.t.short∧t.t.ok:=fun m s o t ht=>⟨s.2.1 t.t (List.mem_map.2 ⟨t,ht,rfl⟩),o.2 t.t (List.mem_map.2 ⟨t,ht,rfl⟩)⟩
 have l1:a.ls.length≤1000000:=sa.2.2.1
 have l2:a.ms.length≤1000000:=by have:=sa.2.2.2;unfold jk.st at this;rwa [bO] at this
 have SA:=hid (so a sa oa)
 have SB:=hid (so b sb ob)
 obtain⟨w1,hw1⟩:∃ u,w.alloc (.cells #[.slice a.A a.ls.length a.c,.slice a.A2 a.ms.length a.c2] 28)=u:=⟨_,rfl⟩
 obtain⟨pb,b1,z1⟩:=bg hw1
 obtain⟨w2,hw2⟩:∃ u,w1.alloc (.cells #[.slice b.A b.ls.length b.c,.slice b.A2 b.ms.length b.c2] 28)=u:=⟨_,rfl⟩
 obtain⟨lW,b2,z2⟩:=bg hw2
 have B:Hid (Below w.heap.size w w2):=hid (b1.trans (b2.mono (by omega)))
 have qB:=(b2.block w.heap.size (by omega)).trans pb
 have PB:=hid qB
 have PB2:=hid lW
 obtain⟨p0,p1⟩:=aj qB
 obtain⟨q0,q1⟩:=aj lW
 have CL:=hid (lC (c:=a.c) (c2:=b.c) (ha.l.stay B.out) (hb.l.stay B.out) rfl rfl l1)
 have CK:∀ j,Hid (Calls Try.prog 50 #[.slice a.A2 a.ms.length a.c2,.slice b.A2 b.ms.length b.c2] (w2.drewN j) fun e w'=>e=.returned (.bool (T9.bY (bS a.ms) (bS b.ms)))∧Below (w2.drewN j).heap.size (w2.drewN j) w'):=fun j=>hid (lD (ha.k.stay (below_drewN B.out j)) (hb.k.stay (below_drewN B.out j)) rfl rfl l2 SA.out SB.out)
 unfold jk.val
 clear ha hb sa sb oa ob pb lW qB b1 b2 so z1 z2
 by_cases hq:a.ls=b.ls
 ·have R:Hid (T9.same a.st b.st=T9.bY (bS a.ms) (bS b.ms)):=hid (by unfold T9.same jk.st;rw [decide_eq_true hq];rfl)
  have CL2:=CL.out
  rw [decide_eq_true hq] at CL2
  have CL3:=hid CL2
  clear hq CL2 CL
  go_enter Try.func23,Try.ntmps23
  go_wp2_with fail
  refine CL3.out.mono ?_
  rintro e w' ⟨rfl,j,rfl⟩
  have CK2:=CK j
  go_wp2_with fail
  refine CK2.out.mono ?_
  rintro e w' ⟨rfl,h9⟩
  have H9:=hid h9
  clear h9
  go_wp2
  go_ret
  exact⟨ag R.out.symm,(below_drewN B.out j).trans (H9.out.mono (below_drewN B.out j).size)⟩
 ·have R:Hid (T9.same a.st b.st=false):=hid (by unfold T9.same jk.st;rw [decide_eq_false hq];rfl)
  have CL2:=CL.out
  rw [decide_eq_false hq] at CL2
  have CL3:=hid CL2
  clear hq CL2 CL
  go_enter Try.func23,Try.ntmps23
  go_wp2_with fail
  refine CL3.out.mono ?_
  rintro e w' ⟨rfl,j,rfl⟩
  go_wp2_with fail
  go_ret
  exact⟨ag R.out.symm,below_drewN B.out j⟩
end
end
end Go.Proofs.Ytcedlgedmkghgaa
