import Derived.Test.YtmcfknnfaokmlaaGreatZ12
import Derived.Test.YtmcfknnfaokmlaaGreatZ7
import Derived.StillTailTactics
namespace Go.Proofs.YtmcfknnfaokmlaaGreat
set_option maxHeartbeats 16000000
open Go.Lib Go.Proofs.Tryz
set_option linter.unusedSimpArgs false
set_option maxRecDepth 100000
section
section
open Go.RowKit Go.Lib
theorem rf {A A2:Option Addr} {n c n2 c2:Nat} {ls ks:List (List UInt8)} {w:World} (h:GL w A ls) (h2:GL w A2 ks) (hn:n=ls.length) (hn2:n2=ks.length) (hs:n≤1000000) :
  Calls prog 136 #[.slice A n c,.slice A2 n2 c2] w fun e w'=>e=.returned (.bool (decide (ls=ks)))∧∃ j,w'=w.drewN j:=by
 have H:=hid h
 have H2:=hid h2
 have HN:=hid hn
 have h_:=hid hn2
 clear h h2 hn hn2
 by_cases hl:n=n2
 ·subst hl
  have HL:=hid (HN.out.symm.trans h_.out)
  go_enter func136,ntmps136
  go_wp2_with fail
  go_loopw [13] (fun i wr=>∃ k j:Nat,k≤n∧i=.int .i64 k∧ls.take k=ks.take k∧wr=w.drewN j) (fun i _=>n - (intOf i).toNat)
  case atStart=>exact⟨0,0,Nat.zero_le _,rfl,rfl,rfl⟩
  case round =>
   obtain⟨k,j,hk,rfl,he,rfl⟩:=hrel
   have HE:=hid he
   clear he
   by_cases hlt:k<n
   ·obtain⟨ad,m,rfl,hm,hc⟩:=H.out.at_ (k:=k) (by rw [← HN.out];exact hlt)
    obtain⟨iD,m2,rfl,hm2,hc2⟩:=H2.out.at_ (k:=k) (by rw [← h_.out];exact hlt)
    have HM:=hid hm
    have jh:=hid hm2
    clear hm hm2
    have k0:0≤(k:Int):=by omega
    have k1:(k:Int)<(n:Int):=by omega
    by_cases eq:m=m2
    ·have EQ:=hid eq
     have q1:(m==m2)=true:=by simp [eq]
     have q2:(m != m2)=false:=by simp [eq]
     clear eq
     go_wp2_with fail
     go_region
     go_wp2
     go_roundw
     case rel=>exact⟨k+1,j+1,by omega,by go_num,by rw [aF HM.out,aF jh.out,HE.out,EQ.out],rfl⟩
     case measure=>simp [intOf];omega
    ·have NE:Hid (¬ ls=ks):=hid fun e=>eq (by
      have e1:=congrArg (·[k]?) e
      simp only [HM.out,jh.out,Option.some.injEq] at e1
      exact e1)
     have q1:(m==m2)=false:=by simp [eq]
     have q2:(m != m2)=true:=by simp [eq]
     all_goals
      clear eq
      go_wp2_with fail
      go_region
      go_wp2
      go_ret
      exact⟨aj (by rw [decide_eq_false NE.out]),j+1,rfl⟩
   ·obtain rfl:k=n:=by omega
    have HE2:=HE.out
    rw [HN.out,List.take_length,HL.out,List.take_length] at HE2
    have sG:=hid HE2
    clear HE2
    go_wp2
    go_ret
    exact⟨aj (by rw [decide_eq_true sG.out]),j,rfl⟩
 ·have hl':¬ ls=ks:=fun e=>hl (by rw [HN.out,h_.out,e])
  have HL:=hid hl'
  clear hl'
  go_enter func136,ntmps136
  go_wp2
  go_ret
  exact⟨aj (by rw [decide_eq_false HL.out]),0,rfl⟩
theorem Cm {A A2:Option Addr} {n c n2 c2:Nat} {ls ks:List (List UInt8)} {w:World} (h:GL w A ls) (h2:GL w A2 ks) (hn:n=ls.length) (hn2:n2=ks.length) (hs:n≤1000000) :
  Calls prog 112 #[.slice A n c,.slice A2 n2 c2] w fun e w'=>e=.returned (.bool (decide (ls=ks)))∧∃ j,w'=w.drewN j:=by
 have H:=hid h
 have H2:=hid h2
 have HN:=hid hn
 have h_:=hid hn2
 clear h h2 hn hn2
 by_cases hl:n=n2
 ·subst hl
  have HL:=hid (HN.out.symm.trans h_.out)
  go_enter func112,ntmps112
  go_wp2_with fail
  go_loopw [13] (fun i wr=>∃ k j:Nat,k≤n∧i=.int .i64 k∧ls.take k=ks.take k∧wr=w.drewN j) (fun i _=>n - (intOf i).toNat)
  case atStart=>exact⟨0,0,Nat.zero_le _,rfl,rfl,rfl⟩
  case round =>
   obtain⟨k,j,hk,rfl,he,rfl⟩:=hrel
   have HE:=hid he
   clear he
   by_cases hlt:k<n
   ·obtain⟨ad,m,rfl,hm,hc⟩:=H.out.at_ (k:=k) (by rw [← HN.out];exact hlt)
    obtain⟨iD,m2,rfl,hm2,hc2⟩:=H2.out.at_ (k:=k) (by rw [← h_.out];exact hlt)
    have HM:=hid hm
    have jh:=hid hm2
    clear hm hm2
    have k0:0≤(k:Int):=by omega
    have k1:(k:Int)<(n:Int):=by omega
    by_cases eq:m=m2
    ·have EQ:=hid eq
     have q1:(m==m2)=true:=by simp [eq]
     have q2:(m != m2)=false:=by simp [eq]
     clear eq
     go_wp2_with fail
     go_region
     go_wp2
     go_roundw
     case rel=>exact⟨k+1,j+1,by omega,by go_num,by rw [aF HM.out,aF jh.out,HE.out,EQ.out],rfl⟩
     case measure=>simp [intOf];omega
    ·have NE:Hid (¬ ls=ks):=hid fun e=>eq (by
      have e1:=congrArg (·[k]?) e
      simp only [HM.out,jh.out,Option.some.injEq] at e1
      exact e1)
     have q1:(m==m2)=false:=by simp [eq]
     have q2:(m != m2)=true:=by simp [eq]
     all_goals
      clear eq
      go_wp2_with fail
      go_region
      go_wp2
      go_ret
      exact⟨aj (by rw [decide_eq_false NE.out]),j+1,rfl⟩
   ·obtain rfl:k=n:=by omega
    have HE2:=HE.out
    rw [HN.out,List.take_length,HL.out,List.take_length] at HE2
    have sG:=hid HE2
    clear HE2
    go_wp2
    go_ret
    exact⟨aj (by rw [decide_eq_true sG.out]),j,rfl⟩
 ·have hl':¬ ls=ks:=fun e=>hl (by rw [HN.out,h_.out,e])
  have HL:=hid hl'
  clear hl'
  go_enter func112,ntmps112
  go_wp2
  go_ret
  exact⟨aj (by rw [decide_eq_false HL.out]),0,rfl⟩
theorem li_ne {a b:T9.Li} (h:¬ a=b):(¬ (a.id:Int)=(b.id:Int))∨(a.id:Int)=(b.id:Int)∧¬ a.name=b.name:=by
 by_cases e:a.id=b.id
 ·exact .inr ⟨by omega,fun f=>h (T9.Li.fu.2 ⟨e,f⟩)⟩
 ·exact .inl (by omega)
theorem qj {A A2:Option Addr} {n c n2 c2:Nat} {ls ks:List (T9.Li)} {w:World} (h:LL w A ls) (h2:LL w A2 ks) (hn:n=ls.length) (hn2:n2=ks.length) (hs:n≤1000000) :
  Calls prog 83 #[.slice A n c,.slice A2 n2 c2] w fun e w'=>e=.returned (.bool (decide (ls=ks)))∧∃ j,w'=w.drewN j:=by
 have H:=hid h
 have H2:=hid h2
 have HN:=hid hn
 have h_:=hid hn2
 clear h h2 hn hn2
 by_cases hl:n=n2
 ·subst hl
  have HL:=hid (HN.out.symm.trans h_.out)
  go_enter func83,ntmps83
  go_wp2_with fail
  go_loopw [13] (fun i wr=>∃ k j:Nat,k≤n∧i=.int .i64 k∧ls.take k=ks.take k∧wr=w.drewN j) (fun i _=>n - (intOf i).toNat)
  case atStart=>exact⟨0,0,Nat.zero_le _,rfl,rfl,rfl⟩
  case round =>
   obtain⟨k,j,hk,rfl,he,rfl⟩:=hrel
   have HE:=hid he
   clear he
   by_cases hlt:k<n
   ·obtain⟨ad,m,rfl,hm,hc,hd⟩:=H.out.at_ (k:=k) (by rw [← HN.out];exact hlt)
    obtain⟨iD,m2,rfl,hm2,hc2,hd2⟩:=H2.out.at_ (k:=k) (by rw [← h_.out];exact hlt)
    have HM:=hid hm
    have jh:=hid hm2
    clear hm hm2
    have k0:0≤(k:Int):=by omega
    have k1:(k:Int)<(n:Int):=by omega
    by_cases eq:m=m2
    ·have EQ:=hid eq
     have q1:(m.id:Int)=(m2.id:Int):=by rw [eq]
     have q2:m.name=m2.name:=by rw [eq]
     clear eq
     go_wp2_with fail
     go_region
     go_wp2
     go_roundw
     case rel=>exact⟨k+1,j+1,by omega,by go_num,by rw [aF HM.out,aF jh.out,HE.out,EQ.out],rfl⟩
     case measure=>simp [intOf];omega
    ·have NE:Hid (¬ ls=ks):=hid fun e=>eq (by
      have e1:=congrArg (·[k]?) e
      simp only [HM.out,jh.out,Option.some.injEq] at e1
      exact e1)
     rcases li_ne eq with q1 | ⟨q1,q2⟩
     all_goals
      clear eq
      go_wp2_with fail
      go_region
      go_wp2
      go_ret
      exact⟨aj (by rw [decide_eq_false NE.out]),j+1,rfl⟩
   ·obtain rfl:k=n:=by omega
    have HE2:=HE.out
    rw [HN.out,List.take_length,HL.out,List.take_length] at HE2
    have sG:=hid HE2
    clear HE2
    go_wp2
    go_ret
    exact⟨aj (by rw [decide_eq_true sG.out]),j,rfl⟩
 ·have hl':¬ ls=ks:=fun e=>hl (by rw [HN.out,h_.out,e])
  have HL:=hid hl'
  clear hl'
  go_enter func83,ntmps83
  go_wp2
  go_ret
  exact⟨aj (by rw [decide_eq_false HL.out]),0,rfl⟩
theorem Ck {A A2:Option Addr} {n c n2 c2:Nat} {ls ks:List (T9.Li)} {w:World} (h:LL w A ls) (h2:LL w A2 ks) (hn:n=ls.length) (hn2:n2=ks.length) (hs:n≤1000000) :
  Calls prog 79 #[.slice A n c,.slice A2 n2 c2] w fun e w'=>e=.returned (.bool (decide (ls=ks)))∧∃ j,w'=w.drewN j:=by
 have H:=hid h
 have H2:=hid h2
 have HN:=hid hn
 have h_:=hid hn2
 clear h h2 hn hn2
 by_cases hl:n=n2
 ·subst hl
  have HL:=hid (HN.out.symm.trans h_.out)
  go_enter func79,ntmps79
  go_wp2_with fail
  go_loopw [13] (fun i wr=>∃ k j:Nat,k≤n∧i=.int .i64 k∧ls.take k=ks.take k∧wr=w.drewN j) (fun i _=>n - (intOf i).toNat)
  case atStart=>exact⟨0,0,Nat.zero_le _,rfl,rfl,rfl⟩
  case round =>
   obtain⟨k,j,hk,rfl,he,rfl⟩:=hrel
   have HE:=hid he
   clear he
   by_cases hlt:k<n
   ·obtain⟨ad,m,rfl,hm,hc,hd⟩:=H.out.at_ (k:=k) (by rw [← HN.out];exact hlt)
    obtain⟨iD,m2,rfl,hm2,hc2,hd2⟩:=H2.out.at_ (k:=k) (by rw [← h_.out];exact hlt)
    have HM:=hid hm
    have jh:=hid hm2
    clear hm hm2
    have k0:0≤(k:Int):=by omega
    have k1:(k:Int)<(n:Int):=by omega
    by_cases eq:m=m2
    ·have EQ:=hid eq
     have q1:(m.id:Int)=(m2.id:Int):=by rw [eq]
     have q2:m.name=m2.name:=by rw [eq]
     clear eq
     go_wp2_with fail
     go_region
     go_wp2
     go_roundw
     case rel=>exact⟨k+1,j+1,by omega,by go_num,by rw [aF HM.out,aF jh.out,HE.out,EQ.out],rfl⟩
     case measure=>simp [intOf];omega
    ·have NE:Hid (¬ ls=ks):=hid fun e=>eq (by
      have e1:=congrArg (·[k]?) e
      simp only [HM.out,jh.out,Option.some.injEq] at e1
      exact e1)
     rcases li_ne eq with q1 | ⟨q1,q2⟩
     all_goals
      clear eq
      go_wp2_with fail
      go_region
      go_wp2
      go_ret
      exact⟨aj (by rw [decide_eq_false NE.out]),j+1,rfl⟩
   ·obtain rfl:k=n:=by omega
    have HE2:=HE.out
    rw [HN.out,List.take_length,HL.out,List.take_length] at HE2
    have sG:=hid HE2
    clear HE2
    go_wp2
    go_ret
    exact⟨aj (by rw [decide_eq_true sG.out]),j,rfl⟩
 ·have hl':¬ ls=ks:=fun e=>hl (by rw [HN.out,h_.out,e])
  have HL:=hid hl'
  clear hl'
  go_enter func79,ntmps79
  go_wp2
  go_ret
  exact⟨aj (by rw [decide_eq_false HL.out]),0,rfl⟩
end
section
open Go.RowKit Go.Lib
theorem j6 {a:fJ}:(.agg (dO a).toArray:Value)=.agg #[.int .u64 (a.t.id:Int),.int .u64 (a.t.list:Int),.string (str a.t.title),.bool a.t.done,.float .f64 a.t.rank,.float .f64 a.t.est,.slice a.A a.t.tags.length a.c]:=rfl
theorem rq {a b:fJ} {w:World} (ha:a.fine w) (hb:b.fine w) (sa:a.t.short) (_sb:b.t.short) (oa:a.t.ok) (ob:b.t.ok) :
  Calls prog 114 #[.agg (dO a).toArray,.agg (dO b).toArray] w fun e w'=>e=.returned (.bool (T9.bM a.t b.t))∧Below w.heap.size w w':=by
 obtain⟨w1,hw1⟩:∃ u,w.alloc (.cells #[.int .u64 (a.t.id:Int),.int .u64 (a.t.list:Int),.string (str a.t.title),.bool a.t.done,.float .f64 a.t.rank,.float .f64 a.t.est,.slice a.A a.t.tags.length a.c] 97)=u:=⟨_,rfl⟩
 obtain⟨pb,b1,z1⟩:=bP hw1
 obtain⟨w2,hw2⟩:∃ u,w1.alloc (.cells #[.int .u64 (b.t.id:Int),.int .u64 (b.t.list:Int),.string (str b.t.title),.bool b.t.done,.float .f64 b.t.rank,.float .f64 b.t.est,.slice b.A b.t.tags.length b.c] 97)=u:=⟨_,rfl⟩
 obtain⟨fT,b2,z2⟩:=bP hw2
 have B:Hid (Below w.heap.size w w2):=hid (b1.trans (b2.mono (by omega)))
 have iZ:=(b2.block w.heap.size (by omega)).trans pb
 obtain⟨p0,p1,p2,p3,p4,p5,p6⟩:=ak iZ
 obtain⟨q0,q1,q2,q3,q4,q5,q6⟩:=ak fT
 have oa1:=oa.2.2.1
 have oa2:=oa.2.2.2
 have ob1:=ob.2.2.1
 have ob2:=ob.2.2.2
 have wX:=hid (rf (c:=a.c) (c2:=b.c) (ha.gl.stay B.out) (hb.gl.stay B.out) rfl rfl sa.2.2)
 have HZ:=hid z1
 rw [j6,j6]
 clear ha hb sa oa ob pb fT iZ b1 b2 z1 z2
 cases h1:((a.t.id:Int)==(b.t.id:Int)) with
 | false =>
  have R:Hid (T9.bM a.t b.t=false):=hid (by
   unfold T9.bM
   have k:=h1
   simp only [beq_eq_false_iff_ne,ne_eq,Int.natCast_inj] at k
   simp [k])
  go_enter func114,ntmps114
  go_wp2_with (first | (go_at_call 135;refine (eY _ _ _ (by assumption) (by assumption)).mono ?_;rintro e w' ⟨rfl,rfl⟩) | (go_at_call 136;refine wX.out.mono ?_;rintro e w' ⟨rfl,j,rfl⟩))
  go_ret
  exact⟨aj R.out.symm,B.out⟩
 | true =>
  cases h2:((a.t.list:Int)==(b.t.list:Int)) with
  | false =>
   have R:Hid (T9.bM a.t b.t=false):=hid (by
    unfold T9.bM
    have k:=h2
    simp only [beq_eq_false_iff_ne,ne_eq,Int.natCast_inj] at k
    simp [k])
   go_enter func114,ntmps114
   go_wp2_with (first | (go_at_call 135;refine (eY _ _ _ (by assumption) (by assumption)).mono ?_;rintro e w' ⟨rfl,rfl⟩) | (go_at_call 136;refine wX.out.mono ?_;rintro e w' ⟨rfl,j,rfl⟩))
   go_ret
   exact⟨aj R.out.symm,B.out⟩
  | true =>
   cases h3:(a.t.title==b.t.title) with
   | false =>
    have R:Hid (T9.bM a.t b.t=false):=hid (by
     unfold T9.bM
     have k:=h3
     simp only [beq_eq_false_iff_ne,ne_eq] at k
     simp [k])
    go_enter func114,ntmps114
    go_wp2_with (first | (go_at_call 135;refine (eY _ _ _ (by assumption) (by assumption)).mono ?_;rintro e w' ⟨rfl,rfl⟩) | (go_at_call 136;refine wX.out.mono ?_;rintro e w' ⟨rfl,j,rfl⟩))
    go_ret
    exact⟨aj R.out.symm,B.out⟩
   | true =>
    cases h4:(a.t.done==b.t.done) with
    | false =>
     have R:Hid (T9.bM a.t b.t=false):=hid (by
      unfold T9.bM
      have k:=h4
      simp only [beq_eq_false_iff_ne,ne_eq] at k
      simp [k])
     go_enter func114,ntmps114
     go_wp2_with (first | (go_at_call 135;refine (eY _ _ _ (by assumption) (by assumption)).mono ?_;rintro e w' ⟨rfl,rfl⟩) | (go_at_call 136;refine wX.out.mono ?_;rintro e w' ⟨rfl,j,rfl⟩))
     go_ret
     exact⟨aj R.out.symm,B.out⟩
    | true =>
     cases h5:Fl.same a.t.rank b.t.rank with
     | false =>
      have R:Hid (T9.bM a.t b.t=false):=hid (by
       unfold T9.bM
       have k:=h5
       simp [k])
      go_enter func114,ntmps114
      go_wp2_with (first | (go_at_call 135;refine (eY _ _ _ (by assumption) (by assumption)).mono ?_;rintro e w' ⟨rfl,rfl⟩) | (go_at_call 136;refine wX.out.mono ?_;rintro e w' ⟨rfl,j,rfl⟩))
      go_ret
      exact⟨aj R.out.symm,B.out⟩
     | true =>
      cases h6:Fl.same a.t.est b.t.est with
      | false =>
       have R:Hid (T9.bM a.t b.t=false):=hid (by
        unfold T9.bM
        have k:=h6
        simp [k])
       go_enter func114,ntmps114
       go_wp2_with (first | (go_at_call 135;refine (eY _ _ _ (by assumption) (by assumption)).mono ?_;rintro e w' ⟨rfl,rfl⟩) | (go_at_call 136;refine wX.out.mono ?_;rintro e w' ⟨rfl,j,rfl⟩))
       go_ret
       exact⟨aj R.out.symm,B.out⟩
      | true =>
       have R:Hid (T9.bM a.t b.t=decide (a.t.tags=b.t.tags)):=hid (by
        unfold T9.bM
        simp only [beq_iff_eq,Int.natCast_inj] at h1 h2 h3 h4
        simp [h1,h2,h3,h4,h5,h6])
       go_enter func114,ntmps114
       go_wp2_with (first | (go_at_call 135;refine (eY _ _ _ (by assumption) (by assumption)).mono ?_;rintro e w' ⟨rfl,rfl⟩) | (go_at_call 136;refine wX.out.mono ?_;rintro e w' ⟨rfl,j,rfl⟩))
       go_ret
       exact⟨aj R.out.symm,below_drewN B.out j⟩
theorem ym {a b:fJ} {w:World} (ha:a.fine w) (hb:b.fine w) (sa:a.t.short) (_sb:b.t.short) (oa:a.t.ok) (ob:b.t.ok) :
  Calls prog 81 #[.agg (dO a).toArray,.agg (dO b).toArray] w fun e w'=>e=.returned (.bool (T9.bM a.t b.t))∧Below w.heap.size w w':=by
 obtain⟨w1,hw1⟩:∃ u,w.alloc (.cells #[.int .u64 (a.t.id:Int),.int .u64 (a.t.list:Int),.string (str a.t.title),.bool a.t.done,.float .f64 a.t.rank,.float .f64 a.t.est,.slice a.A a.t.tags.length a.c] 97)=u:=⟨_,rfl⟩
 obtain⟨pb,b1,z1⟩:=bP hw1
 obtain⟨w2,hw2⟩:∃ u,w1.alloc (.cells #[.int .u64 (b.t.id:Int),.int .u64 (b.t.list:Int),.string (str b.t.title),.bool b.t.done,.float .f64 b.t.rank,.float .f64 b.t.est,.slice b.A b.t.tags.length b.c] 97)=u:=⟨_,rfl⟩
 obtain⟨fT,b2,z2⟩:=bP hw2
 have B:Hid (Below w.heap.size w w2):=hid (b1.trans (b2.mono (by omega)))
 have iZ:=(b2.block w.heap.size (by omega)).trans pb
 obtain⟨p0,p1,p2,p3,p4,p5,p6⟩:=ak iZ
 obtain⟨q0,q1,q2,q3,q4,q5,q6⟩:=ak fT
 have oa1:=oa.2.2.1
 have oa2:=oa.2.2.2
 have ob1:=ob.2.2.1
 have ob2:=ob.2.2.2
 have wX:=hid (Cm (c:=a.c) (c2:=b.c) (ha.gl.stay B.out) (hb.gl.stay B.out) rfl rfl sa.2.2)
 have HZ:=hid z1
 rw [j6,j6]
 clear ha hb sa oa ob pb fT iZ b1 b2 z1 z2
 cases h1:((a.t.id:Int)==(b.t.id:Int)) with
 | false =>
  have R:Hid (T9.bM a.t b.t=false):=hid (by
   unfold T9.bM
   have k:=h1
   simp only [beq_eq_false_iff_ne,ne_eq,Int.natCast_inj] at k
   simp [k])
  go_enter func81,ntmps81
  go_wp2_with (first | (go_at_call 111;refine (jJ _ _ _ (by assumption) (by assumption)).mono ?_;rintro e w' ⟨rfl,rfl⟩) | (go_at_call 112;refine wX.out.mono ?_;rintro e w' ⟨rfl,j,rfl⟩))
  go_ret
  exact⟨aj R.out.symm,B.out⟩
 | true =>
  cases h2:((a.t.list:Int)==(b.t.list:Int)) with
  | false =>
   have R:Hid (T9.bM a.t b.t=false):=hid (by
    unfold T9.bM
    have k:=h2
    simp only [beq_eq_false_iff_ne,ne_eq,Int.natCast_inj] at k
    simp [k])
   go_enter func81,ntmps81
   go_wp2_with (first | (go_at_call 111;refine (jJ _ _ _ (by assumption) (by assumption)).mono ?_;rintro e w' ⟨rfl,rfl⟩) | (go_at_call 112;refine wX.out.mono ?_;rintro e w' ⟨rfl,j,rfl⟩))
   go_ret
   exact⟨aj R.out.symm,B.out⟩
  | true =>
   cases h3:(a.t.title==b.t.title) with
   | false =>
    have R:Hid (T9.bM a.t b.t=false):=hid (by
     unfold T9.bM
     have k:=h3
     simp only [beq_eq_false_iff_ne,ne_eq] at k
     simp [k])
    go_enter func81,ntmps81
    go_wp2_with (first | (go_at_call 111;refine (jJ _ _ _ (by assumption) (by assumption)).mono ?_;rintro e w' ⟨rfl,rfl⟩) | (go_at_call 112;refine wX.out.mono ?_;rintro e w' ⟨rfl,j,rfl⟩))
    go_ret
    exact⟨aj R.out.symm,B.out⟩
   | true =>
    cases h4:(a.t.done==b.t.done) with
    | false =>
     have R:Hid (T9.bM a.t b.t=false):=hid (by
      unfold T9.bM
      have k:=h4
      simp only [beq_eq_false_iff_ne,ne_eq] at k
      simp [k])
     go_enter func81,ntmps81
     go_wp2_with (first | (go_at_call 111;refine (jJ _ _ _ (by assumption) (by assumption)).mono ?_;rintro e w' ⟨rfl,rfl⟩) | (go_at_call 112;refine wX.out.mono ?_;rintro e w' ⟨rfl,j,rfl⟩))
     go_ret
     exact⟨aj R.out.symm,B.out⟩
    | true =>
     cases h5:Fl.same a.t.rank b.t.rank with
     | false =>
      have R:Hid (T9.bM a.t b.t=false):=hid (by
       unfold T9.bM
       have k:=h5
       simp [k])
      go_enter func81,ntmps81
      go_wp2_with (first | (go_at_call 111;refine (jJ _ _ _ (by assumption) (by assumption)).mono ?_;rintro e w' ⟨rfl,rfl⟩) | (go_at_call 112;refine wX.out.mono ?_;rintro e w' ⟨rfl,j,rfl⟩))
      go_ret
      exact⟨aj R.out.symm,B.out⟩
     | true =>
      cases h6:Fl.same a.t.est b.t.est with
      | false =>
       have R:Hid (T9.bM a.t b.t=false):=hid (by
        unfold T9.bM
        have k:=h6
        simp [k])
       go_enter func81,ntmps81
       go_wp2_with (first | (go_at_call 111;refine (jJ _ _ _ (by assumption) (by assumption)).mono ?_;rintro e w' ⟨rfl,rfl⟩) | (go_at_call 112;refine wX.out.mono ?_;rintro e w' ⟨rfl,j,rfl⟩))
       go_ret
       exact⟨aj R.out.symm,B.out⟩
      | true =>
       have R:Hid (T9.bM a.t b.t=decide (a.t.tags=b.t.tags)):=hid (by
        unfold T9.bM
        simp only [beq_iff_eq,Int.natCast_inj] at h1 h2 h3 h4
        simp [h1,h2,h3,h4,h5,h6])
       go_enter func81,ntmps81
       go_wp2_with (first | (go_at_call 111;refine (jJ _ _ _ (by assumption) (by assumption)).mono ?_;rintro e w' ⟨rfl,rfl⟩) | (go_at_call 112;refine wX.out.mono ?_;rintro e w' ⟨rfl,j,rfl⟩))
       go_ret
       exact⟨aj R.out.symm,below_drewN B.out j⟩
theorem T9.si {l m:List T9.Tk} {k:Nat} {a b:T9.Tk} (h:l[k]?=some a) (h2:m[k]?=some b) (hq:T9.bM a b=false):T9.dn l m=false:=by
 induction l generalizing m k with
 | nil=>simp at h
 | cons x l ih =>
  cases m with
  | nil=>simp at h2
  | cons y m =>
   cases k with
   | zero =>
    simp only [List.getElem?_cons_zero,Option.some.injEq] at h h2
    subst h h2
    simp [T9.dn,hq]
   | succ k =>
    simp only [List.getElem?_cons_succ] at h h2
    simp [T9.dn,ih h h2]
theorem uF {ms:List fJ} {k:Nat} {m:fJ} (h:ms[k]?=some m):(bg ms)[k]?=some m.t:=by unfold bg;rw [List.getElem?_map,h];rfl
theorem ql {A A2:Option Addr} {n c n2 c2:Nat} {ms ks:List fJ} {w:World} (h:KL w A ms) (h2:KL w A2 ks) (hn:n=ms.length) (hn2:n2=ks.length) (hs:n≤1000000) (s1:∀ m∈ms,m.t.short∧m.t.ok) (s2:∀ m∈ks,m.t.short∧m.t.ok) :
  Calls prog 84 #[.slice A n c,.slice A2 n2 c2] w fun e w'=>e=.returned (.bool (T9.dn (bg ms) (bg ks)))∧Below w.heap.size w w':=by
 have H:=hid h
 have H2:=hid h2
 have HN:=hid hn
 have h_:=hid hn2
 have S1:=hid s1
 have S2:=hid s2
 clear h h2 hn hn2 s1 s2
 by_cases hl:n=n2
 ·subst hl
  have HL:=hid (HN.out.symm.trans h_.out)
  go_enter func84,ntmps84
  go_wp2_with fail
  go_loopw [13] (fun i wr=>∃ k:Nat,k≤n∧i=.int .i64 k∧Hid (T9.dn (bg (ms.take k)) (bg (ks.take k))=true)∧Aside (Below w.heap.size w wr)) (fun i _=>n - (intOf i).toNat)
  case atStart=>exact⟨0,Nat.zero_le _,rfl,hid rfl,Below.refl _ _⟩
  case round =>
   obtain⟨k,hk,rfl,HE,hB⟩:=hrel
   have BR:=hid hB.out
   clear hB
   by_cases hlt:k<n
   ·obtain⟨ad,a,rfl,hm,hf,r0,r1,r2,r3,r4,r5,r6⟩:=(H.out.stay BR.out).at_ (k:=k) (by rw [← HN.out];exact hlt)
    obtain⟨iD,b,rfl,hm2,hf2,q0,q1,q2,q3,q4,q5,q6⟩:=(H2.out.stay BR.out).at_ (k:=k) (by rw [← h_.out];exact hlt)
    have HM:=hid hm
    have jh:=hid hm2
    have F1:=hid hf
    have F2:=hid hf2
    clear hm hm2 hf hf2
    have k0:0≤(k:Int):=by omega
    have k1:(k:Int)<(n:Int):=by omega
    have CT:Hid (Calls prog 114 #[.agg #[.int .u64 (a.t.id:Int),.int .u64 (a.t.list:Int),.string (str a.t.title),.bool a.t.done,.float .f64 a.t.rank,.float .f64 a.t.est,.slice a.A a.t.tags.length a.c],.agg #[.int .u64 (b.t.id:Int),.int .u64 (b.t.list:Int),.string (str b.t.title),.bool b.t.done,.float .f64 b.t.rank,.float .f64 b.t.est,.slice b.A b.t.tags.length b.c]] wr.drew fun e w'=>e=.returned (.bool (T9.bM a.t b.t))∧Below wr.drew.heap.size wr.drew w'):=hid (by
     have d:Below wr.heap.size wr wr.drew:=(Below.refl _ wr).drew
     have x1:=S1.out a (List.mem_of_getElem? HM.out)
     have x2:=S2.out b (List.mem_of_getElem? jh.out)
     exact rq (F1.out.stay d) (F2.out.stay d) x1.1 x2.1 x1.2 x2.2)
    cases hq:T9.bM a.t b.t with
    | true =>
     have HQ:=hid hq
     rw [hq] at CT
     clear hq
     go_wp2_with fail
     go_still_tail 8,(by kernel_rfl)
     change wpList _ _ _ _ _ wr.drew
     go_wp2_with fail
     refine CT.out.mono ?_
     rintro e w9 ⟨rfl,h9⟩
     have B9:Hid (Below w.heap.size w w9):=hid (BR.out.trans (((Below.refl _ wr).drew.trans h9).mono BR.out.size))
     clear h9
     go_wp2
     go_roundw
     case rel=>exact⟨k+1,by omega,by go_num,hid (by rw [aF HM.out,aF jh.out,gq,gq,T9.qy (by rw [bv,bv,List.length_take,List.length_take,HL.out]),HE.out,HQ.out];rfl),B9.out⟩
     case measure=>simp [intOf];omega
    | false =>
     have R:Hid (T9.dn (bg ms) (bg ks)=false):=hid (T9.si (uF HM.out) (uF jh.out) hq)
     rw [hq] at CT
     clear hq
     go_wp2_with fail
     go_still_tail 8,(by kernel_rfl)
     change wpList _ _ _ _ _ wr.drew
     go_wp2_with fail
     refine CT.out.mono ?_
     rintro e w9 ⟨rfl,h9⟩
     have B9:Hid (Below w.heap.size w w9):=hid (BR.out.trans (((Below.refl _ wr).drew.trans h9).mono BR.out.size))
     clear h9
     go_wp2
     go_ret
     exact⟨aj R.out.symm,B9.out⟩
   ·obtain rfl:k=n:=by omega
    have HE2:=HE.out
    rw [HN.out,List.take_length,HL.out,List.take_length] at HE2
    have sG:=hid HE2
    clear HE2
    go_wp2
    go_ret
    exact⟨aj sG.out.symm,BR.out⟩
 ·have R:Hid (T9.dn (bg ms) (bg ks)=false):=hid (by
   cases q:T9.dn (bg ms) (bg ks) with
   | false=>rfl
   | true =>
    have:=T9.nz q
    rw [bv,bv,← HN.out,← h_.out] at this
    exact absurd this hl)
  have hlz:¬ ((n:Int)=(n2:Int)):=by omega
  go_enter func84,ntmps84
  go_wp2
  go_ret
  exact⟨aj R.out.symm,Below.refl _ _⟩
theorem vo {A A2:Option Addr} {n c n2 c2:Nat} {ms ks:List fJ} {w:World} (h:KL w A ms) (h2:KL w A2 ks) (hn:n=ms.length) (hn2:n2=ks.length) (hs:n≤1000000) (s1:∀ m∈ms,m.t.short∧m.t.ok) (s2:∀ m∈ks,m.t.short∧m.t.ok) :
  Calls prog 80 #[.slice A n c,.slice A2 n2 c2,.func (.func 81) #[] #[]] w fun e w'=>e=.returned (.bool (T9.dn (bg ms) (bg ks)))∧Below w.heap.size w w':=by
 have H:=hid h
 have H2:=hid h2
 have HN:=hid hn
 have h_:=hid hn2
 have S1:=hid s1
 have S2:=hid s2
 clear h h2 hn hn2 s1 s2
 by_cases hl:n=n2
 ·subst hl
  have HL:=hid (HN.out.symm.trans h_.out)
  go_enter func80,ntmps80
  go_wp2_with fail
  go_loopw [17] (fun i wr=>∃ k:Nat,k≤n∧i=.int .i64 k∧Hid (T9.dn (bg (ms.take k)) (bg (ks.take k))=true)∧Aside (Below w.heap.size w wr)) (fun i _=>n - (intOf i).toNat)
  case atStart=>exact⟨0,Nat.zero_le _,rfl,hid rfl,Below.refl _ _⟩
  case round =>
   obtain⟨k,hk,rfl,HE,hB⟩:=hrel
   have BR:=hid hB.out
   clear hB
   by_cases hlt:k<n
   ·obtain⟨ad,a,rfl,hm,hf,r0,r1,r2,r3,r4,r5,r6⟩:=(H.out.stay BR.out).at_ (k:=k) (by rw [← HN.out];exact hlt)
    obtain⟨iD,b,rfl,hm2,hf2,q0,q1,q2,q3,q4,q5,q6⟩:=(H2.out.stay BR.out).at_ (k:=k) (by rw [← h_.out];exact hlt)
    have HM:=hid hm
    have jh:=hid hm2
    have F1:=hid hf
    have F2:=hid hf2
    clear hm hm2 hf hf2
    have k0:0≤(k:Int):=by omega
    have k1:(k:Int)<(n:Int):=by omega
    obtain⟨w3,hw3⟩:∃ u,wr.alloc (.cells #[.int .u64 (a.t.id:Int),.int .u64 (a.t.list:Int),.string (str a.t.title),.bool a.t.done,.float .f64 a.t.rank,.float .f64 a.t.est,.slice a.A a.t.tags.length a.c] 97)=u:=⟨_,rfl⟩
    obtain⟨pb,b3,z3⟩:=bP hw3
    obtain⟨w4,hw4⟩:∃ u,w3.alloc (.cells #[.int .u64 (b.t.id:Int),.int .u64 (b.t.list:Int),.string (str b.t.title),.bool b.t.done,.float .f64 b.t.rank,.float .f64 b.t.est,.slice b.A b.t.tags.length b.c] 97)=u:=⟨_,rfl⟩
    obtain⟨fT,b4,z4⟩:=bP hw4
    have B4:Hid (Below wr.heap.size wr w4):=hid (b3.trans (b4.mono (by omega)))
    have iZ:=(b4.block wr.heap.size (by omega)).trans pb
    obtain⟨x0,x1,x2,x3,x4,x5,x6⟩:=ak iZ
    obtain⟨y0,y1,y2,y3,y4,y5,y6⟩:=ak fT
    obtain⟨_,_,_,q0',q1',q2',q3',q4',q5',q6'⟩:True∧True∧True∧w3.cell? (iD.add (k * 7))=some (.int .u64 (b.t.id:Int))∧w3.cell? ⟨(iD.add (k * 7)).block,(iD.add (k * 7)).off+1,none⟩=some (.int .u64 (b.t.list:Int))∧w3.cell? ⟨(iD.add (k * 7)).block,(iD.add (k * 7)).off+2,none⟩=some (.string (str b.t.title))∧w3.cell? ⟨(iD.add (k * 7)).block,(iD.add (k * 7)).off+3,none⟩=some (.bool b.t.done)∧w3.cell? ⟨(iD.add (k * 7)).block,(iD.add (k * 7)).off+4,none⟩=some (.float .f64 b.t.rank)∧w3.cell? ⟨(iD.add (k * 7)).block,(iD.add (k * 7)).off+5,none⟩=some (.float .f64 b.t.est)∧w3.cell? ⟨(iD.add (k * 7)).block,(iD.add (k * 7)).off+6,none⟩=some (.slice b.A b.t.tags.length b.c):=by
     obtain⟨ad3,b',e3,hb',_,t⟩:=(H2.out.stay (BR.out.trans (b3.mono BR.out.size))).at_ (k:=k) (by rw [← h_.out];exact hlt)
     cases e3
     rw [jh.out] at hb'
     cases hb'
     exact⟨trivial,trivial,trivial,t⟩
    have CT:Hid (Calls prog 81 #[.agg #[.int .u64 (a.t.id:Int),.int .u64 (a.t.list:Int),.string (str a.t.title),.bool a.t.done,.float .f64 a.t.rank,.float .f64 a.t.est,.slice a.A a.t.tags.length a.c],.agg #[.int .u64 (b.t.id:Int),.int .u64 (b.t.list:Int),.string (str b.t.title),.bool b.t.done,.float .f64 b.t.rank,.float .f64 b.t.est,.slice b.A b.t.tags.length b.c]] w4 fun e w'=>e=.returned (.bool (T9.bM a.t b.t))∧Below w4.heap.size w4 w'):=hid (by
     have x1:=S1.out a (List.mem_of_getElem? HM.out)
     have x2:=S2.out b (List.mem_of_getElem? jh.out)
     exact ym (F1.out.stay B4.out) (F2.out.stay B4.out) x1.1 x2.1 x1.2 x2.2)
    clear pb fT iZ b3 b4 z3 z4
    cases hq:T9.bM a.t b.t with
    | true =>
     have HQ:=hid hq
     rw [hq] at CT
     clear hq
     go_wp2_with fail
     refine CT.out.mono ?_
     rintro e w9 ⟨rfl,h9⟩
     have B9:Hid (Below w.heap.size w w9):=hid (BR.out.trans ((B4.out.trans (h9.mono B4.out.size)).mono BR.out.size))
     clear h9
     go_wp2
     go_roundw
     case rel=>exact⟨k+1,by omega,by go_num,hid (by rw [aF HM.out,aF jh.out,gq,gq,T9.qy (by rw [bv,bv,List.length_take,List.length_take,HL.out]),HE.out,HQ.out];rfl),B9.out⟩
     case measure=>simp [intOf];omega
    | false =>
     have R:Hid (T9.dn (bg ms) (bg ks)=false):=hid (T9.si (uF HM.out) (uF jh.out) hq)
     rw [hq] at CT
     clear hq
     go_wp2_with fail
     refine CT.out.mono ?_
     rintro e w9 ⟨rfl,h9⟩
     have B9:Hid (Below w.heap.size w w9):=hid (BR.out.trans ((B4.out.trans (h9.mono B4.out.size)).mono BR.out.size))
     clear h9
     go_wp2
     go_ret
     exact⟨aj R.out.symm,B9.out⟩
   ·obtain rfl:k=n:=by omega
    have HE2:=HE.out
    rw [HN.out,List.take_length,HL.out,List.take_length] at HE2
    have sG:=hid HE2
    clear HE2
    go_wp2
    go_ret
    exact⟨aj sG.out.symm,BR.out⟩
 ·have R:Hid (T9.dn (bg ms) (bg ks)=false):=hid (by
   cases q:T9.dn (bg ms) (bg ks) with
   | false=>rfl
   | true =>
    have:=T9.nz q
    rw [bv,bv,← HN.out,← h_.out] at this
    exact absurd this hl)
  have hlz:¬ ((n:Int)=(n2:Int)):=by omega
  go_enter func80,ntmps80
  go_wp2
  go_ret
  exact⟨aj R.out.symm,Below.refl _ _⟩
theorem ww {a b:ji} {w:World} (ha:SM a w) (hb:SM b w) (sa:a.st.short) (sb:b.st.short) (oa:a.st.ok) (ob:b.st.ok) :
  Calls prog 41 #[a.val,b.val] w fun e w'=>e=.returned (.bool (T9.same a.st b.st))∧Below w.heap.size w w':=by
 have so:∀ (m:ji),m.st.short→m.st.ok→∀ t∈m.ms,t.t.short∧t.t.ok:=fun m s o t ht=>⟨s.2.1 t.t (List.mem_map.2 ⟨t,ht,rfl⟩),o.2 t.t (List.mem_map.2 ⟨t,ht,rfl⟩)⟩
 have l1:a.ls.length≤1000000:=sa.2.2.1
 have l2:a.ms.length≤1000000:=by have:=sa.2.2.2;unfold ji.st at this;rwa [bv] at this
 have SA:=hid (so a sa oa)
 have SB:=hid (so b sb ob)
 obtain⟨w1,hw1⟩:∃ u,w.alloc (.cells #[.slice a.A a.ls.length a.c,.slice a.A2 a.ms.length a.c2] 28)=u:=⟨_,rfl⟩
 obtain⟨pb,b1,z1⟩:=aM hw1
 obtain⟨w2,hw2⟩:∃ u,w1.alloc (.cells #[.slice b.A b.ls.length b.c,.slice b.A2 b.ms.length b.c2] 28)=u:=⟨_,rfl⟩
 obtain⟨fT,b2,z2⟩:=aM hw2
 have B:Hid (Below w.heap.size w w2):=hid (b1.trans (b2.mono (by omega)))
 have iZ:=(b2.block w.heap.size (by omega)).trans pb
 have PB:=hid iZ
 have PB2:=hid fT
 obtain⟨p0,p1⟩:=ai iZ
 obtain⟨q0,q1⟩:=ai fT
 have CL:=hid (qj (c:=a.c) (c2:=b.c) (ha.l.stay B.out) (hb.l.stay B.out) rfl rfl l1)
 have CK:∀ j,Hid (Calls prog 84 #[.slice a.A2 a.ms.length a.c2,.slice b.A2 b.ms.length b.c2] (w2.drewN j) fun e w'=>e=.returned (.bool (T9.dn (bg a.ms) (bg b.ms)))∧Below (w2.drewN j).heap.size (w2.drewN j) w'):=fun j=>hid (ql (ha.k.stay (below_drewN B.out j)) (hb.k.stay (below_drewN B.out j)) rfl rfl l2 SA.out SB.out)
 unfold ji.val
 clear ha hb sa sb oa ob pb fT iZ b1 b2 so z1 z2
 by_cases hq:a.ls=b.ls
 ·have R:Hid (T9.same a.st b.st=T9.dn (bg a.ms) (bg b.ms)):=hid (by unfold T9.same ji.st;rw [decide_eq_true hq];rfl)
  have wW:=CL.out
  rw [decide_eq_true hq] at wW
  have CL3:=hid wW
  clear hq wW CL
  go_enter func41,ntmps41
  go_wp2_with fail
  refine CL3.out.mono ?_
  rintro e w' ⟨rfl,j,rfl⟩
  have CK2:=CK j
  go_wp2_with fail
  refine CK2.out.mono ?_
  rintro e w' ⟨rfl,h9⟩
  have H9:=hid h9
  clear h9
  go_wp2
  go_ret
  exact⟨aj R.out.symm,(below_drewN B.out j).trans (H9.out.mono (below_drewN B.out j).size)⟩
 ·have R:Hid (T9.same a.st b.st=false):=hid (by unfold T9.same ji.st;rw [decide_eq_false hq];rfl)
  have wW:=CL.out
  rw [decide_eq_false hq] at wW
  have CL3:=hid wW
  clear hq wW CL
  go_enter func41,ntmps41
  go_wp2_with fail
  refine CL3.out.mono ?_
  rintro e w' ⟨rfl,j,rfl⟩
  go_wp2_with fail
  go_ret
  exact⟨aj R.out.symm,below_drewN B.out j⟩
theorem DU {a b:ji} {w:World} (ha:SM a w) (hb:SM b w) (sa:a.st.short) (sb:b.st.short) (oa:a.st.ok) (ob:b.st.ok) :
  Calls prog 38 #[a.val,b.val] w fun e w'=>e=.returned (.bool (T9.same a.st b.st))∧Below w.heap.size w w':=by
 have so:∀ (m:ji),m.st.short→m.st.ok→∀ t∈m.ms,t.t.short∧t.t.ok:=fun m s o t ht=>⟨s.2.1 t.t (List.mem_map.2 ⟨t,ht,rfl⟩),o.2 t.t (List.mem_map.2 ⟨t,ht,rfl⟩)⟩
 have l1:a.ls.length≤1000000:=sa.2.2.1
 have l2:a.ms.length≤1000000:=by have:=sa.2.2.2;unfold ji.st at this;rwa [bv] at this
 have SA:=hid (so a sa oa)
 have SB:=hid (so b sb ob)
 obtain⟨w1,hw1⟩:∃ u,w.alloc (.cells #[.slice a.A a.ls.length a.c,.slice a.A2 a.ms.length a.c2] 28)=u:=⟨_,rfl⟩
 obtain⟨pb,b1,z1⟩:=aM hw1
 obtain⟨w2,hw2⟩:∃ u,w1.alloc (.cells #[.slice b.A b.ls.length b.c,.slice b.A2 b.ms.length b.c2] 28)=u:=⟨_,rfl⟩
 obtain⟨fT,b2,z2⟩:=aM hw2
 have B:Hid (Below w.heap.size w w2):=hid (b1.trans (b2.mono (by omega)))
 have iZ:=(b2.block w.heap.size (by omega)).trans pb
 have PB:=hid iZ
 have PB2:=hid fT
 obtain⟨p0,p1⟩:=ai iZ
 obtain⟨q0,q1⟩:=ai fT
 have CL:=hid (Ck (c:=a.c) (c2:=b.c) (ha.l.stay B.out) (hb.l.stay B.out) rfl rfl l1)
 have CK:∀ j,Hid (Calls prog 80 #[.slice a.A2 a.ms.length a.c2,.slice b.A2 b.ms.length b.c2,.func (.func 81) #[] #[]] (w2.drewN j) fun e w'=>e=.returned (.bool (T9.dn (bg a.ms) (bg b.ms)))∧Below (w2.drewN j).heap.size (w2.drewN j) w'):=fun j=>hid (vo (ha.k.stay (below_drewN B.out j)) (hb.k.stay (below_drewN B.out j)) rfl rfl l2 SA.out SB.out)
 unfold ji.val
 clear ha hb sa sb oa ob pb fT iZ b1 b2 so z1 z2
 by_cases hq:a.ls=b.ls
 ·have R:Hid (T9.same a.st b.st=T9.dn (bg a.ms) (bg b.ms)):=hid (by unfold T9.same ji.st;rw [decide_eq_true hq];rfl)
  have wW:=CL.out
  rw [decide_eq_true hq] at wW
  have CL3:=hid wW
  clear hq wW CL
  go_enter func38,ntmps38
  go_wp2_with fail
  refine CL3.out.mono ?_
  rintro e w' ⟨rfl,j,rfl⟩
  have CK2:=CK j
  go_wp2_with fail
  refine CK2.out.mono ?_
  rintro e w' ⟨rfl,h9⟩
  have H9:=hid h9
  clear h9
  go_wp2
  go_ret
  exact⟨aj R.out.symm,(below_drewN B.out j).trans (H9.out.mono (below_drewN B.out j).size)⟩
 ·have R:Hid (T9.same a.st b.st=false):=hid (by unfold T9.same ji.st;rw [decide_eq_false hq];rfl)
  have wW:=CL.out
  rw [decide_eq_false hq] at wW
  have CL3:=hid wW
  clear hq wW CL
  go_enter func38,ntmps38
  go_wp2_with fail
  refine CL3.out.mono ?_
  rintro e w' ⟨rfl,j,rfl⟩
  go_wp2_with fail
  go_ret
  exact⟨aj R.out.symm,below_drewN B.out j⟩
end
end
end Go.Proofs.YtmcfknnfaokmlaaGreat
