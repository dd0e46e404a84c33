import Derived.Test.YtcedlgedmkghgaaGreatZ4
import Derived.Test.YtcedlgedmkghgaaGreatZ12
import Derived.Test.YtcedlgedmkghgaaGreatZ3
import Derived.StillTailTactics
namespace Go.Proofs.YtcedlgedmkghgaaGreat
set_option maxHeartbeats 16000000
open Go.Lib Go.Proofs.Tryz
set_option linter.unusedSimpArgs false
set_option maxRecDepth 100000
section
namespace T9
theorem iK {ls:List Li}:∀ {ts:List Tk} {a:Nat},bK ls a ts=0→(∀ t∈ts,a<t.id∧aT t=0∧(ls.any fun l=>l.id==t.list)=true)∧ts.Pairwise (fun x y=>x.id<y.id)
 | [],a,_=>⟨by simp,List.Pairwise.nil⟩
 | t :: r,a,h=>by
  unfold bK at h
  by_cases h1:t.id≤a
  ·rw [if_pos h1] at h;cases h
  rw [if_neg h1] at h
  by_cases h2:(ls.any fun l=>l.id==t.list)=false
  ·rw [if_pos h2] at h;cases h
  rw [if_neg h2] at h
  by_cases h3:aT t≠0
  ·rw [if_pos h3] at h;exact absurd h h3
  rw [if_neg h3] at h
  obtain⟨q1,q2⟩:=iK h
  have h2':(ls.any fun l=>l.id==t.list)=true:=by simpa using h2
  refine⟨fun x hx=>?_,List.pairwise_cons.2 ⟨fun x hx=>(q1 x hx).1,q2⟩⟩
  rcases List.mem_cons.1 hx with rfl | hx
  ·exact⟨by omega,by simpa using h3,h2'⟩
  ·have:=q1 x hx
   exact⟨by omega,this.2⟩
theorem ug {ls:List Li} {f:Tk→Tk} (hi:∀ t,(f t).id=t.id) (hl:∀ t,(f t).list=t.list):∀ {ts:List Tk} {a:Nat},(∀ t∈ts,aT (f t)=0)→bK ls a ts=0→bK ls a (ts.map f)=0
 | [],a,_,_=>rfl
 | t :: r,a,hf,h=>by
  rw [List.map_cons]
  unfold bK at h ⊢
  rw [hi,hl]
  by_cases h1:t.id≤a
  ·rw [if_pos h1] at h;cases h
  rw [if_neg h1] at h ⊢
  by_cases h2:(ls.any fun l=>l.id==t.list)=false
  ·rw [if_pos h2] at h;cases h
  rw [if_neg h2] at h ⊢
  rw [if_neg (fun q=>q (hf t List.mem_cons_self))]
  by_cases h3:aT t≠0
  ·rw [if_pos h3] at h;exact absurd h h3
  rw [if_neg h3] at h
  exact ug hi hl (fun x hx=>hf x (List.mem_cons_of_mem _ hx)) h
theorem uZ:∀ {ls:List Li} {a:Nat},bJ a ls=0→(∀ l∈ls,a<l.id)∧ls.Pairwise (fun x y=>x.id<y.id)
 | [],a,_=>⟨by simp,List.Pairwise.nil⟩
 | l :: r,a,h=>by
  unfold bJ at h
  by_cases h1:l.id≤a
  ·rw [if_pos h1] at h;cases h
  rw [if_neg h1] at h
  by_cases h2:title l.name=false
  ·rw [if_pos h2] at h;cases h
  rw [if_neg h2] at h
  obtain⟨q1,q2⟩:=uZ h
  refine⟨fun x hx=>?_,List.pairwise_cons.2 ⟨q1,q2⟩⟩
  rcases List.mem_cons.1 hx with rfl | hx
  ·omega
  ·have:=q1 x hx
   omega
theorem aD {s:St} (h:aH s=0):s.lists.length≤20∧s.tasks.length≤60∧bJ 0 s.lists=0∧bK s.lists 0 s.tasks=0:=by
 unfold aH at h
 by_cases h1:20<s.lists.length∨60<s.tasks.length
 ·rw [if_pos h1] at h;cases h
 rw [if_neg h1] at h
 by_cases h2:bJ 0 s.lists≠0
 ·rw [if_pos h2] at h;exact absurd h h2
 rw [if_neg h2] at h
 exact⟨by omega,by omega,by simpa using h2,h⟩
theorem jh {s:St} (h1:s.lists.length≤20) (h2:s.tasks.length≤60) (h3:bJ 0 s.lists=0) (h4:bK s.lists 0 s.tasks=0):aH s=0:=by
 unfold aH
 rw [if_neg (by omega),if_neg (fun q=>q h3),h4]
theorem lD:∀ {l:List (List UInt8)} {a:List UInt8},bV a l=true→(∀ x∈l,dL a x=true)∧Sr.Str dL l
 | [],a,_=>⟨by simp,List.Pairwise.nil⟩
 | t :: l,a,h=>by
  unfold bV at h
  rw [Bool.and_eq_true,Bool.and_eq_true] at h
  obtain⟨q1,q2⟩:=lD h.2
  refine⟨fun x hx=>?_,List.pairwise_cons.2 ⟨q1,q2⟩⟩
  rcases List.mem_cons.1 hx with rfl | hx
  ·exact h.1.2
  ·exact JH.tr _ _ _ h.1.2 (q1 x hx)
theorem uY {b:Nat} (h:mR b=true):Fl.canon b=b:=by
 unfold mR at h
 rw [beq_iff_eq,Fl.I_eq,Fl.I_eq] at h
 omega
theorem b_ {t:Tk} (h:aT t=0):title t.title=true∧Fl.dw t.rank=false∧mR t.rank=true∧mR t.est=true∧t.tags.length≤4∧bV [] t.tags=true:=by
 unfold aT at h
 by_cases h1:title t.title=false
 ·rw [if_pos h1] at h;cases h
 rw [if_neg h1] at h
 by_cases h2:(Fl.dw t.rank || !mR t.rank)=true
 ·rw [if_pos h2] at h;cases h
 rw [if_neg h2] at h
 by_cases h3:mR t.est=false
 ·rw [if_pos h3] at h;cases h
 rw [if_neg h3] at h
 by_cases h4:4<t.tags.length
 ·rw [if_pos h4] at h;cases h
 rw [if_neg h4] at h
 by_cases h5:bV [] t.tags=true
 ·rw [Bool.not_eq_true,Bool.or_eq_false_iff,Bool.not_eq_false'] at h2
  exact⟨by simpa using h1,h2.1,h2.2,by simpa using h3,by omega,h5⟩
 ·rw [if_neg h5] at h;cases h
theorem gu {t:Tk} (h1:title t.title=true) (h2:Fl.dw t.rank=false) (h3:mR t.rank=true) (h4:mR t.est=true) (h5:t.tags.length≤4) (h6:bV [] t.tags=true):aT t=0:=by
 unfold aT
 rw [if_neg (by rw [h1];decide),h2,h3,if_neg (by decide),if_neg (by rw [h4];decide),if_neg (by omega),if_pos h6]
theorem Bd {t:Tk} (h:aT t=0):norm t=t:=by
 obtain⟨_,_,h3,h4,_,h6⟩:=b_ h
 unfold norm
 rw [uY h3,uY h4,Sr.mM JH (lD h6).2]
theorem CU {ts:List Tk} (h:ts.Pairwise (fun x y=>x.id<y.id)):Sr.Str iT ts:=h.imp fun q=>decide_eq_true q
theorem str_ltL {ls:List Li} (h:ls.Pairwise (fun x y=>x.id<y.id)):Sr.Str iN ls:=h.imp fun q=>decide_eq_true q
theorem kg {s:St} (h:aH s=0):canon s=s:=by
 obtain⟨_,_,h3,h4⟩:=aD h
 have t:=iK h4
 show (⟨Sr.canon iN s.lists,(Sr.canon iT s.tasks).map norm⟩:St)=s
 rw [Sr.mM woL (str_ltL (uZ h3).2),Sr.mM woK (CU t.2)]
 have e:s.tasks.map norm=s.tasks:=by
  conv=>rhs;rw [← List.map_id s.tasks]
  exact List.map_congr_left fun x hx=>Bd (t.1 x hx).2.1
 rw [e]
theorem Ez {s:St} (h:aH s=0):rq s.tasks:=(iK (aD h).2.2.2).2.imp fun q=>by omega
def nN (l:List Tk) (t:Tk):Tk:=match xM l t.id with | some j=>{ t with rank:=Fl.xK (j+1) } | none=>t
theorem xz (l:List Tk) (t:Tk):(nN l t).id=t.id:=by unfold nN;split <;> rfl
theorem Jd (l:List Tk) (t:Tk):(nN l t).list=t.list:=by unfold nN;split <;> rfl
theorem plc_at {l:List Tk} (u:rq l) {j:Nat} {t:Tk} (h:l[j]?=some t):xM l t.id=some j:=by
 obtain⟨hj,e⟩:=List.getElem?_eq_some_iff.1 h
 unfold xM
 rw [List.findIdx?_eq_some_iff_getElem]
 refine⟨hj,by simp [e],fun i hi=>?_⟩
 have q:=List.pairwise_iff_getElem.1 u i j (by omega) hj hi
 simp only [Bool.not_eq_true,beq_eq_false_iff_ne]
 rw [← e]
 exact q
theorem y8 {l:List Tk} {id:Nat}:xM l id=none↔∀ t∈l,t.id≠id:=by
 unfold xM
 rw [List.findIdx?_eq_none_iff]
 simp
theorem y9 {l:List Tk} {id k:Nat} (h:xM l id=some k):∃ t,l[k]?=some t∧t.id=id:=by
 unfold xM at h
 rw [List.findIdx?_eq_some_iff_getElem] at h
 obtain⟨hk,e,_⟩:=h
 exact⟨l[k],List.getElem?_eq_getElem hk,by simpa using e⟩
theorem Je {l ts:List Tk} (ul:rq l) (ut:rq ts) {i k:Nat} {x y:Tk} (hx:l[i]?=some x) (hy:ts[k]?=some y) (e:y.id=x.id) :
  (ts.map (nN (l.take i))).set k { nN (l.take i) y with rank:=Fl.xK (i+1) }=ts.map (nN (l.take (i+1))):=by
 obtain⟨hi,ex⟩:=List.getElem?_eq_some_iff.1 hx
 obtain⟨hk,ey⟩:=List.getElem?_eq_some_iff.1 hy
 have tk:l.take (i+1)=l.take i++[x]:=jS hx
 have none_i:∀ t∈l.take i,t.id≠x.id:=fun t ht=>by
  obtain⟨j,hj,ej⟩:=List.mem_iff_getElem.1 ht
  rw [List.length_take] at hj
  rw [List.getElem_take] at ej
  have q:=List.pairwise_iff_getElem.1 ul j i (by omega) hi (by omega)
  rw [ej,ex] at q
  exact q
 have sx:nN (l.take i) y=y:=by
  unfold nN
  rw [e,y8.2 none_i]
 have sy:nN (l.take (i+1)) y={ y with rank:=Fl.xK (i+1) }:=by
  have p:xM (l.take (i+1)) y.id=some i:=by
   rw [e]
   have u:rq (l.take (i+1)):=List.Pairwise.sublist (List.take_sublist _ _) ul
   have g:(l.take (i+1))[i]?=some x:=by rw [List.getElem?_take,if_pos (by omega)];exact hx
   exact plc_at u g
  unfold nN
  rw [p]
 apply List.ext_getElem
 ·simp
 ·intro j h1 h2
  rw [List.getElem_set]
  have hj:j<ts.length:=by simpa using h2
  by_cases hjk:k=j
  ·subst hjk
   rw [if_pos rfl,List.getElem_map,ey,sy,sx]
  ·rw [if_neg hjk,List.getElem_map,List.getElem_map]
   have ne:ts[j].id≠x.id:=by
    rcases Nat.lt_or_ge j k with q | q
    ·have:=List.pairwise_iff_getElem.1 ut j k hj hk q
     rw [ey,e] at this
     exact this
    ·have:=List.pairwise_iff_getElem.1 ut k j hk hj (by omega)
     rw [ey,e] at this
     exact this.symm
   unfold nN
   have p:xM (l.take (i+1)) ts[j].id=xM (l.take i) ts[j].id:=by
    unfold xM
    rw [tk,List.findIdx?_append]
    have:[x].findIdx? (fun t=>t.id==ts[j].id)=none:=by
     rw [List.findIdx?_eq_none_iff]
     intro t ht
     simp only [List.mem_cons,List.not_mem_nil,or_false] at ht
     subst ht
     simpa using ne.symm
    rw [this]
    simp
   rw [p]
theorem xA {s:St} (h:aH s=0) {l:List Tk} (hl:l.length≤60):aH ⟨s.lists,s.tasks.map (nN l)⟩=0:=by
 obtain⟨h1,h2,h3,h4⟩:=aD h
 have t:=iK h4
 refine jh h1 (by simpa using h2) h3 (ug (xz l) (Jd l) (fun x hx=>?_) h4)
 obtain⟨q1,q2,q3,q4,q5,q6⟩:=b_ (t.1 x hx).2.1
 unfold nN
 split
 ·rename_i j hj
  obtain⟨y,hy,_⟩:=y9 hj
  have hj':=(List.getElem?_eq_some_iff.1 hy).1
  have f:=Fl.Gu (j+1) (by omega)
  exact gu q1 f.2.1 f.2.2.1 q4 q5 q6
 ·exact (t.1 x hx).2.1
end T9
end
section
section
open Go.RowKit Go.Lib
theorem bL {α:Type} {l:List α} {k:Nat} {x:α} (h:l[k]?=some x):l.take (k+1)=l.take k++[x]:=by
 obtain⟨q1,q2⟩:=List.getElem?_eq_some_iff.1 h
 rw [List.take_succ_eq_append_getElem q1,q2]
theorem uG {A A2:Option Addr} {n c n2 c2:Nat} {ls ks:List (List UInt8)} {w:World} (h:GL w A ls) (h2:GL w A2 ks) (hn:n=ls.length) (hn2:n2=ks.length) (hs:n≤1000000) :
  Calls prog 144 #[.slice A n c,.slice A2 n2 c2] w fun e w'=>e=.returned (.bool (decide (ls=ks)))∧∃ j,w'=w.drewN j:=by
 have H:=hid h
 have H2:=hid h2
 have HN:=hid hn
 have rf:=hid hn2
 clear h h2 hn hn2
 by_cases hl:n=n2
 ·subst hl
  have HL:=hid (HN.out.symm.trans rf.out)
  go_enter func144,ntmps144
  go_wp2_with fail
  go_loopw [13] (fun i wr=>∃ k j:Nat,k≤n∧i=.int .i64 k∧ls.take k=ks.take k∧wr=w.drewN j) (fun i _=>n - (intOf i).toNat)
  case atStart=>exact⟨0,0,Nat.zero_le _,rfl,rfl,rfl⟩
  case round =>
   obtain⟨k,j,hk,rfl,he,rfl⟩:=hrel
   have HE:=hid he
   clear he
   by_cases hlt:k<n
   ·obtain⟨ad,m,rfl,hm,hc⟩:=H.out.at_ (k:=k) (by rw [← HN.out];exact hlt)
    obtain⟨ad2,m2,rfl,hm2,hc2⟩:=H2.out.at_ (k:=k) (by rw [← rf.out];exact hlt)
    have HM:=hid hm
    have HM2:=hid hm2
    clear hm hm2
    have k0:0≤(k:Int):=by omega
    have k1:(k:Int)<(n:Int):=by omega
    by_cases eq:m=m2
    ·have EQ:=hid eq
     have q1:(m==m2)=true:=by simp [eq]
     have q2:(m != m2)=false:=by simp [eq]
     clear eq
     go_wp2_with fail
     go_region
     go_wp2
     go_roundw
     case rel=>exact⟨k+1,j+1,by omega,by go_num,by rw [bL HM.out,bL HM2.out,HE.out,EQ.out],rfl⟩
     case measure=>simp [intOf];omega
    ·have NE:Hid (¬ ls=ks):=hid fun e=>eq (by
      have e1:=congrArg (·[k]?) e
      simp only [HM.out,HM2.out,Option.some.injEq] at e1
      exact e1)
     have q1:(m==m2)=false:=by simp [eq]
     have q2:(m != m2)=true:=by simp [eq]
     all_goals
      clear eq
      go_wp2_with fail
      go_region
      go_wp2
      go_ret
      exact⟨aP (by rw [decide_eq_false NE.out]),j+1,rfl⟩
   ·obtain rfl:k=n:=by omega
    have HE2:=HE.out
    rw [HN.out,List.take_length,HL.out,List.take_length] at HE2
    have HE3:=hid HE2
    clear HE2
    go_wp2
    go_ret
    exact⟨aP (by rw [decide_eq_true HE3.out]),j,rfl⟩
 ·have hl':¬ ls=ks:=fun e=>hl (by rw [HN.out,rf.out,e])
  have HL:=hid hl'
  clear hl'
  go_enter func144,ntmps144
  go_wp2
  go_ret
  exact⟨aP (by rw [decide_eq_false HL.out]),0,rfl⟩
theorem li_ne {a b:T9.Li} (h:¬ a=b):(¬ (a.id:Int)=(b.id:Int))∨(a.id:Int)=(b.id:Int)∧¬ a.name=b.name:=by
 by_cases e:a.id=b.id
 ·exact .inr ⟨by omega,fun f=>h (T9.Li.kL.2 ⟨e,f⟩)⟩
 ·exact .inl (by omega)
theorem tN {A A2:Option Addr} {n c n2 c2:Nat} {ls ks:List (T9.Li)} {w:World} (h:LL w A ls) (h2:LL w A2 ks) (hn:n=ls.length) (hn2:n2=ks.length) (hs:n≤1000000) :
  Calls prog 38 #[.slice A n c,.slice A2 n2 c2] w fun e w'=>e=.returned (.bool (decide (ls=ks)))∧∃ j,w'=w.drewN j:=by
 have H:=hid h
 have H2:=hid h2
 have HN:=hid hn
 have rf:=hid hn2
 clear h h2 hn hn2
 by_cases hl:n=n2
 ·subst hl
  have HL:=hid (HN.out.symm.trans rf.out)
  go_enter func38,ntmps38
  go_wp2_with fail
  go_loopw [13] (fun i wr=>∃ k j:Nat,k≤n∧i=.int .i64 k∧ls.take k=ks.take k∧wr=w.drewN j) (fun i _=>n - (intOf i).toNat)
  case atStart=>exact⟨0,0,Nat.zero_le _,rfl,rfl,rfl⟩
  case round =>
   obtain⟨k,j,hk,rfl,he,rfl⟩:=hrel
   have HE:=hid he
   clear he
   by_cases hlt:k<n
   ·obtain⟨ad,m,rfl,hm,hc,hd⟩:=H.out.at_ (k:=k) (by rw [← HN.out];exact hlt)
    obtain⟨ad2,m2,rfl,hm2,hc2,hd2⟩:=H2.out.at_ (k:=k) (by rw [← rf.out];exact hlt)
    have HM:=hid hm
    have HM2:=hid hm2
    clear hm hm2
    have k0:0≤(k:Int):=by omega
    have k1:(k:Int)<(n:Int):=by omega
    by_cases eq:m=m2
    ·have EQ:=hid eq
     have q1:(m.id:Int)=(m2.id:Int):=by rw [eq]
     have q2:m.name=m2.name:=by rw [eq]
     clear eq
     go_wp2_with fail
     go_region
     go_wp2
     go_roundw
     case rel=>exact⟨k+1,j+1,by omega,by go_num,by rw [bL HM.out,bL HM2.out,HE.out,EQ.out],rfl⟩
     case measure=>simp [intOf];omega
    ·have NE:Hid (¬ ls=ks):=hid fun e=>eq (by
      have e1:=congrArg (·[k]?) e
      simp only [HM.out,HM2.out,Option.some.injEq] at e1
      exact e1)
     rcases li_ne eq with q1 | ⟨q1,q2⟩
     all_goals
      clear eq
      go_wp2_with fail
      go_region
      go_wp2
      go_ret
      exact⟨aP (by rw [decide_eq_false NE.out]),j+1,rfl⟩
   ·obtain rfl:k=n:=by omega
    have HE2:=HE.out
    rw [HN.out,List.take_length,HL.out,List.take_length] at HE2
    have HE3:=hid HE2
    clear HE2
    go_wp2
    go_ret
    exact⟨aP (by rw [decide_eq_true HE3.out]),j,rfl⟩
 ·have hl':¬ ls=ks:=fun e=>hl (by rw [HN.out,rf.out,e])
  have HL:=hid hl'
  clear hl'
  go_enter func38,ntmps38
  go_wp2
  go_ret
  exact⟨aP (by rw [decide_eq_false HL.out]),0,rfl⟩
end
section
open Go.RowKit Go.Lib
theorem vF {a:aL}:(.agg (az a).toArray:Value)=.agg #[.int .u64 (a.t.id:Int),.int .u64 (a.t.list:Int),.string (str a.t.title),.bool a.t.done,.float .f64 a.t.rank,.float .f64 a.t.est,.slice a.A a.t.tags.length a.c]:=rfl
theorem uH {a b:aL} {w:World} (ha:a.fine w) (hb:b.fine w) (sa:a.t.short) (_sb:b.t.short) (oa:a.t.ok) (ob:b.t.ok) :
  Calls prog 78 #[.agg (az a).toArray,.agg (az b).toArray] w fun e w'=>e=.returned (.bool (T9.gU a.t b.t))∧Below w.heap.size w w':=by
 obtain⟨w1,hw1⟩:∃ u,w.alloc (.cells #[.int .u64 (a.t.id:Int),.int .u64 (a.t.list:Int),.string (str a.t.title),.bool a.t.done,.float .f64 a.t.rank,.float .f64 a.t.est,.slice a.A a.t.tags.length a.c] 74)=u:=⟨_,rfl⟩
 obtain⟨pb,b1,z1⟩:=bn hw1
 obtain⟨w2,hw2⟩:∃ u,w1.alloc (.cells #[.int .u64 (b.t.id:Int),.int .u64 (b.t.list:Int),.string (str b.t.title),.bool b.t.done,.float .f64 b.t.rank,.float .f64 b.t.est,.slice b.A b.t.tags.length b.c] 74)=u:=⟨_,rfl⟩
 obtain⟨rH,b2,z2⟩:=bn hw2
 have B:Hid (Below w.heap.size w w2):=hid (b1.trans (b2.mono (by omega)))
 have pbb:=(b2.block w.heap.size (by omega)).trans pb
 obtain⟨p0,p1,p2,p3,p4,p5,p6⟩:=aj pbb
 obtain⟨q0,q1,q2,q3,q4,q5,q6⟩:=aj rH
 have oa1:=oa.2.2.1
 have oa2:=oa.2.2.2
 have ob1:=ob.2.2.1
 have ob2:=ob.2.2.2
 have EQT:=hid (uG (c:=a.c) (c2:=b.c) (ha.gl.stay B.out) (hb.gl.stay B.out) rfl rfl sa.2.2)
 have HZ:=hid z1
 rw [vF,vF]
 clear ha hb sa oa ob pb rH pbb b1 b2 z1 z2
 cases h1:((a.t.id:Int)==(b.t.id:Int)) with
 | false =>
  have R:Hid (T9.gU a.t b.t=false):=hid (by
   unfold T9.gU
   have k:=h1
   simp only [beq_eq_false_iff_ne,ne_eq,Int.natCast_inj] at k
   simp [k])
  go_enter func78,ntmps78
  go_wp2_with (first | (go_at_call 143;refine (iH _ _ _ (by assumption) (by assumption)).mono ?_;rintro e w' ⟨rfl,rfl⟩) | (go_at_call 144;refine EQT.out.mono ?_;rintro e w' ⟨rfl,j,rfl⟩))
  go_ret
  exact⟨aP R.out.symm,B.out⟩
 | true =>
  cases h2:((a.t.list:Int)==(b.t.list:Int)) with
  | false =>
   have R:Hid (T9.gU a.t b.t=false):=hid (by
    unfold T9.gU
    have k:=h2
    simp only [beq_eq_false_iff_ne,ne_eq,Int.natCast_inj] at k
    simp [k])
   go_enter func78,ntmps78
   go_wp2_with (first | (go_at_call 143;refine (iH _ _ _ (by assumption) (by assumption)).mono ?_;rintro e w' ⟨rfl,rfl⟩) | (go_at_call 144;refine EQT.out.mono ?_;rintro e w' ⟨rfl,j,rfl⟩))
   go_ret
   exact⟨aP R.out.symm,B.out⟩
  | true =>
   cases h3:(a.t.title==b.t.title) with
   | false =>
    have R:Hid (T9.gU a.t b.t=false):=hid (by
     unfold T9.gU
     have k:=h3
     simp only [beq_eq_false_iff_ne,ne_eq] at k
     simp [k])
    go_enter func78,ntmps78
    go_wp2_with (first | (go_at_call 143;refine (iH _ _ _ (by assumption) (by assumption)).mono ?_;rintro e w' ⟨rfl,rfl⟩) | (go_at_call 144;refine EQT.out.mono ?_;rintro e w' ⟨rfl,j,rfl⟩))
    go_ret
    exact⟨aP R.out.symm,B.out⟩
   | true =>
    cases h4:(a.t.done==b.t.done) with
    | false =>
     have R:Hid (T9.gU a.t b.t=false):=hid (by
      unfold T9.gU
      have k:=h4
      simp only [beq_eq_false_iff_ne,ne_eq] at k
      simp [k])
     go_enter func78,ntmps78
     go_wp2_with (first | (go_at_call 143;refine (iH _ _ _ (by assumption) (by assumption)).mono ?_;rintro e w' ⟨rfl,rfl⟩) | (go_at_call 144;refine EQT.out.mono ?_;rintro e w' ⟨rfl,j,rfl⟩))
     go_ret
     exact⟨aP R.out.symm,B.out⟩
    | true =>
     cases h5:Fl.same a.t.rank b.t.rank with
     | false =>
      have R:Hid (T9.gU a.t b.t=false):=hid (by
       unfold T9.gU
       have k:=h5
       simp [k])
      go_enter func78,ntmps78
      go_wp2_with (first | (go_at_call 143;refine (iH _ _ _ (by assumption) (by assumption)).mono ?_;rintro e w' ⟨rfl,rfl⟩) | (go_at_call 144;refine EQT.out.mono ?_;rintro e w' ⟨rfl,j,rfl⟩))
      go_ret
      exact⟨aP R.out.symm,B.out⟩
     | true =>
      cases h6:Fl.same a.t.est b.t.est with
      | false =>
       have R:Hid (T9.gU a.t b.t=false):=hid (by
        unfold T9.gU
        have k:=h6
        simp [k])
       go_enter func78,ntmps78
       go_wp2_with (first | (go_at_call 143;refine (iH _ _ _ (by assumption) (by assumption)).mono ?_;rintro e w' ⟨rfl,rfl⟩) | (go_at_call 144;refine EQT.out.mono ?_;rintro e w' ⟨rfl,j,rfl⟩))
       go_ret
       exact⟨aP R.out.symm,B.out⟩
      | true =>
       have R:Hid (T9.gU a.t b.t=decide (a.t.tags=b.t.tags)):=hid (by
        unfold T9.gU
        simp only [beq_iff_eq,Int.natCast_inj] at h1 h2 h3 h4
        simp [h1,h2,h3,h4,h5,h6])
       go_enter func78,ntmps78
       go_wp2_with (first | (go_at_call 143;refine (iH _ _ _ (by assumption) (by assumption)).mono ?_;rintro e w' ⟨rfl,rfl⟩) | (go_at_call 144;refine EQT.out.mono ?_;rintro e w' ⟨rfl,j,rfl⟩))
       go_ret
       exact⟨aP R.out.symm,below_drewN B.out j⟩
theorem T9.EF {l m:List T9.Tk} {k:Nat} {a b:T9.Tk} (h:l[k]?=some a) (h2:m[k]?=some b) (hq:T9.gU a b=false):T9.gV l m=false:=by
 induction l generalizing m k with
 | nil=>simp at h
 | cons x l ih =>
  cases m with
  | nil=>simp at h2
  | cons y m =>
   cases k with
   | zero =>
    simp only [List.getElem?_cons_zero,Option.some.injEq] at h h2
    subst h h2
    simp [T9.gV,hq]
   | succ k =>
    simp only [List.getElem?_cons_succ] at h h2
    simp [T9.gV,ih h h2]
theorem gZ {ms:List aL} {k:Nat} {m:aL} (h:ms[k]?=some m):(ay ms)[k]?=some m.t:=by unfold ay;rw [List.getElem?_map,h];rfl
theorem tO {A A2:Option Addr} {n c n2 c2:Nat} {ms ks:List aL} {w:World} (h:KL w A ms) (h2:KL w A2 ks) (hn:n=ms.length) (hn2:n2=ks.length) (hs:n≤1000000) (s1:∀ m∈ms,m.t.short∧m.t.ok) (s2:∀ m∈ks,m.t.short∧m.t.ok) :
  Calls prog 39 #[.slice A n c,.slice A2 n2 c2] w fun e w'=>e=.returned (.bool (T9.gV (ay ms) (ay ks)))∧Below w.heap.size w w':=by
 have H:=hid h
 have H2:=hid h2
 have HN:=hid hn
 have rf:=hid hn2
 have S1:=hid s1
 have S2:=hid s2
 clear h h2 hn hn2 s1 s2
 by_cases hl:n=n2
 ·subst hl
  have HL:=hid (HN.out.symm.trans rf.out)
  go_enter func39,ntmps39
  go_wp2_with fail
  go_loopw [13] (fun i wr=>∃ k:Nat,k≤n∧i=.int .i64 k∧Hid (T9.gV (ay (ms.take k)) (ay (ks.take k))=true)∧Aside (Below w.heap.size w wr)) (fun i _=>n - (intOf i).toNat)
  case atStart=>exact⟨0,Nat.zero_le _,rfl,hid rfl,Below.refl _ _⟩
  case round =>
   obtain⟨k,hk,rfl,HE,hB⟩:=hrel
   have BR:=hid hB.out
   clear hB
   by_cases hlt:k<n
   ·obtain⟨ad,a,rfl,hm,hf,r0,r1,r2,r3,r4,r5,r6⟩:=(H.out.stay BR.out).at_ (k:=k) (by rw [← HN.out];exact hlt)
    obtain⟨ad2,b,rfl,hm2,hf2,q0,q1,q2,q3,q4,q5,q6⟩:=(H2.out.stay BR.out).at_ (k:=k) (by rw [← rf.out];exact hlt)
    have HM:=hid hm
    have HM2:=hid hm2
    have F1:=hid hf
    have F2:=hid hf2
    clear hm hm2 hf hf2
    have k0:0≤(k:Int):=by omega
    have k1:(k:Int)<(n:Int):=by omega
    have CT:Hid (Calls prog 78 #[.agg #[.int .u64 (a.t.id:Int),.int .u64 (a.t.list:Int),.string (str a.t.title),.bool a.t.done,.float .f64 a.t.rank,.float .f64 a.t.est,.slice a.A a.t.tags.length a.c],.agg #[.int .u64 (b.t.id:Int),.int .u64 (b.t.list:Int),.string (str b.t.title),.bool b.t.done,.float .f64 b.t.rank,.float .f64 b.t.est,.slice b.A b.t.tags.length b.c]] wr.drew fun e w'=>e=.returned (.bool (T9.gU a.t b.t))∧Below wr.drew.heap.size wr.drew w'):=hid (by
     have d:Below wr.heap.size wr wr.drew:=(Below.refl _ wr).drew
     have x1:=S1.out a (List.mem_of_getElem? HM.out)
     have x2:=S2.out b (List.mem_of_getElem? HM2.out)
     exact uH (F1.out.stay d) (F2.out.stay d) x1.1 x2.1 x1.2 x2.2)
    cases hq:T9.gU a.t b.t with
    | true =>
     have HQ:=hid hq
     rw [hq] at CT
     clear hq
     go_wp2_with fail
     go_still_tail 8,(by kernel_rfl)
     change wpList _ _ _ _ _ wr.drew
     go_wp2_with fail
     refine CT.out.mono ?_
     rintro e w9 ⟨rfl,h9⟩
     have B9:Hid (Below w.heap.size w w9):=hid (BR.out.trans (((Below.refl _ wr).drew.trans h9).mono BR.out.size))
     clear h9
     go_wp2
     go_roundw
     case rel=>exact⟨k+1,by omega,by go_num,hid (by rw [bL HM.out,bL HM2.out,fC,fC,T9.Bp (by rw [aI,aI,List.length_take,List.length_take,HL.out]),HE.out,HQ.out];rfl),B9.out⟩
     case measure=>simp [intOf];omega
    | false =>
     have R:Hid (T9.gV (ay ms) (ay ks)=false):=hid (T9.EF (gZ HM.out) (gZ HM2.out) hq)
     rw [hq] at CT
     clear hq
     go_wp2_with fail
     go_still_tail 8,(by kernel_rfl)
     change wpList _ _ _ _ _ wr.drew
     go_wp2_with fail
     refine CT.out.mono ?_
     rintro e w9 ⟨rfl,h9⟩
     have B9:Hid (Below w.heap.size w w9):=hid (BR.out.trans (((Below.refl _ wr).drew.trans h9).mono BR.out.size))
     clear h9
     go_wp2
     go_ret
     exact⟨aP R.out.symm,B9.out⟩
   ·obtain rfl:k=n:=by omega
    have HE2:=HE.out
    rw [HN.out,List.take_length,HL.out,List.take_length] at HE2
    have HE3:=hid HE2
    clear HE2
    go_wp2
    go_ret
    exact⟨aP HE3.out.symm,BR.out⟩
 ·have R:Hid (T9.gV (ay ms) (ay ks)=false):=hid (by
   cases q:T9.gV (ay ms) (ay ks) with
   | false=>rfl
   | true =>
    have:=T9.vB q
    rw [aI,aI,← HN.out,← rf.out] at this
    exact absurd this hl)
  have hlz:¬ ((n:Int)=(n2:Int)):=by omega
  go_enter func39,ntmps39
  go_wp2
  go_ret
  exact⟨aP R.out.symm,Below.refl _ _⟩
theorem mE {a b:aW} {w:World} (ha:SM a w) (hb:SM b w) (sa:a.st.short) (sb:b.st.short) (oa:a.st.ok) (ob:b.st.ok) :
  Calls prog 16 #[a.val,b.val] w fun e w'=>e=.returned (.bool (T9.same a.st b.st))∧Below w.heap.size w w':=by
 have so:∀ (m:aW),m.st.short→m.st.ok→∀ t∈m.ms,t.t.short∧t.t.ok:=fun m s o t ht=>⟨s.2.1 t.t (List.mem_map.2 ⟨t,ht,rfl⟩),o.2 t.t (List.mem_map.2 ⟨t,ht,rfl⟩)⟩
 have l1:a.ls.length≤1000000:=sa.2.2.1
 have l2:a.ms.length≤1000000:=by have:=sa.2.2.2;unfold aW.st at this;rwa [aI] at this
 have SA:=hid (so a sa oa)
 have SB:=hid (so b sb ob)
 obtain⟨w1,hw1⟩:∃ u,w.alloc (.cells #[.slice a.A a.ls.length a.c,.slice a.A2 a.ms.length a.c2] 25)=u:=⟨_,rfl⟩
 obtain⟨pb,b1,z1⟩:=ak hw1
 obtain⟨w2,hw2⟩:∃ u,w1.alloc (.cells #[.slice b.A b.ls.length b.c,.slice b.A2 b.ms.length b.c2] 25)=u:=⟨_,rfl⟩
 obtain⟨rH,b2,z2⟩:=ak hw2
 have B:Hid (Below w.heap.size w w2):=hid (b1.trans (b2.mono (by omega)))
 have pbb:=(b2.block w.heap.size (by omega)).trans pb
 have PB:=hid pbb
 have PB2:=hid rH
 obtain⟨p0,p1⟩:=aa pbb
 obtain⟨q0,q1⟩:=aa rH
 have CL:=hid (tN (c:=a.c) (c2:=b.c) (ha.l.stay B.out) (hb.l.stay B.out) rfl rfl l1)
 have CK:∀ j,Hid (Calls prog 39 #[.slice a.A2 a.ms.length a.c2,.slice b.A2 b.ms.length b.c2] (w2.drewN j) fun e w'=>e=.returned (.bool (T9.gV (ay a.ms) (ay b.ms)))∧Below (w2.drewN j).heap.size (w2.drewN j) w'):=fun j=>hid (tO (ha.k.stay (below_drewN B.out j)) (hb.k.stay (below_drewN B.out j)) rfl rfl l2 SA.out SB.out)
 unfold aW.val
 clear ha hb sa sb oa ob pb rH pbb b1 b2 so z1 z2
 by_cases hq:a.ls=b.ls
 ·have R:Hid (T9.same a.st b.st=T9.gV (ay a.ms) (ay b.ms)):=hid (by unfold T9.same aW.st;rw [decide_eq_true hq];rfl)
  have CL2:=CL.out
  rw [decide_eq_true hq] at CL2
  have CL3:=hid CL2
  clear hq CL2 CL
  go_enter func16,ntmps16
  go_wp2_with fail
  refine CL3.out.mono ?_
  rintro e w' ⟨rfl,j,rfl⟩
  have CK2:=CK j
  go_wp2_with fail
  refine CK2.out.mono ?_
  rintro e w' ⟨rfl,h9⟩
  have H9:=hid h9
  clear h9
  go_wp2
  go_ret
  exact⟨aP R.out.symm,(below_drewN B.out j).trans (H9.out.mono (below_drewN B.out j).size)⟩
 ·have R:Hid (T9.same a.st b.st=false):=hid (by unfold T9.same aW.st;rw [decide_eq_false hq];rfl)
  have CL2:=CL.out
  rw [decide_eq_false hq] at CL2
  have CL3:=hid CL2
  clear hq CL2 CL
  go_enter func16,ntmps16
  go_wp2_with fail
  refine CL3.out.mono ?_
  rintro e w' ⟨rfl,j,rfl⟩
  go_wp2_with fail
  go_ret
  exact⟨aP R.out.symm,below_drewN B.out j⟩
end
end
end Go.Proofs.YtcedlgedmkghgaaGreat
