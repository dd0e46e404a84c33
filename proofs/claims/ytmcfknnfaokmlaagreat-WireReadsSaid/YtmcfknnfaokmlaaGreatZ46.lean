import Derived.Test.YtmcfknnfaokmlaaGreatZ35
import Derived.Test.YtmcfknnfaokmlaaGreatZ37
import Derived.Test.YtmcfknnfaokmlaaGreatZ14
namespace Go.Proofs.YtmcfknnfaokmlaaGreat
set_option maxHeartbeats 16000000
open Go.Lib Go.Proofs.Tryz
set_option linter.unusedSimpArgs false
set_option maxRecDepth 100000
section
section
open Go.RowKit Go.Lib
namespace T9
def bG:List It→List It→Bool
 | [],[]=>true
 | a :: l,b :: m=>gZ a b && bG l m
 | _,_=>false
theorem nV:∀ l:List It,bG l l=true
 | []=>rfl
 | a :: l=>by simp [bG,yh,nV l]
theorem kZ:∀ {l m:List It},bG l m=true→l.length=m.length
 | [],[],_=>rfl
 | a :: l,b :: m,h=>by
  simp only [bG,Bool.and_eq_true] at h
  rw [List.length_cons,List.length_cons,kZ h.2]
 | [],_ :: _,h=>by simp [bG] at h
 | _ :: _,[],h=>by simp [bG] at h
theorem nW {l m:List It} (hl:l.length=m.length) (a b:It):bG (l++[a]) (m++[b])=(bG l m && gZ a b):=by
 induction l generalizing m with
 | nil =>
  cases m with
  | nil=>simp [bG]
  | cons b m=>simp at hl
 | cons x l ih =>
  cases m with
  | nil=>simp at hl
  | cons y m =>
   simp only [List.length_cons,Nat.add_right_cancel_iff] at hl
   simp [bG,ih hl,Bool.and_assoc]
theorem qw {l m:List It} {k:Nat} {a b:It} (h:l[k]?=some a) (h2:m[k]?=some b) (hq:gZ a b=false):bG l m=false:=by
 induction l generalizing m k with
 | nil=>simp at h
 | cons x l ih =>
  cases m with
  | nil=>simp at h2
  | cons y m =>
   cases k with
   | zero =>
    simp only [List.getElem?_cons_zero,Option.some.injEq] at h h2
    subst h;subst h2
    simp [bG,hq]
   | succ k =>
    simp only [List.getElem?_cons_succ] at h h2
    simp [bG,ih h h2]
def mr (a b:Mg):Bool:=a.kind==b.kind && (a.line==b.line && (a.aK==b.aK && (a.bE==b.bE && (a.bI==b.bI && (bG a.items b.items && (decide (a.lasts=b.lasts) && same a.st b.st))))))
theorem lg (a:Mg):mr a a=true:=by simp [mr,nV,AB]
end T9
theorem Cj {A A2:Option Addr} {n c n2 c2:Nat} {ls ks:List La} {w:World} (h:AL w A ls) (h2:AL w A2 ks) (hn:n=ls.length) (hn2:n2=ks.length) (hs:n≤1000000) :
  Calls prog 37 #[.slice A n c,.slice A2 n2 c2] w fun e w'=>e=.returned (.bool (decide (ls=ks)))∧∃ j,w'=w.drewN j:=by
 have H:=hid h
 have H2:=hid h2
 have HN:=hid hn
 have h_:=hid hn2
 clear h h2 hn hn2
 by_cases hl:n=n2
 ·subst hl
  have HL:=hid (HN.out.symm.trans h_.out)
  go_enter func37,ntmps37
  go_wp2_with fail
  go_loopw [13] (fun i wr=>∃ k j:Nat,k≤n∧i=.int .i64 k∧ls.take k=ks.take k∧wr=w.drewN j) (fun i _=>n - (intOf i).toNat)
  case atStart=>exact⟨0,0,Nat.zero_le _,rfl,rfl,rfl⟩
  case round =>
   obtain⟨k,j,hk,rfl,he,rfl⟩:=hrel
   have HE:=hid he
   clear he
   by_cases hlt:k<n
   ·obtain⟨ad,m,rfl,hm,hc,hd⟩:=H.out.at_ (k:=k) (by rw [← HN.out];exact hlt)
    obtain⟨iD,m2,rfl,hm2,hc2,hd2⟩:=H2.out.at_ (k:=k) (by rw [← h_.out];exact hlt)
    have HM:=hid hm
    have jh:=hid hm2
    clear hm hm2
    have k0:0≤(k:Int):=by omega
    have k1:(k:Int)<(n:Int):=by omega
    by_cases eq:m=m2
    ·have EQ:=hid eq
     have q1:(m.who:Int)=(m2.who:Int):=by rw [eq]
     have q2:(m.id:Int)=(m2.id:Int):=by rw [eq]
     clear eq
     go_wp2_with fail
     go_region
     go_wp2
     go_roundw
     case rel=>exact⟨k+1,j+1,by omega,by go_num,by rw [aF HM.out,aF jh.out,HE.out,EQ.out],rfl⟩
     case measure=>simp [intOf];omega
    ·have NE:Hid (¬ ls=ks):=hid fun e=>eq (by
      have e1:=congrArg (·[k]?) e
      simp only [HM.out,jh.out,Option.some.injEq] at e1
      exact e1)
     rcases yQ eq with q1 | ⟨q1,q2⟩
     all_goals
      clear eq
      go_wp2_with fail
      go_region
      go_wp2
      go_ret
      exact⟨aj (by rw [decide_eq_false NE.out]),j+1,rfl⟩
   ·obtain rfl:k=n:=by omega
    have HE2:=HE.out
    rw [HN.out,List.take_length,HL.out,List.take_length] at HE2
    have sG:=hid HE2
    clear HE2
    go_wp2
    go_ret
    exact⟨aj (by rw [decide_eq_true sG.out]),j,rfl⟩
 ·have hl':¬ ls=ks:=fun e=>hl (by rw [HN.out,h_.out,e])
  have HL:=hid hl'
  clear hl'
  go_enter func37,ntmps37
  go_wp2
  go_ret
  exact⟨aj (by rw [decide_eq_false HL.out]),0,rfl⟩
theorem uq {a b:T9.Mu} {w:World} (oa:a.f<18446744073709551616) (ob:b.f<18446744073709551616) :
  Calls prog 113 #[a.val,b.val] w fun e w'=>e=.returned (.bool (T9.jI a b))∧Below w.heap.size w w':=by
 obtain⟨k,id,li,tx,f,fg⟩:=a
 obtain⟨k2,id2,li2,D_,f2,fg2⟩:=b
 dsimp only at oa ob
 obtain⟨R,hR⟩:∃ r,T9.jI ⟨k,id,li,tx,f,fg⟩ ⟨k2,id2,li2,D_,f2,fg2⟩=r:=⟨_,rfl⟩
 unfold T9.Mu.val
 rw [hR]
 unfold T9.jI at hR
 dsimp only at hR ⊢
 obtain⟨w1,hw1⟩:∃ u,w.alloc (.cells #[.int .i64 k,.int .u64 (id:Int),.int .u64 (li:Int),.string (str tx),.float .f64 f,.bool fg] 55)=u:=⟨_,rfl⟩
 obtain⟨pb,b1,z1⟩:=a_ hw1
 obtain⟨w2,hw2⟩:∃ u,w1.alloc (.cells #[.int .i64 k2,.int .u64 (id2:Int),.int .u64 (li2:Int),.string (str D_),.float .f64 f2,.bool fg2] 55)=u:=⟨_,rfl⟩
 obtain⟨fT,b2,z2⟩:=a_ hw2
 have B:Hid (Below w.heap.size w w2):=hid (b1.trans (b2.mono (by omega)))
 have iZ:=(b2.block w.heap.size (by omega)).trans pb
 obtain⟨p0,p1,p2,p3,p4,p5⟩:=au iZ
 obtain⟨q0,q1,q2,q3,q4,q5⟩:=au fT
 have HZ:=hid z1
 clear pb fT iZ b1 b2 z1 z2
 have e2:=aZ id id2
 have e3:=aZ li li2
 have e4:decide (tx=D_)=(tx==D_):=by rw [Bool.eq_iff_iff];simp
 rw [← e2,← e3,e4,Bool.and_comm (Fl.same f f2)] at hR
 clear e2 e3 e4
 cases h1:(k==k2)
 rotate_left;cases h2:((id:Int)==(id2:Int))
 rotate_left;cases h3:((li:Int)==(li2:Int))
 rotate_left;cases h4:(tx==D_)
 rotate_left;cases h5:(fg==fg2)
 rotate_left;cases h6:Fl.same f f2
 all_goals
  simp only [*,Bool.true_and,Bool.false_and,Bool.and_true,Bool.and_false] at hR
  subst hR
  go_enter func113,ntmps113
  go_wp2_with (go_at_call 135;refine (eY _ _ _ (by assumption) (by assumption)).mono ?_;rintro e w' ⟨rfl,rfl⟩)
  go_ret
  exact⟨rfl,B.out⟩
theorem yj {a b:It} {w:World} (oa:a.m.f<18446744073709551616) (ob:b.m.f<18446744073709551616) :
  Calls prog 36 #[a.val,b.val] w fun e w'=>e=.returned (.bool (T9.gZ a b))∧Below w.heap.size w w':=by
 obtain⟨R,hR⟩:∃ r,T9.gZ a b=r:=⟨_,rfl⟩
 unfold It.val
 rw [hR]
 unfold T9.gZ at hR
 obtain⟨w1,hw1⟩:∃ u,w.alloc (.cells #[.int .u64 (a.who:Int),.int .u64 (a.id:Int),.int .i64 a.m.kind,.int .u64 (a.m.id:Int),.int .u64 (a.m.list:Int),.string (str a.m.text),.float .f64 a.m.f,.bool a.m.flag] 57)=u:=⟨_,rfl⟩
 obtain⟨pb,b1,z1⟩:=bi hw1
 obtain⟨w2,hw2⟩:∃ u,w1.alloc (.cells #[.int .u64 (b.who:Int),.int .u64 (b.id:Int),.int .i64 b.m.kind,.int .u64 (b.m.id:Int),.int .u64 (b.m.list:Int),.string (str b.m.text),.float .f64 b.m.f,.bool b.m.flag] 57)=u:=⟨_,rfl⟩
 obtain⟨fT,b2,z2⟩:=bi hw2
 have B:Hid (Below w.heap.size w w2):=hid (b1.trans (b2.mono (by omega)))
 have iZ:=(b2.block w.heap.size (by omega)).trans pb
 obtain⟨p0,p1,p2,p3,p4,p5,p6,p7⟩:=ay iZ
 obtain⟨q0,q1,q2,q3,q4,q5,q6,q7⟩:=ay fT
 have HZ:=hid z1
 have MS:=hid (Aa (a:=a.m) (b:=b.m) (w:=w2) oa ob)
 unfold T9.Mu.val at MS
 clear pb fT iZ b1 b2 z1 z2 oa ob
 obtain⟨sm,hsm⟩:∃ r,T9.jI a.m b.m=r:=⟨_,rfl⟩
 rw [hsm] at MS
 rw [← aZ a.who b.who,← aZ a.id b.id,hsm] at hR
 clear hsm
 cases h1:((a.who:Int)==(b.who:Int))
 rotate_left;cases h2:((a.id:Int)==(b.id:Int))
 rotate_left;cases sm
 all_goals
  simp only [*,Bool.true_and,Bool.false_and,Bool.and_true,Bool.and_false] at hR
  subst hR
  go_enter func36,ntmps36
  go_wp2_with (go_at_call 78;refine MS.out.mono ?_;rintro e w3 ⟨rfl,h3⟩;have B3:=hid (B.out.trans (h3.mono B.out.size));clear h3)
  go_ret
  first | exact⟨rfl,B3.out⟩ | exact⟨rfl,B.out⟩
theorem q9 {a b:It} {w:World} (oa:a.m.f<18446744073709551616) (ob:b.m.f<18446744073709551616) :
  Calls prog 82 #[a.val,b.val] w fun e w'=>e=.returned (.bool (T9.gZ a b))∧Below w.heap.size w w':=by
 obtain⟨R,hR⟩:∃ r,T9.gZ a b=r:=⟨_,rfl⟩
 unfold It.val
 rw [hR]
 unfold T9.gZ at hR
 obtain⟨w1,hw1⟩:∃ u,w.alloc (.cells #[.int .u64 (a.who:Int),.int .u64 (a.id:Int),.int .i64 a.m.kind,.int .u64 (a.m.id:Int),.int .u64 (a.m.list:Int),.string (str a.m.text),.float .f64 a.m.f,.bool a.m.flag] 57)=u:=⟨_,rfl⟩
 obtain⟨pb,b1,z1⟩:=bi hw1
 obtain⟨w2,hw2⟩:∃ u,w1.alloc (.cells #[.int .u64 (b.who:Int),.int .u64 (b.id:Int),.int .i64 b.m.kind,.int .u64 (b.m.id:Int),.int .u64 (b.m.list:Int),.string (str b.m.text),.float .f64 b.m.f,.bool b.m.flag] 57)=u:=⟨_,rfl⟩
 obtain⟨fT,b2,z2⟩:=bi hw2
 have B:Hid (Below w.heap.size w w2):=hid (b1.trans (b2.mono (by omega)))
 have iZ:=(b2.block w.heap.size (by omega)).trans pb
 obtain⟨p0,p1,p2,p3,p4,p5,p6,p7⟩:=ay iZ
 obtain⟨q0,q1,q2,q3,q4,q5,q6,q7⟩:=ay fT
 have HZ:=hid z1
 have MS:=hid (uq (a:=a.m) (b:=b.m) (w:=w2) oa ob)
 unfold T9.Mu.val at MS
 clear pb fT iZ b1 b2 z1 z2 oa ob
 obtain⟨sm,hsm⟩:∃ r,T9.jI a.m b.m=r:=⟨_,rfl⟩
 rw [hsm] at MS
 rw [← aZ a.who b.who,← aZ a.id b.id,hsm] at hR
 clear hsm
 cases h1:((a.who:Int)==(b.who:Int))
 rotate_left;cases h2:((a.id:Int)==(b.id:Int))
 rotate_left;cases sm
 all_goals
  simp only [*,Bool.true_and,Bool.false_and,Bool.and_true,Bool.and_false] at hR
  subst hR
  go_enter func82,ntmps82
  go_wp2_with (go_at_call 113;refine MS.out.mono ?_;rintro e w3 ⟨rfl,h3⟩;have B3:=hid (B.out.trans (h3.mono B.out.size));clear h3)
  go_ret
  first | exact⟨rfl,B3.out⟩ | exact⟨rfl,B.out⟩
theorem qh {A A2:Option Addr} {n c n2 c2:Nat} {ms ks:List It} {w:World} (h:IL w A ms) (h2:IL w A2 ks) (hn:n=ms.length) (hn2:n2=ks.length) (hs:n≤1000000) (s1:∀ m∈ms,m.m.f<18446744073709551616) (s2:∀ m∈ks,m.m.f<18446744073709551616) :
  Calls prog 39 #[.slice A n c,.slice A2 n2 c2] w fun e w'=>e=.returned (.bool (T9.bG ms ks))∧Below w.heap.size w w':=by
 have H:=hid h
 have H2:=hid h2
 have HN:=hid hn
 have h_:=hid hn2
 have S1:=hid s1
 have S2:=hid s2
 clear h h2 hn hn2 s1 s2
 by_cases hl:n=n2
 ·subst hl
  have HL:=hid (HN.out.symm.trans h_.out)
  go_enter func39,ntmps39
  go_wp2_with fail
  go_loopw [13] (fun i wr=>∃ k:Nat,k≤n∧i=.int .i64 k∧Hid (T9.bG (ms.take k) (ks.take k)=true)∧Aside (Below w.heap.size w wr)) (fun i _=>n - (intOf i).toNat)
  case atStart=>exact⟨0,Nat.zero_le _,rfl,hid rfl,Below.refl _ _⟩
  case round =>
   obtain⟨k,hk,rfl,HE,hB⟩:=hrel
   have BR:=hid hB.out
   clear hB
   by_cases hlt:k<n
   ·obtain⟨ad,a,rfl,hm,r0,r1,r2,r3,r4,r5,r6,r7⟩:=(H.out.stay BR.out).at_ (k:=k) (by rw [← HN.out];exact hlt)
    obtain⟨iD,b,rfl,hm2,q0,q1,q2,q3,q4,q5,q6,q7⟩:=(H2.out.stay BR.out).at_ (k:=k) (by rw [← h_.out];exact hlt)
    have HM:=hid hm
    have jh:=hid hm2
    clear hm hm2
    have k0:0≤(k:Int):=by omega
    have k1:(k:Int)<(n:Int):=by omega
    have CT:Hid (Calls prog 82 #[.agg #[.int .u64 (a.who:Int),.int .u64 (a.id:Int),.int .i64 a.m.kind,.int .u64 (a.m.id:Int),.int .u64 (a.m.list:Int),.string (str a.m.text),.float .f64 a.m.f,.bool a.m.flag],.agg #[.int .u64 (b.who:Int),.int .u64 (b.id:Int),.int .i64 b.m.kind,.int .u64 (b.m.id:Int),.int .u64 (b.m.list:Int),.string (str b.m.text),.float .f64 b.m.f,.bool b.m.flag]] wr.drew fun e w'=>e=.returned (.bool (T9.gZ a b))∧Below wr.drew.heap.size wr.drew w'):=hid (by
     exact q9 (S1.out a (List.mem_of_getElem? HM.out)) (S2.out b (List.mem_of_getElem? jh.out)))
    cases hq:T9.gZ a b with
    | true =>
     have HQ:=hid hq
     rw [hq] at CT
     clear hq
     go_wp2_with fail
     go_still_tail 8,(by kernel_rfl)
     change wpList _ _ _ _ _ wr.drew
     go_wp2_with fail
     refine CT.out.mono ?_
     rintro e w9 ⟨rfl,h9⟩
     have B9:Hid (Below w.heap.size w w9):=hid (BR.out.trans (((Below.refl _ wr).drew.trans h9).mono BR.out.size))
     clear h9
     go_wp2
     go_roundw
     case rel=>exact⟨k+1,by omega,by go_num,hid (by rw [aF HM.out,aF jh.out,T9.nW (by rw [List.length_take,List.length_take,HL.out]),HE.out,HQ.out];rfl),B9.out⟩
     case measure=>simp [intOf];omega
    | false =>
     have R:Hid (T9.bG ms ks=false):=hid (T9.qw HM.out jh.out hq)
     rw [hq] at CT
     clear hq
     go_wp2_with fail
     go_still_tail 8,(by kernel_rfl)
     change wpList _ _ _ _ _ wr.drew
     go_wp2_with fail
     refine CT.out.mono ?_
     rintro e w9 ⟨rfl,h9⟩
     have B9:Hid (Below w.heap.size w w9):=hid (BR.out.trans (((Below.refl _ wr).drew.trans h9).mono BR.out.size))
     clear h9
     go_wp2
     go_ret
     exact⟨aj R.out.symm,B9.out⟩
   ·obtain rfl:k=n:=by omega
    have HE2:=HE.out
    rw [HN.out,List.take_length,HL.out,List.take_length] at HE2
    have sG:=hid HE2
    clear HE2
    go_wp2
    go_ret
    exact⟨aj sG.out.symm,BR.out⟩
 ·have R:Hid (T9.bG ms ks=false):=hid (by
   cases q:T9.bG ms ks with
   | false=>rfl
   | true =>
    have:=T9.kZ q
    rw [← HN.out,← h_.out] at this
    exact absurd this hl)
  have hlz:¬ ((n:Int)=(n2:Int)):=by omega
  go_enter func39,ntmps39
  go_wp2
  go_ret
  exact⟨aj R.out.symm,Below.refl _ _⟩
theorem tq {A A2:Option Addr} {n c n2 c2:Nat} {ms ks:List It} {w:World} (h:IL w A ms) (h2:IL w A2 ks) (hn:n=ms.length) (hn2:n2=ks.length) (hs:n≤1000000) (s1:∀ m∈ms,m.m.f<18446744073709551616) (s2:∀ m∈ks,m.m.f<18446744073709551616) :
  Calls prog 35 #[.slice A n c,.slice A2 n2 c2,.func (.func 36) #[] #[]] w fun e w'=>e=.returned (.bool (T9.bG ms ks))∧Below w.heap.size w w':=by
 have H:=hid h
 have H2:=hid h2
 have HN:=hid hn
 have h_:=hid hn2
 have S1:=hid s1
 have S2:=hid s2
 clear h h2 hn hn2 s1 s2
 by_cases hl:n=n2
 ·subst hl
  have HL:=hid (HN.out.symm.trans h_.out)
  go_enter func35,ntmps35
  go_wp2_with fail
  go_loopw [17] (fun i wr=>∃ k:Nat,k≤n∧i=.int .i64 k∧Hid (T9.bG (ms.take k) (ks.take k)=true)∧Aside (Below w.heap.size w wr)) (fun i _=>n - (intOf i).toNat)
  case atStart=>exact⟨0,Nat.zero_le _,rfl,hid rfl,Below.refl _ _⟩
  case round =>
   obtain⟨k,hk,rfl,HE,hB⟩:=hrel
   have BR:=hid hB.out
   clear hB
   by_cases hlt:k<n
   ·obtain⟨ad,a,rfl,hm,r0,r1,r2,r3,r4,r5,r6,r7⟩:=(H.out.stay BR.out).at_ (k:=k) (by rw [← HN.out];exact hlt)
    obtain⟨iD,b,rfl,hm2,q0,q1,q2,q3,q4,q5,q6,q7⟩:=(H2.out.stay BR.out).at_ (k:=k) (by rw [← h_.out];exact hlt)
    have HM:=hid hm
    have jh:=hid hm2
    clear hm hm2
    have k0:0≤(k:Int):=by omega
    have k1:(k:Int)<(n:Int):=by omega
    obtain⟨w3,hw3⟩:∃ u,wr.alloc (.cells #[.int .u64 (a.who:Int),.int .u64 (a.id:Int),.int .i64 a.m.kind,.int .u64 (a.m.id:Int),.int .u64 (a.m.list:Int),.string (str a.m.text),.float .f64 a.m.f,.bool a.m.flag] 57)=u:=⟨_,rfl⟩
    obtain⟨pb,b3,z3⟩:=bi hw3
    obtain⟨w4,hw4⟩:∃ u,w3.alloc (.cells #[.int .u64 (b.who:Int),.int .u64 (b.id:Int),.int .i64 b.m.kind,.int .u64 (b.m.id:Int),.int .u64 (b.m.list:Int),.string (str b.m.text),.float .f64 b.m.f,.bool b.m.flag] 57)=u:=⟨_,rfl⟩
    obtain⟨fT,b4,z4⟩:=bi hw4
    have B4:Hid (Below wr.heap.size wr w4):=hid (b3.trans (b4.mono (by omega)))
    have iZ:=(b4.block wr.heap.size (by omega)).trans pb
    obtain⟨x0,x1,x2,x3,x4,x5,x6,x7⟩:=ay iZ
    obtain⟨y0,y1,y2,y3,y4,y5,y6,y7⟩:=ay fT
    obtain⟨q0',q1',q2',q3',q4',q5',q6',q7'⟩:w3.cell? (iD.add (k * 8))=some (.int .u64 (b.who:Int))∧w3.cell? ⟨(iD.add (k * 8)).block,(iD.add (k * 8)).off+1,none⟩=some (.int .u64 (b.id:Int))∧w3.cell? ⟨(iD.add (k * 8)).block,(iD.add (k * 8)).off+2,none⟩=some (.int .i64 b.m.kind)∧w3.cell? ⟨(iD.add (k * 8)).block,(iD.add (k * 8)).off+3,none⟩=some (.int .u64 (b.m.id:Int))∧w3.cell? ⟨(iD.add (k * 8)).block,(iD.add (k * 8)).off+4,none⟩=some (.int .u64 (b.m.list:Int))∧w3.cell? ⟨(iD.add (k * 8)).block,(iD.add (k * 8)).off+5,none⟩=some (.string (str b.m.text))∧w3.cell? ⟨(iD.add (k * 8)).block,(iD.add (k * 8)).off+6,none⟩=some (.float .f64 b.m.f)∧w3.cell? ⟨(iD.add (k * 8)).block,(iD.add (k * 8)).off+7,none⟩=some (.bool b.m.flag):=by
     obtain⟨ad3,b',e3,hb',t⟩:=(H2.out.stay (BR.out.trans (b3.mono BR.out.size))).at_ (k:=k) (by rw [← h_.out];exact hlt)
     cases e3
     rw [jh.out] at hb'
     cases hb'
     exact t
    have CT:Hid (Calls prog 36 #[.agg #[.int .u64 (a.who:Int),.int .u64 (a.id:Int),.int .i64 a.m.kind,.int .u64 (a.m.id:Int),.int .u64 (a.m.list:Int),.string (str a.m.text),.float .f64 a.m.f,.bool a.m.flag],.agg #[.int .u64 (b.who:Int),.int .u64 (b.id:Int),.int .i64 b.m.kind,.int .u64 (b.m.id:Int),.int .u64 (b.m.list:Int),.string (str b.m.text),.float .f64 b.m.f,.bool b.m.flag]] w4 fun e w'=>e=.returned (.bool (T9.gZ a b))∧Below w4.heap.size w4 w'):=hid (by
     exact yj (S1.out a (List.mem_of_getElem? HM.out)) (S2.out b (List.mem_of_getElem? jh.out)))
    clear pb fT iZ b3 b4 z3 z4
    cases hq:T9.gZ a b with
    | true =>
     have HQ:=hid hq
     rw [hq] at CT
     clear hq
     go_wp2_with fail
     refine CT.out.mono ?_
     rintro e w9 ⟨rfl,h9⟩
     have B9:Hid (Below w.heap.size w w9):=hid (BR.out.trans ((B4.out.trans (h9.mono B4.out.size)).mono BR.out.size))
     clear h9
     go_wp2
     go_roundw
     case rel=>exact⟨k+1,by omega,by go_num,hid (by rw [aF HM.out,aF jh.out,T9.nW (by rw [List.length_take,List.length_take,HL.out]),HE.out,HQ.out];rfl),B9.out⟩
     case measure=>simp [intOf];omega
    | false =>
     have R:Hid (T9.bG ms ks=false):=hid (T9.qw HM.out jh.out hq)
     rw [hq] at CT
     clear hq
     go_wp2_with fail
     refine CT.out.mono ?_
     rintro e w9 ⟨rfl,h9⟩
     have B9:Hid (Below w.heap.size w w9):=hid (BR.out.trans ((B4.out.trans (h9.mono B4.out.size)).mono BR.out.size))
     clear h9
     go_wp2
     go_ret
     exact⟨aj R.out.symm,B9.out⟩
   ·obtain rfl:k=n:=by omega
    have HE2:=HE.out
    rw [HN.out,List.take_length,HL.out,List.take_length] at HE2
    have sG:=hid HE2
    clear HE2
    go_wp2
    go_ret
    exact⟨aj sG.out.symm,BR.out⟩
 ·have R:Hid (T9.bG ms ks=false):=hid (by
   cases q:T9.bG ms ks with
   | false=>rfl
   | true =>
    have:=T9.kZ q
    rw [← HN.out,← h_.out] at this
    exact absurd this hl)
  have hlz:¬ ((n:Int)=(n2:Int)):=by omega
  go_enter func35,ntmps35
  go_wp2
  go_ret
  exact⟨aj R.out.symm,Below.refl _ _⟩
theorem wE {a b:dR} {w:World} (ha:WM a w) (hb:WM b w) (oa:a.mg.ok) (ob:b.mg.ok) (sa:a.s.st.short) (sb:b.s.st.short) (la:a.is.length≤1000000) (ka:a.las.length≤1000000) :
  Calls prog 11 #[a.val,b.val] w fun e w'=>e=.returned (.bool (T9.mr a.mg b.mg))∧Below w.heap.size w w':=by
 obtain⟨R,hR⟩:∃ r,T9.mr a.mg b.mg=r:=⟨_,rfl⟩
 unfold dR.val
 rw [hR]
 unfold T9.mr at hR
 have hR:(a.kind==b.kind && (a.line==b.line && (a.aK==b.aK && (a.bE==b.bE && (a.bI==b.bI && (T9.bG a.is b.is && (decide (a.las=b.las) && T9.same a.s.st b.s.st)))))))=R:=hR
 obtain⟨w1,hw1⟩:∃ u,w.alloc (.cells #[.int .i64 a.kind,.int .u64 (a.line:Int),.int .u64 (a.aK:Int),.int .u64 (a.bE:Int),.int .u64 (a.bI:Int),.slice a.A a.is.length a.c,.slice a.A1 a.las.length a.c1,.slice a.s.A a.s.ls.length a.s.c,.slice a.s.A2 a.s.ms.length a.s.c2] 30)=u:=⟨_,rfl⟩
 obtain⟨pb,b1,z1⟩:=bD hw1
 obtain⟨w2,hw2⟩:∃ u,w1.alloc (.cells #[.int .i64 b.kind,.int .u64 (b.line:Int),.int .u64 (b.aK:Int),.int .u64 (b.bE:Int),.int .u64 (b.bI:Int),.slice b.A b.is.length b.c,.slice b.A1 b.las.length b.c1,.slice b.s.A b.s.ls.length b.s.c,.slice b.s.A2 b.s.ms.length b.s.c2] 30)=u:=⟨_,rfl⟩
 obtain⟨fT,b2,z2⟩:=bD hw2
 have B:Hid (Below w.heap.size w w2):=hid (b1.trans (b2.mono (by omega)))
 have iZ:=(b2.block w.heap.size (by omega)).trans pb
 have PA:=hid iZ
 have PB:=hid fT
 obtain⟨p0,p1,p2,p3,p4,p5,p6,p7,p8⟩:=ag iZ
 obtain⟨q0,q1,q2,q3,q4,q5,q6,q7,q8⟩:=ag fT
 have HA:=hid (ha.stay B.out)
 have HB:=hid (hb.stay B.out)
 have HZ:=hid z1
 have fa:∀ x∈a.is,x.m.f<18446744073709551616:=fun x hx=>(oa.i x hx).2.2.2.2
 have fb:∀ x∈b.is,x.m.f<18446744073709551616:=fun x hx=>(ob.i x hx).2.2.2.2
 have CI:∀ u,Below w2.heap.size w2 u→Hid (Calls prog 35 #[.slice a.A a.is.length a.c,.slice b.A b.is.length b.c,.func (.func 36) #[] #[]] u fun e w'=>e=.returned (.bool (T9.bG a.is b.is))∧Below u.heap.size u w'):=fun u hu=>hid (tq (HA.out.i.stay hu) (HB.out.i.stay hu) rfl rfl la fa fb)
 have CL:∀ u,Below w2.heap.size w2 u→Hid (Calls prog 37 #[.slice a.A1 a.las.length a.c1,.slice b.A1 b.las.length b.c1] u fun e w'=>e=.returned (.bool (decide (a.las=b.las)))∧∃ j,w'=u.drewN j):=fun u hu=>hid (Cj (HA.out.a.stay hu) (HB.out.a.stay hu) rfl rfl ka)
 have CS:∀ u,Below w2.heap.size w2 u→Hid (Calls prog 38 #[a.s.val,b.s.val] u fun e w'=>e=.returned (.bool (T9.same a.s.st b.s.st))∧Below u.heap.size u w'):=fun u hu=>hid (DU (HA.out.s.stay hu) (HB.out.s.stay hu) sa sb oa.s ob.s)
 unfold ji.val at CS
 obtain⟨r1,h1⟩:∃ r,T9.bG a.is b.is=r:=⟨_,rfl⟩
 obtain⟨r2,h2⟩:∃ r,decide (a.las=b.las)=r:=⟨_,rfl⟩
 obtain⟨r3,h3⟩:∃ r,T9.same a.s.st b.s.st=r:=⟨_,rfl⟩
 rw [h1] at CI
 rw [h2] at CL
 rw [h3] at CS
 rw [h1,h2,h3,← aZ a.line b.line,← aZ a.aK b.aK,← aZ a.bE b.bE,← aZ a.bI b.bI] at hR
 have KI:=hid CI
 have KL':=hid CL
 have KS:=hid CS
 have B0:=hid (Below.refl w2.heap.size w2)
 clear h1 h2 h3 CI CL CS pb fT iZ b1 b2 z1 z2 ha hb oa ob sa sb la ka fa fb
 cases g1:(a.kind==b.kind)
 rotate_left;cases g2:((a.line:Int)==(b.line:Int))
 rotate_left;cases g3:((a.aK:Int)==(b.aK:Int))
 rotate_left;cases g4:((a.bE:Int)==(b.bE:Int))
 rotate_left;cases g5:((a.bI:Int)==(b.bI:Int))
 rotate_left;cases r1
 rotate_left;cases r2
 rotate_left;cases r3
 all_goals
  simp only [*,Bool.true_and,Bool.false_and,Bool.and_true,Bool.and_false] at hR
  subst hR
  go_enter func11,ntmps11
  go_wp2_with (first
   | (go_at_call 35;refine (KI.out _ B0.out).out.mono ?_;rintro e w3 ⟨rfl,c3⟩;have C3:=hid c3;obtain⟨p0,p1,p2,p3,p4,p5,p6,p7,p8⟩:=ag (ah PA.out c3);obtain⟨q0,q1,q2,q3,q4,q5,q6,q7,q8⟩:=ag (ah PB.out c3);clear c3)
   | (go_at_call 37;refine (KL'.out _ C3.out).out.mono ?_;rintro e w4 ⟨rfl,j,rfl⟩;have C4:=hid (below_drewN C3.out j);obtain⟨p0,p1,p2,p3,p4,p5,p6,p7,p8⟩:=ag (ah PA.out C4.out);obtain⟨q0,q1,q2,q3,q4,q5,q6,q7,q8⟩:=ag (ah PB.out C4.out))
   | (go_at_call 38;refine (KS.out _ C4.out).out.mono ?_;rintro e w5 ⟨rfl,c5⟩;have C5:=hid (C4.out.trans (c5.mono C4.out.size));clear c5))
  go_ret
  first
  | exact⟨rfl,B.out.trans (C5.out.mono B.out.size)⟩
  | exact⟨rfl,B.out.trans (C4.out.mono B.out.size)⟩
  | exact⟨rfl,B.out.trans (C3.out.mono B.out.size)⟩
  | exact⟨rfl,B.out⟩
theorem jE {a b:dR} {w:World} (ha:WM a w) (hb:WM b w) (oa:a.mg.ok) (ob:b.mg.ok) (sa:a.s.st.short) (sb:b.s.st.short) (la:a.is.length≤1000000) (ka:a.las.length≤1000000) :
  Calls prog 12 #[a.val,b.val] w fun e w'=>e=.returned (.bool (T9.mr a.mg b.mg))∧Below w.heap.size w w':=by
 obtain⟨R,hR⟩:∃ r,T9.mr a.mg b.mg=r:=⟨_,rfl⟩
 unfold dR.val
 rw [hR]
 unfold T9.mr at hR
 have hR:(a.kind==b.kind && (a.line==b.line && (a.aK==b.aK && (a.bE==b.bE && (a.bI==b.bI && (T9.bG a.is b.is && (decide (a.las=b.las) && T9.same a.s.st b.s.st)))))))=R:=hR
 obtain⟨w1,hw1⟩:∃ u,w.alloc (.cells #[.int .i64 a.kind,.int .u64 (a.line:Int),.int .u64 (a.aK:Int),.int .u64 (a.bE:Int),.int .u64 (a.bI:Int),.slice a.A a.is.length a.c,.slice a.A1 a.las.length a.c1,.slice a.s.A a.s.ls.length a.s.c,.slice a.s.A2 a.s.ms.length a.s.c2] 30)=u:=⟨_,rfl⟩
 obtain⟨pb,b1,z1⟩:=bD hw1
 obtain⟨w2,hw2⟩:∃ u,w1.alloc (.cells #[.int .i64 b.kind,.int .u64 (b.line:Int),.int .u64 (b.aK:Int),.int .u64 (b.bE:Int),.int .u64 (b.bI:Int),.slice b.A b.is.length b.c,.slice b.A1 b.las.length b.c1,.slice b.s.A b.s.ls.length b.s.c,.slice b.s.A2 b.s.ms.length b.s.c2] 30)=u:=⟨_,rfl⟩
 obtain⟨fT,b2,z2⟩:=bD hw2
 have B:Hid (Below w.heap.size w w2):=hid (b1.trans (b2.mono (by omega)))
 have iZ:=(b2.block w.heap.size (by omega)).trans pb
 have PA:=hid iZ
 have PB:=hid fT
 obtain⟨p0,p1,p2,p3,p4,p5,p6,p7,p8⟩:=ag iZ
 obtain⟨q0,q1,q2,q3,q4,q5,q6,q7,q8⟩:=ag fT
 have HA:=hid (ha.stay B.out)
 have HB:=hid (hb.stay B.out)
 have HZ:=hid z1
 have fa:∀ x∈a.is,x.m.f<18446744073709551616:=fun x hx=>(oa.i x hx).2.2.2.2
 have fb:∀ x∈b.is,x.m.f<18446744073709551616:=fun x hx=>(ob.i x hx).2.2.2.2
 have CI:∀ u,Below w2.heap.size w2 u→Hid (Calls prog 39 #[.slice a.A a.is.length a.c,.slice b.A b.is.length b.c] u fun e w'=>e=.returned (.bool (T9.bG a.is b.is))∧Below u.heap.size u w'):=fun u hu=>hid (qh (HA.out.i.stay hu) (HB.out.i.stay hu) rfl rfl la fa fb)
 have CL:∀ u,Below w2.heap.size w2 u→Hid (Calls prog 40 #[.slice a.A1 a.las.length a.c1,.slice b.A1 b.las.length b.c1] u fun e w'=>e=.returned (.bool (decide (a.las=b.las)))∧∃ j,w'=u.drewN j):=fun u hu=>hid (qi (HA.out.a.stay hu) (HB.out.a.stay hu) rfl rfl ka)
 have CS:∀ u,Below w2.heap.size w2 u→Hid (Calls prog 41 #[a.s.val,b.s.val] u fun e w'=>e=.returned (.bool (T9.same a.s.st b.s.st))∧Below u.heap.size u w'):=fun u hu=>hid (ww (HA.out.s.stay hu) (HB.out.s.stay hu) sa sb oa.s ob.s)
 unfold ji.val at CS
 obtain⟨r1,h1⟩:∃ r,T9.bG a.is b.is=r:=⟨_,rfl⟩
 obtain⟨r2,h2⟩:∃ r,decide (a.las=b.las)=r:=⟨_,rfl⟩
 obtain⟨r3,h3⟩:∃ r,T9.same a.s.st b.s.st=r:=⟨_,rfl⟩
 rw [h1] at CI
 rw [h2] at CL
 rw [h3] at CS
 rw [h1,h2,h3,← aZ a.line b.line,← aZ a.aK b.aK,← aZ a.bE b.bE,← aZ a.bI b.bI] at hR
 have KI:=hid CI
 have KL':=hid CL
 have KS:=hid CS
 have B0:=hid (Below.refl w2.heap.size w2)
 clear h1 h2 h3 CI CL CS pb fT iZ b1 b2 z1 z2 ha hb oa ob sa sb la ka fa fb
 cases g1:(a.kind==b.kind)
 rotate_left;cases g2:((a.line:Int)==(b.line:Int))
 rotate_left;cases g3:((a.aK:Int)==(b.aK:Int))
 rotate_left;cases g4:((a.bE:Int)==(b.bE:Int))
 rotate_left;cases g5:((a.bI:Int)==(b.bI:Int))
 rotate_left;cases r1
 rotate_left;cases r2
 rotate_left;cases r3
 all_goals
  simp only [*,Bool.true_and,Bool.false_and,Bool.and_true,Bool.and_false] at hR
  subst hR
  go_enter func12,ntmps12
  go_wp2_with (first
   | (go_at_call 39;refine (KI.out _ B0.out).out.mono ?_;rintro e w3 ⟨rfl,c3⟩;have C3:=hid c3;obtain⟨p0,p1,p2,p3,p4,p5,p6,p7,p8⟩:=ag (ah PA.out c3);obtain⟨q0,q1,q2,q3,q4,q5,q6,q7,q8⟩:=ag (ah PB.out c3);clear c3)
   | (go_at_call 40;refine (KL'.out _ C3.out).out.mono ?_;rintro e w4 ⟨rfl,j,rfl⟩;have C4:=hid (below_drewN C3.out j);obtain⟨p0,p1,p2,p3,p4,p5,p6,p7,p8⟩:=ag (ah PA.out C4.out);obtain⟨q0,q1,q2,q3,q4,q5,q6,q7,q8⟩:=ag (ah PB.out C4.out))
   | (go_at_call 41;refine (KS.out _ C4.out).out.mono ?_;rintro e w5 ⟨rfl,c5⟩;have C5:=hid (C4.out.trans (c5.mono C4.out.size));clear c5))
  go_ret
  first
  | exact⟨rfl,B.out.trans (C5.out.mono B.out.size)⟩
  | exact⟨rfl,B.out.trans (C4.out.mono B.out.size)⟩
  | exact⟨rfl,B.out.trans (C3.out.mono B.out.size)⟩
  | exact⟨rfl,B.out⟩
end
end
end Go.Proofs.YtmcfknnfaokmlaaGreat
