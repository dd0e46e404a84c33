import Derived.Test.YtmcfknnfaokmlaaGreatZ26
import Derived.Test.YtmcfknnfaokmlaaGreatZ3
import Derived.BigQuiet
import Derived.WalkMore
namespace Go.Proofs.YtmcfknnfaokmlaaGreat
set_option maxHeartbeats 16000000
open Go.Lib Go.Proofs.Tryz
set_option linter.unusedSimpArgs false
set_option maxRecDepth 100000
section
open Go.RowKit
def lenOf:Value→Nat
 | .slice _ n _=>n
 | _=>0
namespace Fr
def only (l:List UInt8):Option (List UInt8) :=
 match kN l with
 | none=>none
 | some b=>if 7+b.length=l.length then some b else none
def fC (l:List UInt8):Int:=if (only l).isSome then 0 else 40
def l9 (l:List UInt8):List UInt8:=(only l).getD []
theorem Al {l:List UInt8} (h:kN l=none):fC l=40∧l9 l=[]:=by
 have e:only l=none:=by unfold only;rw [h]
 unfold fC l9
 rw [e]
 exact⟨rfl,rfl⟩
theorem Ak {l b:List UInt8} (h:kN l=some b) (hl:¬ 7+b.length=l.length):fC l=40∧l9 l=[]:=by
 have e:only l=none:=by unfold only;rw [h];exact if_neg hl
 unfold fC l9
 rw [e]
 exact⟨rfl,rfl⟩
theorem Am {l b:List UInt8} (h:kN l=some b) (hl:7+b.length=l.length):fC l=0∧l9 l=b:=by
 have e:only l=some b:=by unfold only;rw [h];exact if_pos hl
 unfold fC l9
 rw [e]
 exact⟨rfl,rfl⟩
end Fr
namespace Fr
theorem mG {l:List UInt8} (h:¬ 7+long l≤l.length):kN l=none:=by
 unfold kN
 rw [if_neg (fun q=>h q.1)]
theorem rz {l:List UInt8} (h:¬ long l≤60000):kN l=none:=by
 unfold kN
 rw [if_neg (fun q=>h q.2.1)]
theorem ry {x:UInt8} {t:List UInt8} (h:x≠165):kN (x :: t)=none:=by
 unfold kN
 rw [if_neg]
 rintro⟨h1,_,h3⟩
 rw [show 7+long (x :: t)=(6+long (x :: t))+1 by omega,List.take_succ_cons] at h3
 unfold frame at h3
 injection h3 with h4 _
 exact h h4.symm
theorem unf_sum {l:List UInt8} (hx:l[0]?=some 165) (hl:7+long l≤l.length) (hm:long l≤60000) :
  kN l=if (l.drop (3+long l)).take 4=Cd.fix (Crc.sum ((l.drop 1).take (2+long l))) 4 then some (body l) else none:=by
 obtain⟨b,c,t,rfl⟩:∃ b c t,l=165 :: b :: c :: t:=by
  rcases l with _ | ⟨a,_ | ⟨b,_ | ⟨c,t⟩⟩⟩
  ·simp at hx
  ·simp [long] at hl
  ·simp [long] at hl;omega
  ·simp at hx
   exact⟨b,c,t,by rw [hx]⟩
 have hlong:long (165 :: b :: c :: t)=b.toNat * 256+c.toNat:=rfl
 generalize hq:long (165 :: b :: c :: t)=m at *
 have hb:=b.toNat_lt
 have hc:=c.toNat_lt
 have hlt:(t.take m).length=m:=by
  rw [List.length_take]
  simp only [List.length_cons] at hl
  omega
 have hbody:body (165 :: b :: c :: t)=t.take m:=by unfold body;rw [hq];rfl
 have hinner:inner (t.take m)=(((165 :: b :: c :: t).drop 1).take (2+m)):=by
  unfold inner
  rw [hlt,fix2,Nat.add_comm 2 m]
  have e1:Cd.iP m 1=b:=by
   apply UInt8.toNat_inj.1
   rw [Cd.fq]
   omega
  have e0:Cd.iP m 0=c:=by
   apply UInt8.toNat_inj.1
   rw [Cd.fq]
   omega
  rw [e1,e0]
  rfl
 have htake:(165 :: b :: c :: t).take (7+m)=165 :: (((165 :: b :: c :: t).drop 1).take (2+m)++((165 :: b :: c :: t).drop (3+m)).take 4):=by
  rw [show 7+m=(2+m+4)+1 by omega,List.take_succ_cons]
  congr 1
  rw [List.take_add]
  congr 2
  rw [Nat.add_comm 2 m,Nat.add_comm 3 m]
  rfl
 unfold kN
 rw [hq,hbody,htake]
 unfold frame
 rw [hinner]
 by_cases h:((165 :: b :: c :: t).drop (3+m)).take 4=Cd.fix (Crc.sum (((165 :: b :: c :: t).drop 1).take (2+m))) 4
 ·rw [if_pos h,if_pos ⟨hl,hm,by rw [h]⟩]
 ·rw [if_neg h,if_neg]
  rintro⟨_,_,q⟩
  injection q with _ q
  exact h (List.append_cancel_left q).symm
end Fr
def szOf:Option (List UInt8)→Int
 | none=>0
 | some b=>7+(b.length:Int)
def SizeOk (r:Option (List UInt8)) (w:World) (e:Ending) (w':World):Prop:=e=.returned (.int .i64 (szOf r))∧Below w.heap.size w w'
theorem yK {A:Option Addr} {n c:Nat} {l:List UInt8} {w:World} {B:Nat} {t:TypeId} (hL:av w B t A (af l)) (hn:n=l.length) (hc:n≤c) (hs:n≤1000000000) :
  Calls prog 137 #[.slice A n c] w (SizeOk (Fr.kN l) w):=by
 have HL:=hid (hL.old (t':=0))
 have HN:=hid hn
 clear hL hn
 by_cases h3:n<3
 ·have e:Fr.kN l=none:=Fr.mG (by have:=HN.out;omega)
  rw [e]
  go_enter func137,ntmps137
  go_wp2
  go_ret
  exact⟨rfl,Below.refl _ _⟩
 ·obtain⟨x,y,hx,hy,hm,hm2⟩:=Fr.two (l:=l) (by have:=HN.out;omega)
  obtain⟨z,hz⟩:∃ z,l[0]?=some z:=⟨_,List.getElem?_eq_getElem (by have:=HN.out;omega)⟩
  obtain⟨ad,rfl,cx⟩:=HL.out.mP hx
  obtain⟨El,e',cy⟩:=HL.out.mP hy
  injection e' with e'
  subst e'
  obtain⟨El,e',cz⟩:=HL.out.mP hz
  injection e' with e'
  subst e'
  have cx':w.cell? ⟨ad.block,ad.off+1,none⟩=some (.int .u8 (x.toNat:Int)):=cx
  have cy':w.cell? ⟨ad.block,ad.off+2,none⟩=some (.int .u8 (y.toNat:Int)):=cy
  have cz':w.cell? ad=some (.int .u8 (z.toNat:Int)):=cz
  have n0:(0:Int)<n:=by omega
  have n1:(1:Int)<n:=by omega
  have n2:(2:Int)<n:=by omega
  clear hx hy cx cy cz
  have hm0:bits .or .i64 (wrap64 (wrap64 (x.toNat:Int) * 256)) (wrap64 (y.toNat:Int))=(Fr.long l:Int):=by
   have h1:=x.toNat_lt
   have h2:=y.toNat_lt
   rw [IntWalk.wrap64_in (x.toNat:Int) (by omega),IntWalk.wrap64_in (y.toNat:Int) (by omega),IntWalk.wrap64_in ((x.toNat:Int) * 256) (by omega),or_two]
   exact hm
  clear hm
  by_cases hz165:z=165
  ·subst hz165
   have zz:(((165:UInt8).toNat:Int) != 165)=false:=by decide
   obtain⟨m,em⟩:∃ m,m=Fr.long l:=⟨_,rfl⟩
   rw [← em] at hm0 hm2
   by_cases good:m≤60000∧7+m≤n
   ·obtain⟨g1,g2⟩:=good
    have eu:=Fr.unf_sum hz (by rw [← em,← HN.out];exact g2) (by rw [← em];exact g1)
    rw [← em] at eu
    have CP:(Fr.body l).length=m:=by
     unfold Fr.body
     rw [← em,List.length_take,List.length_drop,← HN.out]
     omega
    obtain⟨bd,ebd⟩:∃ bd,bd=Fr.body l:=⟨_,rfl⟩
    rw [← ebd] at eu CP
    obtain⟨tl,etl⟩:∃ tl,tl=(l.drop (3+m)).take 4:=⟨_,rfl⟩
    obtain⟨inn,einn⟩:∃ inn,inn=(l.drop 1).take (2+m):=⟨_,rfl⟩
    rw [← etl,← einn] at eu
    have ltl:tl.length=4:=by rw [etl,List.length_take,List.length_drop,← HN.out];omega
    have linn:inn.length=2+m:=by rw [einn,List.length_take,List.length_drop,← HN.out];omega
    have hT:av w w.heap.size 0 (some (ad.add (3+m))) (af tl):=by
     have q:=((HL.out.cut (3+m) c (by rw [aT,← HN.out];exact hc)).take 4)
     rw [if_neg (by omega),dI,d9,← etl] at q
     exact q
    have hI:av w w.heap.size 0 (some ⟨ad.block,ad.off+1,none⟩) (af inn):=by
     have q:=((HL.out.cut 1 c (by rw [aT,← HN.out];exact hc)).take (2+m))
     rw [if_neg (by omega),dI,d9,← einn] at q
     exact q
    have HT:=hid hT
    have HI:=hid hI
    have LT:=hid ltl
    have LI:=hid linn
    have LB:=hid CP
    have EU:=hid eu
    clear hT hI ltl linn CP eu ebd etl einn em hz
    have c1:¬ c=1:=by omega
    have c3:¬ c=3+m:=by omega
    have t3:(3+(m:Int)).toNat=3+m:=by omega
    have t7:(3+(m:Int)+4).toNat=7+m:=by omega
    have t4:7+m - (3+m)=4:=by omega
    have t2:3+m - 1=2+m:=by omega
    have s7:IntKind.i64.wrap (3+(m:Int)+4)=3+(m:Int)+4:=IntWalk.i64_in _ (by omega)
    have b1:0≤3+(m:Int):=by omega
    have b2:3+(m:Int)≤(c:Int):=by omega
    have b3:0≤3+(m:Int)+4:=by omega
    have b4:3+(m:Int)+4≤(c:Int):=by omega
    have b5:(1:Int)≤3+(m:Int):=by omega
    have b6:3+(m:Int)≤3+(m:Int)+4:=by omega
    cases hf:(tl==Cd.fix (Crc.sum inn) 4)
    ·have er:Fr.kN l=none:=by rw [EU.out,if_neg (by simpa using hf)]
     rw [er]
     have HF:=hid hf
     clear er hf
     go_enter func137,ntmps137
     go_wp2_with fail
     go_region
     clear n0 n1 n2 cx' cy' cz'
     go_wp2_with fail
     go_region_held3 (fun _=>True) (trivial) (first | (go_at_call 59;(refine (xL (B:=w.heap.size) (t:=0) HI.out.drew.drew LI.out.symm (by omega)).mono ?_);rintro e w4 ⟨A4,n4,c4,rfl,Bd,hb4⟩;have O4:=hid (show w4.ownsRow w.heap.size 5 1 (.slice A4 n4 c4) 4 (af (Cd.fix (Crc.sum inn) 4)) from Bd);have HB4:=hid (show Below w.heap.size w w4 from⟨hb4.os,hb4.tape,hb4.output,hb4.size,hb4.block⟩);obtain rfl:n4=4:=(aA O4.out).1;clear Bd hb4) | (go_at_call 146;(refine (yI (l:=tl) (m:=Cd.fix (Crc.sum inn) 4) (B:=w.heap.size) (t:=0) (B2:=0) (t2:=5) (HT.out.below (Nat.le_refl _) HB4.out) (aD O4.out) LT.out.symm rfl).mono ?_);rw [HF.out];rintro e w5 ⟨rfl,rfl⟩))
     go_wp2
     go_ret
     exact⟨rfl,HB4.out⟩
    ·have er:Fr.kN l=some bd:=by rw [EU.out,if_pos (by simpa using hf)]
     rw [er]
     have HF:=hid hf
     clear er hf
     go_enter func137,ntmps137
     go_wp2_with fail
     go_region
     clear n0 n1 n2 cx' cy' cz'
     go_wp2_with fail
     go_region_held3 (fun _=>True) (trivial) (first | (go_at_call 59;(refine (xL (B:=w.heap.size) (t:=0) HI.out.drew.drew LI.out.symm (by omega)).mono ?_);rintro e w4 ⟨A4,n4,c4,rfl,Bd,hb4⟩;have O4:=hid (show w4.ownsRow w.heap.size 5 1 (.slice A4 n4 c4) 4 (af (Cd.fix (Crc.sum inn) 4)) from Bd);have HB4:=hid (show Below w.heap.size w w4 from⟨hb4.os,hb4.tape,hb4.output,hb4.size,hb4.block⟩);obtain rfl:n4=4:=(aA O4.out).1;clear Bd hb4) | (go_at_call 146;(refine (yI (l:=tl) (m:=Cd.fix (Crc.sum inn) 4) (B:=w.heap.size) (t:=0) (B2:=0) (t2:=5) (HT.out.below (Nat.le_refl _) HB4.out) (aD O4.out) LT.out.symm rfl).mono ?_);rw [HF.out];rintro e w5 ⟨rfl,rfl⟩))
     go_wp2
     go_ret
     exact⟨az (by show _=7+(bd.length:Int);rw [LB.out];omega),HB4.out⟩
   ·have e:Fr.kN l=none:=by
     by_cases q:m≤60000
     ·exact Fr.mG (by rw [← em,← HN.out];exact fun p=>good ⟨q,p⟩)
     ·exact Fr.rz (by rw [← em];exact q)
    rw [e]
    clear e em hz
    by_cases q:m≤60000
    all_goals
     have q':¬ (7+m≤n∧m≤60000):=fun p=>good ⟨p.2,p.1⟩
     clear good
     go_enter func137,ntmps137
     go_wp2_with fail
     go_region
     clear n1 n2 cx' cy' cz'
     go_wp2
     go_ret
     exact⟨rfl,(Below.refl _ _).drew⟩
  ·have e:Fr.kN l=none:=by
    rcases l with _ | ⟨a,t⟩
    ·simp at hz
    ·simp at hz
     subst hz
     exact Fr.ry hz165
   rw [e]
   have zz:((z.toNat:Int) != 165)=true:=by
    have q:z.toNat≠165:=fun q=>hz165 (UInt8.toNat_inj.1 q)
    simp;omega
   clear e hz n1 n2 cx' cy' hm0
   go_enter func137,ntmps137
   go_wp2
   go_ret
   exact⟨rfl,Below.refl _ _⟩
theorem Fr.Ea {l b:List UInt8} (h:Fr.kN l=some b):(l.drop 3).take b.length=b:=by
 obtain⟨h1,h2,_⟩:=Fr.g_ h
 have q:=Fr.xy h2 (l.drop (7+b.length))
 unfold Fr.body at q
 rw [Fr.pJ h2,← h1] at q
 exact q
def OfRow (r:Option (List UInt8)) (w:World) (e:Ending) (w':World):Prop :=
 ∃ (A:Option Addr) (n c:Nat) (k er:Int),e=.returned (.tuple #[.slice A n c,.int .i64 k,.int .i64 er])∧Below w.heap.size w w' ∧
  (∀ b,r=some b→n=b.length∧w'.ownsRow w.heap.size 5 1 (.slice A n c) n (af b)∧k=7+(b.length:Int)∧er=0)∧(r=none→A=none∧n=0∧c=0∧k=0∧er=40)
theorem xJ {A:Option Addr} {n c:Nat} {l:List UInt8} {w:World} {B:Nat} {t:TypeId} (hL:av w B t A (af l)) (hn:n=l.length) (hc:n≤c) (hs:n≤1000000000) :
  Calls prog 115 #[.slice A n c] w (OfRow (Fr.kN l) w):=by
 have HL:=hid (hL.old (t':=0))
 have HN:=hid hn
 clear hL hn
 cases hu:Fr.kN l with
 | none =>
  have HU:=hid hu
  clear hu
  go_enter func115,ntmps115
  go_wp2_with fail
  refine (yK HL.out HN.out hc hs).mono ?_
  rw [HU.out]
  rintro e w1 ⟨rfl,hb1⟩
  have HB1:=hid hb1
  clear hb1
  rw [show szOf none=0 from rfl]
  go_wp2
  refine bodyPost_ret (v:=.tuple #[.slice none 0 0,.int .i64 0,.int .i64 40]) (by simp [results,results115,go_sem]) rfl ?_
  exact⟨none,0,0,0,40,rfl,HB1.out,by simp,fun _=>⟨rfl,rfl,rfl,rfl,rfl⟩⟩
 | some b =>
  have hlen:=Fr.g_ hu
  have l2:=hlen.2.1
  have l3:=hlen.2.2
  rw [← HN.out] at l3
  obtain⟨m,em⟩:∃ m,m=b.length:=⟨_,rfl⟩
  obtain⟨z,hz⟩:∃ z,l[0]?=some z:=⟨_,List.getElem?_eq_getElem (by have:=HN.out;omega)⟩
  obtain⟨ad,rfl,_⟩:=HL.out.mP hz
  have hB:av w w.heap.size 0 (some ⟨ad.block,ad.off+3,none⟩) (af b):=by
   have q:=((HL.out.cut 3 c (by rw [aT,← HN.out];exact hc)).take m)
   rw [if_neg (by omega),dI,d9,em,Fr.Ea hu] at q
   exact q
  have esz:szOf (some b)=7+(m:Int):=by rw [em];rfl
  rw [← em] at l2 l3
  have HB:=hid hB
  have HU:=hid hu
  have EM:=hid em
  have ESZ:=hid esz
  clear hB hu em hz esz hlen
  have c3:¬ c=3:=by omega
  have t3:(7+(m:Int) - 4).toNat - 3=m:=by omega
  have b1:0≤7+(m:Int) - 4:=by omega
  have b2:7+(m:Int) - 4≤(c:Int):=by omega
  have b3:(3:Int)≤7+(m:Int) - 4:=by omega
  have b4:(7+(m:Int)==0)=false:=by simp;omega
  go_enter func115,ntmps115
  go_wp2_with fail
  refine (yK HL.out HN.out hc hs).mono ?_
  rw [HU.out]
  rintro e w1 ⟨rfl,hb1⟩
  have HB1:=hid hb1
  rw [show szOf (some b)=7+(m:Int) from ESZ.out]
  clear hb1
  go_wp2_with fail
  refine (Cc (HB.out.below (Nat.le_refl _) HB1.out) EM.out (by omega)).mono ?_
  rintro e w2 ⟨A2,n2,c2,rfl,ho2,hb2⟩
  obtain⟨hn2,hc2⟩:=aA ho2
  rw [← EM.out] at hn2
  subst hn2
  rw [← EM.out] at ho2
  have oH:=hid (gp ho2 HB1.out.size)
  have HB2:=hid (HB1.out.trans (hb2.mono HB1.out.size))
  clear hc2 ho2 hb2
  go_wp2
  refine bodyPost_ret (v:=.tuple #[.slice A2 n2 c2,.int .i64 (7+(n2:Int)),.int .i64 0]) (by simp [results,results115,go_sem]) rfl ?_
  exact⟨A2,n2,c2,_,0,rfl,HB2.out,fun d hd=>by injection hd with hd;subst hd;exact⟨EM.out,oH.out,by rw [EM.out],rfl⟩,by simp⟩
theorem fonly_c {A:Option Addr} {n c:Nat} {l:List UInt8} {w:World} {B:Nat} {t:TypeId} (hL:av w B t A (af l)) (hn:n=l.length) (hc:n≤c) (hs:n≤1000000000) :
  Calls prog 86 #[.slice A n c] w (gQ w.heap.size (Fr.fC l) (Fr.l9 l) w):=by
 have HL:=hid (hL.old (t':=0))
 have HN:=hid hn
 clear hL hn
 cases hu:Fr.kN l with
 | none =>
  obtain⟨e1,e2⟩:=Fr.Al hu
  rw [e1,e2]
  have HU:=hid hu
  clear hu e1 e2
  go_enter func86,ntmps86
  go_wp2_with fail
  refine (xJ HL.out HN.out hc hs).mono ?_
  rw [HU.out]
  rintro e w1 ⟨A1,n1,c1,k,er,rfl,hb1,_,hbad⟩
  obtain⟨rfl,rfl,rfl,rfl,rfl⟩:=hbad rfl
  have HB1:=hid hb1
  clear hb1 hbad
  go_wp2
  go_ret2
  exact gQ.bad HB1.out
 | some b =>
  have HU:=hid hu
  by_cases hl:7+b.length=l.length
  ·obtain⟨e1,e2⟩:=Fr.Am hu hl
   rw [e1,e2]
   obtain⟨m,em⟩:∃ m,m=b.length:=⟨_,rfl⟩
   have EM:=hid em
   have hne:(7+(m:Int) != n)=false:=by have:=HN.out;simp;omega
   have hnm:7+m≤1000000000:=by have:=HN.out;omega
   clear hu e1 e2 hl em
   go_enter func86,ntmps86
   go_wp2_with fail
   refine (xJ HL.out HN.out hc hs).mono ?_
   rw [HU.out]
   rintro e w1 ⟨A1,n1,c1,k,er,rfl,hb1,hgood,_⟩
   obtain⟨hn1,ho1,hk,rfl⟩:=hgood b rfl
   rw [← EM.out] at hn1 hk
   subst hn1;subst hk
   have HB1:=hid hb1
   have HO1:=hid ho1
   clear hb1 hgood ho1
   go_wp2
   go_ret2
   exact⟨A1,_,c1,rfl,EM.out,(aA HO1.out).2,HO1.out,HB1.out⟩
  ·obtain⟨e1,e2⟩:=Fr.Ak hu hl
   rw [e1,e2]
   obtain⟨m,em⟩:∃ m,m=b.length:=⟨_,rfl⟩
   have EM:=hid em
   have hne:(7+(m:Int) != n)=true:=by have:=HN.out;simp;omega
   have hnm:7+m≤1000000000:=by have:=HN.out;have:=(Fr.g_ hu).2.2;omega
   clear hu e1 e2 hl em
   go_enter func86,ntmps86
   go_wp2_with fail
   refine (xJ HL.out HN.out hc hs).mono ?_
   rw [HU.out]
   rintro e w1 ⟨A1,n1,c1,k,er,rfl,hb1,hgood,_⟩
   obtain⟨hn1,ho1,hk,rfl⟩:=hgood b rfl
   rw [← EM.out] at hn1 hk
   subst hn1;subst hk
   have HB1:=hid hb1
   clear hb1 hgood ho1
   go_wp2
   go_ret2
   exact gQ.bad HB1.out
end
end Go.Proofs.YtmcfknnfaokmlaaGreat
