/- The law WireReads: the row. Every input,no condition. -/
import Derived.Test.YtmcfknnfaokmlaaGreatZ20
import Derived.Test.YtmcfknnfaokmlaaGreatZ18
import Derived.Test.YtmcfknnfaokmlaaGreatZ16
import Derived.Test.YtmcfknnfaokmlaaGreatZ24
import Derived.Test.YtmcfknnfaokmlaaGreatZ41
import Derived.Test.YtmcfknnfaokmlaaGreatZ35
import Derived.Test.YtmcfknnfaokmlaaGreatZ42
import Derived.Test.YtmcfknnfaokmlaaGreatZ37
import Derived.Test.YtmcfknnfaokmlaaGreatZ44
import Derived.Test.YtmcfknnfaokmlaaGreatZ39
import Derived.Test.YtmcfknnfaokmlaaGreatZ27
import Derived.Test.YtmcfknnfaokmlaaGreatZ43
import Derived.Test.YtmcfknnfaokmlaaGreatZ45
import Derived.Test.YtmcfknnfaokmlaaGreatZ46
import Derived.Test.YtmcfknnfaokmlaaGreatZ4
import Derived.Test.YtmcfknnfaokmlaaGreatZ22
import Derived.Test.YtmcfknnfaokmlaaGreatZ36
import Derived.Recover
import Derived.Laws.Pointers
import Derived.ProofKit
namespace Go.Proofs.YtmcfknnfaokmlaaGreat
set_option maxHeartbeats 16000000
open Go.Lib Go.Proofs.Tryz
set_option linter.unusedSimpArgs false
set_option maxRecDepth 100000
section
section
open Go.RowKit
theorem dP {B p:Nat} {tb:TypeId} {w:World} {s:Option (List UInt8)} (h:RS 84 B tb w p s) :
  Calls prog 95 #[.pointer (some ⟨p,0,none⟩)] w fun e w'=>e=.returned (.tuple #[])∧RS 84 B tb w' p none∧aG B [84] w w':=by
 have hB:=h.1
 obtain⟨A,n,c,b,hp⟩:∃ A n c b,w.heap[p]?=some (.cells #[.slice A n c,.bool b] 84 (0,0)):=by
  cases s with
  | none=>exact⟨_,_,_,_,h.2⟩
  | some l =>
   obtain⟨_,A,c,_,hp,_⟩:=h
   exact⟨_,_,_,_,hp⟩
 have c1:=dS hp
 have c2:=gm hp
 have f1:=aa hp 0
 have f2:=aa hp 1
 have hp2:=ae hp 1 (.bool true)
 have hp3:=ae hp2 0 (.slice none 0 0)
 have HT:=hid (((aG.refl B [84] w).setCell (p:=⟨p,1,none⟩) hp (by simp) hB (.bool true)).setCell (p:=⟨p,0,none⟩) hp2 (by simp) hB (.slice none 0 0))
 have H3:=hid hp3
 clear hp2 hp3 h hp
 go_enter func95,ntmps95
 go_wp2
 go_end0
 exact⟨rfl,⟨hB,by simpa using H3.out⟩,HT.out⟩
theorem tX (x:Nat) (b:UInt8):IntKind.u64.wrap (IntKind.u64.wrap ((x:Int) * 256)+IntKind.u64.wrap (b.toNat:Int))=(((x * 256+b.toNat) % 18446744073709551616:Nat):Int):=by
 have hb:b.toNat<256:=b.toNat_lt
 simp only [Fl.wrap_u64];omega
theorem iX {B p:Nat} {t tb:TypeId} {w:World} {l:List UInt8} {n c0 c1:Nat} {A A1:Option Addr} {b:Bool} (hB:B≤p) (ht:tb≠t) (hp:w.heap[p]?=some (.cells #[.slice A l.length c0,.bool b] t (0,0))) (hb:b=false) (hn:n≤l.length) (hc1:l.length - n≤c1)
  (hL1:av w B tb A1 (af (l.drop n))):RS t B tb (w.setCell ⟨p,0,none⟩ (.slice A1 (l.length - n) c1)) p (Cd.eZ n (some l)).2∧aG B [t] w (w.setCell ⟨p,0,none⟩ (.slice A1 (l.length - n) c1)):=by
 subst hb
 have e2:(Cd.eZ n (some l)).2=some (l.drop n):=by simp [Cd.eZ,hn]
 have T:=(aG.refl B [t] w).setCell (p:=⟨p,0,none⟩) hp (by simp) hB (.slice A1 (l.length - n) c1)
 have ht':tb ∉ [t]:=by simpa using ht
 rw [e2]
 exact⟨⟨hB,A1,c1,by rw [List.length_drop];omega,by rw [List.length_drop];exact ae hp 0 _,hL1.cZ T ht'⟩,T⟩
theorem Dk {B p:Nat} {tb:TypeId} {w:World} {s:Option (List UInt8)} {z:Int} {n:Nat} (hz:z=(n:Int)) (h1:1≤n) (h:RS 84 B tb w p s) (ht:tb≠84) (hl:∀ l,s=some l→l.length≤1099511627776) :
  Calls prog 94 #[.pointer (some ⟨p,0,none⟩),.int .i64 z] w fun e w'=>e=.returned (.int .u64 ((Cd.eZ n s).1:Int))∧RS 84 B tb w' p (Cd.eZ n s).2∧aG B [84] w w':=by
 subst hz
 cases s with
 | none =>
  have c1:=dS h.2
  have HR:=hid h
  clear h
  go_enter func94,ntmps94
  go_wp2_with (go_at_call 95;refine (dP HR.out).mono ?_;rintro e w' ⟨rfl,hr,ht⟩;have HR2:=hid hr;have HT:=hid ht;clear hr ht)
  go_ret
  exact⟨rfl,HR2.out,HT.out⟩
 | some l =>
  have ll:=hl l rfl
  clear hl
  have hB:=h.1
  have HR:=hid h
  obtain⟨_,A,c,hc,hp,hL⟩:=h
  have c1:=dS hp
  have f1:=aa hp 0
  have HP:=hid hp
  have HL:=hid hL
  clear hp hL
  by_cases hn:n≤l.length
  ·have ev:(Cd.eZ n (some l)).1=Cd.val (l.take n):=by simp [Cd.eZ,hn]
   have EV:=hid ev
   clear ev
   go_enter func94,ntmps94
   go_wp2_with fail
   go_loop [5,24] (fun v i=>∃ k:Nat,k≤n∧i=.int .i64 k∧v=.int .u64 (Cd.val (l.take k):Int)) (fun _ i=>n - (intOf i).toNat)
   case atStart=>exact⟨0,by omega,rfl,by simp [Cd.uG]⟩
   case round =>
    obtain⟨k,hk,rfl,rfl⟩:=hrel
    by_cases hlt:k<n
    ·obtain⟨ad,rfl,d0⟩:=HL.out.byte (k:=k) (by omega)
     have HN:=hid (ko (List.getElem?_eq_getElem (show k<l.length by omega)))
     go_wp2
     go_round
     case rel=>exact⟨k+1,by omega,by go_num,by rw [HN.out,Cd.wQ,tX]⟩
     case measure=>simp [intOf];omega
    ·obtain rfl:k=n:=by omega
     go_wp2
     all_goals go_ret
     ·have hcn:c=k:=by assumption
      have hd:l.drop k=[]:=List.drop_eq_nil_of_le (by omega)
      have q:=iX (n:=k) (c1:=0) (A1:=A) hB ht HP.out rfl hn (by omega) (by rw [hd];exact av.nil)
      exact⟨gM (by rw [EV.out]),q.1,q.2⟩
     ·have hcn:¬ c=k:=by assumption
      have q0:=HL.out.cut k c (by rw [aT];omega)
      rw [if_neg hcn,dI] at q0
      have q:=iX (n:=k) (c1:=c - k) hB ht HP.out rfl hn (by omega) q0
      exact⟨gM (by rw [EV.out]),q.1,q.2⟩
  ·have e:Cd.eZ n (some l)=(0,none):=by simp [Cd.eZ,hn]
   rw [e]
   clear e
   go_enter func94,ntmps94
   go_wp2_with (go_at_call 95;refine (dP HR.out).mono ?_;rintro e w' ⟨rfl,hr,ht⟩;have HR2:=hid hr;have HT:=hid ht;clear hr ht)
   go_ret
   exact⟨rfl,HR2.out,HT.out⟩
theorem bn {B p:Nat} {tb:TypeId} {w:World} {s s':Option (List UInt8)} {z:Int} {n x:Nat} (he:Cd.eZ n s=(x,s')) (hz:z=(n:Int)) (h1:1≤n) (h:RS 84 B tb w p s) (ht:tb≠84) (hl:∀ l,s=some l→l.length≤1099511627776) :
  Calls prog 94 #[.pointer (some ⟨p,0,none⟩),.int .i64 z] w fun e w'=>e=.returned (.int .u64 (x:Int))∧RS 84 B tb w' p s'∧aG B [84] w w':=by
 have q:=Dk (z:=z) (n:=n) hz h1 h ht hl
 rw [he] at q
 exact q
theorem bC {t tb:TypeId} {B p:Nat} {w:World} {s:Option (List UInt8)} (h:RS t B tb w p s):w.cell? ⟨p,1,none⟩=some (.bool s.isNone):=by
 cases s with
 | none=>exact gm h.2
 | some l =>
  obtain⟨_,A,c,_,hp,_⟩:=h
  exact gm hp
theorem lst_of {t tb:TypeId} {B p:Nat} {w:World} {s:Option (List UInt8)} (h:RS t B tb w p s):∃ A c,leftOf s≤c∧w.cell? ⟨p,0,none⟩=some (.slice A (leftOf s) c):=by
 cases s with
 | none=>exact⟨none,0,Nat.le_refl _,dS h.2⟩
 | some l =>
  obtain⟨_,A,c,hc,hp,_⟩:=h
  exact⟨A,c,hc,dS hp⟩
theorem eB {B p:Nat} {tb:TypeId} {w:World} {s:Option (List UInt8)} {mz:Int} (h:RS 84 B tb w p s) (ht:tb≠84) (hl:∀ l,s=some l→l.length≤1099511627776) (m0:0≤mz) :
  Calls prog 46 #[.pointer (some ⟨p,0,none⟩),.int .u64 mz] w fun e w'=>e=.returned (.int .u64 ((Cd.aS mz.toNat s).1:Int))∧RS 84 B tb w' p (Cd.aS mz.toNat s).2∧aG B [84] w w':=by
 have HS:=hid h
 have HX:=hid hl
 clear h hl
 have start:∀ (e0:Cd.eZ 1 s=(0,none)) (e1:Cd.aS mz.toNat s=(0,none)),
   Calls prog 46 #[.pointer (some ⟨p,0,none⟩),.int .u64 mz] w fun e w'=>e=.returned (.int .u64 ((Cd.aS mz.toNat s).1:Int))∧RS 84 B tb w' p (Cd.aS mz.toNat s).2∧aG B [84] w w':=by
  intro e0 e1
  rw [e1]
  have E0:=hid e0
  clear e0 e1
  go_enter func46,ntmps46
  go_wp2_with fail
  refine (bn E0.out rfl (by omega) HS.out ht HX.out).mono ?_
  rintro e w' ⟨rfl,hr,hT⟩
  have HR:=hid hr
  have HT:=hid hT
  have bd:=bC hr
  clear hr hT
  go_wp2
  go_ret
  exact⟨rfl,HR.out,HT.out⟩
 match s,HS,HX,start with
 | none,HS,HX,start=>exact start rfl rfl
 | some [],HS,HX,start=>exact start (by simp [Cd.eZ]) rfl
 | some (b :: t),HS,HX,start =>
  clear start
  have hb:b.toNat<256:=b.toNat_lt
  have tl:∀ l,some t=some l→l.length≤1099511627776:=by
   intro l e
   injection e with e
   subst e
   have:=HX.out _ rfl
   simp at this
   omega
  have TL:=hid tl
  have E0:=hid (qc b t)
  clear tl
  by_cases h1:b.toNat<128
  ·by_cases h2:(b.toNat:Int)≤mz
   ·have e1:Cd.aS mz.toNat (some (b :: t))=(b.toNat,some t):=by simp only [Cd.aS];rw [if_pos h1,if_pos (by omega)]
    rw [e1]
    clear e1
    go_enter func46,ntmps46
    go_wp2_with fail
    refine (bn E0.out rfl (by omega) HS.out ht HX.out).mono ?_
    rintro e w' ⟨rfl,hr,hT⟩
    have HR:=hid hr
    have HT:=hid hT
    have bd:=bC hr
    clear hr hT
    go_wp2
    go_ret
    exact⟨rfl,HR.out,HT.out⟩
   ·have e1:Cd.aS mz.toNat (some (b :: t))=(0,none):=by simp only [Cd.aS];rw [if_pos h1,if_neg (by omega)]
    rw [e1]
    clear e1
    go_enter func46,ntmps46
    go_wp2_with fail
    refine (bn E0.out rfl (by omega) HS.out ht HX.out).mono ?_
    rintro e w' ⟨rfl,hr,hT⟩
    have HR:=hid hr
    have HT:=hid hT
    have bd:=bC hr
    clear hr hT
    go_wp2_with fail
    refine (dP HR.out).mono ?_
    rintro e w' ⟨rfl,hr,hT⟩
    have HR2:=hid hr
    have HT2:=hid (HT.out.trans hT)
    have bdHR2:=bC hr
    clear hr hT
    go_wp2
    go_ret
    exact⟨rfl,HR2.out,HT2.out⟩
  ·obtain⟨v,s2,hv⟩:∃ v s2,Cd.eZ (b.toNat - 128) (some t)=(v,s2):=⟨_,_,rfl⟩
   have Bl:v<18446744073709551616:=by have:=Cd.qd (b.toNat - 128) (some t);rw [hv] at this;exact this
   have e1:Cd.aS mz.toNat (some (b :: t))=if s2.isSome=true∧128≤v∧Cd.wid v=b.toNat - 128∧v≤mz.toNat then (v,s2) else (0,none):=by
    simp only [Cd.aS]
    rw [if_neg h1]
    simp only [Cd.eZ] at hv
    by_cases hk:b.toNat - 128≤t.length
    ·rw [if_pos hk,Prod.mk.injEq] at hv
     obtain⟨rfl,rfl⟩:=hv
     simp [hk]
    ·rw [if_neg hk,Prod.mk.injEq] at hv
     obtain⟨rfl,rfl⟩:=hv
     simp [hk]
   have s0:s2=none→v=0:=fun q=>by have:=Cd.vW (k:=b.toNat - 128) (s:=some t) (by rw [hv];exact q);rw [hv] at this;exact this
   have wp:=Cd.dZ v
   have HV:=hid hv
   have S0:=hid s0
   clear hv s0
   by_cases hk:b.toNat - 128<1∨8<b.toNat - 128
   ·rw [if_neg (by
     rintro⟨_,q1,q2,_⟩
     rcases hk with hk | hk
     ·have:=wp.1;omega
     ·have:=wp.2;omega)] at e1
    have HK:b.toNat=128∨136<b.toNat:=by omega
    clear Bl wp hk
    rcases HK with HK | HK
    ·have n1:(b.toNat:Int)=128:=by omega
     have N1:=hid HK
     clear HK
     rw [e1]
     clear e1
     go_enter func46,ntmps46
     go_wp2_with fail
     refine (bn E0.out rfl (by omega) HS.out ht HX.out).mono ?_
     rintro e w' ⟨rfl,hr,hT⟩
     have HR:=hid hr
     have HT:=hid hT
     have bd:=bC hr
     clear hr hT
     rw [n1]
     go_wp2_with fail
     refine (dP HR.out).mono ?_
     rintro e w' ⟨rfl,hr,hT⟩
     have HR2:=hid hr
     have HT2:=hid (HT.out.trans hT)
     have bdHR2:=bC hr
     clear hr hT
     go_wp2
     go_ret
     exact⟨rfl,HR2.out,HT2.out⟩
    ·rw [e1]
     clear e1
     go_enter func46,ntmps46
     go_wp2_with fail
     refine (bn E0.out rfl (by omega) HS.out ht HX.out).mono ?_
     rintro e w' ⟨rfl,hr,hT⟩
     have HR:=hid hr
     have HT:=hid hT
     have bd:=bC hr
     clear hr hT
     go_wp2_with fail
     refine (dP HR.out).mono ?_
     rintro e w' ⟨rfl,hr,hT⟩
     have HR2:=hid hr
     have HT2:=hid (HT.out.trans hT)
     have bdHR2:=bC hr
     clear hr hT
     go_wp2
     go_ret
     exact⟨rfl,HR2.out,HT2.out⟩
   ·by_cases h3:v<128
    ·rw [if_neg (by omega)] at e1
     have N1:=hid Bl
     clear Bl
     by_cases h2:(v:Int)≤mz
     ·rw [e1]
      clear e1
      go_enter func46,ntmps46
      go_wp2_with fail
      refine (bn E0.out rfl (by omega) HS.out ht HX.out).mono ?_
      rintro e w' ⟨rfl,hr,hT⟩
      have HR:=hid hr
      have HT:=hid hT
      have bd:=bC hr
      clear hr hT
      go_wp2_with fail
      refine (bn HV.out (by omega) (by omega) HR.out ht TL.out).mono ?_
      rintro e w' ⟨rfl,hr,hT⟩
      have HR2:=hid hr
      have HT2:=hid (HT.out.trans hT)
      have bd2:=bC hr
      clear hr hT
      go_wp2_with fail
      refine (dP HR2.out).mono ?_
      rintro e w' ⟨rfl,hr,hT⟩
      have HR3:=hid hr
      have HT3:=hid (HT2.out.trans hT)
      have yF:=bC hr
      clear hr hT
      go_wp2
      go_ret
      exact⟨rfl,HR3.out,HT3.out⟩
     ·rw [e1]
      clear e1
      go_enter func46,ntmps46
      go_wp2_with fail
      refine (bn E0.out rfl (by omega) HS.out ht HX.out).mono ?_
      rintro e w' ⟨rfl,hr,hT⟩
      have HR:=hid hr
      have HT:=hid hT
      have bd:=bC hr
      clear hr hT
      go_wp2_with fail
      refine (bn HV.out (by omega) (by omega) HR.out ht TL.out).mono ?_
      rintro e w' ⟨rfl,hr,hT⟩
      have HR2:=hid hr
      have HT2:=hid (HT.out.trans hT)
      have bd2:=bC hr
      clear hr hT
      go_wp2_with fail
      refine (dP HR2.out).mono ?_
      rintro e w' ⟨rfl,hr,hT⟩
      have HR3:=hid hr
      have HT3:=hid (HT2.out.trans hT)
      have yF:=bC hr
      clear hr hT
      go_wp2_with fail
      refine (dP HR3.out).mono ?_
      rintro e w' ⟨rfl,hr,hT⟩
      have HR4:=hid hr
      have HT4:=hid (HT3.out.trans hT)
      have bdHR4:=bC hr
      clear hr hT
      go_wp2
      go_ret
      exact⟨rfl,HR4.out,HT4.out⟩
    ·by_cases h4:Cd.wid v=b.toNat - 128
     ·have n1:((Cd.wid v:Int)==((b.toNat:Int) - 128))=true:=by simp;omega
      have n2:((Cd.wid v:Int) != ((b.toNat:Int) - 128))=false:=by simp;omega
      have hs2:s2.isSome=true:=by
       cases s2 with
       | none=>have:=S0.out rfl;omega
       | some _=>rfl
      obtain⟨l2,rfl⟩:=Option.isSome_iff_exists.1 hs2
      by_cases h2:(v:Int)≤mz
      ·rw [if_pos ⟨rfl,by omega,h4,by omega⟩] at e1
       have N1:=hid Bl
       have N4:=hid h4
       clear Bl hs2 h4
       rw [e1]
       clear e1
       go_enter func46,ntmps46
       go_wp2_with fail
       refine (bn E0.out rfl (by omega) HS.out ht HX.out).mono ?_
       rintro e w' ⟨rfl,hr,hT⟩
       have HR:=hid hr
       have HT:=hid hT
       have bd:=bC hr
       clear hr hT
       go_wp2_with fail
       refine (bn HV.out (by omega) (by omega) HR.out ht TL.out).mono ?_
       rintro e w' ⟨rfl,hr,hT⟩
       have HR2:=hid hr
       have HT2:=hid (HT.out.trans hT)
       have bd2:=bC hr
       clear hr hT
       go_wp2_with (go_at_call 61;refine (nH _ _ (by omega)).mono ?_;rintro e w' ⟨rfl,rfl⟩)
       go_ret
       exact⟨rfl,HR2.out,HT2.out⟩
      ·rw [if_neg (by omega)] at e1
       have N1:=hid Bl
       have N4:=hid h4
       clear Bl hs2 h4
       rw [e1]
       clear e1
       go_enter func46,ntmps46
       go_wp2_with fail
       refine (bn E0.out rfl (by omega) HS.out ht HX.out).mono ?_
       rintro e w' ⟨rfl,hr,hT⟩
       have HR:=hid hr
       have HT:=hid hT
       have bd:=bC hr
       clear hr hT
       go_wp2_with fail
       refine (bn HV.out (by omega) (by omega) HR.out ht TL.out).mono ?_
       rintro e w' ⟨rfl,hr,hT⟩
       have HR2:=hid hr
       have HT2:=hid (HT.out.trans hT)
       have bd2:=bC hr
       clear hr hT
       go_wp2_with (go_at_call 61;refine (nH _ _ (by omega)).mono ?_;rintro e w' ⟨rfl,rfl⟩)
       refine (dP HR2.out).mono ?_
       rintro e w' ⟨rfl,hr,hT⟩
       have HR3:=hid hr
       have HT3:=hid (HT2.out.trans hT)
       have yF:=bC hr
       clear hr hT
       go_wp2
       go_ret
       exact⟨rfl,HR3.out,HT3.out⟩
     ·have n1:((Cd.wid v:Int)==((b.toNat:Int) - 128))=false:=by simp;omega
      have n2:((Cd.wid v:Int) != ((b.toNat:Int) - 128))=true:=by simp;omega
      rw [if_neg (by omega)] at e1
      have N1:=hid Bl
      clear Bl
      by_cases h2:(v:Int)≤mz
      ·rw [e1]
       clear e1
       go_enter func46,ntmps46
       go_wp2_with fail
       refine (bn E0.out rfl (by omega) HS.out ht HX.out).mono ?_
       rintro e w' ⟨rfl,hr,hT⟩
       have HR:=hid hr
       have HT:=hid hT
       have bd:=bC hr
       clear hr hT
       go_wp2_with fail
       refine (bn HV.out (by omega) (by omega) HR.out ht TL.out).mono ?_
       rintro e w' ⟨rfl,hr,hT⟩
       have HR2:=hid hr
       have HT2:=hid (HT.out.trans hT)
       have bd2:=bC hr
       clear hr hT
       go_wp2_with (go_at_call 61;refine (nH _ _ (by omega)).mono ?_;rintro e w' ⟨rfl,rfl⟩)
       refine (dP HR2.out).mono ?_
       rintro e w' ⟨rfl,hr,hT⟩
       have HR3:=hid hr
       have HT3:=hid (HT2.out.trans hT)
       have yF:=bC hr
       clear hr hT
       go_wp2
       go_ret
       exact⟨rfl,HR3.out,HT3.out⟩
      ·rw [e1]
       clear e1
       go_enter func46,ntmps46
       go_wp2_with fail
       refine (bn E0.out rfl (by omega) HS.out ht HX.out).mono ?_
       rintro e w' ⟨rfl,hr,hT⟩
       have HR:=hid hr
       have HT:=hid hT
       have bd:=bC hr
       clear hr hT
       go_wp2_with fail
       refine (bn HV.out (by omega) (by omega) HR.out ht TL.out).mono ?_
       rintro e w' ⟨rfl,hr,hT⟩
       have HR2:=hid hr
       have HT2:=hid (HT.out.trans hT)
       have bd2:=bC hr
       clear hr hT
       go_wp2_with (go_at_call 61;refine (nH _ _ (by omega)).mono ?_;rintro e w' ⟨rfl,rfl⟩)
       refine (dP HR2.out).mono ?_
       rintro e w' ⟨rfl,hr,hT⟩
       have HR3:=hid hr
       have HT3:=hid (HT2.out.trans hT)
       have yF:=bC hr
       clear hr hT
       go_wp2_with fail
       refine (dP HR3.out).mono ?_
       rintro e w' ⟨rfl,hr,hT⟩
       have HR4:=hid hr
       have HT4:=hid (HT3.out.trans hT)
       have bdHR4:=bC hr
       clear hr hT
       go_wp2
       go_ret
       exact⟨rfl,HR4.out,HT4.out⟩
end
section
open Go.RowKit
theorem Dz {B p:Nat} {tb:TypeId} {w:World} {s:Option (List UInt8)} (h:RS 84 B tb w p s) (ht:tb≠84) (hl:∀ l,s=some l→l.length≤1099511627776) :
  Calls prog 123 #[.pointer (some ⟨p,0,none⟩)] w fun e w'=>e=.returned (.float .f64 (Cd.jg s).1)∧RS 84 B tb w' p (Cd.jg s).2∧aG B [84] w w':=by
 obtain⟨x,s2,hx⟩:∃ x s2,Cd.eZ 8 s=(x,s2):=⟨_,_,rfl⟩
 have xl:x<18446744073709551616:=by have:=Cd.qd 8 s;rw [hx] at this;exact this
 have HX:=hid hx
 have XL:=hid xl
 have HS:=hid h
 have oq:=hid hl
 clear h hl xl
 cases s2 with
 | none =>
  have e1:Cd.jg s=(0,none):=by unfold Cd.jg;simp only [hx]
  rw [e1]
  clear e1 hx
  go_enter func123,ntmps123
  go_wp2_with fail
  refine (bn HX.out rfl (by omega) HS.out ht oq.out).mono ?_
  rintro e w' ⟨rfl,hr,hT⟩
  have HR:=hid hr
  have HT:=hid hT
  have bd:=bC hr
  clear hr hT
  go_wp2
  go_ret
  exact⟨rfl,HR.out,HT.out⟩
 | some t =>
  cases hf:Fl.fit (x:Int)
  ·have e1:Cd.jg s=(0,none):=by unfold Cd.jg;simp [hx,hf]
   rw [e1]
   clear e1 hx
   go_enter func123,ntmps123
   go_wp2_with fail
   refine (bn HX.out rfl (by omega) HS.out ht oq.out).mono ?_
   rintro e w' ⟨rfl,hr,hT⟩
   have HR:=hid hr
   have HT:=hid hT
   have bd:=bC hr
   clear hr hT
   go_wp2_with fail
   refine (ze _ _ (by omega) (by have:=XL.out;omega)).mono ?_
   rintro e w1 ⟨rfl,hb⟩
   have HR1:=hid (HR.out.below hb)
   have HT1:=hid (HT.out.trans (aG.of_below hb HR.out.size [84]))
   clear hb
   go_wp2_with (go_at_call 95;refine (dP HR1.out).mono ?_;rintro e w' ⟨rfl,hr3,ht3⟩;have HR3:=hid hr3;have HT3:=hid ht3;clear hr3 ht3)
   go_ret
   exact⟨rfl,HR3.out,HT1.out.trans HT3.out⟩
  ·have e1:Cd.jg s=(Fl.wd (x:Int),some t):=by unfold Cd.jg;simp [hx,hf]
   rw [e1]
   clear e1 hx
   go_enter func123,ntmps123
   go_wp2_with fail
   refine (bn HX.out rfl (by omega) HS.out ht oq.out).mono ?_
   rintro e w' ⟨rfl,hr,hT⟩
   have HR:=hid hr
   have HT:=hid hT
   have bd:=bC hr
   clear hr hT
   go_wp2_with fail
   refine (ze _ _ (by omega) (by have:=XL.out;omega)).mono ?_
   rintro e w1 ⟨rfl,hb⟩
   have HR1:=hid (HR.out.below hb)
   have HT1:=hid (HT.out.trans (aG.of_below hb HR.out.size [84]))
   clear hb
   go_wp2
   go_ret
   exact⟨rfl,HR1.out,HT1.out⟩
theorem p_ {B p:Nat} {tb:TypeId} {w:World} {s:Option (List UInt8)} {mz:Int} (h:RS 84 B tb w p s) (ht:tb≠84) (hl:∀ l,s=some l→l.length≤1099511627776) (m0:0≤mz) (m1:mz≤1099511627776) :
  Calls prog 48 #[.pointer (some ⟨p,0,none⟩),.int .i64 mz] w (RBOk 84 B tb p (Cd.bQ mz.toNat s).1 (Cd.bQ mz.toNat s).2 w):=by
 obtain⟨x,s2,hx⟩:∃ x s2,Cd.aS mz.toNat s=(x,s2):=⟨_,_,rfl⟩
 have xl:x≤1099511627776:=by have:=(Cd.b_ mz.toNat s).2;rw [hx] at this;simp only [] at this;omega
 have l2:∀ l,s2=some l→l.length≤1099511627776:=by
  intro l e
  subst e
  cases s with
  | none=>simp [Cd.aS] at hx
  | some l0 =>
   have q:=(Cd.iJ hx).1
   have:=hl l0 rfl
   rw [q,List.length_append] at this
   omega
 have e1:=DF mz.toNat s
 rw [hx] at e1
 rw [e1]
 have HX:=hid hx
 have HS:=hid h
 have oq:=hid hl
 have hB:=h.size
 clear h hl hx e1
 obtain⟨i0,hi,Bf,Bg,Bh⟩:=info_parts Tryz.infoU8
 have C:∀ w,RS 84 B tb w p s→Calls prog 46 #[.pointer (some ⟨p,0,none⟩),.int .u64 mz] w fun e w'=>e=.returned (.int .u64 (x:Int))∧RS 84 B tb w' p s2∧aG B [84] w w':=by
  intro w h
  have q:=eB (mz:=mz) h ht oq.out m0
  rw [HX.out] at q
  exact q
 have C:=hid C
 cases s2 with
 | none =>
  go_enter func48,ntmps48
  go_wp2_with fail
  refine (C.out _ HS.out).mono ?_
  rintro e w' ⟨rfl,hr,hT⟩
  have HR:=hid hr
  have HT:=hid hT
  have bd:=bC hr
  clear hr hT
  go_wp2_with (go_at_call 95;refine (dP HR.out).mono ?_;rintro e w' ⟨rfl,hr3,ht3⟩;have HR3:=hid hr3;have HT3:=hid ht3;clear hr3 ht3)
  go_ret
  exact⟨none,0,0,rfl,World.ownsRow_nil _ _ _ _,HR3.out,HT.out.trans HT3.out⟩
 | some l =>
  have ll:=l2 l rfl
  clear l2
  by_cases hn:x≤l.length
  ·go_enter func48,ntmps48
   go_wp2_with fail
   refine (C.out _ HS.out).mono ?_
   rintro e w' ⟨rfl,hr,hT⟩
   have bd:=bC hr
   have HT:=hid hT
   have HR:=hid hr
   have hz:=hT.size
   obtain⟨hBp,A,c,hc,hp,hL⟩:=hr
   have c1:=dS hp
   have HP:=hid hp
   have HL:=hid hL
   have tkl:(l.take x).length=x:=by rw [List.length_take];omega
   have TKL:=hid tkl
   clear hp hL hT tkl
   go_wp2_with (at_builtin;refine aO _ rfl _ _ 33 rfl w'.heap.size 5 i0 (.int .u8 0) 1 1 underlying33 hi Bf Bg Bh rfl (by decide) _ 0 [] rfl (World.ownsRow_nil _ _ _ _) B A x c (af (l.take x)) tb rfl (by rw [aT,TKL.out];omega) (by rw [← d9];exact HL.out.take x) (aX _) (by unfold maxLen;omega) (by omega) (Nat.le_refl _) ?_)
   intro v' w1 hown' hgrow _
   obtain⟨A2,k2,rfl⟩:=aL hown'
   have hb:=xn (World.ownsRow_nil w' w'.heap.size 5 1) hgrow (Nat.le_refl _)
   have hr1:=HR.out.below hb
   have HT1:=hid (HT.out.trans (aG.of_below hb (by omega) [84]))
   have HO:=hid (gp hown' (b:=w.heap.size) hz)
   have hp1:=hb.block p (lt_of_block HP.out)
   rw [HP.out] at hp1
   have d1:=dS hp1
   have g1:=aa hp1 0
   have HP1:=hid hp1
   have HL1:=hid (HL.out.below (by omega) hb)
   clear hown' hgrow hb hr1 hp1 c1
   go_wp2
   all_goals go_ret
   ·have hcx:c=x:=by assumption
    have hd:l.drop x=[]:=List.drop_eq_nil_of_le (by omega)
    have q:=iX (n:=x) (c1:=0) (A1:=A) hBp ht HP1.out rfl hn (by omega) (by rw [hd];exact av.nil)
    have e:tk x (some l)=l.take x:=by simp [tk,hn]
    rw [e]
    exact⟨A2,x,k2,rfl,by rw [TKL.out];exact dY HO.out HP1.out (by decide) _,q.1,HT1.out.trans q.2⟩
   ·have hcx:¬ c=x:=by assumption
    have q0:=HL1.out.cut x c (by rw [aT];omega)
    rw [if_neg hcx,dI] at q0
    have q:=iX (n:=x) (c1:=c - x) hBp ht HP1.out rfl hn (by omega) q0
    have e:tk x (some l)=l.take x:=by simp [tk,hn]
    rw [e]
    exact⟨A2,x,k2,rfl,by rw [TKL.out];exact dY HO.out HP1.out (by decide) _,q.1,HT1.out.trans q.2⟩
  ·have e2:tk x (some l)=[]:=by simp [tk,hn]
   have e3:(Cd.eZ x (some l)).2=none:=by simp [Cd.eZ,hn]
   rw [e2,e3]
   clear e2 e3
   go_enter func48,ntmps48
   go_wp2_with fail
   refine (C.out _ HS.out).mono ?_
   rintro e w' ⟨rfl,hr,hT⟩
   have bd:=bC hr
   have HT:=hid hT
   have HR:=hid hr
   obtain⟨A,c,hc0,c10⟩:=lst_of hr
   have c1:w'.cell? ⟨p,0,none⟩=some (.slice A l.length c):=c10
   clear hr hT hc0 c10
   go_wp2_with (go_at_call 95;refine (dP HR.out).mono ?_;rintro e w' ⟨rfl,hr3,ht3⟩;have HR3:=hid hr3;have HT3:=hid ht3;clear hr3 ht3)
   go_ret
   exact⟨none,0,0,rfl,World.ownsRow_nil _ _ _ _,HR3.out,HT.out.trans HT3.out⟩
theorem rG_rr {B p:Nat} {tb:TypeId} {w:World} {s:Option (List UInt8)} (h:RS 84 B tb w p s) (ht:tb≠84) (hl:∀ l,s=some l→l.length≤1099511627776) :
  Calls prog 124 #[.pointer (some ⟨p,0,none⟩)] w fun e w'=>e=.returned (.bool (Cd.kz s).1)∧RS 84 B tb w' p (Cd.kz s).2∧aG B [84] w w':=by
 have HS:=hid h
 have oq:=hid hl
 have q:=Cd.rdG_num s
 have e1:(Cd.kz s).1=((Cd.aS 1 s).1==1):=by rw [← q]
 have e2:(Cd.kz s).2=(Cd.aS 1 s).2:=by rw [← q]
 have n1:(((Cd.aS 1 s).1:Int)==1)=(Cd.kz s).1:=by rw [e1,Bool.eq_iff_iff];simp;omega
 have N1:=hid n1
 rw [e2]
 clear h hl q e1 e2 n1
 go_enter func124,ntmps124
 go_wp2_with fail
 refine (eB (mz:=1) HS.out ht oq.out (by omega)).mono ?_
 rintro e w' ⟨rfl,hr,hT⟩
 have HR:=hid hr
 have HT:=hid hT
 clear hr hT
 go_wp2
 go_ret
 exact⟨aj N1.out,HR.out,HT.out⟩
theorem sZ {B p:Nat} {tb:TypeId} {w:World} {s:Option (List UInt8)} (h:RS 84 B tb w p s) :
  Calls prog 50 #[.pointer (some ⟨p,0,none⟩)] w fun e w'=>e=.returned (.int .i64 (dK s))∧w=w':=by
 cases s with
 | none =>
  have b1:=gm h.2
  clear h
  go_enter func50,ntmps50
  go_wp2
  go_ret
  exact⟨rfl,rfl⟩
 | some l =>
  obtain⟨_,A,c,_,hp,_⟩:=h
  have c1:=dS hp
  have b1:=gm hp
  clear hp
  cases l with
  | nil =>
   have c2:w.cell? ⟨p,0,none⟩=some (.slice A 0 c):=c1
   clear c1
   go_enter func50,ntmps50
   go_wp2
   go_ret
   exact⟨rfl,rfl⟩
  | cons x t =>
   have c2:w.cell? ⟨p,0,none⟩=some (.slice A (t.length+1) c):=c1
   clear c1
   go_enter func50,ntmps50
   go_wp2
   go_ret
   exact⟨rfl,rfl⟩
end
end
section
section
open Go.RowKit Go.Lib
theorem RS.j5 {B p:Nat} {tb:TypeId} {w:World} {s:Option (List UInt8)} (h:RS 84 B tb w p s) {g:Nat} (ht:Ty w g 97) (hB:B≤g) (h2:tb≠97) (i:Nat) (u:Value):RS 84 B tb (w.setCell ⟨g,i,none⟩ u) p s :=
 h.cZ ((aG.refl B [97] w).bB (p:=⟨g,i,none⟩) ht (by simp) hB u) (by decide) (by simpa using h2)
def TkOkR (B p:Nat) (s:Option (List UInt8)) (w:World) (e:Ending) (w':World):Prop :=
 ∃ m:fJ,e=.returned (.agg (dO m).toArray)∧m.t=(T9.eU s).1∧av w' 0 9 m.A (dA m.t.tags)∧m.t.tags.length≤m.c∧RS 84 B 5 w' p (T9.eU s).2∧aG B [84] w w'
theorem wB {B p:Nat} {s:Option (List UInt8)} {w:World} (h:RS 84 B 5 w p s) (hl:∀ l,s=some l→l.length≤1099511627776) :
  Calls prog 97 #[.pointer (some ⟨p,0,none⟩)] w (TkOkR B p s w):=by
 have hBs:=h.size
 have BS:=hid hBs
 obtain⟨w0,hw0⟩:∃ u,w.alloc (.cells #[.int .u64 0,.int .u64 0,.string ⟨#[]⟩,.bool false,.float .f64 0,.float .f64 0,.slice none 0 0] 97)=u:=⟨_,rfl⟩
 obtain⟨kK,b0,z0⟩:=bP hw0
 have R0:Hid (RS 84 B 5 w0 p s):=hid (by rw [← hw0];exact h.alloc _)
 have qH:=hid kK
 have Tw0:Hid (aG B [84] w w0):=hid (aG.of_below b0 hBs _)
 have Z0:=hid z0
 have L0:=hid hl
 have N1:=hid (eB (mz:=18446744073709551615) R0.out (by decide) L0.out (by decide))
 rw [aQ] at N1
 clear h hl kK b0 z0 hBs
 go_enter func97,ntmps97
 go_wp2_with fail
 refine N1.out.mono ?_
 rintro e w1 ⟨rfl,hr,ht⟩
 obtain⟨i0,hi0⟩:∃ v,v=(Cd.aS Cd.full s).1:=⟨_,rfl⟩
 rw [← hi0]
 have I0:=hid hi0
 have qJ:=hid (fD s)
 have hr:RS 84 B 5 w1 p (T9.s1 s):=hr
 have oI:=hid (ht.blk qH.out (by decide))
 have Tw1:=hid (Tw0.out.trans ht)
 clear hw0 hi0
 go_wp2_with fail
 obtain⟨w2,hw2⟩:∃ u,w1.alloc (.cells #[.int .u64 (i0:Int),.int .u64 0,.string ⟨#[]⟩,.bool false,.float .f64 0,.float .f64 0,.slice none 0 0] 97)=u:=⟨_,rfl⟩
 rw [hw2]
 obtain⟨lb2,b2,z2⟩:=bP hw2
 have GZ:Hid (w.heap.size+1≤w1.heap.size):=hid (by have:=lt_of_block oI.out;omega)
 have R2:Hid (RS 84 B 5 w2 p (T9.s1 s)):=hid (by rw [← hw2];exact hr.alloc _)
 have xk:Hid (aG B [84] w w2):=hid (by rw [← hw2];exact Tw1.out.alloc (by have:=GZ.out;have:=BS.out;omega) _)
 have zG:=hid (ah oI.out b2)
 have LB2:=hid lb2
 clear hr ht lb2 b2 z2
 have C1:=hid (eB (mz:=18446744073709551615) R2.out (by decide) (qJ.out.bound L0.out) (by decide))
 rw [aQ] at C1
 refine C1.out.mono ?_
 rintro e w3 ⟨rfl,hr,ht⟩
 obtain⟨i1,hi1⟩:∃ v,v=(Cd.aS Cd.full (T9.s1 s)).1:=⟨_,rfl⟩
 rw [← hi1]
 have I1:=hid hi1
 have hr:RS 84 B 5 w3 p (T9.s2 s):=hr
 have pE:=ht.blk LB2.out (by decide)
 have nk:=ht.blk zG.out (by decide)
 have yD:=hid (xk.out.trans ht)
 have y1:Ty w3 w1.heap.size 97:=⟨_,_,pE⟩
 obtain⟨c30,c31,c32,c33,c34,c35,c36⟩:=ak pE
 have f3:=aa pE 1
 obtain⟨w4,hw4⟩:∃ u,w3.setCell ⟨w1.heap.size,1,none⟩ (.int .u64 (i1:Int))=u:=⟨_,rfl⟩
 have LB4:Hid (w4.heap[w1.heap.size]?=some (.cells #[.int .u64 (i0:Int),.int .u64 (i1:Int),.string ⟨#[]⟩,.bool false,.float .f64 0,.float .f64 0,.slice none 0 0] 97 (0,0))):=hid (by rw [← hw4];exact (ae pE 1 (.int .u64 (i1:Int))).trans rfl)
 have RB4:Hid (w4.heap[w.heap.size]?=some (.cells #[.int .u64 0,.int .u64 0,.string ⟨#[]⟩,.bool false,.float .f64 0,.float .f64 0,.slice none 0 0] 97 (0,0))):=hid (by rw [← hw4];exact aI nk (p:=⟨w1.heap.size,1,none⟩) (by have:=GZ.out;show w.heap.size≠w1.heap.size;omega) (.int .u64 (i1:Int)))
 have R4:Hid (RS 84 B 5 w4 p (T9.s2 s)):=hid (by rw [← hw4];exact hr.j5 y1 (by have:=GZ.out;have:=BS.out;omega) (by decide) _ _)
 have zH:Hid (aG B [84] w w4):=hid (by rw [← hw4];exact yD.out.bU (p:=⟨w1.heap.size,1,none⟩) (by have:=GZ.out;show w.heap.size≤w1.heap.size;omega) BS.out _)
 have rA:=hid (qJ.out.trans (fD (T9.s1 s)))
 clear hr ht hi1 pE nk y1
 have C2:=hid (p_ (mz:=60) R4.out (by decide) (rA.out.bound L0.out) (by decide) (by decide))
 go_wp2_with fail
 refine C2.out.mono ?_
 rintro e w5 ⟨Ab,nb,cb,rfl,eT,hr,ht⟩
 obtain⟨hnb,_⟩:=aA eT
 obtain⟨i2,hi2⟩:∃ v,v=(Cd.bQ 60 (T9.s2 s)).1:=⟨_,rfl⟩
 have cv:=bR (c:=cb) (aD (B:=0) (t:=5) eT) hnb
 rw [show (Cd.bQ (60:Int).toNat (T9.s2 s)).1=i2 from hi2.symm] at cv
 have I2:=hid hi2
 have hr:RS 84 B 5 w5 p (T9.s3 s):=hr
 have CJ:=ht.blk LB4.out (by decide)
 have rb5:=ht.blk RB4.out (by decide)
 have A_:=hid (zH.out.trans ht)
 have y2:Ty w5 w1.heap.size 97:=⟨_,_,CJ⟩
 obtain⟨c50,c51,c52,c53,c54,c55,c56⟩:=ak CJ
 have f5:=aa CJ 2
 obtain⟨w6,zW⟩:∃ u,w5.setCell ⟨w1.heap.size,2,none⟩ (.string (str i2))=u:=⟨_,rfl⟩
 have AU:Hid (w6.heap[w1.heap.size]?=some (.cells #[.int .u64 (i0:Int),.int .u64 (i1:Int),.string (str i2),.bool false,.float .f64 0,.float .f64 0,.slice none 0 0] 97 (0,0))):=hid (by rw [← zW];exact (ae CJ 2 (.string (str i2))).trans rfl)
 have BG:Hid (w6.heap[w.heap.size]?=some (.cells #[.int .u64 0,.int .u64 0,.string ⟨#[]⟩,.bool false,.float .f64 0,.float .f64 0,.slice none 0 0] 97 (0,0))):=hid (by rw [← zW];exact aI rb5 (p:=⟨w1.heap.size,2,none⟩) (by have:=GZ.out;show w.heap.size≠w1.heap.size;omega) (.string (str i2)))
 have R6:Hid (RS 84 B 5 w6 p (T9.s3 s)):=hid (by rw [← zW];exact hr.j5 y2 (by have:=GZ.out;have:=BS.out;omega) (by decide) _ _)
 have BK:Hid (aG B [84] w w6):=hid (by rw [← zW];exact A_.out.bU (p:=⟨w1.heap.size,2,none⟩) (by have:=GZ.out;show w.heap.size≤w1.heap.size;omega) BS.out _)
 have uL:=hid (rA.out.trans (St.nX 60 (T9.s2 s)))
 clear hr ht hi2 CJ rb5 y2 eT hnb
 have C3:=hid (rG_rr R6.out (by decide) (uL.out.bound L0.out))
 go_wp2_with fail
 refine C3.out.mono ?_
 rintro e w7 ⟨rfl,hr,ht⟩
 obtain⟨i3,hi3⟩:∃ v,v=(Cd.kz (T9.s3 s)).1:=⟨_,rfl⟩
 rw [← hi3]
 have I3:=hid hi3
 have hr:RS 84 B 5 w7 p (T9.s4 s):=hr
 have CO:=ht.blk AU.out (by decide)
 have rb7:=ht.blk BG.out (by decide)
 have BL:=hid (BK.out.trans ht)
 have y3:Ty w7 w1.heap.size 97:=⟨_,_,CO⟩
 obtain⟨c70,c71,c72,c73,c74,c75,c76⟩:=ak CO
 have f7:=aa CO 3
 obtain⟨w8,hw8⟩:∃ u,w7.setCell ⟨w1.heap.size,3,none⟩ (.bool i3)=u:=⟨_,rfl⟩
 have nL:Hid (w8.heap[w1.heap.size]?=some (.cells #[.int .u64 (i0:Int),.int .u64 (i1:Int),.string (str i2),.bool i3,.float .f64 0,.float .f64 0,.slice none 0 0] 97 (0,0))):=hid (by rw [← hw8];exact (ae CO 3 (.bool i3)).trans rfl)
 have xe:Hid (w8.heap[w.heap.size]?=some (.cells #[.int .u64 0,.int .u64 0,.string ⟨#[]⟩,.bool false,.float .f64 0,.float .f64 0,.slice none 0 0] 97 (0,0))):=hid (by rw [← hw8];exact aI rb7 (p:=⟨w1.heap.size,3,none⟩) (by have:=GZ.out;show w.heap.size≠w1.heap.size;omega) (.bool i3))
 have R8:Hid (RS 84 B 5 w8 p (T9.s4 s)):=hid (by rw [← hw8];exact hr.j5 y3 (by have:=GZ.out;have:=BS.out;omega) (by decide) _ _)
 have BM:Hid (aG B [84] w w8):=hid (by rw [← hw8];exact BL.out.bU (p:=⟨w1.heap.size,3,none⟩) (by have:=GZ.out;show w.heap.size≤w1.heap.size;omega) BS.out _)
 have uM:=hid (uL.out.trans (St.wG (T9.s3 s)))
 clear hr ht hi3 CO rb7 y3
 have C4:=hid (Dz R8.out (by decide) (uM.out.bound L0.out))
 go_wp2_with fail
 refine C4.out.mono ?_
 rintro e w9 ⟨rfl,hr,ht⟩
 obtain⟨i4,hi4⟩:∃ v,v=(Cd.jg (T9.s4 s)).1:=⟨_,rfl⟩
 rw [← hi4]
 have I4:=hid hi4
 have hr:RS 84 B 5 w9 p (T9.s5 s):=hr
 have zY:=ht.blk nL.out (by decide)
 have rb9:=ht.blk xe.out (by decide)
 have Tw9:=hid (BM.out.trans ht)
 have y4:Ty w9 w1.heap.size 97:=⟨_,_,zY⟩
 obtain⟨c90,c91,c92,c93,c94,c95,c96⟩:=ak zY
 have f9:=aa zY 4
 obtain⟨lv,mX⟩:∃ u,w9.setCell ⟨w1.heap.size,4,none⟩ (.float .f64 i4)=u:=⟨_,rfl⟩
 have zF:Hid (lv.heap[w1.heap.size]?=some (.cells #[.int .u64 (i0:Int),.int .u64 (i1:Int),.string (str i2),.bool i3,.float .f64 i4,.float .f64 0,.slice none 0 0] 97 (0,0))):=hid (by rw [← mX];exact (ae zY 4 (.float .f64 i4)).trans rfl)
 have RB10:Hid (lv.heap[w.heap.size]?=some (.cells #[.int .u64 0,.int .u64 0,.string ⟨#[]⟩,.bool false,.float .f64 0,.float .f64 0,.slice none 0 0] 97 (0,0))):=hid (by rw [← mX];exact aI rb9 (p:=⟨w1.heap.size,4,none⟩) (by have:=GZ.out;show w.heap.size≠w1.heap.size;omega) (.float .f64 i4))
 have R10:Hid (RS 84 B 5 lv p (T9.s5 s)):=hid (by rw [← mX];exact hr.j5 y4 (by have:=GZ.out;have:=BS.out;omega) (by decide) _ _)
 have sJ:Hid (aG B [84] w lv):=hid (by rw [← mX];exact Tw9.out.bU (p:=⟨w1.heap.size,4,none⟩) (by have:=GZ.out;show w.heap.size≤w1.heap.size;omega) BS.out _)
 have xg:=hid (uM.out.trans (jK (T9.s4 s)))
 clear hr ht hi4 zY rb9 y4
 have C5:=hid (Dz R10.out (by decide) (xg.out.bound L0.out))
 go_wp2_with fail
 refine C5.out.mono ?_
 rintro e mI ⟨rfl,hr,ht⟩
 obtain⟨i5,hi5⟩:∃ v,v=(Cd.jg (T9.s5 s)).1:=⟨_,rfl⟩
 rw [← hi5]
 have I5:=hid hi5
 have hr:RS 84 B 5 mI p (T9.s6 s):=hr
 have pz:=ht.blk zF.out (by decide)
 have DD:=ht.blk RB10.out (by decide)
 have qK:=hid (sJ.out.trans ht)
 have y5:Ty mI w1.heap.size 97:=⟨_,_,pz⟩
 obtain⟨c110,c111,c112,c113,c114,c115,c116⟩:=ak pz
 have f11:=aa pz 5
 obtain⟨mK,mY⟩:∃ u,mI.setCell ⟨w1.heap.size,5,none⟩ (.float .f64 i5)=u:=⟨_,rfl⟩
 have LB12:Hid (mK.heap[w1.heap.size]?=some (.cells #[.int .u64 (i0:Int),.int .u64 (i1:Int),.string (str i2),.bool i3,.float .f64 i4,.float .f64 i5,.slice none 0 0] 97 (0,0))):=hid (by rw [← mY];exact (ae pz 5 (.float .f64 i5)).trans rfl)
 have RB12:Hid (mK.heap[w.heap.size]?=some (.cells #[.int .u64 0,.int .u64 0,.string ⟨#[]⟩,.bool false,.float .f64 0,.float .f64 0,.slice none 0 0] 97 (0,0))):=hid (by rw [← mY];exact aI DD (p:=⟨w1.heap.size,5,none⟩) (by have:=GZ.out;show w.heap.size≠w1.heap.size;omega) (.float .f64 i5))
 have R12:Hid (RS 84 B 5 mK p (T9.s6 s)):=hid (by rw [← mY];exact hr.j5 y5 (by have:=GZ.out;have:=BS.out;omega) (by decide) _ _)
 have BJ:Hid (aG B [84] w mK):=hid (by rw [← mY];exact qK.out.bU (p:=⟨w1.heap.size,5,none⟩) (by have:=GZ.out;show w.heap.size≤w1.heap.size;omega) BS.out _)
 have SH6:=hid (xg.out.trans (jK (T9.s5 s)))
 clear hr ht hi5 pz DD y5
 have C6:=hid (eB (mz:=60) R12.out (by decide) (SH6.out.bound L0.out) (by decide))
 go_wp2_with fail
 refine C6.out.mono ?_
 rintro e n_ ⟨rfl,hr,ht⟩
 obtain⟨n,hn⟩:∃ v,v=T9.nY s:=⟨_,rfl⟩
 have hn':n=(Cd.aS (60:Int).toNat (T9.s6 s)).1:=hn
 rw [← hn']
 have NT:=hid hn
 have n60:n≤60:=by rw [hn'];exact (Cd.b_ 60 (T9.s6 s)).2
 have hr:RS 84 B 5 n_ p (T9.s7 s):=hr
 have sH:=hid (ht.blk LB12.out (by decide))
 have oJ:=hid (ht.blk RB12.out (by decide))
 have Tw13:=hid (BJ.out.trans ht)
 have R13:=hid hr
 have SH7:Hid (St.jO s (T9.s7 s)):=hid (SH6.out.trans (St.bN 60 (T9.s6 s)))
 obtain⟨fi0,hfi,fz0,fz1,fz2⟩:=info_parts Tryz.infoStr9
 clear hn hn' hr ht
 go_wp2_with fail
 go_loopw [5] (fun s5 wr=>∃ (j:Nat) (A:Option Addr) (c:Nat),s5=.int .u64 j∧j≤n∧Aside (RS 84 B 5 wr p (T9.many (Cd.bQ 60) j (T9.s7 s)).2∧wr.ownsRow w.heap.size 9 1 (.slice A j c) j (dA (T9.many (Cd.bQ 60) j (T9.s7 s)).1)∧wr.heap[w1.heap.size]?=some (.cells #[.int .u64 (i0:Int),.int .u64 (i1:Int),.string (str i2),.bool i3,.float .f64 i4,.float .f64 i5,.slice A j c] 97 (0,0))∧wr.heap[w.heap.size]?=some (.cells #[.int .u64 0,.int .u64 0,.string ⟨#[]⟩,.bool false,.float .f64 0,.float .f64 0,.slice none 0 0] 97 (0,0))∧aG B [84] w wr)) (fun s5 _=>n - (intOf s5).toNat)
 case atStart=>exact⟨0,none,0,rfl,Nat.zero_le _,R13.out,World.ownsRow_nil _ _ _ _,sH.out,oJ.out,Tw13.out⟩
 case round =>
  obtain⟨j,A,c,rfl,hj,hI⟩:=hrel
  have HI:=hid hI.out
  clear hI
  by_cases hlt:j<n
  ·have hltz:(j:Int)<(n:Int):=by omega
   have g3:=HI.out.2.2.1
   obtain⟨x0,x1,x2,x3,x4,x5,x6⟩:=ak g3
   have SHJ:Hid (∀ l,(T9.many (Cd.bQ 60) j (T9.s7 s)).2=some l→l.length≤1099511627776):=hid ((j_ j (T9.s7 s)).bound (SH7.out.bound L0.out))
   have CB:=hid (p_ (w:=wr.drew) (mz:=60) (HI.out.1.cZ (aG.refl B [] wr).drew (by simp) (by simp)) (by decide) SHJ.out (by decide) (by decide))
   clear g3
   have S0:wr.drew.cell? ⟨w1.heap.size,6,none⟩=some (.slice A j c):=x6
   go_wp2_with fail
   refine Any.begin (S:=fun u=>u.cell? ⟨w1.heap.size,6,none⟩=some (.slice A j c)) (st:=8) pM ?_
   refine Any.take (st:=8) (i:=0) (v:=?_) rfl (by kernel_rfl) (by kernel_rfl) (by kernel_rfl) rfl (by kernel_rfl) (fun _ _ _ h=>h) (Or.inl ⟨by rfl,?_⟩) S0 ?_
   rotate_left
   ·intro u hu
    have hu:u.cell? ⟨w1.heap.size,6,none⟩=some (.slice A j c):=hu
    go_simp
    try rfl
   try simp only [Act.put,List.setIfInBounds_toArray,List.set_cons_zero,List.set_cons_succ,List.getElem_toArray,List.getElem_cons_zero]
   refine Any.take (st:=8) (i:=1) (v:=?_) rfl (by kernel_rfl) (by kernel_rfl) (by kernel_rfl) rfl (by kernel_rfl) (fun _ _ _ h=>h) (Or.inl ⟨by rfl,?_⟩) S0 ?_
   rotate_left
   ·intro u hu
    have hu:u.cell? ⟨w1.heap.size,6,none⟩=some (.slice A j c):=hu
    go_simp
    try rfl
   try simp only [Act.put,pS]
   refine Any.take (st:=8) (i:=2) (v:=?_) rfl (by kernel_rfl) (by kernel_rfl) (by kernel_rfl) rfl (by kernel_rfl) (fun _ _ _ h=>h) (Or.inl ⟨by rfl,?_⟩) S0 ?_
   rotate_left
   ·intro u hu
    have hu:u.cell? ⟨w1.heap.size,6,none⟩=some (.slice A j c):=hu
    go_simp
    try rfl
   try simp only [Act.put,pS]
   clear S0
   refine Any.one (i:=3) (by kernel_rfl) rfl (fun K hK=>?_)
   go_simp
   refine CB.out.mono ?_
   rintro e wa ⟨Ab,nb,cb,rfl,eT,hr,ht⟩
   obtain⟨hnb,_⟩:=aA eT
   obtain⟨x,hx⟩:∃ v,v=(Cd.bQ (60:Int).toNat (T9.many (Cd.bQ 60) j (T9.s7 s)).2).1:=⟨_,rfl⟩
   have cv:=bR (c:=cb) (aD (B:=0) (t:=5) eT) hnb
   rw [← hx] at cv
   have HX:=hid hx
   have HA:=hid (And.intro hr ht)
   have ga:=ht.blk HI.out.2.2.1 (by decide)
   have GA:=hid ga
   have xa:=(ak ga).2.2.2.2.2.2
   clear eT hnb hx hr ht ga
   refine hK _ _ (fun _=>xa) ?_
   clear hK K
   try simp only [Act.put,pS]
   refine Any.one (i:=4) (by kernel_rfl) rfl (fun K hK=>?_)
   go_simp
   refine hK _ _ (fun _=>xa) ?_
   clear hK K cv
   try simp only [Act.put,pS]
   refine Any.one (i:=5) (by kernel_rfl) rfl (fun K hK=>?_)
   go_simp
   refine hK _ _ (fun _=>(ak (aW GA.out _)).2.2.2.2.2.2) ?_
   clear hK K
   try simp only [Act.put,pS]
   refine Any.one (i:=6) (by kernel_rfl) rfl (fun K hK=>?_)
   have TA:=hid ((aG.refl B [84] wr).drew.trans HA.out.2)
   have zB:=HA.out.1.size
   have z0:w.heap.size≤wa.heap.size:=by have:=lt_of_block GA.out;have:=GZ.out;omega
   have qF:=hid (bu HI.out.2.1 TA.out (by decide))
   refine jL rfl _ _ 95 rfl w.heap.size 9 fi0 _ 1 16 underlying95 hfi fz0 fz1 fz2 rfl (by decide) _ j _ rfl (qF.out.alloc (.cells #[.string (str x)] 9)) 0 (some ⟨wa.heap.size,0,none⟩) 1 1 [encS x] 9 rfl rfl (av.dD (heap_alloc_new wa _)) (by intro v hv;simp at hv;subst hv;rfl) (by unfold maxLen;omega) (by omega) (by simp;omega) ?_
   intro v6 w6 hown6 aP iT
   obtain⟨A6,k6,rfl⟩:=aL hown6
   have g6b:=bV (qF.out.alloc (.cells #[.string (str x)] 9)) aP (aW GA.out (.cells #[.string (str x)] 9)) (by decide)
   have rb6:=bV (qF.out.alloc (.cells #[.string (str x)] 9)) aP (aW (TA.out.blk HI.out.2.2.2.1 (by decide)) (.cells #[.string (str x)] 9)) (by decide)
   have T6:Hid (aG B [9] wa w6):=hid (((aG.refl B [9] wa).alloc zB (.cells #[.string (str x)] 9)).trans (dB (B:=B) (ts:=[9]) (qF.out.alloc (.cells #[.string (str x)] 9)) aP BS.out (by simp;omega) (by simp)))
   have R6':Hid (RS 84 B 5 w6 p (T9.many (Cd.bQ 60) (j+1) (T9.s7 s)).2):=hid (by
    rw [T9.aY]
    exact HA.out.1.cZ T6.out (by decide) (by decide))
   have vG:∀ k,k<w.heap.size→w6.heap[k]?=wa.heap[k]?:=fun k hk=>(aP.block k (by simp;omega) (fun q=>by
    have:=((qF.out.alloc (.cells #[.string (str x)] 9)).lt k q.symm).1
    omega)).trans (Below.heap_alloc wa _ k (by omega))
   have TT:=HI.out.2.2.2.2.trans TA.out
   have TW6:Hid (aG B [84] w w6):=hid ⟨TT.below.trans T6.out.below,fun k cs t fr hk ht=>(vG k (lt_of_block hk)).trans (TT.typed k cs t fr hk ht)⟩
   clear vG TT
   have zD:=hid hown6
   have G6:=hid g6b
   have BG:=hid rb6
   have x66:=(ak g6b).2.2.2.2.2.2
   have f66:=aa g6b 6
   refine hK _ _ (fun _=>x66) ?_
   clear hK K hown6 aP iT g6b rb6 x6 xa
   try simp only [Act.put,pS]
   refine Any.one (i:=7) (by kernel_rfl) rfl (fun K hK=>?_)
   go_simp
   refine hK _ _ (fun _=>x66) ?_
   clear hK K
   try simp only [Act.put,pS]
   refine Any.one (i:=8) (by kernel_rfl) rfl (fun K hK=>?_)
   go_simp
   refine hK _ _ (fun e=>absurd rfl e) ?_
   clear hK K
   try simp only [Act.put,List.setIfInBounds_toArray,List.set_cons_zero,List.set_cons_succ,List.getElem_toArray,List.getElem_cons_zero]
   refine Any.done (by kernel_rfl) ?_
   have Y6:Hid (Ty w6 w1.heap.size 97):=hid ⟨_,_,G6.out⟩
   have gz:=GZ.out
   have bs:=BS.out
   have R7:Hid (RS 84 B 5 (w6.setCell ⟨w1.heap.size,6,none⟩ (.slice A6 (j+1) k6)) p (T9.many (Cd.bQ 60) (j+1) (T9.s7 s)).2):=hid (R6'.out.j5 Y6.out (by omega) (by decide) _ _)
   have O7:Hid ((w6.setCell ⟨w1.heap.size,6,none⟩ (.slice A6 (j+1) k6)).ownsRow w.heap.size 9 1 (.slice A6 (j+1) k6) (j+1) (dA (T9.many (Cd.bQ 60) (j+1) (T9.s7 s)).1)):=hid (by
    rw [T9.aY,nN]
    have hx:x=(Cd.bQ 60 (T9.many (Cd.bQ 60) j (T9.s7 s)).2).1:=HX.out
    rw [← hx]
    exact dY zD.out G6.out (by decide) _)
   have uH:Hid ((w6.setCell ⟨w1.heap.size,6,none⟩ (.slice A6 (j+1) k6)).heap[w1.heap.size]?=some (.cells #[.int .u64 (i0:Int),.int .u64 (i1:Int),.string (str i2),.bool i3,.float .f64 i4,.float .f64 i5,.slice A6 (j+1) k6] 97 (0,0))):=hid ((ae G6.out 6 (.slice A6 (j+1) k6)).trans rfl)
   have xc:Hid ((w6.setCell ⟨w1.heap.size,6,none⟩ (.slice A6 (j+1) k6)).heap[w.heap.size]?=some (.cells #[.int .u64 0,.int .u64 0,.string ⟨#[]⟩,.bool false,.float .f64 0,.float .f64 0,.slice none 0 0] 97 (0,0))):=hid (aI BG.out (p:=⟨w1.heap.size,6,none⟩) (by show w.heap.size≠w1.heap.size;omega) _)
   have T7:Hid (aG B [84] w (w6.setCell ⟨w1.heap.size,6,none⟩ (.slice A6 (j+1) k6))):=hid (TW6.out.bU (p:=⟨w1.heap.size,6,none⟩) (by show w.heap.size≤w1.heap.size;omega) bs _)
   clear gz bs z0 zB x66 f66
   go_wp2
   go_roundw
   case rel=>exact⟨j+1,A6,k6,by go_num,by omega,R7.out,O7.out,uH.out,xc.out,T7.out⟩
   case measure=>simp [intOf];omega
  ·obtain rfl:j=n:=by omega
   have hltz:¬ ((j:Int)<(j:Int)):=by omega
   have g3:=HI.out.2.2.1
   have nk:=HI.out.2.2.2.1
   obtain⟨x0,x1,x2,x3,x4,x5,x6⟩:=ak g3
   obtain⟨q0,q1,q2,q3,q4,q5,q6⟩:=ak nk
   have lL:=aa nk 0
   have lM:=aa nk 1
   have qN:=aa nk 2
   have qO:=aa nk 3
   have qP:=aa nk 4
   have qQ:=aa nk 5
   have xK:=aa nk 6
   have fF:Hid ((((((((wr.setCell ⟨w.heap.size,0,none⟩ (.int .u64 (i0:Int))).setCell ⟨w.heap.size,1,none⟩ (.int .u64 (i1:Int))).setCell ⟨w.heap.size,2,none⟩ (.string (str i2))).setCell ⟨w.heap.size,3,none⟩ (.bool i3)).setCell ⟨w.heap.size,4,none⟩ (.float .f64 i4)).setCell ⟨w.heap.size,5,none⟩ (.float .f64 i5)).setCell ⟨w.heap.size,6,none⟩ (.slice A j c)).heap[w.heap.size]?=some (.cells #[.int .u64 (i0:Int),.int .u64 (i1:Int),.string (str i2),.bool i3,.float .f64 i4,.float .f64 i5,.slice A j c] 97 (0,0))):=hid ((ae (ae (ae (ae (ae (ae (ae nk 0 (.int .u64 (i0:Int))) 1 (.int .u64 (i1:Int))) 2 (.string (str i2))) 3 (.bool i3)) 4 (.float .f64 i4)) 5 (.float .f64 i5)) 6 (.slice A j c)).trans rfl)
   obtain⟨k0,k1,k2,k3,k4,k5,k6⟩:=ak fF.out
   clear g3 nk
   go_wp2
   refine bodyPost_ret (v:=.agg #[.int .u64 (i0:Int),.int .u64 (i1:Int),.string (str i2),.bool i3,.float .f64 i4,.float .f64 i5,.slice A j c]) (by simp [results,results97,go_sem,k0,k1,k2,k3,k4,k5,k6]) rfl ?_
   have TL:(T9.many (Cd.bQ 60) j (T9.s7 s)).1.length=j:=T9.bL _ _ _
   have bs:=BS.out
   have yr:Ty wr w.heap.size 97:=⟨_,_,HI.out.2.2.2.1⟩
   have TF:=((((((((aG.refl B [97] wr).bB (p:=⟨w.heap.size,0,none⟩) (yr) (by simp) bs (.int .u64 (i0:Int))).bB (p:=⟨w.heap.size,1,none⟩) ((yr).set ⟨w.heap.size,0,none⟩ (.int .u64 (i0:Int))) (by simp) bs (.int .u64 (i1:Int))).bB (p:=⟨w.heap.size,2,none⟩) (((yr).set ⟨w.heap.size,0,none⟩ (.int .u64 (i0:Int))).set ⟨w.heap.size,1,none⟩ (.int .u64 (i1:Int))) (by simp) bs (.string (str i2))).bB (p:=⟨w.heap.size,3,none⟩) ((((yr).set ⟨w.heap.size,0,none⟩ (.int .u64 (i0:Int))).set ⟨w.heap.size,1,none⟩ (.int .u64 (i1:Int))).set ⟨w.heap.size,2,none⟩ (.string (str i2))) (by simp) bs (.bool i3)).bB (p:=⟨w.heap.size,4,none⟩) (((((yr).set ⟨w.heap.size,0,none⟩ (.int .u64 (i0:Int))).set ⟨w.heap.size,1,none⟩ (.int .u64 (i1:Int))).set ⟨w.heap.size,2,none⟩ (.string (str i2))).set ⟨w.heap.size,3,none⟩ (.bool i3)) (by simp) bs (.float .f64 i4)).bB (p:=⟨w.heap.size,5,none⟩) ((((((yr).set ⟨w.heap.size,0,none⟩ (.int .u64 (i0:Int))).set ⟨w.heap.size,1,none⟩ (.int .u64 (i1:Int))).set ⟨w.heap.size,2,none⟩ (.string (str i2))).set ⟨w.heap.size,3,none⟩ (.bool i3)).set ⟨w.heap.size,4,none⟩ (.float .f64 i4)) (by simp) bs (.float .f64 i5)).bB (p:=⟨w.heap.size,6,none⟩) (((((((yr).set ⟨w.heap.size,0,none⟩ (.int .u64 (i0:Int))).set ⟨w.heap.size,1,none⟩ (.int .u64 (i1:Int))).set ⟨w.heap.size,2,none⟩ (.string (str i2))).set ⟨w.heap.size,3,none⟩ (.bool i3)).set ⟨w.heap.size,4,none⟩ (.float .f64 i4)).set ⟨w.heap.size,5,none⟩ (.float .f64 i5)) (by simp) bs (.slice A j c))
   have TN:=(((((((HI.out.2.2.2.2.bU (p:=⟨w.heap.size,0,none⟩) (Nat.le_refl _) bs (.int .u64 (i0:Int))).bU (p:=⟨w.heap.size,1,none⟩) (Nat.le_refl _) bs (.int .u64 (i1:Int))).bU (p:=⟨w.heap.size,2,none⟩) (Nat.le_refl _) bs (.string (str i2))).bU (p:=⟨w.heap.size,3,none⟩) (Nat.le_refl _) bs (.bool i3)).bU (p:=⟨w.heap.size,4,none⟩) (Nat.le_refl _) bs (.float .f64 i4)).bU (p:=⟨w.heap.size,5,none⟩) (Nat.le_refl _) bs (.float .f64 i5)).bU (p:=⟨w.heap.size,6,none⟩) (Nat.le_refl _) bs (.slice A j c))
   refine⟨⟨⟨i0,i1,i2,i3,i4,i5,(T9.many (Cd.bQ 60) j (T9.s7 s)).1⟩,A,c⟩,?_,?_,?_,?_,?_,TN⟩
   ·show _=Ending.returned (Value.agg #[.int .u64 (i0:Int),.int .u64 (i1:Int),.string (str i2),.bool i3,.float .f64 i4,.float .f64 i5,.slice A (T9.many (Cd.bQ 60) j (T9.s7 s)).1.length c])
    rw [TL]
   ·show T9.Tk.mk i0 i1 i2 i3 i4 i5 _=(T9.eU s).1
    unfold T9.eU
    rw [I0.out,I1.out,I2.out,I3.out,I4.out,I5.out,NT.out]
   ·exact (aD (t:=9) HI.out.2.1).cZ TF.zero (by decide)
   ·show (T9.many (Cd.bQ 60) j (T9.s7 s)).1.length≤c
    rw [TL]
    exact (aA HI.out.2.1).2
   ·unfold T9.eU
    rw [← NT.out]
    exact HI.out.1.cZ TF (by decide) (by decide)
end
section
open Go.RowKit Go.Lib
theorem Av {A:Option Addr} {n c:Nat} {b:List UInt8} {w:World} {D:Nat} {td:TypeId} (h:av w D td A (af b)) (hn:n=b.length) (hcap:n≤c) (hb:n≤1000000000) (hD:D≤w.heap.size) :
  Calls prog 49 #[.slice A n c] w (Bz b w):=by
 obtain⟨w0,hw0⟩:∃ u,w.alloc (.cells #[.slice none 0 0,.slice none 0 0] 28)=u:=⟨_,rfl⟩
 obtain⟨kK,b0,z0⟩:=aM hw0
 have qH:=hid kK
 have B0:=hid b0
 have Cy:∃ u,w0.alloc (.cells #[.slice A n c,.bool false] 84)=u:=⟨_,rfl⟩
 obtain⟨w1,hw1⟩:=Cy
 obtain⟨DC,hb1,z1⟩:=aM hw1
 obtain⟨p,hp⟩:∃ p,w0.heap.size=p:=⟨_,rfl⟩
 have hr:RS 84 w0.heap.size 5 w1 p (some b):=by
  refine⟨by omega,A,c,by omega,by rw [← hp,← hn];exact DC,?_⟩
  exact ((h.more hD).old (t':=5) |>.below (Nat.le_refl _) (b0.trans (hb1.mono (by omega)))).more (by omega)
 have wY:Hid (b.length≤1000000000):=hid (by omega)
 have Cz:w0.heap.size=w.heap.size+1:=z0
 have oI:=hid (ah qH.out hb1)
 have B1:=hid (B0.out.trans (hb1.mono (by omega)))
 obtain⟨B,hB⟩:∃ v,v=w0.heap.size:=⟨_,rfl⟩
 rw [← hB] at hr
 have BZ:Hid (w.heap.size+1=B∧B≤w1.heap.size):=hid ⟨by omega,by have:=hb1.size;omega⟩
 have hl0:Hid (∀ l,some b=some l→l.length≤1099511627776):=hid (by intro l e;injection e with e;subst e;have:=wY.out;omega)
 obtain⟨w2,hw2⟩:∃ u,w1.alloc (.cells #[.slice none 0 0,.slice none 0 0] 28)=u:=⟨_,rfl⟩
 obtain⟨gb2,b2,z2⟩:=aM hw2
 have R2:Hid (RS 84 B 5 w2 p (some b)):=hid (by rw [← hw2];exact hr.alloc _)
 have zG:=hid (ah oI.out b2)
 have GB2:=hid gb2
 have B2:=hid (B1.out.trans (b2.mono B1.out.size))
 have Z2:=hid z2
 have C2:=hid (eB (mz:=60) R2.out (by decide) hl0.out (by decide))
 clear h kK b0 hn hb hcap DC z1 Cz hr hb1 hB gb2 b2 z2 z0
 go_enter func49,ntmps49
 go_wp2_with fail
 refine C2.out.mono ?_
 rintro e w3 ⟨rfl,hr,ht⟩
 have nl:(Cd.aS (60:Int).toNat (some b)).1≤60:=(Cd.b_ 60 (some b)).2
 obtain⟨n1,hn1⟩:∃ v,v=(Cd.aS (60:Int).toNat (some b)).1:=⟨_,rfl⟩
 rw [← hn1] at nl ⊢
 have N1:=hid hn1
 obtain⟨s1,hs1⟩:∃ v,v=(Cd.aS (60:Int).toNat (some b)).2:=⟨_,rfl⟩
 rw [← hs1] at hr
 have S1:=hid hs1
 have L1:Hid (∀ l,s1=some l→l.length≤1099511627776):=hid (by rw [hs1];exact (St.bN 60 (some b)).bound hl0.out)
 have R3:=hid hr
 have qI:=hid (ht.blk zG.out (by decide))
 have GB3:=hid (ht.blk GB2.out (by decide))
 have B3:Hid (Below w.heap.size w w3):=hid (B2.out.trans (ht.below.mono (by have:=BZ.out;omega)))
 have zw3:Hid (w1.heap.size+1≤w3.heap.size):=hid (by have:=lt_of_block GB3.out;omega)
 obtain⟨li0,lhi,lz0,lz1,lz2⟩:=info_parts Tryz.infoLi9
 clear hr ht hn1 hs1 hw0 hw1 hw2 hp
 go_wp2_with fail
 go_loopw [7] (fun s7 wr=>∃ (j:Nat) (A:Option Addr) (c:Nat),s7=.int .u64 j∧j≤n1∧Aside (RS 84 B 5 wr p (T9.many T9.bf j s1).2∧wr.ownsRow B 94 2 (.slice A j c) j (dV (T9.many T9.bf j s1).1)∧wr.heap[w1.heap.size]?=some (.cells #[.slice A j c,.slice none 0 0] 28 (0,0))∧wr.heap[w.heap.size]?=some (.cells #[.slice none 0 0,.slice none 0 0] 28 (0,0))∧Below w.heap.size w wr)) (fun s7 _=>n1 - (intOf s7).toNat)
 case atStart=>exact⟨0,none,0,rfl,Nat.zero_le _,R3.out,World.ownsRow_nil _ _ _ _,GB3.out,qI.out,B3.out⟩
 case round =>
  obtain⟨j,A1,c1,rfl,hj,hI⟩:=hrel
  have HI:=hid hI.out
  clear hI
  by_cases hlt:j<n1
  ·have hltz:(j:Int)<(n1:Int):=by omega
   have LJ:Hid (∀ l,(T9.many T9.bf j s1).2=some l→l.length≤1099511627776):=hid ((jc j s1).bound L1.out)
   have CN:=hid (eB (mz:=18446744073709551615) HI.out.1 (by decide) LJ.out (by decide))
   rw [aQ] at CN
   go_wp2_with fail
   refine CN.out.mono ?_
   rintro e wa ⟨rfl,hr,ht⟩
   obtain⟨id,fw⟩:∃ v,v=(Cd.aS Cd.full (T9.many T9.bf j s1).2).1:=⟨_,rfl⟩
   rw [← fw]
   have ID:=hid fw
   have LK:Hid (∀ l,(Cd.aS Cd.full (T9.many T9.bf j s1).2).2=some l→l.length≤1099511627776):=hid ((fD _).bound LJ.out)
   have Ta:=hid ht
   have Ra:=hid hr
   clear fw hr ht
   go_wp2_with fail
   obtain⟨wb,hwb⟩:∃ u,wa.alloc (.cells #[.int .u64 (id:Int),.string ⟨#[]⟩] 94)=u:=⟨_,rfl⟩
   rw [hwb]
   obtain⟨lb,bb,zb⟩:=aM hwb
   have Rb:Hid (RS 84 B 5 wb p (Cd.aS Cd.full (T9.many T9.bf j s1).2).2):=hid (by rw [← hwb];exact Ra.out.alloc _)
   have LB:=hid lb
   have Bb:=hid bb
   have CB:=hid (p_ (mz:=60) Rb.out (by decide) LK.out (by decide) (by decide))
   clear lb bb zb
   refine CB.out.mono ?_
   rintro e wc ⟨Ab,nb,cb,rfl,eT,hr,ht⟩
   obtain⟨hnb,_⟩:=aA eT
   obtain⟨x,hx⟩:∃ v,v=(Cd.bQ (60:Int).toNat (Cd.aS Cd.full (T9.many T9.bf j s1).2).2).1:=⟨_,rfl⟩
   have cv:=bR (c:=cb) (aD (B:=0) (t:=5) eT) hnb
   rw [← hx] at cv
   have X:=hid hx
   have Tc:=hid ht
   have Rc:=hid hr
   have qX:=ht.blk LB.out (by decide)
   obtain⟨l0,l1⟩:=ai qX
   have fl1:=aa qX 1
   have LBC:=hid qX
   clear eT hnb hx hr ht qX
   have gc:=Tc.out.blk (ah (Ta.out.blk HI.out.2.2.1 (by decide)) Bb.out) (by decide)
   have GC:=hid gc
   have OWC:=hid (bu (bu (bu HI.out.2.1 Ta.out (by decide)) (aG.of_below (B:=wa.heap.size) Bb.out (Nat.le_refl _) []) (by simp)) Tc.out (by decide))
   have rbc:=Tc.out.blk (ah (Ta.out.blk HI.out.2.2.2.1 (by decide)) Bb.out) (by decide)
   have sa:w1.heap.size+1≤wa.heap.size:=by have:=lt_of_block (Ta.out.blk HI.out.2.2.1 (by decide));omega
   have sb:=lt_of_block LBC.out
   obtain⟨wd,hwd⟩:∃ u,wc.setCell ⟨wa.heap.size,1,none⟩ (.string (str x))=u:=⟨_,rfl⟩
   have ld:wd.heap[wa.heap.size]?=some (.cells #[.int .u64 (id:Int),.string (str x)] 94 (0,0)):=by rw [← hwd];exact (ae LBC.out 1 (.string (str x))).trans rfl
   have gd:wd.heap[w1.heap.size]?=some (.cells #[.slice A1 j c1,.slice none 0 0] 28 (0,0)):=by rw [← hwd];exact aI gc (p:=⟨wa.heap.size,1,none⟩) (by show w1.heap.size≠wa.heap.size;omega) _
   have rd:wd.heap[w.heap.size]?=some (.cells #[.slice none 0 0,.slice none 0 0] 28 (0,0)):=by rw [← hwd];exact aI rbc (p:=⟨wa.heap.size,1,none⟩) (by have:=BZ.out;show w.heap.size≠wa.heap.size;omega) _
   have zd:wd.heap.size=wc.heap.size:=by rw [← hwd,World.size_setCell]
   have ZD:=hid zd
   have zB:B≤wd.heap.size:=by have:=BZ.out;omega
   clear zd
   have OWD:Hid (wd.ownsRow B 94 2 (.slice A1 j c1) j (dV (T9.many T9.bf j s1).1)):=hid (by
    rw [← hwd]
    refine pX OWC.out fun k hk=>Below.heap_setCell wc _ _ k ?_
    have:=(HI.out.2.1.lt k hk).2
    have:=Ta.out.below.size
    show k≠wa.heap.size
    omega)
   have BD:Hid (Below w.heap.size w wd):=hid (by
    rw [← hwd]
    have bz:=BZ.out
    have s3:=zw3.out
    exact (((HI.out.2.2.2.2.trans (Ta.out.below.mono (by omega))).trans (Bb.out.mono (by omega))).trans (Tc.out.below.mono (by omega))).setCell (by show w.heap.size≤wa.heap.size;omega) _)
   have Rd:Hid (RS 84 B 5 wd p (T9.many T9.bf (j+1) s1).2):=hid (by
    rw [T9.aY,← hwd]
    exact Rc.out.cZ ((aG.refl B [94] wc).bB (p:=⟨wa.heap.size,1,none⟩) ⟨_,_,LBC.out⟩ (by simp) (by have:=BZ.out;show B≤wa.heap.size;omega) _) (by decide) (by decide))
   obtain⟨d0,d1⟩:=ai ld
   have e0:=(ai gd).1
   have hbs:=rH ⟨id,x⟩ wd
   have GD:=hid gd
   have RD:=hid rd
   clear gc rbc ld gd rd
   have bz:=BZ.out
   have OWE:=hid (OWD.out.alloc (.cells #[.int .u64 (id:Int),.string (str x)] 94))
   have LE:Hid (av (wd.alloc (.cells #[.int .u64 (id:Int),.string (str x)] 94)) 0 94 (some ⟨wd.heap.size,0,none⟩) (jm ⟨id,x⟩)):=hid (av.dD (heap_alloc_new wd _))
   go_wp2_with (at_builtin;refine aO _ rfl _ _ 25 rfl B 94 li0 _ 2 24 underlying25 lhi lz0 lz1 lz2 rfl (by decide) _ j (dV (T9.many T9.bf j s1).1) rfl OWE.out 0 _ 1 1 (jm ⟨id,x⟩) 94 rfl rfl LE.out (u_ _) (by unfold maxLen;omega) (by omega) (by simp;omega) ?_)
   intro v6 w6 hown6 aP iT
   obtain⟨A6,k6,rfl⟩:=aL hown6
   have g6:=bV OWE.out aP (aW GD.out (.cells #[.int .u64 (id:Int),.string (str x)] 94)) (by decide)
   have r6:=bV OWE.out aP (aW RD.out (.cells #[.int .u64 (id:Int),.string (str x)] 94)) (by decide)
   have T6:Hid (aG B [94] wd w6):=hid (((aG.refl B [94] wd).alloc zB (.cells #[.int .u64 (id:Int),.string (str x)] 94)).trans (dB (B:=B) (ts:=[94]) OWE.out aP (Nat.le_refl _) (by simp;omega) (by simp)))
   have G6:=hid g6
   have R6:=hid r6
   have zD:=hid hown6
   have e60:=(ai g6).1
   have f60:=aa g6 0
   have Y6:Hid (Ty w6 w1.heap.size 28):=hid ⟨_,_,g6⟩
   clear g6 r6 hown6 aP iT hbs d0 d1 e0
   have R7:Hid (RS 84 B 5 (w6.setCell ⟨w1.heap.size,0,none⟩ (.slice A6 (j+1) k6)) p (T9.many T9.bf (j+1) s1).2):=hid ((Rd.out.cZ T6.out (by decide) (by decide)).cZ ((aG.refl B [28] w6).bB (p:=⟨w1.heap.size,0,none⟩) Y6.out (by simp) (by show B≤w1.heap.size;omega) _) (by decide) (by decide))
   have O7:Hid ((w6.setCell ⟨w1.heap.size,0,none⟩ (.slice A6 (j+1) k6)).ownsRow B 94 2 (.slice A6 (j+1) k6) (j+1) (dV (T9.many T9.bf (j+1) s1).1)):=hid (by
    rw [T9.aY,nR]
    have e:(⟨id,x⟩:T9.Li)=(T9.bf (T9.many T9.bf j s1).2).1:=by
     unfold T9.bf
     rw [ID.out,X.out]
     rfl
    rw [← e]
    exact dY zD.out G6.out (by decide) _)
   have uH:Hid ((w6.setCell ⟨w1.heap.size,0,none⟩ (.slice A6 (j+1) k6)).heap[w1.heap.size]?=some (.cells #[.slice A6 (j+1) k6,.slice none 0 0] 28 (0,0))):=hid ((ae G6.out 0 (.slice A6 (j+1) k6)).trans rfl)
   have xc:Hid ((w6.setCell ⟨w1.heap.size,0,none⟩ (.slice A6 (j+1) k6)).heap[w.heap.size]?=some (.cells #[.slice none 0 0,.slice none 0 0] 28 (0,0))):=hid (aI R6.out (p:=⟨w1.heap.size,0,none⟩) (by show w.heap.size≠w1.heap.size;omega) _)
   have B7:Hid (Below w.heap.size w (w6.setCell ⟨w1.heap.size,0,none⟩ (.slice A6 (j+1) k6))):=hid ((BD.out.trans (T6.out.below.mono (by omega))).setCell (by show w.heap.size≤w1.heap.size;omega) _)
   clear sa sb zB bz
   go_wp2
   go_roundw
   case rel=>exact⟨j+1,A6,k6,by go_num,by omega,R7.out,O7.out,uH.out,xc.out,B7.out⟩
   case measure=>simp [intOf];omega
  ·obtain rfl:j=n1:=by omega
   have hltz:¬ ((j:Int)<(j:Int)):=by omega
   have C4:=hid (eB (mz:=60) HI.out.1 (by decide) ((jc j s1).bound L1.out) (by decide))
   go_wp2_with fail
   refine C4.out.mono ?_
   rintro e w4 ⟨rfl,hr,ht⟩
   have nl2:(Cd.aS (60:Int).toNat (T9.many T9.bf j s1).2).1≤60:=(Cd.b_ 60 _).2
   obtain⟨n2,hn2⟩:∃ v,v=(Cd.aS (60:Int).toNat (T9.many T9.bf j s1).2).1:=⟨_,rfl⟩
   rw [← hn2] at nl2 ⊢
   have N2:=hid hn2
   obtain⟨s2,hs2⟩:∃ v,v=(Cd.aS (60:Int).toNat (T9.many T9.bf j s1).2).2:=⟨_,rfl⟩
   rw [← hs2] at hr
   have S2:=hid hs2
   have L2:Hid (∀ l,s2=some l→l.length≤1099511627776):=hid (by rw [hs2];exact ((jc j s1).trans (St.bN 60 _)).bound L1.out)
   have R4:=hid hr
   have RB4:=hid (ht.blk HI.out.2.2.2.1 (by decide))
   have GB4:=hid (ht.blk HI.out.2.2.1 (by decide))
   have OL4:=hid (bu HI.out.2.1 ht (by decide))
   have B4:Hid (Below w.heap.size w w4):=hid (HI.out.2.2.2.2.trans (ht.below.mono (by have:=BZ.out;omega)))
   obtain⟨ki0,khi,kz0,kz1,kz2⟩:=info_parts Tryz.infoTk9
   clear hr ht hn2 hs2
   go_wp2_with fail
   go_loopw [9] (fun s9 wr=>∃ (k:Nat) (A2:Option Addr) (c2:Nat) (ms:List fJ),s9=.int .u64 k∧k≤n2∧ms.length=k∧Aside (RS 84 B 5 wr p (T9.many T9.eU k s2).2∧bg ms=(T9.many T9.eU k s2).1∧(∀ m∈ms,av wr 0 9 m.A (dA m.t.tags)∧m.t.tags.length≤m.c)∧wr.ownsRow B 97 7 (.slice A2 k c2) k (f_ ms)∧wr.ownsRow B 94 2 (.slice A1 j c1) j (dV (T9.many T9.bf j s1).1)∧wr.heap[w1.heap.size]?=some (.cells #[.slice A1 j c1,.slice A2 k c2] 28 (0,0))∧wr.heap[w.heap.size]?=some (.cells #[.slice none 0 0,.slice none 0 0] 28 (0,0))∧Below w.heap.size w wr)) (fun s9 _=>n2 - (intOf s9).toNat)
   case atStart=>exact⟨0,none,0,[],rfl,Nat.zero_le _,rfl,R4.out,rfl,by simp,World.ownsRow_nil _ _ _ _,OL4.out,GB4.out,RB4.out,B4.out⟩
   case round =>
    obtain⟨k,A2,c2,ms,rfl,hk,hml,hJ⟩:=hrel
    have HJ:=hid hJ.out
    have HML:=hid hml
    clear hJ hml
    by_cases hlt2:k<n2
    ·have eD:(k:Int)<(n2:Int):=by omega
     have LJ:Hid (∀ l,(T9.many T9.eU k s2).2=some l→l.length≤1099511627776):=hid ((uD k s2).bound L2.out)
     have CT:=hid (wB (w:=wr.drew) (HJ.out.1.cZ (aG.refl B [] wr).drew (by simp) (by simp)) LJ.out)
     have S0:wr.drew.cell? ⟨w1.heap.size,1,none⟩=some (.slice A2 k c2):=(ai HJ.out.2.2.2.2.2.1).2
     have gz:w1.heap.size<wr.heap.size:=lt_of_block HJ.out.2.2.2.2.2.1
     go_wp2_with fail
     refine Any.begin (S:=fun u=>u.cell? ⟨w1.heap.size,1,none⟩=some (.slice A2 k c2)) (st:=7) pM ?_
     refine Any.take (st:=7) (i:=0) (v:=?_) rfl (by kernel_rfl) (by kernel_rfl) (by kernel_rfl) rfl (by kernel_rfl) (fun _ _ _ h=>h) (Or.inl ⟨by rfl,?_⟩) S0 ?_
     rotate_left
     ·intro u hu
      have hu:u.cell? ⟨w1.heap.size,1,none⟩=some (.slice A2 k c2):=hu
      go_simp
      try rfl
     try simp only [Act.put,List.setIfInBounds_toArray,List.set_cons_zero,List.set_cons_succ,List.getElem_toArray,List.getElem_cons_zero]
     refine Any.take (st:=7) (i:=1) (v:=?_) rfl (by kernel_rfl) (by kernel_rfl) (by kernel_rfl) rfl (by kernel_rfl) (fun _ _ _ h=>h) (Or.inl ⟨by rfl,?_⟩) S0 ?_
     rotate_left
     ·intro u hu
      have hu:u.cell? ⟨w1.heap.size,1,none⟩=some (.slice A2 k c2):=hu
      go_simp
      try rfl
     try simp only [Act.put,pS]
     refine Any.take (st:=7) (i:=2) (v:=?_) rfl (by kernel_rfl) (by kernel_rfl) (by kernel_rfl) rfl (by kernel_rfl) (fun _ _ _ h=>h) (Or.inl ⟨by rfl,?_⟩) S0 ?_
     rotate_left
     ·intro u hu
      have hu:u.cell? ⟨w1.heap.size,1,none⟩=some (.slice A2 k c2):=hu
      go_simp
      try rfl
     try simp only [Act.put,pS]
     clear S0
     refine Any.one (i:=3) (by kernel_rfl) rfl (fun K hK=>?_)
     go_simp
     refine CT.out.mono ?_
     rintro e wa ⟨m,rfl,hmt,hmL,hmc,hr,ht⟩
     have TA:=hid ((aG.refl B [84] wr).drew.trans ht)
     have MT:=hid (And.intro hmt (And.intro hmL (And.intro hmc hr)))
     have ga:=TA.out.blk HJ.out.2.2.2.2.2.1 (by decide)
     have GA:=hid ga
     have RA:=hid (TA.out.blk HJ.out.2.2.2.2.2.2.1 (by decide))
     have xa:=(ai ga).2
     have hbs:=rG m wa
     have zB:=hr.size
     clear hmt hmL hmc hr ht ga
     refine hK _ _ (fun _=>xa) ?_
     clear hK K
     try simp only [Act.put,pS]
     refine Any.one (i:=4) (by kernel_rfl) rfl (fun K hK=>?_)
     go_simp
     refine hK _ _ (fun _=>(ai (aW GA.out _)).2) ?_
     clear hK K hbs
     try simp only [Act.put,pS]
     refine Any.one (i:=5) (by kernel_rfl) rfl (fun K hK=>?_)
     have qF:=hid ((bu HJ.out.2.2.2.1 TA.out (by decide)).alloc (.cells (dO m).toArray 97))
     refine jL rfl _ _ 26 rfl B 97 ki0 _ 7 80 underlying26 khi kz0 kz1 kz2 rfl (by decide) _ k _ rfl qF.out 0 (some ⟨wa.heap.size,0,none⟩) 1 1 (dO m) 97 rfl rfl (av.dD (heap_alloc_new wa _)) (uZ m) (by unfold maxLen;omega) (by omega) (by simp;omega) ?_
     intro v6 w6 hown6 aP iT
     obtain⟨A6,k6,rfl⟩:=aL hown6
     have g6:=bV qF.out aP (aW GA.out (.cells (dO m).toArray 97)) (by decide)
     have r6:=bV qF.out aP (aW RA.out (.cells (dO m).toArray 97)) (by decide)
     have T6:Hid (aG B [97] wa w6):=hid (((aG.refl B [97] wa).alloc zB (.cells (dO m).toArray 97)).trans (dB (B:=B) (ts:=[97]) qF.out aP (Nat.le_refl _) (by simp;omega) (by simp)))
     have G6:=hid g6
     have R6:=hid r6
     have zD:=hid hown6
     have e61:=(ai g6).2
     have f61:=aa g6 1
     have Y6:Hid (Ty w6 w1.heap.size 28):=hid ⟨_,_,g6⟩
     refine hK _ _ (fun _=>e61) ?_
     clear hK K g6 r6 hown6 aP iT xa
     try simp only [Act.put,pS]
     refine Any.one (i:=6) (by kernel_rfl) rfl (fun K hK=>?_)
     go_simp
     refine hK _ _ (fun _=>e61) ?_
     clear hK K
     try simp only [Act.put,pS]
     refine Any.one (i:=7) (by kernel_rfl) rfl (fun K hK=>?_)
     go_simp
     refine hK _ _ (fun e=>absurd rfl e) ?_
     clear hK K
     try simp only [Act.put,List.setIfInBounds_toArray,List.set_cons_zero,List.set_cons_succ,List.getElem_toArray,List.getElem_cons_zero]
     refine Any.done (by kernel_rfl) ?_
     have bz:=BZ.out
     obtain⟨wf,hwf⟩:∃ u,w6.setCell ⟨w1.heap.size,1,none⟩ (.slice A6 (k+1) k6)=u:=⟨_,rfl⟩
     have TS:Hid (aG B [28] w6 wf):=hid (by rw [← hwf];exact (aG.refl B [28] w6).bB (p:=⟨w1.heap.size,1,none⟩) Y6.out (by simp) (by show B≤w1.heap.size;omega) _)
     have G7:Hid (wf.heap[w1.heap.size]?=some (.cells #[.slice A1 j c1,.slice A6 (k+1) k6] 28 (0,0))):=hid (by rw [← hwf];exact (ae G6.out 1 (.slice A6 (k+1) k6)).trans rfl)
     have xc:Hid (wf.heap[w.heap.size]?=some (.cells #[.slice none 0 0,.slice none 0 0] 28 (0,0))):=hid (by rw [← hwf];exact aI R6.out (p:=⟨w1.heap.size,1,none⟩) (by show w.heap.size≠w1.heap.size;omega) _)
     have R7:Hid (RS 84 B 5 wf p (T9.many T9.eU (k+1) s2).2):=hid (by
      rw [T9.aY]
      exact (MT.out.2.2.2.cZ T6.out (by decide) (by decide)).cZ TS.out (by decide) (by decide))
     have K7:Hid (bg (ms++[m])=(T9.many T9.eU (k+1) s2).1):=hid (by rw [T9.aY,gq,HJ.out.2.1,MT.out.1])
     have F7:Hid (∀ q∈ms++[m],av wf 0 9 q.A (dA q.t.tags)∧q.t.tags.length≤q.c):=hid fun q hq=>by
      rcases List.mem_append.1 hq with h | h
      ·obtain⟨h1,h2⟩:=HJ.out.2.2.1 q h
       exact⟨((h1.cZ TA.out.zero (by decide)).cZ T6.out.zero (by decide)).cZ TS.out.zero (by decide),h2⟩
      ·simp only [List.mem_cons,List.not_mem_nil,or_false] at h
       subst h
       exact⟨(MT.out.2.1.cZ T6.out.zero (by decide)).cZ TS.out.zero (by decide),MT.out.2.2.1⟩
     have O7:Hid (wf.ownsRow B 97 7 (.slice A6 (k+1) k6) (k+1) (f_ (ms++[m]))):=hid (by rw [mF];exact bu zD.out TS.out (by decide))
     have P7:Hid (wf.ownsRow B 94 2 (.slice A1 j c1) j (dV (T9.many T9.bf j s1).1)):=hid (bu (bu (bu HJ.out.2.2.2.2.1 TA.out (by decide)) T6.out (by decide)) TS.out (by decide))
     have B7:Hid (Below w.heap.size w wf):=hid (((HJ.out.2.2.2.2.2.2.2.trans (TA.out.below.mono (by omega))).trans (T6.out.below.mono (by omega))).trans (TS.out.below.mono (by omega)))
     have ML7:Hid ((ms++[m]).length=k+1):=hid (by rw [List.length_append,HML.out];rfl)
     clear bz zB gz e61 f61
     rw [hwf]
     go_wp2
     go_roundw
     case rel=>exact⟨k+1,A6,k6,ms++[m],by go_num,by omega,ML7.out,R7.out,K7.out,F7.out,O7.out,P7.out,G7.out,xc.out,B7.out⟩
     case measure=>simp [intOf];omega
    ·obtain rfl:k=n2:=by omega
     have eD:¬ ((k:Int)<(k:Int)):=by omega
     obtain⟨s3,hs3⟩:∃ v,v=(T9.many T9.eU k s2).2:=⟨_,rfl⟩
     have RDE:Hid (T9.qa (some b)=(⟨(T9.many T9.bf j s1).1,bg ms⟩,s3)):=hid (by
      have q1:(Cd.aS 60 (some b)).1=j:=N1.out.symm
      have q2:(Cd.aS 60 (some b)).2=s1:=S1.out.symm
      have q3:(Cd.aS 60 (T9.many T9.bf j s1).2).1=k:=N2.out.symm
      have q4:(Cd.aS 60 (T9.many T9.bf j s1).2).2=s2:=S2.out.symm
      unfold T9.qa
      dsimp only
      rw [q1,q2,q3,q4,← HJ.out.2.1,hs3])
     have RS3:RS 84 B 5 wr p s3:=by rw [hs3];exact HJ.out.1
     have CE:=hid (sZ RS3)
     have rb:=HJ.out.2.2.2.2.2.2.1
     have gb:=HJ.out.2.2.2.2.2.1
     obtain⟨p0,p1⟩:=ai gb
     have LLr:Hid (LL wr A1 (T9.many T9.bf j s1).1):=hid (aD (B:=0) (t:=94) HJ.out.2.2.2.2.1).old
     have KLr:Hid (KL wr A2 ms):=hid ⟨(aD (B:=0) (t:=97) HJ.out.2.2.2.1).old,fun m hm=>⟨(HJ.out.2.2.1 m hm).1.old,(HJ.out.2.2.1 m hm).2⟩⟩
     have ec:=(aA HJ.out.2.2.2.2.1).2
     have ek:=(aA HJ.out.2.2.2.1).2
     have SHT:Hid ((⟨(T9.many T9.bf j s1).1,bg ms⟩:T9.St).short):=hid (by rw [HJ.out.2.1];exact vX (by omega) (by omega))
     have RC:=hid (qg (c:=c1) (c2:=c2) LLr.out KLr.out (T9.bL _ _ _).symm HML.out.symm SHT.out)
     have EC:=hid (And.intro ec ek)
     have BW:=hid HJ.out.2.2.2.2.2.2.2
     have RBW:=hid rb
     have GBW:=hid gb
     clear hs3 RS3 rb gb ec ek
     by_cases he:s3=some []
     ·have ev:dK s3=0:=by rw [he];rfl
      have HE:=hid he
      clear he
      by_cases hr0:T9.aH ⟨(T9.many T9.bf j s1).1,bg ms⟩=0
      ·have HR0:=hid hr0
       rw [hr0] at RC
       have uK:Hid (T9.of b=(⟨(T9.many T9.bf j s1).1,bg ms⟩,0)):=hid (by unfold T9.of;rw [RDE.out,if_pos ⟨HE.out,HR0.out⟩])
       clear hr0
       go_wp2_with (go_at_call 50;refine CE.out.mono ?_;rintro e w' ⟨rfl,rfl⟩)
       refine RC.out.mono ?_
       rintro e w8 ⟨rfl,h8⟩
       have cu:=ah RBW.out h8
       have gb8:=ah GBW.out h8
       obtain⟨d0,d1⟩:=ai cu
       obtain⟨g0,g1⟩:=ai gb8
       have lL:=aa cu 0
       have lM:=aa cu 1
       have fF:Hid (((w8.setCell ⟨w.heap.size,0,none⟩ (.slice A1 j c1)).setCell ⟨w.heap.size,1,none⟩ (.slice A2 k c2)).heap[w.heap.size]?=some (.cells #[.slice A1 j c1,.slice A2 k c2] 28 (0,0))):=hid ((ae (ae cu 0 (.slice A1 j c1)) 1 (.slice A2 k c2)).trans rfl)
       obtain⟨k0,k1⟩:=ai fF.out
       have H8:=hid h8
       have xe:=hid cu
       clear cu gb8 h8 p0 p1
       go_wp2
       refine bodyPost_ret (v:=.tuple #[.agg #[.slice A1 j c1,.slice A2 k c2],.int .i64 0]) (by simp [results,results49,go_sem,k0,k1]) rfl ?_
       have y8:Ty w8 w.heap.size 28:=⟨_,_,xe.out⟩
       have TF:=((aG.refl 0 [28] w8).bB (p:=⟨w.heap.size,0,none⟩) y8 (by simp) (Nat.zero_le _) (.slice A1 j c1)).bB (p:=⟨w.heap.size,1,none⟩) (y8.set _ _) (by simp) (Nat.zero_le _) (.slice A2 k c2)
       have T8:aG 0 [28] wr w8:=(aG.of_below H8.out (Nat.le_refl _) _).zero
       have TG:=T8.trans TF
       refine⟨⟨(T9.many T9.bf j s1).1,A1,c1,ms,A2,c2⟩,?_,⟨?_,?_,?_,?_,?_⟩,?_,?_⟩
       ·rw [uK.out]
        show _=Ending.returned (Value.tuple #[.agg #[.slice A1 (T9.many T9.bf j s1).1.length c1,.slice A2 ms.length c2],.int .i64 0])
        rw [T9.bL,HML.out]
       ·exact (aD (B:=0) (t:=94) HJ.out.2.2.2.2.1).cZ TG (by decide)
       ·exact (aD (B:=0) (t:=97) HJ.out.2.2.2.1).cZ TG (by decide)
       ·exact fun m hm=>⟨(HJ.out.2.2.1 m hm).1.cZ TG (by decide),(HJ.out.2.2.1 m hm).2⟩
       ·show (T9.many T9.bf j s1).1.length≤c1
        rw [T9.bL];exact EC.out.1
       ·show ms.length≤c2
        rw [HML.out];exact EC.out.2
       ·rw [uK.out];rfl
       ·exact ((BW.out.trans (H8.out.mono BW.out.size)).setCell (Nat.le_refl _) _).setCell (Nat.le_refl _) _
      ·have uK:Hid (T9.of b=(⟨[],[]⟩,90)):=hid (by unfold T9.of;rw [RDE.out,if_neg (fun q=>hr0 q.2)])
       have hz:(T9.aH ⟨(T9.many T9.bf j s1).1,bg ms⟩==0)=false:=by simp [hr0]
       have hz2:(T9.aH ⟨(T9.many T9.bf j s1).1,bg ms⟩ != 0)=true:=by simp [hr0]
       go_wp2_with (go_at_call 50;refine CE.out.mono ?_;rintro e w' ⟨rfl,rfl⟩)
       refine RC.out.mono ?_
       rintro e w8 ⟨rfl,h8⟩
       have cu:=ah RBW.out h8
       obtain⟨d0,d1⟩:=ai cu
       have lL:=aa cu 0
       have lM:=aa cu 1
       have fF:Hid (((w8.setCell ⟨w.heap.size,0,none⟩ (.slice none 0 0)).setCell ⟨w.heap.size,1,none⟩ (.slice none 0 0)).heap[w.heap.size]?=some (.cells #[.slice none 0 0,.slice none 0 0] 28 (0,0))):=hid ((ae (ae cu 0 (.slice none 0 0)) 1 (.slice none 0 0)).trans rfl)
       obtain⟨k0,k1⟩:=ai fF.out
       have H8:=hid h8
       clear cu h8 p0 p1
       go_wp2
       refine bodyPost_ret (v:=.tuple #[.agg #[.slice none 0 0,.slice none 0 0],.int .i64 90]) (by simp [results,results49,go_sem,k0,k1]) rfl ?_
       exact⟨⟨[],none,0,[],none,0⟩,by rw [uK.out];rfl,⟨av.nil,av.nil,by simp,Nat.le_refl _,Nat.le_refl _⟩,by rw [uK.out];rfl,((BW.out.trans (H8.out.mono BW.out.size)).setCell (Nat.le_refl _) _).setCell (Nat.le_refl _) _⟩
     ·have uK:Hid (T9.of b=(⟨[],[]⟩,90)):=hid (by unfold T9.of;rw [RDE.out,if_neg (fun q=>he q.1)])
      have ev:dK s3=20:=by
       unfold dK
       split
       ·exact absurd rfl he
       ·rfl
      have h8:Below wr.heap.size wr wr:=Below.refl _ _
      have cu:=RBW.out
      clear he
      obtain⟨d0,d1⟩:=ai cu
      have lL:=aa cu 0
      have lM:=aa cu 1
      have fF:Hid (((wr.setCell ⟨w.heap.size,0,none⟩ (.slice none 0 0)).setCell ⟨w.heap.size,1,none⟩ (.slice none 0 0)).heap[w.heap.size]?=some (.cells #[.slice none 0 0,.slice none 0 0] 28 (0,0))):=hid ((ae (ae cu 0 (.slice none 0 0)) 1 (.slice none 0 0)).trans rfl)
      obtain⟨k0,k1⟩:=ai fF.out
      have H8:=hid h8
      clear cu h8 p0 p1
      go_wp2_with (go_at_call 50;refine CE.out.mono ?_;rintro e w' ⟨rfl,rfl⟩)
      refine bodyPost_ret (v:=.tuple #[.agg #[.slice none 0 0,.slice none 0 0],.int .i64 90]) (by simp [results,results49,go_sem,k0,k1]) rfl ?_
      exact⟨⟨[],none,0,[],none,0⟩,by rw [uK.out];rfl,⟨av.nil,av.nil,by simp,Nat.le_refl _,Nat.le_refl _⟩,by rw [uK.out];rfl,((BW.out.trans (H8.out.mono BW.out.size)).setCell (Nat.le_refl _) _).setCell (Nat.le_refl _) _⟩
end
end
section
section
open Go.RowKit Go.Lib
theorem xZ {A:Option Addr} {n c:Nat} {b:List UInt8} {w:World} {D:Nat} {td:TypeId} (h:av w D td A (af b)) (hn:n=b.length) (hcap:n≤c) (hb:n≤1000000000) (hD:D≤w.heap.size) :
  Calls prog 96 #[.slice A n c] w (jd b w):=by
 obtain⟨w0,hw0⟩:∃ u,w.alloc (.cells #[.int .i64 0,.int .u64 0,.int .u64 0,.string ⟨#[]⟩,.float .f64 0,.bool false] 55)=u:=⟨_,rfl⟩
 obtain⟨kK,b0,z0⟩:=a_ hw0
 have qH:=hid kK
 have B0:=hid b0
 have Cy:∃ u,w0.alloc (.cells #[.slice A n c,.bool false] 84)=u:=⟨_,rfl⟩
 obtain⟨w1,hw1⟩:=Cy
 obtain⟨DC,hb1,z1⟩:=aM hw1
 obtain⟨p,hp⟩:∃ p,w0.heap.size=p:=⟨_,rfl⟩
 have hr:RS 84 w0.heap.size 5 w1 p (some b):=by
  refine⟨by omega,A,c,by omega,by rw [← hp,← hn];exact DC,?_⟩
  exact ((h.more hD).old (t':=5) |>.below (Nat.le_refl _) (b0.trans (hb1.mono (by omega)))).more (by omega)
 have wY:Hid (b.length≤1000000000):=hid (by omega)
 have Cz:w0.heap.size=w.heap.size+1:=z0
 have oI:=hid (ah qH.out hb1)
 have B1:=hid (B0.out.trans (hb1.mono (by omega)))
 obtain⟨B,hB⟩:∃ v,v=w0.heap.size:=⟨_,rfl⟩
 rw [← hB] at hr
 have BZ:Hid (w.heap.size+1=B∧B≤w1.heap.size):=hid ⟨by omega,by have:=hb1.size;omega⟩
 have L0:Hid (∀ l,some b=some l→l.length≤1099511627776):=hid (by intro l e;injection e with e;subst e;have:=wY.out;omega)
 have N1:=hid (eB (mz:=13) hr (by decide) L0.out (by decide))
 clear h kK b0 hn hb hcap DC z1 Cz hr hb1 hB z0
 go_enter func96,ntmps96
 go_wp2_with fail
 refine N1.out.mono ?_
 rintro e w2 ⟨rfl,hr,ht⟩
 clear hw0 hw1 hp
 have i13:(Cd.aS (13:Int).toNat (some b)).1≤13:=(Cd.b_ 13 (some b)).2
 obtain⟨i0,hi0⟩:∃ v,v=(Cd.aS (13:Int).toNat (some b)).1:=⟨_,rfl⟩
 rw [← hi0] at i13 ⊢
 have I0:=hid hi0
 have hwr:IntKind.i64.wrap (i0:Int)=(i0:Int):=by rw [IntKind.wrap_i64];omega
 have qJ:=hid (St.bN 13 (some b))
 have hr:RS 84 B 5 w2 p (T9.m1 (some b)):=hr
 have w_:=hid (ht.blk oI.out (by decide))
 have xh:Hid (aG B [84] w1 w2):=hid ht
 have GZ:Hid (w.heap.size+1≤w2.heap.size∧B≤w2.heap.size):=hid (by have:=ht.size;have:=BZ.out;omega)
 clear hi0 ht i13
 go_wp2_with fail
 obtain⟨w3,hw3⟩:∃ u,w2.alloc (.cells #[.int .i64 (i0:Int),.int .u64 0,.int .u64 0,.string ⟨#[]⟩,.float .f64 0,.bool false] 55)=u:=⟨_,rfl⟩
 rw [hw3]
 obtain⟨pE,b3,z3⟩:=a_ hw3
 have R3:Hid (RS 84 B 5 w3 p (T9.m1 (some b))):=hid (by rw [← hw3];exact hr.alloc _)
 have qI:=hid (ah w_.out b3)
 have LB3:=hid pE
 have B3:Hid (Below w.heap.size w w3):=hid ((B1.out.trans (xh.out.below.mono (by have:=BZ.out;omega))).trans (b3.mono (by have:=GZ.out;omega)))
 have GG:Hid (w.heap.size<w2.heap.size∧B≤w2.heap.size):=hid (by have:=GZ.out;omega)
 clear hr pE b3 z3 hw3
 have C1:=hid (eB (mz:=18446744073709551615) R3.out (by decide) (qJ.out.bound L0.out) (by decide))
 rw [aQ] at C1
 refine C1.out.mono ?_
 rintro e w4 ⟨rfl,hr,ht⟩
 obtain⟨i1,hi1⟩:∃ v,v=(Cd.aS Cd.full (T9.m1 (some b))).1:=⟨_,rfl⟩
 rw [← hi1]
 have I1:=hid hi1
 have hr:RS 84 B 5 w4 p (T9.m2 (some b)):=hr
 have lb:=ht.blk LB3.out (by decide)
 have rb:=ht.blk qI.out (by decide)
 have yy:Ty w4 w2.heap.size 55:=⟨_,_,lb⟩
 obtain⟨c0,c1,c2,c3,c4,c5⟩:=au lb
 have f5:=aa lb 1
 obtain⟨w5,qU⟩:∃ u,w4.setCell ⟨w2.heap.size,1,none⟩ (.int .u64 (i1:Int))=u:=⟨_,rfl⟩
 have LB5:Hid (w5.heap[w2.heap.size]?=some (.cells #[.int .i64 (i0:Int),.int .u64 (i1:Int),.int .u64 0,.string ⟨#[]⟩,.float .f64 0,.bool false] 55 (0,0))):=hid (by rw [← qU];exact (ae lb 1 (.int .u64 (i1:Int))).trans rfl)
 have RB5:Hid (w5.heap[w.heap.size]?=some (.cells #[.int .i64 0,.int .u64 0,.int .u64 0,.string ⟨#[]⟩,.float .f64 0,.bool false] 55 (0,0))):=hid (by rw [← qU];exact aI rb (p:=⟨w2.heap.size,1,none⟩) (by have:=GG.out;show w.heap.size≠w2.heap.size;omega) (.int .u64 (i1:Int)))
 have R5:Hid (RS 84 B 5 w5 p (T9.m2 (some b))):=hid (by rw [← qU];exact hr.gF yy GG.out.2 (by decide) (by decide) _ _)
 have B5:Hid (Below w.heap.size w w5):=hid (by rw [← qU];exact (B3.out.trans (ht.below.mono (by have:=BZ.out;omega))).setCell (by have:=GG.out;show w.heap.size≤w2.heap.size;omega) _)
 have rA:=hid (qJ.out.trans (St.bN Cd.full (T9.m1 (some b))))
 clear hr ht hi1 lb rb yy
 have C2:=hid (eB (mz:=18446744073709551615) R5.out (by decide) (rA.out.bound L0.out) (by decide))
 rw [aQ] at C2
 go_wp2_with fail
 refine C2.out.mono ?_
 rintro e w6 ⟨rfl,hr,ht⟩
 obtain⟨i2,hi2⟩:∃ v,v=(Cd.aS Cd.full (T9.m2 (some b))).1:=⟨_,rfl⟩
 rw [← hi2]
 have I2:=hid hi2
 have hr:RS 84 B 5 w6 p (T9.m3 (some b)):=hr
 have lb:=ht.blk LB5.out (by decide)
 have rb:=ht.blk RB5.out (by decide)
 have yy:Ty w6 w2.heap.size 55:=⟨_,_,lb⟩
 obtain⟨c0,c1,c2,c3,c4,c5⟩:=au lb
 have f5:=aa lb 2
 obtain⟨w7,hw7⟩:∃ u,w6.setCell ⟨w2.heap.size,2,none⟩ (.int .u64 (i2:Int))=u:=⟨_,rfl⟩
 have uH:Hid (w7.heap[w2.heap.size]?=some (.cells #[.int .i64 (i0:Int),.int .u64 (i1:Int),.int .u64 (i2:Int),.string ⟨#[]⟩,.float .f64 0,.bool false] 55 (0,0))):=hid (by rw [← hw7];exact (ae lb 2 (.int .u64 (i2:Int))).trans rfl)
 have xc:Hid (w7.heap[w.heap.size]?=some (.cells #[.int .i64 0,.int .u64 0,.int .u64 0,.string ⟨#[]⟩,.float .f64 0,.bool false] 55 (0,0))):=hid (by rw [← hw7];exact aI rb (p:=⟨w2.heap.size,2,none⟩) (by have:=GG.out;show w.heap.size≠w2.heap.size;omega) (.int .u64 (i2:Int)))
 have R7:Hid (RS 84 B 5 w7 p (T9.m3 (some b))):=hid (by rw [← hw7];exact hr.gF yy GG.out.2 (by decide) (by decide) _ _)
 have B7:Hid (Below w.heap.size w w7):=hid (by rw [← hw7];exact (B5.out.trans (ht.below.mono (by have:=BZ.out;omega))).setCell (by have:=GG.out;show w.heap.size≤w2.heap.size;omega) _)
 have uL:=hid (rA.out.trans (St.bN Cd.full (T9.m2 (some b))))
 clear hr ht hi2 lb rb yy
 have C3:=hid (p_ (mz:=60) R7.out (by decide) (uL.out.bound L0.out) (by decide) (by decide))
 go_wp2_with fail
 refine C3.out.mono ?_
 rintro e w8 ⟨Ab,nb,cb,rfl,eT,hr,ht⟩
 obtain⟨hnb,_⟩:=aA eT
 obtain⟨i3,hi3⟩:∃ v,v=(Cd.bQ 60 (T9.m3 (some b))).1:=⟨_,rfl⟩
 have cv:=bR (c:=cb) (aD (B:=0) (t:=5) eT) hnb
 rw [show (Cd.bQ (60:Int).toNat (T9.m3 (some b))).1=i3 from hi3.symm] at cv
 have I3:=hid hi3
 have hr:RS 84 B 5 w8 p (T9.m4 (some b)):=hr
 have lb:=ht.blk uH.out (by decide)
 have rb:=ht.blk xc.out (by decide)
 have yy:Ty w8 w2.heap.size 55:=⟨_,_,lb⟩
 obtain⟨c0,c1,c2,c3,c4,c5⟩:=au lb
 have f5:=aa lb 3
 obtain⟨w9,vB⟩:∃ u,w8.setCell ⟨w2.heap.size,3,none⟩ (.string (str i3))=u:=⟨_,rfl⟩
 have Bv:Hid (w9.heap[w2.heap.size]?=some (.cells #[.int .i64 (i0:Int),.int .u64 (i1:Int),.int .u64 (i2:Int),.string (str i3),.float .f64 0,.bool false] 55 (0,0))):=hid (by rw [← vB];exact (ae lb 3 (.string (str i3))).trans rfl)
 have RB9:Hid (w9.heap[w.heap.size]?=some (.cells #[.int .i64 0,.int .u64 0,.int .u64 0,.string ⟨#[]⟩,.float .f64 0,.bool false] 55 (0,0))):=hid (by rw [← vB];exact aI rb (p:=⟨w2.heap.size,3,none⟩) (by have:=GG.out;show w.heap.size≠w2.heap.size;omega) (.string (str i3)))
 have R9:Hid (RS 84 B 5 w9 p (T9.m4 (some b))):=hid (by rw [← vB];exact hr.gF yy GG.out.2 (by decide) (by decide) _ _)
 have B9:Hid (Below w.heap.size w w9):=hid (by rw [← vB];exact (B7.out.trans (ht.below.mono (by have:=BZ.out;omega))).setCell (by have:=GG.out;show w.heap.size≤w2.heap.size;omega) _)
 have uM:=hid (uL.out.trans (St.nX 60 (T9.m3 (some b))))
 clear hr ht hi3 lb rb yy eT hnb
 have C4:=hid (Dz R9.out (by decide) (uM.out.bound L0.out))
 go_wp2_with fail
 refine C4.out.mono ?_
 rintro e lv ⟨rfl,hr,ht⟩
 obtain⟨i4,hi4⟩:∃ v,v=(Cd.jg (T9.m4 (some b))).1:=⟨_,rfl⟩
 rw [← hi4]
 have I4:=hid hi4
 have hr:RS 84 B 5 lv p (T9.m5 (some b)):=hr
 have lb:=ht.blk Bv.out (by decide)
 have rb:=ht.blk RB9.out (by decide)
 have yy:Ty lv w2.heap.size 55:=⟨_,_,lb⟩
 obtain⟨c0,c1,c2,c3,c4,c5⟩:=au lb
 have f5:=aa lb 4
 obtain⟨mI,tN⟩:∃ u,lv.setCell ⟨w2.heap.size,4,none⟩ (.float .f64 i4)=u:=⟨_,rfl⟩
 have Bu:Hid (mI.heap[w2.heap.size]?=some (.cells #[.int .i64 (i0:Int),.int .u64 (i1:Int),.int .u64 (i2:Int),.string (str i3),.float .f64 i4,.bool false] 55 (0,0))):=hid (by rw [← tN];exact (ae lb 4 (.float .f64 i4)).trans rfl)
 have RB11:Hid (mI.heap[w.heap.size]?=some (.cells #[.int .i64 0,.int .u64 0,.int .u64 0,.string ⟨#[]⟩,.float .f64 0,.bool false] 55 (0,0))):=hid (by rw [← tN];exact aI rb (p:=⟨w2.heap.size,4,none⟩) (by have:=GG.out;show w.heap.size≠w2.heap.size;omega) (.float .f64 i4))
 have R11:Hid (RS 84 B 5 mI p (T9.m5 (some b))):=hid (by rw [← tN];exact hr.gF yy GG.out.2 (by decide) (by decide) _ _)
 have B11:Hid (Below w.heap.size w mI):=hid (by rw [← tN];exact (B9.out.trans (ht.below.mono (by have:=BZ.out;omega))).setCell (by have:=GG.out;show w.heap.size≤w2.heap.size;omega) _)
 have xg:=hid (uM.out.trans (jK (T9.m4 (some b))))
 clear hr ht hi4 lb rb yy
 have C5:=hid (rG_rr R11.out (by decide) (xg.out.bound L0.out))
 go_wp2_with fail
 refine C5.out.mono ?_
 rintro e mK ⟨rfl,hr,ht⟩
 obtain⟨i5,hi5⟩:∃ v,v=(Cd.kz (T9.m5 (some b))).1:=⟨_,rfl⟩
 rw [← hi5]
 have I5:=hid hi5
 have hr:RS 84 B 5 mK p (T9.m6 (some b)):=hr
 have lb:=ht.blk Bu.out (by decide)
 have rb:=ht.blk RB11.out (by decide)
 have yy:Ty mK w2.heap.size 55:=⟨_,_,lb⟩
 obtain⟨c0,c1,c2,c3,c4,c5⟩:=au lb
 have f5:=aa lb 5
 obtain⟨n_,tO⟩:∃ u,mK.setCell ⟨w2.heap.size,5,none⟩ (.bool i5)=u:=⟨_,rfl⟩
 have sH:Hid (n_.heap[w2.heap.size]?=some (.cells #[.int .i64 (i0:Int),.int .u64 (i1:Int),.int .u64 (i2:Int),.string (str i3),.float .f64 i4,.bool i5] 55 (0,0))):=hid (by rw [← tO];exact (ae lb 5 (.bool i5)).trans rfl)
 have oJ:Hid (n_.heap[w.heap.size]?=some (.cells #[.int .i64 0,.int .u64 0,.int .u64 0,.string ⟨#[]⟩,.float .f64 0,.bool false] 55 (0,0))):=hid (by rw [← tO];exact aI rb (p:=⟨w2.heap.size,5,none⟩) (by have:=GG.out;show w.heap.size≠w2.heap.size;omega) (.bool i5))
 have R13:Hid (RS 84 B 5 n_ p (T9.m6 (some b))):=hid (by rw [← tO];exact hr.gF yy GG.out.2 (by decide) (by decide) _ _)
 have Bp:Hid (Below w.heap.size w n_):=hid (by rw [← tO];exact (B11.out.trans (ht.below.mono (by have:=BZ.out;omega))).setCell (by have:=GG.out;show w.heap.size≤w2.heap.size;omega) _)
 have SH6:=hid (xg.out.trans (St.wG (T9.m5 (some b))))
 clear hr ht hi5 lb rb yy
 have CE:=hid (sZ R13.out)
 obtain⟨s6,hs6⟩:∃ v,v=T9.m6 (some b):=⟨_,rfl⟩
 rw [← hs6] at CE
 have S6:=hid hs6
 have ME:Hid ((T9.nu (some b))=(⟨(i0:Int),i1,i2,i3,i4,i5⟩,s6)):=hid (by
  unfold T9.nu
  rw [I1.out,I2.out,I3.out,I4.out,I5.out,hs6,I0.out]
  rfl)
 have TX:Hid (i3.length≤200):=hid (by rw [I3.out];have:=gX 60 (T9.m3 (some b));omega)
 clear hs6
 by_cases he:s6=some []
 ·have ev:dK s6=0:=by rw [he];rfl
  have HE:=hid he
  clear he
  obtain⟨c0,c1,c2,c3,c4,c5⟩:=au sH.out
  have CC:=hid (qf (m:=⟨(i0:Int),i1,i2,i3,i4,i5⟩) (w:=n_) (by have:=TX.out;show i3.length≤1000000;omega))
  unfold T9.Mu.val at CC
  dsimp only at CC
  by_cases hc:T9.aU ⟨(i0:Int),i1,i2,i3,i4,i5⟩=0
  ·rw [hc] at CC
   have OF:Hid (T9.kS b=(⟨(i0:Int),i1,i2,i3,i4,i5⟩,0)):=hid (by unfold T9.kS;rw [ME.out,if_pos ⟨HE.out,hc⟩])
   clear hc
   go_wp2_with (go_at_call 50;refine CE.out.mono ?_;rintro e w' ⟨rfl,rfl⟩)
   refine CC.out.mono ?_
   rintro e Ec ⟨rfl,h8⟩
   have cu:=ah oJ.out h8
   obtain⟨c0,c1,c2,c3,c4,c5⟩:=au (ah sH.out h8)
   have BW:=hid (Bp.out.trans (h8.mono Bp.out.size))
   clear h8
   obtain⟨d0,d1,d2,d3,d4,d5⟩:=au cu
   have lL:=aa cu 0
   have lM:=aa cu 1
   have qN:=aa cu 2
   have qO:=aa cu 3
   have qP:=aa cu 4
   have qQ:=aa cu 5
   have fF:Hid (((((((Ec.setCell ⟨w.heap.size,0,none⟩ (.int .i64 (i0:Int))).setCell ⟨w.heap.size,1,none⟩ (.int .u64 (i1:Int))).setCell ⟨w.heap.size,2,none⟩ (.int .u64 (i2:Int))).setCell ⟨w.heap.size,3,none⟩ (.string (str i3))).setCell ⟨w.heap.size,4,none⟩ (.float .f64 i4)).setCell ⟨w.heap.size,5,none⟩ (.bool i5)).heap[w.heap.size]?=some (.cells #[.int .i64 (i0:Int),.int .u64 (i1:Int),.int .u64 (i2:Int),.string (str i3),.float .f64 i4,.bool i5] 55 (0,0))):=hid ((ae (ae (ae (ae (ae (ae cu 0 (.int .i64 (i0:Int))) 1 (.int .u64 (i1:Int))) 2 (.int .u64 (i2:Int))) 3 (.string (str i3))) 4 (.float .f64 i4)) 5 (.bool i5)).trans rfl)
   obtain⟨k0,k1,k2,k3,k4,k5⟩:=au fF.out
   have iN:Hid (Below w.heap.size w ((((((Ec.setCell ⟨w.heap.size,0,none⟩ (.int .i64 (i0:Int))).setCell ⟨w.heap.size,1,none⟩ (.int .u64 (i1:Int))).setCell ⟨w.heap.size,2,none⟩ (.int .u64 (i2:Int))).setCell ⟨w.heap.size,3,none⟩ (.string (str i3))).setCell ⟨w.heap.size,4,none⟩ (.float .f64 i4)).setCell ⟨w.heap.size,5,none⟩ (.bool i5))):=hid ((((((BW.out.setCell (Nat.le_refl _) _).setCell (Nat.le_refl _) _).setCell (Nat.le_refl _) _).setCell (Nat.le_refl _) _).setCell (Nat.le_refl _) _).setCell (Nat.le_refl _) _)
   clear cu
   go_wp2
   refine bodyPost_ret (v:=.tuple #[.agg #[.int .i64 (i0:Int),.int .u64 (i1:Int),.int .u64 (i2:Int),.string (str i3),.float .f64 i4,.bool i5],.int .i64 0]) (by simp [results,results96,go_sem,k0,k1,k2,k3,k4,k5]) rfl ?_
   exact jd.good OF.out iN.out
  ·have OF:Hid (T9.kS b=(T9.Mu.no,110)):=hid (by unfold T9.kS;rw [ME.out,if_neg (fun q=>hc q.2)])
   obtain⟨ce,hce⟩:∃ v,T9.aU ⟨(i0:Int),i1,i2,i3,i4,i5⟩=v:=⟨_,rfl⟩
   rw [hce] at CC hc
   have hz:(ce==0)=false:=by simp [hc]
   have hz2:(ce != 0)=true:=by simp [hc]
   clear hc hce
   go_wp2_with (go_at_call 50;refine CE.out.mono ?_;rintro e w' ⟨rfl,rfl⟩)
   refine CC.out.mono ?_
   rintro e Ec ⟨rfl,h8⟩
   have cu:=ah oJ.out h8
   have BW:=hid (Bp.out.trans (h8.mono Bp.out.size))
   clear h8 c0 c1 c2 c3 c4 c5
   obtain⟨d0,d1,d2,d3,d4,d5⟩:=au cu
   have lL:=aa cu 0
   have lM:=aa cu 1
   have qN:=aa cu 2
   have qO:=aa cu 3
   have qP:=aa cu 4
   have qQ:=aa cu 5
   have fF:Hid (((((((Ec.setCell ⟨w.heap.size,0,none⟩ (.int .i64 0)).setCell ⟨w.heap.size,1,none⟩ (.int .u64 0)).setCell ⟨w.heap.size,2,none⟩ (.int .u64 0)).setCell ⟨w.heap.size,3,none⟩ (.string ⟨#[]⟩)).setCell ⟨w.heap.size,4,none⟩ (.float .f64 0)).setCell ⟨w.heap.size,5,none⟩ (.bool false)).heap[w.heap.size]?=some (.cells #[.int .i64 0,.int .u64 0,.int .u64 0,.string ⟨#[]⟩,.float .f64 0,.bool false] 55 (0,0))):=hid ((ae (ae (ae (ae (ae (ae cu 0 (.int .i64 0)) 1 (.int .u64 0)) 2 (.int .u64 0)) 3 (.string ⟨#[]⟩)) 4 (.float .f64 0)) 5 (.bool false)).trans rfl)
   obtain⟨k0,k1,k2,k3,k4,k5⟩:=au fF.out
   have iN:Hid (Below w.heap.size w ((((((Ec.setCell ⟨w.heap.size,0,none⟩ (.int .i64 0)).setCell ⟨w.heap.size,1,none⟩ (.int .u64 0)).setCell ⟨w.heap.size,2,none⟩ (.int .u64 0)).setCell ⟨w.heap.size,3,none⟩ (.string ⟨#[]⟩)).setCell ⟨w.heap.size,4,none⟩ (.float .f64 0)).setCell ⟨w.heap.size,5,none⟩ (.bool false))):=hid ((((((BW.out.setCell (Nat.le_refl _) _).setCell (Nat.le_refl _) _).setCell (Nat.le_refl _) _).setCell (Nat.le_refl _) _).setCell (Nat.le_refl _) _).setCell (Nat.le_refl _) _)
   clear cu
   go_wp2
   refine bodyPost_ret (v:=.tuple #[.agg #[.int .i64 0,.int .u64 0,.int .u64 0,.string ⟨#[]⟩,.float .f64 0,.bool false],.int .i64 110]) (by simp [results,results96,go_sem,k0,k1,k2,k3,k4,k5]) rfl ?_
   exact jd.bad OF.out iN.out
 ·have OF:Hid (T9.kS b=(T9.Mu.no,110)):=hid (by unfold T9.kS;rw [ME.out,if_neg (fun q=>he q.1)])
  have ev:dK s6=20:=by
   unfold dK
   split
   ·exact absurd rfl he
   ·rfl
  have cu:=oJ.out
  have BW:=hid Bp.out
  clear he
  obtain⟨d0,d1,d2,d3,d4,d5⟩:=au cu
  have lL:=aa cu 0
  have lM:=aa cu 1
  have qN:=aa cu 2
  have qO:=aa cu 3
  have qP:=aa cu 4
  have qQ:=aa cu 5
  have fF:Hid (((((((n_.setCell ⟨w.heap.size,0,none⟩ (.int .i64 0)).setCell ⟨w.heap.size,1,none⟩ (.int .u64 0)).setCell ⟨w.heap.size,2,none⟩ (.int .u64 0)).setCell ⟨w.heap.size,3,none⟩ (.string ⟨#[]⟩)).setCell ⟨w.heap.size,4,none⟩ (.float .f64 0)).setCell ⟨w.heap.size,5,none⟩ (.bool false)).heap[w.heap.size]?=some (.cells #[.int .i64 0,.int .u64 0,.int .u64 0,.string ⟨#[]⟩,.float .f64 0,.bool false] 55 (0,0))):=hid ((ae (ae (ae (ae (ae (ae cu 0 (.int .i64 0)) 1 (.int .u64 0)) 2 (.int .u64 0)) 3 (.string ⟨#[]⟩)) 4 (.float .f64 0)) 5 (.bool false)).trans rfl)
  obtain⟨k0,k1,k2,k3,k4,k5⟩:=au fF.out
  have iN:Hid (Below w.heap.size w ((((((n_.setCell ⟨w.heap.size,0,none⟩ (.int .i64 0)).setCell ⟨w.heap.size,1,none⟩ (.int .u64 0)).setCell ⟨w.heap.size,2,none⟩ (.int .u64 0)).setCell ⟨w.heap.size,3,none⟩ (.string ⟨#[]⟩)).setCell ⟨w.heap.size,4,none⟩ (.float .f64 0)).setCell ⟨w.heap.size,5,none⟩ (.bool false))):=hid ((((((BW.out.setCell (Nat.le_refl _) _).setCell (Nat.le_refl _) _).setCell (Nat.le_refl _) _).setCell (Nat.le_refl _) _).setCell (Nat.le_refl _) _).setCell (Nat.le_refl _) _)
  clear cu
  go_wp2_with (go_at_call 50;refine CE.out.mono ?_;rintro e w' ⟨rfl,rfl⟩)
  refine bodyPost_ret (v:=.tuple #[.agg #[.int .i64 0,.int .u64 0,.int .u64 0,.string ⟨#[]⟩,.float .f64 0,.bool false],.int .i64 110]) (by simp [results,results96,go_sem,k0,k1,k2,k3,k4,k5]) rfl ?_
  exact jd.bad OF.out iN.out
end
end
section
section
open Go.RowKit Go.Lib
@[go_sem] theorem buildI15z (w : World) : (Instr.build 57 #[]).run prog w = .ok (.agg #[.int .u64 0, .int .u64 0, .int .i64 0, .int .u64 0, .int .u64 0, .string ⟨#[]⟩, .float .f64 0, .bool false]) w := run_build w 57 _ _ (by kernel_rfl)
def iA (b:List UInt8) (w:World) (e:Ending) (w':World):Prop:=e=.returned (.tuple #[(T9.fB 60000 b).1.val,.int .i64 (T9.fB 60000 b).2])∧Below w.heap.size w w'
theorem iA.good {b:List UInt8} {i0 i1:Nat} {mo:T9.Mu} {w w':World} (h:T9.fB 60000 b=(⟨i0,i1,mo⟩,0)) (hb:Below w.heap.size w w'):iA b w (.returned (.tuple #[.agg #[.int .u64 (i0:Int),.int .u64 (i1:Int),.int .i64 mo.kind,.int .u64 (mo.id:Int),.int .u64 (mo.list:Int),.string (str mo.text),.float .f64 mo.f,.bool mo.flag],.int .i64 0])) w':=⟨by rw [h];rfl,hb⟩
theorem iA.bad {b:List UInt8} {w w':World} (h:T9.fB 60000 b=(T9.It.no,150)) (hb:Below w.heap.size w w'):iA b w (.returned (.tuple #[.agg #[.int .u64 0,.int .u64 0,.int .i64 0,.int .u64 0,.int .u64 0,.string ⟨#[]⟩,.float .f64 0,.bool false],.int .i64 150])) w':=⟨by rw [h];rfl,hb⟩
theorem DW (s:Option (List UInt8)):St.jO s (T9.i2 s):=(St.bN Cd.full s).trans (St.bN Cd.full _)
theorem v_ {A:Option Addr} {n c:Nat} {b:List UInt8} {w:World} {D:Nat} {td:TypeId} (h:av w D td A (af b)) (hn:n=b.length) (hcap:n≤c) (hb:n≤60000) (hD:D≤w.heap.size) :
  Calls prog 47 #[.slice A n c] w (iA b w):=by
 subst hn
 obtain⟨w0,hw0⟩:∃ u,w.alloc (.cells #[.int .u64 0,.int .u64 0,.int .i64 0,.int .u64 0,.int .u64 0,.string ⟨#[]⟩,.float .f64 0,.bool false] 57)=u:=⟨_,rfl⟩
 obtain⟨kK,b0,z0⟩:=bi hw0
 have qH:=hid kK
 have B0:=hid b0
 have Cy:∃ u,w0.alloc (.cells #[.slice A b.length c,.bool false] 84)=u:=⟨_,rfl⟩
 obtain⟨w1,hw1⟩:=Cy
 obtain⟨DC,hb1,z1⟩:=aM hw1
 obtain⟨p,hp⟩:∃ p,w0.heap.size=p:=⟨_,rfl⟩
 have hr:RS 84 w0.heap.size 5 w1 p (some b):=by
  refine⟨by omega,A,c,by omega,by rw [← hp];exact DC,?_⟩
  exact ((h.more hD).old (t':=5) |>.below (Nat.le_refl _) (b0.trans (hb1.mono (by omega)))).more (by omega)
 have wY:Hid (b.length≤60000):=hid hb
 have Cz:w0.heap.size=w.heap.size+1:=z0
 have oI:=hid (ah qH.out hb1)
 have B1:=hid (B0.out.trans (hb1.mono (by omega)))
 obtain⟨B,hB⟩:∃ v,v=w0.heap.size:=⟨_,rfl⟩
 rw [← hB] at hr
 have BZ:Hid (w.heap.size+1=B∧B≤w1.heap.size):=hid ⟨by omega,by have:=hb1.size;omega⟩
 have L0:Hid (∀ l,some b=some l→l.length≤1099511627776):=hid (by intro l e;injection e with e;subst e;have:=wY.out;omega)
 have N1:=hid (eB (mz:=18446744073709551615) hr (by decide) L0.out (by decide))
 rw [aQ] at N1
 clear h kK b0 hb hcap DC z1 Cz hr hb1 hB z0
 go_enter func47,ntmps47
 go_wp2_with fail
 refine N1.out.mono ?_
 rintro e w2 ⟨rfl,hr,ht⟩
 clear hw0 hw1 hp
 obtain⟨i0,hi0⟩:∃ v,v=(Cd.aS Cd.full (some b)).1:=⟨_,rfl⟩
 rw [← hi0]
 have I0:=hid hi0
 have qJ:=hid (St.bN Cd.full (some b))
 have hr:RS 84 B 5 w2 p (T9.i1 (some b)):=hr
 have w_:=hid (ht.blk oI.out (by decide))
 have xh:Hid (aG B [84] w1 w2):=hid ht
 have GZ:Hid (w.heap.size+1≤w2.heap.size∧B≤w2.heap.size):=hid (by have:=ht.size;have:=BZ.out;omega)
 clear hi0 ht
 go_wp2_with fail
 obtain⟨w3,hw3⟩:∃ u,w2.alloc (.cells #[.int .u64 (i0:Int),.int .u64 0,.int .i64 0,.int .u64 0,.int .u64 0,.string ⟨#[]⟩,.float .f64 0,.bool false] 57)=u:=⟨_,rfl⟩
 rw [hw3]
 obtain⟨pE,b3,z3⟩:=bi hw3
 have R3:Hid (RS 84 B 5 w3 p (T9.i1 (some b))):=hid (by rw [← hw3];exact hr.alloc _)
 have qI:=hid (ah w_.out b3)
 have LB3:=hid pE
 have B3:Hid (Below w.heap.size w w3):=hid ((B1.out.trans (xh.out.below.mono (by have:=BZ.out;omega))).trans (b3.mono (by have:=GZ.out;omega)))
 have GG:Hid (w.heap.size<w2.heap.size∧B≤w2.heap.size):=hid (by have:=GZ.out;omega)
 clear hr pE b3 z3 hw3
 have C1:=hid (eB (mz:=18446744073709551615) R3.out (by decide) (qJ.out.bound L0.out) (by decide))
 rw [aQ] at C1
 refine C1.out.mono ?_
 rintro e w4 ⟨rfl,hr,ht⟩
 obtain⟨i1,hi1⟩:∃ v,v=(Cd.aS Cd.full (T9.i1 (some b))).1:=⟨_,rfl⟩
 rw [← hi1]
 have I1:=hid hi1
 have hr:RS 84 B 5 w4 p (T9.i2 (some b)):=hr
 have lb:=ht.blk LB3.out (by decide)
 have rb:=ht.blk qI.out (by decide)
 have yy:Ty w4 w2.heap.size 57:=⟨_,_,lb⟩
 obtain⟨c0,c1,c2,c3,c4,c5,c6,c7⟩:=ay lb
 have f5:=aa lb 1
 obtain⟨w5,qU⟩:∃ u,w4.setCell ⟨w2.heap.size,1,none⟩ (.int .u64 (i1:Int))=u:=⟨_,rfl⟩
 have LB5:Hid (w5.heap[w2.heap.size]?=some (.cells #[.int .u64 (i0:Int),.int .u64 (i1:Int),.int .i64 0,.int .u64 0,.int .u64 0,.string ⟨#[]⟩,.float .f64 0,.bool false] 57 (0,0))):=hid (by rw [← qU];exact (ae lb 1 (.int .u64 (i1:Int))).trans rfl)
 have RB5:Hid (w5.heap[w.heap.size]?=some (.cells #[.int .u64 0,.int .u64 0,.int .i64 0,.int .u64 0,.int .u64 0,.string ⟨#[]⟩,.float .f64 0,.bool false] 57 (0,0))):=hid (by rw [← qU];exact aI rb (p:=⟨w2.heap.size,1,none⟩) (by have:=GG.out;show w.heap.size≠w2.heap.size;omega) (.int .u64 (i1:Int)))
 have R5:Hid (RS 84 B 5 w5 p (T9.i2 (some b))):=hid (by rw [← qU];exact hr.gF yy GG.out.2 (by decide) (by decide) _ _)
 have B5:Hid (Below w.heap.size w w5):=hid (by rw [← qU];exact (B3.out.trans (ht.below.mono (by have:=BZ.out;omega))).setCell (by have:=GG.out;show w.heap.size≤w2.heap.size;omega) _)
 clear hr ht hi1 lb rb yy
 have C2:=hid (p_ (mz:=(b.length:Int)) R5.out (by decide) ((DW (some b)).bound L0.out) (by omega) (by have:=wY.out;omega))
 rw [Int.toNat_natCast] at C2
 go_wp2_with fail
 refine C2.out.mono ?_
 rintro e w6 ⟨Ab,nb,cb,rfl,eT,hr,ht⟩
 obtain⟨jq,_⟩:=aA eT
 obtain⟨bd,hbd⟩:∃ v,v=(Cd.bQ b.length (T9.i2 (some b))).1:=⟨_,rfl⟩
 have iF:w6.ownsRow w5.heap.size 5 1 (.slice Ab nb cb) bd.length (af bd):=by rw [hbd];exact eT
 have hnb:nb=bd.length:=by rw [hbd];exact jq
 clear eT jq
 have BD:=hid hbd
 have CP:bd.length≤60000:=by rw [hbd];have:=gX b.length (T9.i2 (some b));have:=wY.out;omega
 obtain⟨s3,hs3⟩:∃ v,v=T9.i3 b.length (some b):=⟨_,rfl⟩
 have hr:RS 84 B 5 w6 p s3:=by rw [hs3];exact hr
 have S3:=hid hs3
 have AU:=hid (ht.blk LB5.out (by decide))
 have BG:=hid (ht.blk RB5.out (by decide))
 have B6:Hid (Below w.heap.size w w6):=hid (B5.out.trans (ht.below.mono (by have:=BZ.out;omega)))
 have R6:=hid hr
 have MO:=hid (xZ (c:=cb) (aD (B:=0) (t:=5) iF) hnb (by rw [hnb];exact (aA iF).2) (by omega) (Nat.zero_le _))
 have GX:Hid (w2.heap.size<w6.heap.size):=hid (lt_of_block AU.out)
 clear iF hnb hbd hs3 hr ht CP c0 c1 c2 c3 c4 c5 c6 c7 f5
 go_wp2_with fail
 refine MO.out.mono ?_
 rintro e w7 ⟨rfl,h7⟩
 obtain⟨mo,hmo⟩:∃ v,(T9.kS bd).1=v:=⟨_,rfl⟩
 obtain⟨er,her⟩:∃ v,(T9.kS bd).2=v:=⟨_,rfl⟩
 rw [hmo,her]
 have MM:=hid (And.intro hmo her)
 obtain⟨w8,hw8⟩:∃ u,w7.alloc (.cells #[.int .i64 mo.kind,.int .u64 (mo.id:Int),.int .u64 (mo.list:Int),.string (str mo.text),.float .f64 mo.f,.bool mo.flag] 55)=u:=⟨_,rfl⟩
 obtain⟨qb8,b8,z8⟩:=a_ hw8
 have BE:Below w6.heap.size w6 w8:=h7.trans (b8.mono h7.size)
 have QB:=hid qb8
 have nL:=hid (ah AU.out BE)
 have xe:=hid (ah BG.out BE)
 have B8:Hid (Below w.heap.size w w8):=hid (B6.out.trans (BE.mono B6.out.size))
 have R8:Hid (RS 84 B 5 w8 p s3):=hid (R6.out.below BE)
 have CE:=hid (sZ R8.out)
 have G7:Hid (w2.heap.size<w7.heap.size∧w.heap.size<w7.heap.size):=hid (by have:=GX.out;have:=h7.size;have:=GG.out;omega)
 unfold T9.Mu.val
 clear h7 hmo her b8 z8 qb8 BE
 have RI:Hid (T9.kW b.length b=⟨i0,i1,mo⟩):=hid (by
  unfold T9.kW T9.je
  rw [← I0.out,← I1.out,← BD.out,MM.out.1])
 have HO:Hid (∀ {x:Prop},(¬ x)→((T9.kS (T9.je b.length (some b))).2=0∧T9.i3 b.length (some b)=some []∧(T9.kW b.length b).who≠0∧(T9.kW b.length b).id≠0→x)→T9.fB 60000 b=(T9.It.no,150)):=hid (fun nx g=>by
  rw [T9.yZ (my:=b.length) wY.out (Nat.le_refl _)]
  unfold T9.fB
  rw [if_neg (fun q=>nx (g q))])
 obtain⟨c0,c1,c2,c3,c4,c5,c6,c7⟩:=ay nL.out
 by_cases he:er=0
 case neg =>
  have OF:Hid (T9.fB 60000 b=(T9.It.no,150)):=hid (HO.out he fun q=>by have q1:=q.1;unfold T9.je at q1;rw [← BD.out,MM.out.2] at q1;exact q1)
  have hz:(er==0)=false:=by simp [he]
  have hz2:(er != 0)=true:=by simp [he]
  clear he
  have rb:=xe.out
  obtain⟨r0,r1,r2,r3,r4,r5,r6,r7⟩:=ay rb
  have lL:=aa rb 0
  have lM:=aa rb 1
  have qN:=aa rb 2
  have qO:=aa rb 3
  have qP:=aa rb 4
  have qQ:=aa rb 5
  have xK:=aa rb 6
  have zV:=aa rb 7
  have fF:Hid (((((((((w8.setCell ⟨w.heap.size,0,none⟩ (.int .u64 0)).setCell ⟨w.heap.size,1,none⟩ (.int .u64 0)).setCell ⟨w.heap.size,2,none⟩ (.int .i64 0)).setCell ⟨w.heap.size,3,none⟩ (.int .u64 0)).setCell ⟨w.heap.size,4,none⟩ (.int .u64 0)).setCell ⟨w.heap.size,5,none⟩ (.string ⟨#[]⟩)).setCell ⟨w.heap.size,6,none⟩ (.float .f64 0)).setCell ⟨w.heap.size,7,none⟩ (.bool false)).heap[w.heap.size]?=some (.cells #[.int .u64 0,.int .u64 0,.int .i64 0,.int .u64 0,.int .u64 0,.string ⟨#[]⟩,.float .f64 0,.bool false] 57 (0,0))):=hid ((ae (ae (ae (ae (ae (ae (ae (ae rb 0 (.int .u64 0)) 1 (.int .u64 0)) 2 (.int .i64 0)) 3 (.int .u64 0)) 4 (.int .u64 0)) 5 (.string ⟨#[]⟩)) 6 (.float .f64 0)) 7 (.bool false)).trans rfl)
  obtain⟨k0,k1,k2,k3,k4,k5,k6,k7⟩:=ay fF.out
  have iN:Hid (Below w.heap.size w ((((((((w8.setCell ⟨w.heap.size,0,none⟩ (.int .u64 0)).setCell ⟨w.heap.size,1,none⟩ (.int .u64 0)).setCell ⟨w.heap.size,2,none⟩ (.int .i64 0)).setCell ⟨w.heap.size,3,none⟩ (.int .u64 0)).setCell ⟨w.heap.size,4,none⟩ (.int .u64 0)).setCell ⟨w.heap.size,5,none⟩ (.string ⟨#[]⟩)).setCell ⟨w.heap.size,6,none⟩ (.float .f64 0)).setCell ⟨w.heap.size,7,none⟩ (.bool false))):=hid ((((((((B8.out.setCell (Nat.le_refl _) _).setCell (Nat.le_refl _) _).setCell (Nat.le_refl _) _).setCell (Nat.le_refl _) _).setCell (Nat.le_refl _) _).setCell (Nat.le_refl _) _).setCell (Nat.le_refl _) _).setCell (Nat.le_refl _) _)
  clear rb
  go_wp2
  refine bodyPost_ret (v:=.tuple #[.agg #[.int .u64 0,.int .u64 0,.int .i64 0,.int .u64 0,.int .u64 0,.string ⟨#[]⟩,.float .f64 0,.bool false],.int .i64 150]) (by simp [results,results47,go_sem,k0,k1,k2,k3,k4,k5,k6,k7]) rfl ?_
  exact iA.bad OF.out iN.out
 subst he
 by_cases hs:s3=some []
 case neg =>
  have OF:Hid (T9.fB 60000 b=(T9.It.no,150)):=hid (HO.out hs fun q=>S3.out.trans q.2.1)
  have ev:dK s3=20:=by
   unfold dK
   split
   ·exact absurd rfl hs
   ·rfl
  clear hs
  have rb:=xe.out
  obtain⟨r0,r1,r2,r3,r4,r5,r6,r7⟩:=ay rb
  have lL:=aa rb 0
  have lM:=aa rb 1
  have qN:=aa rb 2
  have qO:=aa rb 3
  have qP:=aa rb 4
  have qQ:=aa rb 5
  have xK:=aa rb 6
  have zV:=aa rb 7
  have fF:Hid (((((((((w8.setCell ⟨w.heap.size,0,none⟩ (.int .u64 0)).setCell ⟨w.heap.size,1,none⟩ (.int .u64 0)).setCell ⟨w.heap.size,2,none⟩ (.int .i64 0)).setCell ⟨w.heap.size,3,none⟩ (.int .u64 0)).setCell ⟨w.heap.size,4,none⟩ (.int .u64 0)).setCell ⟨w.heap.size,5,none⟩ (.string ⟨#[]⟩)).setCell ⟨w.heap.size,6,none⟩ (.float .f64 0)).setCell ⟨w.heap.size,7,none⟩ (.bool false)).heap[w.heap.size]?=some (.cells #[.int .u64 0,.int .u64 0,.int .i64 0,.int .u64 0,.int .u64 0,.string ⟨#[]⟩,.float .f64 0,.bool false] 57 (0,0))):=hid ((ae (ae (ae (ae (ae (ae (ae (ae rb 0 (.int .u64 0)) 1 (.int .u64 0)) 2 (.int .i64 0)) 3 (.int .u64 0)) 4 (.int .u64 0)) 5 (.string ⟨#[]⟩)) 6 (.float .f64 0)) 7 (.bool false)).trans rfl)
  obtain⟨k0,k1,k2,k3,k4,k5,k6,k7⟩:=ay fF.out
  have iN:Hid (Below w.heap.size w ((((((((w8.setCell ⟨w.heap.size,0,none⟩ (.int .u64 0)).setCell ⟨w.heap.size,1,none⟩ (.int .u64 0)).setCell ⟨w.heap.size,2,none⟩ (.int .i64 0)).setCell ⟨w.heap.size,3,none⟩ (.int .u64 0)).setCell ⟨w.heap.size,4,none⟩ (.int .u64 0)).setCell ⟨w.heap.size,5,none⟩ (.string ⟨#[]⟩)).setCell ⟨w.heap.size,6,none⟩ (.float .f64 0)).setCell ⟨w.heap.size,7,none⟩ (.bool false))):=hid ((((((((B8.out.setCell (Nat.le_refl _) _).setCell (Nat.le_refl _) _).setCell (Nat.le_refl _) _).setCell (Nat.le_refl _) _).setCell (Nat.le_refl _) _).setCell (Nat.le_refl _) _).setCell (Nat.le_refl _) _).setCell (Nat.le_refl _) _)
  clear rb
  go_wp2_with (go_at_call 50;refine CE.out.mono ?_;rintro e w' ⟨rfl,rfl⟩)
  refine bodyPost_ret (v:=.tuple #[.agg #[.int .u64 0,.int .u64 0,.int .i64 0,.int .u64 0,.int .u64 0,.string ⟨#[]⟩,.float .f64 0,.bool false],.int .i64 150]) (by simp [results,results47,go_sem,k0,k1,k2,k3,k4,k5,k6,k7]) rfl ?_
  exact iA.bad OF.out iN.out
 have ev:dK s3=0:=by rw [hs];rfl
 have HS:=hid hs
 clear hs
 by_cases h0:i0=0
 ·skip
  have OF:Hid (T9.fB 60000 b=(T9.It.no,150)):=hid (HO.out (not_not_intro h0) fun q=>by have q3:=q.2.2.1;rw [RI.out] at q3;exact q3)
  have e0:((i0:Int)==0)=true:=by simp [h0]
  clear h0
  have rb:=xe.out
  obtain⟨r0,r1,r2,r3,r4,r5,r6,r7⟩:=ay rb
  have lL:=aa rb 0
  have lM:=aa rb 1
  have qN:=aa rb 2
  have qO:=aa rb 3
  have qP:=aa rb 4
  have qQ:=aa rb 5
  have xK:=aa rb 6
  have zV:=aa rb 7
  have fF:Hid (((((((((w8.setCell ⟨w.heap.size,0,none⟩ (.int .u64 0)).setCell ⟨w.heap.size,1,none⟩ (.int .u64 0)).setCell ⟨w.heap.size,2,none⟩ (.int .i64 0)).setCell ⟨w.heap.size,3,none⟩ (.int .u64 0)).setCell ⟨w.heap.size,4,none⟩ (.int .u64 0)).setCell ⟨w.heap.size,5,none⟩ (.string ⟨#[]⟩)).setCell ⟨w.heap.size,6,none⟩ (.float .f64 0)).setCell ⟨w.heap.size,7,none⟩ (.bool false)).heap[w.heap.size]?=some (.cells #[.int .u64 0,.int .u64 0,.int .i64 0,.int .u64 0,.int .u64 0,.string ⟨#[]⟩,.float .f64 0,.bool false] 57 (0,0))):=hid ((ae (ae (ae (ae (ae (ae (ae (ae rb 0 (.int .u64 0)) 1 (.int .u64 0)) 2 (.int .i64 0)) 3 (.int .u64 0)) 4 (.int .u64 0)) 5 (.string ⟨#[]⟩)) 6 (.float .f64 0)) 7 (.bool false)).trans rfl)
  obtain⟨k0,k1,k2,k3,k4,k5,k6,k7⟩:=ay fF.out
  have iN:Hid (Below w.heap.size w ((((((((w8.setCell ⟨w.heap.size,0,none⟩ (.int .u64 0)).setCell ⟨w.heap.size,1,none⟩ (.int .u64 0)).setCell ⟨w.heap.size,2,none⟩ (.int .i64 0)).setCell ⟨w.heap.size,3,none⟩ (.int .u64 0)).setCell ⟨w.heap.size,4,none⟩ (.int .u64 0)).setCell ⟨w.heap.size,5,none⟩ (.string ⟨#[]⟩)).setCell ⟨w.heap.size,6,none⟩ (.float .f64 0)).setCell ⟨w.heap.size,7,none⟩ (.bool false))):=hid ((((((((B8.out.setCell (Nat.le_refl _) _).setCell (Nat.le_refl _) _).setCell (Nat.le_refl _) _).setCell (Nat.le_refl _) _).setCell (Nat.le_refl _) _).setCell (Nat.le_refl _) _).setCell (Nat.le_refl _) _).setCell (Nat.le_refl _) _)
  clear rb
  go_wp2_with (go_at_call 50;refine CE.out.mono ?_;rintro e w' ⟨rfl,rfl⟩)
  refine bodyPost_ret (v:=.tuple #[.agg #[.int .u64 0,.int .u64 0,.int .i64 0,.int .u64 0,.int .u64 0,.string ⟨#[]⟩,.float .f64 0,.bool false],.int .i64 150]) (by simp [results,results47,go_sem,k0,k1,k2,k3,k4,k5,k6,k7]) rfl ?_
  exact iA.bad OF.out iN.out
 have e0:((i0:Int)==0)=false:=by simp [h0]
 by_cases h1:i1=0
 ·skip
  have OF:Hid (T9.fB 60000 b=(T9.It.no,150)):=hid (HO.out (not_not_intro h1) fun q=>by have q3:=q.2.2.2;rw [RI.out] at q3;exact q3)
  have e1:((i1:Int)==0)=true:=by simp [h1]
  clear h1 h0
  have rb:=xe.out
  obtain⟨r0,r1,r2,r3,r4,r5,r6,r7⟩:=ay rb
  have lL:=aa rb 0
  have lM:=aa rb 1
  have qN:=aa rb 2
  have qO:=aa rb 3
  have qP:=aa rb 4
  have qQ:=aa rb 5
  have xK:=aa rb 6
  have zV:=aa rb 7
  have fF:Hid (((((((((w8.setCell ⟨w.heap.size,0,none⟩ (.int .u64 0)).setCell ⟨w.heap.size,1,none⟩ (.int .u64 0)).setCell ⟨w.heap.size,2,none⟩ (.int .i64 0)).setCell ⟨w.heap.size,3,none⟩ (.int .u64 0)).setCell ⟨w.heap.size,4,none⟩ (.int .u64 0)).setCell ⟨w.heap.size,5,none⟩ (.string ⟨#[]⟩)).setCell ⟨w.heap.size,6,none⟩ (.float .f64 0)).setCell ⟨w.heap.size,7,none⟩ (.bool false)).heap[w.heap.size]?=some (.cells #[.int .u64 0,.int .u64 0,.int .i64 0,.int .u64 0,.int .u64 0,.string ⟨#[]⟩,.float .f64 0,.bool false] 57 (0,0))):=hid ((ae (ae (ae (ae (ae (ae (ae (ae rb 0 (.int .u64 0)) 1 (.int .u64 0)) 2 (.int .i64 0)) 3 (.int .u64 0)) 4 (.int .u64 0)) 5 (.string ⟨#[]⟩)) 6 (.float .f64 0)) 7 (.bool false)).trans rfl)
  obtain⟨k0,k1,k2,k3,k4,k5,k6,k7⟩:=ay fF.out
  have iN:Hid (Below w.heap.size w ((((((((w8.setCell ⟨w.heap.size,0,none⟩ (.int .u64 0)).setCell ⟨w.heap.size,1,none⟩ (.int .u64 0)).setCell ⟨w.heap.size,2,none⟩ (.int .i64 0)).setCell ⟨w.heap.size,3,none⟩ (.int .u64 0)).setCell ⟨w.heap.size,4,none⟩ (.int .u64 0)).setCell ⟨w.heap.size,5,none⟩ (.string ⟨#[]⟩)).setCell ⟨w.heap.size,6,none⟩ (.float .f64 0)).setCell ⟨w.heap.size,7,none⟩ (.bool false))):=hid ((((((((B8.out.setCell (Nat.le_refl _) _).setCell (Nat.le_refl _) _).setCell (Nat.le_refl _) _).setCell (Nat.le_refl _) _).setCell (Nat.le_refl _) _).setCell (Nat.le_refl _) _).setCell (Nat.le_refl _) _).setCell (Nat.le_refl _) _)
  clear rb
  go_wp2_with (go_at_call 50;refine CE.out.mono ?_;rintro e w' ⟨rfl,rfl⟩)
  refine bodyPost_ret (v:=.tuple #[.agg #[.int .u64 0,.int .u64 0,.int .i64 0,.int .u64 0,.int .u64 0,.string ⟨#[]⟩,.float .f64 0,.bool false],.int .i64 150]) (by simp [results,results47,go_sem,k0,k1,k2,k3,k4,k5,k6,k7]) rfl ?_
  exact iA.bad OF.out iN.out
 have e1:((i1:Int)==0)=false:=by simp [h1]
 have OF:Hid (T9.fB 60000 b=(⟨i0,i1,mo⟩,0)):=hid (by
  rw [T9.yZ (my:=b.length) wY.out (Nat.le_refl _)]
  unfold T9.fB
  rw [RI.out,if_pos]
  refine⟨?_,S3.out.symm.trans HS.out,h0,h1⟩
  unfold T9.je
  rw [← BD.out,MM.out.2])
 clear h0 h1
 obtain⟨q0,q1,q2,q3,q4,q5⟩:=au QB.out
 have f2:=aa nL.out 2
 have f3:=aa nL.out 3
 have f4:=aa nL.out 4
 have f5:=aa nL.out 5
 have f6:=aa nL.out 6
 have f7:=aa nL.out 7
 obtain⟨w9,vB⟩:∃ u,((((((w8.setCell ⟨w2.heap.size,2,none⟩ (.int .i64 mo.kind)).setCell ⟨w2.heap.size,3,none⟩ (.int .u64 (mo.id:Int))).setCell ⟨w2.heap.size,4,none⟩ (.int .u64 (mo.list:Int))).setCell ⟨w2.heap.size,5,none⟩ (.string (str mo.text))).setCell ⟨w2.heap.size,6,none⟩ (.float .f64 mo.f)).setCell ⟨w2.heap.size,7,none⟩ (.bool mo.flag))=u:=⟨_,rfl⟩
 have Bv:Hid (w9.heap[w2.heap.size]?=some (.cells #[.int .u64 (i0:Int),.int .u64 (i1:Int),.int .i64 mo.kind,.int .u64 (mo.id:Int),.int .u64 (mo.list:Int),.string (str mo.text),.float .f64 mo.f,.bool mo.flag] 57 (0,0))):=hid (by rw [← vB];exact (ae (ae (ae (ae (ae (ae nL.out 2 (.int .i64 mo.kind)) 3 (.int .u64 (mo.id:Int))) 4 (.int .u64 (mo.list:Int))) 5 (.string (str mo.text))) 6 (.float .f64 mo.f)) 7 (.bool mo.flag)).trans rfl)
 have RB9:Hid (w9.heap[w.heap.size]?=some (.cells #[.int .u64 0,.int .u64 0,.int .i64 0,.int .u64 0,.int .u64 0,.string ⟨#[]⟩,.float .f64 0,.bool false] 57 (0,0))):=hid (by
  have ne:w.heap.size≠w2.heap.size:=by have:=GG.out;omega
  rw [← vB]
  exact aI (aI (aI (aI (aI (aI xe.out (p:=⟨w2.heap.size,2,none⟩) ne _) (p:=⟨w2.heap.size,3,none⟩) ne _) (p:=⟨w2.heap.size,4,none⟩) ne _) (p:=⟨w2.heap.size,5,none⟩) ne _) (p:=⟨w2.heap.size,6,none⟩) ne _) (p:=⟨w2.heap.size,7,none⟩) ne _)
 have B9:Hid (Below w.heap.size w w9):=hid (by
  have le:w.heap.size≤w2.heap.size:=by have:=GG.out;omega
  rw [← vB]
  exact (((((B8.out.setCell (p:=⟨w2.heap.size,2,none⟩) le _).setCell (p:=⟨w2.heap.size,3,none⟩) le _).setCell (p:=⟨w2.heap.size,4,none⟩) le _).setCell (p:=⟨w2.heap.size,5,none⟩) le _).setCell (p:=⟨w2.heap.size,6,none⟩) le _).setCell (p:=⟨w2.heap.size,7,none⟩) le _)
 obtain⟨d0,d1,d2,d3,d4,d5,d6,d7⟩:=ay Bv.out
 have rb:=RB9.out
 obtain⟨r0,r1,r2,r3,r4,r5,r6,r7⟩:=ay rb
 have lL:=aa rb 0
 have lM:=aa rb 1
 have qN:=aa rb 2
 have qO:=aa rb 3
 have qP:=aa rb 4
 have qQ:=aa rb 5
 have xK:=aa rb 6
 have zV:=aa rb 7
 have fF:Hid (((((((((w9.setCell ⟨w.heap.size,0,none⟩ (.int .u64 (i0:Int))).setCell ⟨w.heap.size,1,none⟩ (.int .u64 (i1:Int))).setCell ⟨w.heap.size,2,none⟩ (.int .i64 mo.kind)).setCell ⟨w.heap.size,3,none⟩ (.int .u64 (mo.id:Int))).setCell ⟨w.heap.size,4,none⟩ (.int .u64 (mo.list:Int))).setCell ⟨w.heap.size,5,none⟩ (.string (str mo.text))).setCell ⟨w.heap.size,6,none⟩ (.float .f64 mo.f)).setCell ⟨w.heap.size,7,none⟩ (.bool mo.flag)).heap[w.heap.size]?=some (.cells #[.int .u64 (i0:Int),.int .u64 (i1:Int),.int .i64 mo.kind,.int .u64 (mo.id:Int),.int .u64 (mo.list:Int),.string (str mo.text),.float .f64 mo.f,.bool mo.flag] 57 (0,0))):=hid ((ae (ae (ae (ae (ae (ae (ae (ae rb 0 (.int .u64 (i0:Int))) 1 (.int .u64 (i1:Int))) 2 (.int .i64 mo.kind)) 3 (.int .u64 (mo.id:Int))) 4 (.int .u64 (mo.list:Int))) 5 (.string (str mo.text))) 6 (.float .f64 mo.f)) 7 (.bool mo.flag)).trans rfl)
 obtain⟨k0,k1,k2,k3,k4,k5,k6,k7⟩:=ay fF.out
 have iN:Hid (Below w.heap.size w ((((((((w9.setCell ⟨w.heap.size,0,none⟩ (.int .u64 (i0:Int))).setCell ⟨w.heap.size,1,none⟩ (.int .u64 (i1:Int))).setCell ⟨w.heap.size,2,none⟩ (.int .i64 mo.kind)).setCell ⟨w.heap.size,3,none⟩ (.int .u64 (mo.id:Int))).setCell ⟨w.heap.size,4,none⟩ (.int .u64 (mo.list:Int))).setCell ⟨w.heap.size,5,none⟩ (.string (str mo.text))).setCell ⟨w.heap.size,6,none⟩ (.float .f64 mo.f)).setCell ⟨w.heap.size,7,none⟩ (.bool mo.flag))):=hid ((((((((B9.out.setCell (Nat.le_refl _) _).setCell (Nat.le_refl _) _).setCell (Nat.le_refl _) _).setCell (Nat.le_refl _) _).setCell (Nat.le_refl _) _).setCell (Nat.le_refl _) _).setCell (Nat.le_refl _) _).setCell (Nat.le_refl _) _)
 clear rb
 go_wp2_with (go_at_call 50;refine CE.out.mono ?_;rintro e w' ⟨rfl,rfl⟩)
 refine bodyPost_ret (v:=.tuple #[.agg #[.int .u64 (i0:Int),.int .u64 (i1:Int),.int .i64 mo.kind,.int .u64 (mo.id:Int),.int .u64 (mo.list:Int),.string (str mo.text),.float .f64 mo.f,.bool mo.flag],.int .i64 0]) (by simp [results,results47,go_sem,k0,k1,k2,k3,k4,k5,k6,k7]) rfl ?_
 exact iA.good OF.out iN.out
end
end
section
section
open Go.RowKit Go.Lib
def oO:Ending:=.panicked [{ v:=.iface 34 (.int .i64 150),recovered:=false }]
theorem mD:(60000:Int).toNat=60000:=rfl
theorem iW (w:World):Calls prog 87 #[.bool true] w fun e w'=>e=.returned (.tuple #[])∧w=w':=by
 go_enter func87,ntmps87
 go_wp2
 go_end0
 exact⟨rfl,rfl⟩
theorem gV (w:World):Calls prog 87 #[.bool false] w fun e w'=>e=.panicked [{ v:=.iface 34 (.int .i64 150),recovered:=false }]∧w=w':=by
 go_enter func87,ntmps87
 go_wp2
 exact⟨rfl,rfl,rfl⟩
@[go_sem] theorem buildI15 (n : Int) (w : World) : (Instr.build 57 #[(0, .int .u64 n)]).run prog w = .ok (.agg #[.int .u64 n, .int .u64 0, .int .i64 0, .int .u64 0, .int .u64 0, .string ⟨#[]⟩, .float .f64 0, .bool false]) w := run_build w 57 _ _ (by kernel_rfl)
def iO (b:List UInt8) (w:World) (e:Ending) (w':World):Prop:=Below w.heap.size w w'∧((T9.fB 60000 b).2=0→e=.returned (T9.fB 60000 b).1.val)∧((T9.fB 60000 b).2≠0→e=oO)
theorem iO.bad {b:List UInt8} {w w':World} (h:(T9.fB 60000 b).2≠0) (hb:Below w.heap.size w w'):iO b w oO w':=⟨hb,fun q=>absurd q h,fun _=>rfl⟩
theorem iO.good {b:List UInt8} {x:It} {w w':World} (h:T9.fB 60000 b=(x,0)) (hb:Below w.heap.size w w'):iO b w (.returned x.val) w':=⟨hb,fun _=>by rw [h],fun q=>absurd (by rw [h]) q⟩
theorem xX {A:Option Addr} {n c:Nat} {b:List UInt8} {w:World} {D:Nat} {td:TypeId} (h:av w D td A (af b)) (hn:n=b.length) (hb:n≤1000000000) (hD:D≤w.heap.size) :
  Calls prog 90 #[.slice A n c] w (iO b w):=by
 obtain⟨w0,hw0⟩:∃ u,w.alloc (.cells #[.int .u64 0,.int .u64 0,.int .i64 0,.int .u64 0,.int .u64 0,.string ⟨#[]⟩,.float .f64 0,.bool false] 57)=u:=⟨_,rfl⟩
 obtain⟨kK,b0,z0⟩:=bi hw0
 have qH:=hid kK
 have B0:=hid b0
 have CR:=hid (ul (c:=c) ((h.more hD).old (t':=5) |>.below (Nat.le_refl _) b0) (by omega) hn (by omega))
 have wY:Hid (b.length≤1000000000):=hid (by omega)
 clear h kK b0 hn hb
 go_enter func90,ntmps90
 go_wp2_with fail
 refine CR.out.mono ?_
 rintro e w1 ⟨p,rfl,hr,hb1⟩
 have oI:=hid (ah qH.out hb1)
 have B1:=hid (B0.out.trans (hb1.mono (by omega)))
 obtain⟨B,hB⟩:∃ v,v=w0.heap.size:=⟨_,rfl⟩
 rw [← hB] at hr
 have BZ:Hid (w.heap.size+1=B∧B≤w1.heap.size):=hid ⟨by omega,by have:=hb1.size;omega⟩
 have L0:Hid (∀ l,some b=some l→l.length≤1099511627776):=hid (by intro l e;injection e with e;subst e;have:=wY.out;omega)
 have N1:=hid (eG (mz:=18446744073709551615) hr (by decide) L0.out (by decide))
 rw [aQ] at N1
 clear hr hb1 hB hw0 z0
 go_wp2_with fail
 refine N1.out.mono ?_
 rintro e w2 ⟨rfl,hr,ht⟩
 obtain⟨i0,hi0⟩:∃ v,v=(Cd.aS Cd.full (some b)).1:=⟨_,rfl⟩
 rw [← hi0]
 have I0:=hid hi0
 have qJ:=hid (St.bN Cd.full (some b))
 have hr:RS 147 B 5 w2 p (T9.i1 (some b)):=hr
 have w_:=hid (ht.blk oI.out (by decide))
 have xh:Hid (aG B [147] w1 w2):=hid ht
 have GZ:Hid (w.heap.size+1≤w2.heap.size∧B≤w2.heap.size):=hid (by have:=ht.size;have:=BZ.out;omega)
 clear hi0 ht
 go_wp2_with fail
 obtain⟨w3,hw3⟩:∃ u,w2.alloc (.cells #[.int .u64 (i0:Int),.int .u64 0,.int .i64 0,.int .u64 0,.int .u64 0,.string ⟨#[]⟩,.float .f64 0,.bool false] 57)=u:=⟨_,rfl⟩
 rw [hw3]
 obtain⟨pE,b3,z3⟩:=bi hw3
 have R3:Hid (RS 147 B 5 w3 p (T9.i1 (some b))):=hid (by rw [← hw3];exact hr.alloc _)
 have qI:=hid (ah w_.out b3)
 have LB3:=hid pE
 have B3:Hid (Below w.heap.size w w3):=hid ((B1.out.trans (xh.out.below.mono (by have:=BZ.out;omega))).trans (b3.mono (by have:=GZ.out;omega)))
 have GG:Hid (w.heap.size<w2.heap.size∧B≤w2.heap.size):=hid (by have:=GZ.out;omega)
 clear hr pE b3 z3 hw3
 have C1:=hid (eG (mz:=18446744073709551615) R3.out (by decide) (qJ.out.bound L0.out) (by decide))
 rw [aQ] at C1
 refine C1.out.mono ?_
 rintro e w4 ⟨rfl,hr,ht⟩
 obtain⟨i1,hi1⟩:∃ v,v=(Cd.aS Cd.full (T9.i1 (some b))).1:=⟨_,rfl⟩
 rw [← hi1]
 have I1:=hid hi1
 have hr:RS 147 B 5 w4 p (T9.i2 (some b)):=hr
 have lb:=ht.blk LB3.out (by decide)
 have rb:=ht.blk qI.out (by decide)
 have yy:Ty w4 w2.heap.size 57:=⟨_,_,lb⟩
 obtain⟨c0,c1,c2,c3,c4,c5,c6,c7⟩:=ay lb
 have f5:=aa lb 1
 obtain⟨w5,qU⟩:∃ u,w4.setCell ⟨w2.heap.size,1,none⟩ (.int .u64 (i1:Int))=u:=⟨_,rfl⟩
 have LB5:Hid (w5.heap[w2.heap.size]?=some (.cells #[.int .u64 (i0:Int),.int .u64 (i1:Int),.int .i64 0,.int .u64 0,.int .u64 0,.string ⟨#[]⟩,.float .f64 0,.bool false] 57 (0,0))):=hid (by rw [← qU];exact (ae lb 1 (.int .u64 (i1:Int))).trans rfl)
 have RB5:Hid (w5.heap[w.heap.size]?=some (.cells #[.int .u64 0,.int .u64 0,.int .i64 0,.int .u64 0,.int .u64 0,.string ⟨#[]⟩,.float .f64 0,.bool false] 57 (0,0))):=hid (by rw [← qU];exact aI rb (p:=⟨w2.heap.size,1,none⟩) (by have:=GG.out;show w.heap.size≠w2.heap.size;omega) (.int .u64 (i1:Int)))
 have R5:Hid (RS 147 B 5 w5 p (T9.i2 (some b))):=hid (by rw [← qU];exact hr.gF yy GG.out.2 (by decide) (by decide) _ _)
 have B5:Hid (Below w.heap.size w w5):=hid (by rw [← qU];exact (B3.out.trans (ht.below.mono (by have:=BZ.out;omega))).setCell (by have:=GG.out;show w.heap.size≤w2.heap.size;omega) _)
 clear hr ht hi1 lb rb yy
 have C2:=hid (pY (mz:=60000) R5.out (by decide) ((DW (some b)).bound L0.out) (by decide) (by decide))
 rw [mD] at C2
 go_wp2_with fail
 refine C2.out.mono ?_
 rintro e w6 ⟨Ab,nb,cb,rfl,eT,hr,ht⟩
 obtain⟨jq,_⟩:=aA eT
 obtain⟨bd,hbd⟩:∃ v,v=(Cd.bQ 60000 (T9.i2 (some b))).1:=⟨_,rfl⟩
 have iF:w6.ownsRow w5.heap.size 5 1 (.slice Ab nb cb) bd.length (af bd):=by rw [hbd];exact eT
 have hnb:nb=bd.length:=by rw [hbd];exact jq
 clear eT jq
 have BD:=hid hbd
 have CP:bd.length≤60000:=by rw [hbd];exact gX 60000 _
 obtain⟨s3,hs3⟩:∃ v,v=T9.i3 60000 (some b):=⟨_,rfl⟩
 have hr:RS 147 B 5 w6 p s3:=by rw [hs3];exact hr
 have S3:=hid hs3
 have AU:=hid (ht.blk LB5.out (by decide))
 have BG:=hid (ht.blk RB5.out (by decide))
 have B6:Hid (Below w.heap.size w w6):=hid (B5.out.trans (ht.below.mono (by have:=BZ.out;omega)))
 have R6:=hid hr
 have MO:=hid (mutOf_c (c:=cb) (aD (B:=0) (t:=5) iF) hnb (by omega) (Nat.zero_le _))
 have GX:Hid (w2.heap.size<w6.heap.size):=hid (lt_of_block AU.out)
 clear iF hnb hbd hs3 hr ht CP c0 c1 c2 c3 c4 c5 c6 c7 f5
 go_wp2_with fail
 refine MO.out.mono ?_
 rintro e w7 ⟨rfl,h7⟩
 obtain⟨mo,hmo⟩:∃ v,(T9.kS bd).1=v:=⟨_,rfl⟩
 obtain⟨er,her⟩:∃ v,(T9.kS bd).2=v:=⟨_,rfl⟩
 rw [hmo,her]
 have MM:=hid (And.intro hmo her)
 obtain⟨w8,hw8⟩:∃ u,w7.alloc (.cells #[.int .i64 mo.kind,.int .u64 (mo.id:Int),.int .u64 (mo.list:Int),.string (str mo.text),.float .f64 mo.f,.bool mo.flag] 55)=u:=⟨_,rfl⟩
 obtain⟨qb8,b8,z8⟩:=a_ hw8
 have BE:Below w6.heap.size w6 w8:=h7.trans (b8.mono h7.size)
 have QB:=hid qb8
 have nL:=hid (ah AU.out BE)
 have xe:=hid (ah BG.out BE)
 have B8:Hid (Below w.heap.size w w8):=hid (B6.out.trans (BE.mono B6.out.size))
 have R8:Hid (RS 147 B 5 w8 p s3):=hid (R6.out.below BE)
 have CE:=hid (sW R8.out)
 have G7:Hid (w2.heap.size<w7.heap.size∧w.heap.size<w7.heap.size):=hid (by have:=GX.out;have:=h7.size;have:=GG.out;omega)
 unfold T9.Mu.val
 clear h7 hmo her b8 z8 qb8 BE
 by_cases he:er=0
 case neg =>
  have OF:Hid ((T9.fB 60000 b).2≠0):=hid (by
   unfold T9.fB
   rw [if_neg (fun q=>he (by have q1:=q.1;unfold T9.je at q1;rw [← BD.out,MM.out.2] at q1;exact q1))]
   decide)
  have hz:(er==0)=false:=by simp [he]
  have hz2:(er != 0)=true:=by simp [he]
  clear he
  go_wp2_with (go_at_call 87;refine (gV _).mono ?_;rintro e w' ⟨rfl,rfl⟩)
  exact⟨rfl,iO.bad OF.out B8.out⟩
 subst he
 by_cases hs:s3=some []
 case neg =>
  have OF:Hid ((T9.fB 60000 b).2≠0):=hid (by
   unfold T9.fB
   rw [if_neg (fun q=>hs (S3.out.trans q.2.1))]
   decide)
  have ev:dK s3=20:=by
   unfold dK
   split
   ·exact absurd rfl hs
   ·rfl
  clear hs
  go_wp2_with (first | (go_at_call 93;refine CE.out.mono ?_;rintro e w' ⟨rfl,rfl⟩) | (go_at_call 87;refine (gV _).mono ?_;rintro e w' ⟨rfl,rfl⟩))
  exact⟨rfl,iO.bad OF.out B8.out⟩
 have ev:dK s3=0:=by rw [hs];rfl
 have HS:=hid hs
 clear hs
 obtain⟨q0,q1,q2,q3,q4,q5⟩:=au QB.out
 obtain⟨c0,c1,c2,c3,c4,c5,c6,c7⟩:=ay nL.out
 have f2:=aa nL.out 2
 have f3:=aa nL.out 3
 have f4:=aa nL.out 4
 have f5:=aa nL.out 5
 have f6:=aa nL.out 6
 have f7:=aa nL.out 7
 obtain⟨w9,vB⟩:∃ u,((((((w8.setCell ⟨w2.heap.size,2,none⟩ (.int .i64 mo.kind)).setCell ⟨w2.heap.size,3,none⟩ (.int .u64 (mo.id:Int))).setCell ⟨w2.heap.size,4,none⟩ (.int .u64 (mo.list:Int))).setCell ⟨w2.heap.size,5,none⟩ (.string (str mo.text))).setCell ⟨w2.heap.size,6,none⟩ (.float .f64 mo.f)).setCell ⟨w2.heap.size,7,none⟩ (.bool mo.flag))=u:=⟨_,rfl⟩
 have Bv:Hid (w9.heap[w2.heap.size]?=some (.cells #[.int .u64 (i0:Int),.int .u64 (i1:Int),.int .i64 mo.kind,.int .u64 (mo.id:Int),.int .u64 (mo.list:Int),.string (str mo.text),.float .f64 mo.f,.bool mo.flag] 57 (0,0))):=hid (by rw [← vB];exact (ae (ae (ae (ae (ae (ae nL.out 2 (.int .i64 mo.kind)) 3 (.int .u64 (mo.id:Int))) 4 (.int .u64 (mo.list:Int))) 5 (.string (str mo.text))) 6 (.float .f64 mo.f)) 7 (.bool mo.flag)).trans rfl)
 have RB9:Hid (w9.heap[w.heap.size]?=some (.cells #[.int .u64 0,.int .u64 0,.int .i64 0,.int .u64 0,.int .u64 0,.string ⟨#[]⟩,.float .f64 0,.bool false] 57 (0,0))):=hid (by
  have ne:w.heap.size≠w2.heap.size:=by have:=GG.out;omega
  rw [← vB]
  exact aI (aI (aI (aI (aI (aI xe.out (p:=⟨w2.heap.size,2,none⟩) ne _) (p:=⟨w2.heap.size,3,none⟩) ne _) (p:=⟨w2.heap.size,4,none⟩) ne _) (p:=⟨w2.heap.size,5,none⟩) ne _) (p:=⟨w2.heap.size,6,none⟩) ne _) (p:=⟨w2.heap.size,7,none⟩) ne _)
 have B9:Hid (Below w.heap.size w w9):=hid (by
  have le:w.heap.size≤w2.heap.size:=by have:=GG.out;omega
  rw [← vB]
  exact (((((B8.out.setCell (p:=⟨w2.heap.size,2,none⟩) le _).setCell (p:=⟨w2.heap.size,3,none⟩) le _).setCell (p:=⟨w2.heap.size,4,none⟩) le _).setCell (p:=⟨w2.heap.size,5,none⟩) le _).setCell (p:=⟨w2.heap.size,6,none⟩) le _).setCell (p:=⟨w2.heap.size,7,none⟩) le _)
 obtain⟨d0,d1,d2,d3,d4,d5,d6,d7⟩:=ay Bv.out
 have SO:=hid (qB (x:=⟨i0,i1,mo⟩) (w:=w9))
 obtain⟨so,hso⟩:∃ v,(!(i0==0) && !(i1==0))=v:=⟨_,rfl⟩
 have HSO:=hid hso
 unfold It.val at SO
 dsimp only at SO
 rw [hso] at SO
 have RI:Hid (T9.kW 60000 b=⟨i0,i1,mo⟩):=hid (by
  unfold T9.kW T9.je
  rw [← I0.out,← I1.out,← BD.out,MM.out.1])
 clear hso
 cases so
 ·have OF:Hid ((T9.fB 60000 b).2≠0):=hid (by
   unfold T9.fB
   rw [if_neg (fun q=>by
    have q3:=q.2.2
    rw [RI.out] at q3
    have:=HSO.out
    simp [q3.1,q3.2] at this)]
   decide)
  go_wp2_with (first | (go_at_call 93;refine CE.out.mono ?_;rintro e w' ⟨rfl,rfl⟩) | (go_at_call 104;refine SO.out.mono ?_;rintro e lv ⟨rfl,h10⟩) | (go_at_call 87;first | (refine (iW _).mono ?_;rintro e w' ⟨rfl,rfl⟩) | (refine (gV _).mono ?_;rintro e w' ⟨rfl,rfl⟩)))
  exact⟨rfl,iO.bad OF.out (B9.out.trans (h10.mono B9.out.size))⟩
 have OF:Hid (T9.fB 60000 b=(⟨i0,i1,mo⟩,0)):=hid (by
  unfold T9.fB
  rw [RI.out,if_pos]
  have:=HSO.out
  simp only [Bool.and_eq_true,Bool.not_eq_true',beq_eq_false_iff_ne] at this
  refine⟨?_,S3.out.symm.trans HS.out,this.1,this.2⟩
  unfold T9.je
  rw [← BD.out,MM.out.2])
 go_wp2_with (first | (go_at_call 93;refine CE.out.mono ?_;rintro e w' ⟨rfl,rfl⟩) | (go_at_call 87;refine (iW _).mono ?_;rintro e w' ⟨rfl,rfl⟩))
 refine SO.out.mono ?_
 rintro e lv ⟨rfl,h10⟩
 have rb:=ah RB9.out h10
 obtain⟨r0,r1,r2,r3,r4,r5,r6,r7⟩:=ay rb
 obtain⟨d0,d1,d2,d3,d4,d5,d6,d7⟩:=ay (ah Bv.out h10)
 have lL:=aa rb 0
 have lM:=aa rb 1
 have qN:=aa rb 2
 have qO:=aa rb 3
 have qP:=aa rb 4
 have qQ:=aa rb 5
 have xK:=aa rb 6
 have zV:=aa rb 7
 have fF:Hid (((((((((lv.setCell ⟨w.heap.size,0,none⟩ (.int .u64 (i0:Int))).setCell ⟨w.heap.size,1,none⟩ (.int .u64 (i1:Int))).setCell ⟨w.heap.size,2,none⟩ (.int .i64 mo.kind)).setCell ⟨w.heap.size,3,none⟩ (.int .u64 (mo.id:Int))).setCell ⟨w.heap.size,4,none⟩ (.int .u64 (mo.list:Int))).setCell ⟨w.heap.size,5,none⟩ (.string (str mo.text))).setCell ⟨w.heap.size,6,none⟩ (.float .f64 mo.f)).setCell ⟨w.heap.size,7,none⟩ (.bool mo.flag)).heap[w.heap.size]?=some (.cells #[.int .u64 (i0:Int),.int .u64 (i1:Int),.int .i64 mo.kind,.int .u64 (mo.id:Int),.int .u64 (mo.list:Int),.string (str mo.text),.float .f64 mo.f,.bool mo.flag] 57 (0,0))):=hid ((ae (ae (ae (ae (ae (ae (ae (ae rb 0 (.int .u64 (i0:Int))) 1 (.int .u64 (i1:Int))) 2 (.int .i64 mo.kind)) 3 (.int .u64 (mo.id:Int))) 4 (.int .u64 (mo.list:Int))) 5 (.string (str mo.text))) 6 (.float .f64 mo.f)) 7 (.bool mo.flag)).trans rfl)
 obtain⟨k0,k1,k2,k3,k4,k5,k6,k7⟩:=ay fF.out
 have iN:Hid (Below w.heap.size w ((((((((lv.setCell ⟨w.heap.size,0,none⟩ (.int .u64 (i0:Int))).setCell ⟨w.heap.size,1,none⟩ (.int .u64 (i1:Int))).setCell ⟨w.heap.size,2,none⟩ (.int .i64 mo.kind)).setCell ⟨w.heap.size,3,none⟩ (.int .u64 (mo.id:Int))).setCell ⟨w.heap.size,4,none⟩ (.int .u64 (mo.list:Int))).setCell ⟨w.heap.size,5,none⟩ (.string (str mo.text))).setCell ⟨w.heap.size,6,none⟩ (.float .f64 mo.f)).setCell ⟨w.heap.size,7,none⟩ (.bool mo.flag))):=hid (((((((((B9.out.trans (h10.mono B9.out.size)).setCell (Nat.le_refl _) _).setCell (Nat.le_refl _) _).setCell (Nat.le_refl _) _).setCell (Nat.le_refl _) _).setCell (Nat.le_refl _) _).setCell (Nat.le_refl _) _).setCell (Nat.le_refl _) _).setCell (Nat.le_refl _) _)
 clear rb h10
 go_wp2_with (go_at_call 87;refine (iW _).mono ?_;rintro e w' ⟨rfl,rfl⟩)
 refine bodyPost_ret (v:=.agg #[.int .u64 (i0:Int),.int .u64 (i1:Int),.int .i64 mo.kind,.int .u64 (mo.id:Int),.int .u64 (mo.list:Int),.string (str mo.text),.float .f64 mo.f,.bool mo.flag]) (by simp [results,results90,go_sem,k0,k1,k2,k3,k4,k5,k6,k7]) rfl ?_
 exact iO.good OF.out iN.out
def RdSt15 (b:List UInt8) (w:World) (e:Ending) (w':World):Prop:=Below w.heap.size w w'∧((T9.of b).2=0→∃ m:ji,e=.returned m.val∧AZ m w'∧m.st=(T9.of b).1)∧((T9.of b).2≠0→e=oO)
theorem vY {A:Option Addr} {n c:Nat} {b:List UInt8} {w:World} {D:Nat} {td:TypeId} (h:av w D td A (af b)) (hn:n=b.length) (hb:n≤1000000000) (hD:D≤w.heap.size) :
  Calls prog 92 #[.slice A n c] w (RdSt15 b w):=by
 obtain⟨w0,hw0⟩:∃ u,w.alloc (.cells #[.slice none 0 0,.slice none 0 0] 28)=u:=⟨_,rfl⟩
 obtain⟨kK,b0,z0⟩:=aM hw0
 have qH:=hid kK
 have B0:=hid b0
 have OF:=hid (of9T_c (c:=c) ((h.more hD).old (t':=5) |>.below (Nat.le_refl _) b0) hn hb (by omega))
 clear h kK b0 hn hb z0
 go_enter func92,ntmps92
 go_wp2_with fail
 refine OF.out.mono ?_
 rintro e w1 ⟨q,rfl,hq,Be,h1⟩
 obtain⟨er,her⟩:∃ v,(T9.of b).2=v:=⟨_,rfl⟩
 rw [her]
 have Ei:=hid her
 obtain⟨w2,hw2⟩:∃ u,w1.alloc (.cells #[.slice q.A q.ls.length q.c,.slice q.A2 q.ms.length q.c2] 28)=u:=⟨_,rfl⟩
 obtain⟨lb,b2,z2⟩:=aM hw2
 have BE:=h1.trans (b2.mono h1.size)
 have rb:=ah qH.out BE
 have B2:Hid (Below w.heap.size w w2):=hid (B0.out.trans (BE.mono B0.out.size))
 have HQ:=hid (And.intro (hq.stay b2) Be)
 obtain⟨l0,l1⟩:=ai lb
 unfold ji.val
 clear h1 her hq Be b2 z2 BE lb
 by_cases he:er=0
 case neg =>
  have hz:(er==0)=false:=by simp [he]
  have hz2:(er != 0)=true:=by simp [he]
  have HE:=hid he
  clear he rb
  go_wp2_with (go_at_call 87;refine (gV _).mono ?_;rintro e w' ⟨rfl,rfl⟩)
  exact⟨rfl,B2.out,fun z=>absurd (Ei.out.symm.trans z) HE.out,fun _=>rfl⟩
 subst he
 obtain⟨r0,r1⟩:=ai rb
 have f0:=aa rb 0
 have f1:=aa rb 1
 have yy:Ty w2 w.heap.size 28:=⟨_,_,rb⟩
 have fF:Hid (((w2.setCell ⟨w.heap.size,0,none⟩ (.slice q.A q.ls.length q.c)).setCell ⟨w.heap.size,1,none⟩ (.slice q.A2 q.ms.length q.c2)).heap[w.heap.size]?=some (.cells #[.slice q.A q.ls.length q.c,.slice q.A2 q.ms.length q.c2] 28 (0,0))):=hid ((ae (ae rb 0 _) 1 _).trans rfl)
 have TF:Hid (aG w.heap.size [28] w2 ((w2.setCell ⟨w.heap.size,0,none⟩ (.slice q.A q.ls.length q.c)).setCell ⟨w.heap.size,1,none⟩ (.slice q.A2 q.ms.length q.c2))):=hid (((aG.refl _ _ w2).bB (p:=⟨w.heap.size,0,none⟩) yy (by simp) (Nat.le_refl _) _).bB (p:=⟨w.heap.size,1,none⟩) (yy.set _ _) (by simp) (Nat.le_refl _) _)
 obtain⟨k0,k1⟩:=ai fF.out
 clear rb yy
 go_wp2_with (go_at_call 87;refine (iW _).mono ?_;rintro e w' ⟨rfl,rfl⟩)
 refine bodyPost_ret (v:=.agg #[.slice q.A q.ls.length q.c,.slice q.A2 q.ms.length q.c2]) (by simp [results,results92,go_sem,k0,k1]) rfl ?_
 exact⟨B2.out.trans TF.out.below,fun _=>⟨q,rfl,HQ.out.1.cZ TF.out (by decide) (by decide) (by decide),HQ.out.2⟩,fun z=>absurd Ei.out z⟩
end
end
section
section
open Go.RowKit Go.Lib
theorem D9:(2000:Int).toNat=2000:=rfl
theorem lJ:(8:Int).toNat=8:=rfl
theorem Fr.only_le {b d:List UInt8} (h:Fr.only b=some d):d.length≤60000:=by
 unfold Fr.only at h
 cases hu:Fr.kN b with
 | none=>rw [hu] at h;cases h
 | some x =>
  rw [hu] at h
  dsimp only at h
  split at h
  ·injection h with h
   subst h
   exact (Fr.g_ hu).2.1
  ·cases h
def fo (b:List UInt8) (w:World) (e:Ending) (w':World):Prop:=Below w.heap.size w w'∧((T9.fP b).2=0→∃ m:dR,e=.returned m.val∧wV m w'∧m.mg=(T9.fP b).1)∧((T9.fP b).2≠0→e=oO)
theorem fo.bad {b:List UInt8} {w w':World} (h:(T9.fP b).2≠0) (hb:Below w.heap.size w w'):fo b w (.panicked [{ v:=.iface 34 (.int .i64 150),recovered:=false }]) w':=⟨hb,fun q=>absurd q h,fun _=>rfl⟩
theorem fo.good {b:List UInt8} {m:dR} {w w':World} (h:T9.fP b=(m.mg,0)) (hm:wV m w') (hb:Below w.heap.size w w'):fo b w (.returned m.val) w':=⟨hb,fun _=>⟨m,rfl,hm,by rw [h]⟩,fun q=>absurd (by rw [h]) q⟩
theorem aN.far {rt:TypeId} {B p gb rb i0 i1 i2 i3 i4 c c1:Nat} {xs:List It} {A A1:Option Addr} {las:List La} {s:Option (List UInt8)} {wz w:World} (h:aN rt B p gb rb i0 i1 i2 i3 i4 xs A c las A1 c1 s wz w) (hm:rt≠61) {g:Nat} (hT:Ty w g 61) (hB:B≤g) (hne:∀ k,(Value.slice A1 las.length c1).ownBlock=some k→k≠g) (i:Nat) (u:Value):aN rt B p gb rb i0 i1 i2 i3 i4 xs A c las A1 c1 s wz (w.setCell ⟨g,i,none⟩ u):=by
 obtain⟨cs,fr,hg⟩:=hT
 have T:=(aG.refl B [61] w).bB (p:=⟨g,i,none⟩) ⟨_,_,hg⟩ (by simp) hB u
 refine⟨h.r.cZ T (by simpa using hm) (by decide),bu h.i T (by decide),pX h.a fun k hk=>Below.heap_setCell w _ _ k (hne k hk),T.blk h.b (by decide),T.blk h.z (by decide),h.d.trans (T.below.mono (by have:=h.o;omega)),h.o⟩
theorem Ar {A:Option Addr} {n c:Nat} {b:List UInt8} {w:World} {D:Nat} {td:TypeId} (h:av w D td A (af b)) (hn:n=b.length) (hc:n≤c) (hb:n≤1000000000) (hD:D≤w.heap.size) :
  Calls prog 44 #[.slice A n c] w (fo b w):=by
 obtain⟨w0,hw0⟩:∃ u,w.alloc (.cells #[.int .i64 0,.int .u64 0,.int .u64 0,.int .u64 0,.int .u64 0,.slice none 0 0,.slice none 0 0,.slice none 0 0,.slice none 0 0] 30)=u:=⟨_,rfl⟩
 obtain⟨kK,b0,z0⟩:=bD hw0
 have qH:=hid kK
 have B0:=hid b0
 have Z0:=hid z0
 have FO:=hid (fonly_c (c:=c) ((h.more hD).old (t':=5) |>.below (Nat.le_refl _) b0) hn hc hb)
 clear h kK b0 hn hb hc z0
 go_enter func44,ntmps44
 go_wp2_with fail
 refine FO.out.mono ?_
 rintro e w1 ⟨Af,nf,cf,rfl,hnf,hcf,hof,hbf⟩
 cases ho:Fr.only b with
 | none =>
  have er:Fr.fC b=40:=by unfold Fr.fC;rw [ho];rfl
  have HO:=hid (T9.pU ho)
  have BF:=hid (B0.out.trans (hbf.mono B0.out.size))
  rw [er]
  clear er hnf hcf hof hbf ho
  go_wp2_with (go_at_call 87;refine (gV _).mono ?_;rintro e w' ⟨rfl,rfl⟩)
  exact⟨rfl,fo.bad HO.out BF.out⟩
 | some body =>
 have er:Fr.fC b=0:=by unfold Fr.fC;rw [ho];rfl
 have eb:Fr.l9 b=body:=by unfold Fr.l9;rw [ho];rfl
 rw [er]
 rw [eb] at hnf hof
 have HO:=hid ho
 have lb:=Fr.only_le ho
 have LBD:=hid lb
 have CR:=hid (ul (c:=cf) (aD (B:=0) (t:=5) hof) (Nat.zero_le _) hnf (by omega))
 have B1:Hid (Below w.heap.size w w1):=hid (B0.out.trans (hbf.mono B0.out.size))
 have oI:=hid (ah qH.out hbf)
 have Z1:Hid (w.heap.size+1≤w1.heap.size):=hid (by have:=hbf.size;have:=Z0.out;omega)
 have L0:Hid (∀ l,some body=some l→l.length≤1099511627776):=hid (by intro l e;injection e with e;subst e;omega)
 clear er eb hnf hcf hof hbf ho lb
 go_wp2_with (go_at_call 87;refine (iW _).mono ?_;rintro e w' ⟨rfl,rfl⟩)
 refine CR.out.mono ?_
 rintro e w2 ⟨p,rfl,hr,hb2⟩
 obtain⟨B,hB⟩:∃ v,v=w1.heap.size:=⟨_,rfl⟩
 rw [← hB] at hr
 have zG:=hid (ah oI.out hb2)
 have B2:Hid (Below w.heap.size w w2):=hid (B1.out.trans (hb2.mono B1.out.size))
 have BZ:Hid (w.heap.size+1≤B∧B≤w2.heap.size):=hid ⟨by have:=Z1.out;omega,by have:=hb2.size;omega⟩
 obtain⟨S,hS⟩:∃ v,v=some body:=⟨_,rfl⟩
 rw [← hS] at hr L0
 have HS:=hid hS
 have N1:=hid (eG (mz:=8) hr (by decide) L0.out (by decide))
 rw [lJ] at N1
 clear hr hb2 hB hS
 go_wp2_with fail
 refine N1.out.mono ?_
 rintro e w3 ⟨rfl,hr,ht⟩
 have i8:(Cd.aS 8 S).1≤8:=(Cd.b_ 8 S).2
 obtain⟨i0,hi0⟩:∃ v,v=(Cd.aS 8 S).1:=⟨_,rfl⟩
 rw [← hi0] at i8 ⊢
 have I0:=hid hi0
 have hwr:IntKind.i64.wrap (i0:Int)=(i0:Int):=by rw [IntKind.wrap_i64];omega
 have hr:RS 147 B 5 w3 p (T9.g1 S):=hr
 have qI:=hid (ht.blk zG.out (by decide))
 have B3:Hid (Below w.heap.size w w3):=hid (B2.out.trans (ht.below.mono (by have:=BZ.out;omega)))
 have GZ:Hid (w.heap.size+1≤B∧B≤w3.heap.size):=hid (by have:=ht.size;have:=BZ.out;omega)
 clear hi0 ht i8
 go_wp2_with fail
 obtain⟨w4,hw4⟩:∃ u,w3.alloc (.cells #[.int .i64 (i0:Int),.int .u64 0,.int .u64 0,.int .u64 0,.int .u64 0,.slice none 0 0,.slice none 0 0,.slice none 0 0,.slice none 0 0] 30)=u:=⟨_,rfl⟩
 rw [hw4]
 obtain⟨lb4,b4,z4⟩:=bD hw4
 have M4:Hid (aN 147 B p w3.heap.size w.heap.size i0 0 0 0 0 [] none 0 [] none 0 (T9.g1 S) w w4):=hid ⟨by rw [← hw4];exact hr.alloc _,World.ownsRow_nil _ _ _ _,World.ownsRow_nil _ _ _ _,lb4,ah qI.out b4,B3.out.trans (b4.mono (by have:=GZ.out;omega)),rfl,GZ.out.1,GZ.out.2⟩
 have qJ:Hid (St.jO S (T9.g1 S)):=hid (St.bN 8 S)
 clear hr lb4 b4 z4 hw4
 have C1:=hid (eG (mz:=18446744073709551615) M4.out.r (by decide) (qJ.out.bound L0.out) (by decide))
 rw [aQ] at C1
 refine C1.out.mono ?_
 rintro e w5 ⟨rfl,hr,ht⟩
 obtain⟨i1,hi⟩:∃ v,v=(Cd.aS Cd.full (T9.g1 S)).1:=⟨_,rfl⟩
 rw [← hi]
 have I1:=hid hi
 have M5:Hid (aN 147 B p w3.heap.size w.heap.size i0 0 0 0 0 [] none 0 [] none 0 (T9.g2 S) w w5):=hid (M4.out.cZ ht hr (by decide) (by decide) (by decide))
 obtain⟨c0,c1,c2,c3,c4,c5,c6,c7,c8⟩:=M5.out.cells
 have f5:=M5.out.free 1
 obtain⟨w6,zW⟩:∃ u,w5.setCell ⟨w3.heap.size,1,none⟩ (.int .u64 (i1:Int))=u:=⟨_,rfl⟩
 have M6:Hid (aN 147 B p w3.heap.size w.heap.size i0 i1 0 0 0 [] none 0 [] none 0 (T9.g2 S) w w6):=hid (by rw [← zW];exact M5.out.line (by decide) i1)
 have rA:Hid (St.jO S (T9.g2 S)):=hid (qJ.out.trans (St.bN Cd.full (T9.g1 S)))
 clear hr ht hi
 have C2:=hid (eG (mz:=18446744073709551615) M6.out.r (by decide) (rA.out.bound L0.out) (by decide))
 rw [aQ] at C2
 go_wp2_with fail
 refine C2.out.mono ?_
 rintro e w7 ⟨rfl,hr,ht⟩
 obtain⟨i2,hi⟩:∃ v,v=(Cd.aS Cd.full (T9.g2 S)).1:=⟨_,rfl⟩
 rw [← hi]
 have I2:=hid hi
 have M7:Hid (aN 147 B p w3.heap.size w.heap.size i0 i1 0 0 0 [] none 0 [] none 0 (T9.g3 S) w w7):=hid (M6.out.cZ ht hr (by decide) (by decide) (by decide))
 obtain⟨c0,c1,c2,c3,c4,c5,c6,c7,c8⟩:=M7.out.cells
 have f5:=M7.out.free 2
 obtain⟨w8,hw8⟩:∃ u,w7.setCell ⟨w3.heap.size,2,none⟩ (.int .u64 (i2:Int))=u:=⟨_,rfl⟩
 have M8:Hid (aN 147 B p w3.heap.size w.heap.size i0 i1 i2 0 0 [] none 0 [] none 0 (T9.g3 S) w w8):=hid (by rw [← hw8];exact M7.out.aK (by decide) i2)
 have uL:Hid (St.jO S (T9.g3 S)):=hid (rA.out.trans (St.bN Cd.full (T9.g2 S)))
 clear hr ht hi
 have C3:=hid (eG (mz:=18446744073709551615) M8.out.r (by decide) (uL.out.bound L0.out) (by decide))
 rw [aQ] at C3
 go_wp2_with fail
 refine C3.out.mono ?_
 rintro e w9 ⟨rfl,hr,ht⟩
 obtain⟨i3,hi⟩:∃ v,v=(Cd.aS Cd.full (T9.g3 S)).1:=⟨_,rfl⟩
 rw [← hi]
 have I3:=hid hi
 have M9:Hid (aN 147 B p w3.heap.size w.heap.size i0 i1 i2 0 0 [] none 0 [] none 0 (T9.g4 S) w w9):=hid (M8.out.cZ ht hr (by decide) (by decide) (by decide))
 obtain⟨c0,c1,c2,c3,c4,c5,c6,c7,c8⟩:=M9.out.cells
 have f5:=M9.out.free 3
 obtain⟨lv,mX⟩:∃ u,w9.setCell ⟨w3.heap.size,3,none⟩ (.int .u64 (i3:Int))=u:=⟨_,rfl⟩
 have M10:Hid (aN 147 B p w3.heap.size w.heap.size i0 i1 i2 i3 0 [] none 0 [] none 0 (T9.g4 S) w lv):=hid (by rw [← mX];exact M9.out.bE (by decide) i3)
 have uM:Hid (St.jO S (T9.g4 S)):=hid (uL.out.trans (St.bN Cd.full (T9.g3 S)))
 clear hr ht hi
 have C4:=hid (eG (mz:=18446744073709551615) M10.out.r (by decide) (uM.out.bound L0.out) (by decide))
 rw [aQ] at C4
 go_wp2_with fail
 refine C4.out.mono ?_
 rintro e mI ⟨rfl,hr,ht⟩
 obtain⟨i4,hi⟩:∃ v,v=(Cd.aS Cd.full (T9.g4 S)).1:=⟨_,rfl⟩
 rw [← hi]
 have I4:=hid hi
 have M11:Hid (aN 147 B p w3.heap.size w.heap.size i0 i1 i2 i3 0 [] none 0 [] none 0 (T9.g5 S) w mI):=hid (M10.out.cZ ht hr (by decide) (by decide) (by decide))
 obtain⟨c0,c1,c2,c3,c4,c5,c6,c7,c8⟩:=M11.out.cells
 have f5:=M11.out.free 4
 obtain⟨mK,mY⟩:∃ u,mI.setCell ⟨w3.heap.size,4,none⟩ (.int .u64 (i4:Int))=u:=⟨_,rfl⟩
 have M12:Hid (aN 147 B p w3.heap.size w.heap.size i0 i1 i2 i3 i4 [] none 0 [] none 0 (T9.g5 S) w mK):=hid (by rw [← mY];exact M11.out.bI (by decide) i4)
 have xg:Hid (St.jO S (T9.g5 S)):=hid (uM.out.trans (St.bN Cd.full (T9.g4 S)))
 clear hr ht hi
 have C5:=hid (eG (mz:=8) M12.out.r (by decide) (xg.out.bound L0.out) (by decide))
 rw [lJ] at C5
 go_wp2_with fail
 refine C5.out.mono ?_
 rintro e n_ ⟨rfl,hr,ht⟩
 have nx:T9.n1 S≤8:=(Cd.b_ 8 (T9.g5 S)).2
 obtain⟨nI,hnI⟩:∃ v,v=T9.n1 S:=⟨_,rfl⟩
 have Cw:nI=(Cd.aS 8 (T9.g5 S)).1:=hnI
 rw [← hnI] at nx
 rw [← Cw]
 have NI:=hid hnI
 have M13:Hid (aN 147 B p w3.heap.size w.heap.size i0 i1 i2 i3 i4 [] none 0 [] none 0 (T9.g6 S) w n_):=hid (M12.out.cZ ht hr (by decide) (by decide) (by decide))
 obtain⟨ti0,thi,tz0,tz1,tz2⟩:=info_parts Tryz.infoIt15
 obtain⟨ai0,ahi,az0,az1,az2⟩:=info_parts Tryz.infoLa15
 clear hr ht hnI Cw c0 c1 c2 c3 c4 c5 c6 c7 c8 f5
 go_wp2_with fail
 go_loopw [36] (fun s36 wr=>∃ (j:Nat) (A:Option Addr) (c:Nat),s36=.int .u64 j∧j≤nI∧Hid (T9.Bi S j)∧Aside (aN 147 B p w3.heap.size w.heap.size i0 i1 i2 i3 i4 (T9.Bn S j) A c [] none 0 ((T9.many (Cd.bQ 60000) j (T9.g6 S)).2) w wr)) (fun s36 _=>nI - (intOf s36).toNat)
 case atStart=>exact⟨0,none,0,rfl,Nat.zero_le _,hid (T9.vO S),M13.out⟩
 case round =>
  obtain⟨j,A,c,rfl,hj,HX,hI⟩:=hrel
  obtain⟨xs,hxs⟩:∃ v,v=T9.Bn S j:=⟨_,rfl⟩
  have hI:aN 147 B p w3.heap.size w.heap.size i0 i1 i2 i3 i4 xs A c [] none 0 ((T9.many (Cd.bQ 60000) j (T9.g6 S)).2) w wr:=by rw [hxs];exact hI.out
  have xl:xs.length≤8:=by rw [hxs,T9.zC];omega
  have HXS:=hid hxs
  have HI:=hid hI
  clear hI hxs
  by_cases hlt:j<nI
  ·have hltz:(j:Int)<(nI:Int):=by omega
   have LJ:Hid (∀ l,(T9.many (Cd.bQ 60000) j (T9.g6 S)).2=some l→l.length≤1099511627776):=hid (((T9.qz S).trans (T9.nD j _)).bound L0.out)
   have CB:=hid (pY (w:=wr.drew) (mz:=60000) (HI.out.r.cZ (aG.refl B [] wr).drew (by simp) (by simp)) (by decide) LJ.out (by decide) (by decide))
   rw [mD] at CB
   have S0:wr.drew.cell? ⟨w3.heap.size,5,none⟩=some (.slice A xs.length c):=HI.out.cells.2.2.2.2.2.1
   go_wp2_with fail
   refine Any.begin (S:=fun u=>u.cell? ⟨w3.heap.size,5,none⟩=some (.slice A xs.length c)) (st:=8) pM ?_
   refine Any.take (st:=8) (i:=0) (v:=?_) rfl (by kernel_rfl) (by kernel_rfl) (by kernel_rfl) rfl (by kernel_rfl) (fun _ _ _ h=>h) (Or.inl ⟨by rfl,?_⟩) S0 ?_
   rotate_left
   ·intro u hu
    have hu:u.cell? ⟨w3.heap.size,5,none⟩=some (.slice A xs.length c):=hu
    go_simp
    try rfl
   try simp only [Act.put,pS]
   refine Any.take (st:=8) (i:=1) (v:=?_) rfl (by kernel_rfl) (by kernel_rfl) (by kernel_rfl) rfl (by kernel_rfl) (fun _ _ _ h=>h) (Or.inl ⟨by rfl,?_⟩) S0 ?_
   rotate_left
   ·intro u hu
    have hu:u.cell? ⟨w3.heap.size,5,none⟩=some (.slice A xs.length c):=hu
    go_simp
    try rfl
   try simp only [Act.put,pS]
   refine Any.take (st:=8) (i:=2) (v:=?_) rfl (by kernel_rfl) (by kernel_rfl) (by kernel_rfl) rfl (by kernel_rfl) (fun _ _ _ h=>h) (Or.inl ⟨by rfl,?_⟩) S0 ?_
   rotate_left
   ·intro u hu
    have hu:u.cell? ⟨w3.heap.size,5,none⟩=some (.slice A xs.length c):=hu
    go_simp
    try rfl
   try simp only [Act.put,pS]
   clear S0
   refine Any.one (i:=3) (by kernel_rfl) rfl (fun K hK=>?_)
   go_simp
   refine CB.out.mono ?_
   rintro e wa ⟨Ab,nb,cb,rfl,eT,hr,ht⟩
   obtain⟨jq,_⟩:=aA eT
   obtain⟨bd,hbd⟩:∃ v,v=(Cd.bQ 60000 (T9.many (Cd.bQ 60000) j (T9.g6 S)).2).1:=⟨_,rfl⟩
   have iF:wa.ownsRow wr.drew.heap.size 5 1 (.slice Ab nb cb) bd.length (af bd):=by rw [hbd];exact eT
   have hnb:nb=bd.length:=by rw [hbd];exact jq
   have CP:bd.length≤60000:=by rw [hbd];exact gX 60000 _
   have BD:=hid hbd
   have AV:Hid (aN 147 B p w3.heap.size w.heap.size i0 i1 i2 i3 i4 xs A c [] none 0 ((T9.many (Cd.bQ 60000) (j+1) (T9.g6 S)).2) w wa):=hid (HI.out.cZ ((aG.refl B [147] wr).drew.trans ht) (by rw [T9.aY];exact hr) (by decide) (by decide) (by decide))
   have RI:=hid (xX (c:=cb) (aD (B:=0) (t:=5) iF) hnb (by omega) (Nat.zero_le _))
   have xa:=AV.out.cells.2.2.2.2.2.1
   clear eT jq iF hnb CP hbd hr ht
   refine hK _ _ (fun _=>xa) ?_
   clear hK K
   try simp only [Act.put,pS]
   refine Any.one (i:=4) (by kernel_rfl) rfl (fun K hK=>?_)
   go_simp
   refine RI.out.mono ?_
   rintro e wb ⟨hbl,hok,hbad⟩
   have AX:Hid (aN 147 B p w3.heap.size w.heap.size i0 i1 i2 i3 i4 xs A c [] none 0 ((T9.many (Cd.bQ 60000) (j+1) (T9.g6 S)).2) w wb):=hid (AV.out.below hbl)
   by_cases hz:(T9.fB 60000 bd).2=0
   case neg =>
    have q:=hbad hz
    unfold oO at q
    subst q
    exact⟨rfl,fo.bad (T9.iw HO.out (by rw [← HS.out];exact T9.kI (j:=j) (by rw [← NI.out];exact hlt) (by rw [← BD.out];exact hz))) AX.out.d⟩
   obtain rfl:=hok hz
   obtain⟨x,hx⟩:∃ v,(T9.fB 60000 bd).1=v:=⟨_,rfl⟩
   have HX2:Hid (T9.Bi S (j+1)):=hid (T9.vN HX.out (by rw [← BD.out];exact hz))
   have HXX:Hid (T9.Bn S (j+1)=xs++[x]):=hid (by rw [T9.wS,← HXS.out,← BD.out,hx])
   rw [hx]
   unfold It.val
   have hbs:=oV x wb
   have xb:=AX.out.cells.2.2.2.2.2.1
   clear hz hx hok hbad hbl
   refine hK _ _ (fun _=>xb) ?_
   clear hK K xa
   try simp only [Act.put,pS]
   refine Any.one (i:=5) (by kernel_rfl) rfl (fun K hK=>?_)
   go_simp
   have yC:Hid (aN 147 B p w3.heap.size w.heap.size i0 i1 i2 i3 i4 xs A c [] none 0 ((T9.many (Cd.bQ 60000) (j+1) (T9.g6 S)).2) w (wb.alloc (.cells (encI x).toArray 57))):=hid (AX.out.below ((Below.refl _ _).alloc (Nat.le_refl _) _))
   refine hK _ _ (fun _=>yC.out.cells.2.2.2.2.2.1) ?_
   clear hK K hbs
   try simp only [Act.put,pS]
   refine Any.one (i:=6) (by kernel_rfl) rfl (fun K hK=>?_)
   refine jL rfl _ _ 23 rfl B 57 ti0 _ 8 72 underlying23 thi tz0 tz1 tz2 rfl (by decide) _ xs.length _ rfl yC.out.i 0 (some ⟨wb.heap.size,0,none⟩) 1 1 (encI x) 57 rfl rfl (av.dD (heap_alloc_new wb _)) (uY x) (by unfold maxLen;omega) (by omega) (by first | exact yC.out.size | (simp;have:=AX.out.size;omega)) ?_
   intro v6 w6 hown6 aP iT
   obtain⟨A6,k6,rfl⟩:=aL hown6
   have g6:=(yC.out.tH (by decide) aP).2.2.1
   have e65:=(ag g6).2.2.2.2.2.1
   have f65:=aa g6 5
   have MD:Hid (aN 147 B p w3.heap.size w.heap.size i0 i1 i2 i3 i4 (xs++[x]) A6 k6 [] none 0 ((T9.many (Cd.bQ 60000) (j+1) (T9.g6 S)).2) w (w6.setCell ⟨w3.heap.size,5,none⟩ (.slice A6 (xs.length+1) k6))):=hid (yC.out.item (by decide) (by decide) aP hown6)
   refine hK _ _ (fun _=>e65) ?_
   clear hK K g6 hown6 aP iT xb
   try simp only [Act.put,pS]
   refine Any.one (i:=7) (by kernel_rfl) rfl (fun K hK=>?_)
   go_simp
   refine hK _ _ (fun _=>e65) ?_
   clear hK K
   try simp only [Act.put,pS]
   refine Any.one (i:=8) (by kernel_rfl) rfl (fun K hK=>?_)
   go_simp
   refine hK _ _ (fun e=>absurd rfl e) ?_
   clear hK K
   try simp only [Act.put,pS]
   refine Any.done (by kernel_rfl) ?_
   obtain⟨wf,hwf⟩:∃ u,w6.setCell ⟨w3.heap.size,5,none⟩ (.slice A6 (xs.length+1) k6)=u:=⟨_,rfl⟩
   rw [hwf] at MD
   try rw [hwf]
   clear e65 f65 hwf
   go_wp2
   go_roundw
   case rel=>exact⟨j+1,A6,k6,by go_num,by omega,HX2,by rw [HXX.out];exact MD.out⟩
   case measure=>simp [intOf];omega
  ·obtain rfl:j=nI:=by omega
   have hltz:¬ ((j:Int)<(j:Int)):=by omega
   have G7:Hid ((T9.many (Cd.bQ 60000) j (T9.g6 S)).2=T9.g7 S):=hid (by unfold T9.g7;rw [← NI.out])
   rw [G7.out] at HI
   have C7:=hid (eG (mz:=2000) HI.out.r (by decide) (((T9.qz S).trans (T9.nD (T9.n1 S) _)).bound L0.out) (by decide))
   rw [D9] at C7
   go_wp2_with fail
   refine C7.out.mono ?_
   rintro e w20 ⟨rfl,hr,ht⟩
   have ny:T9.n2 S≤2000:=(Cd.b_ 2000 (T9.g7 S)).2
   obtain⟨nA,hnA⟩:∃ v,v=T9.n2 S:=⟨_,rfl⟩
   have Cv:nA=(Cd.aS 2000 (T9.g7 S)).1:=hnA
   rw [← hnA] at ny
   rw [← Cv]
   have NA:=hid hnA
   have M20:Hid (aN 147 B p w3.heap.size w.heap.size i0 i1 i2 i3 i4 xs A c [] none 0 (T9.g8 S) w w20):=hid (HI.out.cZ ht hr (by decide) (by decide) (by decide))
   clear hr ht hnA Cv
   go_wp2_with fail
   go_loopw [49] (fun s49 wr=>∃ (k:Nat) (A1:Option Addr) (c1:Nat),s49=.int .u64 k∧k≤nA∧Aside (aN 147 B p w3.heap.size w.heap.size i0 i1 i2 i3 i4 xs A c (T9.Em S k) A1 c1 ((T9.many T9.eH k (T9.g8 S)).2) w wr)) (fun s49 _=>nA - (intOf s49).toNat)
   case atStart=>exact⟨0,none,0,rfl,Nat.zero_le _,M20.out⟩
   case round =>
    obtain⟨wo,hwo⟩:∃ u,u=wr:=⟨_,rfl⟩
    subst hwo
    obtain⟨k,A1,c1,rfl,hk,hI2⟩:=hrel
    obtain⟨las,hla⟩:∃ v,v=T9.Em S k:=⟨_,rfl⟩
    have hI2:aN 147 B p w3.heap.size w.heap.size i0 i1 i2 i3 i4 xs A c las A1 c1 ((T9.many T9.eH k (T9.g8 S)).2) w wo:=by rw [hla];exact hI2.out
    have ll:las.length≤2000:=by rw [hla,T9.yT];omega
    have HLA:=hid hla
    have HJ:=hid hI2
    clear hI2 hla
    by_cases hlt2:k<nA
    ·have eD:(k:Int)<(nA:Int):=by omega
     have LK:Hid (∀ l,(T9.many T9.eH k (T9.g8 S)).2=some l→l.length≤1099511627776):=hid (((T9.yn S).trans (T9.uC k _)).bound L0.out)
     have CN:=hid (eG (mz:=18446744073709551615) HJ.out.r (by decide) LK.out (by decide))
     rw [aQ] at CN
     go_wp2_with fail
     refine CN.out.mono ?_
     rintro e wa ⟨rfl,hr,ht⟩
     obtain⟨ia,hia⟩:∃ v,v=(Cd.aS Cd.full (T9.many T9.eH k (T9.g8 S)).2).1:=⟨_,rfl⟩
     rw [← hia]
     have IA:=hid hia
     have AV:Hid (aN 147 B p w3.heap.size w.heap.size i0 i1 i2 i3 i4 xs A c las A1 c1 (T9.i1 (T9.many T9.eH k (T9.g8 S)).2) w wa):=hid (HJ.out.cZ ht hr (by decide) (by decide) (by decide))
     clear hr ht hia
     go_wp2_with fail
     obtain⟨wb,hwb⟩:∃ u,wa.alloc (.cells #[.int .u64 (ia:Int),.int .u64 0] 61)=u:=⟨_,rfl⟩
     rw [hwb]
     obtain⟨lbb,bb,zb⟩:=aM hwb
     have AX:Hid (aN 147 B p w3.heap.size w.heap.size i0 i1 i2 i3 i4 xs A c las A1 c1 (T9.i1 (T9.many T9.eH k (T9.g8 S)).2) w wb):=hid (AV.out.below bb)
     have LBB:=hid lbb
     have CN2:=hid (eG (mz:=18446744073709551615) AX.out.r (by decide) ((St.bN Cd.full _).bound LK.out) (by decide))
     rw [aQ] at CN2
     clear lbb bb zb hwb
     refine CN2.out.mono ?_
     rintro e wc ⟨rfl,hr,ht⟩
     obtain⟨ib,hib⟩:∃ v,v=(Cd.aS Cd.full (T9.i1 (T9.many T9.eH k (T9.g8 S)).2)).1:=⟨_,rfl⟩
     rw [← hib]
     have yC:Hid (aN 147 B p w3.heap.size w.heap.size i0 i1 i2 i3 i4 xs A c las A1 c1 ((T9.many T9.eH (k+1) (T9.g8 S)).2) w wc):=hid (AX.out.cZ ht (by rw [T9.aY];exact hr) (by decide) (by decide) (by decide))
     have qX:=ht.blk LBB.out (by decide)
     obtain⟨l0,l1⟩:=ai qX
     have fl1:=aa qX 1
     have LN:Hid (T9.Em S (k+1)=las++[⟨ia,ib⟩]):=hid (by rw [T9.vI,← HLA.out,IA.out,hib];rfl)
     have yy:Ty wc wa.heap.size 61:=⟨_,_,qX⟩
     obtain⟨wd,hwd⟩:∃ u,wc.setCell ⟨wa.heap.size,1,none⟩ (.int .u64 (ib:Int))=u:=⟨_,rfl⟩
     have ld:wd.heap[wa.heap.size]?=some (.cells #[.int .u64 (ia:Int),.int .u64 (ib:Int)] 61 (0,0)):=by rw [← hwd];exact (ae qX 1 (.int .u64 (ib:Int))).trans rfl
     have MDq:Hid (aN 147 B p w3.heap.size w.heap.size i0 i1 i2 i3 i4 xs A c las A1 c1 ((T9.many T9.eH (k+1) (T9.g8 S)).2) w wd):=hid (by
      rw [← hwd]
      exact yC.out.far (by decide) yy (by have:=AV.out.size;exact this) (fun k2 hk2=>by have:=(AV.out.a.lt k2 hk2).2;omega) _ _)
     obtain⟨d0,d1⟩:=ai ld
     obtain⟨m0,m1,m2,m3,m4,m5,m6,m7,m8⟩:=MDq.out.cells
     have hbs:=oU ia ib wd
     have MEq:Hid (aN 147 B p w3.heap.size w.heap.size i0 i1 i2 i3 i4 xs A c las A1 c1 ((T9.many T9.eH (k+1) (T9.g8 S)).2) w (wd.alloc (.cells #[.int .u64 (ia:Int),.int .u64 (ib:Int)] 61))):=hid (MDq.out.below ((Below.refl _ _).alloc (Nat.le_refl _) _))
     have LE:Hid (av (wd.alloc (.cells #[.int .u64 (ia:Int),.int .u64 (ib:Int)] 61)) 0 61 (some ⟨wd.heap.size,0,none⟩) (ky ⟨ia,ib⟩)):=hid (av.dD (heap_alloc_new wd _))
     have zB:=MDq.out.size
     clear hr ht hib qX yy ld
     go_wp2_with (at_builtin;refine aO _ rfl _ _ 24 rfl B 61 ai0 _ 2 16 underlying24 ahi az0 az1 az2 rfl (by decide) _ las.length (gy las) rfl MEq.out.a 0 _ 1 1 (ky ⟨ia,ib⟩) 61 rfl rfl LE.out (uX _) (by unfold maxLen;omega) (by omega) (by first | exact MEq.out.size | (simp;omega)) ?_)
     intro v6 w6 hown6 aP iT
     obtain⟨A6,k6,rfl⟩:=aL hown6
     have g6:=(MEq.out.tF (by decide) aP).2.2.1
     obtain⟨n0,n1,n2,n3,n4,n5,n6,n7,n8⟩:=ag g6
     have f66:=aa g6 6
     have MF:Hid (aN 147 B p w3.heap.size w.heap.size i0 i1 i2 i3 i4 xs A c (las++[⟨ia,ib⟩]) A6 k6 ((T9.many T9.eH (k+1) (T9.g8 S)).2) w (w6.setCell ⟨w3.heap.size,6,none⟩ (.slice A6 (las.length+1) k6))):=hid (MEq.out.last (by decide) (by decide) aP hown6)
     clear g6 hown6 aP iT hbs d0 d1 m0 m1 m2 m3 m4 m5 m6 m7 m8 l0 l1 fl1 zB
     go_wp2
     go_roundw
     case rel=>exact⟨k+1,A6,k6,by go_num,by omega,by rw [LN.out];exact MF.out⟩
     case measure=>simp [intOf];omega
    ·obtain rfl:k=nA:=by omega
     have eD:¬ ((k:Int)<(k:Int)):=by omega
     have G9:Hid ((T9.many T9.eH k (T9.g8 S)).2=T9.g9 S):=hid (by unfold T9.g9;rw [← NA.out])
     rw [G9.out] at HJ
     have C9:=hid (pY (mz:=60000) HJ.out.r (by decide) ((T9.DV S).bound L0.out) (by decide) (by decide))
     rw [mD] at C9
     go_wp2_with fail
     refine C9.out.mono ?_
     rintro e w30 ⟨Ab,nb,cb,rfl,eT,hr,ht⟩
     obtain⟨jq,_⟩:=aA eT
     obtain⟨sb,hsb⟩:∃ v,v=(Cd.bQ 60000 (T9.g9 S)).1:=⟨_,rfl⟩
     have iF:w30.ownsRow wo.heap.size 5 1 (.slice Ab nb cb) sb.length (af sb):=by rw [hsb];exact eT
     have hnb:nb=sb.length:=by rw [hsb];exact jq
     have lsb:sb.length≤60000:=by rw [hsb];exact gX 60000 _
     have SB:Hid ((T9.bY S).sb=sb):=hid hsb.symm
     obtain⟨s10,tL⟩:∃ v,v=T9.g10 S:=⟨_,rfl⟩
     have S10:=hid tL
     have M30:Hid (aN 147 B p w3.heap.size w.heap.size i0 i1 i2 i3 i4 xs A c las A1 c1 (s10) w w30):=hid (HJ.out.cZ ht (by rw [tL];exact hr) (by decide) (by decide) (by decide))
     have RS9:=hid (vY (c:=cb) (aD (B:=0) (t:=5) iF) hnb (by omega) (Nat.zero_le _))
     clear eT jq iF hnb lsb hsb hr ht tL
     go_wp2_with fail
     refine RS9.out.mono ?_
     rintro e w31 ⟨hbl,hok,hbad⟩
     have M31:Hid (aN 147 B p w3.heap.size w.heap.size i0 i1 i2 i3 i4 xs A c las A1 c1 (s10) w w31):=hid (M30.out.below hbl)
     by_cases hz:(T9.of sb).2=0
     case neg =>
      have q:=hbad hz
      unfold oO at q
      subst q
      exact⟨rfl,fo.bad (T9.iw HO.out (by rw [← HS.out];exact fun g=>hz (by have:=g.2.1;rw [SB.out] at this;exact this))) M31.out.d⟩
     obtain⟨q,rfl,hq,Be⟩:=hok hz
     obtain⟨W1,W2,W3,W4,W5⟩:=M31.out.state hq
     have CE0:=W5 (by decide)
     obtain⟨c0,c1',c2,c3,c4,c5,c6,c7,c8⟩:=M31.out.cells
     have f7:=M31.out.free 7
     have f8:=M31.out.free 8
     obtain⟨w32,hw32⟩:∃ u,(w31.setCell ⟨w3.heap.size,7,none⟩ (.slice q.A q.ls.length q.c)).setCell ⟨w3.heap.size,8,none⟩ (.slice q.A2 q.ms.length q.c2)=u:=⟨_,rfl⟩
     rw [hw32] at W1 W2 W3 W4 CE0
     have CE:=hid (sW CE0)
     have HW1:=hid W1
     have HW2:=hid W2
     have HW3:=hid W3
     have HW4:=hid W4
     have OX:Hid (T9.Bi S (T9.n1 S)):=hid (by rw [← NI.out];exact HX.out)
     have KS:Hid ((T9.of (T9.bY S).sb).2=0):=hid (by rw [SB.out];exact hz)
     have MG:Hid ((⟨(i0:Int),i1,i2,i3,i4,xs,A,c,las,A1,c1,q⟩:dR).mg=T9.kR (T9.bY S)):=hid (by
      show Mg.mk (i0:Int) i1 i2 i3 i4 xs las q.st=_
      unfold T9.kR
      rw [SB.out,Be]
      have e1:xs=(T9.bY S).bs.map fun b=>(T9.fB 60000 b).1:=by rw [HXS.out,NI.out];rfl
      have e2:las=(T9.bY S).las:=by rw [HLA.out,NA.out];rfl
      rw [e1,e2,I0.out,I1.out,I2.out,I3.out,I4.out]
      rfl)
     have CK:=hid (mU (w:=w32) W1.wm (by rw [MG.out];exact T9.yV OX.out KS.out) (by show ∀ x∈xs,_;rw [HXS.out];exact T9.wT HX.out) (by show q.st.short;rw [Be];exact jG (T9.uh hz).2.2) (by show xs.length≤maxLen;unfold maxLen;omega) (by show las.length≤maxLen;unfold maxLen;omega))
     rw [MG.out] at CK
     unfold dR.val at CK
     dsimp only at CK
     obtain⟨ck,hck⟩:∃ v,T9.bA (T9.kR (T9.bY S))=v:=⟨_,rfl⟩
     rw [hck] at CK
     have HCK:=hid hck
     unfold ji.val
     clear W1 W2 W3 W4 W5 CE0 hq Be hok hbad hbl hz hck
     by_cases he:s10=some []
     case neg =>
      have ev:dK s10=20:=by
       unfold dK
       split
       ·exact absurd rfl he
       ·rfl
      have HE:=hid he
      clear he
      go_wp2_with (first | (go_at_call 93;refine CE.out.mono ?_;rintro e w' ⟨rfl,rfl⟩) | (go_at_call 87;refine (gV _).mono ?_;rintro e w' ⟨rfl,rfl⟩))
      exact⟨rfl,fo.bad (T9.iw HO.out (by rw [← HS.out];exact fun g=>HE.out (S10.out.trans g.2.2.1))) HW4.out⟩
     have ev:dK s10=0:=by rw [he];rfl
     have HE:=hid he
     obtain⟨d0,d1,d2,d3,d4,d5,d6,d7,d8⟩:=ag HW2.out
     clear he
     by_cases hc0:ck=0
     case neg =>
      have hz:(ck==0)=false:=by simp [hc0]
      have hz2:(ck != 0)=true:=by simp [hc0]
      have HC:=hid hc0
      clear hc0
      go_wp2_with (first | (go_at_call 93;refine CE.out.mono ?_;rintro e w' ⟨rfl,rfl⟩) | (go_at_call 9;refine CK.out.mono ?_;rintro e w33 ⟨rfl,xN⟩;have B33:=hid (HW4.out.trans (xN.mono HW4.out.size));clear xN) | (go_at_call 87;refine (gV _).mono ?_;rintro e w' ⟨rfl,rfl⟩))
      exact⟨rfl,fo.bad (T9.iw HO.out (by rw [← HS.out];exact fun g=>HC.out (HCK.out.symm.trans g.2.2.2))) B33.out⟩
     subst hc0
     have GD:Hid (T9.fP b=(T9.kR (T9.bY S),0)):=hid (by
      rw [HS.out]
      exact T9.Dn HO.out (by rw [← HS.out];exact T9.yL OX.out KS.out (S10.out.symm.trans HE.out) HCK.out))
     go_wp2_with (first | (go_at_call 93;refine CE.out.mono ?_;rintro e w' ⟨rfl,rfl⟩) | (go_at_call 87;refine (iW _).mono ?_;rintro e w' ⟨rfl,rfl⟩))
     refine CK.out.mono ?_
     rintro e w33 ⟨rfl,xN⟩
     have W33:=HW2.out.stay xN
     have rb:=ah HW3.out xN
     have HWT:=hid (HW1.out.stay xN)
     obtain⟨d0,d1,d2,d3,d4,d5,d6,d7,d8⟩:=ag W33
     obtain⟨r0,r1,r2,r3,r4,r5,r6,r7,r8⟩:=ag rb
     have yr:Ty w33 w.heap.size 30:=⟨_,_,rb⟩
     have lL:=aa rb 0
     have lM:=aa rb 1
     have qN:=aa rb 2
     have qO:=aa rb 3
     have qP:=aa rb 4
     have qQ:=aa rb 5
     have xK:=aa rb 6
     have zV:=aa rb 7
     have fr8:=aa rb 8
     have fF:=hid (eF rb (.int .i64 (i0:Int)) (.int .u64 (i1:Int)) (.int .u64 (i2:Int)) (.int .u64 (i3:Int)) (.int .u64 (i4:Int)) (.slice A xs.length c) (.slice A1 las.length c1) (.slice q.A q.ls.length q.c) (.slice q.A2 q.ms.length q.c2))
     have TF:Hid (aG w.heap.size [30] w33 _):=hid (eP yr (Nat.le_refl _) (.int .i64 (i0:Int)) (.int .u64 (i1:Int)) (.int .u64 (i2:Int)) (.int .u64 (i3:Int)) (.int .u64 (i4:Int)) (.slice A xs.length c) (.slice A1 las.length c1) (.slice q.A q.ls.length q.c) (.slice q.A2 q.ms.length q.c2))
     obtain⟨k0,k1,k2,k3,k4,k5,k6,k7,k8⟩:=ag fF.out
     have iN:=hid ((HW4.out.trans (xN.mono HW4.out.size)).trans TF.out.below)
     clear rb yr xN W33
     go_wp2_with (go_at_call 87;refine (iW _).mono ?_;rintro e w' ⟨rfl,rfl⟩)
     refine bodyPost_ret (v:=.agg #[.int .i64 (i0:Int),.int .u64 (i1:Int),.int .u64 (i2:Int),.int .u64 (i3:Int),.int .u64 (i4:Int),.slice A xs.length c,.slice A1 las.length c1,.slice q.A q.ls.length q.c,.slice q.A2 q.ms.length q.c2]) (by simp [results,results44,go_sem,k0,k1,k2,k3,k4,k5,k6,k7,k8]) rfl ?_
     exact fo.good (m:=⟨(i0:Int),i1,i2,i3,i4,xs,A,c,las,A1,c1,q⟩) (by rw [MG.out];exact GD.out) (HWT.out.cZ TF.out (by decide) (by decide) (by decide) (by decide) (by decide)) iN.out
end
end
section
section
open Go.RowKit Go.Lib
theorem bS {w w1 w2:World} {r:Option Nat} (h:w.grownBy w1 r) (k:w1.grownBy w2 r):w.grownBy w2 r :=
 ⟨k.os.trans h.os,k.tape.trans h.tape,k.output.trans h.output,Nat.le_trans h.size k.size,fun b hb hne=>(k.block b (Nat.lt_of_lt_of_le hb h.size) hne).trans (h.block b hb hne)⟩
theorem kD {w w':World} {r:Option Nat} (h:Below w.heap.size w w'):w.grownBy w' r:=⟨h.os,h.tape,h.output,h.size,fun k hk _=>h.block k hk⟩
theorem di (w:World) (p i:Nat) (v:Value):w.grownBy (w.setCell ⟨p,i,none⟩ v) (some p):=⟨rfl,rfl,rfl,by simp,fun k _ hk=>Below.heap_setCell w ⟨p,i,none⟩ v k (fun z=>hk (congrArg some z.symm).symm)⟩
theorem tJ (w:World) (p:Nat) (a b c d e f g h i:Value):w.grownBy (((((((((w.setCell ⟨p,0,none⟩ (a)).setCell ⟨p,1,none⟩ (b)).setCell ⟨p,2,none⟩ (c)).setCell ⟨p,3,none⟩ (d)).setCell ⟨p,4,none⟩ (e)).setCell ⟨p,5,none⟩ (f)).setCell ⟨p,6,none⟩ (g)).setCell ⟨p,7,none⟩ (h)).setCell ⟨p,8,none⟩ (i)) (some p):=by
 have q0:=di w p 0 a
 have q1:=bS q0 (di (w.setCell ⟨p,0,none⟩ a) p 1 b)
 have q2:=bS q1 (di ((w.setCell ⟨p,0,none⟩ a).setCell ⟨p,1,none⟩ b) p 2 c)
 have q3:=bS q2 (di (((w.setCell ⟨p,0,none⟩ a).setCell ⟨p,1,none⟩ b).setCell ⟨p,2,none⟩ c) p 3 d)
 have q4:=bS q3 (di ((((w.setCell ⟨p,0,none⟩ a).setCell ⟨p,1,none⟩ b).setCell ⟨p,2,none⟩ c).setCell ⟨p,3,none⟩ d) p 4 e)
 have q5:=bS q4 (di (((((w.setCell ⟨p,0,none⟩ a).setCell ⟨p,1,none⟩ b).setCell ⟨p,2,none⟩ c).setCell ⟨p,3,none⟩ d).setCell ⟨p,4,none⟩ e) p 5 f)
 have q6:=bS q5 (di ((((((w.setCell ⟨p,0,none⟩ a).setCell ⟨p,1,none⟩ b).setCell ⟨p,2,none⟩ c).setCell ⟨p,3,none⟩ d).setCell ⟨p,4,none⟩ e).setCell ⟨p,5,none⟩ f) p 6 g)
 have q7:=bS q6 (di (((((((w.setCell ⟨p,0,none⟩ a).setCell ⟨p,1,none⟩ b).setCell ⟨p,2,none⟩ c).setCell ⟨p,3,none⟩ d).setCell ⟨p,4,none⟩ e).setCell ⟨p,5,none⟩ f).setCell ⟨p,6,none⟩ g) p 7 h)
 have q8:=bS q7 (di ((((((((w.setCell ⟨p,0,none⟩ a).setCell ⟨p,1,none⟩ b).setCell ⟨p,2,none⟩ c).setCell ⟨p,3,none⟩ d).setCell ⟨p,4,none⟩ e).setCell ⟨p,5,none⟩ f).setCell ⟨p,6,none⟩ g).setCell ⟨p,7,none⟩ h) p 8 i)
 exact q8
theorem zM (p:Addr) (x er:Int) (older:List PanicEntry) (w:World) (hc:w.cell? p=some (.int .i64 x)) (hz:w.frozen? p=false) :
  CallsD prog 85 #[.pointer (some p)] (.panicking ({ v:=.iface 34 (.int .i64 er),recovered:=false } :: older)) w fun e u' w' =>
   e=.returned (.tuple #[])∧u'=.panicking ({ v:=.iface 34 (.int .i64 er),recovered:=true } :: older)∧w'=w.setCell p (.int .i64 er):=by
 refine callsD_of_wpS func85 rfl fun c₀ cs hu=>?_
 apply wpS_seq
 apply wpS_region
 simp [wpOpsS,go_sem,recoverD,hu,ntmps85,Exit.thenS]
 apply wpS_seq
 apply wpS_region
 simp [wpOpsS,go_sem,Exit.thenS,Array.replicate]
 refine wpS_cond (t:=true) (by simp [Act.eval]) ?_
 simp only [if_true]
 apply wpS_region
 have hta:(Instr.typeAssert (.iface 34 (.int .i64 er)) 20 34 false).run prog w=.ok (.int .i64 er) w:=by kernel_rfl
 simp [wpOpsS,go_sem,hta,hc,hz,bodyPostS,results,results85]
theorem zL (p:Addr) (w:World) :
  CallsD prog 85 #[.pointer (some p)] .returning w fun e u' w'=>e=.returned (.tuple #[])∧u'=.returning∧w'=w:=by
 refine callsD_of_wpS func85 rfl fun c₀ cs hu=>?_
 apply wpS_seq
 apply wpS_region
 simp [wpOpsS,go_sem,recoverD,hu,ntmps85,Exit.thenS]
 apply wpS_seq
 apply wpS_region
 simp [wpOpsS,go_sem,Exit.thenS,Array.replicate]
 refine wpS_cond (t:=false) (by simp [Act.eval]) ?_
 simp only [Bool.false_eq_true,if_false]
 refine wpS_of_wp (wp_skip ?_)
 cases c₀
 simp_all [bodyPostS]
 simp [results,results85]
def ClOk15 (b:List UInt8) (g:Nat) (w:World) (e:Ending) (w':World):Prop :=
 w.grownBy w' (some g)∧((T9.fP b).2=0→∃ m:dR,e=.returned (.tuple #[])∧wV m w'∧m.mg=(T9.fP b).1∧sK m g w')∧((T9.fP b).2≠0→e=.panicked [{ v:=.iface 34 (.int .i64 150),recovered:=false }]∧w'.heap[g]?=w.heap[g]?)
theorem clo15_c {A:Option Addr} {n c b0 bm:Nat} {b:List UInt8} {w:World} {D:Nat} {td:TypeId} (h:av w D td A (af b)) (hn:n=b.length) (hc:n≤c) (hb:n≤1000000000) (hD:D≤w.heap.size) (h0:w.heap[b0]?=some (.cells #[.slice A n c] 33 (0,0))) (hm:w.heap[bm]?=some (.cells #[.int .i64 0,.int .u64 0,.int .u64 0,.int .u64 0,.int .u64 0,.slice none 0 0,.slice none 0 0,.slice none 0 0,.slice none 0 0] 30 (0,0))) :
  Calls prog 43 #[.pointer (some ⟨b0,0,none⟩),.pointer (some ⟨bm,0,none⟩)] w (ClOk15 b bm w):=by
 have c0:=cell_of_one h0
 have RM:=hid (Ar h hn hc hb hD)
 have HM:=hid hm
 clear h hn hc hb hD h0 hm
 go_enter func43,ntmps43
 go_wp2_with fail
 refine RM.out.mono ?_
 rintro e w1 ⟨hb1,hok,hbad⟩
 have mb:=ah HM.out hb1
 by_cases hz:(T9.fP b).2=0
 case neg =>
  have q:=hbad hz
  unfold oO at q
  subst q
  exact⟨rfl,kD hb1,fun z=>absurd z hz,fun _=>⟨rfl,hb1.block _ (lt_of_block HM.out)⟩⟩
 obtain⟨m,rfl,hmt,hmg⟩:=hok hz
 have HZ:=hid hz
 have HMT:=hid (And.intro hmt hmg)
 obtain⟨m0,m1,m2,m3,m4,m5,m6,m7,m8⟩:=ag mb
 have f0:=aa mb 0
 have f1:=aa mb 1
 have f2:=aa mb 2
 have f3:=aa mb 3
 have f4:=aa mb 4
 have f5:=aa mb 5
 have f6:=aa mb 6
 have f7:=aa mb 7
 have f8:=aa mb 8
 have PN:=hid (eF mb (.int .i64 m.kind) (.int .u64 (m.line:Int)) (.int .u64 (m.aK:Int)) (.int .u64 (m.bE:Int)) (.int .u64 (m.bI:Int)) (.slice m.A m.is.length m.c) (.slice m.A1 m.las.length m.c1) (.slice m.s.A m.s.ls.length m.s.c) (.slice m.s.A2 m.s.ms.length m.s.c2))
 have TN:=hid (eP (B:=0) (t:=30) ⟨_,_,mb⟩ (Nat.zero_le _) (.int .i64 m.kind) (.int .u64 (m.line:Int)) (.int .u64 (m.aK:Int)) (.int .u64 (m.bE:Int)) (.int .u64 (m.bI:Int)) (.slice m.A m.is.length m.c) (.slice m.A1 m.las.length m.c1) (.slice m.s.A m.s.ls.length m.s.c) (.slice m.s.A2 m.s.ms.length m.s.c2))
 have GN:=hid (bS (kD (r:=some bm) hb1) (tJ w1 bm (.int .i64 m.kind) (.int .u64 (m.line:Int)) (.int .u64 (m.aK:Int)) (.int .u64 (m.bE:Int)) (.int .u64 (m.bI:Int)) (.slice m.A m.is.length m.c) (.slice m.A1 m.las.length m.c1) (.slice m.s.A m.s.ls.length m.s.c) (.slice m.s.A2 m.s.ms.length m.s.c2)))
 unfold dR.val
 clear hok hbad hz hmt hmg mb hb1
 go_wp2
 go_end0
 exact⟨GN.out,fun _=>⟨m,rfl,HMT.out.1.cZ TN.out (by decide) (by decide) (by decide) (by decide) (by decide),HMT.out.2,PN.out⟩,fun z=>absurd HZ.out z⟩
def sI (b:List UInt8) (g:Nat) (w:World) (e:Ending) (w':World):Prop :=
 w.grownBy w' (some g)∧e=.returned (.int .i64 (T9.fP b).2)∧((T9.fP b).2=0→∃ m:dR,wV m w'∧m.mg=(T9.fP b).1∧sK m g w')∧((T9.fP b).2≠0→w'.heap[g]?=w.heap[g]?)
theorem wC {A:Option Addr} {n c b0 bm:Nat} {b:List UInt8} {w:World} {D:Nat} {td:TypeId} (h:av w D td A (af b)) (hn:n=b.length) (hc:n≤c) (hb:n≤1000000000) (hD:D≤w.heap.size) (h0:w.heap[b0]?=some (.cells #[.slice A n c] 33 (0,0))) (hm:w.heap[bm]?=some (.cells #[.int .i64 0,.int .u64 0,.int .u64 0,.int .u64 0,.int .u64 0,.slice none 0 0,.slice none 0 0,.slice none 0 0,.slice none 0 0] 30 (0,0))) :
  Calls prog 42 #[.func (.func 43) #[] #[.pointer (some ⟨b0,0,none⟩),.pointer (some ⟨bm,0,none⟩)]] w (sI b bm w):=by
 have hmf:∀ (fn:Fn) (first cap:Array Value) (w:World),(Instr.makeFunc fn first cap).run prog w=.ok (.func fn first cap) w:=fun _ _ _ _=>rfl
 have nb:bm<w.heap.size:=lt_of_block hm
 obtain⟨w1,hw1⟩:∃ v,w.alloc (.cells #[.int .i64 0] 34)=v:=⟨_,rfl⟩
 have b1:Below w.heap.size w w1:=by rw [← hw1];exact (Below.refl _ w).alloc (Nat.le_refl _) _
 have k1:w1.heap[w.heap.size]?=some (.cells #[.int .i64 0] 34 (0,0)):=by rw [← hw1];exact heap_alloc_new w _
 have z1:w1.heap.size=w.heap.size+1:=by rw [← hw1];simp
 have B1:=hid b1
 have K1:=hid k1
 have Z1:=hid z1
 have CL:=hid (clo15_c ((h.more hD).below (Nat.le_refl _) b1) hn hc hb (by omega) (ah h0 b1) (ah hm b1))
 clear h hn hc hb hD h0 hm b1 k1 z1
 go_enter_defers func42,ntmps42
 go_wp2_with fail
 refine CL.out.mono ?_
 rintro e w2 ⟨hg,hok,hbad⟩
 have HG:=hid hg
 have K2:Hid (w2.heap[w.heap.size]?=some (.cells #[.int .i64 0] 34 (0,0))):=hid ((hg.block w.heap.size (by have:=Z1.out;omega) (fun e=>by injection e with e;omega)).trans K1.out)
 have c2:=cell_of_one K2.out
 have f2:=aa K2.out 0
 have y2:Ty w2 w.heap.size 34:=⟨_,_,K2.out⟩
 have GW:∀ (v:Value),w.grownBy (w2.setCell ⟨w.heap.size,0,none⟩ v) (some bm):=fun v =>
  ⟨(gU w.heap.size [v] 0 w2).os.trans (HG.out.os.trans B1.out.os),(gU w.heap.size [v] 0 w2).tape.trans (HG.out.tape.trans B1.out.tape),(gU w.heap.size [v] 0 w2).output.trans (HG.out.output.trans B1.out.output),by have:=HG.out.size;have:=B1.out.size;simp;omega,fun k hk hne=>by
   rw [Below.heap_setCell _ ⟨w.heap.size,0,none⟩ _ k (by show k≠w.heap.size;omega),HG.out.block k (by have:=Z1.out;omega) hne,B1.out.block k hk]⟩
 have TW:∀ (v:Value),aG 0 [34] w2 (w2.setCell ⟨w.heap.size,0,none⟩ v):=fun v=>(aG.refl _ _ w2).bB (p:=⟨w.heap.size,0,none⟩) y2 (by simp) (Nat.zero_le _) v
 by_cases h0:(T9.fP b).2=0
 case neg =>
  obtain⟨rfl,hnb⟩:=hbad h0
  have NB:Hid (w2.heap[bm]?=w.heap[bm]?):=hid (hnb.trans (B1.out.block _ nb))
  have V0:(T9.fP b).2=150:=by rw [T9.jY h0]
  have GWH:=hid GW
  have H0:=hid h0
  have TWH:=hid TW
  have FIN:sI b bm w (.returned (.int .i64 150)) (w2.setCell ⟨w.heap.size,0,none⟩ (.int .i64 150)):=⟨GWH.out _,by rw [V0],fun z=>absurd z H0.out,fun _=>(Below.heap_setCell _ ⟨w.heap.size,0,none⟩ _ bm (by show bm≠w.heap.size;omega)).trans NB.out⟩
  have FH:=hid FIN
  clear GW TW hok hbad hg h0 hnb V0 FIN
  refine leaves_cons (f:=85) (args:=#[.pointer (some ⟨w.heap.size,0,none⟩)]) (by simp) (by simp [go_sem]) ?_
  refine (zM ⟨w.heap.size,0,none⟩ 0 _ [] _ c2 f2).mono ?_
  rintro e u' w'' ⟨rfl,rfl,rfl⟩
  have c3:(w2.setCell ⟨w.heap.size,0,none⟩ (.int .i64 150)).cell? ⟨w.heap.size,0,none⟩=some (.int .i64 150):=cell_of_one ((ae K2.out 0 _).trans rfl)
  simp [Leaves,settle,results,results42,go_sem,c3]
  exact FH.out
 obtain⟨m,rfl,hq,Be,hn⟩:=hok h0
 have GWH:=hid GW
 have TWH:=hid TW
 have H0:=hid h0
 have HQ:=hid (And.intro hq (And.intro Be hn))
 have FIN:sI b bm w (.returned (.int .i64 0)) (w2.setCell ⟨w.heap.size,0,none⟩ (.int .i64 0)):=⟨GWH.out _,by rw [H0.out],fun _=>⟨m,HQ.out.1.cZ (TWH.out _) (by decide) (by decide) (by decide) (by decide) (by decide),HQ.out.2.1,(TWH.out _).blk HQ.out.2.2 (by decide)⟩,fun z=>absurd H0.out z⟩
 have FH:=hid FIN
 clear GW TW hok hbad hg h0 hq Be hn FIN
 go_wp2_with fail
 refine leaves_cons (f:=85) (args:=#[.pointer (some ⟨w.heap.size,0,none⟩)]) (by simp) (by simp [go_sem]) ?_
 refine (zL ⟨w.heap.size,0,none⟩ _).mono ?_
 rintro e u' w'' ⟨rfl,rfl,rfl⟩
 have c3:(w2.setCell ⟨w.heap.size,0,none⟩ (.int .i64 0)).cell? ⟨w.heap.size,0,none⟩=some (.int .i64 0):=cell_of_one ((ae K2.out 0 _).trans rfl)
 simp [Leaves,settle,results,results42,go_sem,c3]
 exact FH.out
def BP (b:List UInt8) (w:World) (e:Ending) (w':World):Prop:=∃ m:dR,e=.returned (.tuple #[m.val,.int .i64 (T9.fP b).2])∧wV m w'∧m.mg=(T9.fP b).1∧Below w.heap.size w w'
theorem Eh {A:Option Addr} {n c:Nat} {b:List UInt8} {w:World} {D:Nat} {td:TypeId} (h:av w D td A (af b)) (hn:n=b.length) (hc:n≤c) (hb:n≤1000000000) (hD:D≤w.heap.size) :
  Calls prog 13 #[.slice A n c] w (BP b w):=by
 have hmf:∀ (fn:Fn) (first cap:Array Value) (w:World),(Instr.makeFunc fn first cap).run prog w=.ok (.func fn first cap) w:=fun _ _ _ _=>rfl
 obtain⟨w1,hw1⟩:∃ v,w.alloc (.cells #[.slice A n c] 33)=v:=⟨_,rfl⟩
 obtain⟨w2,hw2⟩:∃ v,w1.alloc (.cells #[.int .i64 0,.int .u64 0,.int .u64 0,.int .u64 0,.int .u64 0,.slice none 0 0,.slice none 0 0,.slice none 0 0,.slice none 0 0] 30)=v:=⟨_,rfl⟩
 obtain⟨w3,hw3⟩:∃ v,w2.alloc (.cells #[.int .i64 0,.int .u64 0,.int .u64 0,.int .u64 0,.int .u64 0,.slice none 0 0,.slice none 0 0,.slice none 0 0,.slice none 0 0] 30)=v:=⟨_,rfl⟩
 have p1:w1.heap[w.heap.size]?=some (.cells #[.slice A n c] 33 (0,0)):=by rw [← hw1];exact heap_alloc_new w _
 have b1:Below w.heap.size w w1:=by rw [← hw1];exact (Below.refl _ w).alloc (Nat.le_refl _) _
 have z1:w1.heap.size=w.heap.size+1:=by rw [← hw1];simp
 obtain⟨p2,b2,z2⟩:=bD hw2
 obtain⟨p3,b3,z3⟩:=bD hw3
 rw [z1] at p2 z2
 rw [z2] at p3 z3
 have B2:=b1.trans (b2.mono (by omega))
 have B3:=hid (B2.trans (b3.mono (by omega)))
 have P2:=hid (ah p2 b3)
 have P3:=hid p3
 have Z3:=hid z3
 have RF:=hid (wC (b0:=w.heap.size) (bm:=w.heap.size+1+1) ((h.more hD).below (Nat.le_refl _) B3.out) hn hc hb (by have:=B3.out.size;omega) (ah (ah p1 b2) b3) p3)
 have HZ1:=hid z1
 clear h hn hc hb hD p1 b1 p2 b2 p3 b3 B2 z3
 go_enter func13,ntmps13
 go_wp2_with fail
 refine RF.out.mono ?_
 rintro e w4 ⟨hg,rfl,hok,hbad⟩
 have rb:w4.heap[w.heap.size+1]?=some (.cells #[.int .i64 0,.int .u64 0,.int .u64 0,.int .u64 0,.int .u64 0,.slice none 0 0,.slice none 0 0,.slice none 0 0,.slice none 0 0] 30 (0,0)):=(hg.block _ (lt_of_block P2.out) (fun e=>by injection e with e;omega)).trans P2.out
 have B4:Hid (Below w.heap.size w w4):=hid (B3.out.grown hg B3.out.size (fun k e=>by injection e with e;omega))
 obtain⟨m,hm,hms,hmb⟩:∃ m:dR,wV m w4∧m.mg=(T9.fP b).1∧sK m (w.heap.size+1+1) w4:=by
  by_cases h0:(T9.fP b).2=0
  ·exact hok h0
  ·exact⟨dR.no,dR.xU _,by rw [T9.jY h0];rfl,(hbad h0).trans P3.out⟩
 have HM:=hid (And.intro hm hms)
 obtain⟨n0,n1,n2,n3,n4,n5,n6,n7,n8⟩:=hmb.cells
 obtain⟨v0,v1,v2,v3,v4,v5,v6,v7,v8⟩:=ag rb
 have f0:=aa rb 0
 have f1:=aa rb 1
 have f2:=aa rb 2
 have f3:=aa rb 3
 have f4:=aa rb 4
 have f5:=aa rb 5
 have f6:=aa rb 6
 have f7:=aa rb 7
 have f8:=aa rb 8
 have PN:=hid (eF rb (.int .i64 m.kind) (.int .u64 (m.line:Int)) (.int .u64 (m.aK:Int)) (.int .u64 (m.bE:Int)) (.int .u64 (m.bI:Int)) (.slice m.A m.is.length m.c) (.slice m.A1 m.las.length m.c1) (.slice m.s.A m.s.ls.length m.s.c) (.slice m.s.A2 m.s.ms.length m.s.c2))
 have TN:=hid (eP (B:=w.heap.size) (t:=30) ⟨_,_,rb⟩ (Nat.le_add_right _ _) (.int .i64 m.kind) (.int .u64 (m.line:Int)) (.int .u64 (m.aK:Int)) (.int .u64 (m.bE:Int)) (.int .u64 (m.bI:Int)) (.slice m.A m.is.length m.c) (.slice m.A1 m.las.length m.c1) (.slice m.s.A m.s.ls.length m.s.c) (.slice m.s.A2 m.s.ms.length m.s.c2))
 obtain⟨x0,x1,x2,x3,x4,x5,x6,x7,x8⟩:=ag PN.out
 obtain⟨er,her⟩:∃ r,(T9.fP b).2=r:=⟨_,rfl⟩
 have Ei:=hid her
 rw [her]
 clear hm hms hmb hg hok hbad her rb
 go_wp2
 refine bodyPost_ret (v:=.tuple #[.agg #[.int .i64 m.kind,.int .u64 (m.line:Int),.int .u64 (m.aK:Int),.int .u64 (m.bE:Int),.int .u64 (m.bI:Int),.slice m.A m.is.length m.c,.slice m.A1 m.las.length m.c1,.slice m.s.A m.s.ls.length m.s.c,.slice m.s.A2 m.s.ms.length m.s.c2],.int .i64 er]) (by simp [results,results13,go_sem,x0,x1,x2,x3,x4,x5,x6,x7,x8]) rfl ?_
 exact⟨m,by rw [Ei.out];rfl,HM.out.1.cZ TN.out (by decide) (by decide) (by decide) (by decide) (by decide),HM.out.2,B4.out.trans TN.out.below⟩
end
end
section
section
open Go.RowKit Go.Lib
theorem jP.bad {b:List UInt8} {w w':World} (h:(T9.fP b).2≠0) (hb:Below w.heap.size w w'):BP b w (.returned (.tuple #[.agg #[.int .i64 0,.int .u64 0,.int .u64 0,.int .u64 0,.int .u64 0,.slice none 0 0,.slice none 0 0,.slice none 0 0,.slice none 0 0],.int .i64 150])) w':=⟨dR.no,by rw [T9.jY h];rfl,dR.xU _,by rw [T9.jY h];rfl,hb⟩
theorem Au {A:Option Addr} {n c:Nat} {b:List UInt8} {w:World} {D:Nat} {td:TypeId} (h:av w D td A (af b)) (hn:n=b.length) (hc:n≤c) (hb:n≤1000000000) (hD:D≤w.heap.size) :
  Calls prog 14 #[.slice A n c] w (BP b w):=by
 obtain⟨w0,hw0⟩:∃ u,w.alloc (.cells #[.int .i64 0,.int .u64 0,.int .u64 0,.int .u64 0,.int .u64 0,.slice none 0 0,.slice none 0 0,.slice none 0 0,.slice none 0 0] 30)=u:=⟨_,rfl⟩
 obtain⟨kK,b0,z0⟩:=bD hw0
 have qH:=hid kK
 have B0:=hid b0
 have Z0:=hid z0
 have FU:=hid (AQ (c:=c) (B:=w.heap.size) ((h.more hD).old (t':=5) |>.below (Nat.le_refl _) b0) b0.size hn hc hb)
 have HN:=hid hn
 clear h kK b0 hn hb hc z0
 go_enter func14,ntmps14
 go_wp2_with fail
 refine FU.out.mono ?_
 rintro e w1 ⟨Af,nf,cf,kf,ef,rfl,hbf,hcf,hgood,hnone⟩
 have B1:Hid (Below w.heap.size w w1):=hid (B0.out.trans (hbf.mono B0.out.size))
 have oI:=hid (ah qH.out hbf)
 have Z1:Hid (w.heap.size+1≤w1.heap.size):=hid (by have:=hbf.size;have:=Z0.out;omega)
 cases hu:Fr.kN b with
 | none =>
  obtain⟨rfl,rfl,rfl⟩:=hnone hu
  have HO:Hid (Fr.only b=none):=hid (by unfold Fr.only;rw [hu])
  clear hgood hnone hu hbf hcf
  have dE:=oI.out
  obtain⟨r0,r1,r2,r3,r4,r5,r6,r7,r8⟩:=ag dE
  have lL:=aa dE 0
  have lM:=aa dE 1
  have qN:=aa dE 2
  have qO:=aa dE 3
  have qP:=aa dE 4
  have qQ:=aa dE 5
  have xK:=aa dE 6
  have zV:=aa dE 7
  have fr8:=aa dE 8
  have fF:=hid (eF dE (.int .i64 0) (.int .u64 0) (.int .u64 0) (.int .u64 0) (.int .u64 0) (.slice none 0 0) (.slice none 0 0) (.slice none 0 0) (.slice none 0 0))
  have TF:=hid (eP (B:=w.heap.size) (t:=30) ⟨_,_,dE⟩ (Nat.le_refl _) (.int .i64 0) (.int .u64 0) (.int .u64 0) (.int .u64 0) (.int .u64 0) (.slice none 0 0) (.slice none 0 0) (.slice none 0 0) (.slice none 0 0))
  obtain⟨k0,k1,k2,k3,k4,k5,k6,k7,k8⟩:=ag fF.out
  have iN:=hid (jP.bad (T9.pU HO.out) ((B1.out).trans TF.out.below))
  clear dE
  go_wp2
  refine bodyPost_ret (v:=.tuple #[.agg #[.int .i64 0,.int .u64 0,.int .u64 0,.int .u64 0,.int .u64 0,.slice none 0 0,.slice none 0 0,.slice none 0 0,.slice none 0 0],.int .i64 150]) (by simp [results,results14,go_sem,k0,k1,k2,k3,k4,k5,k6,k7,k8]) rfl ?_
  exact iN.out
 | some body =>
 obtain⟨hnf,hof,hkf,rfl⟩:=hgood body hu
 have lb:=(Fr.g_ hu).2.1
 by_cases hlen:7+body.length=b.length
 case neg =>
  have HO:Hid (Fr.only b=none):=hid (by unfold Fr.only;rw [hu];exact if_neg hlen)
  have e1:(kf==(n:Int))=false:=by rw [hkf,HN.out];simp;omega
  have e2:(kf != (n:Int))=true:=by rw [bne,e1];rfl
  clear hgood hnone hu hbf hcf hlen hnf hof hkf lb
  have dE:=oI.out
  obtain⟨r0,r1,r2,r3,r4,r5,r6,r7,r8⟩:=ag dE
  have lL:=aa dE 0
  have lM:=aa dE 1
  have qN:=aa dE 2
  have qO:=aa dE 3
  have qP:=aa dE 4
  have qQ:=aa dE 5
  have xK:=aa dE 6
  have zV:=aa dE 7
  have fr8:=aa dE 8
  have fF:=hid (eF dE (.int .i64 0) (.int .u64 0) (.int .u64 0) (.int .u64 0) (.int .u64 0) (.slice none 0 0) (.slice none 0 0) (.slice none 0 0) (.slice none 0 0))
  have TF:=hid (eP (B:=w.heap.size) (t:=30) ⟨_,_,dE⟩ (Nat.le_refl _) (.int .i64 0) (.int .u64 0) (.int .u64 0) (.int .u64 0) (.int .u64 0) (.slice none 0 0) (.slice none 0 0) (.slice none 0 0) (.slice none 0 0))
  obtain⟨k0,k1,k2,k3,k4,k5,k6,k7,k8⟩:=ag fF.out
  have iN:=hid (jP.bad (T9.pU HO.out) ((B1.out).trans TF.out.below))
  clear dE
  go_wp2
  refine bodyPost_ret (v:=.tuple #[.agg #[.int .i64 0,.int .u64 0,.int .u64 0,.int .u64 0,.int .u64 0,.slice none 0 0,.slice none 0 0,.slice none 0 0,.slice none 0 0],.int .i64 150]) (by simp [results,results14,go_sem,k0,k1,k2,k3,k4,k5,k6,k7,k8]) rfl ?_
  exact iN.out
 have HO:Hid (Fr.only b=some body):=hid (by unfold Fr.only;rw [hu];exact if_pos hlen)
 have e1:(kf==(n:Int))=true:=by rw [hkf,HN.out];simp;omega
 have e2:(kf != (n:Int))=false:=by rw [bne,e1];rfl
 obtain⟨w2,hw2⟩:∃ u,w1.alloc (.cells #[.slice Af nf cf,.bool false] 84)=u:=⟨_,rfl⟩
 obtain⟨DC,hb2,zz2⟩:=aM hw2
 obtain⟨B,hB⟩:∃ v,v=w1.heap.size:=⟨_,rfl⟩
 obtain⟨p,hp⟩:∃ p,w1.heap.size=p:=⟨_,rfl⟩
 have hr:RS 84 B 5 w2 p (some body):=by
  refine⟨by omega,Af,cf,by omega,by rw [← hp,← hnf];exact DC,?_⟩
  rw [hB]
  exact (hof.more (B':=w1.heap.size) (by have:=hbf.size;have:=B0.out.size;omega)).below (Nat.le_refl _) hb2
 have zG:=hid (ah oI.out hb2)
 have B2:Hid (Below w.heap.size w w2):=hid (B1.out.trans (hb2.mono B1.out.size))
 have BZ:Hid (w.heap.size+1≤B∧B≤w2.heap.size):=hid ⟨by have:=Z1.out;omega,by have:=hb2.size;omega⟩
 have L0:Hid (∀ l,some body=some l→l.length≤1099511627776):=hid (by intro l e;injection e with e;subst e;omega)
 obtain⟨S,hS⟩:∃ v,v=some body:=⟨_,rfl⟩
 rw [← hS] at hr L0
 have HS:=hid hS
 clear hgood hnone hu hbf hcf hlen hnf hof hkf lb DC zz2
 have N1:=hid (eB (mz:=8) hr (by decide) L0.out (by decide))
 rw [lJ] at N1
 clear hr hb2 hB hS
 go_wp2_with fail
 refine N1.out.mono ?_
 rintro e w3 ⟨rfl,hr,ht⟩
 clear hp hw2
 have i8:(Cd.aS 8 S).1≤8:=(Cd.b_ 8 S).2
 obtain⟨i0,hi0⟩:∃ v,v=(Cd.aS 8 S).1:=⟨_,rfl⟩
 rw [← hi0] at i8 ⊢
 have I0:=hid hi0
 have hwr:IntKind.i64.wrap (i0:Int)=(i0:Int):=by rw [IntKind.wrap_i64];omega
 have hr:RS 84 B 5 w3 p (T9.g1 S):=hr
 have qI:=hid (ht.blk zG.out (by decide))
 have B3:Hid (Below w.heap.size w w3):=hid (B2.out.trans (ht.below.mono (by have:=BZ.out;omega)))
 have GZ:Hid (w.heap.size+1≤B∧B≤w3.heap.size):=hid (by have:=ht.size;have:=BZ.out;omega)
 clear hi0 ht i8
 go_wp2_with fail
 obtain⟨w4,hw4⟩:∃ u,w3.alloc (.cells #[.int .i64 (i0:Int),.int .u64 0,.int .u64 0,.int .u64 0,.int .u64 0,.slice none 0 0,.slice none 0 0,.slice none 0 0,.slice none 0 0] 30)=u:=⟨_,rfl⟩
 rw [hw4]
 obtain⟨lb4,b4,z4⟩:=bD hw4
 have M4:Hid (aN 84 B p w3.heap.size w.heap.size i0 0 0 0 0 [] none 0 [] none 0 (T9.g1 S) w w4):=hid ⟨by rw [← hw4];exact hr.alloc _,World.ownsRow_nil _ _ _ _,World.ownsRow_nil _ _ _ _,lb4,ah qI.out b4,B3.out.trans (b4.mono (by have:=GZ.out;omega)),rfl,GZ.out.1,GZ.out.2⟩
 have qJ:Hid (St.jO S (T9.g1 S)):=hid (St.bN 8 S)
 clear hr lb4 b4 z4 hw4
 have C1:=hid (eB (mz:=18446744073709551615) M4.out.r (by decide) (qJ.out.bound L0.out) (by decide))
 rw [aQ] at C1
 refine C1.out.mono ?_
 rintro e w5 ⟨rfl,hr,ht⟩
 obtain⟨i1,hi⟩:∃ v,v=(Cd.aS Cd.full (T9.g1 S)).1:=⟨_,rfl⟩
 rw [← hi]
 have I1:=hid hi
 have M5:Hid (aN 84 B p w3.heap.size w.heap.size i0 0 0 0 0 [] none 0 [] none 0 (T9.g2 S) w w5):=hid (M4.out.cZ ht hr (by decide) (by decide) (by decide))
 obtain⟨c0,c1,c2,c3,c4,c5,c6,c7,c8⟩:=M5.out.cells
 have f5:=M5.out.free 1
 obtain⟨w6,zW⟩:∃ u,w5.setCell ⟨w3.heap.size,1,none⟩ (.int .u64 (i1:Int))=u:=⟨_,rfl⟩
 have M6:Hid (aN 84 B p w3.heap.size w.heap.size i0 i1 0 0 0 [] none 0 [] none 0 (T9.g2 S) w w6):=hid (by rw [← zW];exact M5.out.line (by decide) i1)
 have rA:Hid (St.jO S (T9.g2 S)):=hid (qJ.out.trans (St.bN Cd.full (T9.g1 S)))
 clear hr ht hi
 have C2:=hid (eB (mz:=18446744073709551615) M6.out.r (by decide) (rA.out.bound L0.out) (by decide))
 rw [aQ] at C2
 go_wp2_with fail
 refine C2.out.mono ?_
 rintro e w7 ⟨rfl,hr,ht⟩
 obtain⟨i2,hi⟩:∃ v,v=(Cd.aS Cd.full (T9.g2 S)).1:=⟨_,rfl⟩
 rw [← hi]
 have I2:=hid hi
 have M7:Hid (aN 84 B p w3.heap.size w.heap.size i0 i1 0 0 0 [] none 0 [] none 0 (T9.g3 S) w w7):=hid (M6.out.cZ ht hr (by decide) (by decide) (by decide))
 obtain⟨c0,c1,c2,c3,c4,c5,c6,c7,c8⟩:=M7.out.cells
 have f5:=M7.out.free 2
 obtain⟨w8,hw8⟩:∃ u,w7.setCell ⟨w3.heap.size,2,none⟩ (.int .u64 (i2:Int))=u:=⟨_,rfl⟩
 have M8:Hid (aN 84 B p w3.heap.size w.heap.size i0 i1 i2 0 0 [] none 0 [] none 0 (T9.g3 S) w w8):=hid (by rw [← hw8];exact M7.out.aK (by decide) i2)
 have uL:Hid (St.jO S (T9.g3 S)):=hid (rA.out.trans (St.bN Cd.full (T9.g2 S)))
 clear hr ht hi
 have C3:=hid (eB (mz:=18446744073709551615) M8.out.r (by decide) (uL.out.bound L0.out) (by decide))
 rw [aQ] at C3
 go_wp2_with fail
 refine C3.out.mono ?_
 rintro e w9 ⟨rfl,hr,ht⟩
 obtain⟨i3,hi⟩:∃ v,v=(Cd.aS Cd.full (T9.g3 S)).1:=⟨_,rfl⟩
 rw [← hi]
 have I3:=hid hi
 have M9:Hid (aN 84 B p w3.heap.size w.heap.size i0 i1 i2 0 0 [] none 0 [] none 0 (T9.g4 S) w w9):=hid (M8.out.cZ ht hr (by decide) (by decide) (by decide))
 obtain⟨c0,c1,c2,c3,c4,c5,c6,c7,c8⟩:=M9.out.cells
 have f5:=M9.out.free 3
 obtain⟨lv,mX⟩:∃ u,w9.setCell ⟨w3.heap.size,3,none⟩ (.int .u64 (i3:Int))=u:=⟨_,rfl⟩
 have M10:Hid (aN 84 B p w3.heap.size w.heap.size i0 i1 i2 i3 0 [] none 0 [] none 0 (T9.g4 S) w lv):=hid (by rw [← mX];exact M9.out.bE (by decide) i3)
 have uM:Hid (St.jO S (T9.g4 S)):=hid (uL.out.trans (St.bN Cd.full (T9.g3 S)))
 clear hr ht hi
 have C4:=hid (eB (mz:=18446744073709551615) M10.out.r (by decide) (uM.out.bound L0.out) (by decide))
 rw [aQ] at C4
 go_wp2_with fail
 refine C4.out.mono ?_
 rintro e mI ⟨rfl,hr,ht⟩
 obtain⟨i4,hi⟩:∃ v,v=(Cd.aS Cd.full (T9.g4 S)).1:=⟨_,rfl⟩
 rw [← hi]
 have I4:=hid hi
 have M11:Hid (aN 84 B p w3.heap.size w.heap.size i0 i1 i2 i3 0 [] none 0 [] none 0 (T9.g5 S) w mI):=hid (M10.out.cZ ht hr (by decide) (by decide) (by decide))
 obtain⟨c0,c1,c2,c3,c4,c5,c6,c7,c8⟩:=M11.out.cells
 have f5:=M11.out.free 4
 obtain⟨mK,mY⟩:∃ u,mI.setCell ⟨w3.heap.size,4,none⟩ (.int .u64 (i4:Int))=u:=⟨_,rfl⟩
 have M12:Hid (aN 84 B p w3.heap.size w.heap.size i0 i1 i2 i3 i4 [] none 0 [] none 0 (T9.g5 S) w mK):=hid (by rw [← mY];exact M11.out.bI (by decide) i4)
 have xg:Hid (St.jO S (T9.g5 S)):=hid (uM.out.trans (St.bN Cd.full (T9.g4 S)))
 clear hr ht hi
 have C5:=hid (eB (mz:=8) M12.out.r (by decide) (xg.out.bound L0.out) (by decide))
 rw [lJ] at C5
 go_wp2_with fail
 refine C5.out.mono ?_
 rintro e n_ ⟨rfl,hr,ht⟩
 have nx:T9.n1 S≤8:=(Cd.b_ 8 (T9.g5 S)).2
 obtain⟨nI,hnI⟩:∃ v,v=T9.n1 S:=⟨_,rfl⟩
 have Cw:nI=(Cd.aS 8 (T9.g5 S)).1:=hnI
 rw [← hnI] at nx
 rw [← Cw]
 have NI:=hid hnI
 have M13:Hid (aN 84 B p w3.heap.size w.heap.size i0 i1 i2 i3 i4 [] none 0 [] none 0 (T9.g6 S) w n_):=hid (M12.out.cZ ht hr (by decide) (by decide) (by decide))
 obtain⟨ti0,thi,tz0,tz1,tz2⟩:=info_parts Tryz.infoIt15
 obtain⟨ai0,ahi,az0,az1,az2⟩:=info_parts Tryz.infoLa15
 clear hr ht hnI Cw c0 c1 c2 c3 c4 c5 c6 c7 c8 f5
 go_wp2_with fail
 go_loopw [10] (fun s10 wr=>∃ (j:Nat) (A:Option Addr) (c:Nat),s10=.int .u64 j∧j≤nI∧Hid (T9.Bi S j)∧Aside (aN 84 B p w3.heap.size w.heap.size i0 i1 i2 i3 i4 (T9.Bn S j) A c [] none 0 ((T9.many (Cd.bQ 60000) j (T9.g6 S)).2) w wr)) (fun s10 _=>nI - (intOf s10).toNat)
 case atStart=>exact⟨0,none,0,rfl,Nat.zero_le _,hid (T9.vO S),M13.out⟩
 case round =>
  obtain⟨j,A,c,rfl,hj,HX,hI⟩:=hrel
  obtain⟨xs,hxs⟩:∃ v,v=T9.Bn S j:=⟨_,rfl⟩
  have hI:aN 84 B p w3.heap.size w.heap.size i0 i1 i2 i3 i4 xs A c [] none 0 ((T9.many (Cd.bQ 60000) j (T9.g6 S)).2) w wr:=by rw [hxs];exact hI.out
  have xl:xs.length≤8:=by rw [hxs,T9.zC];omega
  have HXS:=hid hxs
  have HI:=hid hI
  clear hI hxs
  by_cases hlt:j<nI
  ·have hltz:(j:Int)<(nI:Int):=by omega
   have LJ:Hid (∀ l,(T9.many (Cd.bQ 60000) j (T9.g6 S)).2=some l→l.length≤1099511627776):=hid (((T9.qz S).trans (T9.nD j _)).bound L0.out)
   have CB:=hid (p_ (w:=wr) (mz:=60000) HI.out.r (by decide) LJ.out (by decide) (by decide))
   rw [mD] at CB
   go_wp2_with fail
   refine CB.out.mono ?_
   rintro e wa ⟨Ab,nb,cb,rfl,eT,hr,ht⟩
   obtain⟨jq,hcb⟩:=aA eT
   obtain⟨bd,hbd⟩:∃ v,v=(Cd.bQ 60000 (T9.many (Cd.bQ 60000) j (T9.g6 S)).2).1:=⟨_,rfl⟩
   have iF:wa.ownsRow wr.heap.size 5 1 (.slice Ab nb cb) bd.length (af bd):=by rw [hbd];exact eT
   have hnb:nb=bd.length:=by rw [hbd];exact jq
   have CP:bd.length≤60000:=by rw [hbd];exact gX 60000 _
   have BD:=hid hbd
   have AV:Hid (aN 84 B p w3.heap.size w.heap.size i0 i1 i2 i3 i4 xs A c [] none 0 ((T9.many (Cd.bQ 60000) (j+1) (T9.g6 S)).2) w wa):=hid (HI.out.cZ ht (by rw [T9.aY];exact hr) (by decide) (by decide) (by decide))
   have RI:=hid (v_ (c:=cb) (aD (B:=0) (t:=5) iF) hnb (by rw [hnb];exact (aA iF).2) (by omega) (Nat.zero_le _))
   clear eT jq hcb iF hnb CP hbd hr ht
   go_wp2_with fail
   refine RI.out.mono ?_
   rintro e wb ⟨rfl,hbl⟩
   obtain⟨x,hx⟩:∃ v,(T9.fB 60000 bd).1=v:=⟨_,rfl⟩
   obtain⟨er,her⟩:∃ v,(T9.fB 60000 bd).2=v:=⟨_,rfl⟩
   rw [hx,her]
   have AX:Hid (aN 84 B p w3.heap.size w.heap.size i0 i1 i2 i3 i4 xs A c [] none 0 ((T9.many (Cd.bQ 60000) (j+1) (T9.g6 S)).2) w wb):=hid (AV.out.below hbl)
   obtain⟨wx,hwx⟩:∃ u,wb.alloc (.cells #[.int .u64 (x.who:Int),.int .u64 (x.id:Int),.int .i64 x.m.kind,.int .u64 (x.m.id:Int),.int .u64 (x.m.list:Int),.string (str x.m.text),.float .f64 x.m.f,.bool x.m.flag] 57)=u:=⟨_,rfl⟩
   obtain⟨lx,bx,zx⟩:=bi hwx
   have MXq:Hid (aN 84 B p w3.heap.size w.heap.size i0 i1 i2 i3 i4 xs A c [] none 0 ((T9.many (Cd.bQ 60000) (j+1) (T9.g6 S)).2) w wx):=hid (AX.out.below bx)
   obtain⟨u0,u1,u2,u3,u4,u5,u6,u7⟩:=ay lx
   unfold It.val
   by_cases hz:er=0
   case neg =>
    have q1:(er==0)=false:=by simp [hz]
    have q2:(er != 0)=true:=by simp [hz]
    have NE:Hid ((T9.fP b).2≠0):=hid (T9.iw HO.out (by rw [← HS.out];exact T9.kI (j:=j) (by rw [← NI.out];exact hlt) (by rw [← BD.out,her];exact hz)))
    clear hz hx her hbl lx bx zx
    have dE:=MXq.out.z
    obtain⟨r0,r1,r2,r3,r4,r5,r6,r7,r8⟩:=ag dE
    have lL:=aa dE 0
    have lM:=aa dE 1
    have qN:=aa dE 2
    have qO:=aa dE 3
    have qP:=aa dE 4
    have qQ:=aa dE 5
    have xK:=aa dE 6
    have zV:=aa dE 7
    have fr8:=aa dE 8
    have fF:=hid (eF dE (.int .i64 0) (.int .u64 0) (.int .u64 0) (.int .u64 0) (.int .u64 0) (.slice none 0 0) (.slice none 0 0) (.slice none 0 0) (.slice none 0 0))
    have TF:=hid (eP (B:=w.heap.size) (t:=30) ⟨_,_,dE⟩ (Nat.le_refl _) (.int .i64 0) (.int .u64 0) (.int .u64 0) (.int .u64 0) (.int .u64 0) (.slice none 0 0) (.slice none 0 0) (.slice none 0 0) (.slice none 0 0))
    obtain⟨k0,k1,k2,k3,k4,k5,k6,k7,k8⟩:=ag fF.out
    have iN:=hid (jP.bad (NE.out) ((MXq.out.d).trans TF.out.below))
    clear dE
    go_wp2
    refine bodyPost_ret (v:=.tuple #[.agg #[.int .i64 0,.int .u64 0,.int .u64 0,.int .u64 0,.int .u64 0,.slice none 0 0,.slice none 0 0,.slice none 0 0,.slice none 0 0],.int .i64 150]) (by simp [results,results14,go_sem,k0,k1,k2,k3,k4,k5,k6,k7,k8]) rfl ?_
    exact iN.out
   have HX2:Hid (T9.Bi S (j+1)):=hid (T9.vN HX.out (by rw [← BD.out,her];exact hz))
   have HXX:Hid (T9.Bn S (j+1)=xs++[x]):=hid (by rw [T9.wS,← HXS.out,← BD.out,hx])
   have hbs:=oV x wx
   obtain⟨c0,c1,c2,c3,c4,c5,c6,c7,c8⟩:=MXq.out.cells
   have yC:Hid (aN 84 B p w3.heap.size w.heap.size i0 i1 i2 i3 i4 xs A c [] none 0 ((T9.many (Cd.bQ 60000) (j+1) (T9.g6 S)).2) w (wx.alloc (.cells (encI x).toArray 57))):=hid (MXq.out.below ((Below.refl _ _).alloc (Nat.le_refl _) _))
   have LE:Hid (av (wx.alloc (.cells (encI x).toArray 57)) 0 57 (some ⟨wx.heap.size,0,none⟩) (encI x)):=hid (av.dD (heap_alloc_new wx _))
   have zB:=MXq.out.size
   subst hz
   clear hx her hbl lx bx zx
   go_wp2_with (at_builtin;refine aO _ rfl _ _ 23 rfl B 57 ti0 _ 8 72 underlying23 thi tz0 tz1 tz2 rfl (by decide) _ xs.length (fA xs) rfl yC.out.i 0 _ 1 1 (encI x) 57 rfl rfl LE.out (uY _) (by unfold maxLen;omega) (by omega) (by first | exact yC.out.size | (simp;omega)) ?_)
   intro v6 w6 hown6 aP iT
   obtain⟨A6,k6,rfl⟩:=aL hown6
   have g6:=(yC.out.tH (by decide) aP).2.2.1
   have e65:=(ag g6).2.2.2.2.2.1
   have f65:=aa g6 5
   have MD:Hid (aN 84 B p w3.heap.size w.heap.size i0 i1 i2 i3 i4 (xs++[x]) A6 k6 [] none 0 ((T9.many (Cd.bQ 60000) (j+1) (T9.g6 S)).2) w (w6.setCell ⟨w3.heap.size,5,none⟩ (.slice A6 (xs.length+1) k6))):=hid (yC.out.item (by decide) (by decide) aP hown6)
   clear g6 hown6 aP iT hbs c0 c1 c2 c3 c4 c5 c6 c7 c8 u0 u1 u2 u3 u4 u5 u6 u7 zB
   go_wp2
   go_roundw
   case rel=>exact⟨j+1,A6,k6,by go_num,by omega,HX2,by rw [HXX.out];exact MD.out⟩
   case measure=>simp [intOf];omega
  ·obtain rfl:j=nI:=by omega
   have hltz:¬ ((j:Int)<(j:Int)):=by omega
   have G7:Hid ((T9.many (Cd.bQ 60000) j (T9.g6 S)).2=T9.g7 S):=hid (by unfold T9.g7;rw [← NI.out])
   rw [G7.out] at HI
   have C7:=hid (eB (mz:=2000) HI.out.r (by decide) (((T9.qz S).trans (T9.nD (T9.n1 S) _)).bound L0.out) (by decide))
   rw [D9] at C7
   go_wp2_with fail
   refine C7.out.mono ?_
   rintro e w20 ⟨rfl,hr,ht⟩
   have ny:T9.n2 S≤2000:=(Cd.b_ 2000 (T9.g7 S)).2
   obtain⟨nA,hnA⟩:∃ v,v=T9.n2 S:=⟨_,rfl⟩
   have Cv:nA=(Cd.aS 2000 (T9.g7 S)).1:=hnA
   rw [← hnA] at ny
   rw [← Cv]
   have NA:=hid hnA
   have M20:Hid (aN 84 B p w3.heap.size w.heap.size i0 i1 i2 i3 i4 xs A c [] none 0 (T9.g8 S) w w20):=hid (HI.out.cZ ht hr (by decide) (by decide) (by decide))
   clear hr ht hnA Cv
   go_wp2_with fail
   go_loopw [13] (fun s13 wr=>∃ (k:Nat) (A1:Option Addr) (c1:Nat),s13=.int .u64 k∧k≤nA∧Aside (aN 84 B p w3.heap.size w.heap.size i0 i1 i2 i3 i4 xs A c (T9.Em S k) A1 c1 ((T9.many T9.eH k (T9.g8 S)).2) w wr)) (fun s13 _=>nA - (intOf s13).toNat)
   case atStart=>exact⟨0,none,0,rfl,Nat.zero_le _,M20.out⟩
   case round =>
    obtain⟨wo,hwo⟩:∃ u,u=wr:=⟨_,rfl⟩
    subst hwo
    obtain⟨k,A1,c1,rfl,hk,hI2⟩:=hrel
    obtain⟨las,hla⟩:∃ v,v=T9.Em S k:=⟨_,rfl⟩
    have hI2:aN 84 B p w3.heap.size w.heap.size i0 i1 i2 i3 i4 xs A c las A1 c1 ((T9.many T9.eH k (T9.g8 S)).2) w wo:=by rw [hla];exact hI2.out
    have ll:las.length≤2000:=by rw [hla,T9.yT];omega
    have HLA:=hid hla
    have HJ:=hid hI2
    clear hI2 hla
    by_cases hlt2:k<nA
    ·have eD:(k:Int)<(nA:Int):=by omega
     have LK:Hid (∀ l,(T9.many T9.eH k (T9.g8 S)).2=some l→l.length≤1099511627776):=hid (((T9.yn S).trans (T9.uC k _)).bound L0.out)
     have CN:=hid (eB (mz:=18446744073709551615) HJ.out.r (by decide) LK.out (by decide))
     rw [aQ] at CN
     go_wp2_with fail
     refine CN.out.mono ?_
     rintro e wa ⟨rfl,hr,ht⟩
     obtain⟨ia,hia⟩:∃ v,v=(Cd.aS Cd.full (T9.many T9.eH k (T9.g8 S)).2).1:=⟨_,rfl⟩
     rw [← hia]
     have IA:=hid hia
     have AV:Hid (aN 84 B p w3.heap.size w.heap.size i0 i1 i2 i3 i4 xs A c las A1 c1 (T9.i1 (T9.many T9.eH k (T9.g8 S)).2) w wa):=hid (HJ.out.cZ ht hr (by decide) (by decide) (by decide))
     clear hr ht hia
     go_wp2_with fail
     obtain⟨wb,hwb⟩:∃ u,wa.alloc (.cells #[.int .u64 (ia:Int),.int .u64 0] 61)=u:=⟨_,rfl⟩
     rw [hwb]
     obtain⟨lbb,bb,zb⟩:=aM hwb
     have AX:Hid (aN 84 B p w3.heap.size w.heap.size i0 i1 i2 i3 i4 xs A c las A1 c1 (T9.i1 (T9.many T9.eH k (T9.g8 S)).2) w wb):=hid (AV.out.below bb)
     have LBB:=hid lbb
     have CN2:=hid (eB (mz:=18446744073709551615) AX.out.r (by decide) ((St.bN Cd.full _).bound LK.out) (by decide))
     rw [aQ] at CN2
     clear lbb bb zb hwb
     refine CN2.out.mono ?_
     rintro e wc ⟨rfl,hr,ht⟩
     obtain⟨ib,hib⟩:∃ v,v=(Cd.aS Cd.full (T9.i1 (T9.many T9.eH k (T9.g8 S)).2)).1:=⟨_,rfl⟩
     rw [← hib]
     have yC:Hid (aN 84 B p w3.heap.size w.heap.size i0 i1 i2 i3 i4 xs A c las A1 c1 ((T9.many T9.eH (k+1) (T9.g8 S)).2) w wc):=hid (AX.out.cZ ht (by rw [T9.aY];exact hr) (by decide) (by decide) (by decide))
     have qX:=ht.blk LBB.out (by decide)
     obtain⟨l0,l1⟩:=ai qX
     have fl1:=aa qX 1
     have LN:Hid (T9.Em S (k+1)=las++[⟨ia,ib⟩]):=hid (by rw [T9.vI,← HLA.out,IA.out,hib];rfl)
     have yy:Ty wc wa.heap.size 61:=⟨_,_,qX⟩
     obtain⟨wd,hwd⟩:∃ u,wc.setCell ⟨wa.heap.size,1,none⟩ (.int .u64 (ib:Int))=u:=⟨_,rfl⟩
     have ld:wd.heap[wa.heap.size]?=some (.cells #[.int .u64 (ia:Int),.int .u64 (ib:Int)] 61 (0,0)):=by rw [← hwd];exact (ae qX 1 (.int .u64 (ib:Int))).trans rfl
     have MDq:Hid (aN 84 B p w3.heap.size w.heap.size i0 i1 i2 i3 i4 xs A c las A1 c1 ((T9.many T9.eH (k+1) (T9.g8 S)).2) w wd):=hid (by
      rw [← hwd]
      exact yC.out.far (by decide) yy (by have:=AV.out.size;exact this) (fun k2 hk2=>by have:=(AV.out.a.lt k2 hk2).2;omega) _ _)
     obtain⟨d0,d1⟩:=ai ld
     obtain⟨m0,m1,m2,m3,m4,m5,m6,m7,m8⟩:=MDq.out.cells
     have hbs:=oU ia ib wd
     have MEq:Hid (aN 84 B p w3.heap.size w.heap.size i0 i1 i2 i3 i4 xs A c las A1 c1 ((T9.many T9.eH (k+1) (T9.g8 S)).2) w (wd.alloc (.cells #[.int .u64 (ia:Int),.int .u64 (ib:Int)] 61))):=hid (MDq.out.below ((Below.refl _ _).alloc (Nat.le_refl _) _))
     have LE:Hid (av (wd.alloc (.cells #[.int .u64 (ia:Int),.int .u64 (ib:Int)] 61)) 0 61 (some ⟨wd.heap.size,0,none⟩) (ky ⟨ia,ib⟩)):=hid (av.dD (heap_alloc_new wd _))
     have zB:=MDq.out.size
     clear hr ht hib qX yy ld
     go_wp2_with (at_builtin;refine aO _ rfl _ _ 24 rfl B 61 ai0 _ 2 16 underlying24 ahi az0 az1 az2 rfl (by decide) _ las.length (gy las) rfl MEq.out.a 0 _ 1 1 (ky ⟨ia,ib⟩) 61 rfl rfl LE.out (uX _) (by unfold maxLen;omega) (by omega) (by first | exact MEq.out.size | (simp;omega)) ?_)
     intro v6 w6 hown6 aP iT
     obtain⟨A6,k6,rfl⟩:=aL hown6
     have g6:=(MEq.out.tF (by decide) aP).2.2.1
     obtain⟨n0,n1,n2,n3,n4,n5,n6,n7,n8⟩:=ag g6
     have f66:=aa g6 6
     have MF:Hid (aN 84 B p w3.heap.size w.heap.size i0 i1 i2 i3 i4 xs A c (las++[⟨ia,ib⟩]) A6 k6 ((T9.many T9.eH (k+1) (T9.g8 S)).2) w (w6.setCell ⟨w3.heap.size,6,none⟩ (.slice A6 (las.length+1) k6))):=hid (MEq.out.last (by decide) (by decide) aP hown6)
     clear g6 hown6 aP iT hbs d0 d1 m0 m1 m2 m3 m4 m5 m6 m7 m8 l0 l1 fl1 zB
     go_wp2
     go_roundw
     case rel=>exact⟨k+1,A6,k6,by go_num,by omega,by rw [LN.out];exact MF.out⟩
     case measure=>simp [intOf];omega
    ·obtain rfl:k=nA:=by omega
     have eD:¬ ((k:Int)<(k:Int)):=by omega
     have G9:Hid ((T9.many T9.eH k (T9.g8 S)).2=T9.g9 S):=hid (by unfold T9.g9;rw [← NA.out])
     rw [G9.out] at HJ
     have C9:=hid (p_ (mz:=60000) HJ.out.r (by decide) ((T9.DV S).bound L0.out) (by decide) (by decide))
     rw [mD] at C9
     go_wp2_with fail
     refine C9.out.mono ?_
     rintro e w30 ⟨Ab,nb,cb,rfl,eT,hr,ht⟩
     obtain⟨jq,_⟩:=aA eT
     obtain⟨sb,hsb⟩:∃ v,v=(Cd.bQ 60000 (T9.g9 S)).1:=⟨_,rfl⟩
     have iF:w30.ownsRow wo.heap.size 5 1 (.slice Ab nb cb) sb.length (af sb):=by rw [hsb];exact eT
     have hnb:nb=sb.length:=by rw [hsb];exact jq
     have lsb:sb.length≤60000:=by rw [hsb];exact gX 60000 _
     have SB:Hid ((T9.bY S).sb=sb):=hid hsb.symm
     obtain⟨s10,tL⟩:∃ v,v=T9.g10 S:=⟨_,rfl⟩
     have S10:=hid tL
     have M30:Hid (aN 84 B p w3.heap.size w.heap.size i0 i1 i2 i3 i4 xs A c las A1 c1 (s10) w w30):=hid (HJ.out.cZ ht (by rw [tL];exact hr) (by decide) (by decide) (by decide))
     have OF9:=hid (Av (c:=cb) (aD (B:=0) (t:=5) iF) hnb (by rw [hnb];exact (aA iF).2) (by omega) (Nat.zero_le _))
     clear eT jq iF hnb lsb hsb hr ht tL
     go_wp2_with fail
     refine OF9.out.mono ?_
     rintro e w31 ⟨q,rfl,hq,Be,hbl⟩
     have M31:Hid (aN 84 B p w3.heap.size w.heap.size i0 i1 i2 i3 i4 xs A c las A1 c1 (s10) w w31):=hid (M30.out.below hbl)
     obtain⟨er,her⟩:∃ v,(T9.of sb).2=v:=⟨_,rfl⟩
     rw [her]
     unfold ji.val
     obtain⟨wq,hwq⟩:∃ u,w31.alloc (.cells #[.slice q.A q.ls.length q.c,.slice q.A2 q.ms.length q.c2] 28)=u:=⟨_,rfl⟩
     obtain⟨lq,bq,zq⟩:=aM hwq
     obtain⟨u0,u1⟩:=ai lq
     have MQ:Hid (aN 84 B p w3.heap.size w.heap.size i0 i1 i2 i3 i4 xs A c las A1 c1 (s10) w wq):=hid (M31.out.below bq)
     have CE:=hid (sZ MQ.out.r)
     have HQ:=hid (hq.stay bq)
     have HQS:=hid Be
     have Ei:=hid her
     clear hq Be hbl lq bq zq her
     by_cases hz:er=0
     case neg =>
      have q1:(er==0)=false:=by simp [hz]
      have q2:(er != 0)=true:=by simp [hz]
      have NE:Hid ((T9.fP b).2≠0):=hid (T9.iw HO.out (by rw [← HS.out];exact fun g=>hz (by have:=g.2.1;rw [SB.out,Ei.out] at this;exact this)))
      clear hz
      have dE:=MQ.out.z
      obtain⟨r0,r1,r2,r3,r4,r5,r6,r7,r8⟩:=ag dE
      have lL:=aa dE 0
      have lM:=aa dE 1
      have qN:=aa dE 2
      have qO:=aa dE 3
      have qP:=aa dE 4
      have qQ:=aa dE 5
      have xK:=aa dE 6
      have zV:=aa dE 7
      have fr8:=aa dE 8
      have fF:=hid (eF dE (.int .i64 0) (.int .u64 0) (.int .u64 0) (.int .u64 0) (.int .u64 0) (.slice none 0 0) (.slice none 0 0) (.slice none 0 0) (.slice none 0 0))
      have TF:=hid (eP (B:=w.heap.size) (t:=30) ⟨_,_,dE⟩ (Nat.le_refl _) (.int .i64 0) (.int .u64 0) (.int .u64 0) (.int .u64 0) (.int .u64 0) (.slice none 0 0) (.slice none 0 0) (.slice none 0 0) (.slice none 0 0))
      obtain⟨k0,k1,k2,k3,k4,k5,k6,k7,k8⟩:=ag fF.out
      have iN:=hid (jP.bad (NE.out) ((MQ.out.d).trans TF.out.below))
      clear dE
      go_wp2
      refine bodyPost_ret (v:=.tuple #[.agg #[.int .i64 0,.int .u64 0,.int .u64 0,.int .u64 0,.int .u64 0,.slice none 0 0,.slice none 0 0,.slice none 0 0,.slice none 0 0],.int .i64 150]) (by simp [results,results14,go_sem,k0,k1,k2,k3,k4,k5,k6,k7,k8]) rfl ?_
      exact iN.out
     have hz0:(T9.of sb).2=0:=Ei.out.trans hz
     have HZ0:=hid hz0
     subst hz
     by_cases he:s10=some []
     case neg =>
      have ev:dK s10=20:=by
       unfold dK
       split
       ·exact absurd rfl he
       ·rfl
      have NE:Hid ((T9.fP b).2≠0):=hid (T9.iw HO.out (by rw [← HS.out];exact fun g=>he (S10.out.trans g.2.2.1)))
      clear he hz0
      have dE:=MQ.out.z
      obtain⟨r0,r1,r2,r3,r4,r5,r6,r7,r8⟩:=ag dE
      have lL:=aa dE 0
      have lM:=aa dE 1
      have qN:=aa dE 2
      have qO:=aa dE 3
      have qP:=aa dE 4
      have qQ:=aa dE 5
      have xK:=aa dE 6
      have zV:=aa dE 7
      have fr8:=aa dE 8
      have fF:=hid (eF dE (.int .i64 0) (.int .u64 0) (.int .u64 0) (.int .u64 0) (.int .u64 0) (.slice none 0 0) (.slice none 0 0) (.slice none 0 0) (.slice none 0 0))
      have TF:=hid (eP (B:=w.heap.size) (t:=30) ⟨_,_,dE⟩ (Nat.le_refl _) (.int .i64 0) (.int .u64 0) (.int .u64 0) (.int .u64 0) (.int .u64 0) (.slice none 0 0) (.slice none 0 0) (.slice none 0 0) (.slice none 0 0))
      obtain⟨k0,k1,k2,k3,k4,k5,k6,k7,k8⟩:=ag fF.out
      have iN:=hid (jP.bad (NE.out) ((MQ.out.d).trans TF.out.below))
      clear dE
      go_wp2_with (go_at_call 50;refine CE.out.mono ?_;rintro e w' ⟨rfl,rfl⟩)
      refine bodyPost_ret (v:=.tuple #[.agg #[.int .i64 0,.int .u64 0,.int .u64 0,.int .u64 0,.int .u64 0,.slice none 0 0,.slice none 0 0,.slice none 0 0,.slice none 0 0],.int .i64 150]) (by simp [results,results14,go_sem,k0,k1,k2,k3,k4,k5,k6,k7,k8]) rfl ?_
      exact iN.out
     have ev:dK s10=0:=by rw [he];rfl
     have HE:=hid he
     obtain⟨W1,W2,W3,W4,W5⟩:=MQ.out.state HQ.out
     obtain⟨c0,c1',c2,c3,c4,c5,c6,c7,c8⟩:=MQ.out.cells
     have f7:=MQ.out.free 7
     have f8:=MQ.out.free 8
     obtain⟨w32,hw32⟩:∃ u,(wq.setCell ⟨w3.heap.size,7,none⟩ (.slice q.A q.ls.length q.c)).setCell ⟨w3.heap.size,8,none⟩ (.slice q.A2 q.ms.length q.c2)=u:=⟨_,rfl⟩
     rw [hw32] at W1 W2 W3 W4
     have HW1:=hid W1
     have HW2:=hid W2
     have HW3:=hid W3
     have HW4:=hid W4
     have OX:Hid (T9.Bi S (T9.n1 S)):=hid (by rw [← NI.out];exact HX.out)
     have KS:Hid ((T9.of (T9.bY S).sb).2=0):=hid (by rw [SB.out];exact HZ0.out)
     have MG:Hid ((⟨(i0:Int),i1,i2,i3,i4,xs,A,c,las,A1,c1,q⟩:dR).mg=T9.kR (T9.bY S)):=hid (by
      show Mg.mk (i0:Int) i1 i2 i3 i4 xs las q.st=_
      unfold T9.kR
      rw [SB.out,HQS.out]
      have e1:xs=(T9.bY S).bs.map fun b=>(T9.fB 60000 b).1:=by rw [HXS.out,NI.out];rfl
      have e2:las=(T9.bY S).las:=by rw [HLA.out,NA.out];rfl
      rw [e1,e2,I0.out,I1.out,I2.out,I3.out,I4.out]
      rfl)
     have CK:=hid (ja (w:=w32) W1.wm (by rw [MG.out];exact T9.yV OX.out KS.out) (by show ∀ x∈xs,_;rw [HXS.out];exact T9.wT HX.out) (by show q.st.short;rw [HQS.out];exact jG (T9.uh HZ0.out).2.2))
     rw [MG.out] at CK
     unfold dR.val at CK
     dsimp only at CK
     obtain⟨ck,hck⟩:∃ v,T9.bA (T9.kR (T9.bY S))=v:=⟨_,rfl⟩
     rw [hck] at CK
     have HCK:=hid hck
     obtain⟨d0,d1,d2,d3,d4,d5,d6,d7,d8⟩:=ag HW2.out
     clear W1 W2 W3 W4 W5 hz0 hck he
     go_wp2_with (go_at_call 50;refine CE.out.mono ?_;rintro e w' ⟨rfl,rfl⟩)
     refine CK.out.mono ?_
     rintro e w33 ⟨rfl,xN⟩
     have W33:=HW2.out.stay xN
     have rb:=ah HW3.out xN
     have HWT:=hid (HW1.out.stay xN)
     have B33:=hid (HW4.out.trans (xN.mono HW4.out.size))
     have RB33:=hid rb
     by_cases hc0:ck=0
     case neg =>
      have q1:(ck==0)=false:=by simp [hc0]
      have q2:(ck != 0)=true:=by simp [hc0]
      have NE:Hid ((T9.fP b).2≠0):=hid (T9.iw HO.out (by rw [← HS.out];exact fun g=>hc0 (HCK.out.symm.trans g.2.2.2)))
      clear hc0 xN rb W33
      have dE:=RB33.out
      obtain⟨r0,r1,r2,r3,r4,r5,r6,r7,r8⟩:=ag dE
      have lL:=aa dE 0
      have lM:=aa dE 1
      have qN:=aa dE 2
      have qO:=aa dE 3
      have qP:=aa dE 4
      have qQ:=aa dE 5
      have xK:=aa dE 6
      have zV:=aa dE 7
      have fr8:=aa dE 8
      have fF:=hid (eF dE (.int .i64 0) (.int .u64 0) (.int .u64 0) (.int .u64 0) (.int .u64 0) (.slice none 0 0) (.slice none 0 0) (.slice none 0 0) (.slice none 0 0))
      have TF:=hid (eP (B:=w.heap.size) (t:=30) ⟨_,_,dE⟩ (Nat.le_refl _) (.int .i64 0) (.int .u64 0) (.int .u64 0) (.int .u64 0) (.int .u64 0) (.slice none 0 0) (.slice none 0 0) (.slice none 0 0) (.slice none 0 0))
      obtain⟨k0,k1,k2,k3,k4,k5,k6,k7,k8⟩:=ag fF.out
      have iN:=hid (jP.bad (NE.out) ((B33.out).trans TF.out.below))
      clear dE
      go_wp2
      refine bodyPost_ret (v:=.tuple #[.agg #[.int .i64 0,.int .u64 0,.int .u64 0,.int .u64 0,.int .u64 0,.slice none 0 0,.slice none 0 0,.slice none 0 0,.slice none 0 0],.int .i64 150]) (by simp [results,results14,go_sem,k0,k1,k2,k3,k4,k5,k6,k7,k8]) rfl ?_
      exact iN.out
     subst hc0
     have GD:Hid (T9.fP b=(T9.kR (T9.bY S),0)):=hid (by
      rw [HS.out]
      exact T9.Dn HO.out (by rw [← HS.out];exact T9.yL OX.out KS.out (S10.out.symm.trans HE.out) HCK.out))
     obtain⟨d0,d1,d2,d3,d4,d5,d6,d7,d8⟩:=ag W33
     obtain⟨r0,r1,r2,r3,r4,r5,r6,r7,r8⟩:=ag rb
     have yr:Ty w33 w.heap.size 30:=⟨_,_,rb⟩
     have lL:=aa rb 0
     have lM:=aa rb 1
     have qN:=aa rb 2
     have qO:=aa rb 3
     have qP:=aa rb 4
     have qQ:=aa rb 5
     have xK:=aa rb 6
     have zV:=aa rb 7
     have fr8:=aa rb 8
     have fF:=hid (eF rb (.int .i64 (i0:Int)) (.int .u64 (i1:Int)) (.int .u64 (i2:Int)) (.int .u64 (i3:Int)) (.int .u64 (i4:Int)) (.slice A xs.length c) (.slice A1 las.length c1) (.slice q.A q.ls.length q.c) (.slice q.A2 q.ms.length q.c2))
     have TF:Hid (aG w.heap.size [30] w33 _):=hid (eP yr (Nat.le_refl _) (.int .i64 (i0:Int)) (.int .u64 (i1:Int)) (.int .u64 (i2:Int)) (.int .u64 (i3:Int)) (.int .u64 (i4:Int)) (.slice A xs.length c) (.slice A1 las.length c1) (.slice q.A q.ls.length q.c) (.slice q.A2 q.ms.length q.c2))
     obtain⟨k0,k1,k2,k3,k4,k5,k6,k7,k8⟩:=ag fF.out
     have iN:=hid (B33.out.trans TF.out.below)
     clear rb yr xN W33
     go_wp2
     refine bodyPost_ret (v:=.tuple #[.agg #[.int .i64 (i0:Int),.int .u64 (i1:Int),.int .u64 (i2:Int),.int .u64 (i3:Int),.int .u64 (i4:Int),.slice A xs.length c,.slice A1 las.length c1,.slice q.A q.ls.length q.c,.slice q.A2 q.ms.length q.c2],.int .i64 0]) (by simp [results,results14,go_sem,k0,k1,k2,k3,k4,k5,k6,k7,k8]) rfl ?_
     exact⟨⟨(i0:Int),i1,i2,i3,i4,xs,A,c,las,A1,c1,q⟩,by rw [GD.out];rfl,HWT.out.cZ TF.out (by decide) (by decide) (by decide) (by decide) (by decide),by rw [MG.out,GD.out],iN.out⟩
end
end
section
section
open Go.RowKit Go.Lib
theorem T9.Ai (b:List UInt8):(T9.fP b).1.ok∧(T9.fP b).1.st.short∧(T9.fP b).1.items.length≤8∧(T9.fP b).1.lasts.length≤2000∧∀ x∈(T9.fP b).1.items,x.m.text.length≤200:=by
 by_cases h:(T9.fP b).2=0
 ·obtain⟨_,_,h3,h4⟩:=T9.vM h
  obtain⟨_,_,_,k1,k2,k3,_,k4,_⟩:=T9.jZ (T9.mV.1 h4)
  exact⟨h3,jG k4,k1,k3,fun x hx=>by have:=T9.df (T9.iY.1 (k2 x hx)).2.2;omega⟩
 ·rw [T9.jY h]
  exact⟨⟨by show 0<_;omega,by show 0<_;omega,by show 0<_;omega,by show 0<_;omega,(by intro x hx;cases hx),(by intro x hx;cases hx),⟨(by intro x hx;cases hx),(by intro x hx;cases hx)⟩⟩,⟨(by intro x hx;cases hx),(by intro x hx;cases hx),Nat.zero_le _,Nat.zero_le _⟩,Nat.zero_le _,Nat.zero_le _,(by intro x hx;cases hx)⟩
theorem dR.yY:dR.no.mg.ok∧dR.no.s.st.short:=⟨⟨by show 0<_;omega,by show 0<_;omega,by show 0<_;omega,by show 0<_;omega,(by intro x hx;cases hx),(by intro x hx;cases hx),⟨(by intro x hx;cases hx),(by intro x hx;cases hx)⟩⟩,⟨(by intro x hx;cases hx),(by intro x hx;cases hx),Nat.zero_le _,Nat.zero_le _⟩⟩
theorem wR {A:Option Addr} {n c:Nat} {b:List UInt8} {w:World} {t:TypeId} (h:av w w.heap.size t A (af b)) (hn:n=b.length) (hc:b.length≤c) (hm:c≤maxLen) :
  Calls prog 4 #[.slice A n c] w fun e w'=>e=.returned (.bool true)∧Below w.heap.size w w':=by
 have AW:=hid (rD w)
 have H:=hid h
 have HN:=hid hn
 have HC:Hid (n≤c):=hid (by have:=hm;omega)
 clear h hn hc hm
 go_enter func4,ntmps4
 go_wp2_with fail
 refine AW.out.mono ?_
 rintro e w1 ⟨rfl,c1⟩
 have C1:=hid c1
 clear c1
 by_cases hl:5000<n
 ·have hz:(5000:Int)<(n:Int):=by omega
  have hz2:decide ((5000:Int)<(n:Int))=true:=by simp;omega
  clear hl
  go_wp2
  go_ret
  exact⟨rfl,C1.out⟩
 have hz:¬ (5000:Int)<(n:Int):=by omega
 have hz2:decide ((5000:Int)<(n:Int))=false:=by simp;omega
 have HLN:Hid (n≤5000):=hid (by omega)
 have OF:=hid (Eh (c:=c) (H.out.below (Nat.le_refl _) C1.out) HN.out HC.out (by omega) C1.out.size)
 clear hl
 go_wp2_with fail
 refine OF.out.mono ?_
 rintro e w2 ⟨m,rfl,hm,hmg,hb2⟩
 have C2:=hid (C1.out.trans (hb2.mono C1.out.size))
 obtain⟨w3,hw3⟩:∃ u,w2.alloc (.cells #[.int .i64 m.kind,.int .u64 (m.line:Int),.int .u64 (m.aK:Int),.int .u64 (m.bE:Int),.int .u64 (m.bI:Int),.slice m.A m.is.length m.c,.slice m.A1 m.las.length m.c1,.slice m.s.A m.s.ls.length m.s.c,.slice m.s.A2 m.s.ms.length m.s.c2] 30)=u:=⟨_,rfl⟩
 obtain⟨qb,b3,_⟩:=bD hw3
 have C3:=hid (C2.out.trans (b3.mono C2.out.size))
 have QB:=hid qb
 have HM:=hid (hm.stay b3)
 have HMG:=hid hmg
 have RF:=hid (Au (c:=c) (H.out.below (Nat.le_refl _) C3.out) HN.out HC.out (by have:=HLN.out;omega) C3.out.size)
 unfold dR.val
 clear hb2 qb b3 hm hmg
 go_wp2_with fail
 refine RF.out.mono ?_
 rintro e w4 ⟨m2,rfl,hm2,hmg2,hb4⟩
 have C4:=hid (C3.out.trans (hb4.mono C3.out.size))
 obtain⟨w5,qU⟩:∃ u,w4.alloc (.cells #[.int .i64 m2.kind,.int .u64 (m2.line:Int),.int .u64 (m2.aK:Int),.int .u64 (m2.bE:Int),.int .u64 (m2.bI:Int),.slice m2.A m2.is.length m2.c,.slice m2.A1 m2.las.length m2.c1,.slice m2.s.A m2.s.ls.length m2.s.c,.slice m2.s.A2 m2.s.ms.length m2.s.c2] 30)=u:=⟨_,rfl⟩
 obtain⟨pb,b5,_⟩:=bD qU
 have C5:=hid (C4.out.trans (b5.mono C4.out.size))
 have PB:=hid pb
 have BQ:=hb4.trans (b5.mono hb4.size)
 have QB5:=hid (ah QB.out BQ)
 have HM5:=hid (HM.out.stay BQ)
 have jh:=hid (hm2.stay b5)
 have Br:=hid hmg2
 obtain⟨F1,F2,F3,F4,F5⟩:=T9.Ai b
 have e1:m.s.st=(T9.fP b).1.st:=congrArg Mg.st HMG.out
 have e2:m.is=(T9.fP b).1.items:=congrArg Mg.items HMG.out
 have e3:m.las=(T9.fP b).1.lasts:=congrArg Mg.lasts HMG.out
 have d1:m2.s.st=(T9.fP b).1.st:=congrArg Mg.st Br.out
 have d2:m2.is=(T9.fP b).1.items:=congrArg Mg.items Br.out
 have d3:m2.las=(T9.fP b).1.lasts:=congrArg Mg.lasts Br.out
 have SM:=hid (jE (w:=w5) HM5.out.wm jh.out.wm (by rw [HMG.out];exact F1) (by rw [Br.out];exact F1) (by rw [e1];exact F2) (by rw [d1];exact F2) (by rw [e2];omega) (by rw [e3];omega))
 rw [HMG.out,Br.out,T9.lg] at SM
 have FA:Hid (m.mg.ok∧m.s.st.short∧m.is.length≤8∧m.las.length≤2000∧∀ x∈m.is,x.m.text.length≤200):=hid ⟨by rw [HMG.out];exact F1,by rw [e1];exact F2,by rw [e2];exact F3,by rw [e3];exact F4,by rw [e2];exact F5⟩
 obtain⟨er,her⟩:∃ v,(T9.fP b).2=v:=⟨_,rfl⟩
 have Ei:=hid her
 rw [her]
 obtain⟨l0,l1,l2,l3,l4,l5,l6,l7,l8⟩:=ag QB5.out
 obtain⟨q0,q1,q2,q3,q4,q5,q6,q7,q8⟩:=ag PB.out
 unfold dR.val at SM ⊢
 clear hb4 pb b5 hm2 hmg2 BQ F1 F2 F3 F4 F5 e1 e2 e3 d1 d2 d3 her
 go_wp2_with fail
 refine SM.out.mono ?_
 rintro e w6 ⟨rfl,c6⟩
 have C6:=hid (C5.out.trans (c6.mono C5.out.size))
 have HM6:=hid (HM5.out.stay c6)
 have QB6:=hid (ah QB5.out c6)
 clear c6 l0 l1 l2 l3 l4 l5 l6 l7 l8 q0 q1 q2 q3 q4 q5 q6 q7 q8
 obtain⟨l0,l1,l2,l3,l4,l5,l6,l7,l8⟩:=ag QB6.out
 by_cases he:er=0
 case neg =>
  have z1:(er==0)=false:=by simp [he]
  have z2:(er != 0)=true:=by simp [he]
  have SN:=hid (jE (w:=w6) HM6.out.wm (dR.xU w6).wm FA.out.1 dR.yY.1 FA.out.2.1 dR.yY.2 (by have:=FA.out.2.2.1;omega) (by have:=FA.out.2.2.2.1;omega))
  have EM:m.mg=dR.no.mg:=by rw [HMG.out,T9.jY (by rw [Ei.out];exact he)];rfl
  rw [EM,T9.lg] at SN
  unfold dR.val at SN
  have SN2:Hid (Calls prog 12 #[.agg #[.int .i64 m.kind,.int .u64 (m.line:Int),.int .u64 (m.aK:Int),.int .u64 (m.bE:Int),.int .u64 (m.bI:Int),.slice m.A m.is.length m.c,.slice m.A1 m.las.length m.c1,.slice m.s.A m.s.ls.length m.s.c,.slice m.s.A2 m.s.ms.length m.s.c2],.agg #[.int .i64 0,.int .u64 0,.int .u64 0,.int .u64 0,.int .u64 0,.slice none 0 0,.slice none 0 0,.slice none 0 0,.slice none 0 0]] w6 fun e w'=>e=.returned (.bool true)∧Below w6.heap.size w6 w'):=SN
  clear he EM SN
  go_wp2_with fail
  refine SN2.out.mono ?_
  rintro e w7 ⟨rfl,c7⟩
  have C7:=hid (C6.out.trans (c7.mono C6.out.size))
  clear c7
  go_wp2
  go_ret
  exact⟨aj (by simp),C7.out⟩
 obtain⟨g1,_,_,g4⟩:=T9.vM (Ei.out.trans he)
 have EB:Hid (Fr.frame (T9.iE m.mg)=b):=hid (by rw [HMG.out];exact g1.symm)
 have OK:T9.okW m.mg=true:=by rw [HMG.out];exact T9.mV.1 g4
 have PU:=hid (uj (w:=w6) HM6.out.wm FA.out.1 FA.out.2.2.2.2 FA.out.2.1 (by have:=FA.out.2.2.1;unfold maxLen;omega) (by have:=FA.out.2.2.2.1;unfold maxLen;omega))
 unfold fU dR.val at PU
 have V:T9.bA m.mg=0:=by unfold T9.bA;rw [if_pos OK]
 rw [if_pos OK,V,EB.out] at PU
 subst he
 clear V OK g1 g4
 go_wp2_with fail
 refine PU.out.mono ?_
 rintro e w7 ⟨A7,n7,c7,rfl,hn7,hc7,rV,Bc⟩
 have C7:=hid (C6.out.trans (Bc.mono C6.out.size))
 have k1:=bR (c:=c7) (aD (B:=0) rV) hn7
 have k2:=bR (c:=c) (H.out.below (Nat.le_refl _) C7.out) HN.out
 have k3:(str b==str b)=true:=by rw [wH];simp
 clear hn7 hc7 rV Bc l0 l1 l2 l3 l4 l5 l6 l7 l8
 go_wp2
 go_ret
 exact⟨aj (by simp),C7.out⟩
end
end
section
open Go.ChangeShapes Go.WideShapes Go.ChangeAt Go.RowKit
theorem nJ (os:Os) (started:os.Started) (H:Type) (enc:TypeId × Value→H) :
  ReturnsInHanded {} Tryz.checked os 4 .any (Rows.wireReadsSpec.pre6 enc prog Tryz.f4 Rows.wireReadsRow.domain false) (Rows.wireReadsSpec.post enc prog Tryz.f4 false true false false):=by
 refine returnsInHanded_of_change (C:=Tryz.checked) Tryz.own2 started (by kernel_rfl) func4
  (ChangeSpec.witness6 (enc:=enc) (C:=Tryz.checked) false ⟨#[],#[.slice none 0 0],[]⟩ 8 (by kernel_rfl) (by kernel_rfl) (by kernel_rfl) (by kernel_rfl)) ?_
 intro W base args ds gs before hval0 hW hcnd _
 have hval:∀ (j:Nat) t v,Tryz.f4.params[j]?=some t→args[j]?=some v→Value.okWide prog W .any base t v:=hval0
 have hW':=hW
 obtain⟨p,q,hA0,hV,rfl,hfz,hnd⟩:=hW
 have hA:DataW.TrodAll enc prog W 0 (fun _=>true) true Tryz.f4.params.toList args.toList ds p:=hA0
 rw [Tryz.params4] at hA hval
 obtain⟨v0,d0,rfl,rfl,h0⟩:=trodAll_one hA
 obtain⟨A0,c0,x0,e0,hc0,hm0,hr0⟩:=xV (hval 0 33 v0 rfl rfl) h0
 subst e0
 refine (wR hr0 rfl hc0 hm0).mono fun e W' ⟨he,hw⟩=>?_
 subst he
 refine⟨_,rfl,vS (tb:=4) Tryz.laidOut2 ?_ rfl (by kernel_rfl) underlying4 hW' hw ?_ ?_ ?_⟩
 ·intro t ht
  rw [Tryz.params4] at ht
  simp at ht
  subst ht
  all_goals exact⟨by kernel_rfl,of_decide_eq_true (by kernel_rfl)⟩
 all_goals
  obtain⟨rfl,rfl⟩:=trodVars_none hV
  rfl
theorem wireReads_holds:Rows.WireReadsSaid :=
 OpenClaim.holds_of_wide 4 Tryz.f4 rfl rfl rfl rfl rfl rfl rfl ⟨rfl,rfl,rfl,rfl,rfl⟩ rfl rfl rfl rfl rfl (by kernel_rfl) func4 (by kernel_rfl)
  (of_decide_eq_true (by kernel_rfl)) (by unfold Func.isWrapper;first | (rw [if_pos (by decide +kernel)];kernel_rfl) | (rw [if_neg (by decide +kernel)];exact⟨rfl,rfl⟩))
  (fun os started H enc _=>nJ os started H enc)
end
end Go.Proofs.YtmcfknnfaokmlaaGreat
