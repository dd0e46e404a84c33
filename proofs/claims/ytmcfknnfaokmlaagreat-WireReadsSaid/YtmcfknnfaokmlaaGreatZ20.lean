import Derived.Test.YtmcfknnfaokmlaaGreatZ8
import Derived.Test.YtmcfknnfaokmlaaGreatZ7
import Derived.Test.YtmcfknnfaokmlaaGreatZ18
import Derived.Lib.SliceRun
import Derived.Laws.BitsAllLaws
namespace Go.Proofs.YtmcfknnfaokmlaaGreat
set_option maxHeartbeats 16000000
open Go.Lib Go.Proofs.Tryz
set_option linter.unusedSimpArgs false
set_option maxRecDepth 100000
section
section
open Go.RowKit
def RS (t:TypeId) (B:Nat) (tb:TypeId) (w:World) (p:Nat) (s:Option (List UInt8)):Prop :=
 B≤p∧match s with
 | none=>w.heap[p]?=some (.cells #[.slice none 0 0,.bool true] t (0,0))
 | some l=>∃ A c,l.length≤c∧w.heap[p]?=some (.cells #[.slice A l.length c,.bool false] t (0,0))∧av w B tb A (af l)
section
variable {t tb : TypeId} {B p : Nat} {w w' : World} {s : Option (List UInt8)}
theorem RS.cZ (h:RS t B tb w p s) {ts:List TypeId} (hT:aG B ts w w') (h1:t ∉ ts) (h2:tb ∉ ts):RS t B tb w' p s:=by
 refine⟨h.1,?_⟩
 cases s with
 | none=>exact hT.blk h.2 h1
 | some l =>
  obtain⟨_,A,c,hc,hp,hL⟩:=h
  exact⟨A,c,hc,hT.blk hp h1,hL.cZ hT h2⟩
theorem RS.size (h:RS t B tb w p s):B≤w.heap.size:=by
 obtain⟨hB,h⟩:=h
 cases s with
 | none=>have:=lt_of_block h;omega
 | some l =>
  obtain⟨A,c,_,hp,_⟩:=h
  have:=lt_of_block hp
  omega
theorem RS.below (h:RS t B tb w p s) (hT:Below w.heap.size w w'):RS t B tb w' p s:=h.cZ (aG.of_below hT h.size []) (by simp) (by simp)
theorem RS.alloc (h:RS t B tb w p s) (o:Obj):RS t B tb (w.alloc o) p s:=h.below ((Below.refl _ _).alloc (Nat.le_refl _) o)
end
theorem dS {w:World} {g:Nat} {x y:Value} {t:TypeId} {fr:Nat × Nat} (h:w.heap[g]?=some (.cells #[x,y] t fr)):w.cell? ⟨g,0,none⟩=some x:=by simp [World.cell?,h]
theorem gm {w:World} {g:Nat} {x y:Value} {t:TypeId} {fr:Nat × Nat} (h:w.heap[g]?=some (.cells #[x,y] t fr)):w.cell? ⟨g,1,none⟩=some y:=by simp [World.cell?,h]
theorem gN {B p:Nat} {tb:TypeId} {w:World} {l:List UInt8} (h:RS 147 B tb w p (some l)) :
  Calls prog 121 #[.pointer (some ⟨p,0,none⟩)] w fun e w'=>e=.returned (.bool false)∧w=w':=by
 obtain⟨_,A,c,_,hp,_⟩:=h
 have c1:=gm hp
 clear hp
 go_enter func121,ntmps121
 go_wp2
 go_ret
 exact⟨rfl,rfl⟩
theorem kQ {B p:Nat} {tb:TypeId} {w:World} (h:RS 147 B tb w p none) :
  Calls prog 121 #[.pointer (some ⟨p,0,none⟩)] w fun e w'=>e=.returned (.bool true)∧w=w':=by
 have c1:=gm h.2
 clear h
 go_enter func121,ntmps121
 go_wp2
 go_ret
 exact⟨rfl,rfl⟩
theorem iB {B p:Nat} {tb:TypeId} {w:World} {s:Option (List UInt8)} (h:RS 147 B tb w p s) :
  Calls prog 117 #[.pointer (some ⟨p,0,none⟩)] w fun e w'=>e=.returned (.tuple #[])∧RS 147 B tb w' p none∧aG B [147] w w':=by
 have hB:=h.1
 obtain⟨A,n,c,b,hp⟩:∃ A n c b,w.heap[p]?=some (.cells #[.slice A n c,.bool b] 147 (0,0)):=by
  cases s with
  | none=>exact⟨_,_,_,_,h.2⟩
  | some l =>
   obtain⟨_,A,c,_,hp,_⟩:=h
   exact⟨_,_,_,_,hp⟩
 have c1:=dS hp
 have c2:=gm hp
 have f1:=aa hp 0
 have f2:=aa hp 1
 have hp2:=ae hp 0 (.slice none 0 0)
 have hp3:=ae hp2 1 (.bool true)
 have HT:=hid (((aG.refl B [147] w).setCell hp (by simp) hB (.slice none 0 0)).setCell (p:=⟨p,1,none⟩) hp2 (by simp) hB (.bool true))
 have H3:=hid hp3
 clear hp2 hp3 h hp
 go_enter func117,ntmps117
 go_wp2
 go_end0
 exact⟨rfl,⟨hB,by simpa using H3.out⟩,HT.out⟩
def tk (n:Nat):Option (List UInt8)→List UInt8
 | none=>[]
 | some l=>if n≤l.length then l.take n else []
def BH (t:TypeId) (B:Nat) (tb:TypeId) (p:Nat) (b:List UInt8) (s:Option (List UInt8)) (w:World) (e:Ending) (w':World):Prop :=
 ∃ A c,e=.returned (.slice A b.length c)∧b.length≤c∧av w' B tb A (af b)∧RS t B tb w' p s∧aG B [t] w w'
theorem wJ {B p:Nat} {t tb:TypeId} {w:World} {l:List UInt8} {n c c0 c1:Nat} {A A1:Option Addr} {b:Bool} (hB:B≤p) (ht:tb≠t) (hp:w.heap[p]?=some (.cells #[.slice A l.length c0,.bool b] t (0,0))) (hb:b=false) (hn:n≤l.length) (hc:n≤c) (hc1:l.length - n≤c1)
  (hL:av w B tb A (af l)) (hL1:av w B tb A1 (af (l.drop n))):BH t B tb p (tk n (some l)) (Cd.eZ n (some l)).2 w (.returned (.slice A n c)) (w.setCell ⟨p,0,none⟩ (.slice A1 (l.length - n) c1)):=by
 subst hb
 have e1:tk n (some l)=l.take n:=by simp [tk,hn]
 have e2:(Cd.eZ n (some l)).2=some (l.drop n):=by simp [Cd.eZ,hn]
 have e3:(l.take n).length=n:=by rw [List.length_take];omega
 have T:=(aG.refl B [t] w).setCell (p:=⟨p,0,none⟩) hp (by simp) hB (.slice A1 (l.length - n) c1)
 have ht':tb ∉ [t]:=by simpa using ht
 rw [e1,e2]
 refine⟨A,c,by rw [e3],by omega,?_,⟨hB,A1,c1,by rw [List.length_drop];omega,?_,?_⟩,T⟩
 ·rw [← d9];exact (hL.take n).cZ T ht'
 ·rw [List.length_drop];exact ae hp 0 _
 ·exact hL1.cZ T ht'
theorem D6 {B p:Nat} {tb:TypeId} {w:World} {s:Option (List UInt8)} {z:Int} {n:Nat} (hz:z=(n:Int)) (h:RS 147 B tb w p s) (ht:tb≠147) (hl:∀ l,s=some l→l.length≤1099511627776) :
  Calls prog 119 #[.pointer (some ⟨p,0,none⟩),.int .i64 z] w (BH 147 B tb p (tk n s) (Cd.eZ n s).2 w):=by
 subst hz
 cases s with
 | none =>
  have HR:=hid h
  clear h
  go_enter func119,ntmps119
  go_wp2_with (first
   | (go_at_call 121;refine (kQ HR.out).mono ?_;rintro e w' ⟨rfl,rfl⟩)
   | (go_at_call 117;refine (iB HR.out).mono ?_;rintro e w' ⟨rfl,hr,ht⟩;have HR2:=hid hr;have HT:=hid ht;clear hr ht))
  go_ret
  exact⟨none,0,rfl,Nat.le_refl _,av.nil,HR2.out,HT.out⟩
 | some l =>
  have ll:=hl l rfl
  clear hl
  have hB:=h.1
  have HR:=hid h
  obtain⟨_,A,c,hc,hp,hL⟩:=h
  have c1:=dS hp
  have f1:=aa hp 0
  have HP:=hid hp
  have HL:=hid hL
  clear hp hL
  by_cases hn:n≤l.length
  ·go_enter func119,ntmps119
   go_wp2_with (first
    | (go_at_call 121;refine (gN HR.out).mono ?_;rintro e w' ⟨rfl,rfl⟩))
   all_goals go_ret
   ·have hcn:c=n:=by assumption
    have hd:l.drop n=[]:=List.drop_eq_nil_of_le (by omega)
    exact wJ hB ht HP.out rfl hn (by omega) (by omega) HL.out (by rw [hd];exact av.nil)
   ·have hcn:¬ c=n:=by assumption
    have q:=HL.out.cut n c (by rw [aT];omega)
    rw [if_neg hcn,dI] at q
    exact wJ hB ht HP.out rfl hn (by omega) (by omega) HL.out q
  ·go_enter func119,ntmps119
   go_wp2_with (first
    | (go_at_call 121;refine (gN HR.out).mono ?_;rintro e w' ⟨rfl,rfl⟩)
    | (go_at_call 117;refine (iB HR.out).mono ?_;rintro e w' ⟨rfl,hr,ht⟩;have HR2:=hid hr;have HT:=hid ht;clear hr ht))
   go_ret
   have e1:tk n (some l)=[]:=by simp [tk,hn]
   have e2:(Cd.eZ n (some l)).2=none:=by simp [Cd.eZ,hn]
   rw [e1,e2]
   exact⟨none,0,rfl,Nat.le_refl _,av.nil,HR2.out,HT.out⟩
theorem or_byte (x:Nat) (b:UInt8):bits .or .u64 (IntKind.u64.wrap ((x:Int) * 256)) (IntKind.u64.wrap (b.toNat:Int))=(((x * 256+b.toNat) % 18446744073709551616:Nat):Int):=by
 have hb:b.toNat<2 ^ 8:=b.toNat_lt
 have e1:IntKind.u64.wrap ((x:Int) * 256)=((x % 72057594037927936 * 256:Nat):Int):=by rw [Fl.wrap_u64];omega
 have e2:IntKind.u64.wrap (b.toNat:Int)=(b.toNat:Int):=by rw [Fl.wrap_u64];omega
 rw [e1,e2,u64_or_nat _ _ (by omega) (by omega)]
 have e3:=Nat.shiftLeft_add_eq_or_of_lt hb (x % 72057594037927936)
 rw [Nat.shiftLeft_eq,show 2 ^ 8=256 from rfl] at e3
 rw [← e3]
 omega
theorem DT {B p:Nat} {tb:TypeId} {w:World} {s:Option (List UInt8)} {z:Int} {n:Nat} (hz:z=(n:Int)) (h:RS 147 B tb w p s) (ht:tb≠147) (hl:∀ l,s=some l→l.length≤1099511627776) :
  Calls prog 116 #[.pointer (some ⟨p,0,none⟩),.int .i64 z] w fun e w'=>e=.returned (.int .u64 ((Cd.eZ n s).1:Int))∧RS 147 B tb w' p (Cd.eZ n s).2∧aG B [147] w w':=by
 subst hz
 have oq:=hid hl
 clear hl
 have tl:(tk n s).length≤1099511627776:=by
  cases s with
  | none=>simp [tk]
  | some l=>have:=oq.out l rfl;unfold tk;simp only [];split <;> simp;omega
 have ev:Cd.val (tk n s)=(Cd.eZ n s).1:=by
  cases s with
  | none=>rfl
  | some l=>unfold tk;simp only [Cd.eZ];split <;> simp_all [Cd.uG]
 have EV:=hid ev
 clear ev
 go_enter func116,ntmps116
 go_wp2_with fail
 refine (D6 rfl h ht oq.out).mono ?_
 rintro e w' ⟨A,c,rfl,hc,hL,hR,hT⟩
 have HL:=hid hL
 have HR:=hid hR
 have HT:=hid hT
 clear hL hR hT h
 go_wp2_with fail
 go_loop [5,12] (fun v i=>∃ k:Nat,k≤(tk n s).length∧i=.int .i64 k∧v=.int .u64 (Cd.val ((tk n s).take k):Int)) (fun _ i=>(tk n s).length - (intOf i).toNat)
 case atStart=>exact⟨0,by omega,rfl,by simp [Cd.uG]⟩
 case round =>
  obtain⟨k,hk,rfl,rfl⟩:=hrel
  by_cases hlt:k<(tk n s).length
  ·obtain⟨ad,rfl,d0⟩:=HL.out.byte hlt
   have HN:=hid (ko (List.getElem?_eq_getElem hlt))
   go_wp2
   go_round
   case rel=>exact⟨k+1,by omega,by go_num,by rw [HN.out,Cd.wQ,or_byte]⟩
   case measure=>simp [intOf];omega
  ·obtain rfl:k=(tk n s).length:=by omega
   go_wp2
   go_ret
   exact⟨gM (by rw [EV.out]),HR.out,HT.out⟩
theorem bJ {B p:Nat} {tb:TypeId} {w:World} {s s':Option (List UInt8)} {z:Int} {n x:Nat} (he:Cd.eZ n s=(x,s')) (hz:z=(n:Int)) (h:RS 147 B tb w p s) (ht:tb≠147) (hl:∀ l,s=some l→l.length≤1099511627776) :
  Calls prog 116 #[.pointer (some ⟨p,0,none⟩),.int .i64 z] w fun e w'=>e=.returned (.int .u64 (x:Int))∧RS 147 B tb w' p s'∧aG B [147] w w':=by
 have q:=DT (z:=z) (n:=n) hz h ht hl
 rw [he] at q
 exact q
theorem qc (b:UInt8) (t:List UInt8):Cd.eZ 1 (some (b :: t))=(b.toNat,some t):=by
 simp only [Cd.eZ,List.length_cons]
 rw [if_pos (by omega)]
 simp [Cd.val_one]
theorem eG {B p:Nat} {tb:TypeId} {w:World} {s:Option (List UInt8)} {mz:Int} (h:RS 147 B tb w p s) (ht:tb≠147) (hl:∀ l,s=some l→l.length≤1099511627776) (m0:0≤mz) :
  Calls prog 89 #[.pointer (some ⟨p,0,none⟩),.int .u64 mz] w fun e w'=>e=.returned (.int .u64 ((Cd.aS mz.toNat s).1:Int))∧RS 147 B tb w' p (Cd.aS mz.toNat s).2∧aG B [147] w w':=by
 have HS:=hid h
 have HX:=hid hl
 clear h hl
 have start:∀ (e0:Cd.eZ 1 s=(0,none)) (e1:Cd.aS mz.toNat s=(0,none)),
   Calls prog 89 #[.pointer (some ⟨p,0,none⟩),.int .u64 mz] w fun e w'=>e=.returned (.int .u64 ((Cd.aS mz.toNat s).1:Int))∧RS 147 B tb w' p (Cd.aS mz.toNat s).2∧aG B [147] w w':=by
  intro e0 e1
  rw [e1]
  have E0:=hid e0
  clear e0 e1
  go_enter func89,ntmps89
  go_wp2_with fail
  refine (bJ E0.out rfl HS.out ht HX.out).mono ?_
  rintro e w' ⟨rfl,hr,hT⟩
  have HR:=hid hr
  have HT:=hid hT
  clear hr hT
  go_wp2_with (go_at_call 53;refine (jo _ _ (by omega) (by omega)).mono ?_;rintro e w' ⟨rfl,rfl⟩)
  go_ret
  exact⟨rfl,HR.out,HT.out⟩
 match s,HS,HX,start with
 | none,HS,HX,start=>exact start rfl rfl
 | some [],HS,HX,start=>exact start (by simp [Cd.eZ]) rfl
 | some (b :: t),HS,HX,start =>
  clear start
  have hb:b.toNat<256:=b.toNat_lt
  have tl:∀ l,some t=some l→l.length≤1099511627776:=by
   intro l e
   injection e with e
   subst e
   have:=HX.out _ rfl
   simp at this
   omega
  have TL:=hid tl
  have E0:=hid (qc b t)
  clear tl
  by_cases h1:b.toNat<128
  ·by_cases h2:(b.toNat:Int)≤mz
   ·have e1:Cd.aS mz.toNat (some (b :: t))=(b.toNat,some t):=by simp only [Cd.aS];rw [if_pos h1,if_pos (by omega)]
    rw [e1]
    clear e1
    go_enter func89,ntmps89
    go_wp2_with fail
    refine (bJ E0.out rfl HS.out ht HX.out).mono ?_
    rintro e w' ⟨rfl,hr,hT⟩
    have HR:=hid hr
    have HT:=hid hT
    clear hr hT
    go_wp2_with (go_at_call 53;refine (jo _ _ (by omega) (by omega)).mono ?_;rintro e w' ⟨rfl,rfl⟩)
    go_ret
    exact⟨rfl,HR.out,HT.out⟩
   ·have e1:Cd.aS mz.toNat (some (b :: t))=(0,none):=by simp only [Cd.aS];rw [if_pos h1,if_neg (by omega)]
    rw [e1]
    clear e1
    go_enter func89,ntmps89
    go_wp2_with fail
    refine (bJ E0.out rfl HS.out ht HX.out).mono ?_
    rintro e w' ⟨rfl,hr,hT⟩
    have HR:=hid hr
    have HT:=hid hT
    clear hr hT
    go_wp2_with (go_at_call 117;refine (iB HR.out).mono ?_;rintro e w' ⟨rfl,hr2,ht2⟩;have HR2:=hid hr2;have HT2:=hid ht2;clear hr2 ht2)
    go_ret
    exact⟨rfl,HR2.out,HT.out.trans HT2.out⟩
  ·obtain⟨v,s2,hv⟩:∃ v s2,Cd.eZ (b.toNat - 128) (some t)=(v,s2):=⟨_,_,rfl⟩
   have Bl:v<18446744073709551616:=by have:=Cd.qd (b.toNat - 128) (some t);rw [hv] at this;exact this
   have e1:Cd.aS mz.toNat (some (b :: t))=if s2.isSome=true∧128≤v∧Cd.wid v=b.toNat - 128∧v≤mz.toNat then (v,s2) else (0,none):=by
    simp only [Cd.aS]
    rw [if_neg h1]
    simp only [Cd.eZ] at hv
    by_cases hk:b.toNat - 128≤t.length
    ·rw [if_pos hk,Prod.mk.injEq] at hv
     obtain⟨rfl,rfl⟩:=hv
     simp [hk]
    ·rw [if_neg hk,Prod.mk.injEq] at hv
     obtain⟨rfl,rfl⟩:=hv
     simp [hk]
   have s0:s2=none→v=0:=fun q=>by have:=Cd.vW (k:=b.toNat - 128) (s:=some t) (by rw [hv];exact q);rw [hv] at this;exact this
   have HV:=hid hv
   have VL:=hid Bl
   have S0:=hid s0
   clear hv Bl s0
   by_cases h2:(v:Int)≤mz
   ·by_cases h3:v<128
    ·rw [if_neg (by omega)] at e1
     have n1:((v:Int)==(b.toNat:Int))=false:=by simp;omega
     have n2:((v:Int) != (b.toNat:Int))=true:=by simp;omega
     rw [e1]
     clear e1
     go_enter func89,ntmps89
     go_wp2_with fail
     refine (bJ E0.out rfl HS.out ht HX.out).mono ?_
     rintro e w' ⟨rfl,hr,hT⟩
     have HR:=hid hr
     have HT:=hid hT
     clear hr hT
     go_wp2_with fail
     refine (bJ HV.out (by omega) HR.out ht TL.out).mono ?_
     rintro e w' ⟨rfl,hr,hT⟩
     have HR2:=hid hr
     have HT2:=hid hT
     clear hr hT
     go_wp2_with (first | (go_at_call 53;refine (jo _ _ (by omega) (by omega)).mono ?_;rintro e w' ⟨rfl,rfl⟩) | (go_at_call 117;refine (iB HR2.out).mono ?_;rintro e w' ⟨rfl,hr3,ht3⟩;have HR3:=hid hr3;have HT3:=hid ht3;clear hr3 ht3))
     go_ret
     exact⟨rfl,HR3.out,(HT.out.trans HT2.out).trans HT3.out⟩
    ·by_cases h4:Cd.wid v=b.toNat - 128
     ·have hs2:s2.isSome=true:=by
       cases s2 with
       | none=>have:=S0.out rfl;omega
       | some _=>rfl
      rw [if_pos ⟨hs2,by omega,h4,by omega⟩] at e1
      have n1:(IntKind.u64.wrap (128+(Cd.wid v:Int))==(b.toNat:Int))=true:=by have:=Cd.dZ v;rw [Fl.wrap_u64];simp;omega
      have n2:(IntKind.u64.wrap (128+(Cd.wid v:Int)) != (b.toNat:Int))=false:=by have:=Cd.dZ v;rw [Fl.wrap_u64];simp;omega
      have N1:=hid h4
      clear h4 hs2
      rw [e1]
      clear e1
      go_enter func89,ntmps89
      go_wp2_with fail
      refine (bJ E0.out rfl HS.out ht HX.out).mono ?_
      rintro e w' ⟨rfl,hr,hT⟩
      have HR:=hid hr
      have HT:=hid hT
      clear hr hT
      go_wp2_with fail
      refine (bJ HV.out (by omega) HR.out ht TL.out).mono ?_
      rintro e w' ⟨rfl,hr,hT⟩
      have HR2:=hid hr
      have HT2:=hid hT
      clear hr hT
      go_wp2_with (first | (go_at_call 53;refine (lK _ _ (by omega) (by have:=VL.out;omega)).mono ?_;rintro e w' ⟨rfl,rfl⟩) | (go_at_call 117;refine (iB HR2.out).mono ?_;rintro e w' ⟨rfl,hr3,ht3⟩;have HR3:=hid hr3;have HT3:=hid ht3;clear hr3 ht3))
      go_ret
      exact⟨rfl,HR2.out,HT.out.trans HT2.out⟩
     ·rw [if_neg (by omega)] at e1
      have n1:(IntKind.u64.wrap (128+(Cd.wid v:Int))==(b.toNat:Int))=false:=by have:=Cd.dZ v;rw [Fl.wrap_u64];simp;omega
      have n2:(IntKind.u64.wrap (128+(Cd.wid v:Int)) != (b.toNat:Int))=true:=by have:=Cd.dZ v;rw [Fl.wrap_u64];simp;omega
      rw [e1]
      clear e1
      go_enter func89,ntmps89
      go_wp2_with fail
      refine (bJ E0.out rfl HS.out ht HX.out).mono ?_
      rintro e w' ⟨rfl,hr,hT⟩
      have HR:=hid hr
      have HT:=hid hT
      clear hr hT
      go_wp2_with fail
      refine (bJ HV.out (by omega) HR.out ht TL.out).mono ?_
      rintro e w' ⟨rfl,hr,hT⟩
      have HR2:=hid hr
      have HT2:=hid hT
      clear hr hT
      go_wp2_with (first | (go_at_call 53;refine (lK _ _ (by omega) (by have:=VL.out;omega)).mono ?_;rintro e w' ⟨rfl,rfl⟩) | (go_at_call 117;refine (iB HR2.out).mono ?_;rintro e w' ⟨rfl,hr3,ht3⟩;have HR3:=hid hr3;have HT3:=hid ht3;clear hr3 ht3))
      go_ret
      exact⟨rfl,HR3.out,(HT.out.trans HT2.out).trans HT3.out⟩
   ·rw [if_neg (by omega)] at e1
    rw [e1]
    clear e1
    go_enter func89,ntmps89
    go_wp2_with fail
    refine (bJ E0.out rfl HS.out ht HX.out).mono ?_
    rintro e w' ⟨rfl,hr,hT⟩
    have HR:=hid hr
    have HT:=hid hT
    clear hr hT
    go_wp2_with fail
    refine (bJ HV.out (by omega) HR.out ht TL.out).mono ?_
    rintro e w' ⟨rfl,hr,hT⟩
    have HR2:=hid hr
    have HT2:=hid hT
    clear hr hT
    go_wp2_with (go_at_call 117;refine (iB HR2.out).mono ?_;rintro e w' ⟨rfl,hr3,ht3⟩;have HR3:=hid hr3;have HT3:=hid ht3;clear hr3 ht3)
    go_ret
    exact⟨rfl,HR3.out,(HT.out.trans HT2.out).trans HT3.out⟩
end
section
open Go.RowKit
def dW (l:List UInt8) (w:World) (e:Ending) (w':World):Prop :=
 ∃ A n c,e=.returned (.slice A n c)∧w'.ownsRow w.heap.size 5 1 (.slice A n c) l.length (af l)∧Below w.heap.size w w'
theorem sU {A:Option Addr} {n c:Nat} {l:List UInt8} {w:World} {B:Nat} {tb:TypeId} (hL:av w B tb A (af l)) (hB:B≤w.heap.size) (hn:n=l.length) (hs:l.length≤1099511627776) :
  Calls prog 60 #[.slice A n c] w (dW l w):=by
 subst hn
 have HL:=hid hL
 clear hL
 obtain⟨i0,hi,hz0,hz1,hz2⟩:=info_parts Tryz.infoU8
 have q:=fun (w:World) a n c n' c'=>Lib.run_eql_slice_nil (P:=prog) w 33 5 a n c n' c' underlying33
 cases A with
 | none =>
  have e:l=[]:=by
   rcases l with _ | ⟨x,l⟩
   ·rfl
   ·obtain⟨ad,q,_⟩:=HL.out (by simp [af])
    cases q
  subst e
  go_enter func60,ntmps60
  go_wp2
  go_ret
  exact⟨none,0,0,rfl,World.ownsRow_nil _ _ _ _,Below.refl _ _⟩
 | some ad =>
  have ho:(w.alloc (.cells #[] 5)).ownsRow w.heap.size 5 1 (.slice (some ⟨w.heap.size,0,none⟩) 0 0) 0 []:=World.ownsRow_made w #[] 0 (Nat.le_refl _) (by unfold maxLen;omega) rfl
  have HO:=hid ho
  clear ho
  go_enter func60,ntmps60
  go_wp2_with (at_builtin;refine aO _ rfl _ _ 33 rfl w.heap.size 5 i0 (.int .u8 0) 1 1 underlying33 hi hz0 hz1 hz2 rfl (by decide) _ 0 [] rfl HO.out B _ l.length c (af l) tb rfl (by rw [aT];omega) (HL.out.alloc hB _) (aX _) (by unfold maxLen;omega) (by omega) (by simp) ?_)
  intro v' w1 hown' hgrow _
  obtain⟨A2,k2,rfl⟩:=aL hown'
  have T1:=zJ HO.out hgrow
  have ho2:w1.ownsRow w.heap.size 5 1 (.slice A2 l.length k2) l.length (af l):=by simpa using hown'
  have oH:=hid ho2
  have HT:=hid T1
  clear hown' ho2 T1 hgrow
  go_wp2
  go_ret
  exact⟨A2,_,k2,rfl,oH.out,HT.out⟩
def ReadOk (l:List UInt8) (w:World) (e:Ending) (w':World):Prop :=
 ∃ p,e=.returned (.pointer (some ⟨p,0,none⟩))∧RS 147 w.heap.size 5 w' p (some l)∧Below w.heap.size w w'
theorem ul {A:Option Addr} {n c:Nat} {l:List UInt8} {w:World} {B:Nat} {tb:TypeId} (hL:av w B tb A (af l)) (hB:B≤w.heap.size) (hn:n=l.length) (hs:l.length≤1099511627776) :
  Calls prog 88 #[.slice A n c] w (ReadOk l w):=by
 subst hn
 go_enter func88,ntmps88
 go_wp2_with fail
 refine (sU hL hB rfl hs).mono ?_
 rintro e w' ⟨A2,n2,c2,rfl,ho,hb⟩
 obtain⟨rfl,hc⟩:=aA ho
 have hz:=hb.size
 have hr:RS 147 w.heap.size 5 (w'.alloc (.cells #[.slice A2 l.length c2,.bool false] 147)) w'.heap.size (some l) :=
  ⟨hz,A2,c2,hc,heap_alloc_new w' _,(av.Dp (ho.alloc _))⟩
 have HR:=hid hr
 have HB:=hid (hb.alloc hz (.cells #[.slice A2 l.length c2,.bool false] 147))
 clear hr hb ho
 go_wp2
 go_ret
 exact⟨_,rfl,HR.out,HB.out⟩
theorem Dy {B p:Nat} {tb:TypeId} {w:World} {s:Option (List UInt8)} (h:RS 147 B tb w p s) (ht:tb≠147) (hl:∀ l,s=some l→l.length≤1099511627776) :
  Calls prog 138 #[.pointer (some ⟨p,0,none⟩)] w fun e w'=>e=.returned (.float .f64 (Cd.jg s).1)∧RS 147 B tb w' p (Cd.jg s).2∧aG B [147] w w':=by
 obtain⟨x,s2,hx⟩:∃ x s2,Cd.eZ 8 s=(x,s2):=⟨_,_,rfl⟩
 have xl:x<18446744073709551616:=by have:=Cd.qd 8 s;rw [hx] at this;exact this
 have HX:=hid hx
 have XL:=hid xl
 have HS:=hid h
 have oq:=hid hl
 clear h hl xl
 cases s2 with
 | none =>
  have e1:Cd.jg s=(0,none):=by unfold Cd.jg;simp only [hx]
  rw [e1]
  clear e1 hx
  go_enter func138,ntmps138
  go_wp2_with fail
  refine (bJ HX.out rfl HS.out ht oq.out).mono ?_
  rintro e w' ⟨rfl,hr,hT⟩
  have HR:=hid hr
  have HT:=hid hT
  clear hr hT
  go_wp2_with fail
  refine (of_c _ _ (by omega) (by have:=XL.out;omega)).mono ?_
  rintro e w' ⟨rfl,rfl⟩
  cases hf:Fl.fit (x:Int)
  all_goals
   go_wp2_with (first
    | (go_at_call 121;refine (kQ HR.out).mono ?_;rintro e w' ⟨rfl,rfl⟩)
    | (go_at_call 117;refine (iB HR.out).mono ?_;rintro e w' ⟨rfl,hr3,ht3⟩;have HR3:=hid hr3;have HT3:=hid ht3;clear hr3 ht3))
   go_ret
   exact⟨rfl,HR3.out,HT.out.trans HT3.out⟩
 | some t =>
  cases hf:Fl.fit (x:Int)
  ·have e1:Cd.jg s=(0,none):=by unfold Cd.jg;simp [hx,hf]
   rw [e1]
   clear e1 hx
   go_enter func138,ntmps138
   go_wp2_with fail
   refine (bJ HX.out rfl HS.out ht oq.out).mono ?_
   rintro e w' ⟨rfl,hr,hT⟩
   have HR:=hid hr
   have HT:=hid hT
   clear hr hT
   go_wp2_with fail
   refine (of_c _ _ (by omega) (by have:=XL.out;omega)).mono ?_
   rintro e w' ⟨rfl,rfl⟩
   go_wp2_with (first
    | (go_at_call 121;refine (gN HR.out).mono ?_;rintro e w' ⟨rfl,rfl⟩)
    | (go_at_call 117;refine (iB HR.out).mono ?_;rintro e w' ⟨rfl,hr3,ht3⟩;have HR3:=hid hr3;have HT3:=hid ht3;clear hr3 ht3))
   go_ret
   exact⟨rfl,HR3.out,HT.out.trans HT3.out⟩
  ·have e1:Cd.jg s=(Fl.wd (x:Int),some t):=by unfold Cd.jg;simp [hx,hf]
   rw [e1]
   clear e1 hx
   go_enter func138,ntmps138
   go_wp2_with fail
   refine (bJ HX.out rfl HS.out ht oq.out).mono ?_
   rintro e w' ⟨rfl,hr,hT⟩
   have HR:=hid hr
   have HT:=hid hT
   clear hr hT
   go_wp2_with fail
   refine (of_c _ _ (by omega) (by have:=XL.out;omega)).mono ?_
   rintro e w' ⟨rfl,rfl⟩
   go_wp2_with (go_at_call 121;refine (gN HR.out).mono ?_;rintro e w' ⟨rfl,rfl⟩)
   go_ret
   exact⟨rfl,HR.out,HT.out⟩
theorem DF (most:Nat) (s:Option (List UInt8)):Cd.bQ most s=(tk (Cd.aS most s).1 (Cd.aS most s).2,(Cd.eZ (Cd.aS most s).1 (Cd.aS most s).2).2):=by
 unfold Cd.bQ
 cases h:(Cd.aS most s).2 with
 | none=>rfl
 | some t =>
  simp only [tk,Cd.eZ]
  split <;> rfl
def RBOk (t:TypeId) (B:Nat) (tb:TypeId) (p:Nat) (b:List UInt8) (s:Option (List UInt8)) (w:World) (e:Ending) (w':World):Prop :=
 ∃ A n c,e=.returned (.slice A n c)∧w'.ownsRow w.heap.size 5 1 (.slice A n c) b.length (af b)∧RS t B tb w' p s∧aG B [t] w w'
theorem pY {B p:Nat} {tb:TypeId} {w:World} {s:Option (List UInt8)} {mz:Int} (h:RS 147 B tb w p s) (ht:tb≠147) (hl:∀ l,s=some l→l.length≤1099511627776) (m0:0≤mz) (m1:mz≤1099511627776) :
  Calls prog 91 #[.pointer (some ⟨p,0,none⟩),.int .i64 mz] w (RBOk 147 B tb p (Cd.bQ mz.toNat s).1 (Cd.bQ mz.toNat s).2 w):=by
 obtain⟨x,s2,hx⟩:∃ x s2,Cd.aS mz.toNat s=(x,s2):=⟨_,_,rfl⟩
 have xl:x≤1099511627776:=by have:=(Cd.b_ mz.toNat s).2;rw [hx] at this;simp only [] at this;omega
 have l2:∀ l,s2=some l→l.length≤1099511627776:=by
  intro l e
  subst e
  cases s with
  | none=>simp [Cd.aS] at hx
  | some l0 =>
   have q:=(Cd.iJ hx).1
   have:=hl l0 rfl
   rw [q,List.length_append] at this
   omega
 have tl:(tk x s2).length≤1099511627776:=by
  cases s2 with
  | none=>simp [tk]
  | some l=>have:=l2 l rfl;unfold tk;simp only [];split <;> simp;omega
 have e1:=DF mz.toNat s
 rw [hx] at e1
 rw [e1]
 have HX:=hid hx
 have HS:=hid h
 have oq:=hid hl
 have HL2:=hid l2
 have hB:=h.size
 clear h hl hx e1 l2
 go_enter func91,ntmps91
 go_wp2_with fail
 have q:=eG (mz:=mz) HS.out ht oq.out m0
 rw [HX.out] at q
 refine q.mono ?_
 clear q
 rintro e w' ⟨rfl,hr,hT⟩
 have HR:=hid hr
 have HT:=hid hT
 clear hr hT
 go_wp2_with fail
 refine (D6 rfl HR.out ht HL2.out).mono ?_
 rintro e w1 ⟨A,c,rfl,hc,hL,hR,hT⟩
 have HL:=hid hL
 have HR2:=hid hR
 have HT2:=hid (HT.out.trans hT)
 have hz2:=HT2.out.size
 clear hL hR hT
 go_wp2_with fail
 refine (sU HL.out (by omega) rfl tl).mono ?_
 rintro e w2 ⟨A2,n2,c2,rfl,ho,hb⟩
 have HO:=hid (gp ho hz2)
 have HR3:=hid (HR2.out.below hb)
 have HT3:=hid (HT2.out.trans (aG.of_below hb (by omega) [147]))
 clear ho hb
 go_wp2
 go_ret
 exact⟨A2,n2,c2,rfl,HO.out,HR3.out,HT3.out⟩
theorem rdW_one (s:Option (List UInt8)) (h:s=none∨s=some []):Cd.eZ 1 s=(0,none):=by
 rcases h with rfl | rfl
 ·rfl
 ·simp [Cd.eZ]
theorem rG_rd {B p:Nat} {tb:TypeId} {w:World} {s:Option (List UInt8)} (h:RS 147 B tb w p s) (ht:tb≠147) (hl:∀ l,s=some l→l.length≤1099511627776) :
  Calls prog 139 #[.pointer (some ⟨p,0,none⟩)] w fun e w'=>e=.returned (.bool (Cd.kz s).1)∧RS 147 B tb w' p (Cd.kz s).2∧aG B [147] w w':=by
 have HS:=hid h
 have oq:=hid hl
 clear h hl
 have none_:∀ (e0:Cd.eZ 1 s=(0,none)) (e1:Cd.kz s=(false,none)),
   Calls prog 139 #[.pointer (some ⟨p,0,none⟩)] w fun e w'=>e=.returned (.bool (Cd.kz s).1)∧RS 147 B tb w' p (Cd.kz s).2∧aG B [147] w w':=by
  intro e0 e1
  rw [e1]
  have E0:=hid e0
  clear e0 e1
  go_enter func139,ntmps139
  go_wp2_with fail
  refine (bJ E0.out rfl HS.out ht oq.out).mono ?_
  rintro e w' ⟨rfl,hr,hT⟩
  have HR:=hid hr
  have HT:=hid hT
  clear hr hT
  go_wp2
  go_ret
  exact⟨rfl,HR.out,HT.out⟩
 match s,HS,oq,none_ with
 | none,HS,oq,none_=>exact none_ rfl rfl
 | some [],HS,oq,none_=>exact none_ (rdW_one _ (.inr rfl)) rfl
 | some (b :: t),HS,oq,none_ =>
  clear none_
  have E0:=hid (qc b t)
  by_cases h1:b.toNat≤1
  ·have e1:Cd.kz (some (b :: t))=(b.toNat==1,some t):=by simp [Cd.kz,h1]
   rw [e1]
   clear e1
   have n1:((b.toNat:Int)==1)=(b.toNat==1):=by rw [Bool.eq_iff_iff];simp;omega
   go_enter func139,ntmps139
   go_wp2_with fail
   refine (bJ E0.out rfl HS.out ht oq.out).mono ?_
   rintro e w' ⟨rfl,hr,hT⟩
   have HR:=hid hr
   have HT:=hid hT
   clear hr hT
   go_wp2
   go_ret
   exact⟨rfl,HR.out,HT.out⟩
  ·have e1:Cd.kz (some (b :: t))=(false,none):=by simp [Cd.kz,h1]
   rw [e1]
   clear e1
   have n1:((b.toNat:Int)==1)=false:=by simp;omega
   go_enter func139,ntmps139
   go_wp2_with fail
   refine (bJ E0.out rfl HS.out ht oq.out).mono ?_
   rintro e w' ⟨rfl,hr,hT⟩
   have HR:=hid hr
   have HT:=hid hT
   clear hr hT
   go_wp2_with (go_at_call 117;refine (iB HR.out).mono ?_;rintro e w' ⟨rfl,hr3,ht3⟩;have HR3:=hid hr3;have HT3:=hid ht3;clear hr3 ht3)
   go_ret
   exact⟨rfl,HR3.out,HT.out.trans HT3.out⟩
def leftOf:Option (List UInt8)→Nat
 | none=>0
 | some l=>l.length
theorem yR {B p:Nat} {tb:TypeId} {w:World} {s:Option (List UInt8)} (h:RS 147 B tb w p s) :
  Calls prog 122 #[.pointer (some ⟨p,0,none⟩)] w fun e w'=>e=.returned (.int .i64 (leftOf s:Int))∧w=w':=by
 cases s with
 | none =>
  have c1:=dS h.2
  clear h
  go_enter func122,ntmps122
  go_wp2
  go_ret
  exact⟨rfl,rfl⟩
 | some l =>
  obtain⟨_,A,c,_,hp,_⟩:=h
  have c1:=dS hp
  clear hp
  go_enter func122,ntmps122
  go_wp2
  go_ret
  exact⟨rfl,rfl⟩
def dK:Option (List UInt8)→Int
 | some []=>0
 | _=>20
theorem sW {B p:Nat} {tb:TypeId} {w:World} {s:Option (List UInt8)} (h:RS 147 B tb w p s) :
  Calls prog 93 #[.pointer (some ⟨p,0,none⟩)] w fun e w'=>e=.returned (.int .i64 (dK s))∧w=w':=by
 have HS:=hid h
 clear h
 match s,HS with
 | none,HS =>
  go_enter func93,ntmps93
  go_wp2_with (go_at_call 121;refine (kQ HS.out).mono ?_;rintro e w' ⟨rfl,rfl⟩)
  go_ret
  exact⟨rfl,rfl⟩
 | some [],HS =>
  go_enter func93,ntmps93
  go_wp2_with (first
   | (go_at_call 121;refine (gN HS.out).mono ?_;rintro e w' ⟨rfl,rfl⟩)
   | (go_at_call 122;refine (yR HS.out).mono ?_;rintro e w' ⟨rfl,rfl⟩))
  go_ret
  exact⟨rfl,rfl⟩
 | some (b :: t),HS =>
  have lf:0<leftOf (some (b :: t)):=by simp [leftOf]
  go_enter func93,ntmps93
  go_wp2_with (first
   | (go_at_call 121;refine (gN HS.out).mono ?_;rintro e w' ⟨rfl,rfl⟩)
   | (go_at_call 122;refine (yR HS.out).mono ?_;rintro e w' ⟨rfl,rfl⟩))
  go_ret
  exact⟨rfl,rfl⟩
end
end
end Go.Proofs.YtmcfknnfaokmlaaGreat
