import Derived.Test.YtmcfknnfaokmlaaGreatZ36
import Derived.Test.YtmcfknnfaokmlaaGreatZ34
import Derived.Test.YtmcfknnfaokmlaaGreatZ12
namespace Go.Proofs.YtmcfknnfaokmlaaGreat
set_option maxHeartbeats 16000000
open Go.Lib Go.Proofs.Tryz
set_option linter.unusedSimpArgs false
set_option maxRecDepth 100000
section
section
open Go.RowKit Go.Lib
def It.val (x:It):Value:=.agg #[.int .u64 (x.who:Int),.int .u64 (x.id:Int),.int .i64 x.m.kind,.int .u64 (x.m.id:Int),.int .u64 (x.m.list:Int),.string (str x.m.text),.float .f64 x.m.f,.bool x.m.flag]
theorem qB {x:It} {w:World}:Calls prog 104 #[x.val] w fun e w'=>e=.returned (.bool (!(x.who==0) && !(x.id==0)))∧Below w.heap.size w w':=by
 obtain⟨xw,xi,⟨mk,mi,ml,mt,mf,mg⟩⟩:=x
 unfold It.val
 dsimp only
 obtain⟨w1,hw1⟩:∃ u,w.alloc (.cells #[.int .u64 (xw:Int),.int .u64 (xi:Int),.int .i64 mk,.int .u64 (mi:Int),.int .u64 (ml:Int),.string (str mt),.float .f64 mf,.bool mg] 57)=u:=⟨_,rfl⟩
 obtain⟨lb,b1,_⟩:=bi hw1
 have B1:=hid b1
 obtain⟨l0,l1,l2,l3,l4,l5,l6,l7⟩:=ay lb
 clear lb b1
 by_cases h1:xw=0
 ·have e1:(xw==0)=true:=by simp [h1]
  have e2:((xw:Int) != 0)=false:=by simp [h1]
  clear h1
  go_enter func104,ntmps104
  go_wp2
  go_ret
  exact⟨aj (by simp [e1]),B1.out⟩
 have e1:(xw==0)=false:=by simp [h1]
 have e2:((xw:Int) != 0)=true:=by simp [h1]
 by_cases h2:xi=0
 ·have e3:(xi==0)=true:=by simp [h2]
  have e4:((xi:Int) != 0)=false:=by simp [h2]
  clear h2
  go_enter func104,ntmps104
  go_wp2
  go_ret
  exact⟨aj (by simp [e3]),B1.out⟩
 have e3:(xi==0)=false:=by simp [h2]
 have e4:((xi:Int) != 0)=true:=by simp [h2]
 go_enter func104,ntmps104
 go_wp2
 go_ret
 exact⟨aj (by simp [e1,e3]),B1.out⟩
theorem wD {x:It} {w:World} (ht:x.m.text.length≤200):Calls prog 71 #[x.val] w fun e w'=>e=.returned (.bool (T9.lu x))∧Below w.heap.size w w':=by
 obtain⟨w1,hw1⟩:∃ u,w.alloc (.cells #[.int .u64 (x.who:Int),.int .u64 (x.id:Int),.int .i64 x.m.kind,.int .u64 (x.m.id:Int),.int .u64 (x.m.list:Int),.string (str x.m.text),.float .f64 x.m.f,.bool x.m.flag] 57)=u:=⟨_,rfl⟩
 obtain⟨lb,b1,_⟩:=bi hw1
 have B1:=hid b1
 have LB:=hid lb
 obtain⟨l0,l1,l2,l3,l4,l5,l6,l7⟩:=ay lb
 have SO:=hid (qB (x:=x) (w:=w1))
 have HT:=hid ht
 obtain⟨ok,hok⟩:∃ b,T9.lu x=b:=⟨_,rfl⟩
 rw [hok]
 unfold T9.lu at hok
 obtain⟨so,hso⟩:∃ b,(!(x.who==0) && !(x.id==0))=b:=⟨_,rfl⟩
 rw [hso] at hok SO
 unfold It.val at SO ⊢
 clear lb b1 ht hso
 cases so
 ·simp only [Bool.false_and] at hok
  subst hok
  go_enter func71,ntmps71
  go_wp2_with (go_at_call 104;refine SO.out.mono ?_;rintro e w2 ⟨rfl,h2⟩;have H2:=hid h2;clear h2)
  go_ret
  exact⟨rfl,B1.out.trans (H2.out.mono B1.out.size)⟩
 simp only [Bool.true_and] at hok
 obtain⟨ce,hce⟩:∃ v,T9.aU x.m=v:=⟨_,rfl⟩
 rw [hce] at hok
 have HCE:=hid hce
 clear hce
 have HOK:=hid hok
 clear hok
 go_enter func71,ntmps71
 go_wp2_with (first | (go_at_call 104;refine SO.out.mono ?_;rintro e w2 ⟨rfl,h2⟩;obtain⟨l0,l1,l2,l3,l4,l5,l6,l7⟩:=ay (ah LB.out h2);have B2:=hid (B1.out.trans (h2.mono B1.out.size));have CK:=hid (pO (m:=x.m) (w:=w2) HT.out);rw [HCE.out] at CK;unfold T9.Mu.val at CK;clear h2) | (go_at_call 105;refine CK.out.mono ?_;rintro e w3 ⟨rfl,h3⟩;have B3:=hid (B2.out.trans (h3.mono B2.out.size));clear h3))
 go_ret
 exact⟨aj (by rw [← HOK.out];by_cases q:ce=0 <;> simp [q]),B3.out⟩
theorem qm {x:It} {w:World} (ht:x.m.text.length≤200):Calls prog 70 #[x.val] w fun e w'=>e=.returned (.bool (!T9.lu x))∧Below w.heap.size w w':=by
 obtain⟨w1,hw1⟩:∃ u,w.alloc (.cells #[.int .u64 (x.who:Int),.int .u64 (x.id:Int),.int .i64 x.m.kind,.int .u64 (x.m.id:Int),.int .u64 (x.m.list:Int),.string (str x.m.text),.float .f64 x.m.f,.bool x.m.flag] 57)=u:=⟨_,rfl⟩
 obtain⟨lb,b1,_⟩:=bi hw1
 have B1:=hid b1
 obtain⟨l0,l1,l2,l3,l4,l5,l6,l7⟩:=ay lb
 have SO:=hid (wD (x:=x) (w:=w1) ht)
 obtain⟨ok,hok⟩:∃ b,T9.lu x=b:=⟨_,rfl⟩
 rw [hok] at SO ⊢
 unfold It.val at SO ⊢
 clear lb b1 ht hok
 go_enter func70,ntmps70
 go_wp2_with (go_at_call 71;refine SO.out.mono ?_;rintro e w2 ⟨rfl,h2⟩;have H2:=hid h2;clear h2)
 go_ret
 exact⟨rfl,B1.out.trans (H2.out.mono B1.out.size)⟩
def IdxOk (xs:List It) (w:World) (e:Ending) (w':World):Prop:=∃ z:Int,e=.returned (.int .i64 z)∧decide (0≤z)=!xs.all T9.lu∧Below w.heap.size w w'
theorem vC {A:Option Addr} {n c:Nat} {xs:List It} {w:World} (h:IL w A xs) (hn:n=xs.length) (hs:n≤1000000) (ht:∀ x∈xs,x.m.text.length≤200) :
  Calls prog 103 #[.slice A n c,.func (.func 70) #[] #[]] w (IdxOk xs w):=by
 have H:=hid h
 have HN:=hid hn
 have HT:=hid ht
 clear h hn ht
 go_enter func103,ntmps103
 go_wp2_with fail
 go_loopw [8] (fun s8 wr=>∃ i:Nat,s8=.int .i64 i∧i≤n∧Hid ((xs.take i).all T9.lu=true)∧Aside (Below w.heap.size w wr)) (fun s8 _=>n - (intOf s8).toNat)
 case atStart=>exact⟨0,rfl,Nat.zero_le _,hid (by simp),Below.refl _ _⟩
 case round =>
  obtain⟨i,rfl,hi,HU,hB⟩:=hrel
  have BR:=hid hB.out
  clear hB
  by_cases hlt:i<n
  ·have hltz:(i:Int)<(n:Int):=by omega
   obtain⟨ad,x,hA,hx,r0,r1,r2,r3,r4,r5,r6,r7⟩:=(H.out.stay BR.out).at_ (k:=i) (by have:=HN.out;omega)
   subst hA
   have X:=hid hx
   have PC:=hid (qm (x:=x) (w:=wr) (HT.out x (List.mem_of_getElem? hx)))
   unfold It.val at PC
   clear hx
   cases he:T9.lu x
   ·have F:Hid (xs.all T9.lu=false):=hid (by
     rw [List.all_eq_false]
     exact⟨x,List.mem_of_getElem? X.out,by simp [he]⟩)
    rw [he] at PC
    clear he
    go_wp2_with fail
    refine PC.out.mono ?_
    rintro e w2 ⟨rfl,h2⟩
    have H2:=hid h2
    clear h2
    go_wp2
    go_ret
    exact⟨(i:Int),rfl,by rw [F.out];simp,BR.out.trans (H2.out.mono BR.out.size)⟩
   ·have F:Hid ((xs.take (i+1)).all T9.lu=true):=hid (by
     rw [aF X.out,List.all_append,HU.out]
     simp [he])
    rw [he] at PC
    clear he
    go_wp2_with fail
    refine PC.out.mono ?_
    rintro e w2 ⟨rfl,h2⟩
    have H2:=hid (BR.out.trans (h2.mono BR.out.size))
    clear h2
    go_wp2
    go_roundw
    case rel=>exact⟨i+1,by go_num,by omega,F,H2.out⟩
    case measure=>simp [intOf];omega
  ·obtain rfl:i=n:=by omega
   have hltz:¬ ((i:Int)<(i:Int)):=by omega
   go_wp2
   go_ret
   exact⟨-1,rfl,by have:=HU.out;rw [HN.out,List.take_length] at this;rw [this];rfl,BR.out⟩
theorem o6 {A:Option Addr} {n c:Nat} {xs:List It} {w:World} (h:IL w A xs) (hn:n=xs.length) (hs:n≤1000000) (ht:∀ x∈xs,x.m.text.length≤200) :
  Calls prog 69 #[.slice A n c,.func (.func 70) #[] #[]] w fun e w'=>e=.returned (.bool (!xs.all T9.lu))∧Below w.heap.size w w':=by
 have IX:=hid (vC (c:=c) h hn hs ht)
 clear h hn hs ht
 go_enter func69,ntmps69
 go_wp2_with (go_at_call 103;refine IX.out.mono ?_;rintro e w2 ⟨z,rfl,hz,h2⟩;have H2:=hid h2;have HZ:=hid hz;clear h2 hz)
 go_ret
 exact⟨aj (by rw [← HZ.out]),H2.out⟩
theorem uy {A:Option Addr} {n c:Nat} {xs:List It} {w:World} (h:IL w A xs) (hn:n=xs.length) (ht:∀ x∈xs,x.m.text.length≤200) :
  Calls prog 30 #[.slice A n c] w fun e w'=>e=.returned (.bool (T9.eQ xs))∧Below w.heap.size w w':=by
 have V:Hid (T9.eQ xs=(decide (n≤8) && xs.all T9.lu)):=hid (by unfold T9.eQ;rw [hn])
 rw [V.out]
 obtain⟨al,hal⟩:∃ b,xs.all T9.lu=b:=⟨_,rfl⟩
 by_cases h8:n≤8
 ·have IX:=hid (o6 (c:=c) h hn (by omega) ht)
  rw [hal] at IX ⊢
  have hz:(n:Int)≤8:=by omega
  rw [decide_eq_true h8]
  clear h hn ht hal
  go_enter func30,ntmps30
  go_wp2_with (go_at_call 69;refine IX.out.mono ?_;rintro e w2 ⟨rfl,h2⟩;have H2:=hid h2;clear h2)
  go_ret
  exact⟨aj (by simp),H2.out⟩
 ·have hz:¬ ((n:Int)≤8):=by omega
  have hz2:decide (n≤8)=false:=by simp [h8]
  rw [hz2]
  clear h hn ht hal
  go_enter func30,ntmps30
  go_wp2
  go_ret
  exact⟨aj (by simp),Below.refl _ _⟩
theorem uz {A:Option Addr} {n c:Nat} {xs:List La} {w:World} (h:AL w A xs) (hn:n=xs.length) (hs:n≤maxLen) :
  Calls prog 31 #[.slice A n c] w fun e w'=>e=.returned (.bool (T9.dX xs))∧Below w.heap.size w w':=by
 have hs:n≤9223372036854775807:=by unfold maxLen at hs;omega
 have H:=hid h
 have HN:=hid hn
 by_cases h2k:2000<n
 ·have V:Hid (T9.dX xs=false):=hid (by unfold T9.dX;rw [decide_eq_false (by omega)];rfl)
  have hz:(2000:Int)<(n:Int):=by omega
  rw [V.out]
  clear h hn
  go_enter func31,ntmps31
  go_wp2
  go_ret
  exact⟨rfl,Below.refl _ _⟩
 have V:Hid (T9.dX xs=T9.bT 0 xs):=hid (by unfold T9.dX;rw [decide_eq_true (by omega)];rfl)
 have hz:¬ ((2000:Int)<(n:Int)):=by omega
 rw [V.out]
 clear h hn
 go_enter func31,ntmps31
 go_wp2_with fail
 go_loopw [3,11] (fun s3 s11 wr=>∃ i:Nat,s11=.int .i64 i∧i≤n∧s3=.int .u64 (T9.gB 0 (xs.take i):Int)∧Hid (T9.bT 0 (xs.take i)=true)∧Aside (Below w.heap.size w wr)) (fun _ s11 _=>n - (intOf s11).toNat)
 case atStart=>exact⟨0,rfl,Nat.zero_le _,rfl,hid rfl,Below.refl _ _⟩
 case round =>
  obtain⟨i,rfl,hi,rfl,HU,hB⟩:=hrel
  have BR:=hid hB.out
  clear hB
  by_cases hlt:i<n
  ·have hltz:(i:Int)<(n:Int):=by omega
   obtain⟨ad,x,hA,hx,r0,r1⟩:=(H.out.stay BR.out).at_ (k:=i) (by have:=HN.out;omega)
   subst hA
   obtain⟨xw,xi⟩:=x
   dsimp only at r0 r1
   have X:=hid hx
   obtain⟨wa,hwa⟩:∃ u,wr.alloc (.cells #[.int .u64 (xw:Int),.int .u64 (xi:Int)] 61)=u:=⟨_,rfl⟩
   obtain⟨lb,ba,_⟩:=aM hwa
   have BA:Hid (Below w.heap.size w wa):=hid (BR.out.trans (ba.mono BR.out.size))
   obtain⟨l0,l1⟩:=ai lb
   have SN:Hid (T9.bT 0 (xs.take (i+1))=(decide (T9.gB 0 (xs.take i)<xw) && decide (0<xi))):=hid (by rw [aF hx,T9.jH,HU.out,Bool.true_and])
   have LN:Hid (T9.gB 0 (xs.take (i+1))=xw):=hid (by rw [aF hx,T9.jy])
   have NO:T9.bT 0 (xs.take (i+1))=false→Hid (T9.bT 0 xs=false):=fun q=>hid (T9.qp q)
   obtain⟨a0,ha0⟩:∃ v,T9.gB 0 (xs.take i)=v:=⟨_,rfl⟩
   rw [ha0] at SN ⊢
   clear hx lb ba ha0
   by_cases h1:xw≤a0
   ·have F:=NO (by rw [SN.out,decide_eq_false (by omega)];rfl)
    have hz1:(xw:Int)≤(a0:Int):=by omega
    clear NO
    go_wp2
    go_ret
    exact⟨aj F.out.symm,BA.out⟩
   have hz1:¬ ((xw:Int)≤(a0:Int)):=by omega
   by_cases h2:xi=0
   ·have F:=NO (by rw [SN.out,h2];simp)
    have e3:(xi==0)=true:=by simp [h2]
    have e4:((xi:Int)==0)=true:=by simp [h2]
    clear NO h2
    go_wp2
    go_ret
    exact⟨aj F.out.symm,BA.out⟩
   have e3:(xi==0)=false:=by simp [h2]
   have e4:((xi:Int)==0)=false:=by simp [h2]
   have F:Hid (T9.bT 0 (xs.take (i+1))=true):=hid (by rw [SN.out,decide_eq_true (by omega),decide_eq_true (by omega)];rfl)
   clear NO
   go_wp2
   go_roundw
   case rel=>exact⟨i+1,by go_num,by omega,by rw [LN.out],F,BA.out⟩
   case measure=>simp [intOf];omega
  ·obtain rfl:i=n:=by omega
   have hltz:¬ ((i:Int)<(i:Int)):=by omega
   go_wp2
   go_ret
   exact⟨aj (by have:=HU.out;rw [HN.out,List.take_length] at this;exact this.symm),BR.out⟩
end
end
end Go.Proofs.YtmcfknnfaokmlaaGreat
