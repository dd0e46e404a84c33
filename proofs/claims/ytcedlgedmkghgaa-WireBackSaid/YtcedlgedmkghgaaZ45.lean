import Derived.Test.YtcedlgedmkghgaaZ24
import Derived.Test.YtcedlgedmkghgaaZ25
namespace Go.Proofs.Ytcedlgedmkghgaa
set_option maxHeartbeats 16000000
open Go.Lib
set_option linter.unusedSimpArgs false
set_option maxRecDepth 100000
section
open Go.RowKit Go.Lib
theorem uw {m:T9.Mu} {w:World}:Calls Try.prog 24 #[m.val] w fun e w'=>e=.returned (.bool (decide (m.text.length≤200)))∧Below w.heap.size w w':=by
 unfold T9.Mu.val
 obtain⟨w1,hw1⟩:∃ u,w.alloc (.cells #[.int .i64 m.kind,.int .u64 (m.id:Int),.int .u64 (m.list:Int),.string (str m.text),.float .f64 m.f,.bool m.flag] 49)=u:=⟨_,rfl⟩
 obtain⟨pb,b1,z1⟩:=bu hw1
 obtain⟨p0,p1,p2,p3,p4,p5⟩:=au pb
 have B1:=hid b1
 have sz:(str m.text).size=m.text.length:=rfl
 clear pb b1 z1
 by_cases h:m.text.length≤200
 ·have hz:((str m.text).size:Int)≤200:=by rw [sz];omega
  have e:=hid (decide_eq_true h)
  clear h sz
  go_enter Try.func24,Try.ntmps24
  go_wp2
  go_ret
  exact⟨ag (by rw [e.out]),B1.out⟩
 ·have hz:¬ (((str m.text).size:Int)≤200):=by rw [sz];omega
  have e:=hid (decide_eq_false h)
  clear h sz
  go_enter Try.func24,Try.ntmps24
  go_wp2
  go_ret
  exact⟨ag (by rw [e.out]),B1.out⟩
end
section
set_option linter.unusedSimpArgs false
section
open Go.RowKit Go.Lib Go.Shelf
def FewOk (n:Nat) (xs:List It) (w:World) (e:Ending) (w':World):Prop:=∃ b,e=.returned (.bool b)∧(b=true→n≤30∧∀ x∈xs,x.m.text.length≤200)∧Below w.heap.size w w'
theorem few14_c {A:Option Addr} {n c:Nat} {xs:List It} {w:World} (h:IL w A xs) (hn:n=xs.length) (hs:n≤maxLen) :
  Calls Try.prog 9 #[.slice A n c] w (FewOk n xs w):=by
 have H:=hid h
 have HN:=hid hn
 have hs:n≤9223372036854775807:=by unfold maxLen at hs;omega
 clear h hn
 go_enter Try.func9,Try.ntmps9
 go_wp2
 go_loopw [7] (fun s7 wr=>∃ i:Nat,s7=.int .i64 i∧i≤n∧Hid (∀ x∈xs.take i,x.m.text.length≤200)∧Hid (Below w.heap.size w wr)) (fun s7 _=>n - (intOf s7).toNat)
 case atStart=>exact⟨0,rfl,Nat.zero_le _,hid (by simp),hid (Below.refl _ _)⟩
 case round =>
  obtain⟨i,rfl,hi,HU,BR⟩:=hrel
  by_cases hlt:i<n
  ·have hltz:(i:Int)<(n:Int):=by omega
   obtain⟨ad,x,hA,hx,r0,r1,r2,r3,r4,r5,r6,r7⟩:=(H.out.stay BR.out).at_ (k:=i) (by rw [← HN.out];exact hlt)
   obtain⟨xw,xi,⟨mk,mi,ml,mt,mf,mg⟩⟩:=x
   dsimp only at r0 r1 r2 r3 r4 r5 r6 r7
   subst hA
   have X:=hid hx
   obtain⟨wa,hwa⟩:∃ u,wr.alloc (.cells #[.int .u64 (xw:Int),.int .u64 (xi:Int),.int .i64 mk,.int .u64 (mi:Int),.int .u64 (ml:Int),.string (str mt),.float .f64 mf,.bool mg] 51)=u:=⟨_,rfl⟩
   obtain⟨lb,ba,_⟩:=bR hwa
   have BA:Hid (Below w.heap.size w wa):=hid (BR.out.trans (ba.mono BR.out.size))
   obtain⟨l0,l1,l2,l3,l4,l5,l6,l7⟩:=aA lb
   have LI:=hid (uw (m:=⟨mk,mi,ml,mt,mf,mg⟩) (w:=wa))
   unfold T9.Mu.val at LI
   clear hx lb ba
   by_cases hl:mt.length≤200
   ·rw [decide_eq_true hl] at LI
    have U:Hid (∀ y∈xs.take (i+1),y.m.text.length≤200):=hid fun y hy=>by
     rw [aG X.out] at hy
     rcases List.mem_append.1 hy with q | q
     ·exact HU.out y q
     ·rw [List.mem_singleton] at q
      subst q
      exact hl
    clear hl
    go_wp2_with fail
    refine LI.out.mono ?_
    rintro e wb ⟨rfl,hb⟩
    have BB:Hid (Below w.heap.size w wb):=hid (BA.out.trans (hb.mono BA.out.size))
    clear hb
    go_wp2_with fail
    go_roundw
    case rel=>exact⟨i+1,by go_num,by omega,U,BB⟩
    case measure=>simp [intOf];omega
   ·rw [decide_eq_false hl] at LI
    clear hl
    go_wp2_with fail
    refine LI.out.mono ?_
    rintro e wb ⟨rfl,hb⟩
    go_wp2_with fail
    go_ret
    exact⟨false,rfl,by simp,BA.out.trans (hb.mono BA.out.size)⟩
  ·obtain rfl:i=n:=by omega
   have hltz:¬ ((i:Int)<(i:Int)):=by omega
   by_cases h8:i≤30
   ·have hz:(i:Int)≤30:=by omega
    go_wp2
    go_ret
    exact⟨true,ag (by simp),fun _=>⟨h8,by have:=HU.out;rwa [HN.out,List.take_length] at this⟩,BR.out⟩
   ·have hz:¬ ((i:Int)≤30):=by omega
    go_wp2
    go_ret
    exact⟨false,ag (by simp),by simp,BR.out⟩
end
end
end Go.Proofs.Ytcedlgedmkghgaa
