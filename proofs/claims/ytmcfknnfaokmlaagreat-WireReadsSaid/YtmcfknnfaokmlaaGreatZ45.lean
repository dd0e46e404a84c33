import Derived.Test.YtmcfknnfaokmlaaGreatZ23
import Derived.Test.YtmcfknnfaokmlaaGreatZ40
import Derived.Test.YtmcfknnfaokmlaaGreatZ44
namespace Go.Proofs.YtmcfknnfaokmlaaGreat
set_option maxHeartbeats 16000000
open Go.Lib Go.Proofs.Tryz
set_option linter.unusedSimpArgs false
set_option maxRecDepth 100000
section
open Go.RowKit Go.Lib
theorem zZ {m:T9.Mu} {w:World}:Calls prog 51 #[m.val] w fun e w'=>e=.returned (.bool (decide (m.text.length≤200)))∧Below w.heap.size w w':=by
 unfold T9.Mu.val
 obtain⟨w1,hw1⟩:∃ u,w.alloc (.cells #[.int .i64 m.kind,.int .u64 (m.id:Int),.int .u64 (m.list:Int),.string (str m.text),.float .f64 m.f,.bool m.flag] 55)=u:=⟨_,rfl⟩
 obtain⟨pb,b1,z1⟩:=a_ hw1
 obtain⟨p0,p1,p2,p3,p4,p5⟩:=au pb
 have B1:=hid b1
 have sz:(str m.text).size=m.text.length:=rfl
 clear pb b1 z1
 by_cases h:m.text.length≤200
 ·have hz:((str m.text).size:Int)≤200:=by rw [sz];omega
  have e:=hid (decide_eq_true h)
  clear h sz
  go_enter func51,ntmps51
  go_wp2
  go_ret
  exact⟨aj (by rw [e.out]),B1.out⟩
 ·have hz:¬ (((str m.text).size:Int)≤200):=by rw [sz];omega
  have e:=hid (decide_eq_false h)
  clear h sz
  go_enter func51,ntmps51
  go_wp2
  go_ret
  exact⟨aj (by rw [e.out]),B1.out⟩
end
section
set_option linter.unusedSimpArgs false
section
open Go.RowKit Go.Lib Go.Shelf
def FewOk (n:Nat) (xs:List It) (w:World) (e:Ending) (w':World):Prop:=∃ b,e=.returned (.bool b)∧(b=true→n≤30∧∀ x∈xs,x.m.text.length≤200)∧Below w.heap.size w w'
theorem few14_c {A:Option Addr} {n c:Nat} {xs:List It} {w:World} (h:IL w A xs) (hn:n=xs.length) (hs:n≤maxLen) :
  Calls prog 15 #[.slice A n c] w (FewOk n xs w):=by
 have H:=hid h
 have HN:=hid hn
 have hs:n≤9223372036854775807:=by unfold maxLen at hs;omega
 clear h hn
 go_enter func15,ntmps15
 go_wp2
 go_loopw [7] (fun s7 wr=>∃ i:Nat,s7=.int .i64 i∧i≤n∧Hid (∀ x∈xs.take i,x.m.text.length≤200)∧Hid (Below w.heap.size w wr)) (fun s7 _=>n - (intOf s7).toNat)
 case atStart=>exact⟨0,rfl,Nat.zero_le _,hid (by simp),hid (Below.refl _ _)⟩
 case round =>
  obtain⟨i,rfl,hi,HU,BR⟩:=hrel
  by_cases hlt:i<n
  ·have hltz:(i:Int)<(n:Int):=by omega
   obtain⟨ad,x,hA,hx,r0,r1,r2,r3,r4,r5,r6,r7⟩:=(H.out.stay BR.out).at_ (k:=i) (by rw [← HN.out];exact hlt)
   obtain⟨xw,xi,⟨mk,mi,ml,mt,mf,mg⟩⟩:=x
   dsimp only at r0 r1 r2 r3 r4 r5 r6 r7
   subst hA
   have X:=hid hx
   obtain⟨wa,hwa⟩:∃ u,wr.alloc (.cells #[.int .u64 (xw:Int),.int .u64 (xi:Int),.int .i64 mk,.int .u64 (mi:Int),.int .u64 (ml:Int),.string (str mt),.float .f64 mf,.bool mg] 57)=u:=⟨_,rfl⟩
   obtain⟨lb,ba,_⟩:=bi hwa
   have BA:Hid (Below w.heap.size w wa):=hid (BR.out.trans (ba.mono BR.out.size))
   obtain⟨l0,l1,l2,l3,l4,l5,l6,l7⟩:=ay lb
   have LI:=hid (zZ (m:=⟨mk,mi,ml,mt,mf,mg⟩) (w:=wa))
   unfold T9.Mu.val at LI
   clear hx lb ba
   by_cases hl:mt.length≤200
   ·rw [decide_eq_true hl] at LI
    have U:Hid (∀ y∈xs.take (i+1),y.m.text.length≤200):=hid fun y hy=>by
     rw [aF X.out] at hy
     rcases List.mem_append.1 hy with q | q
     ·exact HU.out y q
     ·rw [List.mem_singleton] at q
      subst q
      exact hl
    clear hl
    go_wp2_with fail
    refine LI.out.mono ?_
    rintro e wb ⟨rfl,hb⟩
    have BB:Hid (Below w.heap.size w wb):=hid (BA.out.trans (hb.mono BA.out.size))
    clear hb
    go_wp2_with fail
    go_roundw
    case rel=>exact⟨i+1,by go_num,by omega,U,BB⟩
    case measure=>simp [intOf];omega
   ·rw [decide_eq_false hl] at LI
    clear hl
    go_wp2_with fail
    refine LI.out.mono ?_
    rintro e wb ⟨rfl,hb⟩
    go_wp2_with fail
    go_ret
    exact⟨false,rfl,by simp,BA.out.trans (hb.mono BA.out.size)⟩
  ·obtain rfl:i=n:=by omega
   have hltz:¬ ((i:Int)<(i:Int)):=by omega
   by_cases h8:i≤30
   ·have hz:(i:Int)≤30:=by omega
    go_wp2
    go_ret
    exact⟨true,aj (by simp),fun _=>⟨h8,by have:=HU.out;rwa [HN.out,List.take_length] at this⟩,BR.out⟩
   ·have hz:¬ ((i:Int)≤30):=by omega
    go_wp2
    go_ret
    exact⟨false,aj (by simp),by simp,BR.out⟩
end
end
section
section
open Go.RowKit Go.Lib
theorem xz (w:World):(Instr.build 30 #[(0,.int .i64 1),(1,.int .u64 1)]).run prog w=.ok (.agg #[.int .i64 1,.int .u64 1,.int .u64 0,.int .u64 0,.int .u64 0,.slice none 0 0,.slice none 0 0,.slice none 0 0,.slice none 0 0]) w:=run_build w 30 _ _ (by kernel_rfl)
theorem xA (w:World):(Instr.build 30 #[(0,.int .i64 1),(1,.int .u64 1),(2,.int .u64 2)]).run prog w=.ok (.agg #[.int .i64 1,.int .u64 1,.int .u64 2,.int .u64 0,.int .u64 0,.slice none 0 0,.slice none 0 0,.slice none 0 0,.slice none 0 0]) w:=run_build w 30 _ _ (by kernel_rfl)
def gL (b:Nat):dR:=⟨1,1,b,0,0,[],none,0,[],none,0,⟨[],none,0,[],none,0⟩⟩
theorem xO (b:Nat) (w:World):WM (gL b) w:=⟨IL.nil,AL.nil,⟨LL.nil,KL.nil,Nat.le_refl _,Nat.le_refl _⟩,Nat.le_refl _,Nat.le_refl _⟩
theorem nP (b:Nat) (hb:b<1000) (w:World):Calls prog 7 #[(gL b).val] w (fU (gL b) w) :=
 uj (xO b w) ⟨by show 1<_;omega,by show b<_;omega,by show 0<_;omega,by show 0<_;omega,(by intro x hx;cases hx),(by intro x hx;cases hx),⟨(by intro x hx;cases hx),(by intro x hx;cases hx)⟩⟩ (by intro x hx;cases hx) ⟨(by intro x hx;cases hx),(by intro x hx;cases hx),Nat.zero_le _,Nat.zero_le _⟩ (Nat.zero_le _) (Nat.zero_le _)
theorem rD (w:World):Calls prog 5 #[] w fun e w'=>e=.returned (.bool true)∧Below w.heap.size w w':=by
 have h1:=xz
 have h2:=xA
 have P1:Hid (Calls prog 7 #[.agg #[.int .i64 1,.int .u64 1,.int .u64 0,.int .u64 0,.int .u64 0,.slice none 0 0,.slice none 0 0,.slice none 0 0,.slice none 0 0]] w (gQ w.heap.size 150 [] w)):=hid (nP 0 (by omega) w)
 have P2:Hid (∀ u,Calls prog 7 #[.agg #[.int .i64 1,.int .u64 1,.int .u64 2,.int .u64 0,.int .u64 0,.slice none 0 0,.slice none 0 0,.slice none 0 0,.slice none 0 0]] u (gQ u.heap.size 0 (Fr.frame (T9.iE (gL 2).mg)) u)):=hid fun u=>nP 2 (by omega) u
 go_enter func5,ntmps5
 go_wp2_with fail
 refine P1.out.mono ?_
 rintro e w1 ⟨A1,n1,c1,rfl,_,_,_,hb1⟩
 have B1:=hid hb1
 clear hb1
 go_wp2_with fail
 refine (P2.out w1).mono ?_
 rintro e w2 ⟨A2,n2,c2,rfl,hn2,_,_,hb2⟩
 have B2:=hid (B1.out.trans (hb2.mono B1.out.size))
 have hz:(10:Int)<(n2:Int):=by
  rw [hn2,Fr.mW]
  have q:4≤(T9.iE (gL 2).mg).length:=by
   unfold T9.iE
   have:=T9.lY (gL 2).mg.kind.toNat
   have:=T9.lY (gL 2).mg.line
   have:=T9.lY (gL 2).mg.aK
   have:=T9.lY (gL 2).mg.bE
   simp only [List.length_append]
   omega
  omega
 clear hb2 hn2
 go_wp2
 go_ret
 exact⟨aj (by simp),B2.out⟩
structure dR.few (m:dR):Prop where
 i:m.is.length≤30
 t:∀ x∈m.is,x.m.text.length≤200
 a:m.las.length≤30
 s:m.s.st.pF
def wZ (m:dR) (w:World) (e:Ending) (w':World):Prop:=∃ b,e=.returned (.bool b)∧(b=true→m.few)∧Below w.heap.size w w'
theorem pG {m:dR} {w:World} (h:WM m w) (hf:m.fit) :
  Calls prog 6 #[m.val] w (wZ m w):=by
 obtain⟨w1,hw1⟩:∃ u,w.alloc (.cells #[.int .i64 m.kind,.int .u64 (m.line:Int),.int .u64 (m.aK:Int),.int .u64 (m.bE:Int),.int .u64 (m.bI:Int),.slice m.A m.is.length m.c,.slice m.A1 m.las.length m.c1,.slice m.s.A m.s.ls.length m.s.c,.slice m.s.A2 m.s.ms.length m.s.c2] 30)=u:=⟨_,rfl⟩
 obtain⟨lb,b1,_⟩:=bD hw1
 have B1:=hid b1
 have LB:=hid lb
 have H1:=hid (h.stay b1)
 obtain⟨l0,l1,l2,l3,l4,l5,l6,l7,l8⟩:=ag lb
 have FW:=hid (few14_c (c:=m.c) H1.out.i rfl (Nat.le_trans h.ic hf.ic))
 have LI:∀ u,Below w1.heap.size w1 u→Hid (Calls prog 16 #[.agg #[.slice m.s.A m.s.ls.length m.s.c,.slice m.s.A2 m.s.ms.length m.s.c2]] u (uJ m.s.st u)):=fun u hu=>hid (CX (H1.out.s.stay hu).l (H1.out.s.stay hu).k rfl rfl hf.far)
 have KL':=hid LI
 unfold dR.val
 clear LI lb b1 h hf
 go_enter func6,ntmps6
 go_wp2_with fail
 refine FW.out.mono ?_
 rintro e w2 ⟨b,rfl,hb,c2⟩
 have C2:=hid c2
 have HB:=hid hb
 have pb:=ah LB.out c2
 clear hb c2 l0 l1 l2 l3 l4 l5 l6 l7 l8
 obtain⟨l0,l1,l2,l3,l4,l5,l6,l7,l8⟩:=ag pb
 clear pb
 cases b
 ·go_wp2
  go_ret
  exact⟨false,rfl,by simp,B1.out.trans (C2.out.mono B1.out.size)⟩
 by_cases ha:m.las.length≤30
 case neg =>
  have hz:¬ ((m.las.length:Int)≤30):=by omega
  clear ha
  go_wp2
  go_ret
  exact⟨false,aj (by simp),by simp,B1.out.trans (C2.out.mono B1.out.size)⟩
 have hz:(m.las.length:Int)≤30:=by omega
 have HA:=hid ha
 clear ha
 go_wp2_with fail
 refine (KL'.out w2 C2.out).out.mono ?_
 rintro e w3 ⟨b2,rfl,hb2,c3⟩
 have C3:=hid (C2.out.trans (c3.mono C2.out.size))
 have HB2:=hid hb2
 clear hb2 c3
 go_wp2
 go_ret
 exact⟨b2,aj (by simp),fun q=>⟨(HB.out (by simp)).1,(HB.out (by simp)).2,HA.out,HB2.out q⟩,B1.out.trans (C3.out.mono B1.out.size)⟩
end
end
end Go.Proofs.YtmcfknnfaokmlaaGreat
