import Derived.Test.YtcedlgedmkghgaaZ43
import Derived.Test.YtcedlgedmkghgaaZ44
import Derived.Test.YtcedlgedmkghgaaZ45
namespace Go.Proofs.Ytcedlgedmkghgaa
set_option maxHeartbeats 16000000
open Go.Lib
set_option linter.unusedSimpArgs false
set_option maxRecDepth 100000
section
section
open Go.RowKit Go.Lib
theorem qG (w:World):(Instr.build 30 #[(0,.int .i64 1),(1,.int .u64 1)]).run Try.prog w=.ok (.agg #[.int .i64 1,.int .u64 1,.int .u64 0,.int .u64 0,.int .u64 0,.slice none 0 0,.slice none 0 0,.slice none 0 0,.slice none 0 0]) w:=run_build w 30 _ _ (by kernel_rfl)
theorem qH (w:World):(Instr.build 30 #[(0,.int .i64 1),(1,.int .u64 1),(2,.int .u64 2)]).run Try.prog w=.ok (.agg #[.int .i64 1,.int .u64 1,.int .u64 2,.int .u64 0,.int .u64 0,.slice none 0 0,.slice none 0 0,.slice none 0 0,.slice none 0 0]) w:=run_build w 30 _ _ (by kernel_rfl)
def d_ (b:Nat):dL:=⟨1,1,b,0,0,[],none,0,[],none,0,⟨[],none,0,[],none,0⟩⟩
theorem qU (b:Nat) (w:World):WM (d_ b) w:=⟨IL.nil,AL.nil,⟨LL.nil,KL.nil,Nat.le_refl _,Nat.le_refl _⟩,Nat.le_refl _,Nat.le_refl _⟩
theorem jL (b:Nat) (hb:b<1000) (w:World):Calls Try.prog 6 #[(d_ b).val] w (iM (d_ b) w) :=
 sS (qU b w) ⟨by show 1<_;omega,by show b<_;omega,by show 0<_;omega,by show 0<_;omega,(by intro x hx;cases hx),(by intro x hx;cases hx),⟨(by intro x hx;cases hx),(by intro x hx;cases hx)⟩⟩ (by intro x hx;cases hx) ⟨(by intro x hx;cases hx),(by intro x hx;cases hx),Nat.zero_le _,Nat.zero_le _⟩ (Nat.zero_le _) (Nat.zero_le _)
theorem tT (w:World):Calls Try.prog 4 #[] w fun e w'=>e=.returned (.bool true)∧Below w.heap.size w w':=by
 have h1:=qG
 have h2:=qH
 have P1:Hid (Calls Try.prog 6 #[.agg #[.int .i64 1,.int .u64 1,.int .u64 0,.int .u64 0,.int .u64 0,.slice none 0 0,.slice none 0 0,.slice none 0 0,.slice none 0 0]] w (fF w.heap.size 150 [] w)):=hid (jL 0 (by omega) w)
 have P2:Hid (∀ u,Calls Try.prog 6 #[.agg #[.int .i64 1,.int .u64 1,.int .u64 2,.int .u64 0,.int .u64 0,.slice none 0 0,.slice none 0 0,.slice none 0 0,.slice none 0 0]] u (fF u.heap.size 0 (Fr.frame (T9.dK (d_ 2).mg)) u)):=hid fun u=>jL 2 (by omega) u
 go_enter Try.func4,Try.ntmps4
 go_wp2_with fail
 refine P1.out.mono ?_
 rintro e w1 ⟨A1,n1,c1,rfl,_,_,_,hb1⟩
 have B1:=hid hb1
 clear hb1
 go_wp2_with fail
 refine (P2.out w1).mono ?_
 rintro e w2 ⟨A2,n2,c2,rfl,hn2,_,_,hb2⟩
 have B2:=hid (B1.out.trans (hb2.mono B1.out.size))
 have hz:(10:Int)<(n2:Int):=by
  rw [hn2,Fr.eG]
  have q:4≤(T9.dK (d_ 2).mg).length:=by
   unfold T9.dK
   have:=T9.iZ (d_ 2).mg.kind.toNat
   have:=T9.iZ (d_ 2).mg.line
   have:=T9.iZ (d_ 2).mg.aQ
   have:=T9.iZ (d_ 2).mg.bZ
   simp only [List.length_append]
   omega
  omega
 clear hb2 hn2
 go_wp2
 go_ret
 exact⟨ag (by simp),B2.out⟩
structure dL.few (m:dL):Prop where
 i:m.is.length≤30
 t:∀ x∈m.is,x.m.text.length≤200
 a:m.las.length≤30
 s:m.s.st.mQ
def ve (m:dL) (w:World) (e:Ending) (w':World):Prop:=∃ b,e=.returned (.bool b)∧(b=true→m.few)∧Below w.heap.size w w'
theorem qY {m:dL} {w:World} (h:WM m w) (hf:m.fit) :
  Calls Try.prog 5 #[m.val] w (ve m w):=by
 obtain⟨w1,hw1⟩:∃ u,w.alloc (.cells #[.int .i64 m.kind,.int .u64 (m.line:Int),.int .u64 (m.aQ:Int),.int .u64 (m.bZ:Int),.int .u64 (m.cu:Int),.slice m.A m.is.length m.c,.slice m.A1 m.las.length m.c1,.slice m.s.A m.s.ls.length m.s.c,.slice m.s.A2 m.s.ms.length m.s.c2] 30)=u:=⟨_,rfl⟩
 obtain⟨lb,b1,_⟩:=bF hw1
 have B1:=hid b1
 have LB:=hid lb
 have H1:=hid (h.stay b1)
 obtain⟨l0,l1,l2,l3,l4,l5,l6,l7,l8⟩:=ai lb
 have FW:=hid (few14_c (c:=m.c) H1.out.i rfl (Nat.le_trans h.ic hf.ic))
 have LI:∀ u,Below w1.heap.size w1 u→Hid (Calls Try.prog 10 #[.agg #[.slice m.s.A m.s.ls.length m.s.c,.slice m.s.A2 m.s.ms.length m.s.c2]] u (oF m.s.st u)):=fun u hu=>hid (wC (H1.out.s.stay hu).l (H1.out.s.stay hu).k rfl rfl hf.far)
 have KL':=hid LI
 unfold dL.val
 clear LI lb b1 h hf
 go_enter Try.func5,Try.ntmps5
 go_wp2_with fail
 refine FW.out.mono ?_
 rintro e w2 ⟨b,rfl,hb,c2⟩
 have C2:=hid c2
 have HB:=hid hb
 have pb:=ak LB.out c2
 clear hb c2 l0 l1 l2 l3 l4 l5 l6 l7 l8
 obtain⟨l0,l1,l2,l3,l4,l5,l6,l7,l8⟩:=ai pb
 clear pb
 cases b
 ·go_wp2
  go_ret
  exact⟨false,rfl,by simp,B1.out.trans (C2.out.mono B1.out.size)⟩
 by_cases ha:m.las.length≤30
 case neg =>
  have hz:¬ ((m.las.length:Int)≤30):=by omega
  clear ha
  go_wp2
  go_ret
  exact⟨false,ag (by simp),by simp,B1.out.trans (C2.out.mono B1.out.size)⟩
 have hz:(m.las.length:Int)≤30:=by omega
 have HA:=hid ha
 clear ha
 go_wp2_with fail
 refine (KL'.out w2 C2.out).out.mono ?_
 rintro e w3 ⟨b2,rfl,hb2,c3⟩
 have C3:=hid (C2.out.trans (c3.mono C2.out.size))
 have HB2:=hid hb2
 clear hb2 c3
 go_wp2
 go_ret
 exact⟨b2,ag (by simp),fun q=>⟨(HB.out (by simp)).1,(HB.out (by simp)).2,HA.out,HB2.out q⟩,B1.out.trans (C3.out.mono B1.out.size)⟩
end
end
end Go.Proofs.Ytcedlgedmkghgaa
