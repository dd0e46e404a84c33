import Derived.Test.YtmcfknnfaokmlaaGreatZ38
namespace Go.Proofs.YtmcfknnfaokmlaaGreat
set_option maxHeartbeats 16000000
open Go.Lib Go.Proofs.Tryz
set_option linter.unusedSimpArgs false
set_option maxRecDepth 100000
section
section
open Go.RowKit Go.Lib
theorem mU {m:dR} {w:World} (h:WM m w) (ho:m.mg.ok) (ht:∀ x∈m.is,x.m.text.length≤200) (hs:m.s.st.short) (hl:m.is.length≤maxLen) (ha:m.las.length≤maxLen) :
  Calls prog 9 #[m.val] w fun e w'=>e=.returned (.int .i64 (T9.bA m.mg))∧Below w.heap.size w w':=by
 obtain⟨w1,hw1⟩:∃ u,w.alloc (.cells #[.int .i64 m.kind,.int .u64 (m.line:Int),.int .u64 (m.aK:Int),.int .u64 (m.bE:Int),.int .u64 (m.bI:Int),.slice m.A m.is.length m.c,.slice m.A1 m.las.length m.c1,.slice m.s.A m.s.ls.length m.s.c,.slice m.s.A2 m.s.ms.length m.s.c2] 30)=u:=⟨_,rfl⟩
 obtain⟨lb,b1,_⟩:=bD hw1
 have B1:=hid b1
 have LB:=hid lb
 have H1:=hid (h.stay b1)
 obtain⟨l0,l1,l2,l3,l4,l5,l6,l7,l8⟩:=ag lb
 have NA:∀ u,Hid (Calls prog 28 #[m.val] u fun e w'=>e=.returned (.bool (T9.dz m.mg))∧Below u.heap.size u w'):=fun u=>hid (tY (by have:=hs.2.2.1;have:=hs.2.2.2;have e:m.s.st.tasks.length=m.s.ms.length:=bv _;have e2:m.s.st.lists.length=m.s.ls.length:=rfl;omega))
 have HE:∀ u,Hid (Calls prog 29 #[m.val] u fun e w'=>e=.returned (.bool (T9.dh m.mg))∧Below u.heap.size u w'):=fun u=>hid (vv hl ho)
 have RI:∀ u,Below w1.heap.size w1 u→Hid (Calls prog 30 #[.slice m.A m.is.length m.c] u fun e w'=>e=.returned (.bool (T9.eQ m.is))∧Below u.heap.size u w'):=fun u hu=>hid (uy (H1.out.i.stay hu) rfl ht)
 have RL:∀ u,Below w1.heap.size w1 u→Hid (Calls prog 31 #[.slice m.A1 m.las.length m.c1] u fun e w'=>e=.returned (.bool (T9.dX m.las))∧Below u.heap.size u w'):=fun u hu=>hid (uz (H1.out.a.stay hu) rfl ha)
 have RC:∀ u,Below w1.heap.size w1 u→Hid (Calls prog 32 #[.agg #[.slice m.s.A m.s.ls.length m.s.c,.slice m.s.A2 m.s.ms.length m.s.c2]] u fun e w'=>e=.returned (.int .i64 (T9.aH m.s.st))∧Below u.heap.size u w'):=fun u hu=>hid (zh (H1.out.s.stay hu).l (H1.out.s.stay hu).k rfl rfl hs ⟨h.s.lc,h.s.kc⟩)
 unfold dR.val at NA HE
 obtain⟨R,hR⟩:∃ r,T9.okW m.mg=r:=⟨_,rfl⟩
 have V:T9.bA m.mg=if R=true then 0 else 150:=by unfold T9.bA;rw [hR]
 rw [V]
 unfold T9.okW at hR
 obtain⟨n1,h1⟩:∃ b,T9.dz m.mg=b:=⟨_,rfl⟩
 obtain⟨n2,h2⟩:∃ b,T9.dh m.mg=b:=⟨_,rfl⟩
 obtain⟨n3,h3⟩:∃ b,T9.eQ m.is=b:=⟨_,rfl⟩
 obtain⟨n4,h4⟩:∃ b,T9.dX m.las=b:=⟨_,rfl⟩
 obtain⟨re,h5⟩:∃ b,T9.aH m.s.st=b:=⟨_,rfl⟩
 have hR:(!(m.aK==0) && T9.dz m.mg && T9.dh m.mg && T9.eQ m.is && T9.dX m.las && decide (T9.aH m.s.st=0))=R:=hR
 rw [h1,h2,h3,h4,h5,← aZ m.aK 0] at hR
 have hR:(!((m.aK:Int)==0) && n1 && n2 && n3 && n4 && decide (re=0))=R:=hR
 rw [h1] at NA
 rw [h2] at HE
 rw [h3] at RI
 rw [h4] at RL
 rw [h5] at RC
 have KN:=hid NA
 have KE:=hid HE
 have KI:=hid RI
 have KL':=hid RL
 have KC:=hid RC
 unfold dR.val
 clear h1 h2 h3 h4 h5 V NA HE RI RL RC lb b1 h ho ht hs hl ha
 cases h0:((m.aK:Int)==0)
 rotate_left
 rotate_left;cases n1
 rotate_left;cases n2
 rotate_left;cases n3
 rotate_left;cases n4
 rotate_left;by_cases hre:re=0
 all_goals
  try (have hz:(re==0)=false:=by simp [hre])
  try (have hz2:(re != 0)=true:=by simp [hre])
  try subst hre
  simp only [h0,Bool.not_true,Bool.not_false,Bool.true_and,Bool.false_and,Bool.and_true,Bool.and_false,decide_true,decide_false, *] at hR
  subst hR
  go_enter func9,ntmps9
  go_wp2_with (first
   | (go_at_call 28;refine (KN.out _).out.mono ?_;rintro e w2 ⟨rfl,c2⟩;have C2:=hid c2;obtain⟨l0,l1,l2,l3,l4,l5,l6,l7,l8⟩:=ag (ah LB.out c2);clear c2)
   | (go_at_call 29;refine (KE.out _).out.mono ?_;rintro e w3 ⟨rfl,c3⟩;have C3:=hid (C2.out.trans (c3.mono C2.out.size));obtain⟨l0,l1,l2,l3,l4,l5,l6,l7,l8⟩:=ag (ah LB.out C3.out);clear c3)
   | (go_at_call 30;refine (KI.out _ C3.out).out.mono ?_;rintro e w4 ⟨rfl,c4⟩;have C4:=hid (C3.out.trans (c4.mono C3.out.size));obtain⟨l0,l1,l2,l3,l4,l5,l6,l7,l8⟩:=ag (ah LB.out C4.out);clear c4)
   | (go_at_call 31;refine (KL'.out _ C4.out).out.mono ?_;rintro e w5 ⟨rfl,c5⟩;have C5:=hid (C4.out.trans (c5.mono C4.out.size));obtain⟨l0,l1,l2,l3,l4,l5,l6,l7,l8⟩:=ag (ah LB.out C5.out);clear c5)
   | (go_at_call 32;refine (KC.out _ C5.out).out.mono ?_;rintro e w6 ⟨rfl,c6⟩;have C6:=hid (C5.out.trans (c6.mono C5.out.size));clear c6))
  go_ret
  first
  | exact⟨rfl,B1.out.trans (C6.out.mono B1.out.size)⟩
  | exact⟨rfl,B1.out.trans (C5.out.mono B1.out.size)⟩
  | exact⟨rfl,B1.out.trans (C4.out.mono B1.out.size)⟩
  | exact⟨rfl,B1.out.trans (C3.out.mono B1.out.size)⟩
  | exact⟨rfl,B1.out.trans (C2.out.mono B1.out.size)⟩
  | exact⟨rfl,B1.out⟩
end
end
end Go.Proofs.YtmcfknnfaokmlaaGreat
