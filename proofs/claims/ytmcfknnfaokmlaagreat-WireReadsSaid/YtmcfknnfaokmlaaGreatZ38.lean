import Derived.Test.YtmcfknnfaokmlaaGreatZ35
import Derived.Test.YtmcfknnfaokmlaaGreatZ37
namespace Go.Proofs.YtmcfknnfaokmlaaGreat
set_option maxHeartbeats 16000000
open Go.Lib Go.Proofs.Tryz
set_option linter.unusedSimpArgs false
set_option maxRecDepth 100000
section
section
open Go.RowKit Go.Lib
namespace T9
def mJ (k:Int):Int:=if k=1∨k=2∨k=5 then 1 else if k=3 then 9 else if k=4 then 16 else if k=6 then 3 else if k=7 then 14 else if k=8 then 52 else 0
def ed (all what:Int) (there:Bool):Bool:=!there || (bits BinOp.and IntKind.i64 all what != 0)
theorem vL (m:Mg):dz m=((mJ m.kind != 0) && (ed (mJ m.kind) 1 (!(m.line==0)) && (ed (mJ m.kind) 2 (!(m.bE==0)) && (ed (mJ m.kind) 4 (!(m.bI==0)) && (ed (mJ m.kind) 8 (decide (0<m.items.length)) && (ed (mJ m.kind) 16 (decide (0<m.lasts.length)) && ed (mJ m.kind) 32 (decide (0<m.st.lists.length+m.st.tasks.length)))))))):=by
 have z:∀ n:Nat,decide (0<n)=!decide (n=0):=fun n=>by by_cases q:n=0 <;> simp [q] <;> omega
 have k:m.kind=1∨m.kind=2∨m.kind=3∨m.kind=4∨m.kind=5∨m.kind=6∨m.kind=7∨m.kind=8∨¬ (1≤m.kind∧m.kind≤8):=by omega
 unfold dz oG oF yX lU lV lW
 rw [z,z,z]
 rcases k with e | e | e | e | e | e | e | e | e
 case inr.inr.inr.inr.inr.inr.inr.inr =>
  have q:mJ m.kind=0:=by
   unfold mJ
   rw [if_neg (by omega),if_neg (by omega),if_neg (by omega),if_neg (by omega),if_neg (by omega),if_neg (by omega)]
  rw [q,decide_eq_false e]
  rfl
 ·rw [e]
  have q:mJ 1=1:=by decide
  rw [q]
  unfold ed
  rw [show (bits BinOp.and IntKind.i64 1 1 != 0)=true from by rfl]
  rw [show (bits BinOp.and IntKind.i64 1 2 != 0)=false from by rfl]
  rw [show (bits BinOp.and IntKind.i64 1 4 != 0)=false from by rfl]
  rw [show (bits BinOp.and IntKind.i64 1 8 != 0)=false from by rfl]
  rw [show (bits BinOp.and IntKind.i64 1 16 != 0)=false from by rfl]
  rw [show (bits BinOp.and IntKind.i64 1 32 != 0)=false from by rfl]
  simp (config:={ decide:=true }) [Bool.and_assoc]
 ·rw [e]
  have q:mJ 2=1:=by decide
  rw [q]
  unfold ed
  rw [show (bits BinOp.and IntKind.i64 1 1 != 0)=true from by rfl]
  rw [show (bits BinOp.and IntKind.i64 1 2 != 0)=false from by rfl]
  rw [show (bits BinOp.and IntKind.i64 1 4 != 0)=false from by rfl]
  rw [show (bits BinOp.and IntKind.i64 1 8 != 0)=false from by rfl]
  rw [show (bits BinOp.and IntKind.i64 1 16 != 0)=false from by rfl]
  rw [show (bits BinOp.and IntKind.i64 1 32 != 0)=false from by rfl]
  simp (config:={ decide:=true }) [Bool.and_assoc]
 ·rw [e]
  have q:mJ 3=9:=by decide
  rw [q]
  unfold ed
  rw [show (bits BinOp.and IntKind.i64 9 1 != 0)=true from by rfl]
  rw [show (bits BinOp.and IntKind.i64 9 2 != 0)=false from by rfl]
  rw [show (bits BinOp.and IntKind.i64 9 4 != 0)=false from by rfl]
  rw [show (bits BinOp.and IntKind.i64 9 8 != 0)=true from by rfl]
  rw [show (bits BinOp.and IntKind.i64 9 16 != 0)=false from by rfl]
  rw [show (bits BinOp.and IntKind.i64 9 32 != 0)=false from by rfl]
  simp (config:={ decide:=true }) [Bool.and_assoc]
 ·rw [e]
  have q:mJ 4=16:=by decide
  rw [q]
  unfold ed
  rw [show (bits BinOp.and IntKind.i64 16 1 != 0)=false from by rfl]
  rw [show (bits BinOp.and IntKind.i64 16 2 != 0)=false from by rfl]
  rw [show (bits BinOp.and IntKind.i64 16 4 != 0)=false from by rfl]
  rw [show (bits BinOp.and IntKind.i64 16 8 != 0)=false from by rfl]
  rw [show (bits BinOp.and IntKind.i64 16 16 != 0)=true from by rfl]
  rw [show (bits BinOp.and IntKind.i64 16 32 != 0)=false from by rfl]
  simp (config:={ decide:=true }) [Bool.and_assoc]
 ·rw [e]
  have q:mJ 5=1:=by decide
  rw [q]
  unfold ed
  rw [show (bits BinOp.and IntKind.i64 1 1 != 0)=true from by rfl]
  rw [show (bits BinOp.and IntKind.i64 1 2 != 0)=false from by rfl]
  rw [show (bits BinOp.and IntKind.i64 1 4 != 0)=false from by rfl]
  rw [show (bits BinOp.and IntKind.i64 1 8 != 0)=false from by rfl]
  rw [show (bits BinOp.and IntKind.i64 1 16 != 0)=false from by rfl]
  rw [show (bits BinOp.and IntKind.i64 1 32 != 0)=false from by rfl]
  simp (config:={ decide:=true }) [Bool.and_assoc]
 ·rw [e]
  have q:mJ 6=3:=by decide
  rw [q]
  unfold ed
  rw [show (bits BinOp.and IntKind.i64 3 1 != 0)=true from by rfl]
  rw [show (bits BinOp.and IntKind.i64 3 2 != 0)=true from by rfl]
  rw [show (bits BinOp.and IntKind.i64 3 4 != 0)=false from by rfl]
  rw [show (bits BinOp.and IntKind.i64 3 8 != 0)=false from by rfl]
  rw [show (bits BinOp.and IntKind.i64 3 16 != 0)=false from by rfl]
  rw [show (bits BinOp.and IntKind.i64 3 32 != 0)=false from by rfl]
  simp (config:={ decide:=true }) [Bool.and_assoc]
 ·rw [e]
  have q:mJ 7=14:=by decide
  rw [q]
  unfold ed
  rw [show (bits BinOp.and IntKind.i64 14 1 != 0)=false from by rfl]
  rw [show (bits BinOp.and IntKind.i64 14 2 != 0)=true from by rfl]
  rw [show (bits BinOp.and IntKind.i64 14 4 != 0)=true from by rfl]
  rw [show (bits BinOp.and IntKind.i64 14 8 != 0)=true from by rfl]
  rw [show (bits BinOp.and IntKind.i64 14 16 != 0)=false from by rfl]
  rw [show (bits BinOp.and IntKind.i64 14 32 != 0)=false from by rfl]
  simp (config:={ decide:=true }) [Bool.and_assoc]
 ·rw [e]
  have q:mJ 8=52:=by decide
  rw [q]
  unfold ed
  rw [show (bits BinOp.and IntKind.i64 52 1 != 0)=false from by rfl]
  rw [show (bits BinOp.and IntKind.i64 52 2 != 0)=false from by rfl]
  rw [show (bits BinOp.and IntKind.i64 52 4 != 0)=true from by rfl]
  rw [show (bits BinOp.and IntKind.i64 52 8 != 0)=false from by rfl]
  rw [show (bits BinOp.and IntKind.i64 52 16 != 0)=true from by rfl]
  rw [show (bits BinOp.and IntKind.i64 52 32 != 0)=true from by rfl]
  simp (config:={ decide:=true }) [Bool.and_assoc]
end T9
theorem Di (k:Int) (w:World):Calls prog 67 #[.int .i64 k] w fun e w'=>e=.returned (.int .i64 (T9.mJ k))∧w=w':=by
 have c:k=1∨k=2∨k=3∨k=4∨k=5∨k=6∨k=7∨k=8∨¬ (1≤k∧k≤8):=by omega
 rcases c with rfl | rfl | rfl | rfl | rfl | rfl | rfl | rfl | e
 case inr.inr.inr.inr.inr.inr.inr.inr =>
  have V:Hid (T9.mJ k=0):=hid (by
   unfold T9.mJ
   rw [if_neg (by omega),if_neg (by omega),if_neg (by omega),if_neg (by omega),if_neg (by omega),if_neg (by omega)])
  have e1:(k==1)=false:=by rw [beq_eq_false_iff_ne];omega
  have e2:(k==2)=false:=by rw [beq_eq_false_iff_ne];omega
  have e3:(k==3)=false:=by rw [beq_eq_false_iff_ne];omega
  have e4:(k==4)=false:=by rw [beq_eq_false_iff_ne];omega
  have e5:(k==5)=false:=by rw [beq_eq_false_iff_ne];omega
  have e6:(k==6)=false:=by rw [beq_eq_false_iff_ne];omega
  have e7:(k==7)=false:=by rw [beq_eq_false_iff_ne];omega
  have e8:(k==8)=false:=by rw [beq_eq_false_iff_ne];omega
  rw [V.out]
  clear e
  go_enter func67,ntmps67
  go_wp2
  go_ret
  exact⟨rfl,rfl⟩
 all_goals
  go_enter func67,ntmps67
  go_wp2
  go_ret
  exact⟨rfl,rfl⟩
theorem mayW_c {g:Nat} {all what:Int} {there:Bool} {W:World} (hc:W.cell? ⟨g,0,none⟩=some (.int .i64 all)) :
  Calls prog 68 #[.int .i64 what,.bool there,.pointer (some ⟨g,0,none⟩)] W fun e w'=>e=.returned (.bool (T9.ed all what there))∧W=w':=by
 obtain⟨b,hx⟩:∃ b,(bits BinOp.and IntKind.i64 all what != 0)=b:=⟨_,rfl⟩
 unfold T9.ed
 rw [hx]
 cases there <;> cases b
 all_goals
  go_enter func68,ntmps68
  go_wp2
  go_ret
  exact⟨rfl,rfl⟩
theorem vv {m:dR} {w:World} (hl:m.is.length≤maxLen) (ho:m.mg.ok) :
  Calls prog 29 #[m.val] w fun e w'=>e=.returned (.bool (T9.dh m.mg))∧Below w.heap.size w w':=by
 obtain⟨w1,hw1⟩:∃ u,w.alloc (.cells #[.int .i64 m.kind,.int .u64 (m.line:Int),.int .u64 (m.aK:Int),.int .u64 (m.bE:Int),.int .u64 (m.bI:Int),.slice m.A m.is.length m.c,.slice m.A1 m.las.length m.c1,.slice m.s.A m.s.ls.length m.s.c,.slice m.s.A2 m.s.ms.length m.s.c2] 30)=u:=⟨_,rfl⟩
 obtain⟨lb,b1,_⟩:=bD hw1
 have B1:=hid b1
 obtain⟨l0,l1,l2,l3,l4,l5,l6,l7,l8⟩:=ag lb
 have hb1:m.bE<18446744073709551616:=ho.f
 have hb2:m.bI<18446744073709551616:=ho.t
 obtain⟨R,hR⟩:∃ r,T9.dh m.mg=r:=⟨_,rfl⟩
 rw [hR]
 unfold T9.dh at hR
 have hR:((!decide (m.kind=3) || decide (0<m.is.length)) && (!decide (m.kind=4) || decide (0<m.las.length)) && (!decide (m.kind=7) || decide (m.bE≤m.bI∧m.bI - m.bE=m.is.length)))=R:=hR
 unfold dR.val
 obtain⟨k,line,aK,bE,bI,is,A,c,las,A1,c1,ls,SA,sc,ms,SA2,sc2⟩:=m
 dsimp only at *
 have hl2:is.length≤9223372036854775807:=by unfold maxLen at hl;omega
 have hwl:IntKind.u64.wrap (is.length:Int)=(is.length:Int):=by rw [Fl.wrap_u64];omega
 have HR:=hid hR
 clear lb b1 ho hl hR
 by_cases h3:k=3
 ·subst h3
  by_cases hi:0<is.length
  ·have hz:(0:Int)<(is.length:Int):=by omega
   have Q:Hid (R=true):=hid (by have:=HR.out;simp [hi] at this;first | exact this | exact this.symm)
   clear hi hb1 hb2 hl2
   go_enter func29,ntmps29
   go_wp2
   go_ret
   exact⟨aj (by rw [Q.out] <;> first | rfl | (apply decide_eq_true;omega) | (apply decide_eq_false;omega)),B1.out⟩
  ·have hz:¬ ((0:Int)<(is.length:Int)):=by omega
   have Q:Hid (R=false):=hid (by have:=HR.out;simp [hi] at this;first | exact this | exact this.symm)
   clear hi hb1 hb2 hl2
   go_enter func29,ntmps29
   go_wp2
   go_ret
   exact⟨aj (by rw [Q.out] <;> first | rfl | (apply decide_eq_true;omega) | (apply decide_eq_false;omega)),B1.out⟩
 have e3:(k==3)=false:=by rw [beq_eq_false_iff_ne];exact h3
 by_cases h4:k=4
 ·subst h4
  by_cases hi:0<las.length
  ·have hz:(0:Int)<(las.length:Int):=by omega
   have Q:Hid (R=true):=hid (by have:=HR.out;simp [hi] at this;first | exact this | exact this.symm)
   clear hi hb1 hb2 hl2
   go_enter func29,ntmps29
   go_wp2
   go_ret
   exact⟨aj (by rw [Q.out] <;> first | rfl | (apply decide_eq_true;omega) | (apply decide_eq_false;omega)),B1.out⟩
  ·have hz:¬ ((0:Int)<(las.length:Int)):=by omega
   have Q:Hid (R=false):=hid (by have:=HR.out;simp [hi] at this;first | exact this | exact this.symm)
   clear hi hb1 hb2 hl2
   go_enter func29,ntmps29
   go_wp2
   go_ret
   exact⟨aj (by rw [Q.out] <;> first | rfl | (apply decide_eq_true;omega) | (apply decide_eq_false;omega)),B1.out⟩
 have e4:(k==4)=false:=by rw [beq_eq_false_iff_ne];exact h4
 by_cases h7:k=7
 ·subst h7
  by_cases hf:bE≤bI
  ·have hz:(bE:Int)≤(bI:Int):=by omega
   have hw:IntKind.u64.wrap ((bI:Int) - (bE:Int))=((bI - bE:Nat):Int):=by rw [Fl.wrap_u64];omega
   by_cases he:bI - bE=is.length
   ·have Q:Hid (R=true):=hid (by have:=HR.out;simp [hf,he] at this;first | exact this | exact this.symm)
    have hz2:(((bI - bE:Nat):Int)==(is.length:Int))=true:=by rw [he];simp
    clear hb1 hb2 hl2 hf
    have HE:=hid he
    clear he
    go_enter func29,ntmps29
    go_wp2
    go_ret
    exact⟨aj (by rw [Q.out] <;> first | rfl | simp [HE.out]),B1.out⟩
   ·have Q:Hid (R=false):=hid (by have:=HR.out;simp [he] at this;first | exact this | exact this.symm)
    have hz2:(((bI - bE:Nat):Int)==(is.length:Int))=false:=by rw [aZ];simp [he]
    clear hb1 hb2 hl2 hf
    have HE:=hid he
    clear he
    go_enter func29,ntmps29
    go_wp2
    go_ret
    exact⟨aj (by rw [Q.out] <;> first | rfl | simp [HE.out]),B1.out⟩
  ·have hz:¬ ((bE:Int)≤(bI:Int)):=by omega
   have Q:Hid (R=false):=hid (by have:=HR.out;simp [hf] at this;first | exact this | exact this.symm)
   clear hb1 hb2 hl2 hf
   go_enter func29,ntmps29
   go_wp2
   go_ret
   exact⟨aj (by rw [Q.out] <;> first | rfl | (apply decide_eq_true;omega) | (apply decide_eq_false;omega)),B1.out⟩
 have e7:(k==7)=false:=by rw [beq_eq_false_iff_ne];exact h7
 have Q:Hid (R=true):=hid (by have:=HR.out;simp [h3,h4,h7] at this;first | exact this | exact this.symm)
 clear h3 h4 h7 hb1 hb2 hl2
 go_enter func29,ntmps29
 go_wp2
 go_ret
 exact⟨aj (by rw [Q.out] <;> first | rfl | (apply decide_eq_true;omega) | (apply decide_eq_false;omega)),B1.out⟩
theorem tY {m:dR} {w:World} (hl:m.s.ls.length+m.s.ms.length≤4000000) :
  Calls prog 28 #[m.val] w fun e w'=>e=.returned (.bool (T9.dz m.mg))∧Below w.heap.size w w':=by
 have hmf:∀ (fn:Fn) (first cap:Array Value) (w:World),(Instr.makeFunc fn first cap).run prog w=.ok (.func fn first cap) w:=fun _ _ _ _=>rfl
 rw [T9.vL]
 obtain⟨w1,hw1⟩:∃ u,w.alloc (.cells #[.int .i64 m.kind,.int .u64 (m.line:Int),.int .u64 (m.aK:Int),.int .u64 (m.bE:Int),.int .u64 (m.bI:Int),.slice m.A m.is.length m.c,.slice m.A1 m.las.length m.c1,.slice m.s.A m.s.ls.length m.s.c,.slice m.s.A2 m.s.ms.length m.s.c2] 30)=u:=⟨_,rfl⟩
 obtain⟨lb,b1,z1⟩:=bD hw1
 obtain⟨a,ha⟩:∃ a,T9.mJ m.kind=a:=⟨_,rfl⟩
 have NM:=hid (Di m.kind w1)
 rw [ha] at NM
 obtain⟨w2,hw2⟩:∃ u,w1.alloc (.cells #[.int .i64 a] 3)=u:=⟨_,rfl⟩
 have b2:Below w1.heap.size w1 w2:=by rw [← hw2];exact (Below.refl _ w1).alloc (Nat.le_refl _) _
 have k2:w2.heap[w1.heap.size]?=some (.cells #[.int .i64 a] 3 (0,0)):=by rw [← hw2];exact heap_alloc_new w1 _
 have B2:=hid (b1.trans (b2.mono b1.size))
 obtain⟨l0,l1,l2,l3,l4,l5,l6,l7,l8⟩:=ag lb
 obtain⟨m0,m1,m2,m3,m4,m5,m6,m7,m8⟩:=ag (ah lb b2)
 have c2:=cell_of_one k2
 have tl:(m.mg.st.tasks).length=m.s.ms.length:=bv _
 obtain⟨R,hR⟩:∃ r,((a != 0) && (T9.ed a 1 (!(m.line==0)) && (T9.ed a 2 (!(m.bE==0)) && (T9.ed a 4 (!(m.bI==0)) && (T9.ed a 8 (decide (0<m.is.length)) && (T9.ed a 16 (decide (0<m.las.length)) && T9.ed a 32 (decide (0<m.s.ls.length+m.s.ms.length))))))))=r:=⟨_,rfl⟩
 have E:((T9.mJ m.mg.kind != 0) && (T9.ed (T9.mJ m.mg.kind) 1 (!(m.mg.line==0)) && (T9.ed (T9.mJ m.mg.kind) 2 (!(m.mg.bE==0)) && (T9.ed (T9.mJ m.mg.kind) 4 (!(m.mg.bI==0)) && (T9.ed (T9.mJ m.mg.kind) 8 (decide (0<m.mg.items.length)) && (T9.ed (T9.mJ m.mg.kind) 16 (decide (0<m.mg.lasts.length)) && T9.ed (T9.mJ m.mg.kind) 32 (decide (0<m.mg.st.lists.length+m.mg.st.tasks.length))))))))=R:=by
  rw [tl,← hR,← ha]
  rfl
 rw [E]
 unfold dR.val
 obtain⟨k,line,aK,bE,bI,is,A,c,las,A1,c1,ls,SA,sc,ms,SA2,sc2⟩:=m
 dsimp only at *
 have hwl:wrap64 ((ls.length:Int)+(ms.length:Int))=(ls.length:Int)+(ms.length:Int):=by unfold wrap64;omega
 obtain⟨c0,h0⟩:∃ b,(a != 0)=b:=⟨_,rfl⟩
 obtain⟨r1,h1⟩:∃ b,T9.ed a 1 (!(line==0))=b:=⟨_,rfl⟩
 obtain⟨r2,h2⟩:∃ b,T9.ed a 2 (!(bE==0))=b:=⟨_,rfl⟩
 obtain⟨r3,h3⟩:∃ b,T9.ed a 4 (!(bI==0))=b:=⟨_,rfl⟩
 obtain⟨r4,h4⟩:∃ b,T9.ed a 8 (decide (0<is.length))=b:=⟨_,rfl⟩
 obtain⟨r5,h5⟩:∃ b,T9.ed a 16 (decide (0<las.length))=b:=⟨_,rfl⟩
 obtain⟨r6,h6⟩:∃ b,T9.ed a 32 (decide (0<ls.length+ms.length))=b:=⟨_,rfl⟩
 rw [h0,h1,h2,h3,h4,h5,h6] at hR
 have z:∀ n:Nat,(!(n==0))=((n:Int) != 0):=fun n=>by rw [bne,← aZ n 0];rfl
 have y:∀ n:Nat,decide (0<n)=decide ((0:Int)<(n:Int)):=fun n=>by by_cases q:0<n <;> simp [q]
 have YH:=hid y
 rw [z] at h1 h2 h3
 have y6:decide (0<ls.length+ms.length)=decide ((0:Int)<(ls.length:Int)+(ms.length:Int)):=by rw [y];rfl
 rw [y6] at h6
 have G:=hid (And.intro h1 (And.intro h2 (And.intro h3 (And.intro h4 (And.intro h5 h6)))))
 clear y6 y z E ha tl hl h1 h2 h3 h4 h5 h6 b1 lb z1 b2 k2
 cases c0
 rotate_left;cases r1
 rotate_left;cases r2
 rotate_left;cases r3
 rotate_left;cases r4
 rotate_left;cases r5
 rotate_left;cases r6
 all_goals
  simp only [Bool.true_and,Bool.false_and] at hR
  subst hR
  go_enter func28,ntmps28
  go_wp2_with (first | (go_at_call 67;refine NM.out.mono ?_;rintro e w' ⟨rfl,rfl⟩) | (go_at_call 68;refine (mayW_c c2).mono ?_;rintro e w' ⟨rfl,rfl⟩;(try rw [← YH.out]);(first | rw [G.out.1] | rw [G.out.2.1] | rw [G.out.2.2.1] | rw [G.out.2.2.2.1] | rw [G.out.2.2.2.2.1] | rw [G.out.2.2.2.2.2])))
  go_ret
  exact⟨rfl,B2.out⟩
end
end
end Go.Proofs.YtmcfknnfaokmlaaGreat
