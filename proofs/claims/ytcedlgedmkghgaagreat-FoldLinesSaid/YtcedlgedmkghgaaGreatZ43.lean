import Derived.Test.YtcedlgedmkghgaaGreatZ18
import Derived.Test.YtcedlgedmkghgaaGreatZ19
import Derived.Deep.LoopGhost
import Derived.Lib.Overlaps
import Derived.Shelf.Spec.SlicesInsert
import Derived.WalkLawsBesides
namespace Go.Proofs.YtcedlgedmkghgaaGreat
set_option maxHeartbeats 16000000
open Go.Lib Go.Proofs.Tryz
set_option linter.unusedSimpArgs false
set_option maxRecDepth 100000
section
open Go.RowKit Go.Lib
theorem kZ (b:Nat) (w:World):Calls prog 195 #[.float .f64 b] w fun e w'=>e=.returned (.bool (T9.mR b))∧w=w':=by
 go_enter func195,ntmps195
 go_wp2_with (first | (go_at_call 210;refine (float64bits_c _ _).mono ?_;rintro e w' ⟨rfl,rfl⟩) | (go_at_call 128;refine (mK _ _).mono ?_;rintro e w' ⟨rfl,rfl⟩))
 go_ret
 exact⟨rfl,rfl⟩
theorem jm {g:Nat} {all what:Int} {b:Bool} {W:World} (hc:W.cell? ⟨g,0,none⟩=some (.int .i64 all)) (hx:(bits BinOp.and IntKind.i64 all what != 0)=b) :
  Calls prog 194 #[.int .i64 what,.pointer (some ⟨g,0,none⟩)] W fun e w'=>e=.returned (.bool b)∧W=w':=by
 go_enter func194,ntmps194
 go_wp2
 go_ret
 exact⟨rfl,rfl⟩
theorem Hw (w:World):Calls prog 193 #[.int .i64 1] w fun e w'=>e=.returned (.int .i64 10)∧w=w':=by
 go_enter func193,ntmps193
 go_wp2
 go_ret
 exact⟨rfl,rfl⟩
theorem Hy (w:World):Calls prog 193 #[.int .i64 2] w fun e w'=>e=.returned (.int .i64 2)∧w=w':=by
 go_enter func193,ntmps193
 go_wp2
 go_ret
 exact⟨rfl,rfl⟩
theorem Hz (w:World):Calls prog 193 #[.int .i64 3] w fun e w'=>e=.returned (.int .i64 45)∧w=w':=by
 go_enter func193,ntmps193
 go_wp2
 go_ret
 exact⟨rfl,rfl⟩
theorem H7 (w:World):Calls prog 193 #[.int .i64 4] w fun e w'=>e=.returned (.int .i64 12)∧w=w':=by
 go_enter func193,ntmps193
 go_wp2
 go_ret
 exact⟨rfl,rfl⟩
theorem H8 (w:World):Calls prog 193 #[.int .i64 5] w fun e w'=>e=.returned (.int .i64 132)∧w=w':=by
 go_enter func193,ntmps193
 go_wp2
 go_ret
 exact⟨rfl,rfl⟩
theorem H_ (w:World):Calls prog 193 #[.int .i64 6] w fun e w'=>e=.returned (.int .i64 37)∧w=w':=by
 go_enter func193,ntmps193
 go_wp2
 go_ret
 exact⟨rfl,rfl⟩
theorem Ia (w:World):Calls prog 193 #[.int .i64 7] w fun e w'=>e=.returned (.int .i64 36)∧w=w':=by
 go_enter func193,ntmps193
 go_wp2
 go_ret
 exact⟨rfl,rfl⟩
theorem Ib (w:World):Calls prog 193 #[.int .i64 8] w fun e w'=>e=.returned (.int .i64 68)∧w=w':=by
 go_enter func193,ntmps193
 go_wp2
 go_ret
 exact⟨rfl,rfl⟩
theorem Ic (w:World):Calls prog 193 #[.int .i64 9] w fun e w'=>e=.returned (.int .i64 20)∧w=w':=by
 go_enter func193,ntmps193
 go_wp2
 go_ret
 exact⟨rfl,rfl⟩
theorem Ei (w:World):Calls prog 193 #[.int .i64 10] w fun e w'=>e=.returned (.int .i64 20)∧w=w':=by
 go_enter func193,ntmps193
 go_wp2
 go_ret
 exact⟨rfl,rfl⟩
theorem Ej (w:World):Calls prog 193 #[.int .i64 11] w fun e w'=>e=.returned (.int .i64 4)∧w=w':=by
 go_enter func193,ntmps193
 go_wp2
 go_ret
 exact⟨rfl,rfl⟩
theorem El (w:World):Calls prog 193 #[.int .i64 12] w fun e w'=>e=.returned (.int .i64 1)∧w=w':=by
 go_enter func193,ntmps193
 go_wp2
 go_ret
 exact⟨rfl,rfl⟩
theorem Em (w:World):Calls prog 193 #[.int .i64 13] w fun e w'=>e=.returned (.int .i64 1)∧w=w':=by
 go_enter func193,ntmps193
 go_wp2
 go_ret
 exact⟨rfl,rfl⟩
theorem kP {w w1:World} {a b c d e f:Value} (v:Int) (pb:w1.heap[w.heap.size]?=some (.cells #[a,b,c,d,e,f] 65 (0,0))) (b1:Below w.heap.size w w1) :
  ∃ w2,w1.alloc (.cells #[.int .i64 v] 3)=w2∧w2.cell? ⟨w1.heap.size,0,none⟩=some (.int .i64 v)∧(w2.cell? ⟨w.heap.size,0,none⟩=some a∧w2.cell? ⟨w.heap.size,1,none⟩=some b∧w2.cell? ⟨w.heap.size,2,none⟩=some c∧w2.cell? ⟨w.heap.size,3,none⟩=some d∧w2.cell? ⟨w.heap.size,4,none⟩=some e∧w2.cell? ⟨w.heap.size,5,none⟩=some f)∧Hid (Below w.heap.size w w2):=by
 have b2:=(Below.refl _ w1).alloc (Nat.le_refl _) (.cells #[.int .i64 v] 3)
 exact⟨_,rfl,cell_of_one (heap_alloc_new w1 _),ag ((b2.block w.heap.size (lt_of_block pb)).trans pb),hid (b1.trans (b2.mono b1.size))⟩
theorem fF (n:Nat):(Hid (n=0)∧((n:Int) != 0)=false∧((n:Int)==0)=true)∨(Hid (¬ n=0)∧((n:Int) != 0)=true∧((n:Int)==0)=false):=by
 by_cases h:n=0
 ·subst h;exact Or.inl ⟨hid rfl,rfl,rfl⟩
 ·exact Or.inr ⟨hid h,by rw [bne_iff_ne];omega,by rw [beq_eq_false_iff_ne];omega⟩
theorem dR (b:Bool):b=false∨b=true:=by cases b;exact Or.inl rfl;exact Or.inr rfl
theorem pq (b:Bool):(b=false∧(!b)=true)∨(b=true∧(!b)=false):=by cases b;exact Or.inl ⟨rfl,rfl⟩;exact Or.inr ⟨rfl,rfl⟩
theorem qR (l:List UInt8):(Hid (l=[])∧l.isEmpty=true∧(!l.isEmpty)=false)∨(Hid (¬ l=[])∧l.isEmpty=false∧(!l.isEmpty)=true):=by
 cases l with
 | nil=>exact Or.inl ⟨hid rfl,rfl,rfl⟩
 | cons a l=>exact Or.inr ⟨hid (by simp),rfl,rfl⟩
theorem kQ {g:Nat} {all:Int} {b1 b2 b4 b6 b8 b16 Ai b32 Aj nX:Bool} {W:World} (hc:W.cell? ⟨g,0,none⟩=some (.int .i64 all)) (h:[bits BinOp.and IntKind.i64 all 1 != 0,bits BinOp.and IntKind.i64 all 2 != 0,bits BinOp.and IntKind.i64 all 4 != 0,bits BinOp.and IntKind.i64 all 6 != 0,bits BinOp.and IntKind.i64 all 8 != 0,bits BinOp.and IntKind.i64 all 16 != 0,bits BinOp.and IntKind.i64 all 24 != 0,bits BinOp.and IntKind.i64 all 32 != 0,bits BinOp.and IntKind.i64 all 96 != 0,bits BinOp.and IntKind.i64 all 128 != 0]=[b1,b2,b4,b6,b8,b16,Ai,b32,Aj,nX]) :
  Hid (Calls prog 194 #[.int .i64 1,.pointer (some ⟨g,0,none⟩)] W fun e w'=>e=.returned (.bool b1)∧W=w')∧Hid (Calls prog 194 #[.int .i64 2,.pointer (some ⟨g,0,none⟩)] W fun e w'=>e=.returned (.bool b2)∧W=w')∧Hid (Calls prog 194 #[.int .i64 4,.pointer (some ⟨g,0,none⟩)] W fun e w'=>e=.returned (.bool b4)∧W=w')∧Hid (Calls prog 194 #[.int .i64 6,.pointer (some ⟨g,0,none⟩)] W fun e w'=>e=.returned (.bool b6)∧W=w')∧Hid (Calls prog 194 #[.int .i64 8,.pointer (some ⟨g,0,none⟩)] W fun e w'=>e=.returned (.bool b8)∧W=w')∧Hid (Calls prog 194 #[.int .i64 16,.pointer (some ⟨g,0,none⟩)] W fun e w'=>e=.returned (.bool b16)∧W=w')∧Hid (Calls prog 194 #[.int .i64 24,.pointer (some ⟨g,0,none⟩)] W fun e w'=>e=.returned (.bool Ai)∧W=w')∧Hid (Calls prog 194 #[.int .i64 32,.pointer (some ⟨g,0,none⟩)] W fun e w'=>e=.returned (.bool b32)∧W=w')∧Hid (Calls prog 194 #[.int .i64 96,.pointer (some ⟨g,0,none⟩)] W fun e w'=>e=.returned (.bool Aj)∧W=w')∧Hid (Calls prog 194 #[.int .i64 128,.pointer (some ⟨g,0,none⟩)] W fun e w'=>e=.returned (.bool nX)∧W=w'):=by
 simp only [List.cons.injEq,and_true] at h
 obtain⟨h1,h2,h4,h6,h8,h16,h24,h32,h96,h128⟩:=h
 exact⟨hid (jm hc h1),hid (jm hc h2),hid (jm hc h4),hid (jm hc h6),hid (jm hc h8),hid (jm hc h16),hid (jm hc h24),hid (jm hc h32),hid (jm hc h96),hid (jm hc h128)⟩
end
section
open Go.RowKit Go.Lib
theorem cchkA_c {k:Int} {id list f:Nat} {text:List UInt8} {flag:Bool} {w:World} (hk:k=1∨k=2∨k=3) (ht:text.length≤1000000):Calls prog 141 #[.agg #[.int .i64 k,.int .u64 (id:Int),.int .u64 (list:Int),.string (str text),.float .f64 f,.bool flag]] w fun e w'=>e=.returned (.int .i64 (T9.bN ⟨k,id,list,text,f,flag⟩))∧Below w.heap.size w w':=by
 obtain⟨V,hV⟩:∃ v,T9.bN ⟨k,id,list,text,f,flag⟩=v:=⟨_,rfl⟩
 rw [hV]
 obtain⟨c1,hc1⟩:∃ b,T9.mR f=b:=⟨_,rfl⟩
 obtain⟨c2,hc2⟩:∃ b,T9.title text=b:=⟨_,rfl⟩
 obtain⟨c3,hc3⟩:∃ b,T9.tag text=b:=⟨_,rfl⟩
 obtain⟨w1,hw1⟩:∃ u,w.alloc (.cells #[.int .i64 k,.int .u64 (id:Int),.int .u64 (list:Int),.string (str text),.float .f64 f,.bool flag] 65)=u:=⟨_,rfl⟩
 obtain⟨pb,b1,z1⟩:=bu hw1
 obtain⟨p0,p1,p2,p3,p4,p5⟩:=ag pb
 have IC:=hid fun W=>kZ f W
 have TC:=hid fun W=>nu text ht W
 have GC:=hid fun W=>zF text ht W
 have CL:=hid fun W=>fG f W
 rw [hc1] at IC
 rw [hc2] at TC
 rw [hc3] at GC
 have PB:=hid pb
 have B0:=hid b1
 have HC1:=hid hc1
 have De:=hid hc2
 have HC3:=hid hc3
 have HV:=hid hV
 clear pb b1 z1 ht hc1 hc2 hc3 hV
 rcases hk with rfl | rfl | rfl
 have NM:=hid (Hw w1)
 obtain⟨w2,hw2,q0,⟨r0,r1,r2,r3,r4,r5⟩,B1⟩:=kP 10 PB.out B0.out
 obtain⟨N1,N2,N4,N6,N8,oH,oI,oJ,oK,iO⟩:=kQ (b1:=false) (b2:=true) (b4:=false) (b6:=true) (b8:=true) (b16:=false) (Ai:=true) (b32:=false) (Aj:=false) (nX:=false) q0 (by kernel_rfl)
 go_enter func141,ntmps141
 go_wp2_with (go_at_call 193;refine NM.out.mono ?_;rintro e w' ⟨rfl,rfl⟩)
 rcases dR c1 with rfl | rfl
 rotate_left
 go_wp2_with (((go_at_call 195;refine (IC.out _).mono ?_));rintro e w' ⟨rfl,rfl⟩)
 rcases (fF list).symm with⟨iV,jL,jJ⟩ | ⟨iV,jL,jJ⟩
 rotate_left
 go_wp2_with ((first | (with_reducible refine N1.out.mono ?_) | (with_reducible refine N6.out.mono ?_) | (with_reducible refine oI.out.mono ?_));rintro e w' ⟨rfl,rfl⟩)
 rcases pq (Fl.nO f 0) with⟨zf,yf⟩ | ⟨zf,yf⟩
 rotate_left
 go_wp2_with (((with_reducible refine oK.out.mono ?_));rintro e w' ⟨rfl,rfl⟩)
 rcases (dR flag).symm with rfl | rfl
 rotate_left
 go_wp2_with ((first | (with_reducible refine iO.out.mono ?_) | (with_reducible refine N1.out.mono ?_));rintro e w' ⟨rfl,rfl⟩)
 rcases fF id with⟨iU,jK,jI⟩ | ⟨iU,jK,jI⟩
 rotate_left
 go_wp2_with ((first | (with_reducible refine N2.out.mono ?_) | (with_reducible refine N4.out.mono ?_));rintro e w' ⟨rfl,rfl⟩)
 rcases dR c2 with rfl | rfl
 rotate_left
 go_wp2_with ((first | (with_reducible refine N8.out.mono ?_) | (go_at_call 98;refine (TC.out _).mono ?_) | (with_reducible refine oH.out.mono ?_) | (go_at_call 196;refine (GC.out _).mono ?_) | (with_reducible refine oJ.out.mono ?_) | (go_at_call 186;refine (CL.out _).mono ?_));rintro e w' ⟨rfl,rfl⟩)
 rotate_left
 have NM:=hid (Hy w1)
 obtain⟨w2,hw2,q0,⟨r0,r1,r2,r3,r4,r5⟩,B1⟩:=kP 2 PB.out B0.out
 obtain⟨N1,N2,N4,N6,N8,oH,oI,oJ,oK,iO⟩:=kQ (b1:=false) (b2:=true) (b4:=false) (b6:=true) (b8:=false) (b16:=false) (Ai:=false) (b32:=false) (Aj:=false) (nX:=false) q0 (by kernel_rfl)
 go_enter func141,ntmps141
 go_wp2_with (go_at_call 193;refine NM.out.mono ?_;rintro e w' ⟨rfl,rfl⟩)
 rcases dR c1 with rfl | rfl
 rotate_left
 go_wp2_with (((go_at_call 195;refine (IC.out _).mono ?_));rintro e w' ⟨rfl,rfl⟩)
 rcases (fF list).symm with⟨iV,jL,jJ⟩ | ⟨iV,jL,jJ⟩
 rotate_left
 go_wp2_with ((first | (with_reducible refine N1.out.mono ?_) | (with_reducible refine N6.out.mono ?_));rintro e w' ⟨rfl,rfl⟩)
 rcases (qR text).symm with⟨zt,te,te2⟩ | ⟨zt,te,te2⟩
 rotate_left
 go_wp2_with (((with_reducible refine oI.out.mono ?_));rintro e w' ⟨rfl,rfl⟩)
 rcases pq (Fl.nO f 0) with⟨zf,yf⟩ | ⟨zf,yf⟩
 rotate_left
 go_wp2_with (((with_reducible refine oK.out.mono ?_));rintro e w' ⟨rfl,rfl⟩)
 rcases (dR flag).symm with rfl | rfl
 rotate_left
 go_wp2_with ((first | (with_reducible refine iO.out.mono ?_) | (with_reducible refine N1.out.mono ?_));rintro e w' ⟨rfl,rfl⟩)
 rcases fF id with⟨iU,jK,jI⟩ | ⟨iU,jK,jI⟩
 rotate_left
 go_wp2_with ((first | (with_reducible refine N2.out.mono ?_) | (with_reducible refine N4.out.mono ?_) | (with_reducible refine N8.out.mono ?_) | (go_at_call 98;refine (TC.out _).mono ?_) | (with_reducible refine oH.out.mono ?_) | (go_at_call 196;refine (GC.out _).mono ?_) | (with_reducible refine oJ.out.mono ?_) | (go_at_call 186;refine (CL.out _).mono ?_));rintro e w' ⟨rfl,rfl⟩)
 rotate_left
 have NM:=hid (Hz w1)
 obtain⟨w2,hw2,q0,⟨r0,r1,r2,r3,r4,r5⟩,B1⟩:=kP 45 PB.out B0.out
 obtain⟨N1,N2,N4,N6,N8,oH,oI,oJ,oK,iO⟩:=kQ (b1:=true) (b2:=false) (b4:=true) (b6:=true) (b8:=true) (b16:=false) (Ai:=true) (b32:=true) (Aj:=true) (nX:=false) q0 (by kernel_rfl)
 go_enter func141,ntmps141
 go_wp2_with (go_at_call 193;refine NM.out.mono ?_;rintro e w' ⟨rfl,rfl⟩)
 rcases dR c1 with rfl | rfl
 rotate_left
 go_wp2_with ((first | (go_at_call 195;refine (IC.out _).mono ?_) | (with_reducible refine N1.out.mono ?_) | (with_reducible refine N6.out.mono ?_) | (with_reducible refine oI.out.mono ?_) | (with_reducible refine oK.out.mono ?_));rintro e w' ⟨rfl,rfl⟩)
 rcases (dR flag).symm with rfl | rfl
 rotate_left
 go_wp2_with (((with_reducible refine iO.out.mono ?_));rintro e w' ⟨rfl,rfl⟩)
 rcases fF list with⟨iV,jL,jJ⟩ | ⟨iV,jL,jJ⟩
 rotate_left
 go_wp2_with ((first | (with_reducible refine N1.out.mono ?_) | (with_reducible refine N2.out.mono ?_));rintro e w' ⟨rfl,rfl⟩)
 rcases fF id with⟨iU,jK,jI⟩ | ⟨iU,jK,jI⟩
 rotate_left
 go_wp2_with (((with_reducible refine N4.out.mono ?_));rintro e w' ⟨rfl,rfl⟩)
 rcases dR c2 with rfl | rfl
 rotate_left
 go_wp2_with ((first | (with_reducible refine N8.out.mono ?_) | (go_at_call 98;refine (TC.out _).mono ?_) | (with_reducible refine oH.out.mono ?_) | (go_at_call 196;refine (GC.out _).mono ?_));rintro e w' ⟨rfl,rfl⟩)
 rcases (dR (Fl.dw f)).symm with zn | zn
 rotate_left
 go_wp2_with ((first | (with_reducible refine oJ.out.mono ?_) | (go_at_call 186;refine (CL.out _).mono ?_));rintro e w' ⟨rfl,rfl⟩)
 rotate_left
 all_goals
  try go_wp2_with ((first | (go_at_call 195;refine (IC.out _).mono ?_) | (with_reducible refine N1.out.mono ?_) | (with_reducible refine N2.out.mono ?_) | (with_reducible refine N4.out.mono ?_) | (with_reducible refine N6.out.mono ?_) | (with_reducible refine N8.out.mono ?_) | (with_reducible refine oH.out.mono ?_) | (with_reducible refine oI.out.mono ?_) | (with_reducible refine oJ.out.mono ?_) | (with_reducible refine oK.out.mono ?_) | (with_reducible refine iO.out.mono ?_) | (go_at_call 98;refine (TC.out _).mono ?_) | (go_at_call 196;refine (GC.out _).mono ?_) | (go_at_call 186;refine (CL.out _).mono ?_));rintro e w' ⟨rfl,rfl⟩)
  go_ret
  have hV:=HV.out
  have q1:=HC1.out
  have q2:=De.out
  have q3:=HC3.out
  try have z1:=iU.out
  try have z2:=iV.out
  try have z3:=zt.out
  simp [T9.bN,T9.extra,T9.nId,T9.nT,T9.o_,T9.nF,T9.tq,T9.ofL,T9.qw, *] at hV
  subst hV
  exact⟨rfl,B1.out⟩
end
section
open Go.RowKit Go.Lib
theorem cchkB_c {k:Int} {id list f:Nat} {text:List UInt8} {flag:Bool} {w:World} (hk:k=4∨k=5∨k=6) (ht:text.length≤1000000):Calls prog 141 #[.agg #[.int .i64 k,.int .u64 (id:Int),.int .u64 (list:Int),.string (str text),.float .f64 f,.bool flag]] w fun e w'=>e=.returned (.int .i64 (T9.bN ⟨k,id,list,text,f,flag⟩))∧Below w.heap.size w w':=by
 obtain⟨V,hV⟩:∃ v,T9.bN ⟨k,id,list,text,f,flag⟩=v:=⟨_,rfl⟩
 rw [hV]
 obtain⟨c1,hc1⟩:∃ b,T9.mR f=b:=⟨_,rfl⟩
 obtain⟨c2,hc2⟩:∃ b,T9.title text=b:=⟨_,rfl⟩
 obtain⟨c3,hc3⟩:∃ b,T9.tag text=b:=⟨_,rfl⟩
 obtain⟨w1,hw1⟩:∃ u,w.alloc (.cells #[.int .i64 k,.int .u64 (id:Int),.int .u64 (list:Int),.string (str text),.float .f64 f,.bool flag] 65)=u:=⟨_,rfl⟩
 obtain⟨pb,b1,z1⟩:=bu hw1
 obtain⟨p0,p1,p2,p3,p4,p5⟩:=ag pb
 have IC:=hid fun W=>kZ f W
 have TC:=hid fun W=>nu text ht W
 have GC:=hid fun W=>zF text ht W
 have CL:=hid fun W=>fG f W
 rw [hc1] at IC
 rw [hc2] at TC
 rw [hc3] at GC
 have PB:=hid pb
 have B0:=hid b1
 have HC1:=hid hc1
 have De:=hid hc2
 have HC3:=hid hc3
 have HV:=hid hV
 clear pb b1 z1 ht hc1 hc2 hc3 hV
 rcases hk with rfl | rfl | rfl
 have NM:=hid (H7 w1)
 obtain⟨w2,hw2,q0,⟨r0,r1,r2,r3,r4,r5⟩,B1⟩:=kP 12 PB.out B0.out
 obtain⟨N1,N2,N4,N6,N8,oH,oI,oJ,oK,iO⟩:=kQ (b1:=false) (b2:=false) (b4:=true) (b6:=true) (b8:=true) (b16:=false) (Ai:=true) (b32:=false) (Aj:=false) (nX:=false) q0 (by kernel_rfl)
 go_enter func141,ntmps141
 go_wp2_with (go_at_call 193;refine NM.out.mono ?_;rintro e w' ⟨rfl,rfl⟩)
 rcases dR c1 with rfl | rfl
 rotate_left
 go_wp2_with (((go_at_call 195;refine (IC.out _).mono ?_));rintro e w' ⟨rfl,rfl⟩)
 rcases (fF list).symm with⟨iV,jL,jJ⟩ | ⟨iV,jL,jJ⟩
 rotate_left
 go_wp2_with ((first | (with_reducible refine N1.out.mono ?_) | (with_reducible refine N6.out.mono ?_) | (with_reducible refine oI.out.mono ?_));rintro e w' ⟨rfl,rfl⟩)
 rcases pq (Fl.nO f 0) with⟨zf,yf⟩ | ⟨zf,yf⟩
 rotate_left
 go_wp2_with (((with_reducible refine oK.out.mono ?_));rintro e w' ⟨rfl,rfl⟩)
 rcases (dR flag).symm with rfl | rfl
 rotate_left
 go_wp2_with ((first | (with_reducible refine iO.out.mono ?_) | (with_reducible refine N1.out.mono ?_) | (with_reducible refine N2.out.mono ?_));rintro e w' ⟨rfl,rfl⟩)
 rcases fF id with⟨iU,jK,jI⟩ | ⟨iU,jK,jI⟩
 rotate_left
 go_wp2_with (((with_reducible refine N4.out.mono ?_));rintro e w' ⟨rfl,rfl⟩)
 rcases dR c2 with rfl | rfl
 rotate_left
 go_wp2_with ((first | (with_reducible refine N8.out.mono ?_) | (go_at_call 98;refine (TC.out _).mono ?_) | (with_reducible refine oH.out.mono ?_) | (go_at_call 196;refine (GC.out _).mono ?_) | (with_reducible refine oJ.out.mono ?_) | (go_at_call 186;refine (CL.out _).mono ?_));rintro e w' ⟨rfl,rfl⟩)
 rotate_left
 have NM:=hid (H8 w1)
 obtain⟨w2,hw2,q0,⟨r0,r1,r2,r3,r4,r5⟩,B1⟩:=kP 132 PB.out B0.out
 obtain⟨N1,N2,N4,N6,N8,oH,oI,oJ,oK,iO⟩:=kQ (b1:=false) (b2:=false) (b4:=true) (b6:=true) (b8:=false) (b16:=false) (Ai:=false) (b32:=false) (Aj:=false) (nX:=true) q0 (by kernel_rfl)
 go_enter func141,ntmps141
 go_wp2_with (go_at_call 193;refine NM.out.mono ?_;rintro e w' ⟨rfl,rfl⟩)
 rcases dR c1 with rfl | rfl
 rotate_left
 go_wp2_with (((go_at_call 195;refine (IC.out _).mono ?_));rintro e w' ⟨rfl,rfl⟩)
 rcases (fF list).symm with⟨iV,jL,jJ⟩ | ⟨iV,jL,jJ⟩
 rotate_left
 go_wp2_with ((first | (with_reducible refine N1.out.mono ?_) | (with_reducible refine N6.out.mono ?_));rintro e w' ⟨rfl,rfl⟩)
 rcases (qR text).symm with⟨zt,te,te2⟩ | ⟨zt,te,te2⟩
 rotate_left
 go_wp2_with (((with_reducible refine oI.out.mono ?_));rintro e w' ⟨rfl,rfl⟩)
 rcases pq (Fl.nO f 0) with⟨zf,yf⟩ | ⟨zf,yf⟩
 rotate_left
 go_wp2_with ((first | (with_reducible refine oK.out.mono ?_) | (with_reducible refine iO.out.mono ?_) | (with_reducible refine N1.out.mono ?_) | (with_reducible refine N2.out.mono ?_));rintro e w' ⟨rfl,rfl⟩)
 rcases fF id with⟨iU,jK,jI⟩ | ⟨iU,jK,jI⟩
 rotate_left
 go_wp2_with ((first | (with_reducible refine N4.out.mono ?_) | (with_reducible refine N8.out.mono ?_) | (go_at_call 98;refine (TC.out _).mono ?_) | (with_reducible refine oH.out.mono ?_) | (go_at_call 196;refine (GC.out _).mono ?_) | (with_reducible refine oJ.out.mono ?_) | (go_at_call 186;refine (CL.out _).mono ?_));rintro e w' ⟨rfl,rfl⟩)
 rotate_left
 have NM:=hid (H_ w1)
 obtain⟨w2,hw2,q0,⟨r0,r1,r2,r3,r4,r5⟩,B1⟩:=kP 37 PB.out B0.out
 obtain⟨N1,N2,N4,N6,N8,oH,oI,oJ,oK,iO⟩:=kQ (b1:=true) (b2:=false) (b4:=true) (b6:=true) (b8:=false) (b16:=false) (Ai:=false) (b32:=true) (Aj:=true) (nX:=false) q0 (by kernel_rfl)
 go_enter func141,ntmps141
 go_wp2_with (go_at_call 193;refine NM.out.mono ?_;rintro e w' ⟨rfl,rfl⟩)
 rcases dR c1 with rfl | rfl
 rotate_left
 go_wp2_with ((first | (go_at_call 195;refine (IC.out _).mono ?_) | (with_reducible refine N1.out.mono ?_) | (with_reducible refine N6.out.mono ?_));rintro e w' ⟨rfl,rfl⟩)
 rcases (qR text).symm with⟨zt,te,te2⟩ | ⟨zt,te,te2⟩
 rotate_left
 go_wp2_with ((first | (with_reducible refine oI.out.mono ?_) | (with_reducible refine oK.out.mono ?_));rintro e w' ⟨rfl,rfl⟩)
 rcases (dR flag).symm with rfl | rfl
 rotate_left
 go_wp2_with (((with_reducible refine iO.out.mono ?_));rintro e w' ⟨rfl,rfl⟩)
 rcases fF list with⟨iV,jL,jJ⟩ | ⟨iV,jL,jJ⟩
 rotate_left
 go_wp2_with ((first | (with_reducible refine N1.out.mono ?_) | (with_reducible refine N2.out.mono ?_));rintro e w' ⟨rfl,rfl⟩)
 rcases fF id with⟨iU,jK,jI⟩ | ⟨iU,jK,jI⟩
 rotate_left
 go_wp2_with ((first | (with_reducible refine N4.out.mono ?_) | (with_reducible refine N8.out.mono ?_) | (go_at_call 98;refine (TC.out _).mono ?_) | (with_reducible refine oH.out.mono ?_) | (go_at_call 196;refine (GC.out _).mono ?_));rintro e w' ⟨rfl,rfl⟩)
 rcases (dR (Fl.dw f)).symm with zn | zn
 rotate_left
 go_wp2_with ((first | (with_reducible refine oJ.out.mono ?_) | (go_at_call 186;refine (CL.out _).mono ?_));rintro e w' ⟨rfl,rfl⟩)
 rotate_left
 all_goals
  try go_wp2_with ((first | (go_at_call 195;refine (IC.out _).mono ?_) | (with_reducible refine N1.out.mono ?_) | (with_reducible refine N2.out.mono ?_) | (with_reducible refine N4.out.mono ?_) | (with_reducible refine N6.out.mono ?_) | (with_reducible refine N8.out.mono ?_) | (with_reducible refine oH.out.mono ?_) | (with_reducible refine oI.out.mono ?_) | (with_reducible refine oJ.out.mono ?_) | (with_reducible refine oK.out.mono ?_) | (with_reducible refine iO.out.mono ?_) | (go_at_call 98;refine (TC.out _).mono ?_) | (go_at_call 196;refine (GC.out _).mono ?_) | (go_at_call 186;refine (CL.out _).mono ?_));rintro e w' ⟨rfl,rfl⟩)
  go_ret
  have hV:=HV.out
  have q1:=HC1.out
  have q2:=De.out
  have q3:=HC3.out
  try have z1:=iU.out
  try have z2:=iV.out
  try have z3:=zt.out
  simp [T9.bN,T9.extra,T9.nId,T9.nT,T9.o_,T9.nF,T9.tq,T9.ofL,T9.qw, *] at hV
  subst hV
  exact⟨rfl,B1.out⟩
end
end Go.Proofs.YtcedlgedmkghgaaGreat
