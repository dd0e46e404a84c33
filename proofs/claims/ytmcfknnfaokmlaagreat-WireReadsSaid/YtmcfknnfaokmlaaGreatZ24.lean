import Derived.Test.YtmcfknnfaokmlaaGreatZ16
import Derived.Test.YtmcfknnfaokmlaaGreatZ21
import Derived.Test.YtmcfknnfaokmlaaGreatZ2
import Derived.Test.YtmcfknnfaokmlaaGreatZ15
import Derived.StillTailTactics
import Derived.Deep.RegionHeld3
namespace Go.Proofs.YtmcfknnfaokmlaaGreat
set_option maxHeartbeats 16000000
open Go.Lib Go.Proofs.Tryz
set_option linter.unusedSimpArgs false
set_option maxRecDepth 100000
section
section
section
namespace T9
def many {α:Type} (f:Option (List UInt8)→α × Option (List UInt8)):Nat→Option (List UInt8)→List α × Option (List UInt8)
 | 0,s=>([],s)
 | n+1,s=>((f s).1 :: (many f n (f s).2).1,(many f n (f s).2).2)
theorem aY {α:Type} (f:Option (List UInt8)→α × Option (List UInt8)):∀ (n:Nat) (s:Option (List UInt8)),many f (n+1) s=((many f n s).1++[(f (many f n s).2).1],(f (many f n s).2).2)
 | 0,s=>rfl
 | n+1,s=>by
  show ((f s).1 :: (many f (n+1) (f s).2).1,(many f (n+1) (f s).2).2)=_
  rw [aY f n (f s).2]
  rfl
theorem bL {α:Type} (f:Option (List UInt8)→α × Option (List UInt8)):∀ (n:Nat) (s:Option (List UInt8)),(many f n s).1.length=n
 | 0,_=>rfl
 | n+1,s=>by show ((many f n (f s).2).1.length+1)=_;rw [bL f n]
def bf (s:Option (List UInt8)):Li × Option (List UInt8) :=
 (⟨(Cd.aS Cd.full s).1,(Cd.bQ 60 (Cd.aS Cd.full s).2).1⟩,(Cd.bQ 60 (Cd.aS Cd.full s).2).2)
def s1 (s:Option (List UInt8)):=(Cd.aS Cd.full s).2
def s2 (s:Option (List UInt8)):=(Cd.aS Cd.full (s1 s)).2
def s3 (s:Option (List UInt8)):=(Cd.bQ 60 (s2 s)).2
def s4 (s:Option (List UInt8)):=(Cd.kz (s3 s)).2
def s5 (s:Option (List UInt8)):=(Cd.jg (s4 s)).2
def s6 (s:Option (List UInt8)):=(Cd.jg (s5 s)).2
def s7 (s:Option (List UInt8)):=(Cd.aS 60 (s6 s)).2
def nY (s:Option (List UInt8)):=(Cd.aS 60 (s6 s)).1
def eU (s:Option (List UInt8)):Tk × Option (List UInt8) :=
 (⟨(Cd.aS Cd.full s).1,(Cd.aS Cd.full (s1 s)).1,(Cd.bQ 60 (s2 s)).1,(Cd.kz (s3 s)).1,(Cd.jg (s4 s)).1,(Cd.jg (s5 s)).1,(many (Cd.bQ 60) (nY s) (s7 s)).1⟩,(many (Cd.bQ 60) (nY s) (s7 s)).2)
def qa (s:Option (List UInt8)):St × Option (List UInt8) :=
 let a:=Cd.aS 60 s
 let ls:=many bf a.1 a.2
 let b:=Cd.aS 60 ls.2
 let ts:=many eU b.1 b.2
 (⟨ls.1,ts.1⟩,ts.2)
def of (b:List UInt8):St × Int:=if (qa (some b)).2=some []∧aH (qa (some b)).1=0 then ((qa (some b)).1,0) else (⟨[],[]⟩,90)
theorem rdF_key {a:Nat} (h:a<18446744073709551616) (t:List UInt8):Cd.jg (some (Cd.fix (Fl.key a).toNat 8++t))=(Fl.canon a,some t):=by
 have q:=Fl.fit_key h
 unfold Cd.jg
 rw [Cd.rdW_fix (by omega) (Cd.key_pow a)]
 simp only [Cd.key_nat,q.1,q.2,if_true]
end T9
end
section
namespace T9
theorem pI:∀ {ls:List Li} {a:Nat},aR a ls=0→∀ l∈ls,title l.name=true
 | [],_,_,_,hm=>by cases hm
 | x :: ls,a,h,l,hm=>by
  unfold aR at h
  by_cases h1:x.id≤a
  ·rw [if_pos h1] at h;omega
  rw [if_neg h1] at h
  by_cases h2:title x.name=false
  ·rw [if_pos h2] at h;omega
  rw [if_neg h2] at h
  rcases List.mem_cons.1 hm with rfl | q
  ·simpa using h2
  ·exact pI h l q
theorem qE {ls:List Li}:∀ {ts:List Tk} {a:Nat},aV ls a ts=0→∀ t∈ts,aB t=0
 | [],_,_,_,hm=>by cases hm
 | x :: ts,a,h,t,hm=>by
  unfold aV at h
  by_cases h1:x.id≤a
  ·rw [if_pos h1] at h;omega
  rw [if_neg h1] at h
  by_cases h2:(ls.any fun l=>l.id==x.list)=false
  ·rw [if_pos h2] at h;omega
  rw [if_neg h2] at h
  by_cases h3:aB x≠0
  ·rw [if_pos h3] at h;exact absurd h h3
  rw [if_neg h3] at h
  rcases List.mem_cons.1 hm with rfl | q
  ·exact Decidable.not_not.1 h3
  ·exact qE h t q
theorem lh:∀ {ts:List (List UInt8)} {a:List UInt8},bH a ts=true→∀ t∈ts,tag t=true
 | [],_,_,_,hm=>by cases hm
 | x :: ts,a,h,t,hm=>by
  unfold bH at h
  simp only [Bool.and_eq_true] at h
  rcases List.mem_cons.1 hm with rfl | q
  ·exact h.1.1
  ·exact lh h.2 t q
theorem iK {l:List UInt8} (h:title l=true):l.length≤60:=by
 unfold title at h
 simp only [Bool.and_eq_true,decide_eq_true_eq] at h
 exact h.1.2
theorem yt {l:List UInt8} (h:tag l=true):l.length≤16:=by
 unfold tag at h
 simp only [Bool.and_eq_true,decide_eq_true_eq] at h
 exact h.1.2
theorem isC_eq {b:Nat} (h:jr b=true):Fl.canon b=b:=by
 unfold jr Fl.I at h
 simp only [beq_iff_eq] at h
 omega
theorem fV {t:Tk} (h:aB t=0):t.title.length≤60∧jr t.rank=true∧jr t.est=true∧t.tags.length≤4∧bH [] t.tags=true:=by
 unfold aB at h
 by_cases h1:title t.title=false
 ·rw [if_pos h1] at h;omega
 rw [if_neg h1] at h
 by_cases h2:(Fl.bK t.rank || !jr t.rank)=true
 ·rw [if_pos h2] at h;omega
 rw [if_neg h2] at h
 by_cases h3:jr t.est=false
 ·rw [if_pos h3] at h;omega
 rw [if_neg h3] at h
 by_cases h4:4<t.tags.length
 ·rw [if_pos h4] at h;omega
 rw [if_neg h4] at h
 by_cases h5:bH [] t.tags=true
 ·exact⟨iK (by simpa using h1),by simp at h2;exact h2.2,by simpa using h3,by omega,h5⟩
 ·rw [if_neg h5] at h;omega
theorem nU {s:St} (h:aH s=0):s.lists.length≤20∧s.tasks.length≤60∧(∀ l∈s.lists,l.name.length≤60)∧∀ t∈s.tasks,aB t=0:=by
 unfold aH at h
 by_cases h1:20<s.lists.length∨60<s.tasks.length
 ·rw [if_pos h1] at h;omega
 rw [if_neg h1] at h
 by_cases h2:aR 0 s.lists≠0
 ·rw [if_pos h2] at h;exact absurd h h2
 rw [if_neg h2] at h
 exact⟨by omega,by omega,fun l hl=>iK (pI (Decidable.not_not.1 h2) l hl),qE h⟩
end T9
end
end
section
open Go.RowKit Go.Lib
@[go_sem] theorem buildK9n (n : Int) (w : World) : (Instr.build 97 #[(0, .int .u64 n)]).run prog w = .ok (.agg #[.int .u64 n, .int .u64 0, .string ⟨#[]⟩, .bool false, .float .f64 0, .float .f64 0, .slice none 0 0]) w := run_build w 97 _ _ (by kernel_rfl)
theorem aQ:(18446744073709551615:Int).toNat=Cd.full:=by unfold Cd.full;rfl
theorem RS.nC {B p:Nat} {tb:TypeId} {w:World} {s:Option (List UInt8)} (h:RS 147 B tb w p s) {g:Nat} (ht:Ty w g 97) (hB:B≤g) (h2:tb≠97) (i:Nat) (u:Value):RS 147 B tb (w.setCell ⟨g,i,none⟩ u) p s :=
 h.cZ ((aG.refl B [97] w).bB (p:=⟨g,i,none⟩) ht (by simp) hB u) (by decide) (by simpa using h2)
theorem aG.zero {B:Nat} {ts:List TypeId} {w w':World} (h:aG B ts w w'):aG 0 ts w w':=⟨h.below.mono (Nat.zero_le _),h.typed⟩
def TkOk (B p:Nat) (s:Option (List UInt8)) (w:World) (e:Ending) (w':World):Prop :=
 ∃ m:fJ,e=.returned (.agg (dO m).toArray)∧m.t=(T9.eU s).1∧av w' 0 9 m.A (dA m.t.tags)∧m.t.tags.length≤m.c∧RS 147 B 5 w' p (T9.eU s).2∧aG B [147] w w'
theorem fD (s:Option (List UInt8)):St.jO s (Cd.aS Cd.full s).2:=St.bN _ s
theorem j_:∀ (n:Nat) (s:Option (List UInt8)),St.jO s (T9.many (Cd.bQ 60) n s).2
 | 0,_=>fun t ht=>⟨t,ht,Nat.le_refl _⟩
 | n+1,s=>(St.nX 60 s).trans (j_ n _)
theorem jK (s:Option (List UInt8)):St.jO s (Cd.jg s).2:=fun t ht=>by
 unfold Cd.jg at ht
 cases q:(Cd.eZ 8 s).2 with
 | none=>rw [q] at ht;simp at ht
 | some u =>
  rw [q] at ht
  dsimp only at ht
  split at ht
  ·injection ht with ht
   subst ht
   cases s with
   | none=>simp [Cd.eZ] at q
   | some l =>
    by_cases h8:8≤l.length
    ·simp only [Cd.eZ,if_pos h8,Option.some.injEq] at q
     exact⟨l,rfl,by rw [← q,List.length_drop];omega⟩
    ·simp [Cd.eZ,if_neg h8] at q
  ·cases ht
theorem xY {B p:Nat} {s:Option (List UInt8)} {w:World} (h:RS 147 B 5 w p s) (hl:∀ l,s=some l→l.length≤1099511627776) :
  Calls prog 140 #[.pointer (some ⟨p,0,none⟩)] w (TkOk B p s w):=by
 have hBs:=h.size
 have BS:=hid hBs
 obtain⟨w0,hw0⟩:∃ u,w.alloc (.cells #[.int .u64 0,.int .u64 0,.string ⟨#[]⟩,.bool false,.float .f64 0,.float .f64 0,.slice none 0 0] 97)=u:=⟨_,rfl⟩
 obtain⟨kK,b0,z0⟩:=bP hw0
 have R0:Hid (RS 147 B 5 w0 p s):=hid (by rw [← hw0];exact h.alloc _)
 have qH:=hid kK
 have Tw0:Hid (aG B [147] w w0):=hid (aG.of_below b0 hBs _)
 have Z0:=hid z0
 have L0:=hid hl
 have N1:=hid (eG (mz:=18446744073709551615) R0.out (by decide) L0.out (by decide))
 rw [aQ] at N1
 clear h hl kK b0 z0 hBs
 go_enter func140,ntmps140
 go_wp2_with fail
 refine N1.out.mono ?_
 rintro e w1 ⟨rfl,hr,ht⟩
 obtain⟨i0,hi0⟩:∃ v,v=(Cd.aS Cd.full s).1:=⟨_,rfl⟩
 rw [← hi0]
 have I0:=hid hi0
 have qJ:=hid (fD s)
 have hr:RS 147 B 5 w1 p (T9.s1 s):=hr
 have oI:=hid (ht.blk qH.out (by decide))
 have Tw1:=hid (Tw0.out.trans ht)
 clear hw0 hi0
 go_wp2_with fail
 obtain⟨w2,hw2⟩:∃ u,w1.alloc (.cells #[.int .u64 (i0:Int),.int .u64 0,.string ⟨#[]⟩,.bool false,.float .f64 0,.float .f64 0,.slice none 0 0] 97)=u:=⟨_,rfl⟩
 rw [hw2]
 obtain⟨lb2,b2,z2⟩:=bP hw2
 have GZ:Hid (w.heap.size+1≤w1.heap.size):=hid (by have:=lt_of_block oI.out;omega)
 have R2:Hid (RS 147 B 5 w2 p (T9.s1 s)):=hid (by rw [← hw2];exact hr.alloc _)
 have xk:Hid (aG B [147] w w2):=hid (by rw [← hw2];exact Tw1.out.alloc (by have:=GZ.out;have:=BS.out;omega) _)
 have zG:=hid (ah oI.out b2)
 have LB2:=hid lb2
 clear hr ht lb2 b2 z2
 have C1:=hid (eG (mz:=18446744073709551615) R2.out (by decide) (qJ.out.bound L0.out) (by decide))
 rw [aQ] at C1
 refine C1.out.mono ?_
 rintro e w3 ⟨rfl,hr,ht⟩
 obtain⟨i1,hi1⟩:∃ v,v=(Cd.aS Cd.full (T9.s1 s)).1:=⟨_,rfl⟩
 rw [← hi1]
 have I1:=hid hi1
 have hr:RS 147 B 5 w3 p (T9.s2 s):=hr
 have pE:=ht.blk LB2.out (by decide)
 have nk:=ht.blk zG.out (by decide)
 have yD:=hid (xk.out.trans ht)
 have y1:Ty w3 w1.heap.size 97:=⟨_,_,pE⟩
 obtain⟨c30,c31,c32,c33,c34,c35,c36⟩:=ak pE
 have f3:=aa pE 1
 obtain⟨w4,hw4⟩:∃ u,w3.setCell ⟨w1.heap.size,1,none⟩ (.int .u64 (i1:Int))=u:=⟨_,rfl⟩
 have LB4:Hid (w4.heap[w1.heap.size]?=some (.cells #[.int .u64 (i0:Int),.int .u64 (i1:Int),.string ⟨#[]⟩,.bool false,.float .f64 0,.float .f64 0,.slice none 0 0] 97 (0,0))):=hid (by rw [← hw4];exact (ae pE 1 (.int .u64 (i1:Int))).trans rfl)
 have RB4:Hid (w4.heap[w.heap.size]?=some (.cells #[.int .u64 0,.int .u64 0,.string ⟨#[]⟩,.bool false,.float .f64 0,.float .f64 0,.slice none 0 0] 97 (0,0))):=hid (by rw [← hw4];exact aI nk (p:=⟨w1.heap.size,1,none⟩) (by have:=GZ.out;show w.heap.size≠w1.heap.size;omega) (.int .u64 (i1:Int)))
 have R4:Hid (RS 147 B 5 w4 p (T9.s2 s)):=hid (by rw [← hw4];exact hr.nC y1 (by have:=GZ.out;have:=BS.out;omega) (by decide) _ _)
 have zH:Hid (aG B [147] w w4):=hid (by rw [← hw4];exact yD.out.bU (p:=⟨w1.heap.size,1,none⟩) (by have:=GZ.out;show w.heap.size≤w1.heap.size;omega) BS.out _)
 have rA:=hid (qJ.out.trans (fD (T9.s1 s)))
 clear hr ht hi1 pE nk y1
 have C2:=hid (pY (mz:=60) R4.out (by decide) (rA.out.bound L0.out) (by decide) (by decide))
 go_wp2_with fail
 refine C2.out.mono ?_
 rintro e w5 ⟨Ab,nb,cb,rfl,eT,hr,ht⟩
 obtain⟨hnb,_⟩:=aA eT
 obtain⟨i2,hi2⟩:∃ v,v=(Cd.bQ 60 (T9.s2 s)).1:=⟨_,rfl⟩
 have cv:=bR (c:=cb) (aD (B:=0) (t:=5) eT) hnb
 rw [show (Cd.bQ (60:Int).toNat (T9.s2 s)).1=i2 from hi2.symm] at cv
 have I2:=hid hi2
 have hr:RS 147 B 5 w5 p (T9.s3 s):=hr
 have CJ:=ht.blk LB4.out (by decide)
 have rb5:=ht.blk RB4.out (by decide)
 have A_:=hid (zH.out.trans ht)
 have y2:Ty w5 w1.heap.size 97:=⟨_,_,CJ⟩
 obtain⟨c50,c51,c52,c53,c54,c55,c56⟩:=ak CJ
 have f5:=aa CJ 2
 obtain⟨w6,zW⟩:∃ u,w5.setCell ⟨w1.heap.size,2,none⟩ (.string (str i2))=u:=⟨_,rfl⟩
 have AU:Hid (w6.heap[w1.heap.size]?=some (.cells #[.int .u64 (i0:Int),.int .u64 (i1:Int),.string (str i2),.bool false,.float .f64 0,.float .f64 0,.slice none 0 0] 97 (0,0))):=hid (by rw [← zW];exact (ae CJ 2 (.string (str i2))).trans rfl)
 have BG:Hid (w6.heap[w.heap.size]?=some (.cells #[.int .u64 0,.int .u64 0,.string ⟨#[]⟩,.bool false,.float .f64 0,.float .f64 0,.slice none 0 0] 97 (0,0))):=hid (by rw [← zW];exact aI rb5 (p:=⟨w1.heap.size,2,none⟩) (by have:=GZ.out;show w.heap.size≠w1.heap.size;omega) (.string (str i2)))
 have R6:Hid (RS 147 B 5 w6 p (T9.s3 s)):=hid (by rw [← zW];exact hr.nC y2 (by have:=GZ.out;have:=BS.out;omega) (by decide) _ _)
 have BK:Hid (aG B [147] w w6):=hid (by rw [← zW];exact A_.out.bU (p:=⟨w1.heap.size,2,none⟩) (by have:=GZ.out;show w.heap.size≤w1.heap.size;omega) BS.out _)
 have uL:=hid (rA.out.trans (St.nX 60 (T9.s2 s)))
 clear hr ht hi2 CJ rb5 y2 eT hnb
 have C3:=hid (rG_rd R6.out (by decide) (uL.out.bound L0.out))
 go_wp2_with fail
 refine C3.out.mono ?_
 rintro e w7 ⟨rfl,hr,ht⟩
 obtain⟨i3,hi3⟩:∃ v,v=(Cd.kz (T9.s3 s)).1:=⟨_,rfl⟩
 rw [← hi3]
 have I3:=hid hi3
 have hr:RS 147 B 5 w7 p (T9.s4 s):=hr
 have CO:=ht.blk AU.out (by decide)
 have rb7:=ht.blk BG.out (by decide)
 have BL:=hid (BK.out.trans ht)
 have y3:Ty w7 w1.heap.size 97:=⟨_,_,CO⟩
 obtain⟨c70,c71,c72,c73,c74,c75,c76⟩:=ak CO
 have f7:=aa CO 3
 obtain⟨w8,hw8⟩:∃ u,w7.setCell ⟨w1.heap.size,3,none⟩ (.bool i3)=u:=⟨_,rfl⟩
 have nL:Hid (w8.heap[w1.heap.size]?=some (.cells #[.int .u64 (i0:Int),.int .u64 (i1:Int),.string (str i2),.bool i3,.float .f64 0,.float .f64 0,.slice none 0 0] 97 (0,0))):=hid (by rw [← hw8];exact (ae CO 3 (.bool i3)).trans rfl)
 have xe:Hid (w8.heap[w.heap.size]?=some (.cells #[.int .u64 0,.int .u64 0,.string ⟨#[]⟩,.bool false,.float .f64 0,.float .f64 0,.slice none 0 0] 97 (0,0))):=hid (by rw [← hw8];exact aI rb7 (p:=⟨w1.heap.size,3,none⟩) (by have:=GZ.out;show w.heap.size≠w1.heap.size;omega) (.bool i3))
 have R8:Hid (RS 147 B 5 w8 p (T9.s4 s)):=hid (by rw [← hw8];exact hr.nC y3 (by have:=GZ.out;have:=BS.out;omega) (by decide) _ _)
 have BM:Hid (aG B [147] w w8):=hid (by rw [← hw8];exact BL.out.bU (p:=⟨w1.heap.size,3,none⟩) (by have:=GZ.out;show w.heap.size≤w1.heap.size;omega) BS.out _)
 have uM:=hid (uL.out.trans (St.wG (T9.s3 s)))
 clear hr ht hi3 CO rb7 y3
 have C4:=hid (Dy R8.out (by decide) (uM.out.bound L0.out))
 go_wp2_with fail
 refine C4.out.mono ?_
 rintro e w9 ⟨rfl,hr,ht⟩
 obtain⟨i4,hi4⟩:∃ v,v=(Cd.jg (T9.s4 s)).1:=⟨_,rfl⟩
 rw [← hi4]
 have I4:=hid hi4
 have hr:RS 147 B 5 w9 p (T9.s5 s):=hr
 have zY:=ht.blk nL.out (by decide)
 have rb9:=ht.blk xe.out (by decide)
 have Tw9:=hid (BM.out.trans ht)
 have y4:Ty w9 w1.heap.size 97:=⟨_,_,zY⟩
 obtain⟨c90,c91,c92,c93,c94,c95,c96⟩:=ak zY
 have f9:=aa zY 4
 obtain⟨lv,mX⟩:∃ u,w9.setCell ⟨w1.heap.size,4,none⟩ (.float .f64 i4)=u:=⟨_,rfl⟩
 have zF:Hid (lv.heap[w1.heap.size]?=some (.cells #[.int .u64 (i0:Int),.int .u64 (i1:Int),.string (str i2),.bool i3,.float .f64 i4,.float .f64 0,.slice none 0 0] 97 (0,0))):=hid (by rw [← mX];exact (ae zY 4 (.float .f64 i4)).trans rfl)
 have RB10:Hid (lv.heap[w.heap.size]?=some (.cells #[.int .u64 0,.int .u64 0,.string ⟨#[]⟩,.bool false,.float .f64 0,.float .f64 0,.slice none 0 0] 97 (0,0))):=hid (by rw [← mX];exact aI rb9 (p:=⟨w1.heap.size,4,none⟩) (by have:=GZ.out;show w.heap.size≠w1.heap.size;omega) (.float .f64 i4))
 have R10:Hid (RS 147 B 5 lv p (T9.s5 s)):=hid (by rw [← mX];exact hr.nC y4 (by have:=GZ.out;have:=BS.out;omega) (by decide) _ _)
 have sJ:Hid (aG B [147] w lv):=hid (by rw [← mX];exact Tw9.out.bU (p:=⟨w1.heap.size,4,none⟩) (by have:=GZ.out;show w.heap.size≤w1.heap.size;omega) BS.out _)
 have xg:=hid (uM.out.trans (jK (T9.s4 s)))
 clear hr ht hi4 zY rb9 y4
 have C5:=hid (Dy R10.out (by decide) (xg.out.bound L0.out))
 go_wp2_with fail
 refine C5.out.mono ?_
 rintro e mI ⟨rfl,hr,ht⟩
 obtain⟨i5,hi5⟩:∃ v,v=(Cd.jg (T9.s5 s)).1:=⟨_,rfl⟩
 rw [← hi5]
 have I5:=hid hi5
 have hr:RS 147 B 5 mI p (T9.s6 s):=hr
 have pz:=ht.blk zF.out (by decide)
 have DD:=ht.blk RB10.out (by decide)
 have qK:=hid (sJ.out.trans ht)
 have y5:Ty mI w1.heap.size 97:=⟨_,_,pz⟩
 obtain⟨c110,c111,c112,c113,c114,c115,c116⟩:=ak pz
 have f11:=aa pz 5
 obtain⟨mK,mY⟩:∃ u,mI.setCell ⟨w1.heap.size,5,none⟩ (.float .f64 i5)=u:=⟨_,rfl⟩
 have LB12:Hid (mK.heap[w1.heap.size]?=some (.cells #[.int .u64 (i0:Int),.int .u64 (i1:Int),.string (str i2),.bool i3,.float .f64 i4,.float .f64 i5,.slice none 0 0] 97 (0,0))):=hid (by rw [← mY];exact (ae pz 5 (.float .f64 i5)).trans rfl)
 have RB12:Hid (mK.heap[w.heap.size]?=some (.cells #[.int .u64 0,.int .u64 0,.string ⟨#[]⟩,.bool false,.float .f64 0,.float .f64 0,.slice none 0 0] 97 (0,0))):=hid (by rw [← mY];exact aI DD (p:=⟨w1.heap.size,5,none⟩) (by have:=GZ.out;show w.heap.size≠w1.heap.size;omega) (.float .f64 i5))
 have R12:Hid (RS 147 B 5 mK p (T9.s6 s)):=hid (by rw [← mY];exact hr.nC y5 (by have:=GZ.out;have:=BS.out;omega) (by decide) _ _)
 have BJ:Hid (aG B [147] w mK):=hid (by rw [← mY];exact qK.out.bU (p:=⟨w1.heap.size,5,none⟩) (by have:=GZ.out;show w.heap.size≤w1.heap.size;omega) BS.out _)
 have SH6:=hid (xg.out.trans (jK (T9.s5 s)))
 clear hr ht hi5 pz DD y5
 have C6:=hid (eG (mz:=60) R12.out (by decide) (SH6.out.bound L0.out) (by decide))
 go_wp2_with fail
 refine C6.out.mono ?_
 rintro e n_ ⟨rfl,hr,ht⟩
 obtain⟨n,hn⟩:∃ v,v=T9.nY s:=⟨_,rfl⟩
 have hn':n=(Cd.aS (60:Int).toNat (T9.s6 s)).1:=hn
 rw [← hn']
 have NT:=hid hn
 have n60:n≤60:=by rw [hn'];exact (Cd.b_ 60 (T9.s6 s)).2
 have hr:RS 147 B 5 n_ p (T9.s7 s):=hr
 have sH:=hid (ht.blk LB12.out (by decide))
 have oJ:=hid (ht.blk RB12.out (by decide))
 have Tw13:=hid (BJ.out.trans ht)
 have R13:=hid hr
 have SH7:Hid (St.jO s (T9.s7 s)):=hid (SH6.out.trans (St.bN 60 (T9.s6 s)))
 obtain⟨fi0,hfi,fz0,fz1,fz2⟩:=info_parts Tryz.infoStr9
 clear hn hn' hr ht
 go_wp2_with fail
 go_loopw [25] (fun s25 wr=>∃ (j:Nat) (A:Option Addr) (c:Nat),s25=.int .u64 j∧j≤n∧Aside (RS 147 B 5 wr p (T9.many (Cd.bQ 60) j (T9.s7 s)).2∧wr.ownsRow w.heap.size 9 1 (.slice A j c) j (dA (T9.many (Cd.bQ 60) j (T9.s7 s)).1)∧wr.heap[w1.heap.size]?=some (.cells #[.int .u64 (i0:Int),.int .u64 (i1:Int),.string (str i2),.bool i3,.float .f64 i4,.float .f64 i5,.slice A j c] 97 (0,0))∧wr.heap[w.heap.size]?=some (.cells #[.int .u64 0,.int .u64 0,.string ⟨#[]⟩,.bool false,.float .f64 0,.float .f64 0,.slice none 0 0] 97 (0,0))∧aG B [147] w wr)) (fun s25 _=>n - (intOf s25).toNat)
 case atStart=>exact⟨0,none,0,rfl,Nat.zero_le _,R13.out,World.ownsRow_nil _ _ _ _,sH.out,oJ.out,Tw13.out⟩
 case round =>
  obtain⟨j,A,c,rfl,hj,hI⟩:=hrel
  have HI:=hid hI.out
  clear hI
  by_cases hlt:j<n
  ·have hltz:(j:Int)<(n:Int):=by omega
   have g3:=HI.out.2.2.1
   obtain⟨x0,x1,x2,x3,x4,x5,x6⟩:=ak g3
   have SHJ:Hid (∀ l,(T9.many (Cd.bQ 60) j (T9.s7 s)).2=some l→l.length≤1099511627776):=hid ((j_ j (T9.s7 s)).bound (SH7.out.bound L0.out))
   have CB:=hid (pY (w:=wr.drew) (mz:=60) (HI.out.1.cZ (aG.refl B [] wr).drew (by simp) (by simp)) (by decide) SHJ.out (by decide) (by decide))
   clear g3
   have S0:wr.drew.cell? ⟨w1.heap.size,6,none⟩=some (.slice A j c):=x6
   go_wp2_with fail
   refine Any.begin (S:=fun u=>u.cell? ⟨w1.heap.size,6,none⟩=some (.slice A j c)) (st:=8) pM ?_
   refine Any.take (st:=8) (i:=0) (v:=?_) rfl (by kernel_rfl) (by kernel_rfl) (by kernel_rfl) rfl (by kernel_rfl) (fun _ _ _ h=>h) (Or.inl ⟨by rfl,?_⟩) S0 ?_
   rotate_left
   ·intro u hu
    have hu:u.cell? ⟨w1.heap.size,6,none⟩=some (.slice A j c):=hu
    go_simp
    try rfl
   try simp only [Act.put,List.setIfInBounds_toArray,List.set_cons_zero,List.set_cons_succ,List.getElem_toArray,List.getElem_cons_zero]
   refine Any.take (st:=8) (i:=1) (v:=?_) rfl (by kernel_rfl) (by kernel_rfl) (by kernel_rfl) rfl (by kernel_rfl) (fun _ _ _ h=>h) (Or.inl ⟨by rfl,?_⟩) S0 ?_
   rotate_left
   ·intro u hu
    have hu:u.cell? ⟨w1.heap.size,6,none⟩=some (.slice A j c):=hu
    go_simp
    try rfl
   try simp only [Act.put,pS]
   refine Any.take (st:=8) (i:=2) (v:=?_) rfl (by kernel_rfl) (by kernel_rfl) (by kernel_rfl) rfl (by kernel_rfl) (fun _ _ _ h=>h) (Or.inl ⟨by rfl,?_⟩) S0 ?_
   rotate_left
   ·intro u hu
    have hu:u.cell? ⟨w1.heap.size,6,none⟩=some (.slice A j c):=hu
    go_simp
    try rfl
   try simp only [Act.put,pS]
   clear S0
   refine Any.one (i:=3) (by kernel_rfl) rfl (fun K hK=>?_)
   go_simp
   refine CB.out.mono ?_
   rintro e wa ⟨Ab,nb,cb,rfl,eT,hr,ht⟩
   obtain⟨hnb,_⟩:=aA eT
   obtain⟨x,hx⟩:∃ v,v=(Cd.bQ (60:Int).toNat (T9.many (Cd.bQ 60) j (T9.s7 s)).2).1:=⟨_,rfl⟩
   have cv:=bR (c:=cb) (aD (B:=0) (t:=5) eT) hnb
   rw [← hx] at cv
   have HX:=hid hx
   have HA:=hid (And.intro hr ht)
   have ga:=ht.blk HI.out.2.2.1 (by decide)
   have GA:=hid ga
   have xa:=(ak ga).2.2.2.2.2.2
   clear eT hnb hx hr ht ga
   refine hK _ _ (fun _=>xa) ?_
   clear hK K
   try simp only [Act.put,pS]
   refine Any.one (i:=4) (by kernel_rfl) rfl (fun K hK=>?_)
   go_simp
   refine hK _ _ (fun _=>xa) ?_
   clear hK K cv
   try simp only [Act.put,pS]
   refine Any.one (i:=5) (by kernel_rfl) rfl (fun K hK=>?_)
   go_simp
   refine hK _ _ (fun _=>(ak (aW GA.out _)).2.2.2.2.2.2) ?_
   clear hK K
   try simp only [Act.put,pS]
   refine Any.one (i:=6) (by kernel_rfl) rfl (fun K hK=>?_)
   have TA:=hid ((aG.refl B [147] wr).drew.trans HA.out.2)
   have zB:=HA.out.1.size
   have z0:w.heap.size≤wa.heap.size:=by have:=lt_of_block GA.out;have:=GZ.out;omega
   have qF:=hid (bu HI.out.2.1 TA.out (by decide))
   refine jL rfl _ _ 95 rfl w.heap.size 9 fi0 _ 1 16 underlying95 hfi fz0 fz1 fz2 rfl (by decide) _ j _ rfl (qF.out.alloc (.cells #[.string (str x)] 9)) 0 (some ⟨wa.heap.size,0,none⟩) 1 1 [encS x] 9 rfl rfl (av.dD (heap_alloc_new wa _)) (by intro v hv;simp at hv;subst hv;rfl) (by unfold maxLen;omega) (by omega) (by simp;omega) ?_
   intro v6 w6 hown6 aP iT
   obtain⟨A6,k6,rfl⟩:=aL hown6
   have g6b:=bV (qF.out.alloc (.cells #[.string (str x)] 9)) aP (aW GA.out (.cells #[.string (str x)] 9)) (by decide)
   have rb6:=bV (qF.out.alloc (.cells #[.string (str x)] 9)) aP (aW (TA.out.blk HI.out.2.2.2.1 (by decide)) (.cells #[.string (str x)] 9)) (by decide)
   have T6:Hid (aG B [9] wa w6):=hid (((aG.refl B [9] wa).alloc zB (.cells #[.string (str x)] 9)).trans (dB (B:=B) (ts:=[9]) (qF.out.alloc (.cells #[.string (str x)] 9)) aP BS.out (by simp;omega) (by simp)))
   have R6':Hid (RS 147 B 5 w6 p (T9.many (Cd.bQ 60) (j+1) (T9.s7 s)).2):=hid (by
    rw [T9.aY]
    exact HA.out.1.cZ T6.out (by decide) (by decide))
   have vG:∀ k,k<w.heap.size→w6.heap[k]?=wa.heap[k]?:=fun k hk=>(aP.block k (by simp;omega) (fun q=>by
    have:=((qF.out.alloc (.cells #[.string (str x)] 9)).lt k q.symm).1
    omega)).trans (Below.heap_alloc wa _ k (by omega))
   have TT:=HI.out.2.2.2.2.trans TA.out
   have TW6:Hid (aG B [147] w w6):=hid ⟨TT.below.trans T6.out.below,fun k cs t fr hk ht=>(vG k (lt_of_block hk)).trans (TT.typed k cs t fr hk ht)⟩
   clear vG TT
   have zD:=hid hown6
   have G6:=hid g6b
   have BG:=hid rb6
   have x66:=(ak g6b).2.2.2.2.2.2
   have f66:=aa g6b 6
   refine hK _ _ (fun _=>x66) ?_
   clear hK K hown6 aP iT g6b rb6 x6 xa
   try simp only [Act.put,pS]
   refine Any.one (i:=7) (by kernel_rfl) rfl (fun K hK=>?_)
   go_simp
   refine hK _ _ (fun _=>x66) ?_
   clear hK K
   try simp only [Act.put,pS]
   refine Any.one (i:=8) (by kernel_rfl) rfl (fun K hK=>?_)
   go_simp
   refine hK _ _ (fun e=>absurd rfl e) ?_
   clear hK K
   try simp only [Act.put,List.setIfInBounds_toArray,List.set_cons_zero,List.set_cons_succ,List.getElem_toArray,List.getElem_cons_zero]
   refine Any.done (by kernel_rfl) ?_
   have Y6:Hid (Ty w6 w1.heap.size 97):=hid ⟨_,_,G6.out⟩
   have gz:=GZ.out
   have bs:=BS.out
   have R7:Hid (RS 147 B 5 (w6.setCell ⟨w1.heap.size,6,none⟩ (.slice A6 (j+1) k6)) p (T9.many (Cd.bQ 60) (j+1) (T9.s7 s)).2):=hid (R6'.out.nC Y6.out (by omega) (by decide) _ _)
   have O7:Hid ((w6.setCell ⟨w1.heap.size,6,none⟩ (.slice A6 (j+1) k6)).ownsRow w.heap.size 9 1 (.slice A6 (j+1) k6) (j+1) (dA (T9.many (Cd.bQ 60) (j+1) (T9.s7 s)).1)):=hid (by
    rw [T9.aY,nN]
    have hx:x=(Cd.bQ 60 (T9.many (Cd.bQ 60) j (T9.s7 s)).2).1:=HX.out
    rw [← hx]
    exact dY zD.out G6.out (by decide) _)
   have uH:Hid ((w6.setCell ⟨w1.heap.size,6,none⟩ (.slice A6 (j+1) k6)).heap[w1.heap.size]?=some (.cells #[.int .u64 (i0:Int),.int .u64 (i1:Int),.string (str i2),.bool i3,.float .f64 i4,.float .f64 i5,.slice A6 (j+1) k6] 97 (0,0))):=hid ((ae G6.out 6 (.slice A6 (j+1) k6)).trans rfl)
   have xc:Hid ((w6.setCell ⟨w1.heap.size,6,none⟩ (.slice A6 (j+1) k6)).heap[w.heap.size]?=some (.cells #[.int .u64 0,.int .u64 0,.string ⟨#[]⟩,.bool false,.float .f64 0,.float .f64 0,.slice none 0 0] 97 (0,0))):=hid (aI BG.out (p:=⟨w1.heap.size,6,none⟩) (by show w.heap.size≠w1.heap.size;omega) _)
   have T7:Hid (aG B [147] w (w6.setCell ⟨w1.heap.size,6,none⟩ (.slice A6 (j+1) k6))):=hid (TW6.out.bU (p:=⟨w1.heap.size,6,none⟩) (by show w.heap.size≤w1.heap.size;omega) bs _)
   clear gz bs z0 zB x66 f66
   go_wp2
   go_roundw
   case rel=>exact⟨j+1,A6,k6,by go_num,by omega,R7.out,O7.out,uH.out,xc.out,T7.out⟩
   case measure=>simp [intOf];omega
  ·obtain rfl:j=n:=by omega
   have hltz:¬ ((j:Int)<(j:Int)):=by omega
   have g3:=HI.out.2.2.1
   have nk:=HI.out.2.2.2.1
   obtain⟨x0,x1,x2,x3,x4,x5,x6⟩:=ak g3
   obtain⟨q0,q1,q2,q3,q4,q5,q6⟩:=ak nk
   have lL:=aa nk 0
   have lM:=aa nk 1
   have qN:=aa nk 2
   have qO:=aa nk 3
   have qP:=aa nk 4
   have qQ:=aa nk 5
   have xK:=aa nk 6
   have fF:Hid ((((((((wr.setCell ⟨w.heap.size,0,none⟩ (.int .u64 (i0:Int))).setCell ⟨w.heap.size,1,none⟩ (.int .u64 (i1:Int))).setCell ⟨w.heap.size,2,none⟩ (.string (str i2))).setCell ⟨w.heap.size,3,none⟩ (.bool i3)).setCell ⟨w.heap.size,4,none⟩ (.float .f64 i4)).setCell ⟨w.heap.size,5,none⟩ (.float .f64 i5)).setCell ⟨w.heap.size,6,none⟩ (.slice A j c)).heap[w.heap.size]?=some (.cells #[.int .u64 (i0:Int),.int .u64 (i1:Int),.string (str i2),.bool i3,.float .f64 i4,.float .f64 i5,.slice A j c] 97 (0,0))):=hid ((ae (ae (ae (ae (ae (ae (ae nk 0 (.int .u64 (i0:Int))) 1 (.int .u64 (i1:Int))) 2 (.string (str i2))) 3 (.bool i3)) 4 (.float .f64 i4)) 5 (.float .f64 i5)) 6 (.slice A j c)).trans rfl)
   obtain⟨k0,k1,k2,k3,k4,k5,k6⟩:=ak fF.out
   clear g3 nk
   go_wp2
   refine bodyPost_ret (v:=.agg #[.int .u64 (i0:Int),.int .u64 (i1:Int),.string (str i2),.bool i3,.float .f64 i4,.float .f64 i5,.slice A j c]) (by simp [results,results140,go_sem,k0,k1,k2,k3,k4,k5,k6]) rfl ?_
   have TL:(T9.many (Cd.bQ 60) j (T9.s7 s)).1.length=j:=T9.bL _ _ _
   have bs:=BS.out
   have yr:Ty wr w.heap.size 97:=⟨_,_,HI.out.2.2.2.1⟩
   have TF:=((((((((aG.refl B [97] wr).bB (p:=⟨w.heap.size,0,none⟩) (yr) (by simp) bs (.int .u64 (i0:Int))).bB (p:=⟨w.heap.size,1,none⟩) ((yr).set ⟨w.heap.size,0,none⟩ (.int .u64 (i0:Int))) (by simp) bs (.int .u64 (i1:Int))).bB (p:=⟨w.heap.size,2,none⟩) (((yr).set ⟨w.heap.size,0,none⟩ (.int .u64 (i0:Int))).set ⟨w.heap.size,1,none⟩ (.int .u64 (i1:Int))) (by simp) bs (.string (str i2))).bB (p:=⟨w.heap.size,3,none⟩) ((((yr).set ⟨w.heap.size,0,none⟩ (.int .u64 (i0:Int))).set ⟨w.heap.size,1,none⟩ (.int .u64 (i1:Int))).set ⟨w.heap.size,2,none⟩ (.string (str i2))) (by simp) bs (.bool i3)).bB (p:=⟨w.heap.size,4,none⟩) (((((yr).set ⟨w.heap.size,0,none⟩ (.int .u64 (i0:Int))).set ⟨w.heap.size,1,none⟩ (.int .u64 (i1:Int))).set ⟨w.heap.size,2,none⟩ (.string (str i2))).set ⟨w.heap.size,3,none⟩ (.bool i3)) (by simp) bs (.float .f64 i4)).bB (p:=⟨w.heap.size,5,none⟩) ((((((yr).set ⟨w.heap.size,0,none⟩ (.int .u64 (i0:Int))).set ⟨w.heap.size,1,none⟩ (.int .u64 (i1:Int))).set ⟨w.heap.size,2,none⟩ (.string (str i2))).set ⟨w.heap.size,3,none⟩ (.bool i3)).set ⟨w.heap.size,4,none⟩ (.float .f64 i4)) (by simp) bs (.float .f64 i5)).bB (p:=⟨w.heap.size,6,none⟩) (((((((yr).set ⟨w.heap.size,0,none⟩ (.int .u64 (i0:Int))).set ⟨w.heap.size,1,none⟩ (.int .u64 (i1:Int))).set ⟨w.heap.size,2,none⟩ (.string (str i2))).set ⟨w.heap.size,3,none⟩ (.bool i3)).set ⟨w.heap.size,4,none⟩ (.float .f64 i4)).set ⟨w.heap.size,5,none⟩ (.float .f64 i5)) (by simp) bs (.slice A j c))
   have TN:=(((((((HI.out.2.2.2.2.bU (p:=⟨w.heap.size,0,none⟩) (Nat.le_refl _) bs (.int .u64 (i0:Int))).bU (p:=⟨w.heap.size,1,none⟩) (Nat.le_refl _) bs (.int .u64 (i1:Int))).bU (p:=⟨w.heap.size,2,none⟩) (Nat.le_refl _) bs (.string (str i2))).bU (p:=⟨w.heap.size,3,none⟩) (Nat.le_refl _) bs (.bool i3)).bU (p:=⟨w.heap.size,4,none⟩) (Nat.le_refl _) bs (.float .f64 i4)).bU (p:=⟨w.heap.size,5,none⟩) (Nat.le_refl _) bs (.float .f64 i5)).bU (p:=⟨w.heap.size,6,none⟩) (Nat.le_refl _) bs (.slice A j c))
   refine⟨⟨⟨i0,i1,i2,i3,i4,i5,(T9.many (Cd.bQ 60) j (T9.s7 s)).1⟩,A,c⟩,?_,?_,?_,?_,?_,TN⟩
   ·show _=Ending.returned (Value.agg #[.int .u64 (i0:Int),.int .u64 (i1:Int),.string (str i2),.bool i3,.float .f64 i4,.float .f64 i5,.slice A (T9.many (Cd.bQ 60) j (T9.s7 s)).1.length c])
    rw [TL]
   ·show T9.Tk.mk i0 i1 i2 i3 i4 i5 _=(T9.eU s).1
    unfold T9.eU
    rw [I0.out,I1.out,I2.out,I3.out,I4.out,I5.out,NT.out]
   ·exact (aD (t:=9) HI.out.2.1).cZ TF.zero (by decide)
   ·show (T9.many (Cd.bQ 60) j (T9.s7 s)).1.length≤c
    rw [TL]
    exact (aA HI.out.2.1).2
   ·unfold T9.eU
    rw [← NT.out]
    exact HI.out.1.cZ TF (by decide) (by decide)
end
section
open Go.RowKit Go.Lib
@[go_sem] theorem buildL9n (n : Int) (w : World) : (Instr.build 94 #[(0, .int .u64 n)]).run prog w = .ok (.agg #[.int .u64 n, .string ⟨#[]⟩]) w := run_build w 94 _ _ (by kernel_rfl)
theorem rH (l:T9.Li) (w:World):(Instr.buildSlice 25 1 #[(0,.agg #[.int .u64 (l.id:Int),.string (str l.name)])]).run prog w=.ok (.slice (some ⟨w.heap.size,0,none⟩) 1 1) (w.alloc (.cells #[.int .u64 (l.id:Int),.string (str l.name)] 94)):=by
 obtain⟨i0,hi,hz0,hz1,hz2⟩:=info_parts Tryz.infoLi9
 exact dQ w 25 94 #[.int .u64 (l.id:Int),.string (str l.name)] i0 _ underlying25 hi hz0 hz1 (by show 0<2;omega) (by show 2≤_;omega)
theorem rG (m:fJ) (w:World):(Instr.buildSlice 26 1 #[(0,.agg (dO m).toArray)]).run prog w=.ok (.slice (some ⟨w.heap.size,0,none⟩) 1 1) (w.alloc (.cells (dO m).toArray 97)):=by
 obtain⟨i0,hi,hz0,hz1,hz2⟩:=info_parts Tryz.infoTk9
 exact dQ w 26 97 (dO m).toArray i0 _ underlying26 hi hz0 hz1 (by show 0<7;omega) (by show 7≤_;omega)
theorem shr_li (s:Option (List UInt8)):St.jO s (T9.bf s).2:=(fD s).trans (St.nX 60 _)
theorem jc:∀ (n:Nat) (s:Option (List UInt8)),St.jO s (T9.many T9.bf n s).2
 | 0,_=>fun t ht=>⟨t,ht,Nat.le_refl _⟩
 | n+1,s=>(shr_li s).trans (jc n _)
theorem shr_tk (s:Option (List UInt8)):St.jO s (T9.eU s).2:=((((((fD s).trans (fD _)).trans (St.nX 60 _)).trans (St.wG _)).trans (jK _)).trans (jK _)).trans ((St.bN 60 _).trans (j_ _ _))
theorem uD:∀ (n:Nat) (s:Option (List UInt8)),St.jO s (T9.many T9.eU n s).2
 | 0,_=>fun t ht=>⟨t,ht,Nat.le_refl _⟩
 | n+1,s=>(shr_tk s).trans (uD n _)
theorem gX (m:Nat) (s:Option (List UInt8)):(Cd.bQ m s).1.length≤m:=by
 unfold Cd.bQ
 cases (Cd.aS m s).2 with
 | none=>exact Nat.zero_le _
 | some t =>
  dsimp only
  split
  ·rw [List.length_take]
   have:=(Cd.b_ m s).2
   omega
  ·exact Nat.zero_le _
theorem jC {α:Type} {f:Option (List UInt8)→α × Option (List UInt8)} {P:α→Prop} (h:∀ s,P (f s).1):∀ (n:Nat) (s:Option (List UInt8)),∀ x∈(T9.many f n s).1,P x
 | 0,_,_,hx=>by cases hx
 | n+1,s,x,hx=>by
  rcases List.mem_cons.1 hx with rfl | q
  ·exact h s
  ·exact jC h n _ x q
theorem vX {n1 n2:Nat} {s1 s2:Option (List UInt8)} (h1:n1≤60) (h2:n2≤60):(⟨(T9.many T9.bf n1 s1).1,(T9.many T9.eU n2 s2).1⟩:T9.St).short:=by
 have q1:∀ s,(T9.bf s).1.name.length≤1000000:=fun s=>by show (Cd.bQ 60 _).1.length≤1000000;have:=gX 60 (Cd.aS Cd.full s).2;omega
 have q2:∀ s,(T9.eU s).1.short:=fun s=>by
  refine⟨by show (Cd.bQ 60 _).1.length≤1000000;have:=gX 60 (T9.s2 s);omega,jC (fun s=>by have:=gX 60 s;omega) _ _,?_⟩
  show (T9.many (Cd.bQ 60) (T9.nY s) (T9.s7 s)).1.length≤1000000
  rw [T9.bL]
  have:=(Cd.b_ 60 (T9.s6 s)).2
  unfold T9.nY
  omega
 refine⟨jC q1 _ _,jC q2 _ _,?_,?_⟩
 ·show (T9.many T9.bf n1 s1).1.length≤1000000
  rw [T9.bL];omega
 ·show (T9.many T9.eU n2 s2).1.length≤1000000
  rw [T9.bL];omega
def Bz (b:List UInt8) (w:World) (e:Ending) (w':World):Prop :=
 ∃ m:ji,e=.returned (.tuple #[m.val,.int .i64 (T9.of b).2])∧AZ m w'∧m.st=(T9.of b).1∧Below w.heap.size w w'
theorem of9T_c {A:Option Addr} {n c:Nat} {b:List UInt8} {w:World} {D:Nat} {td:TypeId} (h:av w D td A (af b)) (hn:n=b.length) (hb:n≤1000000000) (hD:D≤w.heap.size) :
  Calls prog 120 #[.slice A n c] w (Bz b w):=by
 obtain⟨w0,hw0⟩:∃ u,w.alloc (.cells #[.slice none 0 0,.slice none 0 0] 28)=u:=⟨_,rfl⟩
 obtain⟨kK,b0,z0⟩:=aM hw0
 have qH:=hid kK
 have B0:=hid b0
 have CR:=hid (ul (c:=c) ((h.more hD).old (t':=5) |>.below (Nat.le_refl _) b0) (by omega) hn (by omega))
 have wY:Hid (b.length≤1000000000):=hid (by omega)
 clear h kK b0 hn hb
 go_enter func120,ntmps120
 go_wp2_with fail
 refine CR.out.mono ?_
 rintro e w1 ⟨p,rfl,hr,hb1⟩
 have oI:=hid (ah qH.out hb1)
 have B1:=hid (B0.out.trans (hb1.mono (by omega)))
 obtain⟨B,hB⟩:∃ v,v=w0.heap.size:=⟨_,rfl⟩
 rw [← hB] at hr
 have BZ:Hid (w.heap.size+1=B∧B≤w1.heap.size):=hid ⟨by omega,by have:=hb1.size;omega⟩
 have hl0:Hid (∀ l,some b=some l→l.length≤1099511627776):=hid (by intro l e;injection e with e;subst e;have:=wY.out;omega)
 obtain⟨w2,hw2⟩:∃ u,w1.alloc (.cells #[.slice none 0 0,.slice none 0 0] 28)=u:=⟨_,rfl⟩
 obtain⟨gb2,b2,z2⟩:=aM hw2
 have R2:Hid (RS 147 B 5 w2 p (some b)):=hid (by rw [← hw2];exact hr.alloc _)
 have zG:=hid (ah oI.out b2)
 have GB2:=hid gb2
 have B2:=hid (B1.out.trans (b2.mono B1.out.size))
 have Z2:=hid z2
 have C2:=hid (eG (mz:=60) R2.out (by decide) hl0.out (by decide))
 clear hr hb1 hB gb2 b2 z2 hw0 z0
 go_wp2_with fail
 refine C2.out.mono ?_
 rintro e w3 ⟨rfl,hr,ht⟩
 have nl:(Cd.aS (60:Int).toNat (some b)).1≤60:=(Cd.b_ 60 (some b)).2
 obtain⟨n1,hn1⟩:∃ v,v=(Cd.aS (60:Int).toNat (some b)).1:=⟨_,rfl⟩
 rw [← hn1] at nl ⊢
 have N1:=hid hn1
 obtain⟨s1,hs1⟩:∃ v,v=(Cd.aS (60:Int).toNat (some b)).2:=⟨_,rfl⟩
 rw [← hs1] at hr
 have S1:=hid hs1
 have L1:Hid (∀ l,s1=some l→l.length≤1099511627776):=hid (by rw [hs1];exact (St.bN 60 (some b)).bound hl0.out)
 have R3:=hid hr
 have qI:=hid (ht.blk zG.out (by decide))
 have GB3:=hid (ht.blk GB2.out (by decide))
 have B3:Hid (Below w.heap.size w w3):=hid (B2.out.trans (ht.below.mono (by have:=BZ.out;omega)))
 have zw3:Hid (w1.heap.size+1≤w3.heap.size):=hid (by have:=lt_of_block GB3.out;omega)
 obtain⟨li0,lhi,lz0,lz1,lz2⟩:=info_parts Tryz.infoLi9
 clear hr ht hn1 hs1
 go_wp2_with fail
 go_loopw [11] (fun s11 wr=>∃ (j:Nat) (A:Option Addr) (c:Nat),s11=.int .u64 j∧j≤n1∧Aside (RS 147 B 5 wr p (T9.many T9.bf j s1).2∧wr.ownsRow B 94 2 (.slice A j c) j (dV (T9.many T9.bf j s1).1)∧wr.heap[w1.heap.size]?=some (.cells #[.slice A j c,.slice none 0 0] 28 (0,0))∧wr.heap[w.heap.size]?=some (.cells #[.slice none 0 0,.slice none 0 0] 28 (0,0))∧Below w.heap.size w wr)) (fun s11 _=>n1 - (intOf s11).toNat)
 case atStart=>exact⟨0,none,0,rfl,Nat.zero_le _,R3.out,World.ownsRow_nil _ _ _ _,GB3.out,qI.out,B3.out⟩
 case round =>
  obtain⟨j,A1,c1,rfl,hj,hI⟩:=hrel
  have HI:=hid hI.out
  clear hI
  by_cases hlt:j<n1
  ·have hltz:(j:Int)<(n1:Int):=by omega
   have LJ:Hid (∀ l,(T9.many T9.bf j s1).2=some l→l.length≤1099511627776):=hid ((jc j s1).bound L1.out)
   have CN:=hid (eG (mz:=18446744073709551615) HI.out.1 (by decide) LJ.out (by decide))
   rw [aQ] at CN
   go_wp2_with fail
   refine CN.out.mono ?_
   rintro e wa ⟨rfl,hr,ht⟩
   obtain⟨id,fw⟩:∃ v,v=(Cd.aS Cd.full (T9.many T9.bf j s1).2).1:=⟨_,rfl⟩
   rw [← fw]
   have ID:=hid fw
   have LK:Hid (∀ l,(Cd.aS Cd.full (T9.many T9.bf j s1).2).2=some l→l.length≤1099511627776):=hid ((fD _).bound LJ.out)
   have Ta:=hid ht
   have Ra:=hid hr
   clear fw hr ht
   go_wp2_with fail
   obtain⟨wb,hwb⟩:∃ u,wa.alloc (.cells #[.int .u64 (id:Int),.string ⟨#[]⟩] 94)=u:=⟨_,rfl⟩
   rw [hwb]
   obtain⟨lb,bb,zb⟩:=aM hwb
   have Rb:Hid (RS 147 B 5 wb p (Cd.aS Cd.full (T9.many T9.bf j s1).2).2):=hid (by rw [← hwb];exact Ra.out.alloc _)
   have LB:=hid lb
   have Bb:=hid bb
   have CB:=hid (pY (mz:=60) Rb.out (by decide) LK.out (by decide) (by decide))
   clear lb bb zb
   refine CB.out.mono ?_
   rintro e wc ⟨Ab,nb,cb,rfl,eT,hr,ht⟩
   obtain⟨hnb,_⟩:=aA eT
   obtain⟨x,hx⟩:∃ v,v=(Cd.bQ (60:Int).toNat (Cd.aS Cd.full (T9.many T9.bf j s1).2).2).1:=⟨_,rfl⟩
   have cv:=bR (c:=cb) (aD (B:=0) (t:=5) eT) hnb
   rw [← hx] at cv
   have X:=hid hx
   have Tc:=hid ht
   have Rc:=hid hr
   have qX:=ht.blk LB.out (by decide)
   obtain⟨l0,l1⟩:=ai qX
   have fl1:=aa qX 1
   have LBC:=hid qX
   clear eT hnb hx hr ht qX
   have gc:=Tc.out.blk (ah (Ta.out.blk HI.out.2.2.1 (by decide)) Bb.out) (by decide)
   have GC:=hid gc
   have OWC:=hid (bu (bu (bu HI.out.2.1 Ta.out (by decide)) (aG.of_below (B:=wa.heap.size) Bb.out (Nat.le_refl _) []) (by simp)) Tc.out (by decide))
   have rbc:=Tc.out.blk (ah (Ta.out.blk HI.out.2.2.2.1 (by decide)) Bb.out) (by decide)
   have sa:w1.heap.size+1≤wa.heap.size:=by have:=lt_of_block (Ta.out.blk HI.out.2.2.1 (by decide));omega
   have sb:=lt_of_block LBC.out
   obtain⟨wd,hwd⟩:∃ u,wc.setCell ⟨wa.heap.size,1,none⟩ (.string (str x))=u:=⟨_,rfl⟩
   have ld:wd.heap[wa.heap.size]?=some (.cells #[.int .u64 (id:Int),.string (str x)] 94 (0,0)):=by rw [← hwd];exact (ae LBC.out 1 (.string (str x))).trans rfl
   have gd:wd.heap[w1.heap.size]?=some (.cells #[.slice A1 j c1,.slice none 0 0] 28 (0,0)):=by rw [← hwd];exact aI gc (p:=⟨wa.heap.size,1,none⟩) (by show w1.heap.size≠wa.heap.size;omega) _
   have rd:wd.heap[w.heap.size]?=some (.cells #[.slice none 0 0,.slice none 0 0] 28 (0,0)):=by rw [← hwd];exact aI rbc (p:=⟨wa.heap.size,1,none⟩) (by have:=BZ.out;show w.heap.size≠wa.heap.size;omega) _
   have zd:wd.heap.size=wc.heap.size:=by rw [← hwd,World.size_setCell]
   have ZD:=hid zd
   have zB:B≤wd.heap.size:=by have:=BZ.out;omega
   clear zd
   have OWD:Hid (wd.ownsRow B 94 2 (.slice A1 j c1) j (dV (T9.many T9.bf j s1).1)):=hid (by
    rw [← hwd]
    refine pX OWC.out fun k hk=>Below.heap_setCell wc _ _ k ?_
    have:=(HI.out.2.1.lt k hk).2
    have:=Ta.out.below.size
    show k≠wa.heap.size
    omega)
   have BD:Hid (Below w.heap.size w wd):=hid (by
    rw [← hwd]
    have bz:=BZ.out
    have s3:=zw3.out
    exact (((HI.out.2.2.2.2.trans (Ta.out.below.mono (by omega))).trans (Bb.out.mono (by omega))).trans (Tc.out.below.mono (by omega))).setCell (by show w.heap.size≤wa.heap.size;omega) _)
   have Rd:Hid (RS 147 B 5 wd p (T9.many T9.bf (j+1) s1).2):=hid (by
    rw [T9.aY,← hwd]
    exact Rc.out.cZ ((aG.refl B [94] wc).bB (p:=⟨wa.heap.size,1,none⟩) ⟨_,_,LBC.out⟩ (by simp) (by have:=BZ.out;show B≤wa.heap.size;omega) _) (by decide) (by decide))
   obtain⟨d0,d1⟩:=ai ld
   have e0:=(ai gd).1
   have hbs:=rH ⟨id,x⟩ wd
   have GD:=hid gd
   have RD:=hid rd
   clear gc rbc ld gd rd
   have bz:=BZ.out
   have OWE:=hid (OWD.out.alloc (.cells #[.int .u64 (id:Int),.string (str x)] 94))
   have LE:Hid (av (wd.alloc (.cells #[.int .u64 (id:Int),.string (str x)] 94)) 0 94 (some ⟨wd.heap.size,0,none⟩) (jm ⟨id,x⟩)):=hid (av.dD (heap_alloc_new wd _))
   go_wp2_with (at_builtin;refine aO _ rfl _ _ 25 rfl B 94 li0 _ 2 24 underlying25 lhi lz0 lz1 lz2 rfl (by decide) _ j (dV (T9.many T9.bf j s1).1) rfl OWE.out 0 _ 1 1 (jm ⟨id,x⟩) 94 rfl rfl LE.out (u_ _) (by unfold maxLen;omega) (by omega) (by simp;omega) ?_)
   intro v6 w6 hown6 aP iT
   obtain⟨A6,k6,rfl⟩:=aL hown6
   have g6:=bV OWE.out aP (aW GD.out (.cells #[.int .u64 (id:Int),.string (str x)] 94)) (by decide)
   have r6:=bV OWE.out aP (aW RD.out (.cells #[.int .u64 (id:Int),.string (str x)] 94)) (by decide)
   have T6:Hid (aG B [94] wd w6):=hid (((aG.refl B [94] wd).alloc zB (.cells #[.int .u64 (id:Int),.string (str x)] 94)).trans (dB (B:=B) (ts:=[94]) OWE.out aP (Nat.le_refl _) (by simp;omega) (by simp)))
   have G6:=hid g6
   have R6:=hid r6
   have zD:=hid hown6
   have e60:=(ai g6).1
   have f60:=aa g6 0
   have Y6:Hid (Ty w6 w1.heap.size 28):=hid ⟨_,_,g6⟩
   clear g6 r6 hown6 aP iT hbs d0 d1 e0
   have R7:Hid (RS 147 B 5 (w6.setCell ⟨w1.heap.size,0,none⟩ (.slice A6 (j+1) k6)) p (T9.many T9.bf (j+1) s1).2):=hid ((Rd.out.cZ T6.out (by decide) (by decide)).cZ ((aG.refl B [28] w6).bB (p:=⟨w1.heap.size,0,none⟩) Y6.out (by simp) (by show B≤w1.heap.size;omega) _) (by decide) (by decide))
   have O7:Hid ((w6.setCell ⟨w1.heap.size,0,none⟩ (.slice A6 (j+1) k6)).ownsRow B 94 2 (.slice A6 (j+1) k6) (j+1) (dV (T9.many T9.bf (j+1) s1).1)):=hid (by
    rw [T9.aY,nR]
    have e:(⟨id,x⟩:T9.Li)=(T9.bf (T9.many T9.bf j s1).2).1:=by
     unfold T9.bf
     rw [ID.out,X.out]
     rfl
    rw [← e]
    exact dY zD.out G6.out (by decide) _)
   have uH:Hid ((w6.setCell ⟨w1.heap.size,0,none⟩ (.slice A6 (j+1) k6)).heap[w1.heap.size]?=some (.cells #[.slice A6 (j+1) k6,.slice none 0 0] 28 (0,0))):=hid ((ae G6.out 0 (.slice A6 (j+1) k6)).trans rfl)
   have xc:Hid ((w6.setCell ⟨w1.heap.size,0,none⟩ (.slice A6 (j+1) k6)).heap[w.heap.size]?=some (.cells #[.slice none 0 0,.slice none 0 0] 28 (0,0))):=hid (aI R6.out (p:=⟨w1.heap.size,0,none⟩) (by show w.heap.size≠w1.heap.size;omega) _)
   have B7:Hid (Below w.heap.size w (w6.setCell ⟨w1.heap.size,0,none⟩ (.slice A6 (j+1) k6))):=hid ((BD.out.trans (T6.out.below.mono (by omega))).setCell (by show w.heap.size≤w1.heap.size;omega) _)
   clear sa sb zB bz
   go_wp2
   go_roundw
   case rel=>exact⟨j+1,A6,k6,by go_num,by omega,R7.out,O7.out,uH.out,xc.out,B7.out⟩
   case measure=>simp [intOf];omega
  ·obtain rfl:j=n1:=by omega
   have hltz:¬ ((j:Int)<(j:Int)):=by omega
   have C4:=hid (eG (mz:=60) HI.out.1 (by decide) ((jc j s1).bound L1.out) (by decide))
   go_wp2_with fail
   refine C4.out.mono ?_
   rintro e w4 ⟨rfl,hr,ht⟩
   have nl2:(Cd.aS (60:Int).toNat (T9.many T9.bf j s1).2).1≤60:=(Cd.b_ 60 _).2
   obtain⟨n2,hn2⟩:∃ v,v=(Cd.aS (60:Int).toNat (T9.many T9.bf j s1).2).1:=⟨_,rfl⟩
   rw [← hn2] at nl2 ⊢
   have N2:=hid hn2
   obtain⟨s2,hs2⟩:∃ v,v=(Cd.aS (60:Int).toNat (T9.many T9.bf j s1).2).2:=⟨_,rfl⟩
   rw [← hs2] at hr
   have S2:=hid hs2
   have L2:Hid (∀ l,s2=some l→l.length≤1099511627776):=hid (by rw [hs2];exact ((jc j s1).trans (St.bN 60 _)).bound L1.out)
   have R4:=hid hr
   have RB4:=hid (ht.blk HI.out.2.2.2.1 (by decide))
   have GB4:=hid (ht.blk HI.out.2.2.1 (by decide))
   have OL4:=hid (bu HI.out.2.1 ht (by decide))
   have B4:Hid (Below w.heap.size w w4):=hid (HI.out.2.2.2.2.trans (ht.below.mono (by have:=BZ.out;omega)))
   obtain⟨ki0,khi,kz0,kz1,kz2⟩:=info_parts Tryz.infoTk9
   clear hr ht hn2 hs2
   go_wp2_with fail
   go_loopw [29] (fun s29 wr=>∃ (k:Nat) (A2:Option Addr) (c2:Nat) (ms:List fJ),s29=.int .u64 k∧k≤n2∧ms.length=k∧Aside (RS 147 B 5 wr p (T9.many T9.eU k s2).2∧bg ms=(T9.many T9.eU k s2).1∧(∀ m∈ms,av wr 0 9 m.A (dA m.t.tags)∧m.t.tags.length≤m.c)∧wr.ownsRow B 97 7 (.slice A2 k c2) k (f_ ms)∧wr.ownsRow B 94 2 (.slice A1 j c1) j (dV (T9.many T9.bf j s1).1)∧wr.heap[w1.heap.size]?=some (.cells #[.slice A1 j c1,.slice A2 k c2] 28 (0,0))∧wr.heap[w.heap.size]?=some (.cells #[.slice none 0 0,.slice none 0 0] 28 (0,0))∧Below w.heap.size w wr)) (fun s29 _=>n2 - (intOf s29).toNat)
   case atStart=>exact⟨0,none,0,[],rfl,Nat.zero_le _,rfl,R4.out,rfl,by simp,World.ownsRow_nil _ _ _ _,OL4.out,GB4.out,RB4.out,B4.out⟩
   case round =>
    obtain⟨k,A2,c2,ms,rfl,hk,hml,hJ⟩:=hrel
    have HJ:=hid hJ.out
    have HML:=hid hml
    clear hJ hml
    by_cases hlt2:k<n2
    ·have eD:(k:Int)<(n2:Int):=by omega
     have LJ:Hid (∀ l,(T9.many T9.eU k s2).2=some l→l.length≤1099511627776):=hid ((uD k s2).bound L2.out)
     have CT:=hid (xY (w:=wr.drew) (HJ.out.1.cZ (aG.refl B [] wr).drew (by simp) (by simp)) LJ.out)
     have S0:wr.drew.cell? ⟨w1.heap.size,1,none⟩=some (.slice A2 k c2):=(ai HJ.out.2.2.2.2.2.1).2
     have gz:w1.heap.size<wr.heap.size:=lt_of_block HJ.out.2.2.2.2.2.1
     go_wp2_with fail
     refine Any.begin (S:=fun u=>u.cell? ⟨w1.heap.size,1,none⟩=some (.slice A2 k c2)) (st:=7) pM ?_
     refine Any.take (st:=7) (i:=0) (v:=?_) rfl (by kernel_rfl) (by kernel_rfl) (by kernel_rfl) rfl (by kernel_rfl) (fun _ _ _ h=>h) (Or.inl ⟨by rfl,?_⟩) S0 ?_
     rotate_left
     ·intro u hu
      have hu:u.cell? ⟨w1.heap.size,1,none⟩=some (.slice A2 k c2):=hu
      go_simp
      try rfl
     try simp only [Act.put,List.setIfInBounds_toArray,List.set_cons_zero,List.set_cons_succ,List.getElem_toArray,List.getElem_cons_zero]
     refine Any.take (st:=7) (i:=1) (v:=?_) rfl (by kernel_rfl) (by kernel_rfl) (by kernel_rfl) rfl (by kernel_rfl) (fun _ _ _ h=>h) (Or.inl ⟨by rfl,?_⟩) S0 ?_
     rotate_left
     ·intro u hu
      have hu:u.cell? ⟨w1.heap.size,1,none⟩=some (.slice A2 k c2):=hu
      go_simp
      try rfl
     try simp only [Act.put,pS]
     refine Any.take (st:=7) (i:=2) (v:=?_) rfl (by kernel_rfl) (by kernel_rfl) (by kernel_rfl) rfl (by kernel_rfl) (fun _ _ _ h=>h) (Or.inl ⟨by rfl,?_⟩) S0 ?_
     rotate_left
     ·intro u hu
      have hu:u.cell? ⟨w1.heap.size,1,none⟩=some (.slice A2 k c2):=hu
      go_simp
      try rfl
     try simp only [Act.put,pS]
     clear S0
     refine Any.one (i:=3) (by kernel_rfl) rfl (fun K hK=>?_)
     go_simp
     refine CT.out.mono ?_
     rintro e wa ⟨m,rfl,hmt,hmL,hmc,hr,ht⟩
     have TA:=hid ((aG.refl B [147] wr).drew.trans ht)
     have MT:=hid (And.intro hmt (And.intro hmL (And.intro hmc hr)))
     have ga:=TA.out.blk HJ.out.2.2.2.2.2.1 (by decide)
     have GA:=hid ga
     have RA:=hid (TA.out.blk HJ.out.2.2.2.2.2.2.1 (by decide))
     have xa:=(ai ga).2
     have hbs:=rG m wa
     have zB:=hr.size
     clear hmt hmL hmc hr ht ga
     refine hK _ _ (fun _=>xa) ?_
     clear hK K
     try simp only [Act.put,pS]
     refine Any.one (i:=4) (by kernel_rfl) rfl (fun K hK=>?_)
     go_simp
     refine hK _ _ (fun _=>(ai (aW GA.out _)).2) ?_
     clear hK K hbs
     try simp only [Act.put,pS]
     refine Any.one (i:=5) (by kernel_rfl) rfl (fun K hK=>?_)
     have qF:=hid ((bu HJ.out.2.2.2.1 TA.out (by decide)).alloc (.cells (dO m).toArray 97))
     refine jL rfl _ _ 26 rfl B 97 ki0 _ 7 80 underlying26 khi kz0 kz1 kz2 rfl (by decide) _ k _ rfl qF.out 0 (some ⟨wa.heap.size,0,none⟩) 1 1 (dO m) 97 rfl rfl (av.dD (heap_alloc_new wa _)) (uZ m) (by unfold maxLen;omega) (by omega) (by simp;omega) ?_
     intro v6 w6 hown6 aP iT
     obtain⟨A6,k6,rfl⟩:=aL hown6
     have g6:=bV qF.out aP (aW GA.out (.cells (dO m).toArray 97)) (by decide)
     have r6:=bV qF.out aP (aW RA.out (.cells (dO m).toArray 97)) (by decide)
     have T6:Hid (aG B [97] wa w6):=hid (((aG.refl B [97] wa).alloc zB (.cells (dO m).toArray 97)).trans (dB (B:=B) (ts:=[97]) qF.out aP (Nat.le_refl _) (by simp;omega) (by simp)))
     have G6:=hid g6
     have R6:=hid r6
     have zD:=hid hown6
     have e61:=(ai g6).2
     have f61:=aa g6 1
     have Y6:Hid (Ty w6 w1.heap.size 28):=hid ⟨_,_,g6⟩
     refine hK _ _ (fun _=>e61) ?_
     clear hK K g6 r6 hown6 aP iT xa
     try simp only [Act.put,pS]
     refine Any.one (i:=6) (by kernel_rfl) rfl (fun K hK=>?_)
     go_simp
     refine hK _ _ (fun _=>e61) ?_
     clear hK K
     try simp only [Act.put,pS]
     refine Any.one (i:=7) (by kernel_rfl) rfl (fun K hK=>?_)
     go_simp
     refine hK _ _ (fun e=>absurd rfl e) ?_
     clear hK K
     try simp only [Act.put,List.setIfInBounds_toArray,List.set_cons_zero,List.set_cons_succ,List.getElem_toArray,List.getElem_cons_zero]
     refine Any.done (by kernel_rfl) ?_
     have bz:=BZ.out
     obtain⟨wf,hwf⟩:∃ u,w6.setCell ⟨w1.heap.size,1,none⟩ (.slice A6 (k+1) k6)=u:=⟨_,rfl⟩
     have TS:Hid (aG B [28] w6 wf):=hid (by rw [← hwf];exact (aG.refl B [28] w6).bB (p:=⟨w1.heap.size,1,none⟩) Y6.out (by simp) (by show B≤w1.heap.size;omega) _)
     have G7:Hid (wf.heap[w1.heap.size]?=some (.cells #[.slice A1 j c1,.slice A6 (k+1) k6] 28 (0,0))):=hid (by rw [← hwf];exact (ae G6.out 1 (.slice A6 (k+1) k6)).trans rfl)
     have xc:Hid (wf.heap[w.heap.size]?=some (.cells #[.slice none 0 0,.slice none 0 0] 28 (0,0))):=hid (by rw [← hwf];exact aI R6.out (p:=⟨w1.heap.size,1,none⟩) (by show w.heap.size≠w1.heap.size;omega) _)
     have R7:Hid (RS 147 B 5 wf p (T9.many T9.eU (k+1) s2).2):=hid (by
      rw [T9.aY]
      exact (MT.out.2.2.2.cZ T6.out (by decide) (by decide)).cZ TS.out (by decide) (by decide))
     have K7:Hid (bg (ms++[m])=(T9.many T9.eU (k+1) s2).1):=hid (by rw [T9.aY,gq,HJ.out.2.1,MT.out.1])
     have F7:Hid (∀ q∈ms++[m],av wf 0 9 q.A (dA q.t.tags)∧q.t.tags.length≤q.c):=hid fun q hq=>by
      rcases List.mem_append.1 hq with h | h
      ·obtain⟨h1,h2⟩:=HJ.out.2.2.1 q h
       exact⟨((h1.cZ TA.out.zero (by decide)).cZ T6.out.zero (by decide)).cZ TS.out.zero (by decide),h2⟩
      ·simp only [List.mem_cons,List.not_mem_nil,or_false] at h
       subst h
       exact⟨(MT.out.2.1.cZ T6.out.zero (by decide)).cZ TS.out.zero (by decide),MT.out.2.2.1⟩
     have O7:Hid (wf.ownsRow B 97 7 (.slice A6 (k+1) k6) (k+1) (f_ (ms++[m]))):=hid (by rw [mF];exact bu zD.out TS.out (by decide))
     have P7:Hid (wf.ownsRow B 94 2 (.slice A1 j c1) j (dV (T9.many T9.bf j s1).1)):=hid (bu (bu (bu HJ.out.2.2.2.2.1 TA.out (by decide)) T6.out (by decide)) TS.out (by decide))
     have B7:Hid (Below w.heap.size w wf):=hid (((HJ.out.2.2.2.2.2.2.2.trans (TA.out.below.mono (by omega))).trans (T6.out.below.mono (by omega))).trans (TS.out.below.mono (by omega)))
     have ML7:Hid ((ms++[m]).length=k+1):=hid (by rw [List.length_append,HML.out];rfl)
     clear bz zB gz e61 f61
     rw [hwf]
     go_wp2
     go_roundw
     case rel=>exact⟨k+1,A6,k6,ms++[m],by go_num,by omega,ML7.out,R7.out,K7.out,F7.out,O7.out,P7.out,G7.out,xc.out,B7.out⟩
     case measure=>simp [intOf];omega
    ·obtain rfl:k=n2:=by omega
     have eD:¬ ((k:Int)<(k:Int)):=by omega
     obtain⟨s3,hs3⟩:∃ v,v=(T9.many T9.eU k s2).2:=⟨_,rfl⟩
     have RDE:Hid (T9.qa (some b)=(⟨(T9.many T9.bf j s1).1,bg ms⟩,s3)):=hid (by
      have q1:(Cd.aS 60 (some b)).1=j:=N1.out.symm
      have q2:(Cd.aS 60 (some b)).2=s1:=S1.out.symm
      have q3:(Cd.aS 60 (T9.many T9.bf j s1).2).1=k:=N2.out.symm
      have q4:(Cd.aS 60 (T9.many T9.bf j s1).2).2=s2:=S2.out.symm
      unfold T9.qa
      dsimp only
      rw [q1,q2,q3,q4,← HJ.out.2.1,hs3])
     have RS3:RS 147 B 5 wr p s3:=by rw [hs3];exact HJ.out.1
     have CE:=hid (sW RS3)
     have rb:=HJ.out.2.2.2.2.2.2.1
     have gb:=HJ.out.2.2.2.2.2.1
     obtain⟨p0,p1⟩:=ai gb
     have LLr:Hid (LL wr A1 (T9.many T9.bf j s1).1):=hid (aD (B:=0) (t:=94) HJ.out.2.2.2.2.1).old
     have KLr:Hid (KL wr A2 ms):=hid ⟨(aD (B:=0) (t:=97) HJ.out.2.2.2.1).old,fun m hm=>⟨(HJ.out.2.2.1 m hm).1.old,(HJ.out.2.2.1 m hm).2⟩⟩
     have ec:=(aA HJ.out.2.2.2.2.1).2
     have ek:=(aA HJ.out.2.2.2.1).2
     have SHT:Hid ((⟨(T9.many T9.bf j s1).1,bg ms⟩:T9.St).short):=hid (by rw [HJ.out.2.1];exact vX (by omega) (by omega))
     have RC:=hid (zh (c:=c1) (c2:=c2) LLr.out KLr.out (T9.bL _ _ _).symm HML.out.symm SHT.out ⟨ec,ek⟩)
     have EC:=hid (And.intro ec ek)
     have BW:=hid HJ.out.2.2.2.2.2.2.2
     have RBW:=hid rb
     have GBW:=hid gb
     clear hs3 RS3 rb gb ec ek
     by_cases he:s3=some []
     ·have ev:dK s3=0:=by rw [he];rfl
      have HE:=hid he
      clear he
      by_cases hr0:T9.aH ⟨(T9.many T9.bf j s1).1,bg ms⟩=0
      ·have HR0:=hid hr0
       rw [hr0] at RC
       have uK:Hid (T9.of b=(⟨(T9.many T9.bf j s1).1,bg ms⟩,0)):=hid (by unfold T9.of;rw [RDE.out,if_pos ⟨HE.out,HR0.out⟩])
       clear hr0
       go_wp2_with (go_at_call 93;refine CE.out.mono ?_;rintro e w' ⟨rfl,rfl⟩)
       refine RC.out.mono ?_
       rintro e w8 ⟨rfl,h8⟩
       have cu:=ah RBW.out h8
       have gb8:=ah GBW.out h8
       obtain⟨d0,d1⟩:=ai cu
       obtain⟨g0,g1⟩:=ai gb8
       have lL:=aa cu 0
       have lM:=aa cu 1
       have fF:Hid (((w8.setCell ⟨w.heap.size,0,none⟩ (.slice A1 j c1)).setCell ⟨w.heap.size,1,none⟩ (.slice A2 k c2)).heap[w.heap.size]?=some (.cells #[.slice A1 j c1,.slice A2 k c2] 28 (0,0))):=hid ((ae (ae cu 0 (.slice A1 j c1)) 1 (.slice A2 k c2)).trans rfl)
       obtain⟨k0,k1⟩:=ai fF.out
       have H8:=hid h8
       have xe:=hid cu
       clear cu gb8 h8 p0 p1
       go_wp2
       refine bodyPost_ret (v:=.tuple #[.agg #[.slice A1 j c1,.slice A2 k c2],.int .i64 0]) (by simp [results,results120,go_sem,k0,k1]) rfl ?_
       have y8:Ty w8 w.heap.size 28:=⟨_,_,xe.out⟩
       have TF:=((aG.refl 0 [28] w8).bB (p:=⟨w.heap.size,0,none⟩) y8 (by simp) (Nat.zero_le _) (.slice A1 j c1)).bB (p:=⟨w.heap.size,1,none⟩) (y8.set _ _) (by simp) (Nat.zero_le _) (.slice A2 k c2)
       have T8:aG 0 [28] wr w8:=(aG.of_below H8.out (Nat.le_refl _) _).zero
       have TG:=T8.trans TF
       refine⟨⟨(T9.many T9.bf j s1).1,A1,c1,ms,A2,c2⟩,?_,⟨?_,?_,?_,?_,?_⟩,?_,?_⟩
       ·rw [uK.out]
        show _=Ending.returned (Value.tuple #[.agg #[.slice A1 (T9.many T9.bf j s1).1.length c1,.slice A2 ms.length c2],.int .i64 0])
        rw [T9.bL,HML.out]
       ·exact (aD (B:=0) (t:=94) HJ.out.2.2.2.2.1).cZ TG (by decide)
       ·exact (aD (B:=0) (t:=97) HJ.out.2.2.2.1).cZ TG (by decide)
       ·exact fun m hm=>⟨(HJ.out.2.2.1 m hm).1.cZ TG (by decide),(HJ.out.2.2.1 m hm).2⟩
       ·show (T9.many T9.bf j s1).1.length≤c1
        rw [T9.bL];exact EC.out.1
       ·show ms.length≤c2
        rw [HML.out];exact EC.out.2
       ·rw [uK.out];rfl
       ·exact ((BW.out.trans (H8.out.mono BW.out.size)).setCell (Nat.le_refl _) _).setCell (Nat.le_refl _) _
      ·have uK:Hid (T9.of b=(⟨[],[]⟩,90)):=hid (by unfold T9.of;rw [RDE.out,if_neg (fun q=>hr0 q.2)])
       have hz:(T9.aH ⟨(T9.many T9.bf j s1).1,bg ms⟩==0)=false:=by simp [hr0]
       have hz2:(T9.aH ⟨(T9.many T9.bf j s1).1,bg ms⟩ != 0)=true:=by simp [hr0]
       go_wp2_with (go_at_call 93;refine CE.out.mono ?_;rintro e w' ⟨rfl,rfl⟩)
       refine RC.out.mono ?_
       rintro e w8 ⟨rfl,h8⟩
       have cu:=ah RBW.out h8
       obtain⟨d0,d1⟩:=ai cu
       have lL:=aa cu 0
       have lM:=aa cu 1
       have fF:Hid (((w8.setCell ⟨w.heap.size,0,none⟩ (.slice none 0 0)).setCell ⟨w.heap.size,1,none⟩ (.slice none 0 0)).heap[w.heap.size]?=some (.cells #[.slice none 0 0,.slice none 0 0] 28 (0,0))):=hid ((ae (ae cu 0 (.slice none 0 0)) 1 (.slice none 0 0)).trans rfl)
       obtain⟨k0,k1⟩:=ai fF.out
       have H8:=hid h8
       clear cu h8 p0 p1
       go_wp2
       refine bodyPost_ret (v:=.tuple #[.agg #[.slice none 0 0,.slice none 0 0],.int .i64 90]) (by simp [results,results120,go_sem,k0,k1]) rfl ?_
       exact⟨⟨[],none,0,[],none,0⟩,by rw [uK.out];rfl,⟨av.nil,av.nil,by simp,Nat.le_refl _,Nat.le_refl _⟩,by rw [uK.out];rfl,((BW.out.trans (H8.out.mono BW.out.size)).setCell (Nat.le_refl _) _).setCell (Nat.le_refl _) _⟩
     ·have uK:Hid (T9.of b=(⟨[],[]⟩,90)):=hid (by unfold T9.of;rw [RDE.out,if_neg (fun q=>he q.1)])
      have ev:dK s3=20:=by
       unfold dK
       split
       ·exact absurd rfl he
       ·rfl
      have h8:Below wr.heap.size wr wr:=Below.refl _ _
      have cu:=RBW.out
      clear he
      obtain⟨d0,d1⟩:=ai cu
      have lL:=aa cu 0
      have lM:=aa cu 1
      have fF:Hid (((wr.setCell ⟨w.heap.size,0,none⟩ (.slice none 0 0)).setCell ⟨w.heap.size,1,none⟩ (.slice none 0 0)).heap[w.heap.size]?=some (.cells #[.slice none 0 0,.slice none 0 0] 28 (0,0))):=hid ((ae (ae cu 0 (.slice none 0 0)) 1 (.slice none 0 0)).trans rfl)
      obtain⟨k0,k1⟩:=ai fF.out
      have H8:=hid h8
      clear cu h8 p0 p1
      go_wp2_with (go_at_call 93;refine CE.out.mono ?_;rintro e w' ⟨rfl,rfl⟩)
      refine bodyPost_ret (v:=.tuple #[.agg #[.slice none 0 0,.slice none 0 0],.int .i64 90]) (by simp [results,results120,go_sem,k0,k1]) rfl ?_
      exact⟨⟨[],none,0,[],none,0⟩,by rw [uK.out];rfl,⟨av.nil,av.nil,by simp,Nat.le_refl _,Nat.le_refl _⟩,by rw [uK.out];rfl,((BW.out.trans (H8.out.mono BW.out.size)).setCell (Nat.le_refl _) _).setCell (Nat.le_refl _) _⟩
end
section
open Go.RowKit Go.Lib Go.Sort
section
variable {P : Program} {ops : Array Oper} {Q : Exit → Act → World → Prop} {md : Region.Mode} {S S' : World → Prop}
theorem aJ {i:Nat} {oi:Oper} {f:Nat} {ls:Array Bool} {a:Act} {w:World} (hr:Region.ready md ops ls=[i]) (hi:ops[i]?=some oi)
  (h:∀ K:Act→World→Prop,(∀ b u,S u→wpAnyH P md ops Q S f (ls.setIfInBounds i true) b u→K b u)→if Region.wanted oi (yielded ops a.tmps)=true then Oper.wp P oi a w K Q else K (a.put oi.dst undef) w):wpAnyH P md ops Q S (f+1) ls a w:=by
 refine⟨fun e=>absurd e (by rw [hr];simp),fun j hj=>?_⟩
 rw [hr,List.mem_singleton] at hj
 subst hj
 exact wpOp_step hi (fun K hK=>h K (fun b u q1 q2=>hK b u ⟨q1,q2⟩))
end
theorem wH (l o:List UInt8):(str l==str o)=decide (l=o):=by
 by_cases h:l=o
 ·subst h
  rw [decide_eq_true rfl]
  exact (Go.MapKept.bytes_beq _ _).2 rfl
 ·rw [decide_eq_false h]
  cases q:str l==str o with
  | false=>rfl
  | true=>exact absurd (by have z:=(Go.MapKept.bytes_beq _ _).1 q;have z2:=congrArg (fun b=>b.data.toList) z;simpa [str] using z2) h
end
end
end Go.Proofs.YtmcfknnfaokmlaaGreat
