import Derived.Test.YtcedlgedmkghgaaZ16
import Derived.Test.YtcedlgedmkghgaaZ21
import Derived.Test.YtcedlgedmkghgaaZ9
import Derived.Test.YtcedlgedmkghgaaZ15
import Derived.StillTailTactics
import Derived.Deep.RegionHeld3
namespace Go.Proofs.Ytcedlgedmkghgaa
set_option maxHeartbeats 16000000
open Go.Lib
set_option linter.unusedSimpArgs false
set_option maxRecDepth 100000
section
section
section
namespace T9
def many {α:Type} (f:Option (List UInt8)→α × Option (List UInt8)):Nat→Option (List UInt8)→List α × Option (List UInt8)
 | 0,s=>([],s)
 | n+1,s=>((f s).1 :: (many f n (f s).2).1,(many f n (f s).2).2)
theorem aY {α:Type} (f:Option (List UInt8)→α × Option (List UInt8)):∀ (n:Nat) (s:Option (List UInt8)),many f (n+1) s=((many f n s).1++[(f (many f n s).2).1],(f (many f n s).2).2)
 | 0,s=>rfl
 | n+1,s=>by
  show ((f s).1 :: (many f (n+1) (f s).2).1,(many f (n+1) (f s).2).2)=_
  rw [aY f n (f s).2]
  rfl
theorem bD {α:Type} (f:Option (List UInt8)→α × Option (List UInt8)):∀ (n:Nat) (s:Option (List UInt8)),(many f n s).1.length=n
 | 0,_=>rfl
 | n+1,s=>by show ((many f n (f s).2).1.length+1)=_;rw [bD f n]
theorem eO {α:Type} {f:Option (List UInt8)→α × Option (List UInt8)} {enc:α→List UInt8} {g:α→α}:∀ {l:List α},(∀ x∈l,∀ t,f (some (enc x++t))=(g x,some t))→∀ t,many f l.length (some (l.flatMap enc++t))=(l.map g,some t)
 | [],_,t=>rfl
 | x :: l,h,t=>by
  rw [List.flatMap_cons,List.append_assoc,List.length_cons]
  unfold many
  rw [h x (List.mem_cons_self ..),eO (fun y hy=>h y (List.mem_cons_of_mem _ hy)) t]
  rfl
def bn (s:Option (List UInt8)):Li × Option (List UInt8) :=
 (⟨(Cd.aH Cd.full s).1,(Cd.bL 60 (Cd.aH Cd.full s).2).1⟩,(Cd.bL 60 (Cd.aH Cd.full s).2).2)
def s1 (s:Option (List UInt8)):=(Cd.aH Cd.full s).2
def s2 (s:Option (List UInt8)):=(Cd.aH Cd.full (s1 s)).2
def s3 (s:Option (List UInt8)):=(Cd.bL 60 (s2 s)).2
def s4 (s:Option (List UInt8)):=(Cd.ku (s3 s)).2
def s5 (s:Option (List UInt8)):=(Cd.jB (s4 s)).2
def s6 (s:Option (List UInt8)):=(Cd.jB (s5 s)).2
def s7 (s:Option (List UInt8)):=(Cd.aH 60 (s6 s)).2
def jd (s:Option (List UInt8)):=(Cd.aH 60 (s6 s)).1
def eY (s:Option (List UInt8)):Tk × Option (List UInt8) :=
 (⟨(Cd.aH Cd.full s).1,(Cd.aH Cd.full (s1 s)).1,(Cd.bL 60 (s2 s)).1,(Cd.ku (s3 s)).1,(Cd.jB (s4 s)).1,(Cd.jB (s5 s)).1,(many (Cd.bL 60) (jd s) (s7 s)).1⟩,(many (Cd.bL 60) (jd s) (s7 s)).2)
def jV (s:Option (List UInt8)):St × Option (List UInt8) :=
 let a:=Cd.aH 60 s
 let ls:=many bn a.1 a.2
 let b:=Cd.aH 60 ls.2
 let ts:=many eY b.1 b.2
 (⟨ls.1,ts.1⟩,ts.2)
def of (b:List UInt8):St × Int:=if (jV (some b)).2=some []∧aN (jV (some b)).1=0 then ((jV (some b)).1,0) else (⟨[],[]⟩,90)
theorem nV {a:Nat} (h:a<18446744073709551616) (t:List UInt8):Cd.jB (some (Cd.fix (Fl.key a).toNat 8++t))=(Fl.canon a,some t):=by
 have q:=Fl.fit_key h
 unfold Cd.jB
 rw [Cd.rdW_fix (by omega) (Cd.key_pow a)]
 simp only [Cd.key_nat,q.1,q.2,if_true]
theorem xn {l:Li} (h:l.ok) (hn:l.name.length≤60) (t:List UInt8):bn (some (cB l++t))=(l,some t):=by
 have e:Cd.aH Cd.full (some (cB l++t))=(l.id,some (St.wb l.name++t)):=by
  unfold cB
  rw [List.append_assoc]
  exact Cd.aJ h (by have:l.id<18446744073709551616:=h;unfold Cd.full;omega) _
 unfold bn
 rw [e,St.iG _ _ hn (by omega)]
theorem xy {k:Tk} (h:k.ok) (hn:k.title.length≤60) (hf:k.tags.length≤60) (ht:∀ x∈k.tags,x.length≤60) (t:List UInt8):eY (some (aZ k++t))=({ k with rank:=Fl.canon k.rank,est:=Fl.canon k.est },some t):=by
 obtain⟨h1,h2,h3,h4⟩:=h
 have e1:Cd.aH Cd.full (some (aZ k++t))=(k.id,some (Cd.num k.list++(St.wb k.title++(St.fl k.done++(Cd.fix (Fl.key k.rank).toNat 8++(Cd.fix (Fl.key k.est).toNat 8++(Cd.num k.tags.length++(k.tags.flatMap St.wb++t)))))))):=by
  unfold aZ
  simp only [List.append_assoc]
  exact Cd.aJ h1 (by unfold Cd.full;omega) _
 have f1:s1 (some (aZ k++t))=some (Cd.num k.list++(St.wb k.title++(St.fl k.done++(Cd.fix (Fl.key k.rank).toNat 8++(Cd.fix (Fl.key k.est).toNat 8++(Cd.num k.tags.length++(k.tags.flatMap St.wb++t))))))):=by unfold s1;rw [e1]
 have e2:=Cd.aJ h2 (most:=Cd.full) (by unfold Cd.full;omega) (St.wb k.title++(St.fl k.done++(Cd.fix (Fl.key k.rank).toNat 8++(Cd.fix (Fl.key k.est).toNat 8++(Cd.num k.tags.length++(k.tags.flatMap St.wb++t))))))
 have f2:s2 (some (aZ k++t))=some (St.wb k.title++(St.fl k.done++(Cd.fix (Fl.key k.rank).toNat 8++(Cd.fix (Fl.key k.est).toNat 8++(Cd.num k.tags.length++(k.tags.flatMap St.wb++t)))))):=by unfold s2;rw [f1,e2]
 have e3:=St.iG (m:=60) k.title (St.fl k.done++(Cd.fix (Fl.key k.rank).toNat 8++(Cd.fix (Fl.key k.est).toNat 8++(Cd.num k.tags.length++(k.tags.flatMap St.wb++t))))) hn (by omega)
 have f3:s3 (some (aZ k++t))=some (St.fl k.done++(Cd.fix (Fl.key k.rank).toNat 8++(Cd.fix (Fl.key k.est).toNat 8++(Cd.num k.tags.length++(k.tags.flatMap St.wb++t))))):=by unfold s3;rw [f2,e3]
 have e4:=St.xk k.done (Cd.fix (Fl.key k.rank).toNat 8++(Cd.fix (Fl.key k.est).toNat 8++(Cd.num k.tags.length++(k.tags.flatMap St.wb++t))))
 have f4:s4 (some (aZ k++t))=some (Cd.fix (Fl.key k.rank).toNat 8++(Cd.fix (Fl.key k.est).toNat 8++(Cd.num k.tags.length++(k.tags.flatMap St.wb++t)))):=by unfold s4;rw [f3,e4]
 have e5:=nV h3 (Cd.fix (Fl.key k.est).toNat 8++(Cd.num k.tags.length++(k.tags.flatMap St.wb++t)))
 have f5:s5 (some (aZ k++t))=some (Cd.fix (Fl.key k.est).toNat 8++(Cd.num k.tags.length++(k.tags.flatMap St.wb++t))):=by unfold s5;rw [f4,e5]
 have e6:=nV h4 (Cd.num k.tags.length++(k.tags.flatMap St.wb++t))
 have f6:s6 (some (aZ k++t))=some (Cd.num k.tags.length++(k.tags.flatMap St.wb++t)):=by unfold s6;rw [f5,e6]
 have e7:=Cd.aJ (n:=k.tags.length) (most:=60) (by omega) hf (k.tags.flatMap St.wb++t)
 have f7:s7 (some (aZ k++t))=some (k.tags.flatMap St.wb++t):=by unfold s7;rw [f6,e7]
 have fn:jd (some (aZ k++t))=k.tags.length:=by unfold jd;rw [f6,e7]
 have e8:=eO (f:=Cd.bL 60) (enc:=St.wb) (g:=fun x=>x) (l:=k.tags) (fun x hx t=>St.iG x t (ht x hx) (by have:=ht x hx;omega)) t
 unfold eY
 rw [e1,f1,e2,f2,e3,f3,e4,f4,e5,f5,e6,f7,fn,e8]
 simp
theorem xx {s:St} (h:s.ok) (hl:s.lists.length≤60) (ht:s.tasks.length≤60) (hn:∀ l∈s.lists,l.name.length≤60) (hk:∀ t∈s.tasks,t.title.length≤60∧t.tags.length≤60∧∀ x∈t.tags,x.length≤60) :
  jV (some (gB s))=(⟨s.lists,s.tasks.map fun t=>{ t with rank:=Fl.canon t.rank,est:=Fl.canon t.est }⟩,some []):=by
 have e1:Cd.aH 60 (some (gB s))=(s.lists.length,some (s.lists.flatMap cB++(Cd.num s.tasks.length++(s.tasks.flatMap aZ++[])))):=by
  unfold gB
  rw [List.append_nil]
  simp only [List.append_assoc]
  exact Cd.aJ (by omega) hl _
 have e2:=eO (f:=bn) (enc:=cB) (g:=fun x=>x) (l:=s.lists) (fun x hx t=>xn (h.1 x hx) (hn x hx) t) (Cd.num s.tasks.length++(s.tasks.flatMap aZ++[]))
 have e3:=Cd.aJ (n:=s.tasks.length) (most:=60) (by omega) ht (s.tasks.flatMap aZ++[])
 have e4:=eO (f:=eY) (enc:=aZ) (g:=fun t=>{ t with rank:=Fl.canon t.rank,est:=Fl.canon t.est }) (l:=s.tasks) (fun x hx t=>xy (h.2 x hx) (hk x hx).1 (hk x hx).2.1 (hk x hx).2.2 t) []
 unfold jV
 rw [e1]
 dsimp only
 rw [e2]
 dsimp only
 rw [e3]
 dsimp only
 rw [e4]
 simp
end T9
end
section
namespace T9
theorem kU:∀ {ls:List Li} {a:Nat},aP a ls=0→∀ l∈ls,title l.name=true
 | [],_,_,_,hm=>by cases hm
 | x :: ls,a,h,l,hm=>by
  unfold aP at h
  by_cases h1:x.id≤a
  ·rw [if_pos h1] at h;omega
  rw [if_neg h1] at h
  by_cases h2:title x.name=false
  ·rw [if_pos h2] at h;omega
  rw [if_neg h2] at h
  rcases List.mem_cons.1 hm with rfl | q
  ·simpa using h2
  ·exact kU h l q
theorem lS {ls:List Li}:∀ {ts:List Tk} {a:Nat},aS ls a ts=0→∀ t∈ts,az t=0
 | [],_,_,_,hm=>by cases hm
 | x :: ts,a,h,t,hm=>by
  unfold aS at h
  by_cases h1:x.id≤a
  ·rw [if_pos h1] at h;omega
  rw [if_neg h1] at h
  by_cases h2:(ls.any fun l=>l.id==x.list)=false
  ·rw [if_pos h2] at h;omega
  rw [if_neg h2] at h
  by_cases h3:az x≠0
  ·rw [if_pos h3] at h;exact absurd h h3
  rw [if_neg h3] at h
  rcases List.mem_cons.1 hm with rfl | q
  ·exact Decidable.not_not.1 h3
  ·exact lS h t q
theorem gu:∀ {ts:List (List UInt8)} {a:List UInt8},bV a ts=true→∀ t∈ts,tag t=true
 | [],_,_,_,hm=>by cases hm
 | x :: ts,a,h,t,hm=>by
  unfold bV at h
  simp only [Bool.and_eq_true] at h
  rcases List.mem_cons.1 hm with rfl | q
  ·exact h.1.1
  ·exact gu h.2 t q
theorem fP {l:List UInt8} (h:title l=true):l.length≤60:=by
 unfold title at h
 simp only [Bool.and_eq_true,decide_eq_true_eq] at h
 exact h.1.2
theorem ow {l:List UInt8} (h:tag l=true):l.length≤16:=by
 unfold tag at h
 simp only [Bool.and_eq_true,decide_eq_true_eq] at h
 exact h.1.2
theorem qW {b:Nat} (h:j6 b=true):Fl.canon b=b:=by
 unfold j6 Fl.I at h
 simp only [beq_iff_eq] at h
 omega
theorem bQ {t:Tk} (h:az t=0):t.title.length≤60∧j6 t.rank=true∧j6 t.est=true∧t.tags.length≤4∧bV [] t.tags=true:=by
 unfold az at h
 by_cases h1:title t.title=false
 ·rw [if_pos h1] at h;omega
 rw [if_neg h1] at h
 by_cases h2:(Fl.aU t.rank || !j6 t.rank)=true
 ·rw [if_pos h2] at h;omega
 rw [if_neg h2] at h
 by_cases h3:j6 t.est=false
 ·rw [if_pos h3] at h;omega
 rw [if_neg h3] at h
 by_cases h4:4<t.tags.length
 ·rw [if_pos h4] at h;omega
 rw [if_neg h4] at h
 by_cases h5:bV [] t.tags=true
 ·exact⟨fP (by simpa using h1),by simp at h2;exact h2.2,by simpa using h3,by omega,h5⟩
 ·rw [if_neg h5] at h;omega
theorem gJ {s:St} (h:aN s=0):s.lists.length≤20∧s.tasks.length≤60∧(∀ l∈s.lists,l.name.length≤60)∧∀ t∈s.tasks,az t=0:=by
 unfold aN at h
 by_cases h1:20<s.lists.length∨60<s.tasks.length
 ·rw [if_pos h1] at h;omega
 rw [if_neg h1] at h
 by_cases h2:aP 0 s.lists≠0
 ·rw [if_pos h2] at h;exact absurd h h2
 rw [if_neg h2] at h
 exact⟨by omega,by omega,fun l hl=>fP (kU (Decidable.not_not.1 h2) l hl),lS h⟩
theorem back {s:St} (h:s.ok) (hr:aN s=0):jV (some (gB s))=(s,some []):=by
 obtain⟨h1,h2,h3,h4⟩:=gJ hr
 rw [xx h (by omega) h2 h3 (fun t ht=>by
  obtain⟨q1,_,_,q4,q5⟩:=bQ (h4 t ht)
  exact⟨q1,by omega,fun x hx=>by have:=ow (gu q5 x hx);omega⟩)]
 have e:(s.tasks.map fun t=>{ t with rank:=Fl.canon t.rank,est:=Fl.canon t.est })=s.tasks:=by
  conv=>rhs;rw [← List.map_id s.tasks]
  refine List.map_congr_left fun t ht=>?_
  obtain⟨_,q2,q3,_,_⟩:=bQ (h4 t ht)
  show Tk.mk t.id t.list t.title t.done (Fl.canon t.rank) (Fl.canon t.est) t.tags=t
  rw [qW q2,qW q3]
 rw [e]
theorem sQ {s:St} (h:s.ok) (hr:aN s=0):of (gB s)=(s,0):=by
 unfold of
 rw [back h hr,if_pos ⟨rfl,hr⟩]
end T9
end
end
section
open Go.RowKit Go.Lib
@[go_sem] theorem buildK9n (n : Int) (w : World) : (Instr.build 69 #[(0, .int .u64 n)]).run Try.prog w = .ok (.agg #[.int .u64 n, .int .u64 0, .string ⟨#[]⟩, .bool false, .float .f64 0, .float .f64 0, .slice none 0 0]) w := run_build w 69 _ _ (by kernel_rfl)
theorem aX:(18446744073709551615:Int).toNat=Cd.full:=by unfold Cd.full;rfl
theorem RS.jC {B p:Nat} {tb:TypeId} {w:World} {s:Option (List UInt8)} (h:RS 104 B tb w p s) {g:Nat} (ht:Ty w g 69) (hB:B≤g) (h2:tb≠69) (i:Nat) (u:Value):RS 104 B tb (w.setCell ⟨g,i,none⟩ u) p s :=
 h.dB ((ay.refl B [69] w).aW (p:=⟨g,i,none⟩) ht (by simp) hB u) (by decide) (by simpa using h2)
theorem ay.zero {B:Nat} {ts:List TypeId} {w w':World} (h:ay B ts w w'):ay 0 ts w w':=⟨h.below.mono (Nat.zero_le _),h.typed⟩
def TkOk (B p:Nat) (s:Option (List UInt8)) (w:World) (e:Ending) (w':World):Prop :=
 ∃ m:fe,e=.returned (.agg (dm m).toArray)∧m.t=(T9.eY s).1∧ah w' 0 9 m.A (dn m.t.tags)∧m.t.tags.length≤m.c∧RS 104 B 5 w' p (T9.eY s).2∧ay B [104] w w'
theorem fO (s:Option (List UInt8)):St.jl s (Cd.aH Cd.full s).2:=St.bI _ s
theorem jE:∀ (n:Nat) (s:Option (List UInt8)),St.jl s (T9.many (Cd.bL 60) n s).2
 | 0,_=>fun t ht=>⟨t,ht,Nat.le_refl _⟩
 | n+1,s=>(St.mX 60 s).trans (jE n _)
theorem lK (s:Option (List UInt8)):St.jl s (Cd.jB s).2:=fun t ht=>by
 unfold Cd.jB at ht
 cases q:(Cd.fC 8 s).2 with
 | none=>rw [q] at ht;simp at ht
 | some u =>
  rw [q] at ht
  dsimp only at ht
  split at ht
  ·injection ht with ht
   subst ht
   cases s with
   | none=>simp [Cd.fC] at q
   | some l =>
    by_cases h8:8≤l.length
    ·simp only [Cd.fC,if_pos h8,Option.some.injEq] at q
     exact⟨l,rfl,by rw [← q,List.length_drop];omega⟩
    ·simp [Cd.fC,if_neg h8] at q
  ·cases ht
theorem rz {B p:Nat} {s:Option (List UInt8)} {w:World} (h:RS 104 B 5 w p s) (hl:∀ l,s=some l→l.length≤1099511627776) :
  Calls Try.prog 84 #[.pointer (some ⟨p,0,none⟩)] w (TkOk B p s w):=by
 have hBs:=h.size
 have BS:=hid hBs
 obtain⟨w0,hw0⟩:∃ u,w.alloc (.cells #[.int .u64 0,.int .u64 0,.string ⟨#[]⟩,.bool false,.float .f64 0,.float .f64 0,.slice none 0 0] 69)=u:=⟨_,rfl⟩
 obtain⟨pX,b0,z0⟩:=dO hw0
 have R0:Hid (RS 104 B 5 w0 p s):=hid (by rw [← hw0];exact h.alloc _)
 have vg:=hid pX
 have Tw0:Hid (ay B [104] w w0):=hid (ay.of_below b0 hBs _)
 have Z0:=hid z0
 have L0:=hid hl
 have N1:=hid (cK (mz:=18446744073709551615) R0.out (by decide) L0.out (by decide))
 rw [aX] at N1
 clear h hl pX b0 z0 hBs
 go_enter Try.func84,Try.ntmps84
 go_wp2_with fail
 refine N1.out.mono ?_
 rintro e w1 ⟨rfl,hr,ht⟩
 obtain⟨i0,hi0⟩:∃ v,v=(Cd.aH Cd.full s).1:=⟨_,rfl⟩
 rw [← hi0]
 have I0:=hid hi0
 have yj:=hid (fO s)
 have hr:RS 104 B 5 w1 p (T9.s1 s):=hr
 have yh:=hid (ht.blk vg.out (by decide))
 have Tw1:=hid (Tw0.out.trans ht)
 clear hw0 hi0
 go_wp2_with fail
 obtain⟨w2,hw2⟩:∃ u,w1.alloc (.cells #[.int .u64 (i0:Int),.int .u64 0,.string ⟨#[]⟩,.bool false,.float .f64 0,.float .f64 0,.slice none 0 0] 69)=u:=⟨_,rfl⟩
 rw [hw2]
 obtain⟨lb2,b2,z2⟩:=dO hw2
 have GZ:Hid (w.heap.size+1≤w1.heap.size):=hid (by have:=lt_of_block yh.out;omega)
 have R2:Hid (RS 104 B 5 w2 p (T9.s1 s)):=hid (by rw [← hw2];exact hr.alloc _)
 have tO:Hid (ay B [104] w w2):=hid (by rw [← hw2];exact Tw1.out.alloc (by have:=GZ.out;have:=BS.out;omega) _)
 have RB2:=hid (ak yh.out b2)
 have LB2:=hid lb2
 clear hr ht lb2 b2 z2
 have C1:=hid (cK (mz:=18446744073709551615) R2.out (by decide) (yj.out.bound L0.out) (by decide))
 rw [aX] at C1
 refine C1.out.mono ?_
 rintro e w3 ⟨rfl,hr,ht⟩
 obtain⟨i1,hi1⟩:∃ v,v=(Cd.aH Cd.full (T9.s1 s)).1:=⟨_,rfl⟩
 rw [← hi1]
 have I1:=hid hi1
 have hr:RS 104 B 5 w3 p (T9.s2 s):=hr
 have wu:=ht.blk LB2.out (by decide)
 have uK:=ht.blk RB2.out (by decide)
 have uX:=hid (tO.out.trans ht)
 have y1:Ty w3 w1.heap.size 69:=⟨_,_,wu⟩
 obtain⟨c30,c31,c32,c33,c34,c35,c36⟩:=ax wu
 have f3:=aa wu 1
 obtain⟨w4,hw4⟩:∃ u,w3.setCell ⟨w1.heap.size,1,none⟩ (.int .u64 (i1:Int))=u:=⟨_,rfl⟩
 have LB4:Hid (w4.heap[w1.heap.size]?=some (.cells #[.int .u64 (i0:Int),.int .u64 (i1:Int),.string ⟨#[]⟩,.bool false,.float .f64 0,.float .f64 0,.slice none 0 0] 69 (0,0))):=hid (by rw [← hw4];exact (af wu 1 (.int .u64 (i1:Int))).trans rfl)
 have RB4:Hid (w4.heap[w.heap.size]?=some (.cells #[.int .u64 0,.int .u64 0,.string ⟨#[]⟩,.bool false,.float .f64 0,.float .f64 0,.slice none 0 0] 69 (0,0))):=hid (by rw [← hw4];exact aF uK (p:=⟨w1.heap.size,1,none⟩) (by have:=GZ.out;show w.heap.size≠w1.heap.size;omega) (.int .u64 (i1:Int)))
 have R4:Hid (RS 104 B 5 w4 p (T9.s2 s)):=hid (by rw [← hw4];exact hr.jC y1 (by have:=GZ.out;have:=BS.out;omega) (by decide) _ _)
 have vz:Hid (ay B [104] w w4):=hid (by rw [← hw4];exact uX.out.dQ (p:=⟨w1.heap.size,1,none⟩) (by have:=GZ.out;show w.heap.size≤w1.heap.size;omega) BS.out _)
 have SH2:=hid (yj.out.trans (fO (T9.s1 s)))
 clear hr ht hi1 wu uK y1
 have C2:=hid (lg (mz:=60) R4.out (by decide) (SH2.out.bound L0.out) (by decide) (by decide))
 go_wp2_with fail
 refine C2.out.mono ?_
 rintro e w5 ⟨Ab,nb,cb,rfl,jv,hr,ht⟩
 obtain⟨hnb,_⟩:=aC jv
 obtain⟨i2,hi2⟩:∃ v,v=(Cd.bL 60 (T9.s2 s)).1:=⟨_,rfl⟩
 have cv:=gP (c:=cb) (aB (B:=0) (t:=5) jv) hnb
 rw [show (Cd.bL (60:Int).toNat (T9.s2 s)).1=i2 from hi2.symm] at cv
 have I2:=hid hi2
 have hr:RS 104 B 5 w5 p (T9.s3 s):=hr
 have lb5:=ht.blk LB4.out (by decide)
 have rb5:=ht.blk RB4.out (by decide)
 have yl:=hid (vz.out.trans ht)
 have y2:Ty w5 w1.heap.size 69:=⟨_,_,lb5⟩
 obtain⟨c50,c51,c52,c53,c54,c55,c56⟩:=ax lb5
 have f5:=aa lb5 2
 obtain⟨w6,hw6⟩:∃ u,w5.setCell ⟨w1.heap.size,2,none⟩ (.string (str i2))=u:=⟨_,rfl⟩
 have LB6:Hid (w6.heap[w1.heap.size]?=some (.cells #[.int .u64 (i0:Int),.int .u64 (i1:Int),.string (str i2),.bool false,.float .f64 0,.float .f64 0,.slice none 0 0] 69 (0,0))):=hid (by rw [← hw6];exact (af lb5 2 (.string (str i2))).trans rfl)
 have RB6:Hid (w6.heap[w.heap.size]?=some (.cells #[.int .u64 0,.int .u64 0,.string ⟨#[]⟩,.bool false,.float .f64 0,.float .f64 0,.slice none 0 0] 69 (0,0))):=hid (by rw [← hw6];exact aF rb5 (p:=⟨w1.heap.size,2,none⟩) (by have:=GZ.out;show w.heap.size≠w1.heap.size;omega) (.string (str i2)))
 have R6:Hid (RS 104 B 5 w6 p (T9.s3 s)):=hid (by rw [← hw6];exact hr.jC y2 (by have:=GZ.out;have:=BS.out;omega) (by decide) _ _)
 have Tw6:Hid (ay B [104] w w6):=hid (by rw [← hw6];exact yl.out.dQ (p:=⟨w1.heap.size,2,none⟩) (by have:=GZ.out;show w.heap.size≤w1.heap.size;omega) BS.out _)
 have SH3:=hid (SH2.out.trans (St.mX 60 (T9.s2 s)))
 clear hr ht hi2 lb5 rb5 y2 jv hnb
 have C3:=hid (rG_rd R6.out (by decide) (SH3.out.bound L0.out))
 go_wp2_with fail
 refine C3.out.mono ?_
 rintro e w7 ⟨rfl,hr,ht⟩
 obtain⟨i3,hi3⟩:∃ v,v=(Cd.ku (T9.s3 s)).1:=⟨_,rfl⟩
 rw [← hi3]
 have I3:=hid hi3
 have hr:RS 104 B 5 w7 p (T9.s4 s):=hr
 have lb7:=ht.blk LB6.out (by decide)
 have rb7:=ht.blk RB6.out (by decide)
 have Tw7:=hid (Tw6.out.trans ht)
 have y3:Ty w7 w1.heap.size 69:=⟨_,_,lb7⟩
 obtain⟨c70,c71,c72,c73,c74,c75,c76⟩:=ax lb7
 have f7:=aa lb7 3
 obtain⟨w8,hw8⟩:∃ u,w7.setCell ⟨w1.heap.size,3,none⟩ (.bool i3)=u:=⟨_,rfl⟩
 have tL:Hid (w8.heap[w1.heap.size]?=some (.cells #[.int .u64 (i0:Int),.int .u64 (i1:Int),.string (str i2),.bool i3,.float .f64 0,.float .f64 0,.slice none 0 0] 69 (0,0))):=hid (by rw [← hw8];exact (af lb7 3 (.bool i3)).trans rfl)
 have RB8:Hid (w8.heap[w.heap.size]?=some (.cells #[.int .u64 0,.int .u64 0,.string ⟨#[]⟩,.bool false,.float .f64 0,.float .f64 0,.slice none 0 0] 69 (0,0))):=hid (by rw [← hw8];exact aF rb7 (p:=⟨w1.heap.size,3,none⟩) (by have:=GZ.out;show w.heap.size≠w1.heap.size;omega) (.bool i3))
 have R8:Hid (RS 104 B 5 w8 p (T9.s4 s)):=hid (by rw [← hw8];exact hr.jC y3 (by have:=GZ.out;have:=BS.out;omega) (by decide) _ _)
 have Tw8:Hid (ay B [104] w w8):=hid (by rw [← hw8];exact Tw7.out.dQ (p:=⟨w1.heap.size,3,none⟩) (by have:=GZ.out;show w.heap.size≤w1.heap.size;omega) BS.out _)
 have SH4:=hid (SH3.out.trans (St.xG (T9.s3 s)))
 clear hr ht hi3 lb7 rb7 y3
 have C4:=hid (xh R8.out (by decide) (SH4.out.bound L0.out))
 go_wp2_with fail
 refine C4.out.mono ?_
 rintro e w9 ⟨rfl,hr,ht⟩
 obtain⟨i4,hi4⟩:∃ v,v=(Cd.jB (T9.s4 s)).1:=⟨_,rfl⟩
 rw [← hi4]
 have I4:=hid hi4
 have hr:RS 104 B 5 w9 p (T9.s5 s):=hr
 have lb9:=ht.blk tL.out (by decide)
 have rb9:=ht.blk RB8.out (by decide)
 have Tw9:=hid (Tw8.out.trans ht)
 have y4:Ty w9 w1.heap.size 69:=⟨_,_,lb9⟩
 obtain⟨c90,c91,c92,c93,c94,c95,c96⟩:=ax lb9
 have f9:=aa lb9 4
 obtain⟨qx,uo⟩:∃ u,w9.setCell ⟨w1.heap.size,4,none⟩ (.float .f64 i4)=u:=⟨_,rfl⟩
 have LB10:Hid (qx.heap[w1.heap.size]?=some (.cells #[.int .u64 (i0:Int),.int .u64 (i1:Int),.string (str i2),.bool i3,.float .f64 i4,.float .f64 0,.slice none 0 0] 69 (0,0))):=hid (by rw [← uo];exact (af lb9 4 (.float .f64 i4)).trans rfl)
 have RB10:Hid (qx.heap[w.heap.size]?=some (.cells #[.int .u64 0,.int .u64 0,.string ⟨#[]⟩,.bool false,.float .f64 0,.float .f64 0,.slice none 0 0] 69 (0,0))):=hid (by rw [← uo];exact aF rb9 (p:=⟨w1.heap.size,4,none⟩) (by have:=GZ.out;show w.heap.size≠w1.heap.size;omega) (.float .f64 i4))
 have R10:Hid (RS 104 B 5 qx p (T9.s5 s)):=hid (by rw [← uo];exact hr.jC y4 (by have:=GZ.out;have:=BS.out;omega) (by decide) _ _)
 have vw:Hid (ay B [104] w qx):=hid (by rw [← uo];exact Tw9.out.dQ (p:=⟨w1.heap.size,4,none⟩) (by have:=GZ.out;show w.heap.size≤w1.heap.size;omega) BS.out _)
 have SH5:=hid (SH4.out.trans (lK (T9.s4 s)))
 clear hr ht hi4 lb9 rb9 y4
 have C5:=hid (xh R10.out (by decide) (SH5.out.bound L0.out))
 go_wp2_with fail
 refine C5.out.mono ?_
 rintro e rR ⟨rfl,hr,ht⟩
 obtain⟨i5,hi5⟩:∃ v,v=(Cd.jB (T9.s5 s)).1:=⟨_,rfl⟩
 rw [← hi5]
 have I5:=hid hi5
 have hr:RS 104 B 5 rR p (T9.s6 s):=hr
 have wh:=ht.blk LB10.out (by decide)
 have rb11:=ht.blk RB10.out (by decide)
 have tN:=hid (vw.out.trans ht)
 have y5:Ty rR w1.heap.size 69:=⟨_,_,wh⟩
 obtain⟨c110,c111,c112,c113,c114,c115,c116⟩:=ax wh
 have f11:=aa wh 5
 obtain⟨qC,uq⟩:∃ u,rR.setCell ⟨w1.heap.size,5,none⟩ (.float .f64 i5)=u:=⟨_,rfl⟩
 have LB12:Hid (qC.heap[w1.heap.size]?=some (.cells #[.int .u64 (i0:Int),.int .u64 (i1:Int),.string (str i2),.bool i3,.float .f64 i4,.float .f64 i5,.slice none 0 0] 69 (0,0))):=hid (by rw [← uq];exact (af wh 5 (.float .f64 i5)).trans rfl)
 have RB12:Hid (qC.heap[w.heap.size]?=some (.cells #[.int .u64 0,.int .u64 0,.string ⟨#[]⟩,.bool false,.float .f64 0,.float .f64 0,.slice none 0 0] 69 (0,0))):=hid (by rw [← uq];exact aF rb11 (p:=⟨w1.heap.size,5,none⟩) (by have:=GZ.out;show w.heap.size≠w1.heap.size;omega) (.float .f64 i5))
 have R12:Hid (RS 104 B 5 qC p (T9.s6 s)):=hid (by rw [← uq];exact hr.jC y5 (by have:=GZ.out;have:=BS.out;omega) (by decide) _ _)
 have Tw12:Hid (ay B [104] w qC):=hid (by rw [← uq];exact tN.out.dQ (p:=⟨w1.heap.size,5,none⟩) (by have:=GZ.out;show w.heap.size≤w1.heap.size;omega) BS.out _)
 have SH6:=hid (SH5.out.trans (lK (T9.s5 s)))
 clear hr ht hi5 wh rb11 y5
 have C6:=hid (cK (mz:=60) R12.out (by decide) (SH6.out.bound L0.out) (by decide))
 go_wp2_with fail
 refine C6.out.mono ?_
 rintro e u6 ⟨rfl,hr,ht⟩
 obtain⟨n,hn⟩:∃ v,v=T9.jd s:=⟨_,rfl⟩
 have hn':n=(Cd.aH (60:Int).toNat (T9.s6 s)).1:=hn
 rw [← hn']
 have NT:=hid hn
 have n60:n≤60:=by rw [hn'];exact (Cd.b_ 60 (T9.s6 s)).2
 have hr:RS 104 B 5 u6 p (T9.s7 s):=hr
 have LB13:=hid (ht.blk LB12.out (by decide))
 have vk:=hid (ht.blk RB12.out (by decide))
 have Tw13:=hid (Tw12.out.trans ht)
 have R13:=hid hr
 have SH7:Hid (St.jl s (T9.s7 s)):=hid (SH6.out.trans (St.bI 60 (T9.s6 s)))
 obtain⟨fi0,hfi,fz0,fz1,fz2⟩:=info_parts Try.infoStr9
 clear hn hn' hr ht
 go_wp2_with fail
 go_loopw [25] (fun s25 wr=>∃ (j:Nat) (A:Option Addr) (c:Nat),s25=.int .u64 j∧j≤n∧Aside (RS 104 B 5 wr p (T9.many (Cd.bL 60) j (T9.s7 s)).2∧wr.ownsRow w.heap.size 9 1 (.slice A j c) j (dn (T9.many (Cd.bL 60) j (T9.s7 s)).1)∧wr.heap[w1.heap.size]?=some (.cells #[.int .u64 (i0:Int),.int .u64 (i1:Int),.string (str i2),.bool i3,.float .f64 i4,.float .f64 i5,.slice A j c] 69 (0,0))∧wr.heap[w.heap.size]?=some (.cells #[.int .u64 0,.int .u64 0,.string ⟨#[]⟩,.bool false,.float .f64 0,.float .f64 0,.slice none 0 0] 69 (0,0))∧ay B [104] w wr)) (fun s25 _=>n - (intOf s25).toNat)
 case atStart=>exact⟨0,none,0,rfl,Nat.zero_le _,R13.out,World.ownsRow_nil _ _ _ _,LB13.out,vk.out,Tw13.out⟩
 case round =>
  obtain⟨j,A,c,rfl,hj,hI⟩:=hrel
  have HI:=hid hI.out
  clear hI
  by_cases hlt:j<n
  ·have hltz:(j:Int)<(n:Int):=by omega
   have g3:=HI.out.2.2.1
   obtain⟨x0,x1,x2,x3,x4,x5,x6⟩:=ax g3
   have SHJ:Hid (∀ l,(T9.many (Cd.bL 60) j (T9.s7 s)).2=some l→l.length≤1099511627776):=hid ((jE j (T9.s7 s)).bound (SH7.out.bound L0.out))
   have CB:=hid (lg (w:=wr.drew) (mz:=60) (HI.out.1.dB (ay.refl B [] wr).drew (by simp) (by simp)) (by decide) SHJ.out (by decide) (by decide))
   clear g3
   have S0:wr.drew.cell? ⟨w1.heap.size,6,none⟩=some (.slice A j c):=x6
   go_wp2_with fail
   refine Any.begin (S:=fun u=>u.cell? ⟨w1.heap.size,6,none⟩=some (.slice A j c)) (st:=8) rf ?_
   refine Any.take (st:=8) (i:=0) (v:=?_) rfl (by kernel_rfl) (by kernel_rfl) (by kernel_rfl) rfl (by kernel_rfl) (fun _ _ _ h=>h) (Or.inl ⟨by rfl,?_⟩) S0 ?_
   rotate_left
   ·intro u hu
    have hu:u.cell? ⟨w1.heap.size,6,none⟩=some (.slice A j c):=hu
    go_simp
    try rfl
   try simp only [Act.put,List.setIfInBounds_toArray,List.set_cons_zero,List.set_cons_succ,List.getElem_toArray,List.getElem_cons_zero]
   refine Any.take (st:=8) (i:=1) (v:=?_) rfl (by kernel_rfl) (by kernel_rfl) (by kernel_rfl) rfl (by kernel_rfl) (fun _ _ _ h=>h) (Or.inl ⟨by rfl,?_⟩) S0 ?_
   rotate_left
   ·intro u hu
    have hu:u.cell? ⟨w1.heap.size,6,none⟩=some (.slice A j c):=hu
    go_simp
    try rfl
   try simp only [Act.put,pS]
   refine Any.take (st:=8) (i:=2) (v:=?_) rfl (by kernel_rfl) (by kernel_rfl) (by kernel_rfl) rfl (by kernel_rfl) (fun _ _ _ h=>h) (Or.inl ⟨by rfl,?_⟩) S0 ?_
   rotate_left
   ·intro u hu
    have hu:u.cell? ⟨w1.heap.size,6,none⟩=some (.slice A j c):=hu
    go_simp
    try rfl
   try simp only [Act.put,pS]
   clear S0
   refine Any.one (i:=3) (by kernel_rfl) rfl (fun K hK=>?_)
   go_simp
   refine CB.out.mono ?_
   rintro e wa ⟨Ab,nb,cb,rfl,jv,hr,ht⟩
   obtain⟨hnb,_⟩:=aC jv
   obtain⟨x,hx⟩:∃ v,v=(Cd.bL (60:Int).toNat (T9.many (Cd.bL 60) j (T9.s7 s)).2).1:=⟨_,rfl⟩
   have cv:=gP (c:=cb) (aB (B:=0) (t:=5) jv) hnb
   rw [← hx] at cv
   have HX:=hid hx
   have HA:=hid (And.intro hr ht)
   have ga:=ht.blk HI.out.2.2.1 (by decide)
   have GA:=hid ga
   have xa:=(ax ga).2.2.2.2.2.2
   clear jv hnb hx hr ht ga
   refine hK _ _ (fun _=>xa) ?_
   clear hK K
   try simp only [Act.put,pS]
   refine Any.one (i:=4) (by kernel_rfl) rfl (fun K hK=>?_)
   go_simp
   refine hK _ _ (fun _=>xa) ?_
   clear hK K cv
   try simp only [Act.put,pS]
   refine Any.one (i:=5) (by kernel_rfl) rfl (fun K hK=>?_)
   go_simp
   refine hK _ _ (fun _=>(ax (aT GA.out _)).2.2.2.2.2.2) ?_
   clear hK K
   try simp only [Act.put,pS]
   refine Any.one (i:=6) (by kernel_rfl) rfl (fun K hK=>?_)
   have TA:=hid ((ay.refl B [104] wr).drew.trans HA.out.2)
   have zB:=HA.out.1.size
   have z0:w.heap.size≤wa.heap.size:=by have:=lt_of_block GA.out;have:=GZ.out;omega
   have yg:=hid (bi HI.out.2.1 TA.out (by decide))
   refine lN rfl _ _ 67 rfl w.heap.size 9 fi0 _ 1 16 Try.underlying67 hfi fz0 fz1 fz2 rfl (by decide) _ j _ rfl (yg.out.alloc (.cells #[.string (str x)] 9)) 0 (some ⟨wa.heap.size,0,none⟩) 1 1 [encS x] 9 rfl rfl (ah.dG (heap_alloc_new wa _)) (by intro v hv;simp at hv;subst hv;rfl) (by unfold maxLen;omega) (by omega) (by simp;omega) ?_
   intro v6 w6 hown6 a_ nO
   obtain⟨A6,k6,rfl⟩:=bv hown6
   have g6b:=dw (yg.out.alloc (.cells #[.string (str x)] 9)) a_ (aT GA.out (.cells #[.string (str x)] 9)) (by decide)
   have rb6:=dw (yg.out.alloc (.cells #[.string (str x)] 9)) a_ (aT (TA.out.blk HI.out.2.2.2.1 (by decide)) (.cells #[.string (str x)] 9)) (by decide)
   have T6:Hid (ay B [9] wa w6):=hid (((ay.refl B [9] wa).alloc zB (.cells #[.string (str x)] 9)).trans (dx (B:=B) (ts:=[9]) (yg.out.alloc (.cells #[.string (str x)] 9)) a_ BS.out (by simp;omega) (by simp)))
   have R6':Hid (RS 104 B 5 w6 p (T9.many (Cd.bL 60) (j+1) (T9.s7 s)).2):=hid (by
    rw [T9.aY]
    exact HA.out.1.dB T6.out (by decide) (by decide))
   have keep6:∀ k,k<w.heap.size→w6.heap[k]?=wa.heap[k]?:=fun k hk=>(a_.block k (by simp;omega) (fun q=>by
    have:=((yg.out.alloc (.cells #[.string (str x)] 9)).lt k q.symm).1
    omega)).trans (Below.heap_alloc wa _ k (by omega))
   have TT:=HI.out.2.2.2.2.trans TA.out
   have TW6:Hid (ay B [104] w w6):=hid ⟨TT.below.trans T6.out.below,fun k cs t fr hk ht=>(keep6 k (lt_of_block hk)).trans (TT.typed k cs t fr hk ht)⟩
   clear keep6 TT
   have HO6:=hid hown6
   have G6:=hid g6b
   have RB6:=hid rb6
   have x66:=(ax g6b).2.2.2.2.2.2
   have f66:=aa g6b 6
   refine hK _ _ (fun _=>x66) ?_
   clear hK K hown6 a_ nO g6b rb6 x6 xa
   try simp only [Act.put,pS]
   refine Any.one (i:=7) (by kernel_rfl) rfl (fun K hK=>?_)
   go_simp
   refine hK _ _ (fun _=>x66) ?_
   clear hK K
   try simp only [Act.put,pS]
   refine Any.one (i:=8) (by kernel_rfl) rfl (fun K hK=>?_)
   go_simp
   refine hK _ _ (fun e=>absurd rfl e) ?_
   clear hK K
   try simp only [Act.put,List.setIfInBounds_toArray,List.set_cons_zero,List.set_cons_succ,List.getElem_toArray,List.getElem_cons_zero]
   refine Any.done (by kernel_rfl) ?_
   have Y6:Hid (Ty w6 w1.heap.size 69):=hid ⟨_,_,G6.out⟩
   have gz:=GZ.out
   have bs:=BS.out
   have R7:Hid (RS 104 B 5 (w6.setCell ⟨w1.heap.size,6,none⟩ (.slice A6 (j+1) k6)) p (T9.many (Cd.bL 60) (j+1) (T9.s7 s)).2):=hid (R6'.out.jC Y6.out (by omega) (by decide) _ _)
   have O7:Hid ((w6.setCell ⟨w1.heap.size,6,none⟩ (.slice A6 (j+1) k6)).ownsRow w.heap.size 9 1 (.slice A6 (j+1) k6) (j+1) (dn (T9.many (Cd.bL 60) (j+1) (T9.s7 s)).1)):=hid (by
    rw [T9.aY,oW]
    have hx:x=(Cd.bL 60 (T9.many (Cd.bL 60) j (T9.s7 s)).2).1:=HX.out
    rw [← hx]
    exact dV HO6.out G6.out (by decide) _)
   have LB7:Hid ((w6.setCell ⟨w1.heap.size,6,none⟩ (.slice A6 (j+1) k6)).heap[w1.heap.size]?=some (.cells #[.int .u64 (i0:Int),.int .u64 (i1:Int),.string (str i2),.bool i3,.float .f64 i4,.float .f64 i5,.slice A6 (j+1) k6] 69 (0,0))):=hid ((af G6.out 6 (.slice A6 (j+1) k6)).trans rfl)
   have RB7:Hid ((w6.setCell ⟨w1.heap.size,6,none⟩ (.slice A6 (j+1) k6)).heap[w.heap.size]?=some (.cells #[.int .u64 0,.int .u64 0,.string ⟨#[]⟩,.bool false,.float .f64 0,.float .f64 0,.slice none 0 0] 69 (0,0))):=hid (aF RB6.out (p:=⟨w1.heap.size,6,none⟩) (by show w.heap.size≠w1.heap.size;omega) _)
   have T7:Hid (ay B [104] w (w6.setCell ⟨w1.heap.size,6,none⟩ (.slice A6 (j+1) k6))):=hid (TW6.out.dQ (p:=⟨w1.heap.size,6,none⟩) (by show w.heap.size≤w1.heap.size;omega) bs _)
   clear gz bs z0 zB x66 f66
   go_wp2
   go_roundw
   case rel=>exact⟨j+1,A6,k6,by go_num,by omega,R7.out,O7.out,LB7.out,RB7.out,T7.out⟩
   case measure=>simp [intOf];omega
  ·obtain rfl:j=n:=by omega
   have hltz:¬ ((j:Int)<(j:Int)):=by omega
   have g3:=HI.out.2.2.1
   have uK:=HI.out.2.2.2.1
   obtain⟨x0,x1,x2,x3,x4,x5,x6⟩:=ax g3
   obtain⟨q0,q1,q2,q3,q4,q5,q6⟩:=ax uK
   have fr0:=aa uK 0
   have fr1:=aa uK 1
   have fr2:=aa uK 2
   have fr3:=aa uK 3
   have fr4:=aa uK 4
   have fr5:=aa uK 5
   have fr6:=aa uK 6
   have ng:Hid ((((((((wr.setCell ⟨w.heap.size,0,none⟩ (.int .u64 (i0:Int))).setCell ⟨w.heap.size,1,none⟩ (.int .u64 (i1:Int))).setCell ⟨w.heap.size,2,none⟩ (.string (str i2))).setCell ⟨w.heap.size,3,none⟩ (.bool i3)).setCell ⟨w.heap.size,4,none⟩ (.float .f64 i4)).setCell ⟨w.heap.size,5,none⟩ (.float .f64 i5)).setCell ⟨w.heap.size,6,none⟩ (.slice A j c)).heap[w.heap.size]?=some (.cells #[.int .u64 (i0:Int),.int .u64 (i1:Int),.string (str i2),.bool i3,.float .f64 i4,.float .f64 i5,.slice A j c] 69 (0,0))):=hid ((af (af (af (af (af (af (af uK 0 (.int .u64 (i0:Int))) 1 (.int .u64 (i1:Int))) 2 (.string (str i2))) 3 (.bool i3)) 4 (.float .f64 i4)) 5 (.float .f64 i5)) 6 (.slice A j c)).trans rfl)
   obtain⟨k0,k1,k2,k3,k4,k5,k6⟩:=ax ng.out
   clear g3 uK
   go_wp2
   refine bodyPost_ret (v:=.agg #[.int .u64 (i0:Int),.int .u64 (i1:Int),.string (str i2),.bool i3,.float .f64 i4,.float .f64 i5,.slice A j c]) (by simp [results,Try.results84,go_sem,k0,k1,k2,k3,k4,k5,k6]) rfl ?_
   have TL:(T9.many (Cd.bL 60) j (T9.s7 s)).1.length=j:=T9.bD _ _ _
   have bs:=BS.out
   have yr:Ty wr w.heap.size 69:=⟨_,_,HI.out.2.2.2.1⟩
   have TF:=((((((((ay.refl B [69] wr).aW (p:=⟨w.heap.size,0,none⟩) (yr) (by simp) bs (.int .u64 (i0:Int))).aW (p:=⟨w.heap.size,1,none⟩) ((yr).set ⟨w.heap.size,0,none⟩ (.int .u64 (i0:Int))) (by simp) bs (.int .u64 (i1:Int))).aW (p:=⟨w.heap.size,2,none⟩) (((yr).set ⟨w.heap.size,0,none⟩ (.int .u64 (i0:Int))).set ⟨w.heap.size,1,none⟩ (.int .u64 (i1:Int))) (by simp) bs (.string (str i2))).aW (p:=⟨w.heap.size,3,none⟩) ((((yr).set ⟨w.heap.size,0,none⟩ (.int .u64 (i0:Int))).set ⟨w.heap.size,1,none⟩ (.int .u64 (i1:Int))).set ⟨w.heap.size,2,none⟩ (.string (str i2))) (by simp) bs (.bool i3)).aW (p:=⟨w.heap.size,4,none⟩) (((((yr).set ⟨w.heap.size,0,none⟩ (.int .u64 (i0:Int))).set ⟨w.heap.size,1,none⟩ (.int .u64 (i1:Int))).set ⟨w.heap.size,2,none⟩ (.string (str i2))).set ⟨w.heap.size,3,none⟩ (.bool i3)) (by simp) bs (.float .f64 i4)).aW (p:=⟨w.heap.size,5,none⟩) ((((((yr).set ⟨w.heap.size,0,none⟩ (.int .u64 (i0:Int))).set ⟨w.heap.size,1,none⟩ (.int .u64 (i1:Int))).set ⟨w.heap.size,2,none⟩ (.string (str i2))).set ⟨w.heap.size,3,none⟩ (.bool i3)).set ⟨w.heap.size,4,none⟩ (.float .f64 i4)) (by simp) bs (.float .f64 i5)).aW (p:=⟨w.heap.size,6,none⟩) (((((((yr).set ⟨w.heap.size,0,none⟩ (.int .u64 (i0:Int))).set ⟨w.heap.size,1,none⟩ (.int .u64 (i1:Int))).set ⟨w.heap.size,2,none⟩ (.string (str i2))).set ⟨w.heap.size,3,none⟩ (.bool i3)).set ⟨w.heap.size,4,none⟩ (.float .f64 i4)).set ⟨w.heap.size,5,none⟩ (.float .f64 i5)) (by simp) bs (.slice A j c))
   have TN:=(((((((HI.out.2.2.2.2.dQ (p:=⟨w.heap.size,0,none⟩) (Nat.le_refl _) bs (.int .u64 (i0:Int))).dQ (p:=⟨w.heap.size,1,none⟩) (Nat.le_refl _) bs (.int .u64 (i1:Int))).dQ (p:=⟨w.heap.size,2,none⟩) (Nat.le_refl _) bs (.string (str i2))).dQ (p:=⟨w.heap.size,3,none⟩) (Nat.le_refl _) bs (.bool i3)).dQ (p:=⟨w.heap.size,4,none⟩) (Nat.le_refl _) bs (.float .f64 i4)).dQ (p:=⟨w.heap.size,5,none⟩) (Nat.le_refl _) bs (.float .f64 i5)).dQ (p:=⟨w.heap.size,6,none⟩) (Nat.le_refl _) bs (.slice A j c))
   refine⟨⟨⟨i0,i1,i2,i3,i4,i5,(T9.many (Cd.bL 60) j (T9.s7 s)).1⟩,A,c⟩,?_,?_,?_,?_,?_,TN⟩
   ·show _=Ending.returned (Value.agg #[.int .u64 (i0:Int),.int .u64 (i1:Int),.string (str i2),.bool i3,.float .f64 i4,.float .f64 i5,.slice A (T9.many (Cd.bL 60) j (T9.s7 s)).1.length c])
    rw [TL]
   ·show T9.Tk.mk i0 i1 i2 i3 i4 i5 _=(T9.eY s).1
    unfold T9.eY
    rw [I0.out,I1.out,I2.out,I3.out,I4.out,I5.out,NT.out]
   ·exact (aB (t:=9) HI.out.2.1).dB TF.zero (by decide)
   ·show (T9.many (Cd.bL 60) j (T9.s7 s)).1.length≤c
    rw [TL]
    exact (aC HI.out.2.1).2
   ·unfold T9.eY
    rw [← NT.out]
    exact HI.out.1.dB TF (by decide) (by decide)
end
section
open Go.RowKit Go.Lib
@[go_sem] theorem buildL9n (n : Int) (w : World) : (Instr.build 66 #[(0, .int .u64 n)]).run Try.prog w = .ok (.agg #[.int .u64 n, .string ⟨#[]⟩]) w := run_build w 66 _ _ (by kernel_rfl)
theorem tX (l:T9.Li) (w:World):(Instr.buildSlice 25 1 #[(0,.agg #[.int .u64 (l.id:Int),.string (str l.name)])]).run Try.prog w=.ok (.slice (some ⟨w.heap.size,0,none⟩) 1 1) (w.alloc (.cells #[.int .u64 (l.id:Int),.string (str l.name)] 66)):=by
 obtain⟨i0,hi,hz0,hz1,hz2⟩:=info_parts Try.infoLi9
 exact bN w 25 66 #[.int .u64 (l.id:Int),.string (str l.name)] i0 _ Try.underlying25 hi hz0 hz1 (by show 0<2;omega) (by show 2≤_;omega)
theorem tV (m:fe) (w:World):(Instr.buildSlice 26 1 #[(0,.agg (dm m).toArray)]).run Try.prog w=.ok (.slice (some ⟨w.heap.size,0,none⟩) 1 1) (w.alloc (.cells (dm m).toArray 69)):=by
 obtain⟨i0,hi,hz0,hz1,hz2⟩:=info_parts Try.infoTk9
 exact bN w 26 69 (dm m).toArray i0 _ Try.underlying26 hi hz0 hz1 (by show 0<7;omega) (by show 7≤_;omega)
theorem shr_li (s:Option (List UInt8)):St.jl s (T9.bn s).2:=(fO s).trans (St.mX 60 _)
theorem kv:∀ (n:Nat) (s:Option (List UInt8)),St.jl s (T9.many T9.bn n s).2
 | 0,_=>fun t ht=>⟨t,ht,Nat.le_refl _⟩
 | n+1,s=>(shr_li s).trans (kv n _)
theorem shr_tk (s:Option (List UInt8)):St.jl s (T9.eY s).2:=((((((fO s).trans (fO _)).trans (St.mX 60 _)).trans (St.xG _)).trans (lK _)).trans (lK _)).trans ((St.bI 60 _).trans (jE _ _))
theorem tq:∀ (n:Nat) (s:Option (List UInt8)),St.jl s (T9.many T9.eY n s).2
 | 0,_=>fun t ht=>⟨t,ht,Nat.le_refl _⟩
 | n+1,s=>(shr_tk s).trans (tq n _)
theorem iF (m:Nat) (s:Option (List UInt8)):(Cd.bL m s).1.length≤m:=by
 unfold Cd.bL
 cases (Cd.aH m s).2 with
 | none=>exact Nat.zero_le _
 | some t =>
  dsimp only
  split
  ·rw [List.length_take]
   have:=(Cd.b_ m s).2
   omega
  ·exact Nat.zero_le _
theorem gH {α:Type} {f:Option (List UInt8)→α × Option (List UInt8)} {P:α→Prop} (h:∀ s,P (f s).1):∀ (n:Nat) (s:Option (List UInt8)),∀ x∈(T9.many f n s).1,P x
 | 0,_,_,hx=>by cases hx
 | n+1,s,x,hx=>by
  rcases List.mem_cons.1 hx with rfl | q
  ·exact h s
  ·exact gH h n _ x q
theorem xA {n1 n2:Nat} {s1 s2:Option (List UInt8)} (h1:n1≤60) (h2:n2≤60):(⟨(T9.many T9.bn n1 s1).1,(T9.many T9.eY n2 s2).1⟩:T9.St).short:=by
 have q1:∀ s,(T9.bn s).1.name.length≤1000000:=fun s=>by show (Cd.bL 60 _).1.length≤1000000;have:=iF 60 (Cd.aH Cd.full s).2;omega
 have q2:∀ s,(T9.eY s).1.short:=fun s=>by
  refine⟨by show (Cd.bL 60 _).1.length≤1000000;have:=iF 60 (T9.s2 s);omega,gH (fun s=>by have:=iF 60 s;omega) _ _,?_⟩
  show (T9.many (Cd.bL 60) (T9.jd s) (T9.s7 s)).1.length≤1000000
  rw [T9.bD]
  have:=(Cd.b_ 60 (T9.s6 s)).2
  unfold T9.jd
  omega
 refine⟨gH q1 _ _,gH q2 _ _,?_,?_⟩
 ·show (T9.many T9.bn n1 s1).1.length≤1000000
  rw [T9.bD];omega
 ·show (T9.many T9.eY n2 s2).1.length≤1000000
  rw [T9.bD];omega
def OfOk9T (b:List UInt8) (w:World) (e:Ending) (w':World):Prop :=
 ∃ m:jk,e=.returned (.tuple #[m.val,.int .i64 (T9.of b).2])∧uW m w'∧m.st=(T9.of b).1∧Below w.heap.size w w'
theorem of9T_c {A:Option Addr} {n c:Nat} {b:List UInt8} {w:World} {D:Nat} {td:TypeId} (h:ah w D td A (ae b)) (hn:n=b.length) (hb:n≤1000000000) (hD:D≤w.heap.size) :
  Calls Try.prog 67 #[.slice A n c] w (OfOk9T b w):=by
 obtain⟨w0,hw0⟩:∃ u,w.alloc (.cells #[.slice none 0 0,.slice none 0 0] 28)=u:=⟨_,rfl⟩
 obtain⟨pX,b0,z0⟩:=bg hw0
 have vg:=hid pX
 have B0:=hid b0
 have CR:=hid (nW (c:=c) ((h.more hD).old (t':=5) |>.below (Nat.le_refl _) b0) (by omega) hn (by omega))
 have HBL:Hid (b.length≤1000000000):=hid (by omega)
 clear h pX b0 hn hb
 go_enter Try.func67,Try.ntmps67
 go_wp2_with fail
 refine CR.out.mono ?_
 rintro e w1 ⟨p,rfl,hr,hb1⟩
 have yh:=hid (ak vg.out hb1)
 have B1:=hid (B0.out.trans (hb1.mono (by omega)))
 obtain⟨B,hB⟩:∃ v,v=w0.heap.size:=⟨_,rfl⟩
 rw [← hB] at hr
 have BZ:Hid (w.heap.size+1=B∧B≤w1.heap.size):=hid ⟨by omega,by have:=hb1.size;omega⟩
 have hl0:Hid (∀ l,some b=some l→l.length≤1099511627776):=hid (by intro l e;injection e with e;subst e;have:=HBL.out;omega)
 obtain⟨w2,hw2⟩:∃ u,w1.alloc (.cells #[.slice none 0 0,.slice none 0 0] 28)=u:=⟨_,rfl⟩
 obtain⟨gb2,b2,z2⟩:=bg hw2
 have R2:Hid (RS 104 B 5 w2 p (some b)):=hid (by rw [← hw2];exact hr.alloc _)
 have RB2:=hid (ak yh.out b2)
 have GB2:=hid gb2
 have B2:=hid (B1.out.trans (b2.mono B1.out.size))
 have Z2:=hid z2
 have C2:=hid (cK (mz:=60) R2.out (by decide) hl0.out (by decide))
 clear hr hb1 hB gb2 b2 z2 hw0 z0
 go_wp2_with fail
 refine C2.out.mono ?_
 rintro e w3 ⟨rfl,hr,ht⟩
 have nl:(Cd.aH (60:Int).toNat (some b)).1≤60:=(Cd.b_ 60 (some b)).2
 obtain⟨n1,hn1⟩:∃ v,v=(Cd.aH (60:Int).toNat (some b)).1:=⟨_,rfl⟩
 rw [← hn1] at nl ⊢
 have N1:=hid hn1
 obtain⟨s1,hs1⟩:∃ v,v=(Cd.aH (60:Int).toNat (some b)).2:=⟨_,rfl⟩
 rw [← hs1] at hr
 have S1:=hid hs1
 have L1:Hid (∀ l,s1=some l→l.length≤1099511627776):=hid (by rw [hs1];exact (St.bI 60 (some b)).bound hl0.out)
 have R3:=hid hr
 have RB3:=hid (ht.blk RB2.out (by decide))
 have GB3:=hid (ht.blk GB2.out (by decide))
 have B3:Hid (Below w.heap.size w w3):=hid (B2.out.trans (ht.below.mono (by have:=BZ.out;omega)))
 have zw3:Hid (w1.heap.size+1≤w3.heap.size):=hid (by have:=lt_of_block GB3.out;omega)
 obtain⟨li0,lhi,lz0,lz1,lz2⟩:=info_parts Try.infoLi9
 clear hr ht hn1 hs1
 go_wp2_with fail
 go_loopw [11] (fun s11 wr=>∃ (j:Nat) (A:Option Addr) (c:Nat),s11=.int .u64 j∧j≤n1∧Aside (RS 104 B 5 wr p (T9.many T9.bn j s1).2∧wr.ownsRow B 66 2 (.slice A j c) j (dY (T9.many T9.bn j s1).1)∧wr.heap[w1.heap.size]?=some (.cells #[.slice A j c,.slice none 0 0] 28 (0,0))∧wr.heap[w.heap.size]?=some (.cells #[.slice none 0 0,.slice none 0 0] 28 (0,0))∧Below w.heap.size w wr)) (fun s11 _=>n1 - (intOf s11).toNat)
 case atStart=>exact⟨0,none,0,rfl,Nat.zero_le _,R3.out,World.ownsRow_nil _ _ _ _,GB3.out,RB3.out,B3.out⟩
 case round =>
  obtain⟨j,A1,c1,rfl,hj,hI⟩:=hrel
  have HI:=hid hI.out
  clear hI
  by_cases hlt:j<n1
  ·have hltz:(j:Int)<(n1:Int):=by omega
   have LJ:Hid (∀ l,(T9.many T9.bn j s1).2=some l→l.length≤1099511627776):=hid ((kv j s1).bound L1.out)
   have CN:=hid (cK (mz:=18446744073709551615) HI.out.1 (by decide) LJ.out (by decide))
   rw [aX] at CN
   go_wp2_with fail
   refine CN.out.mono ?_
   rintro e wa ⟨rfl,hr,ht⟩
   obtain⟨id,kR⟩:∃ v,v=(Cd.aH Cd.full (T9.many T9.bn j s1).2).1:=⟨_,rfl⟩
   rw [← kR]
   have ID:=hid kR
   have LK:Hid (∀ l,(Cd.aH Cd.full (T9.many T9.bn j s1).2).2=some l→l.length≤1099511627776):=hid ((fO _).bound LJ.out)
   have Ta:=hid ht
   have Ra:=hid hr
   clear kR hr ht
   go_wp2_with fail
   obtain⟨wb,hwb⟩:∃ u,wa.alloc (.cells #[.int .u64 (id:Int),.string ⟨#[]⟩] 66)=u:=⟨_,rfl⟩
   rw [hwb]
   obtain⟨lb,bb,zb⟩:=bg hwb
   have Rb:Hid (RS 104 B 5 wb p (Cd.aH Cd.full (T9.many T9.bn j s1).2).2):=hid (by rw [← hwb];exact Ra.out.alloc _)
   have LB:=hid lb
   have Bb:=hid bb
   have CB:=hid (lg (mz:=60) Rb.out (by decide) LK.out (by decide) (by decide))
   clear lb bb zb
   refine CB.out.mono ?_
   rintro e wc ⟨Ab,nb,cb,rfl,jv,hr,ht⟩
   obtain⟨hnb,_⟩:=aC jv
   obtain⟨x,hx⟩:∃ v,v=(Cd.bL (60:Int).toNat (Cd.aH Cd.full (T9.many T9.bn j s1).2).2).1:=⟨_,rfl⟩
   have cv:=gP (c:=cb) (aB (B:=0) (t:=5) jv) hnb
   rw [← hx] at cv
   have X:=hid hx
   have Tc:=hid ht
   have Rc:=hid hr
   have ym:=ht.blk LB.out (by decide)
   obtain⟨l0,l1⟩:=aj ym
   have fl1:=aa ym 1
   have LBC:=hid ym
   clear jv hnb hx hr ht ym
   have gc:=Tc.out.blk (ak (Ta.out.blk HI.out.2.2.1 (by decide)) Bb.out) (by decide)
   have GC:=hid gc
   have OWC:=hid (bi (bi (bi HI.out.2.1 Ta.out (by decide)) (ay.of_below (B:=wa.heap.size) Bb.out (Nat.le_refl _) []) (by simp)) Tc.out (by decide))
   have rbc:=Tc.out.blk (ak (Ta.out.blk HI.out.2.2.2.1 (by decide)) Bb.out) (by decide)
   have sa:w1.heap.size+1≤wa.heap.size:=by have:=lt_of_block (Ta.out.blk HI.out.2.2.1 (by decide));omega
   have sb:=lt_of_block LBC.out
   obtain⟨wd,hwd⟩:∃ u,wc.setCell ⟨wa.heap.size,1,none⟩ (.string (str x))=u:=⟨_,rfl⟩
   have ld:wd.heap[wa.heap.size]?=some (.cells #[.int .u64 (id:Int),.string (str x)] 66 (0,0)):=by rw [← hwd];exact (af LBC.out 1 (.string (str x))).trans rfl
   have gd:wd.heap[w1.heap.size]?=some (.cells #[.slice A1 j c1,.slice none 0 0] 28 (0,0)):=by rw [← hwd];exact aF gc (p:=⟨wa.heap.size,1,none⟩) (by show w1.heap.size≠wa.heap.size;omega) _
   have rd:wd.heap[w.heap.size]?=some (.cells #[.slice none 0 0,.slice none 0 0] 28 (0,0)):=by rw [← hwd];exact aF rbc (p:=⟨wa.heap.size,1,none⟩) (by have:=BZ.out;show w.heap.size≠wa.heap.size;omega) _
   have zd:wd.heap.size=wc.heap.size:=by rw [← hwd,World.size_setCell]
   have ZD:=hid zd
   have zB:B≤wd.heap.size:=by have:=BZ.out;omega
   clear zd
   have OWD:Hid (wd.ownsRow B 66 2 (.slice A1 j c1) j (dY (T9.many T9.bn j s1).1)):=hid (by
    rw [← hwd]
    refine pV OWC.out fun k hk=>Below.heap_setCell wc _ _ k ?_
    have:=(HI.out.2.1.lt k hk).2
    have:=Ta.out.below.size
    show k≠wa.heap.size
    omega)
   have BD:Hid (Below w.heap.size w wd):=hid (by
    rw [← hwd]
    have bz:=BZ.out
    have s3:=zw3.out
    exact (((HI.out.2.2.2.2.trans (Ta.out.below.mono (by omega))).trans (Bb.out.mono (by omega))).trans (Tc.out.below.mono (by omega))).setCell (by show w.heap.size≤wa.heap.size;omega) _)
   have Rd:Hid (RS 104 B 5 wd p (T9.many T9.bn (j+1) s1).2):=hid (by
    rw [T9.aY,← hwd]
    exact Rc.out.dB ((ay.refl B [66] wc).aW (p:=⟨wa.heap.size,1,none⟩) ⟨_,_,LBC.out⟩ (by simp) (by have:=BZ.out;show B≤wa.heap.size;omega) _) (by decide) (by decide))
   obtain⟨d0,d1⟩:=aj ld
   have e0:=(aj gd).1
   have hbs:=tX ⟨id,x⟩ wd
   have GD:=hid gd
   have RD:=hid rd
   clear gc rbc ld gd rd
   have bz:=BZ.out
   have OWE:=hid (OWD.out.alloc (.cells #[.int .u64 (id:Int),.string (str x)] 66))
   have LE:Hid (ah (wd.alloc (.cells #[.int .u64 (id:Int),.string (str x)] 66)) 0 66 (some ⟨wd.heap.size,0,none⟩) (jr ⟨id,x⟩)):=hid (ah.dG (heap_alloc_new wd _))
   go_wp2_with (at_builtin;refine bP _ rfl _ _ 25 rfl B 66 li0 _ 2 24 Try.underlying25 lhi lz0 lz1 lz2 rfl (by decide) _ j (dY (T9.many T9.bn j s1).1) rfl OWE.out 0 _ 1 1 (jr ⟨id,x⟩) 66 rfl rfl LE.out (vQ _) (by unfold maxLen;omega) (by omega) (by simp;omega) ?_)
   intro v6 w6 hown6 a_ nO
   obtain⟨A6,k6,rfl⟩:=bv hown6
   have g6:=dw OWE.out a_ (aT GD.out (.cells #[.int .u64 (id:Int),.string (str x)] 66)) (by decide)
   have r6:=dw OWE.out a_ (aT RD.out (.cells #[.int .u64 (id:Int),.string (str x)] 66)) (by decide)
   have T6:Hid (ay B [66] wd w6):=hid (((ay.refl B [66] wd).alloc zB (.cells #[.int .u64 (id:Int),.string (str x)] 66)).trans (dx (B:=B) (ts:=[66]) OWE.out a_ (Nat.le_refl _) (by simp;omega) (by simp)))
   have G6:=hid g6
   have R6:=hid r6
   have HO6:=hid hown6
   have e60:=(aj g6).1
   have f60:=aa g6 0
   have Y6:Hid (Ty w6 w1.heap.size 28):=hid ⟨_,_,g6⟩
   clear g6 r6 hown6 a_ nO hbs d0 d1 e0
   have R7:Hid (RS 104 B 5 (w6.setCell ⟨w1.heap.size,0,none⟩ (.slice A6 (j+1) k6)) p (T9.many T9.bn (j+1) s1).2):=hid ((Rd.out.dB T6.out (by decide) (by decide)).dB ((ay.refl B [28] w6).aW (p:=⟨w1.heap.size,0,none⟩) Y6.out (by simp) (by show B≤w1.heap.size;omega) _) (by decide) (by decide))
   have O7:Hid ((w6.setCell ⟨w1.heap.size,0,none⟩ (.slice A6 (j+1) k6)).ownsRow B 66 2 (.slice A6 (j+1) k6) (j+1) (dY (T9.many T9.bn (j+1) s1).1)):=hid (by
    rw [T9.aY,pz]
    have e:(⟨id,x⟩:T9.Li)=(T9.bn (T9.many T9.bn j s1).2).1:=by
     unfold T9.bn
     rw [ID.out,X.out]
     rfl
    rw [← e]
    exact dV HO6.out G6.out (by decide) _)
   have LB7:Hid ((w6.setCell ⟨w1.heap.size,0,none⟩ (.slice A6 (j+1) k6)).heap[w1.heap.size]?=some (.cells #[.slice A6 (j+1) k6,.slice none 0 0] 28 (0,0))):=hid ((af G6.out 0 (.slice A6 (j+1) k6)).trans rfl)
   have RB7:Hid ((w6.setCell ⟨w1.heap.size,0,none⟩ (.slice A6 (j+1) k6)).heap[w.heap.size]?=some (.cells #[.slice none 0 0,.slice none 0 0] 28 (0,0))):=hid (aF R6.out (p:=⟨w1.heap.size,0,none⟩) (by show w.heap.size≠w1.heap.size;omega) _)
   have B7:Hid (Below w.heap.size w (w6.setCell ⟨w1.heap.size,0,none⟩ (.slice A6 (j+1) k6))):=hid ((BD.out.trans (T6.out.below.mono (by omega))).setCell (by show w.heap.size≤w1.heap.size;omega) _)
   clear sa sb zB bz
   go_wp2
   go_roundw
   case rel=>exact⟨j+1,A6,k6,by go_num,by omega,R7.out,O7.out,LB7.out,RB7.out,B7.out⟩
   case measure=>simp [intOf];omega
  ·obtain rfl:j=n1:=by omega
   have hltz:¬ ((j:Int)<(j:Int)):=by omega
   have C4:=hid (cK (mz:=60) HI.out.1 (by decide) ((kv j s1).bound L1.out) (by decide))
   go_wp2_with fail
   refine C4.out.mono ?_
   rintro e w4 ⟨rfl,hr,ht⟩
   have nl2:(Cd.aH (60:Int).toNat (T9.many T9.bn j s1).2).1≤60:=(Cd.b_ 60 _).2
   obtain⟨n2,hn2⟩:∃ v,v=(Cd.aH (60:Int).toNat (T9.many T9.bn j s1).2).1:=⟨_,rfl⟩
   rw [← hn2] at nl2 ⊢
   have N2:=hid hn2
   obtain⟨s2,hs2⟩:∃ v,v=(Cd.aH (60:Int).toNat (T9.many T9.bn j s1).2).2:=⟨_,rfl⟩
   rw [← hs2] at hr
   have S2:=hid hs2
   have L2:Hid (∀ l,s2=some l→l.length≤1099511627776):=hid (by rw [hs2];exact ((kv j s1).trans (St.bI 60 _)).bound L1.out)
   have R4:=hid hr
   have RB4:=hid (ht.blk HI.out.2.2.2.1 (by decide))
   have GB4:=hid (ht.blk HI.out.2.2.1 (by decide))
   have OL4:=hid (bi HI.out.2.1 ht (by decide))
   have B4:Hid (Below w.heap.size w w4):=hid (HI.out.2.2.2.2.trans (ht.below.mono (by have:=BZ.out;omega)))
   obtain⟨ki0,khi,kz0,kz1,kz2⟩:=info_parts Try.infoTk9
   clear hr ht hn2 hs2
   go_wp2_with fail
   go_loopw [29] (fun s29 wr=>∃ (k:Nat) (A2:Option Addr) (c2:Nat) (ms:List fe),s29=.int .u64 k∧k≤n2∧ms.length=k∧Aside (RS 104 B 5 wr p (T9.many T9.eY k s2).2∧bS ms=(T9.many T9.eY k s2).1∧(∀ m∈ms,ah wr 0 9 m.A (dn m.t.tags)∧m.t.tags.length≤m.c)∧wr.ownsRow B 69 7 (.slice A2 k c2) k (fE ms)∧wr.ownsRow B 66 2 (.slice A1 j c1) j (dY (T9.many T9.bn j s1).1)∧wr.heap[w1.heap.size]?=some (.cells #[.slice A1 j c1,.slice A2 k c2] 28 (0,0))∧wr.heap[w.heap.size]?=some (.cells #[.slice none 0 0,.slice none 0 0] 28 (0,0))∧Below w.heap.size w wr)) (fun s29 _=>n2 - (intOf s29).toNat)
   case atStart=>exact⟨0,none,0,[],rfl,Nat.zero_le _,rfl,R4.out,rfl,by simp,World.ownsRow_nil _ _ _ _,OL4.out,GB4.out,RB4.out,B4.out⟩
   case round =>
    obtain⟨k,A2,c2,ms,rfl,hk,hml,hJ⟩:=hrel
    have HJ:=hid hJ.out
    have HML:=hid hml
    clear hJ hml
    by_cases hlt2:k<n2
    ·have iW:(k:Int)<(n2:Int):=by omega
     have LJ:Hid (∀ l,(T9.many T9.eY k s2).2=some l→l.length≤1099511627776):=hid ((tq k s2).bound L2.out)
     have CT:=hid (rz (w:=wr.drew) (HJ.out.1.dB (ay.refl B [] wr).drew (by simp) (by simp)) LJ.out)
     have S0:wr.drew.cell? ⟨w1.heap.size,1,none⟩=some (.slice A2 k c2):=(aj HJ.out.2.2.2.2.2.1).2
     have gz:w1.heap.size<wr.heap.size:=lt_of_block HJ.out.2.2.2.2.2.1
     go_wp2_with fail
     refine Any.begin (S:=fun u=>u.cell? ⟨w1.heap.size,1,none⟩=some (.slice A2 k c2)) (st:=7) rf ?_
     refine Any.take (st:=7) (i:=0) (v:=?_) rfl (by kernel_rfl) (by kernel_rfl) (by kernel_rfl) rfl (by kernel_rfl) (fun _ _ _ h=>h) (Or.inl ⟨by rfl,?_⟩) S0 ?_
     rotate_left
     ·intro u hu
      have hu:u.cell? ⟨w1.heap.size,1,none⟩=some (.slice A2 k c2):=hu
      go_simp
      try rfl
     try simp only [Act.put,List.setIfInBounds_toArray,List.set_cons_zero,List.set_cons_succ,List.getElem_toArray,List.getElem_cons_zero]
     refine Any.take (st:=7) (i:=1) (v:=?_) rfl (by kernel_rfl) (by kernel_rfl) (by kernel_rfl) rfl (by kernel_rfl) (fun _ _ _ h=>h) (Or.inl ⟨by rfl,?_⟩) S0 ?_
     rotate_left
     ·intro u hu
      have hu:u.cell? ⟨w1.heap.size,1,none⟩=some (.slice A2 k c2):=hu
      go_simp
      try rfl
     try simp only [Act.put,pS]
     refine Any.take (st:=7) (i:=2) (v:=?_) rfl (by kernel_rfl) (by kernel_rfl) (by kernel_rfl) rfl (by kernel_rfl) (fun _ _ _ h=>h) (Or.inl ⟨by rfl,?_⟩) S0 ?_
     rotate_left
     ·intro u hu
      have hu:u.cell? ⟨w1.heap.size,1,none⟩=some (.slice A2 k c2):=hu
      go_simp
      try rfl
     try simp only [Act.put,pS]
     clear S0
     refine Any.one (i:=3) (by kernel_rfl) rfl (fun K hK=>?_)
     go_simp
     refine CT.out.mono ?_
     rintro e wa ⟨m,rfl,hmt,hmL,hmc,hr,ht⟩
     have TA:=hid ((ay.refl B [104] wr).drew.trans ht)
     have MT:=hid (And.intro hmt (And.intro hmL (And.intro hmc hr)))
     have ga:=TA.out.blk HJ.out.2.2.2.2.2.1 (by decide)
     have GA:=hid ga
     have RA:=hid (TA.out.blk HJ.out.2.2.2.2.2.2.1 (by decide))
     have xa:=(aj ga).2
     have hbs:=tV m wa
     have zB:=hr.size
     clear hmt hmL hmc hr ht ga
     refine hK _ _ (fun _=>xa) ?_
     clear hK K
     try simp only [Act.put,pS]
     refine Any.one (i:=4) (by kernel_rfl) rfl (fun K hK=>?_)
     go_simp
     refine hK _ _ (fun _=>(aj (aT GA.out _)).2) ?_
     clear hK K hbs
     try simp only [Act.put,pS]
     refine Any.one (i:=5) (by kernel_rfl) rfl (fun K hK=>?_)
     have yg:=hid ((bi HJ.out.2.2.2.1 TA.out (by decide)).alloc (.cells (dm m).toArray 69))
     refine lN rfl _ _ 26 rfl B 69 ki0 _ 7 80 Try.underlying26 khi kz0 kz1 kz2 rfl (by decide) _ k _ rfl yg.out 0 (some ⟨wa.heap.size,0,none⟩) 1 1 (dm m) 69 rfl rfl (ah.dG (heap_alloc_new wa _)) (vP m) (by unfold maxLen;omega) (by omega) (by simp;omega) ?_
     intro v6 w6 hown6 a_ nO
     obtain⟨A6,k6,rfl⟩:=bv hown6
     have g6:=dw yg.out a_ (aT GA.out (.cells (dm m).toArray 69)) (by decide)
     have r6:=dw yg.out a_ (aT RA.out (.cells (dm m).toArray 69)) (by decide)
     have T6:Hid (ay B [69] wa w6):=hid (((ay.refl B [69] wa).alloc zB (.cells (dm m).toArray 69)).trans (dx (B:=B) (ts:=[69]) yg.out a_ (Nat.le_refl _) (by simp;omega) (by simp)))
     have G6:=hid g6
     have R6:=hid r6
     have HO6:=hid hown6
     have e61:=(aj g6).2
     have f61:=aa g6 1
     have Y6:Hid (Ty w6 w1.heap.size 28):=hid ⟨_,_,g6⟩
     refine hK _ _ (fun _=>e61) ?_
     clear hK K g6 r6 hown6 a_ nO xa
     try simp only [Act.put,pS]
     refine Any.one (i:=6) (by kernel_rfl) rfl (fun K hK=>?_)
     go_simp
     refine hK _ _ (fun _=>e61) ?_
     clear hK K
     try simp only [Act.put,pS]
     refine Any.one (i:=7) (by kernel_rfl) rfl (fun K hK=>?_)
     go_simp
     refine hK _ _ (fun e=>absurd rfl e) ?_
     clear hK K
     try simp only [Act.put,List.setIfInBounds_toArray,List.set_cons_zero,List.set_cons_succ,List.getElem_toArray,List.getElem_cons_zero]
     refine Any.done (by kernel_rfl) ?_
     have bz:=BZ.out
     obtain⟨wf,hwf⟩:∃ u,w6.setCell ⟨w1.heap.size,1,none⟩ (.slice A6 (k+1) k6)=u:=⟨_,rfl⟩
     have TS:Hid (ay B [28] w6 wf):=hid (by rw [← hwf];exact (ay.refl B [28] w6).aW (p:=⟨w1.heap.size,1,none⟩) Y6.out (by simp) (by show B≤w1.heap.size;omega) _)
     have G7:Hid (wf.heap[w1.heap.size]?=some (.cells #[.slice A1 j c1,.slice A6 (k+1) k6] 28 (0,0))):=hid (by rw [← hwf];exact (af G6.out 1 (.slice A6 (k+1) k6)).trans rfl)
     have RB7:Hid (wf.heap[w.heap.size]?=some (.cells #[.slice none 0 0,.slice none 0 0] 28 (0,0))):=hid (by rw [← hwf];exact aF R6.out (p:=⟨w1.heap.size,1,none⟩) (by show w.heap.size≠w1.heap.size;omega) _)
     have R7:Hid (RS 104 B 5 wf p (T9.many T9.eY (k+1) s2).2):=hid (by
      rw [T9.aY]
      exact (MT.out.2.2.2.dB T6.out (by decide) (by decide)).dB TS.out (by decide) (by decide))
     have K7:Hid (bS (ms++[m])=(T9.many T9.eY (k+1) s2).1):=hid (by rw [T9.aY,je,HJ.out.2.1,MT.out.1])
     have F7:Hid (∀ q∈ms++[m],ah wf 0 9 q.A (dn q.t.tags)∧q.t.tags.length≤q.c):=hid fun q hq=>by
      rcases List.mem_append.1 hq with h | h
      ·obtain⟨h1,h2⟩:=HJ.out.2.2.1 q h
       exact⟨((h1.dB TA.out.zero (by decide)).dB T6.out.zero (by decide)).dB TS.out.zero (by decide),h2⟩
      ·simp only [List.mem_cons,List.not_mem_nil,or_false] at h
       subst h
       exact⟨(MT.out.2.1.dB T6.out.zero (by decide)).dB TS.out.zero (by decide),MT.out.2.2.1⟩
     have O7:Hid (wf.ownsRow B 69 7 (.slice A6 (k+1) k6) (k+1) (fE (ms++[m]))):=hid (by rw [oC];exact bi HO6.out TS.out (by decide))
     have P7:Hid (wf.ownsRow B 66 2 (.slice A1 j c1) j (dY (T9.many T9.bn j s1).1)):=hid (bi (bi (bi HJ.out.2.2.2.2.1 TA.out (by decide)) T6.out (by decide)) TS.out (by decide))
     have B7:Hid (Below w.heap.size w wf):=hid (((HJ.out.2.2.2.2.2.2.2.trans (TA.out.below.mono (by omega))).trans (T6.out.below.mono (by omega))).trans (TS.out.below.mono (by omega)))
     have ML7:Hid ((ms++[m]).length=k+1):=hid (by rw [List.length_append,HML.out];rfl)
     clear bz zB gz e61 f61
     rw [hwf]
     go_wp2
     go_roundw
     case rel=>exact⟨k+1,A6,k6,ms++[m],by go_num,by omega,ML7.out,R7.out,K7.out,F7.out,O7.out,P7.out,G7.out,RB7.out,B7.out⟩
     case measure=>simp [intOf];omega
    ·obtain rfl:k=n2:=by omega
     have iW:¬ ((k:Int)<(k:Int)):=by omega
     obtain⟨s3,hs3⟩:∃ v,v=(T9.many T9.eY k s2).2:=⟨_,rfl⟩
     have RDE:Hid (T9.jV (some b)=(⟨(T9.many T9.bn j s1).1,bS ms⟩,s3)):=hid (by
      have q1:(Cd.aH 60 (some b)).1=j:=N1.out.symm
      have q2:(Cd.aH 60 (some b)).2=s1:=S1.out.symm
      have q3:(Cd.aH 60 (T9.many T9.bn j s1).2).1=k:=N2.out.symm
      have q4:(Cd.aH 60 (T9.many T9.bn j s1).2).2=s2:=S2.out.symm
      unfold T9.jV
      dsimp only
      rw [q1,q2,q3,q4,← HJ.out.2.1,hs3])
     have RS3:RS 104 B 5 wr p s3:=by rw [hs3];exact HJ.out.1
     have CE:=hid (nL RS3)
     have rb:=HJ.out.2.2.2.2.2.2.1
     have gb:=HJ.out.2.2.2.2.2.1
     obtain⟨p0,p1⟩:=aj gb
     have LLr:Hid (LL wr A1 (T9.many T9.bn j s1).1):=hid (aB (B:=0) (t:=66) HJ.out.2.2.2.2.1).old
     have KLr:Hid (KL wr A2 ms):=hid ⟨(aB (B:=0) (t:=69) HJ.out.2.2.2.1).old,fun m hm=>⟨(HJ.out.2.2.1 m hm).1.old,(HJ.out.2.2.1 m hm).2⟩⟩
     have ec:=(aC HJ.out.2.2.2.2.1).2
     have ek:=(aC HJ.out.2.2.2.1).2
     have SHT:Hid ((⟨(T9.many T9.bn j s1).1,bS ms⟩:T9.St).short):=hid (by rw [HJ.out.2.1];exact xA (by omega) (by omega))
     have RC:=hid (sV (c:=c1) (c2:=c2) LLr.out KLr.out (T9.bD _ _ _).symm HML.out.symm SHT.out ⟨ec,ek⟩)
     have EC:=hid (And.intro ec ek)
     have BW:=hid HJ.out.2.2.2.2.2.2.2
     have RBW:=hid rb
     have GBW:=hid gb
     clear hs3 RS3 rb gb ec ek
     by_cases he:s3=some []
     ·have ev:fI s3=0:=by rw [he];rfl
      have HE:=hid he
      clear he
      by_cases hr0:T9.aN ⟨(T9.many T9.bn j s1).1,bS ms⟩=0
      ·have HR0:=hid hr0
       rw [hr0] at RC
       have OFB:Hid (T9.of b=(⟨(T9.many T9.bn j s1).1,bS ms⟩,0)):=hid (by unfold T9.of;rw [RDE.out,if_pos ⟨HE.out,HR0.out⟩])
       clear hr0
       go_wp2_with (go_at_call 47;refine CE.out.mono ?_;rintro e w' ⟨rfl,rfl⟩)
       refine RC.out.mono ?_
       rintro e w8 ⟨rfl,h8⟩
       have eP:=ak RBW.out h8
       have gb8:=ak GBW.out h8
       obtain⟨d0,d1⟩:=aj eP
       obtain⟨g0,g1⟩:=aj gb8
       have fr0:=aa eP 0
       have fr1:=aa eP 1
       have ng:Hid (((w8.setCell ⟨w.heap.size,0,none⟩ (.slice A1 j c1)).setCell ⟨w.heap.size,1,none⟩ (.slice A2 k c2)).heap[w.heap.size]?=some (.cells #[.slice A1 j c1,.slice A2 k c2] 28 (0,0))):=hid ((af (af eP 0 (.slice A1 j c1)) 1 (.slice A2 k c2)).trans rfl)
       obtain⟨k0,k1⟩:=aj ng.out
       have H8:=hid h8
       have RB8:=hid eP
       clear eP gb8 h8 p0 p1
       go_wp2
       refine bodyPost_ret (v:=.tuple #[.agg #[.slice A1 j c1,.slice A2 k c2],.int .i64 0]) (by simp [results,Try.results67,go_sem,k0,k1]) rfl ?_
       have y8:Ty w8 w.heap.size 28:=⟨_,_,RB8.out⟩
       have TF:=((ay.refl 0 [28] w8).aW (p:=⟨w.heap.size,0,none⟩) y8 (by simp) (Nat.zero_le _) (.slice A1 j c1)).aW (p:=⟨w.heap.size,1,none⟩) (y8.set _ _) (by simp) (Nat.zero_le _) (.slice A2 k c2)
       have T8:ay 0 [28] wr w8:=(ay.of_below H8.out (Nat.le_refl _) _).zero
       have TG:=T8.trans TF
       refine⟨⟨(T9.many T9.bn j s1).1,A1,c1,ms,A2,c2⟩,?_,⟨?_,?_,?_,?_,?_⟩,?_,?_⟩
       ·rw [OFB.out]
        show _=Ending.returned (Value.tuple #[.agg #[.slice A1 (T9.many T9.bn j s1).1.length c1,.slice A2 ms.length c2],.int .i64 0])
        rw [T9.bD,HML.out]
       ·exact (aB (B:=0) (t:=66) HJ.out.2.2.2.2.1).dB TG (by decide)
       ·exact (aB (B:=0) (t:=69) HJ.out.2.2.2.1).dB TG (by decide)
       ·exact fun m hm=>⟨(HJ.out.2.2.1 m hm).1.dB TG (by decide),(HJ.out.2.2.1 m hm).2⟩
       ·show (T9.many T9.bn j s1).1.length≤c1
        rw [T9.bD];exact EC.out.1
       ·show ms.length≤c2
        rw [HML.out];exact EC.out.2
       ·rw [OFB.out];rfl
       ·exact ((BW.out.trans (H8.out.mono BW.out.size)).setCell (Nat.le_refl _) _).setCell (Nat.le_refl _) _
      ·have OFB:Hid (T9.of b=(⟨[],[]⟩,90)):=hid (by unfold T9.of;rw [RDE.out,if_neg (fun q=>hr0 q.2)])
       have hz:(T9.aN ⟨(T9.many T9.bn j s1).1,bS ms⟩==0)=false:=by simp [hr0]
       have hz2:(T9.aN ⟨(T9.many T9.bn j s1).1,bS ms⟩ != 0)=true:=by simp [hr0]
       go_wp2_with (go_at_call 47;refine CE.out.mono ?_;rintro e w' ⟨rfl,rfl⟩)
       refine RC.out.mono ?_
       rintro e w8 ⟨rfl,h8⟩
       have eP:=ak RBW.out h8
       obtain⟨d0,d1⟩:=aj eP
       have fr0:=aa eP 0
       have fr1:=aa eP 1
       have ng:Hid (((w8.setCell ⟨w.heap.size,0,none⟩ (.slice none 0 0)).setCell ⟨w.heap.size,1,none⟩ (.slice none 0 0)).heap[w.heap.size]?=some (.cells #[.slice none 0 0,.slice none 0 0] 28 (0,0))):=hid ((af (af eP 0 (.slice none 0 0)) 1 (.slice none 0 0)).trans rfl)
       obtain⟨k0,k1⟩:=aj ng.out
       have H8:=hid h8
       clear eP h8 p0 p1
       go_wp2
       refine bodyPost_ret (v:=.tuple #[.agg #[.slice none 0 0,.slice none 0 0],.int .i64 90]) (by simp [results,Try.results67,go_sem,k0,k1]) rfl ?_
       exact⟨⟨[],none,0,[],none,0⟩,by rw [OFB.out];rfl,⟨ah.nil,ah.nil,by simp,Nat.le_refl _,Nat.le_refl _⟩,by rw [OFB.out];rfl,((BW.out.trans (H8.out.mono BW.out.size)).setCell (Nat.le_refl _) _).setCell (Nat.le_refl _) _⟩
     ·have OFB:Hid (T9.of b=(⟨[],[]⟩,90)):=hid (by unfold T9.of;rw [RDE.out,if_neg (fun q=>he q.1)])
      have ev:fI s3=20:=by
       unfold fI
       split
       ·exact absurd rfl he
       ·rfl
      have h8:Below wr.heap.size wr wr:=Below.refl _ _
      have eP:=RBW.out
      clear he
      obtain⟨d0,d1⟩:=aj eP
      have fr0:=aa eP 0
      have fr1:=aa eP 1
      have ng:Hid (((wr.setCell ⟨w.heap.size,0,none⟩ (.slice none 0 0)).setCell ⟨w.heap.size,1,none⟩ (.slice none 0 0)).heap[w.heap.size]?=some (.cells #[.slice none 0 0,.slice none 0 0] 28 (0,0))):=hid ((af (af eP 0 (.slice none 0 0)) 1 (.slice none 0 0)).trans rfl)
      obtain⟨k0,k1⟩:=aj ng.out
      have H8:=hid h8
      clear eP h8 p0 p1
      go_wp2_with (go_at_call 47;refine CE.out.mono ?_;rintro e w' ⟨rfl,rfl⟩)
      refine bodyPost_ret (v:=.tuple #[.agg #[.slice none 0 0,.slice none 0 0],.int .i64 90]) (by simp [results,Try.results67,go_sem,k0,k1]) rfl ?_
      exact⟨⟨[],none,0,[],none,0⟩,by rw [OFB.out];rfl,⟨ah.nil,ah.nil,by simp,Nat.le_refl _,Nat.le_refl _⟩,by rw [OFB.out];rfl,((BW.out.trans (H8.out.mono BW.out.size)).setCell (Nat.le_refl _) _).setCell (Nat.le_refl _) _⟩
end
section
open Go.RowKit Go.Lib Go.Sort
section
variable {P : Program} {ops : Array Oper} {Q : Exit → Act → World → Prop} {md : Region.Mode} {S S' : World → Prop}
end
end
end
end Go.Proofs.Ytcedlgedmkghgaa
