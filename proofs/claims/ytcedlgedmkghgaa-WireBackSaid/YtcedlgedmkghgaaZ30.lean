import Derived.Test.YtcedlgedmkghgaaZ25
import Derived.Test.YtcedlgedmkghgaaZ26
import Derived.Test.YtcedlgedmkghgaaZ29
namespace Go.Proofs.Ytcedlgedmkghgaa
set_option maxHeartbeats 16000000
set_option linter.unusedSimpArgs false
set_option maxRecDepth 100000
section
section
open Go.RowKit Go.Lib
structure La where
 who:Nat
 id:Nat
instance:Inhabited La:=⟨⟨0,0⟩⟩
theorem La.dF {a b:La}:a=b↔a.who=b.who∧a.id=b.id:=by cases a;cases b;simp
instance:DecidableEq La:=fun _ _=>decidable_of_iff _ La.dF.symm
structure Mg where
 kind:Int
 line:Nat
 aQ:Nat
 bZ:Nat
 cu:Nat
 items:List It
 lasts:List La
 st:T9.St
def Mg.no:Mg:=⟨0,0,0,0,0,[],[],⟨[],[]⟩⟩
def La.ok (x:La):Prop:=x.who<18446744073709551616∧x.id<18446744073709551616
def It.far (x:It):Prop:=x.who<18446744073709551616∧x.id<18446744073709551616∧x.m.ok
structure Mg.ok (m:Mg):Prop where
 l:m.line<18446744073709551616
 b:m.aQ<18446744073709551616
 f:m.bZ<18446744073709551616
 t:m.cu<18446744073709551616
 i:∀ x∈m.items,x.far
 a:∀ x∈m.lasts,x.ok
 s:m.st.ok
namespace T9
def Wr {α:Type} (f:Option (List UInt8)→α × Option (List UInt8)) (enc:α→List UInt8) (P:α→Prop):Prop:=∀ s t,(f s).2=some t→s=some (enc (f s).1++t)∧P (f s).1
theorem lU (n:Nat):Wr (Cd.aH n) Cd.num (fun k=>k<18446744073709551616∧k≤n):=fun s t h=>by
 cases s with
 | none=>simp [Cd.aH] at h
 | some l =>
  have q:=Cd.gI (n:=(Cd.aH n (some l)).1) (Cd.kr h)
  exact⟨congrArg some q.1,q.2⟩
theorem wr_F:Wr Cd.jB (fun k=>Cd.fix (Fl.key k).toNat 8) (·<18446744073709551616):=fun s t h=>by
 cases s with
 | none=>simp [Cd.jB,Cd.fC] at h
 | some l =>
  have q:=Cd.ul h
  exact⟨congrArg some q.1,q.2⟩
theorem xZ (n:Nat):Wr (Cd.bL n) St.wb (fun b=>b.length≤n):=fun s t h=>by
 cases s with
 | none=>simp [Cd.bL,Cd.aH] at h
 | some l =>
  have q:=Cd.mK h
  exact⟨congrArg some q.1,q.2⟩
theorem wr_G:Wr Cd.ku St.fl (fun _=>True):=fun s t h=>by
 cases s with
 | none=>simp [Cd.ku] at h
 | some l=>exact⟨congrArg some (Cd.mM h),trivial⟩
theorem ky {α:Type} {f:Option (List UInt8)→α × Option (List UInt8)} {enc:α→List UInt8} {P:α→Prop} (h:Wr f enc P):∀ n,Wr (many f n) (fun l=>l.flatMap enc) (fun l=>∀ x∈l,P x)
 | 0,s,t,e=>⟨e,by intro x hx;cases hx⟩
 | n+1,s,t,e=>by
  have e:(many f n (f s).2).2=some t:=e
  obtain⟨q1,q2⟩:=ky h n _ _ e
  obtain⟨r1,r2⟩:=h _ _ q1
  refine⟨?_,?_⟩
  ·show s=some (((f s).1 :: (many f n (f s).2).1).flatMap enc++t)
   rw [List.flatMap_cons,List.append_assoc]
   exact r1
  ·intro x hx
   rcases List.mem_cons.1 hx with rfl | q
   ·exact r2
   ·exact q2 x q
theorem wr_Li:Wr bn cB (fun l=>l.ok):=fun s t h=>by
 have h:(Cd.bL 60 (Cd.aH Cd.full s).2).2=some t:=h
 obtain⟨e1,_⟩:=xZ 60 _ _ h
 obtain⟨e2,p2⟩:=lU Cd.full _ _ e1
 refine⟨?_,p2.1⟩
 unfold cB bn
 rw [List.append_assoc]
 exact e2
theorem wr_Tk:Wr eY aZ (fun k=>k.ok):=fun s t h=>by
 have h:(many (Cd.bL 60) (jd s) (s7 s)).2=some t:=h
 obtain⟨e1,_⟩:=ky (xZ 60) (jd s) _ _ h
 obtain⟨e2,_⟩:=lU 60 (s6 s) _ e1
 obtain⟨e3,p3⟩:=wr_F (s5 s) _ e2
 obtain⟨e4,p4⟩:=wr_F (s4 s) _ e3
 obtain⟨e5,_⟩:=wr_G (s3 s) _ e4
 obtain⟨e6,_⟩:=xZ 60 (s2 s) _ e5
 obtain⟨e7,p7⟩:=lU Cd.full (s1 s) _ e6
 obtain⟨e8,p8⟩:=lU Cd.full s _ e7
 refine⟨?_,p8.1,p7.1,p4,p3⟩
 unfold aZ eY
 simp only [List.append_assoc]
 rw [bD]
 exact e8
theorem wr_St:Wr jV gB (fun s=>s.ok):=fun s t h=>by
 have h:(many eY (Cd.aH 60 (many bn (Cd.aH 60 s).1 (Cd.aH 60 s).2).2).1 (Cd.aH 60 (many bn (Cd.aH 60 s).1 (Cd.aH 60 s).2).2).2).2=some t:=h
 obtain⟨e1,p1⟩:=ky wr_Tk _ _ _ h
 obtain⟨e2,_⟩:=lU 60 _ _ e1
 obtain⟨e3,p3⟩:=ky wr_Li _ _ _ e2
 obtain⟨e4,_⟩:=lU 60 _ _ e3
 refine⟨?_,p3,p1⟩
 unfold gB jV
 dsimp only
 simp only [List.append_assoc]
 rw [bD,bD]
 exact e4
theorem wV {b:List UInt8} (h:(of b).2=0):b=gB (of b).1∧(of b).1.ok∧aN (of b).1=0:=by
 unfold of at h ⊢
 by_cases q:(jV (some b)).2=some []∧aN (jV (some b)).1=0
 ·rw [if_pos q]
  obtain⟨e,p⟩:=wr_St _ _ q.1
  injection e with e
  exact⟨by rw [List.append_nil] at e;exact e,p,q.2⟩
 ·rw [if_neg q] at h
  cases h
def dh (m:Mu):List UInt8:=Cd.num m.kind.toNat++(Cd.num m.id++(Cd.num m.list++(St.wb m.text++(Cd.fix (Fl.key m.f).toNat 8++St.fl m.flag))))
def m1 (s:Option (List UInt8)):=(Cd.aH 13 s).2
def m2 (s:Option (List UInt8)):=(Cd.aH Cd.full (m1 s)).2
def m3 (s:Option (List UInt8)):=(Cd.aH Cd.full (m2 s)).2
def m4 (s:Option (List UInt8)):=(Cd.bL 60 (m3 s)).2
def m5 (s:Option (List UInt8)):=(Cd.jB (m4 s)).2
def m6 (s:Option (List UInt8)):=(Cd.ku (m5 s)).2
def lm (s:Option (List UInt8)):Mu × Option (List UInt8):=(⟨((Cd.aH 13 s).1:Int),(Cd.aH Cd.full (m1 s)).1,(Cd.aH Cd.full (m2 s)).1,(Cd.bL 60 (m3 s)).1,(Cd.jB (m4 s)).1,(Cd.ku (m5 s)).1⟩,m6 s)
def Mu.no:Mu:=⟨0,0,0,[],0,false⟩
def lV (b:List UInt8):Mu × Int:=if (lm (some b)).2=some []∧aM (lm (some b)).1=0 then ((lm (some b)).1,0) else (Mu.no,110)
theorem wr_Mu:Wr lm dh (fun m=>m.ok):=fun s t h=>by
 have h:(Cd.ku (m5 s)).2=some t:=h
 obtain⟨e1,_⟩:=wr_G (m5 s) _ h
 obtain⟨e2,p2⟩:=wr_F (m4 s) _ e1
 obtain⟨e3,_⟩:=xZ 60 (m3 s) _ e2
 obtain⟨e4,p4⟩:=lU Cd.full (m2 s) _ e3
 obtain⟨e5,p5⟩:=lU Cd.full (m1 s) _ e4
 obtain⟨e6,_⟩:=lU 13 s _ e5
 refine⟨?_,p5.1,p4.1,p2⟩
 unfold dh lm
 simp only [List.append_assoc,Int.toNat_natCast]
 exact e6
theorem bH {m:Mu} (h:aM m=0):m.text.length≤60:=by
 obtain⟨_,_,_,_,ht,hx,_,_⟩:=fV h
 by_cases q:nS m.kind=true
 ·have:=ow (ht q);omega
 by_cases r:jP m.kind=true
 ·exact fP (hx (by simpa using q) r)
 ·unfold aM at h
  by_cases a:¬ (1≤m.kind∧m.kind≤13)
  ·rw [if_pos a] at h;cases h
  rw [if_neg a] at h
  by_cases b:extra m=true
  ·rw [if_pos b] at h;cases h
  unfold extra at b
  simp only [Bool.not_eq_true,Bool.or_eq_false_iff,Bool.and_eq_false_iff,Bool.not_eq_false',decide_eq_true_eq] at b
  have c:=b.1.1.2
  simp only [Bool.not_eq_true] at r
  rcases c with c | c
  ·rw [r] at c;cases c
  ·rw [c];simp
theorem xq {m:Mu} (h:m.ok) (hc:aM m=0) (t:List UInt8):lm (some (dh m++t))=(m,some t):=by
 obtain⟨hk,hcan,_⟩:=fV hc
 obtain⟨h1,h2,h3⟩:=h
 have ht:=bH hc
 have e1:Cd.aH 13 (some (dh m++t))=(m.kind.toNat,some (Cd.num m.id++(Cd.num m.list++(St.wb m.text++(Cd.fix (Fl.key m.f).toNat 8++(St.fl m.flag++t)))))):=by
  unfold dh
  simp only [List.append_assoc]
  exact Cd.aJ (by omega) (by omega) _
 have f1:m1 (some (dh m++t))=some (Cd.num m.id++(Cd.num m.list++(St.wb m.text++(Cd.fix (Fl.key m.f).toNat 8++(St.fl m.flag++t))))):=by unfold m1;rw [e1]
 have e2:=Cd.aJ h1 (most:=Cd.full) (by unfold Cd.full;omega) (Cd.num m.list++(St.wb m.text++(Cd.fix (Fl.key m.f).toNat 8++(St.fl m.flag++t))))
 have f2:m2 (some (dh m++t))=some (Cd.num m.list++(St.wb m.text++(Cd.fix (Fl.key m.f).toNat 8++(St.fl m.flag++t)))):=by unfold m2;rw [f1,e2]
 have e3:=Cd.aJ h2 (most:=Cd.full) (by unfold Cd.full;omega) (St.wb m.text++(Cd.fix (Fl.key m.f).toNat 8++(St.fl m.flag++t)))
 have f3:m3 (some (dh m++t))=some (St.wb m.text++(Cd.fix (Fl.key m.f).toNat 8++(St.fl m.flag++t))):=by unfold m3;rw [f2,e3]
 have e4:=St.iG (m:=60) m.text (Cd.fix (Fl.key m.f).toNat 8++(St.fl m.flag++t)) ht (by omega)
 have f4:m4 (some (dh m++t))=some (Cd.fix (Fl.key m.f).toNat 8++(St.fl m.flag++t)):=by unfold m4;rw [f3,e4]
 have e5:=nV h3 (St.fl m.flag++t)
 have f5:m5 (some (dh m++t))=some (St.fl m.flag++t):=by unfold m5;rw [f4,e5]
 have e6:=St.xk m.flag t
 unfold lm m6
 rw [e1,f1,e2,f2,e3,f3,e4,f4,e5,f5,e6,qW hcan]
 have k:((m.kind.toNat:Nat):Int)=m.kind:=by omega
 rw [k]
theorem sO {m:Mu} (h:m.ok) (hc:aM m=0):lV (dh m)=(m,0):=by
 have e:=xq h hc []
 rw [List.append_nil] at e
 unfold lV
 rw [e,if_pos ⟨rfl,hc⟩]
theorem wS {b:List UInt8} (h:(lV b).2=0):b=dh (lV b).1∧(lV b).1.ok∧aM (lV b).1=0:=by
 unfold lV at h ⊢
 by_cases q:(lm (some b)).2=some []∧aM (lm (some b)).1=0
 ·rw [if_pos q]
  obtain⟨e,p⟩:=wr_Mu _ _ q.1
  injection e with e
  exact⟨by rw [List.append_nil] at e;exact e,p,q.2⟩
 ·rw [if_neg q] at h
  cases h
theorem j4 {m:Mu} (h:m.text.length≤200):(dh m).length≤300:=by
 unfold dh
 have:=av m.kind.toNat
 have:=av m.id
 have:=av m.list
 have:=d9 h
 have:(St.fl m.flag).length=1:=rfl
 simp only [List.length_append,Cd.aI]
 omega
def bB (x:It):List UInt8:=Cd.num x.who++(Cd.num x.id++St.wb (dh x.m))
def i1 (s:Option (List UInt8)):=(Cd.aH Cd.full s).2
def i2 (s:Option (List UInt8)):=(Cd.aH Cd.full (i1 s)).2
def i3 (mx:Nat) (s:Option (List UInt8)):=(Cd.bL mx (i2 s)).2
def jJ (mx:Nat) (s:Option (List UInt8)):=(Cd.bL mx (i2 s)).1
def It.no:It:=⟨0,0,Mu.no⟩
def lh (mx:Nat) (b:List UInt8):It:=⟨(Cd.aH Cd.full (some b)).1,(Cd.aH Cd.full (i1 (some b))).1,(lV (jJ mx (some b))).1⟩
def gZ (mx:Nat) (b:List UInt8):It × Int :=
 if (lV (jJ mx (some b))).2=0∧i3 mx (some b)=some []∧(lh mx b).who≠0∧(lh mx b).id≠0 then (lh mx b,0) else (It.no,150)
def mU (x:It):Bool:=!(x.who==0) && !(x.id==0) && decide (aM x.m=0)
theorem gp {x:It}:mU x=true↔x.who≠0∧x.id≠0∧aM x.m=0:=by
 unfold mU
 simp [and_assoc]
theorem pQ {mx:Nat} {b:List UInt8} (h:(gZ mx b).2=0):b=bB (gZ mx b).1∧(gZ mx b).1.far∧mU (gZ mx b).1=true:=by
 unfold gZ at h ⊢
 by_cases q:(lV (jJ mx (some b))).2=0∧i3 mx (some b)=some []∧(lh mx b).who≠0∧(lh mx b).id≠0
 ·rw [if_pos q]
  obtain⟨q1,q2,q3,q4⟩:=q
  obtain⟨g1,g2,g3⟩:=wS q1
  obtain⟨e1,_⟩:=xZ mx (i2 (some b)) _ q2
  obtain⟨e2,p2⟩:=lU Cd.full (i1 (some b)) _ e1
  obtain⟨e3,p3⟩:=lU Cd.full (some b) _ e2
  injection e3 with e3
  refine⟨?_,⟨p3.1,p2.1,g2⟩,gp.2 ⟨q3,q4,g3⟩⟩
  show b=bB (lh mx b)
  unfold bB lh
  dsimp only
  rw [← g1]
  rw [List.append_nil] at e3
  exact e3
 ·rw [if_neg q] at h
  cases h
theorem ofI_bts {mx:Nat} {x:It} (h:x.far) (hc:mU x=true) (hm:(dh x.m).length≤mx):gZ mx (bB x)=(x,0):=by
 obtain⟨h1,h2,h3⟩:=h
 obtain⟨c1,c2,c3⟩:=gp.1 hc
 have e1:Cd.aH Cd.full (some (bB x))=(x.who,some (Cd.num x.id++(St.wb (dh x.m)++[]))):=by
  unfold bB
  rw [List.append_nil]
  exact Cd.aJ h1 (by unfold Cd.full;omega) _
 have f1:i1 (some (bB x))=some (Cd.num x.id++(St.wb (dh x.m)++[])):=by unfold i1;rw [e1]
 have e2:=Cd.aJ h2 (most:=Cd.full) (by unfold Cd.full;omega) (St.wb (dh x.m)++[])
 have f2:i2 (some (bB x))=some (St.wb (dh x.m)++[]):=by unfold i2;rw [f1,e2]
 have e3:=St.iG (m:=mx) (dh x.m) [] hm (by have:=j4 (m:=x.m) (by have:=bH c3;omega);omega)
 have e4:lh mx (bB x)=x:=by
  unfold lh jJ
  rw [e1,f1,e2,f2,e3,sO h3 c3]
 unfold gZ i3
 rw [e4]
 unfold jJ
 rw [f2,e3,sO h3 c3,if_pos ⟨rfl,rfl,c1,c2⟩]
theorem nu {x:It} (h:x.m.text.length≤200):(bB x).length≤330:=by
 unfold bB
 have:=av x.who
 have:=av x.id
 have:=j4 h
 have:=av (dh x.m).length
 unfold St.wb
 simp only [List.length_append]
 omega
def sN (k:Int):Bool:=decide (k=1∨k=2∨k=3∨k=5∨k=6)
def sM (k:Int):Bool:=decide (k=6∨k=7)
def nTo15 (k:Int):Bool:=decide (k=7∨k=8)
def pJ (k:Int):Bool:=decide (k=3∨k=7)
def pK (k:Int):Bool:=decide (k=4∨k=8)
def pM (k:Int):Bool:=decide (k=8)
def ed (m:Mg):Bool:=decide (1≤m.kind∧m.kind≤8) && (sN m.kind || m.line==0) && (sM m.kind || m.bZ==0) && (nTo15 m.kind || m.cu==0) && (pJ m.kind || decide (m.items.length=0)) && (pK m.kind || decide (m.lasts.length=0)) && (pM m.kind || decide (m.st.lists.length+m.st.tasks.length=0))
def dX (m:Mg):Bool:=(!decide (m.kind=3) || decide (0<m.items.length)) && (!decide (m.kind=4) || decide (0<m.lasts.length)) && (!decide (m.kind=7) || decide (m.bZ≤m.cu∧m.cu - m.bZ=m.items.length))
def fw (l:List It):Bool:=decide (l.length≤8) && l.all mU
def bM (a:Nat):List La→Bool
 | []=>true
 | x :: l=>decide (a<x.who) && decide (0<x.id) && bM x.who l
def f_ (a:Nat):List La→Nat
 | []=>a
 | x :: l=>f_ x.who l
theorem jQ (x:La):∀ (l:List La) (a:Nat),bM a (l++[x])=(bM a l && (decide (f_ a l<x.who) && decide (0<x.id)))
 | [],a=>by simp [bM,f_] <;> rfl
 | y :: l,a=>by simp [bM,f_,jQ x l,Bool.and_assoc] <;> rfl
theorem jN (x:La):∀ (l:List La) (a:Nat),f_ a (l++[x])=x.who
 | [],_=>rfl
 | y :: l,_=>jN x l y.who
theorem lG (k:List La):∀ (l:List La) (a:Nat),bM a (l++k)=true→bM a l=true
 | [],_,_=>rfl
 | y :: l,a,h=>by
  simp only [List.cons_append,bM,Bool.and_eq_true] at h ⊢
  exact⟨h.1,lG k l y.who h.2⟩
theorem rA {l:List La} {a i:Nat} (h:bM a (l.take i)=false):bM a l=false:=by
 cases q:bM a l with
 | false=>rfl
 | true =>
  have:=lG (l.drop i) (l.take i) a (by rw [List.take_append_drop];exact q)
  rw [h] at this
  cases this
def dS (l:List La):Bool:=decide (l.length≤2000) && bM 0 l
def okW (m:Mg):Bool:=!(m.aQ==0) && ed m && dX m && fw m.items && dS m.lasts && decide (aN m.st=0)
def bU (m:Mg):Int:=if okW m=true then 0 else 150
theorem jA {m:Mg} (h:okW m=true):m.aQ≠0∧ed m=true∧dX m=true∧m.items.length≤8∧(∀ x∈m.items,mU x=true)∧m.lasts.length≤2000∧bM 0 m.lasts=true∧aN m.st=0∧(1≤m.kind∧m.kind≤8):=by
 unfold okW fw dS at h
 simp only [Bool.and_eq_true,Bool.not_eq_true',beq_eq_false_iff_ne,decide_eq_true_eq,List.all_eq_true] at h
 obtain⟨⟨⟨⟨⟨h1,h2⟩,h3⟩,h4,h5⟩,h6,h7⟩,h8⟩:=h
 refine⟨h1,h2,h3,h4,h5,h6,h7,h8,?_⟩
 unfold ed at h2
 simp only [Bool.and_eq_true,decide_eq_true_eq] at h2
 exact h2.1.1.1.1.1.1
theorem uf {m:Mg}:bU m=0↔okW m=true:=by
 unfold bU
 split
 ·rename_i h;simp [h]
 ·rename_i h;simp [h]
def bC (x:La):List UInt8:=Cd.num x.who++Cd.num x.id
def fH (s:Option (List UInt8)):La × Option (List UInt8):=(⟨(Cd.aH Cd.full s).1,(Cd.aH Cd.full (i1 s)).1⟩,i2 s)
structure Raw where
 kind:Nat
 line:Nat
 aQ:Nat
 bZ:Nat
 cu:Nat
 bs:List (List UInt8)
 las:List La
 sb:List UInt8
def g1 (s:Option (List UInt8)):=(Cd.aH 8 s).2
def g2 (s:Option (List UInt8)):=(Cd.aH Cd.full (g1 s)).2
def g3 (s:Option (List UInt8)):=(Cd.aH Cd.full (g2 s)).2
def g4 (s:Option (List UInt8)):=(Cd.aH Cd.full (g3 s)).2
def g5 (s:Option (List UInt8)):=(Cd.aH Cd.full (g4 s)).2
def g6 (s:Option (List UInt8)):=(Cd.aH 8 (g5 s)).2
def n1 (s:Option (List UInt8)):=(Cd.aH 8 (g5 s)).1
def g7 (s:Option (List UInt8)):=(many (Cd.bL 60000) (n1 s) (g6 s)).2
def g8 (s:Option (List UInt8)):=(Cd.aH 2000 (g7 s)).2
def n2 (s:Option (List UInt8)):=(Cd.aH 2000 (g7 s)).1
def g9 (s:Option (List UInt8)):=(many fH (n2 s) (g8 s)).2
def g10 (s:Option (List UInt8)):=(Cd.bL 60000 (g9 s)).2
def dI (s:Option (List UInt8)):Raw:=⟨(Cd.aH 8 s).1,(Cd.aH Cd.full (g1 s)).1,(Cd.aH Cd.full (g2 s)).1,(Cd.aH Cd.full (g3 s)).1,(Cd.aH Cd.full (g4 s)).1,(many (Cd.bL 60000) (n1 s) (g6 s)).1,(many fH (n2 s) (g8 s)).1,(Cd.bL 60000 (g9 s)).1⟩
def kW (r:Raw):Mg:=⟨(r.kind:Int),r.line,r.aQ,r.bZ,r.cu,r.bs.map fun b=>(gZ 60000 b).1,r.las,(of r.sb).1⟩
def kQ (s:Option (List UInt8)):Prop:=((dI s).bs.all fun b=>decide ((gZ 60000 b).2=0))=true∧(of (dI s).sb).2=0∧g10 s=some []∧bU (kW (dI s))=0
instance (s:Option (List UInt8)):Decidable (kQ s):=by unfold kQ;infer_instance
def ik (b:List UInt8):Mg × Int :=
 match Fr.only b with
 | none=>(Mg.no,150)
 | some c=>if kQ (some c) then (kW (dI (some c)),0) else (Mg.no,150)
def dK (m:Mg):List UInt8:=Cd.num m.kind.toNat++(Cd.num m.line++(Cd.num m.aQ++(Cd.num m.bZ++(Cd.num m.cu++(Cd.num m.items.length++(m.items.flatMap (fun x=>St.wb (bB x))++(Cd.num m.lasts.length++(m.lasts.flatMap bC++St.wb (gB m.st)))))))))
theorem sP {b:List UInt8} (h:(ik b).2≠0):ik b=(Mg.no,150):=by
 unfold ik at h ⊢
 cases ho:Fr.only b with
 | none=>rfl
 | some c =>
  rw [ho] at h
  dsimp only at h ⊢
  split
  ·rename_i q;rw [if_pos q] at h;exact absurd rfl h
  ·rfl
theorem eB {s:St} (hr:aN s=0):(gB s).length≤16000:=by
 obtain⟨h1,h2,h3,h4⟩:=gJ hr
 have l1:=cZ (f:=cB) (c:=80) (l:=s.lists) fun l hl=>by
  have h60:=d9 (h3 l hl)
  unfold cB
  have:=av l.id
  rw [List.length_append]
  omega
 have l2:=cZ (f:=aZ) (c:=220) (l:=s.tasks) fun t ht=>by
  obtain⟨q1,_,_,q4,q5⟩:=bQ (h4 t ht)
  unfold aZ
  have:=av t.id
  have:=av t.list
  have:=av t.tags.length
  have:=d9 q1
  have:=cZ (f:=St.wb) (c:=25) (l:=t.tags) fun x hx=>d9 (ow (gu q5 x hx))
  have:(St.fl t.done).length=1:=rfl
  simp only [List.length_append,Cd.aI]
  omega
 have:=av s.lists.length
 have:=av s.tasks.length
 unfold gB
 simp only [List.length_append]
 omega
theorem nz {m:Mg} (h:okW m=true):(dK m).length≤60000:=by
 obtain⟨_,_,_,h1,h2,h3,_,h4,_⟩:=jA h
 have l1:=cZ (f:=fun x=>St.wb (bB x)) (c:=339) (l:=m.items) fun x hx=>d9 (nu (by have:=bH (gp.1 (h2 x hx)).2.2;omega))
 have l2:=cZ (f:=bC) (c:=18) (l:=m.lasts) fun x _=>by
  unfold bC
  have:=av x.who
  have:=av x.id
  rw [List.length_append]
  omega
 have l3:=d9 (eB h4)
 unfold dK
 have:=av m.kind.toNat
 have:=av m.line
 have:=av m.aQ
 have:=av m.bZ
 have:=av m.cu
 have:=av m.items.length
 have:=av m.lasts.length
 simp only [List.length_append]
 omega
theorem xm {x:La} (h:x.ok) (t:List UInt8):fH (some (bC x++t))=(x,some t):=by
 have e1:Cd.aH Cd.full (some (bC x++t))=(x.who,some (Cd.num x.id++t)):=by
  unfold bC
  rw [List.append_assoc]
  exact Cd.aJ h.1 (by have:=h.1;unfold Cd.full;omega) _
 have f1:i1 (some (bC x++t))=some (Cd.num x.id++t):=by unfold i1;rw [e1]
 have e2:=Cd.aJ h.2 (most:=Cd.full) (by have:=h.2;unfold Cd.full;omega) t
 unfold fH i2
 rw [e1,f1,e2]
theorem wT {m:Mg} (h:m.ok) (hc:okW m=true):ik (Fr.frame (dK m))=(m,0):=by
 obtain⟨_,_,_,h1,h2,h3,_,h4,h5⟩:=jA hc
 have hl:=nz hc
 have ho:Fr.only (Fr.frame (dK m))=some (dK m):=by
  unfold Fr.only
  have:=Fr.uU hl []
  rw [List.append_nil] at this
  rw [this]
  exact if_pos (Fr.eG _).symm
 have f:∀ n,n<18446744073709551616→n≤Cd.full:=fun n hn=>by unfold Cd.full;omega
 have e1:Cd.aH 8 (some (dK m))=(m.kind.toNat,some (Cd.num m.line++(Cd.num m.aQ++(Cd.num m.bZ++(Cd.num m.cu++(Cd.num m.items.length++(m.items.flatMap (fun x=>St.wb (bB x))++(Cd.num m.lasts.length++(m.lasts.flatMap bC++(St.wb (gB m.st)++[])))))))))):=by
  unfold dK
  rw [List.append_nil]
  exact Cd.aJ (by omega) (by omega) _
 have q1:g1 (some (dK m))=_:=congrArg Prod.snd e1
 have e2:=Cd.aJ h.l (f _ h.l) (Cd.num m.aQ++(Cd.num m.bZ++(Cd.num m.cu++(Cd.num m.items.length++(m.items.flatMap (fun x=>St.wb (bB x))++(Cd.num m.lasts.length++(m.lasts.flatMap bC++(St.wb (gB m.st)++[]))))))))
 have q2:g2 (some (dK m))=_:=(congrArg (fun s=>(Cd.aH Cd.full s).2) q1).trans (congrArg Prod.snd e2)
 have e3:=Cd.aJ h.b (f _ h.b) (Cd.num m.bZ++(Cd.num m.cu++(Cd.num m.items.length++(m.items.flatMap (fun x=>St.wb (bB x))++(Cd.num m.lasts.length++(m.lasts.flatMap bC++(St.wb (gB m.st)++[])))))))
 have q3:g3 (some (dK m))=_:=(congrArg (fun s=>(Cd.aH Cd.full s).2) q2).trans (congrArg Prod.snd e3)
 have e4:=Cd.aJ h.f (f _ h.f) (Cd.num m.cu++(Cd.num m.items.length++(m.items.flatMap (fun x=>St.wb (bB x))++(Cd.num m.lasts.length++(m.lasts.flatMap bC++(St.wb (gB m.st)++[]))))))
 have q4:g4 (some (dK m))=_:=(congrArg (fun s=>(Cd.aH Cd.full s).2) q3).trans (congrArg Prod.snd e4)
 have e5:=Cd.aJ h.t (f _ h.t) (Cd.num m.items.length++(m.items.flatMap (fun x=>St.wb (bB x))++(Cd.num m.lasts.length++(m.lasts.flatMap bC++(St.wb (gB m.st)++[])))))
 have q5:g5 (some (dK m))=_:=(congrArg (fun s=>(Cd.aH Cd.full s).2) q4).trans (congrArg Prod.snd e5)
 have e6:=Cd.aJ (n:=m.items.length) (most:=8) (by omega) h1 (m.items.flatMap (fun x=>St.wb (bB x))++(Cd.num m.lasts.length++(m.lasts.flatMap bC++(St.wb (gB m.st)++[]))))
 have q6:g6 (some (dK m))=_:=(congrArg (fun s=>(Cd.aH 8 s).2) q5).trans (congrArg Prod.snd e6)
 have r6:n1 (some (dK m))=m.items.length:=(congrArg (fun s=>(Cd.aH 8 s).1) q5).trans (congrArg Prod.fst e6)
 have fm:∀ l:List It,l.flatMap (fun x=>St.wb (bB x))=(l.map bB).flatMap St.wb:=fun l=>by rw [List.flatMap_map]
 have e7:=eO (f:=Cd.bL 60000) (enc:=St.wb) (g:=fun x=>x) (l:=m.items.map bB) (fun b hb t=>by
  obtain⟨x,hx,rfl⟩:=List.mem_map.1 hb
  have:=nu (x:=x) (by have:=bH (gp.1 (h2 x hx)).2.2;omega)
  exact St.iG _ t (by omega) (by omega)) (Cd.num m.lasts.length++(m.lasts.flatMap bC++(St.wb (gB m.st)++[])))
 rw [List.length_map,List.map_id',← fm] at e7
 have q7:g7 (some (dK m))=some (Cd.num m.lasts.length++(m.lasts.flatMap bC++(St.wb (gB m.st)++[]))):=by unfold g7;rw [r6,q6,e7]
 have e8:=Cd.aJ (n:=m.lasts.length) (most:=2000) (by omega) h3 (m.lasts.flatMap bC++(St.wb (gB m.st)++[]))
 have q8:g8 (some (dK m))=some (m.lasts.flatMap bC++(St.wb (gB m.st)++[])):=by unfold g8;rw [q7,e8]
 have r8:n2 (some (dK m))=m.lasts.length:=by unfold n2;rw [q7,e8]
 have e9:=eO (f:=fH) (enc:=bC) (g:=fun x=>x) (l:=m.lasts) (fun x hx t=>xm (h.a x hx) t) (St.wb (gB m.st)++[])
 rw [List.map_id'] at e9
 have q9:g9 (some (dK m))=some (St.wb (gB m.st)++[]):=by unfold g9;rw [r8,q8,e9]
 have e10:=St.iG (m:=60000) (gB m.st) [] (by have:=eB h4;omega) (by have:=eB h4;omega)
 have q10:g10 (some (dK m))=some []:=by unfold g10;rw [q9,e10]
 have RW:dI (some (dK m))=⟨m.kind.toNat,m.line,m.aQ,m.bZ,m.cu,m.items.map bB,m.lasts,gB m.st⟩:=by
  unfold dI
  rw [e1,q1,e2,q2,e3,q3,e4,q4,e5,r6,q6,e7,r8,q8,e9,q9,e10]
 have OI:∀ x∈m.items,gZ 60000 (bB x)=(x,0):=fun x hx=>by
  have:=bH (gp.1 (h2 x hx)).2.2
  exact ofI_bts (h.i x hx) (h2 x hx) (by have:=j4 (m:=x.m) (by omega);omega)
 have hM:kW (dI (some (dK m)))=m:=by
  rw [RW]
  unfold kW
  dsimp only
  have k:((m.kind.toNat:Nat):Int)=m.kind:=by omega
  have e:((m.items.map bB).map fun b=>(gZ 60000 b).1)=m.items:=by
   rw [List.map_map]
   conv=>rhs;rw [← List.map_id m.items]
   refine List.map_congr_left fun x hx=>?_
   show (gZ 60000 (bB x)).1=x
   rw [OI x hx]
  rw [k,e,sQ h.s h4]
 unfold ik
 rw [ho]
 dsimp only
 rw [hM]
 refine if_pos ⟨?_,?_,q10,?_⟩
 ·rw [RW]
  simp only [List.all_eq_true,decide_eq_true_eq]
  intro b hb
  obtain⟨x,hx,rfl⟩:=List.mem_map.1 hb
  rw [OI x hx]
 ·rw [RW]
  show (of (gB m.st)).2=0
  rw [sQ h.s h4]
 ·rw [hM]
  exact uf.2 hc
end T9
end
end
end Go.Proofs.Ytcedlgedmkghgaa
