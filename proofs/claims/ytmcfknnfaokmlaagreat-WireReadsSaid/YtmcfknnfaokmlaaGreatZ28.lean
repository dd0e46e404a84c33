import Derived.Test.YtmcfknnfaokmlaaGreatZ5
import Derived.Test.YtmcfknnfaokmlaaGreatZ23
import Derived.Test.YtmcfknnfaokmlaaGreatZ24
import Derived.Test.YtmcfknnfaokmlaaGreatZ27
namespace Go.Proofs.YtmcfknnfaokmlaaGreat
set_option maxHeartbeats 16000000
set_option linter.unusedSimpArgs false
set_option maxRecDepth 100000
section
section
open Go.RowKit Go.Lib
structure Mg where
 kind:Int
 line:Nat
 aK:Nat
 bE:Nat
 bI:Nat
 items:List It
 lasts:List La
 st:T9.St
def Mg.no:Mg:=⟨0,0,0,0,0,[],[],⟨[],[]⟩⟩
def It.far (x:It):Prop:=x.who<18446744073709551616∧x.id<18446744073709551616∧x.m.ok
structure Mg.ok (m:Mg):Prop where
 l:m.line<18446744073709551616
 b:m.aK<18446744073709551616
 f:m.bE<18446744073709551616
 t:m.bI<18446744073709551616
 i:∀ x∈m.items,x.far
 a:∀ x∈m.lasts,x.ok
 s:m.st.ok
namespace T9
def Wr {α:Type} (f:Option (List UInt8)→α × Option (List UInt8)) (enc:α→List UInt8) (P:α→Prop):Prop:=∀ s t,(f s).2=some t→s=some (enc (f s).1++t)∧P (f s).1
theorem iM (n:Nat):Wr (Cd.aS n) Cd.num (fun k=>k<18446744073709551616∧k≤n):=fun s t h=>by
 cases s with
 | none=>simp [Cd.aS] at h
 | some l =>
  have q:=Cd.iJ (n:=(Cd.aS n (some l)).1) (Cd.l_ h)
  exact⟨congrArg some q.1,q.2⟩
theorem wr_F:Wr Cd.jg (fun k=>Cd.fix (Fl.key k).toNat 8) (·<18446744073709551616):=fun s t h=>by
 cases s with
 | none=>simp [Cd.jg,Cd.eZ] at h
 | some l =>
  have q:=Cd.zS h
  exact⟨congrArg some q.1,q.2⟩
theorem yB (n:Nat):Wr (Cd.bQ n) St.wb (fun b=>b.length≤n):=fun s t h=>by
 cases s with
 | none=>simp [Cd.bQ,Cd.aS] at h
 | some l =>
  have q:=Cd.rP h
  exact⟨congrArg some q.1,q.2⟩
theorem wr_G:Wr Cd.kz St.fl (fun _=>True):=fun s t h=>by
 cases s with
 | none=>simp [Cd.kz] at h
 | some l=>exact⟨congrArg some (Cd.rQ h),trivial⟩
theorem kv {α:Type} {f:Option (List UInt8)→α × Option (List UInt8)} {enc:α→List UInt8} {P:α→Prop} (h:Wr f enc P):∀ n,Wr (many f n) (fun l=>l.flatMap enc) (fun l=>∀ x∈l,P x)
 | 0,s,t,e=>⟨e,by intro x hx;cases hx⟩
 | n+1,s,t,e=>by
  have e:(many f n (f s).2).2=some t:=e
  obtain⟨q1,q2⟩:=kv h n _ _ e
  obtain⟨r1,r2⟩:=h _ _ q1
  refine⟨?_,?_⟩
  ·show s=some (((f s).1 :: (many f n (f s).2).1).flatMap enc++t)
   rw [List.flatMap_cons,List.append_assoc]
   exact r1
  ·intro x hx
   rcases List.mem_cons.1 hx with rfl | q
   ·exact r2
   ·exact q2 x q
theorem wr_Li:Wr bf dx (fun l=>l.ok):=fun s t h=>by
 have h:(Cd.bQ 60 (Cd.aS Cd.full s).2).2=some t:=h
 obtain⟨e1,_⟩:=yB 60 _ _ h
 obtain⟨e2,p2⟩:=iM Cd.full _ _ e1
 refine⟨?_,p2.1⟩
 unfold dx bf
 rw [List.append_assoc]
 exact e2
theorem wr_Tk:Wr eU dJ (fun k=>k.ok):=fun s t h=>by
 have h:(many (Cd.bQ 60) (nY s) (s7 s)).2=some t:=h
 obtain⟨e1,_⟩:=kv (yB 60) (nY s) _ _ h
 obtain⟨e2,_⟩:=iM 60 (s6 s) _ e1
 obtain⟨e3,p3⟩:=wr_F (s5 s) _ e2
 obtain⟨e4,p4⟩:=wr_F (s4 s) _ e3
 obtain⟨e5,_⟩:=wr_G (s3 s) _ e4
 obtain⟨e6,_⟩:=yB 60 (s2 s) _ e5
 obtain⟨e7,p7⟩:=iM Cd.full (s1 s) _ e6
 obtain⟨e8,p8⟩:=iM Cd.full s _ e7
 refine⟨?_,p8.1,p7.1,p4,p3⟩
 unfold dJ eU
 simp only [List.append_assoc]
 rw [bL]
 exact e8
theorem wr_St:Wr qa oP (fun s=>s.ok):=fun s t h=>by
 have h:(many eU (Cd.aS 60 (many bf (Cd.aS 60 s).1 (Cd.aS 60 s).2).2).1 (Cd.aS 60 (many bf (Cd.aS 60 s).1 (Cd.aS 60 s).2).2).2).2=some t:=h
 obtain⟨e1,p1⟩:=kv wr_Tk _ _ _ h
 obtain⟨e2,_⟩:=iM 60 _ _ e1
 obtain⟨e3,p3⟩:=kv wr_Li _ _ _ e2
 obtain⟨e4,_⟩:=iM 60 _ _ e3
 refine⟨?_,p3,p1⟩
 unfold oP qa
 dsimp only
 simp only [List.append_assoc]
 rw [bL,bL]
 exact e4
theorem uh {b:List UInt8} (h:(of b).2=0):b=oP (of b).1∧(of b).1.ok∧aH (of b).1=0:=by
 unfold of at h ⊢
 by_cases q:(qa (some b)).2=some []∧aH (qa (some b)).1=0
 ·rw [if_pos q]
  obtain⟨e,p⟩:=wr_St _ _ q.1
  injection e with e
  exact⟨by rw [List.append_nil] at e;exact e,p,q.2⟩
 ·rw [if_neg q] at h
  cases h
def dG (m:Mu):List UInt8:=Cd.num m.kind.toNat++(Cd.num m.id++(Cd.num m.list++(St.wb m.text++(Cd.fix (Fl.key m.f).toNat 8++St.fl m.flag))))
def m1 (s:Option (List UInt8)):=(Cd.aS 13 s).2
def m2 (s:Option (List UInt8)):=(Cd.aS Cd.full (m1 s)).2
def m3 (s:Option (List UInt8)):=(Cd.aS Cd.full (m2 s)).2
def m4 (s:Option (List UInt8)):=(Cd.bQ 60 (m3 s)).2
def m5 (s:Option (List UInt8)):=(Cd.jg (m4 s)).2
def m6 (s:Option (List UInt8)):=(Cd.kz (m5 s)).2
def nu (s:Option (List UInt8)):Mu × Option (List UInt8):=(⟨((Cd.aS 13 s).1:Int),(Cd.aS Cd.full (m1 s)).1,(Cd.aS Cd.full (m2 s)).1,(Cd.bQ 60 (m3 s)).1,(Cd.jg (m4 s)).1,(Cd.kz (m5 s)).1⟩,m6 s)
def Mu.no:Mu:=⟨0,0,0,[],0,false⟩
def kS (b:List UInt8):Mu × Int:=if (nu (some b)).2=some []∧aU (nu (some b)).1=0 then ((nu (some b)).1,0) else (Mu.no,110)
theorem wr_Mu:Wr nu dG (fun m=>m.ok):=fun s t h=>by
 have h:(Cd.kz (m5 s)).2=some t:=h
 obtain⟨e1,_⟩:=wr_G (m5 s) _ h
 obtain⟨e2,p2⟩:=wr_F (m4 s) _ e1
 obtain⟨e3,_⟩:=yB 60 (m3 s) _ e2
 obtain⟨e4,p4⟩:=iM Cd.full (m2 s) _ e3
 obtain⟨e5,p5⟩:=iM Cd.full (m1 s) _ e4
 obtain⟨e6,_⟩:=iM 13 s _ e5
 refine⟨?_,p5.1,p4.1,p2⟩
 unfold dG nu
 simp only [List.append_assoc,Int.toNat_natCast]
 exact e6
theorem df {m:Mu} (h:aU m=0):m.text.length≤60:=by
 obtain⟨_,_,_,_,ht,hx,_,_⟩:=gK h
 by_cases q:pR m.kind=true
 ·have:=yt (ht q);omega
 by_cases r:kH m.kind=true
 ·exact iK (hx (by simpa using q) r)
 ·unfold aU at h
  by_cases a:¬ (1≤m.kind∧m.kind≤13)
  ·rw [if_pos a] at h;cases h
  rw [if_neg a] at h
  by_cases b:extra m=true
  ·rw [if_pos b] at h;cases h
  unfold extra at b
  simp only [Bool.not_eq_true,Bool.or_eq_false_iff,Bool.and_eq_false_iff,Bool.not_eq_false',decide_eq_true_eq] at b
  have c:=b.1.1.2
  simp only [Bool.not_eq_true] at r
  rcases c with c | c
  ·rw [r] at c;cases c
  ·rw [c];simp
theorem DJ {m:Mu} (h:m.ok) (hc:aU m=0) (t:List UInt8):nu (some (dG m++t))=(m,some t):=by
 obtain⟨hk,hcan,_⟩:=gK hc
 obtain⟨h1,h2,h3⟩:=h
 have ht:=df hc
 have e1:Cd.aS 13 (some (dG m++t))=(m.kind.toNat,some (Cd.num m.id++(Cd.num m.list++(St.wb m.text++(Cd.fix (Fl.key m.f).toNat 8++(St.fl m.flag++t)))))):=by
  unfold dG
  simp only [List.append_assoc]
  exact Cd.iI (by omega) (by omega) _
 have f1:m1 (some (dG m++t))=some (Cd.num m.id++(Cd.num m.list++(St.wb m.text++(Cd.fix (Fl.key m.f).toNat 8++(St.fl m.flag++t))))):=by unfold m1;rw [e1]
 have e2:=Cd.iI h1 (most:=Cd.full) (by unfold Cd.full;omega) (Cd.num m.list++(St.wb m.text++(Cd.fix (Fl.key m.f).toNat 8++(St.fl m.flag++t))))
 have f2:m2 (some (dG m++t))=some (Cd.num m.list++(St.wb m.text++(Cd.fix (Fl.key m.f).toNat 8++(St.fl m.flag++t)))):=by unfold m2;rw [f1,e2]
 have e3:=Cd.iI h2 (most:=Cd.full) (by unfold Cd.full;omega) (St.wb m.text++(Cd.fix (Fl.key m.f).toNat 8++(St.fl m.flag++t)))
 have f3:m3 (some (dG m++t))=some (St.wb m.text++(Cd.fix (Fl.key m.f).toNat 8++(St.fl m.flag++t))):=by unfold m3;rw [f2,e3]
 have e4:=St.DI (m:=60) m.text (Cd.fix (Fl.key m.f).toNat 8++(St.fl m.flag++t)) ht (by omega)
 have f4:m4 (some (dG m++t))=some (Cd.fix (Fl.key m.f).toNat 8++(St.fl m.flag++t)):=by unfold m4;rw [f3,e4]
 have e5:=rdF_key h3 (St.fl m.flag++t)
 have f5:m5 (some (dG m++t))=some (St.fl m.flag++t):=by unfold m5;rw [f4,e5]
 have e6:=St.rdG_fl m.flag t
 unfold nu m6
 rw [e1,f1,e2,f2,e3,f3,e4,f4,e5,f5,e6,isC_eq hcan]
 have k:((m.kind.toNat:Nat):Int)=m.kind:=by omega
 rw [k]
theorem y_ {m:Mu} (h:m.ok) (hc:aU m=0):kS (dG m)=(m,0):=by
 have e:=DJ h hc []
 rw [List.append_nil] at e
 unfold kS
 rw [e,if_pos ⟨rfl,hc⟩]
theorem Dm {b:List UInt8} (h:(kS b).2=0):b=dG (kS b).1∧(kS b).1.ok∧aU (kS b).1=0:=by
 unfold kS at h ⊢
 by_cases q:(nu (some b)).2=some []∧aU (nu (some b)).1=0
 ·rw [if_pos q]
  obtain⟨e,p⟩:=wr_Mu _ _ q.1
  injection e with e
  exact⟨by rw [List.append_nil] at e;exact e,p,q.2⟩
 ·rw [if_neg q] at h
  cases h
theorem ou {m:Mu} (h:m.text.length≤200):(dG m).length≤300:=by
 unfold dG
 have:=ax m.kind.toNat
 have:=ax m.id
 have:=ax m.list
 have:=fI h
 have:(St.fl m.flag).length=1:=rfl
 simp only [List.length_append,Cd.aC]
 omega
def bZ (x:It):List UInt8:=Cd.num x.who++(Cd.num x.id++St.wb (dG x.m))
def i1 (s:Option (List UInt8)):=(Cd.aS Cd.full s).2
def i2 (s:Option (List UInt8)):=(Cd.aS Cd.full (i1 s)).2
def i3 (mx:Nat) (s:Option (List UInt8)):=(Cd.bQ mx (i2 s)).2
def je (mx:Nat) (s:Option (List UInt8)):=(Cd.bQ mx (i2 s)).1
def It.no:It:=⟨0,0,Mu.no⟩
def kW (mx:Nat) (b:List UInt8):It:=⟨(Cd.aS Cd.full (some b)).1,(Cd.aS Cd.full (i1 (some b))).1,(kS (je mx (some b))).1⟩
def fB (mx:Nat) (b:List UInt8):It × Int :=
 if (kS (je mx (some b))).2=0∧i3 mx (some b)=some []∧(kW mx b).who≠0∧(kW mx b).id≠0 then (kW mx b,0) else (It.no,150)
def lu (x:It):Bool:=!(x.who==0) && !(x.id==0) && decide (aU x.m=0)
theorem iY {x:It}:lu x=true↔x.who≠0∧x.id≠0∧aU x.m=0:=by
 unfold lu
 simp [and_assoc]
theorem y9 {mx:Nat} {b:List UInt8} (h:(fB mx b).2≠0):fB mx b=(It.no,150):=by
 unfold fB at h ⊢
 split
 ·rename_i q;rw [if_pos q] at h;exact absurd rfl h
 ·rfl
theorem lZ {mx:Nat} {b:List UInt8} (h:(fB mx b).2=0):b=bZ (fB mx b).1∧(fB mx b).1.far∧lu (fB mx b).1=true:=by
 unfold fB at h ⊢
 by_cases q:(kS (je mx (some b))).2=0∧i3 mx (some b)=some []∧(kW mx b).who≠0∧(kW mx b).id≠0
 ·rw [if_pos q]
  obtain⟨q1,q2,q3,q4⟩:=q
  obtain⟨g1,g2,g3⟩:=Dm q1
  obtain⟨e1,_⟩:=yB mx (i2 (some b)) _ q2
  obtain⟨e2,p2⟩:=iM Cd.full (i1 (some b)) _ e1
  obtain⟨e3,p3⟩:=iM Cd.full (some b) _ e2
  injection e3 with e3
  refine⟨?_,⟨p3.1,p2.1,g2⟩,iY.2 ⟨q3,q4,g3⟩⟩
  show b=bZ (kW mx b)
  unfold bZ kW
  dsimp only
  rw [← g1]
  rw [List.append_nil] at e3
  exact e3
 ·rw [if_neg q] at h
  cases h
theorem ofI_bts {mx:Nat} {x:It} (h:x.far) (hc:lu x=true) (hm:(dG x.m).length≤mx):fB mx (bZ x)=(x,0):=by
 obtain⟨h1,h2,h3⟩:=h
 obtain⟨c1,c2,c3⟩:=iY.1 hc
 have e1:Cd.aS Cd.full (some (bZ x))=(x.who,some (Cd.num x.id++(St.wb (dG x.m)++[]))):=by
  unfold bZ
  rw [List.append_nil]
  exact Cd.iI h1 (by unfold Cd.full;omega) _
 have f1:i1 (some (bZ x))=some (Cd.num x.id++(St.wb (dG x.m)++[])):=by unfold i1;rw [e1]
 have e2:=Cd.iI h2 (most:=Cd.full) (by unfold Cd.full;omega) (St.wb (dG x.m)++[])
 have f2:i2 (some (bZ x))=some (St.wb (dG x.m)++[]):=by unfold i2;rw [f1,e2]
 have e3:=St.DI (m:=mx) (dG x.m) [] hm (by have:=ou (m:=x.m) (by have:=df c3;omega);omega)
 have e4:kW mx (bZ x)=x:=by
  unfold kW je
  rw [e1,f1,e2,f2,e3,y_ h3 c3]
 unfold fB i3
 rw [e4]
 unfold je
 rw [f2,e3,y_ h3 c3,if_pos ⟨rfl,rfl,c1,c2⟩]
theorem sN {x:It} (h:x.m.text.length≤200):(bZ x).length≤330:=by
 unfold bZ
 have:=ax x.who
 have:=ax x.id
 have:=ou h
 have:=ax (dG x.m).length
 unfold St.wb
 simp only [List.length_append]
 omega
theorem yZ {mx my:Nat} {b:List UInt8} (h:b.length≤mx) (k:b.length≤my):fB mx b=fB my b:=by
 have key:∀ {p q:Nat},b.length≤q→(fB p b).2=0→fB q b=((fB p b).1,0):=fun {p q} hq h0=>by
  obtain⟨g1,g2,g3⟩:=lZ h0
  have:=ofI_bts (mx:=q) g2 g3 (by
   have e:=congrArg List.length g1
   unfold bZ St.wb at e
   simp only [List.length_append] at e
   omega)
  rwa [← g1] at this
 by_cases h0:(fB mx b).2=0
 ·rw [key k h0]
  exact Cd.l_ h0
 ·by_cases h1:(fB my b).2=0
  ·rw [key h h1] at h0
   exact absurd rfl h0
  ·rw [y9 h0,y9 h1]
def oG (k:Int):Bool:=decide (k=1∨k=2∨k=3∨k=5∨k=6)
def oF (k:Int):Bool:=decide (k=6∨k=7)
def yX (k:Int):Bool:=decide (k=7∨k=8)
def lU (k:Int):Bool:=decide (k=3∨k=7)
def lV (k:Int):Bool:=decide (k=4∨k=8)
def lW (k:Int):Bool:=decide (k=8)
def dz (m:Mg):Bool:=decide (1≤m.kind∧m.kind≤8) && (oG m.kind || m.line==0) && (oF m.kind || m.bE==0) && (yX m.kind || m.bI==0) && (lU m.kind || decide (m.items.length=0)) && (lV m.kind || decide (m.lasts.length=0)) && (lW m.kind || decide (m.st.lists.length+m.st.tasks.length=0))
def dh (m:Mg):Bool:=(!decide (m.kind=3) || decide (0<m.items.length)) && (!decide (m.kind=4) || decide (0<m.lasts.length)) && (!decide (m.kind=7) || decide (m.bE≤m.bI∧m.bI - m.bE=m.items.length))
def eQ (l:List It):Bool:=decide (l.length≤8) && l.all lu
def bT (a:Nat):List La→Bool
 | []=>true
 | x :: l=>decide (a<x.who) && decide (0<x.id) && bT x.who l
def gB (a:Nat):List La→Nat
 | []=>a
 | x :: l=>gB x.who l
theorem jH (x:La):∀ (l:List La) (a:Nat),bT a (l++[x])=(bT a l && (decide (gB a l<x.who) && decide (0<x.id)))
 | [],a=>by simp [bT,gB] <;> rfl
 | y :: l,a=>by simp [bT,gB,jH x l,Bool.and_assoc] <;> rfl
theorem jy (x:La):∀ (l:List La) (a:Nat),gB a (l++[x])=x.who
 | [],_=>rfl
 | y :: l,_=>jy x l y.who
theorem qo (k:List La):∀ (l:List La) (a:Nat),bT a (l++k)=true→bT a l=true
 | [],_,_=>rfl
 | y :: l,a,h=>by
  simp only [List.cons_append,bT,Bool.and_eq_true] at h ⊢
  exact⟨h.1,qo k l y.who h.2⟩
theorem qp {l:List La} {a i:Nat} (h:bT a (l.take i)=false):bT a l=false:=by
 cases q:bT a l with
 | false=>rfl
 | true =>
  have:=qo (l.drop i) (l.take i) a (by rw [List.take_append_drop];exact q)
  rw [h] at this
  cases this
def dX (l:List La):Bool:=decide (l.length≤2000) && bT 0 l
def okW (m:Mg):Bool:=!(m.aK==0) && dz m && dh m && eQ m.items && dX m.lasts && decide (aH m.st=0)
def bA (m:Mg):Int:=if okW m=true then 0 else 150
theorem jZ {m:Mg} (h:okW m=true):m.aK≠0∧dz m=true∧dh m=true∧m.items.length≤8∧(∀ x∈m.items,lu x=true)∧m.lasts.length≤2000∧bT 0 m.lasts=true∧aH m.st=0∧(1≤m.kind∧m.kind≤8):=by
 unfold okW eQ dX at h
 simp only [Bool.and_eq_true,Bool.not_eq_true',beq_eq_false_iff_ne,decide_eq_true_eq,List.all_eq_true] at h
 obtain⟨⟨⟨⟨⟨h1,h2⟩,h3⟩,h4,h5⟩,h6,h7⟩,h8⟩:=h
 refine⟨h1,h2,h3,h4,h5,h6,h7,h8,?_⟩
 unfold dz at h2
 simp only [Bool.and_eq_true,decide_eq_true_eq] at h2
 exact h2.1.1.1.1.1.1
theorem mV {m:Mg}:bA m=0↔okW m=true:=by
 unfold bA
 split
 ·rename_i h;simp [h]
 ·rename_i h;simp [h]
def dw (x:La):List UInt8:=Cd.num x.who++Cd.num x.id
def eH (s:Option (List UInt8)):La × Option (List UInt8):=(⟨(Cd.aS Cd.full s).1,(Cd.aS Cd.full (i1 s)).1⟩,i2 s)
structure Raw where
 kind:Nat
 line:Nat
 aK:Nat
 bE:Nat
 bI:Nat
 bs:List (List UInt8)
 las:List La
 sb:List UInt8
def btsR (r:Raw):List UInt8:=Cd.num r.kind++(Cd.num r.line++(Cd.num r.aK++(Cd.num r.bE++(Cd.num r.bI++(Cd.num r.bs.length++(r.bs.flatMap St.wb++(Cd.num r.las.length++(r.las.flatMap dw++St.wb r.sb))))))))
def g1 (s:Option (List UInt8)):=(Cd.aS 8 s).2
def g2 (s:Option (List UInt8)):=(Cd.aS Cd.full (g1 s)).2
def g3 (s:Option (List UInt8)):=(Cd.aS Cd.full (g2 s)).2
def g4 (s:Option (List UInt8)):=(Cd.aS Cd.full (g3 s)).2
def g5 (s:Option (List UInt8)):=(Cd.aS Cd.full (g4 s)).2
def g6 (s:Option (List UInt8)):=(Cd.aS 8 (g5 s)).2
def n1 (s:Option (List UInt8)):=(Cd.aS 8 (g5 s)).1
def g7 (s:Option (List UInt8)):=(many (Cd.bQ 60000) (n1 s) (g6 s)).2
def g8 (s:Option (List UInt8)):=(Cd.aS 2000 (g7 s)).2
def n2 (s:Option (List UInt8)):=(Cd.aS 2000 (g7 s)).1
def g9 (s:Option (List UInt8)):=(many eH (n2 s) (g8 s)).2
def g10 (s:Option (List UInt8)):=(Cd.bQ 60000 (g9 s)).2
def bY (s:Option (List UInt8)):Raw:=⟨(Cd.aS 8 s).1,(Cd.aS Cd.full (g1 s)).1,(Cd.aS Cd.full (g2 s)).1,(Cd.aS Cd.full (g3 s)).1,(Cd.aS Cd.full (g4 s)).1,(many (Cd.bQ 60000) (n1 s) (g6 s)).1,(many eH (n2 s) (g8 s)).1,(Cd.bQ 60000 (g9 s)).1⟩
def kR (r:Raw):Mg:=⟨(r.kind:Int),r.line,r.aK,r.bE,r.bI,r.bs.map fun b=>(fB 60000 b).1,r.las,(of r.sb).1⟩
def nO (s:Option (List UInt8)):Prop:=((bY s).bs.all fun b=>decide ((fB 60000 b).2=0))=true∧(of (bY s).sb).2=0∧g10 s=some []∧bA (kR (bY s))=0
instance (s:Option (List UInt8)):Decidable (nO s):=by unfold nO;infer_instance
def fP (b:List UInt8):Mg × Int :=
 match Fr.only b with
 | none=>(Mg.no,150)
 | some c=>if nO (some c) then (kR (bY (some c)),0) else (Mg.no,150)
def iE (m:Mg):List UInt8:=Cd.num m.kind.toNat++(Cd.num m.line++(Cd.num m.aK++(Cd.num m.bE++(Cd.num m.bI++(Cd.num m.items.length++(m.items.flatMap (fun x=>St.wb (bZ x))++(Cd.num m.lasts.length++(m.lasts.flatMap dw++St.wb (oP m.st)))))))))
theorem wr_La:Wr eH dw (fun x=>x.ok):=fun s t h=>by
 have h:(Cd.aS Cd.full (i1 s)).2=some t:=h
 obtain⟨e1,p1⟩:=iM Cd.full (i1 s) _ h
 obtain⟨e2,p2⟩:=iM Cd.full s _ e1
 refine⟨?_,p2.1,p1.1⟩
 unfold dw eH
 rw [List.append_assoc]
 exact e2
theorem vV {s:Option (List UInt8)} {t:List UInt8} (h:g10 s=some t):s=some (btsR (bY s)++t)∧(bY s).line<18446744073709551616∧(bY s).aK<18446744073709551616∧(bY s).bE<18446744073709551616∧(bY s).bI<18446744073709551616∧(∀ x∈(bY s).las,x.ok)∧(bY s).kind≤8:=by
 obtain⟨e1,_⟩:=yB 60000 (g9 s) _ h
 obtain⟨e2,p2⟩:=kv wr_La (n2 s) (g8 s) _ e1
 obtain⟨e3,_⟩:=iM 2000 (g7 s) _ e2
 obtain⟨e4,_⟩:=kv (yB 60000) (n1 s) (g6 s) _ e3
 obtain⟨e5,_⟩:=iM 8 (g5 s) _ e4
 obtain⟨e6,p6⟩:=iM Cd.full (g4 s) _ e5
 obtain⟨e7,p7⟩:=iM Cd.full (g3 s) _ e6
 obtain⟨e8,p8⟩:=iM Cd.full (g2 s) _ e7
 obtain⟨e9,p9⟩:=iM Cd.full (g1 s) _ e8
 obtain⟨e10,p10⟩:=iM 8 s _ e9
 refine⟨?_,p9.1,p8.1,p7.1,p6.1,p2,p10.2⟩
 unfold btsR bY
 dsimp only
 simp only [List.append_assoc]
 rw [bL,bL]
 exact e10
theorem qW {bs:List (List UInt8)} (h:∀ b∈bs,(fB 60000 b).2=0):(bs.map fun b=>(fB 60000 b).1).flatMap (fun x=>St.wb (bZ x))=bs.flatMap St.wb∧∀ x∈(bs.map fun b=>(fB 60000 b).1),x.far:=by
 induction bs with
 | nil=>exact⟨rfl,by intro x hx;cases hx⟩
 | cons b bs ih =>
  obtain⟨g1,g2,_⟩:=lZ (h b (List.mem_cons_self ..))
  obtain⟨i1,i2⟩:=ih fun c hc=>h c (List.mem_cons_of_mem _ hc)
  refine⟨?_,?_⟩
  ·rw [List.map_cons,List.flatMap_cons,List.flatMap_cons,i1,← g1]
  ·intro x hx
   rw [List.map_cons] at hx
   rcases List.mem_cons.1 hx with rfl | q
   ·exact g2
   ·exact i2 x q
theorem vM {b:List UInt8} (h:(fP b).2=0):b=Fr.frame (iE (fP b).1)∧(iE (fP b).1).length≤60000∧(fP b).1.ok∧bA (fP b).1=0:=by
 unfold fP at h ⊢
 cases ho:Fr.only b with
 | none=>rw [ho] at h;cases h
 | some c =>
  rw [ho] at h
  dsimp only at h ⊢
  by_cases q:nO (some c)
  ·rw [if_pos q]
   obtain⟨q1,q2,q3,q4⟩:=q
   have q1:∀ x∈(bY (some c)).bs,(fB 60000 x).2=0:=by simpa using q1
   obtain⟨e,p1,p2,p3,p4,p5,p6⟩:=vV q3
   injection e with e
   obtain⟨s1,s2,s3⟩:=uh q2
   obtain⟨t1,t2⟩:=qW q1
   have hW:iE (kR (bY (some c)))=c:=by
    unfold iE kR
    dsimp only
    rw [t1,← s1,List.length_map,Int.toNat_natCast]
    rw [List.append_nil] at e
    exact e.symm
   refine⟨?_,?_,⟨p1,p2,p3,p4,t2,p5,s2⟩,q4⟩
   ·dsimp only
    rw [hW]
    unfold Fr.only at ho
    cases hu:Fr.kN b with
    | none=>rw [hu] at ho;cases ho
    | some d =>
     rw [hu] at ho
     dsimp only at ho
     split at ho
     ·rename_i hl
      injection ho with ho
      subst ho
      have:=(Fr.g_ hu).1
      rw [hl,List.drop_length,List.append_nil] at this
      exact this
     ·cases ho
   ·dsimp only
    rw [hW]
    unfold Fr.only at ho
    cases hu:Fr.kN b with
    | none=>rw [hu] at ho;cases ho
    | some d =>
     rw [hu] at ho
     dsimp only at ho
     split at ho
     ·injection ho with ho
      subst ho
      exact (Fr.g_ hu).2.1
     ·cases ho
  ·rw [if_neg q] at h
   cases h
theorem jY {b:List UInt8} (h:(fP b).2≠0):fP b=(Mg.no,150):=by
 unfold fP at h ⊢
 cases ho:Fr.only b with
 | none=>rfl
 | some c =>
  rw [ho] at h
  dsimp only at h ⊢
  split
  ·rename_i q;rw [if_pos q] at h;exact absurd rfl h
  ·rfl
theorem jb {s:St} (hr:aH s=0):(oP s).length≤16000:=by
 obtain⟨h1,h2,h3,h4⟩:=nU hr
 have l1:=cO (f:=dx) (c:=80) (l:=s.lists) fun l hl=>by
  have h60:=fI (h3 l hl)
  unfold dx
  have:=ax l.id
  rw [List.length_append]
  omega
 have l2:=cO (f:=dJ) (c:=220) (l:=s.tasks) fun t ht=>by
  obtain⟨q1,_,_,q4,q5⟩:=fV (h4 t ht)
  unfold dJ
  have:=ax t.id
  have:=ax t.list
  have:=ax t.tags.length
  have:=fI q1
  have:=cO (f:=St.wb) (c:=25) (l:=t.tags) fun x hx=>fI (yt (lh q5 x hx))
  have:(St.fl t.done).length=1:=rfl
  simp only [List.length_append,Cd.aC]
  omega
 have:=ax s.lists.length
 have:=ax s.tasks.length
 unfold oP
 simp only [List.length_append]
 omega
theorem yG {m:Mg} (h:okW m=true):(iE m).length≤60000:=by
 obtain⟨_,_,_,h1,h2,h3,_,h4,_⟩:=jZ h
 have l1:=cO (f:=fun x=>St.wb (bZ x)) (c:=339) (l:=m.items) fun x hx=>fI (sN (by have:=df (iY.1 (h2 x hx)).2.2;omega))
 have l2:=cO (f:=dw) (c:=18) (l:=m.lasts) fun x _=>by
  unfold dw
  have:=ax x.who
  have:=ax x.id
  rw [List.length_append]
  omega
 have l3:=fI (jb h4)
 unfold iE
 have:=ax m.kind.toNat
 have:=ax m.line
 have:=ax m.aK
 have:=ax m.bE
 have:=ax m.bI
 have:=ax m.items.length
 have:=ax m.lasts.length
 simp only [List.length_append]
 omega
end T9
end
end
end Go.Proofs.YtmcfknnfaokmlaaGreat
