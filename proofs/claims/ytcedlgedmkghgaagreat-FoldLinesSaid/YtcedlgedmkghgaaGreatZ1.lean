import Derived.Sort.Lot0
namespace Go.Proofs.YtcedlgedmkghgaaGreat
set_option maxHeartbeats 16000000
set_option linter.unusedSimpArgs false
set_option maxRecDepth 100000
section
section
open Go.Sort
namespace Sr
section
variable {α : Type} {lt : α → α → Bool}
structure WO (lt:α→α→Bool):Prop where
 irr:∀ a,lt a a=false
 tr:∀ a b c,lt a b=true→lt b c=true→lt a c=true
 ng:∀ a b c,lt a c=true→lt a b=true∨lt b c=true
theorem WO.asym (h:WO lt) {a b:α} (q:lt a b=true):lt b a=false:=by
 cases e:lt b a with
 | false=>rfl
 | true=>have:=h.tr a b a q e;rw [h.irr] at this;cases this
theorem WO.yQ (h:WO lt) {a b c:α} (q:lt a b=true) (r:lt c b=false):lt a c=true:=by
 rcases h.ng a c b q with z | z
 ·exact z
 ·rw [z] at r;cases r
theorem WO.Cs (h:WO lt) {a b c:α} (q:lt b a=false) (r:lt b c=true):lt a c=true:=by
 rcases h.ng b a c r with z | z
 ·rw [z] at q;cases q
 ·exact z
theorem WO.Cr (h:WO lt) {a b c:α} (q:lt b a=false) (r:lt c b=false):lt c a=false:=by
 cases e:lt c a with
 | false=>rfl
 | true =>
  rcases h.ng c b a e with z | z
  ·rw [z] at r;cases r
  ·rw [z] at q;cases q
def gX (lt:α→α→Bool) (a b:α):Bool:=!lt a b && !lt b a
def fO (lt:α→α→Bool) (l:List α):Prop:=l.Pairwise fun a b=>lt b a=false
def gG (lt:α→α→Bool) (l r:List α):Prop:=∀ k,r.filter (gX lt k)=l.filter (gX lt k)
theorem jV (h:WO lt) (a:α):gX lt a a=true:=by simp [gX,h.irr]
theorem gG.refl (l:List α):gG lt l l:=fun _=>rfl
theorem gG.trans {a b c:List α} (h:gG lt a b) (k:gG lt b c):gG lt a c:=fun x=>(k x).trans (h x)
theorem gG.app {a b c d:List α} (h:gG lt a b) (k:gG lt c d):gG lt (a++c) (b++d):=fun x=>by rw [List.filter_append,List.filter_append,h x,k x]
theorem gG.mem (h:WO lt) {l r:List α} (s:gG lt l r) {x:α} (hx:x∈r):x∈l:=by
 have:x∈r.filter (gX lt x):=List.mem_filter.2 ⟨hx,jV h x⟩
 rw [s x] at this
 exact (List.mem_filter.1 this).1
theorem gG.comm (h:WO lt) {U V:List α} (c:∀ u∈U,∀ v∈V,lt v u=true):gG lt (U++V) (V++U):=fun k=>by
 rw [List.filter_append,List.filter_append]
 by_cases e:∃ u∈U,gX lt k u=true
 ·obtain⟨u,hu,he⟩:=e
  have z:V.filter (gX lt k)=[]:=by
   rw [List.filter_eq_nil_iff]
   intro v hv
   have q:=c u hu v hv
   simp only [gX,Bool.and_eq_true,Bool.not_eq_true'] at he
   have:=h.yQ q he.1
   simp [gX,this]
  rw [z];simp
 ·have z:U.filter (gX lt k)=[]:=by
   rw [List.filter_eq_nil_iff]
   intro u hu q
   exact e ⟨u,hu,q⟩
  rw [z];simp
theorem fO.nil:fO lt ([]:List α):=List.Pairwise.nil
theorem fO.one (x:α):fO lt [x]:=List.pairwise_singleton _ _
theorem fO.app {l r:List α} (h:fO lt l) (k:fO lt r) (c:∀ x∈l,∀ y∈r,lt y x=false):fO lt (l++r):=List.pairwise_append.2 ⟨h,k,c⟩
theorem fO.parts {l r:List α} (h:fO lt (l++r)):fO lt l∧fO lt r∧∀ x∈l,∀ y∈r,lt y x=false:=List.pairwise_append.1 h
def Ins (lt:α→α→Bool) (A S C:List α) (m:List α) (j:Nat):Prop :=
 ∃ (L:List α) (x:α) (G:List α),m=A++(L++x :: (G++C))∧A.length+L.length=j∧L.length+G.length+1=S.length∧fO lt (L++G)∧(∀ g∈G,lt x g=true)∧gG lt S (L++x :: G)
theorem Ins.start {A T C m:List α} {x:α} {W:List α} (h:m=A++(W++x :: C)) (hl:W.length=T.length) (hs:fO lt W) (hb:gG lt T W):Ins lt A (T++[x]) C m (A.length+W.length) :=
 ⟨W,x,[],by simpa using h,rfl,by simp [hl],by simpa using hs,by simp,by simpa using hb.app (gG.refl [x])⟩
section
variable [Inhabited α]
theorem lQ {d:Array α} {A B:List α} {x:α} {i:Nat} (h:d.toList=A++x :: B) (hi:i=A.length):d[i]! = x∧i<d.size:=by
 have hl:i<d.size:=by
  have:=congrArg List.length h
  rw [Array.length_toList,List.length_append,List.length_cons] at this
  omega
 refine⟨?_,hl⟩
 rw [getElem!_pos d i hl]
 have:d.toList[i]?=some x:=by rw [h,hi];simp
 rw [Array.getElem?_toList,Array.getElem?_eq_getElem hl] at this
 exact Option.some.inj this
theorem uk (d:Array α) (i j:Nat):(swp d i j).toList=(d.toList.set i d[j]!).set j d[i]!:=by simp [swp]
theorem pR {d:Array α} {A B C:List α} {x y:α} {i j:Nat} (h:d.toList=A++x :: (B++y :: C)) (hi:i=A.length) (hj:j=A.length+1+B.length) :
  (swp d i j).toList=A++y :: (B++x :: C)∧(swp d j i).toList=A++y :: (B++x :: C):=by
 have h2:d.toList=(A++x :: B)++y :: C:=by rw [h];simp
 obtain⟨e1,_⟩:=lQ h hi
 obtain⟨e2,_⟩:=lQ (i:=j) h2 (by rw [hj];simp;omega)
 subst hi;subst hj
 constructor
 ·rw [uk,e1,e2,h]
  rw [List.set_append_right _ _ (Nat.le_refl _),Nat.sub_self,List.set_cons_zero,List.set_append_right _ _ (by omega)]
  rw [show A.length+1+B.length - A.length=B.length+1 by omega,List.set_cons_succ,List.set_append_right _ _ (Nat.le_refl _),Nat.sub_self,List.set_cons_zero]
 ·rw [uk,e1,e2,h]
  rw [List.set_append_right _ _ (by omega),show A.length+1+B.length - A.length=B.length+1 by omega,List.set_cons_succ,List.set_append_right _ _ (Nat.le_refl _),Nat.sub_self,List.set_cons_zero,
   List.set_append_right _ _ (Nat.le_refl _),Nat.sub_self,List.set_cons_zero]
theorem Ins.step (ho:WO lt) {A S C:List α} {d:Array α} {j:Nat} (h:Ins lt A S C d.toList (j+1)) (hj:A.length<j+1) (hlt:lt d[j+1]! d[j]! = true):Ins lt A S C (swp d (j+1) j).toList j:=by
 obtain⟨L,x,G,e,hjl,hl,hs,hg,hb⟩:=h
 have hn:L≠[]:=by rintro rfl;simp at hjl;omega
 obtain⟨L',y,rfl⟩:∃ L' y,L=L'++[y]:=⟨L.dropLast,L.getLast hn,(List.dropLast_concat_getLast hn).symm⟩
 rw [List.length_append,List.length_singleton] at hjl hl
 have e':d.toList=(A++L')++y :: ([]++x :: (G++C)):=by rw [e];simp
 have ex:=(lQ (A:=A++L'++[y]) (x:=x) (B:=G++C) (i:=j+1) (by rw [e];simp) (by simp;omega)).1
 have ey:=(lQ (i:=j) e' (by simp;omega)).1
 rw [ex,ey] at hlt
 refine⟨L',x,y :: G,?_,by omega,by simp;omega,by simpa using hs,?_,?_⟩
 ·rw [(pR (i:=j) (j:=j+1) e' (by simp;omega) (by simp;omega)).2];simp
 ·intro g hg'
  rcases List.mem_cons.1 hg' with rfl | q
  ·exact hlt
  ·exact hg g q
 ·refine hb.trans ?_
  have c:gG lt ([y]++[x]) ([x]++[y]):=gG.comm ho (by intro u hu v hv;simp at hu hv;subst hu;subst hv;exact hlt)
  have:=((gG.refl (lt:=lt) L').app c).app (gG.refl (lt:=lt) G)
  simpa using this
theorem Ins.stop (ho:WO lt) {A S C:List α} {d:Array α} {j:Nat} (h:Ins lt A S C d.toList j) (hlt:j≤A.length∨lt d[j]! d[j - 1]! = false):∃ W,d.toList=A++(W++C)∧W.length=S.length∧fO lt W∧gG lt S W:=by
 obtain⟨L,x,G,e,hjl,hl,hs,hg,hb⟩:=h
 refine⟨L++x :: G,by rw [e];simp,by simp;omega,?_,hb⟩
 obtain⟨h1,h2,h3⟩:=hs.parts
 have hx:∀ y∈L,lt x y=false:=by
  rcases hlt with q | q
  ·have:L=[]:=List.length_eq_zero_iff.1 (by omega)
   subst this;simp
  ·by_cases hn:L=[]
   ·subst hn;simp
   ·obtain⟨L',y,rfl⟩:∃ L' y,L=L'++[y]:=⟨L.dropLast,L.getLast hn,(List.dropLast_concat_getLast hn).symm⟩
    rw [List.length_append,List.length_singleton] at hjl
    have ex:=(lQ (A:=A++L'++[y]) (x:=x) (B:=G++C) (i:=j) (by rw [e];simp) (by simp;omega)).1
    have ey:=(lQ (A:=A++L') (x:=y) (B:=x :: (G++C)) (i:=j - 1) (by rw [e];simp) (by simp;omega)).1
    rw [ex,ey] at q
    intro z hz
    rcases List.mem_append.1 hz with hz | hz
    ·exact ho.Cr ((fO.parts h1).2.2 z hz y (by simp)) q
    ·simp at hz;subst hz;exact q
 refine fO.app h1 (List.pairwise_cons.2 ⟨fun g hg'=>ho.asym (hg g hg'),h2⟩) ?_
 intro a ha b hb'
 rcases List.mem_cons.1 hb' with rfl | q
 ·exact hx a ha
 ·exact h3 a ha b q
end
theorem u_ (ho:WO lt) {U1 U2 V1 V2 W1 W2:List α} (hu:fO lt (U1++U2)) (hv:fO lt (V1++V2)) (h12:∀ x∈U1,∀ y∈V2,lt y x=false) (h21:∀ x∈U2,∀ y∈V1,lt y x=true)
  (s1:fO lt W1) (b1:gG lt (U1++V1) W1) (s2:fO lt W2) (b2:gG lt (U2++V2) W2):fO lt (W1++W2)∧gG lt ((U1++U2)++(V1++V2)) (W1++W2):=by
 constructor
 ·refine s1.app s2 fun x hx y hy=>?_
  rcases List.mem_append.1 (b1.mem ho hx) with p | p <;> rcases List.mem_append.1 (b2.mem ho hy) with q | q
  ·exact hu.parts.2.2 x p y q
  ·exact h12 x p y q
  ·exact ho.asym (h21 y q x p)
  ·exact hv.parts.2.2 x p y q
 ·refine gG.trans ?_ (b1.app b2)
  have c:gG lt (U2++V1) (V1++U2):=gG.comm ho h21
  have:=((gG.refl (lt:=lt) U1).app c).app (gG.refl (lt:=lt) V2)
  simpa using this
theorem Fx (ho:WO lt) {L:List α} {x y:α} {R:List α} (h:fO lt (L++x :: R)) (q:lt y x=false):∀ z∈L++[x],lt y z=false:=fun z hz=>by
 rcases List.mem_append.1 hz with p | p
 ·exact ho.Cr (h.parts.2.2 z p x (by simp)) q
 ·simp at p;subst p;exact q
theorem all_ge (ho:WO lt) {L:List α} {x y:α} {R:List α} (h:fO lt (L++x :: R)) (q:lt x y=false):∀ z∈x :: R,lt z y=false:=fun z hz=>by
 rcases List.mem_cons.1 hz with rfl | p
 ·exact q
 ·exact ho.Cr q ((List.pairwise_cons.1 h.parts.2.1).1 z p)
theorem Fy (ho:WO lt) {L:List α} {x y:α} {R:List α} (h:fO lt (L++x :: R)) (q:lt x y=true):∀ z∈L++[x],lt z y=true:=fun z hz=>by
 rcases List.mem_append.1 hz with p | p
 ·exact ho.Cs (h.parts.2.2 z p x (by simp)) q
 ·simp at p;subst p;exact q
theorem all_gt (ho:WO lt) {L:List α} {x y:α} {R:List α} (h:fO lt (L++x :: R)) (q:lt y x=true):∀ z∈x :: R,lt y z=true:=fun z hz=>by
 rcases List.mem_cons.1 hz with rfl | p
 ·exact q
 ·exact ho.yQ q ((List.pairwise_cons.1 h.parts.2.1).1 z p)
theorem lU {L:List α} {n:Nat} (h:n<L.length):∃ x,L=L.take n++x :: L.drop (n+1)∧L[n]?=some x∧L.drop n=x :: L.drop (n+1)∧L.take (n+1)=L.take n++[x] :=
 ⟨L[n],by rw [← List.drop_eq_getElem_cons h,List.take_append_drop],List.getElem?_eq_getElem h,List.drop_eq_getElem_cons h,by rw [List.take_add_one,List.getElem?_eq_getElem h];rfl⟩
section
variable [Inhabited α]
theorem mW {d:Array α} {P L Q:List α} (hd:d.toList=P++(L++Q)) {n:Nat} {x:α} (h:L[n]?=some x) {i:Nat} (hi:i=P.length+n):d[i]! = x:=by
 have hl:n<L.length:=by
  rcases Nat.lt_or_ge n L.length with q | q
  ·exact q
  ·rw [List.getElem?_eq_none q] at h;cases h
 have:d.toList[i]?=some x:=by rw [hd,hi,List.getElem?_append_right (by omega),Nat.add_sub_cancel_left,List.getElem?_append_left hl,h]
 have hs:i<d.size:=by
  rcases Nat.lt_or_ge i d.size with q | q
  ·exact q
  ·rw [List.getElem?_eq_none (by rw [Array.length_toList];exact q)] at this;cases this
 rw [getElem!_pos d i hs]
 rw [Array.getElem?_toList,Array.getElem?_eq_getElem hs] at this
 exact Option.some.inj this
theorem Jc (ho:WO lt) {d:Array α} {A U V C:List α} (hd:d.toList=A++(U++(V++C))) (su:fO lt U) (sv:fO lt V) {s e:Nat} (h1:A.length≤s) (h2:s≤A.length+U.length) (h3:A.length+U.length≤e) (h4:e≤A.length+U.length+V.length)
  (c1:A.length<s→e<A.length+U.length+V.length→lt d[e]! d[s - 1]! = false) (c2:s<A.length+U.length→A.length+U.length<e→lt d[e - 1]! d[s]! = true) :
  ∃ U1 U2 V1 V2,U=U1++U2∧V=V1++V2∧A.length+U1.length=s∧A.length+U.length+V1.length=e∧(∀ x∈U1,∀ y∈V2,lt y x=false)∧(∀ x∈U2,∀ y∈V1,lt y x=true):=by
 have hd2:d.toList=(A++U)++(V++C):=by rw [hd];simp
 refine⟨U.take (s - A.length),U.drop (s - A.length),V.take (e - (A.length+U.length)),V.drop (e - (A.length+U.length)),(List.take_append_drop _ _).symm,(List.take_append_drop _ _).symm,by rw [List.length_take];omega,by rw [List.length_take];omega,?_,?_⟩
 ·intro x hx y hy
  have n1:0<s - A.length:=by
   rcases Nat.eq_zero_or_pos (s - A.length) with q | q
   ·rw [q] at hx;simp at hx
   ·exact q
  have n2:e - (A.length+U.length)<V.length:=by
   rcases Nat.lt_or_ge (e - (A.length+U.length)) V.length with q | q
   ·exact q
   ·rw [List.drop_of_length_le q] at hy;cases hy
  obtain⟨a,ha,ha2,_,ha4⟩:=lU (L:=U) (n:=s - A.length - 1) (by omega)
  obtain⟨b,hb,hb2,hb3,_⟩:=lU (L:=V) (n:=e - (A.length+U.length)) n2
  rw [show s - A.length - 1+1=s - A.length by omega] at ha4
  have c:=c1 (by omega) (by omega)
  rw [mW hd2 hb2 (i:=e) (by rw [List.length_append];omega),mW hd ha2 (i:=s - 1) (by omega)] at c
  rw [ha4] at hx
  rw [hb3] at hy
  rw [ha] at su
  rw [hb] at sv
  refine ho.Cr (Fx ho su c x hx) ?_
  rcases List.mem_cons.1 hy with rfl | q
  ·exact ho.irr _
  ·exact (List.pairwise_cons.1 sv.parts.2.1).1 y q
 ·intro x hx y hy
  have n1:s - A.length<U.length:=by
   rcases Nat.lt_or_ge (s - A.length) U.length with q | q
   ·exact q
   ·rw [List.drop_of_length_le q] at hx;cases hx
  have n2:0<e - (A.length+U.length):=by
   rcases Nat.eq_zero_or_pos (e - (A.length+U.length)) with q | q
   ·rw [q] at hy;simp at hy
   ·exact q
  obtain⟨a,ha,ha2,ha3,_⟩:=lU (L:=U) (n:=s - A.length) n1
  obtain⟨b,hb,hb2,_,hb4⟩:=lU (L:=V) (n:=e - (A.length+U.length) - 1) (by omega)
  rw [show e - (A.length+U.length) - 1+1=e - (A.length+U.length) by omega] at hb4
  have c:=c2 (by omega) (by omega)
  rw [mW hd2 hb2 (i:=e - 1) (by rw [List.length_append];omega),mW hd ha2 (i:=s) (by omega)] at c
  rw [hb4] at hy
  rw [ha3] at hx
  rw [ha] at su
  rw [hb] at sv
  refine ho.yQ (Fy ho sv c y hy) ?_
  rcases List.mem_cons.1 hx with rfl | q
  ·exact ho.irr _
  ·exact (List.pairwise_cons.1 su.parts.2.1).1 x q
end
inductive uu (lt:α→α→Bool) (n:Nat):List α→Prop
 | nil:uu lt n []
 | last {q:List α}:q.length≤n→fO lt q→uu lt n q
 | cons {q r:List α}:q.length=n→fO lt q→uu lt n r→uu lt n (q++r)
theorem uu.all {n:Nat} {l:List α} (h:uu lt n l) (hl:l.length≤n):fO lt l:=by
 induction h with
 | nil=>exact fO.nil
 | last _ s=>exact s
 | @cons q r e s _ _ =>
  have:r=[]:=List.length_eq_zero_iff.1 (by rw [List.length_append] at hl;omega)
  subst this
  simpa using s
theorem uu.first {n:Nat} {l:List α} (h:uu lt n l) (hl:n<l.length):∃ q r,l=q++r∧q.length=n∧fO lt q∧uu lt n r:=by
 cases h with
 | nil=>simp at hl
 | last e _=>omega
 | cons e s b=>exact⟨_,_,rfl,e,s,b⟩
theorem uu.first' {n:Nat} (hn:0<n) {l:List α} (h:uu lt n l) (hl:n≤l.length):∃ q r,l=q++r∧q.length=n∧fO lt q∧uu lt n r:=by
 cases h with
 | nil=>simp at hl;omega
 | last e s=>exact⟨l,[],by simp,by omega,s,uu.nil⟩
 | cons e s b=>exact⟨_,_,rfl,e,s,b⟩
def Pre (lt:α→α→Bool) (n:Nat) (D:List α):Prop:=∀ R,uu lt n R→uu lt n (D++R)
theorem Pre.nil {n:Nat}:Pre lt n ([]:List α):=fun _ h=>h
theorem Pre.snoc {n:Nat} {D W:List α} (h:Pre lt n D) (hl:W.length=n) (hs:fO lt W):Pre lt n (D++W):=fun R hR=>by
 rw [List.append_assoc];exact h _ (uu.cons hl hs hR)
def pk (eq:α→α→Bool):α→List α→List α
 | _,[]=>[]
 | p,y :: l=>if eq y p=true then pk eq y l else y :: pk eq y l
def compact (eq:α→α→Bool):List α→List α
 | []=>[]
 | x :: l=>x :: pk eq x l
def ins (lt:α→α→Bool) (x:α):List α→List α
 | []=>[x]
 | y :: l=>if lt y x=true then y :: ins lt x l else if lt x y=true then x :: y :: l else y :: l
def canon (lt:α→α→Bool) (l:List α):List α:=l.foldl (fun o x=>ins lt x o) []
def Str (lt:α→α→Bool) (l:List α):Prop:=l.Pairwise fun a b=>lt a b=true
def first (lt:α→α→Bool) (l:List α) (k:α):Option α:=(l.filter (gX lt k)).head?
theorem gG.first {l r:List α} (h:gG lt l r) (k:α):first lt r k=first lt l k:=by unfold Sr.first;rw [h k]
theorem sD (a b:α):gX lt a b=gX lt b a:=by unfold gX;rw [Bool.and_comm]
theorem qh (h:WO lt) {a b c:α} (q:gX lt a b=true):gX lt a c=gX lt b c:=by
 simp only [gX,Bool.and_eq_true,Bool.not_eq_true'] at q
 have e1:lt a c=lt b c:=by
  cases z:lt a c with
  | true=>exact (h.Cs q.1 z).symm
  | false =>
   cases y:lt b c with
   | false=>rfl
   | true=>have:=h.Cs q.2 y;rw [this] at z;cases z
 have e2:lt c a=lt c b:=by
  cases z:lt c a with
  | true=>exact (h.yQ z q.2).symm
  | false =>
   cases y:lt c b with
   | false=>rfl
   | true=>have:=h.yQ y q.1;rw [this] at z;cases z
 simp [gX,e1,e2]
theorem bQ (x:α) (l:List α) (k:α):first lt (x :: l) k=if gX lt k x=true then some x else first lt l k:=by
 unfold first
 rw [List.filter_cons]
 split <;> rfl
theorem t_ (h:WO lt) {x:α} {l:List α} (hs:Str lt (x :: l)) {k:α} (hk:gX lt k x=true):first lt l k=none:=by
 unfold first
 rw [show l.filter (gX lt k)=[] from ?_]
 ·rfl
 ·rw [List.filter_eq_nil_iff]
  intro y hy q
  have:=(List.pairwise_cons.1 hs).1 y hy
  rw [qh h hk] at q
  simp [gX,this] at q
theorem pO (h:WO lt):∀ {l r:List α},Str lt l→Str lt r→(∀ k,first lt l k=first lt r k)→l=r
 | [],[],_,_,_=>rfl
 | [],y :: r,_,_,e=>by
  have:=e y
  rw [bQ,if_pos (jV h y)] at this
  cases this
 | x :: l,[],_,_,e=>by
  have:=e x
  rw [bQ,if_pos (jV h x)] at this
  cases this
 | x :: l,y :: r,hl,hr,e=>by
  have hxy:x=y:=by
   have e1:=e x
   have e2:=e y
   rw [bQ,if_pos (jV h x),bQ] at e1
   rw [bQ,bQ,if_pos (jV h y)] at e2
   by_cases q:gX lt x y=true
   ·rw [if_pos q] at e1
    exact Option.some.inj e1
   ·rw [if_neg q] at e1
    rw [sD] at q
    rw [if_neg q] at e2
    have m1:x∈r:=(List.mem_filter.1 (List.mem_of_mem_head? (Option.mem_def.2 e1.symm))).1
    have m2:y∈l:=(List.mem_filter.1 (List.mem_of_mem_head? (Option.mem_def.2 e2))).1
    have a:=(List.pairwise_cons.1 hr).1 x m1
    have b:=(List.pairwise_cons.1 hl).1 y m2
    have:=h.asym a
    rw [b] at this
    cases this
  subst hxy
  have:l=r:=pO h (List.pairwise_cons.1 hl).2 (List.pairwise_cons.1 hr).2 fun k=>by
   have ek:=e k
   rw [bQ,bQ] at ek
   by_cases q:gX lt k x=true
   ·rw [t_ h hl q,t_ h hr q]
   ·rwa [if_neg q,if_neg q] at ek
  rw [this]
theorem kv {x z:α}:∀ {l:List α},z∈ins lt x l→z=x∨z∈l
 | [],h=>by simp [ins] at h;exact .inl h
 | y :: l,h=>by
  unfold ins at h
  split at h
  ·rcases List.mem_cons.1 h with rfl | q
   ·exact .inr (by simp)
   ·rcases kv q with r | r
    ·exact .inl r
    ·exact .inr (by simp [r])
  ·split at h
   ·simp at h ⊢;rcases h with r | r | r <;> simp [r]
   ·exact .inr h
theorem pM (h:WO lt) {x:α}:∀ {l:List α},Str lt l→Str lt (ins lt x l)
 | [],_=>List.pairwise_singleton _ _
 | y :: l,hs=>by
  unfold ins
  obtain⟨h1,h2⟩:=List.pairwise_cons.1 hs
  split
  ·rename_i q
   refine List.pairwise_cons.2 ⟨fun z hz=>?_,pM h h2⟩
   rcases kv hz with rfl | r
   ·exact q
   ·exact h1 z r
  ·split
   ·rename_i q
    refine List.pairwise_cons.2 ⟨fun z hz=>?_,hs⟩
    rcases List.mem_cons.1 hz with rfl | r
    ·exact q
    ·exact h.tr _ _ _ q (h1 z r)
   ·exact hs
theorem uW (h:WO lt) {x:α} (k:α):∀ {l:List α},Str lt l→first lt (ins lt x l) k=if (first lt l k).isSome=true then first lt l k else if gX lt k x=true then some x else none
 | [],_=>by
  unfold ins
  rw [bQ]
  simp [first]
 | y :: l,hs=>by
  obtain⟨h1,h2⟩:=List.pairwise_cons.1 hs
  unfold ins
  split
  ·rename_i q
   rw [bQ,bQ,uW h k h2]
   by_cases e:gX lt k y=true
   ·simp [e]
   ·simp [e]
  ·rename_i q0
   split
   ·rename_i q
    rw [bQ]
    by_cases e:gX lt k x=true
    ·have:first lt (y :: l) k=none:=by
      refine t_ h (x:=x) (List.pairwise_cons.2 ⟨fun z hz=>?_,hs⟩) e
      rcases List.mem_cons.1 hz with rfl | r
      ·exact q
      ·exact h.tr _ _ _ q (h1 z r)
     rw [if_pos e,this]
     simp [e]
    ·rw [if_neg e]
     cases z:first lt (y :: l) k with
     | none=>simp [e]
     | some v=>simp
   ·rename_i q
    have exy:gX lt x y=true:=by simp [gX,q0,q]
    by_cases e:gX lt k x=true
    ·have ek:gX lt k y=true:=(qh h e).trans exy
     rw [bQ,if_pos ek]
     simp
    ·cases z:first lt (y :: l) k with
     | none=>simp [e]
     | some v=>simp
theorem rW (h:WO lt):∀ (l o:List α),Str lt o→Str lt (l.foldl (fun o x=>ins lt x o) o)∧∀ k,first lt (l.foldl (fun o x=>ins lt x o) o) k=if (first lt o k).isSome=true then first lt o k else first lt l k
 | [],o,ho=>⟨ho,fun k=>by
  cases z:first lt o k with
  | none=>simpa [first] using z
  | some v=>simpa using z⟩
 | x :: l,o,ho=>by
  obtain⟨h1,h2⟩:=rW h l (ins lt x o) (pM h ho)
  refine⟨h1,fun k=>?_⟩
  rw [List.foldl_cons,h2 k,uW h k ho,bQ]
  cases z:first lt o k with
  | some v=>simp
  | none=>by_cases e:gX lt k x=true <;> simp [e]
theorem gp (h:WO lt) (l:List α):Str lt (canon lt l)∧∀ k,first lt (canon lt l) k=first lt l k:=by
 obtain⟨h1,h2⟩:=rW h l [] List.Pairwise.nil
 exact⟨h1,fun k=>by rw [canon,h2 k];simp [first]⟩
theorem xg (h:WO lt):∀ (l:List α) (p:α),fO lt (p :: l)→Str lt (p :: pk (gX lt) p l)∧∀ k,first lt (p :: pk (gX lt) p l) k=first lt (p :: l) k
 | [],p,_=>⟨List.pairwise_singleton _ _,fun _=>rfl⟩
 | y :: l,p,hs=>by
  obtain⟨h1,h2⟩:=List.pairwise_cons.1 hs
  obtain⟨i1,i2⟩:=xg h l y h2
  unfold pk
  have hyp:=h1 y (by simp)
  by_cases e:gX lt y p=true
  ·rw [if_pos e]
   obtain⟨j1,j2⟩:=List.pairwise_cons.1 i1
   have e':=e
   simp only [gX,Bool.and_eq_true,Bool.not_eq_true'] at e'
   refine⟨List.pairwise_cons.2 ⟨fun z hz=>h.Cs e'.1 (j1 z hz),j2⟩,fun k=>?_⟩
   have ik:=i2 k
   rw [bQ,bQ] at ik ⊢
   rw [bQ]
   have ek:gX lt k y=gX lt k p:=by rw [sD,qh h e,sD]
   rw [ek] at ik ⊢
   by_cases q:gX lt k p=true
   ·rw [if_pos q,if_pos q]
   ·rw [if_neg q] at ik ⊢
    rw [if_neg q] at ik
    rw [if_neg q,if_neg q]
    exact ik
  ·rw [if_neg e]
   have hl:lt p y=true:=by
    simp only [gX,hyp,Bool.not_false,Bool.true_and,Bool.not_eq_true'] at e
    simpa using e
   refine⟨List.pairwise_cons.2 ⟨fun z hz=>?_,i1⟩,fun k=>?_⟩
   ·rcases List.mem_cons.1 hz with rfl | r
    ·exact hl
    ·exact h.tr _ _ _ hl ((List.pairwise_cons.1 i1).1 z r)
   ·rw [bQ,bQ (l:=y :: l),i2 k]
theorem kI (h:WO lt) {l r:List α} (hs:fO lt r) (hb:gG lt l r):compact (gX lt) r=canon lt l:=by
 obtain⟨c1,c2⟩:=gp h l
 refine pO h ?_ c1 fun k=>?_
 ·cases r with
  | nil=>exact List.Pairwise.nil
  | cons x r=>exact (xg h r x hs).1
 ·rw [c2 k,← hb.first k]
  cases r with
  | nil=>rfl
  | cons x r=>exact (xg h r x hs).2 k
theorem mM (h:WO lt) {l:List α} (hs:Str lt l):canon lt l=l:=by
 obtain⟨c1,c2⟩:=gp h l
 exact pO h c1 hs c2
theorem gJ {x:α} {l:List α}:x∈canon lt l→x∈l:=by
 have:∀ (l o:List α),x∈l.foldl (fun o x=>ins lt x o) o→x∈o∨x∈l:=by
  intro l
  induction l with
  | nil=>intro o h;exact .inl h
  | cons y l ih =>
   intro o h
   rcases ih _ h with q | q
   ·rcases kv q with r | r
    ·exact .inr (by simp [r])
    ·exact .inl r
   ·exact .inr (by simp [q])
 intro h
 rcases this l [] h with q | q
 ·cases q
 ·exact q
theorem f_ (l:List α) (x:α):canon lt (l++[x])=ins lt x (canon lt l):=by simp [canon]
theorem mQ (x:α):∀ (l:List α),(ins lt x l).length≤l.length+1
 | []=>by simp [ins]
 | y :: l=>by
  unfold ins
  have:=mQ x l
  split
  ·simp;omega
  ·split <;> simp
theorem dB (l:List α):(canon lt l).length≤l.length:=by
 have:∀ (l o:List α),(l.foldl (fun o x=>ins lt x o) o).length≤o.length+l.length:=by
  intro l
  induction l with
  | nil=>intro o;simp
  | cons y l ih =>
   intro o
   rw [List.foldl_cons]
   have:=ih (ins lt y o)
   have:=mQ (lt:=lt) y o
   simp;omega
 simpa [canon] using this l []
theorem uQ {β:Type} {lt':β→β→Bool} {f:α→β} (hf:∀ a b,lt' (f a) (f b)=lt a b) (l:List α):canon lt' (l.map f)=(canon lt l).map f:=by
 have hi:∀ (x:α) (o:List α),ins lt' (f x) (o.map f)=(ins lt x o).map f:=by
  intro x o
  induction o with
  | nil=>rfl
  | cons y o ih =>
   simp only [List.map_cons,ins,hf]
   split
   ·simp [ih]
   ·split <;> simp
 have:∀ (l o:List α),(l.map f).foldl (fun o x=>ins lt' x o) (o.map f)=(l.foldl (fun o x=>ins lt x o) o).map f:=by
  intro l
  induction l with
  | nil=>intro o;rfl
  | cons y l ih =>
   intro o
   rw [List.map_cons,List.foldl_cons,List.foldl_cons,hi,ih]
 exact this l []
end
end Sr
end
section
namespace Sr
variable {α : Type} {lt : α → α → Bool}
theorem gL {x:α}:∀ {l:List α} {i:Nat},(∀ y∈l.take i,lt y x=true)→(∀ y,l[i]?=some y→lt y x=false∧lt x y=true)→ins lt x l=l.take i++x :: l.drop i
 | [],i,_,_=>by simp [ins]
 | y :: l,0,_,h=>by
  obtain⟨a,b⟩:=h y rfl
  simp [ins,a,b]
 | y :: l,i+1,h,k=>by
  have a:=h y (by simp)
  have q:=gL (x:=x) (l:=l) (i:=i) (fun z hz=>h z (by simp [hz])) (fun z hz=>k z hz)
  simp [ins,a,q]
theorem rA {x y:α}:∀ {l:List α} {i:Nat},(∀ y∈l.take i,lt y x=true)→l[i]?=some y→lt y x=false→lt x y=false→ins lt x l=l
 | [],i,_,h,_,_=>by simp at h
 | z :: l,0,_,h,a,b=>by
  simp at h
  subst h
  simp [ins,a,b]
 | z :: l,i+1,h,k,a,b=>by
  have c:=h z (by simp)
  have q:=rA (x:=x) (y:=y) (l:=l) (i:=i) (fun z hz=>h z (by simp [hz])) k a b
  simp [ins,c,q]
end Sr
end
end
end Go.Proofs.YtcedlgedmkghgaaGreat
