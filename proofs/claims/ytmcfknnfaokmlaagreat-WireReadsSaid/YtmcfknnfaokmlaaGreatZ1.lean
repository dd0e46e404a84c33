import Derived.Below
import Derived.WalkKit
import Derived.Laws.OwnMore
import Derived.Deep.AppendLies
import Derived.Deep.Draws
import Derived.Laws.Rows
import Derived.Laws.BytesArg
import Derived.OwnWalk
import Derived.OneCell
import Derived.Tactics
import Derived.Lib.Hide
import Derived.Laws.Entries
namespace Go.Proofs.YtmcfknnfaokmlaaGreat
set_option maxHeartbeats 16000000
set_option linter.unusedSimpArgs false
set_option maxRecDepth 100000
section
open Go.RowKit
theorem sM (g i:Nat):(⟨g,0,none⟩:Addr).add i=⟨g,i,none⟩:=by
 unfold Addr.add;split <;> simp_all
theorem dM (a:Addr) (i:Nat):(a.add i).block=a.block:=by unfold Addr.add;split <;> rfl
theorem addr_add (a:Addr) (i j:Nat):(a.add i).add j=a.add (i+j):=by
 unfold Addr.add
 by_cases p:i=0
 ·subst p;simp
 ·by_cases q:j=0
  ·subst q;simp [p]
  ·simp [p,q,Nat.add_assoc]
structure aG (B:Nat) (ts:List TypeId) (w w':World):Prop where
 below:Below B w w'
 typed:∀ (k:Nat) (cs:Array Value) (t:TypeId) (fr:Nat × Nat),w.heap[k]?=some (.cells cs t fr)→t ∉ ts→w'.heap[k]?=w.heap[k]?
section
variable {B B' : Nat} {ts ts' : List TypeId} {w w' w'' : World}
theorem aG.refl (B:Nat) (ts:List TypeId) (w:World):aG B ts w w:=⟨Below.refl _ _,fun _ _ _ _ _ _=>rfl⟩
theorem aG.trans (h:aG B ts w w') (k:aG B ts w' w''):aG B ts w w'' :=
 ⟨h.below.trans k.below,fun b cs t fr hb ht=>by
  have e:=h.typed b cs t fr hb ht
  exact (k.typed b cs t fr (e.trans hb) ht).trans e⟩
theorem aG.mono (h:aG B ts w w') (hB:B'≤B):aG B' ts w w':=⟨h.below.mono hB,h.typed⟩
theorem aG.more (h:aG B ts w w') (hs:∀ t∈ts,t∈ts'):aG B ts' w w':=⟨h.below,fun b cs t fr hb ht=>h.typed b cs t fr hb (fun m=>ht (hs t m))⟩
theorem aG.of_below (h:Below w.heap.size w w') (hB:B≤w.heap.size) (ts:List TypeId):aG B ts w w' :=
 ⟨h.mono hB,fun b _ _ _ hb _=>h.block b (lt_of_block hb)⟩
theorem aG.drew (h:aG B ts w w'):aG B ts w w'.drew:=⟨h.below.drew,h.typed⟩
theorem aG.alloc (h:aG B ts w w') (hB:B≤w'.heap.size) (o:Obj):aG B ts w (w'.alloc o) :=
 h.trans ⟨(Below.refl _ _).alloc hB o,fun _ _ _ _ hb _=>Below.heap_alloc _ _ _ (lt_of_block hb)⟩
theorem aG.setCell (h:aG B ts w w') {p:Addr} {cs:Array Value} {t:TypeId} {fr:Nat × Nat} (hp:w'.heap[p.block]?=some (.cells cs t fr)) (ht:t∈ts) (hB:B≤p.block) (u:Value):aG B ts w (w'.setCell p u) :=
 h.trans ⟨(Below.refl _ _).setCell hB u,fun b cs' t' fr' hb ht'=>Below.heap_setCell _ _ _ _ (fun e=>by
  subst e
  rw [hp] at hb
  injection hb with hb
  injection hb with _ e2
  subst e2
  exact ht' ht)⟩
theorem aG.grown (h:aG B ts w w') {row:Option Nat} (hg:w'.grownBy w'' row) (hB:B≤w'.heap.size)
  (hr:∀ k,row=some k→B≤k∧∃ cs t fr,w'.heap[k]?=some (.cells cs t fr)∧t∈ts):aG B ts w w'' :=
 h.trans ⟨(Below.refl _ _).grown hg hB (fun k e=>(hr k e).1),fun b cs t fr hb ht=>hg.block b (lt_of_block hb) (fun e=>by
  obtain⟨_,cs',t',fr',hb',ht'⟩:=hr b e.symm
  rw [hb] at hb'
  injection hb' with hb'
  injection hb' with _ e2
  subst e2
  exact ht ht')⟩
theorem aG.blk (h:aG B ts w w') {g:Nat} {cs:Array Value} {t:TypeId} {fr:Nat × Nat} (hg:w.heap[g]?=some (.cells cs t fr)) (ht:t ∉ ts):w'.heap[g]?=some (.cells cs t fr) :=
 (h.typed g cs t fr hg ht).trans hg
theorem aG.size (h:aG B ts w w'):w.heap.size≤w'.heap.size:=h.below.size
end
def av (w:World) (B:Nat) (t:TypeId) (A:Option Addr) (xs:List Value):Prop :=
 xs≠[]→∃ ad,A=some ad∧(ad.block<B∨∃ cs fr,w.heap[ad.block]?=some (.cells cs t fr))∧∀ j u,xs[j]?=some u→w.cell? (ad.add j)=some u
section
variable {w w' : World} {B B' : Nat} {t : TypeId} {A : Option Addr} {xs : List Value}
theorem av.nil:av w B t A []:=fun h=>absurd rfl h
theorem av.at_ (h:av w B t A xs) {k:Nat} (hk:k<xs.length):∃ ad,A=some ad∧w.cell? (ad.add k)=some xs[k]:=by
 obtain⟨ad,e,_,hc⟩:=h (fun e=>by rw [e] at hk;simp at hk)
 exact⟨ad,e,hc k _ (List.getElem?_eq_getElem hk)⟩
theorem av.more (h:av w B t A xs) (hB:B≤B'):av w B' t A xs:=fun hx=>by
 obtain⟨ad,e,hb,hc⟩:=h hx
 exact⟨ad,e,hb.imp (fun q=>Nat.lt_of_lt_of_le q hB) id,hc⟩
theorem av.keep (h:av w B t A xs) (hk:∀ b,(b<B∨∃ cs fr,w.heap[b]?=some (.cells cs t fr))→w'.heap[b]?=w.heap[b]?):av w' B t A xs:=fun hx=>by
 obtain⟨ad,e,hb,hc⟩:=h hx
 have q:=hk ad.block hb
 refine⟨ad,e,hb.imp id (fun ⟨cs,fr,r⟩=>⟨cs,fr,q.trans r⟩),fun j u hu=>?_⟩
 exact (World.cell?_of_block (by rw [dM];exact q)).trans (hc j u hu)
theorem av.cZ (h:av w B t A xs) {ts:List TypeId} (hT:aG B ts w w') (ht:t ∉ ts):av w' B t A xs :=
 h.keep fun b hb=>hb.elim (fun q=>hT.below.block b q) (fun ⟨cs,fr,r⟩=>hT.typed b cs t fr r ht)
theorem av.below (h:av w B t A xs) (hB:B≤w.heap.size) (hT:Below w.heap.size w w'):av w' B t A xs:=h.keep fun b hb=>hT.block b (hb.elim (fun q=>by omega) (fun ⟨_,_,r⟩=>lt_of_block r))
theorem av.drew (h:av w B t A xs):av w.drew B t A xs:=h
theorem av.alloc (h:av w B t A xs) (hB:B≤w.heap.size) (o:Obj):av (w.alloc o) B t A xs:=h.below hB ((Below.refl _ _).alloc (Nat.le_refl _) o)
theorem av.take (h:av w B t A xs) (k:Nat):av w B t A (xs.take k):=fun hx=>by
 obtain⟨ad,e,hb,hc⟩:=h (fun e=>hx (by rw [e];simp))
 refine⟨ad,e,hb,fun j u hu=>hc j u ?_⟩
 rw [List.getElem?_take] at hu
 split at hu
 ·exact hu
 ·cases hu
theorem av.cut (h:av w B t A xs) (k c:Nat) (hc:xs.length≤c):av w B t (if c=k then A else A.map (·.add k)) (xs.drop k):=fun hx=>by
 have hl:k<xs.length:=by
  rcases Nat.lt_or_ge k xs.length with q | q
  ·exact q
  ·exact absurd (List.drop_eq_nil_of_le q) hx
 obtain⟨ad,rfl,hb,hcell⟩:=h (fun e=>by rw [e] at hl;simp at hl)
 rw [if_neg (by omega)]
 refine⟨ad.add k,rfl,by rw [dM];exact hb,fun j u hu=>?_⟩
 rw [addr_add]
 exact hcell _ u (by rw [← hu,List.getElem?_drop])
theorem av.dD {g:Nat} {cs:Array Value} {fr:Nat × Nat} (hg:w.heap[g]?=some (.cells cs t fr)):av w B t (some ⟨g,0,none⟩) cs.toList:=fun _=>by
 refine⟨_,rfl,.inr ⟨cs,fr,hg⟩,fun j u hu=>?_⟩
 rw [sM,cell_of_row w g j cs t fr hg]
 simpa using hu
theorem av.Dp {base:Nat} {size n:Nat} {c:Nat} (h:w.ownsRow base t size (.slice A n c) n xs):av w B t A xs:=fun hx=>by
 rcases h.2 with⟨_,hn⟩ | ⟨g,cap,cur,hv,_,hh,_,_,_,ht⟩
 ·exact absurd (List.eq_nil_of_length_eq_zero (by rw [h.1,hn,Nat.zero_mul])) hx
 ·have hA:A=some ⟨g,0,none⟩:=by injection hv
  subst hA
  refine⟨_,rfl,.inr ⟨cur,(0,0),hh⟩,fun j u hu=>?_⟩
  exact h.cells (g:=g) rfl j u hu
end
section
variable {w w' : World} {base : Nat} {e : TypeId} {size : Nat} {v : Value} {n : Nat} {xs : List Value}
theorem aL (h:w.ownsRow base e size v n xs):∃ A c,v=.slice A n c:=by
 rcases h.2 with⟨rfl,rfl⟩ | ⟨g,cap,_,rfl,_⟩
 ·exact⟨_,_,rfl⟩
 ·exact⟨_,_,rfl⟩
theorem aA {A:Option Addr} {m c:Nat} (h:w.ownsRow base e size (.slice A m c) n xs):m=n∧n≤c:=by
 rcases h.2 with⟨h1,h2⟩ | ⟨g,cap,_,h1,_,_,h2,_⟩
 ·injection h1 with _ a b;omega
 ·injection h1 with _ a b;omega
theorem j3 (h:w.ownsRow base e size v n xs):∀ k,v.ownBlock=some k→base≤k∧∃ cs fr,w.heap[k]?=some (.cells cs e fr):=by
 intro k hk
 rcases h.2 with⟨rfl,_⟩ | ⟨g,cap,cur,rfl,hb,hg,_⟩
 ·simp [Value.ownBlock] at hk
 ·simp [Value.ownBlock] at hk
  subst hk
  exact⟨hb,cur,(0,0),hg⟩
theorem bu {B:Nat} {ts:List TypeId} (h:w.ownsRow base e size v n xs) (hT:aG B ts w w') (he:e ∉ ts):w'.ownsRow base e size v n xs:=by
 refine⟨h.1,?_⟩
 rcases h.2 with hn | ⟨g,cap,cur,rfl,hb,hg,rest⟩
 ·exact .inl hn
 ·exact .inr ⟨g,cap,cur,rfl,hb,hT.blk hg he,rest⟩
theorem own_below (h:w.ownsRow base e size v n xs) (hT:Below w.heap.size w w'):w'.ownsRow base e size v n xs:=bu h (aG.of_below hT (Nat.le_refl _) []) (by simp)
theorem dY (h:w.ownsRow base e size v n xs) {p:Addr} {cs:Array Value} {t:TypeId} {fr:Nat × Nat} (hp:w.heap[p.block]?=some (.cells cs t fr)) (ht:e≠t) (u:Value):(w.setCell p u).ownsRow base e size v n xs :=
 bu h ((aG.refl 0 [t] w).setCell hp (by simp) (Nat.zero_le _) u) (by simpa using ht)
theorem gp (h:w.ownsRow base e size v n xs) {b:Nat} (hb:b≤base):w.ownsRow b e size v n xs:=by
 refine⟨h.1,?_⟩
 rcases h.2 with hn | ⟨g,cap,cur,rfl,hbg,rest⟩
 ·exact .inl hn
 ·exact .inr ⟨g,cap,cur,rfl,by omega,rest⟩
theorem bV {w':World} (h:w.ownsRow base e size v n xs) (hg:w.grownBy w' v.ownBlock) {g:Nat} {cs:Array Value} {t:TypeId} {fr:Nat × Nat} (hb:w.heap[g]?=some (.cells cs t fr)) (ht:t≠e):w'.heap[g]?=some (.cells cs t fr):=by
 refine (hg.block g (lt_of_block hb) (fun q=>?_)).trans hb
 obtain⟨_,cs',fr',r⟩:=j3 h g q.symm
 rw [hb] at r
 injection r with r
 injection r with _ r2
 exact ht r2
theorem dB {B:Nat} {ts:List TypeId} {w':World} (h:w.ownsRow base e size v n xs) (hg:w.grownBy w' v.ownBlock) (hB:B≤base) (hB2:B≤w.heap.size) (he:e∈ts):aG B ts w w' :=
 (aG.refl B ts w).grown hg hB2 (fun k q=>by
  obtain⟨a,cs,fr,r⟩:=j3 h k q
  exact⟨by omega,cs,e,fr,r,he⟩)
end
theorem ui {w:World} {B:Nat} {e:TypeId} {A:Option Addr} {n c:Nat} {xs:List Value} (h:w.ownsRow B e 1 (.slice A n c) n xs) (hn:0<n):∃ g,A=some ⟨g,0,none⟩∧B≤g∧g<w.heap.size∧(∀ j u,xs[j]?=some u→w.cell? ⟨g,j,none⟩=some u)∧(∀ j,w.frozen? ⟨g,j,none⟩=false):=by
 obtain⟨g,cp,hv,hb,hlt⟩:=h.form hn
 injection hv with h1 h2 h3
 subst h1
 refine⟨g,rfl,hb,hlt,fun j u hu=>?_,fun j=>h.frozenAt j⟩
 have q:=h.cells (g:=g) rfl j u hu
 rwa [sM] at q
theorem zJ {w w1:World} {o:Obj} {e:TypeId} {size:Nat} {v:Value} {n:Nat} {xs:List Value} (h:(w.alloc o).ownsRow w.heap.size e size v n xs) (hg:(w.alloc o).grownBy w1 v.ownBlock):Below w.heap.size w w1 :=
 ((Below.refl _ _).alloc (Nat.le_refl _) o).grown hg (by simp) (fun k q=>(h.lt k q).1)
theorem xn {w w1:World} {B:Nat} {e:TypeId} {size:Nat} {v:Value} {n:Nat} {xs:List Value} (h:w.ownsRow B e size v n xs) (hg:w.grownBy w1 v.ownBlock) (hB:B≤w.heap.size):Below B w w1 :=
 (Below.refl _ _).grown hg hB (fun k q=>(h.lt k q).1)
theorem ae {w:World} {g:Nat} {cs:Array Value} {t:TypeId} {fr:Nat × Nat} (h:w.heap[g]?=some (.cells cs t fr)) (i:Nat) (u:Value):(w.setCell ⟨g,i,none⟩ u).heap[g]?=some (.cells (cs.setIfInBounds i u) t fr):=by
 simp [World.setCell,Array.getElem?_modify,h]
theorem aI {w:World} {g:Nat} {o:Obj} (h:w.heap[g]?=some o) {p:Addr} (hp:g≠p.block) (u:Value):(w.setCell p u).heap[g]?=some o:=(Below.heap_setCell w p u g hp).trans h
theorem aW {w:World} {g:Nat} {o:Obj} (h:w.heap[g]?=some o) (o':Obj):(w.alloc o').heap[g]?=some o:=(Below.heap_alloc w o' g (lt_of_block h)).trans h
theorem aa {w:World} {g:Nat} {cs:Array Value} {t:TypeId} (h:w.heap[g]?=some (.cells cs t (0,0))) (i:Nat):w.frozen? ⟨g,i,none⟩=false:=frozen_of_row w g i cs t h
section
variable {P : Program} (w : World)
theorem uB (base:Nat) (t ty e:TypeId) (i:TypeInfo) (size:Nat) (ht:P.underlying t=some (.slice e)) (hi:P.info? e=some i)
  (v:Value) (n:Nat) (xs:List Value) (hown:w.ownsRow base e size v n xs) (c:Nat):(Builtin.append_ #[t,t] ty #[v,.slice none 0 c]).run P w=.ok v w:=by
 rcases hown.2 with⟨rfl,rfl⟩ | ⟨g,cap,cur,rfl,_,_,hnc,_⟩
 ·simp [Builtin.append_,run_underlying ht,sizeOf,typeInfo,hi,Builtin.lenOf,Builtin.firstCells]
 ·simp [Builtin.append_,run_underlying ht,sizeOf,typeInfo,hi,Builtin.lenOf,Builtin.firstCells,hnc,storeCells]
theorem zi (base:Nat) (t ty e:TypeId) (i:TypeInfo) (z:Value) (size bytes:Nat) (ht:P.underlying t=some (.slice e)) (hi:P.info? e=some i) (hz:i.zero=some z)
  (hsize:i.size=size) (hby:i.bytes=bytes) (hzs:z.cells.size=size) (hsz:0<size)
  (v:Value) (n:Nat) (xs:List Value) (hown:w.ownsRow base e size v n xs)
  (B:Nat) (A:Option Addr) (m c:Nat) (news:List Value) (t':TypeId) (hl:news.length=m * size) (hL:av w B t' A news) (h1:∀ u∈news,u.oneCell'=true)
  (h63:n+m≤maxLen) (hbytes:(n+m) * bytes≤140737488355328) (hbase:base≤w.heap.size) :
  ∃ v' w',(Builtin.append_ #[t,t] ty #[v,.slice A m c]).run P w=.ok v' w'∧w'.ownsRow base e size v' (n+m) (xs++news)∧w.grownBy w' v.ownBlock∧(v'.ownBlock=v.ownBlock∨v'.ownBlock=some w.heap.size):=by
 rcases A with _ | ad
 ·have hn:news=[]:=by
   rcases news with _ | ⟨x,l⟩
   ·rfl
   ·obtain⟨ad,q,_⟩:=hL (by simp)
    cases q
  subst hn
  have hm:m=0:=by
   rcases Nat.eq_zero_or_pos m with q | q
   ·exact q
   ·have:=Nat.mul_pos q hsz
    simp at hl
    omega
  subst hm
  exact⟨v,w,uB w base t ty e i size ht hi v n xs hown c,by simpa using hown,World.grownBy.refl w _,.inl rfl⟩
 ·have hcells:∀ j u,news[j]?=some u→w.cell? (ad.add j)=some u:=by
   intro j u hu
   obtain⟨El,q,_,hc⟩:=hL (fun e=>by rw [e] at hu;simp at hu)
   injection q with q
   subst q
   exact hc j u hu
  obtain⟨v',w',hrun,h2,h3,_,h5⟩:=run_append_own_at (P:=P) w base t ty e i z size bytes ht hi hz hsize hby hzs hsz v n xs hown ad m c news hl hcells h1 h63 hbytes hbase
  exact⟨v',w',hrun,h2,h3,h5⟩
theorem aO {ops:Array Oper} {rest:List Oper} {o:Oper} {a:Act} {Q:Exit→Act→World→Prop} (hgd:o.guard=none) (s x:Operand) (t:TypeId)
  (ho:o.op=.call { callee:=.builtin .append,args:=#[s,x],argTypes:=#[t,t] })
  (base:Nat) (e:TypeId) (i:TypeInfo) (z:Value) (size bytes:Nat) (ht:P.underlying t=some (.slice e)) (hi:P.info? e=some i) (hz:i.zero=some z)
  (hsize:i.size=size) (hby:i.bytes=bytes) (hzs:z.cells.size=size) (hsz:0<size)
  (v:Value) (n:Nat) (xs:List Value) (hs:a.eval s=v) (hown:w.ownsRow base e size v n xs)
  (B:Nat) (A:Option Addr) (m c:Nat) (news:List Value) (t':TypeId) (hx:a.eval x=.slice A m c) (hl:news.length=m * size) (hL:av w B t' A news) (h1:∀ u∈news,u.oneCell'=true)
  (h63:n+m≤maxLen) (hbytes:(n+m) * bytes≤140737488355328) (hbase:base≤w.heap.size)
  (h:∀ v' w',w'.ownsRow base e size v' (n+m) (xs++news)→w.grownBy w' v.ownBlock→(v'.ownBlock=v.ownBlock∨v'.ownBlock=some w.heap.size)→wpList P ops Q rest (a.put o.dst v') w'):wpList P ops Q (o :: rest) a w :=
 wpList_plain hgd fun K hK=>by
  obtain⟨v',w',hrun,h2,h3,h4⟩:=zi (P:=P) w base t o.type e i z size bytes ht hi hz hsize hby hzs hsz v n xs hown B A m c news t' hl hL h1 h63 hbytes hbase
  unfold Oper.wp execOp
  simp only [ho,resolve,invoke,builtin,Sem.run_bind,Sem.run_pure,Result.andThen_ok,List.map_toArray,List.map_cons,List.map_nil,hs,hx,hrun]
  exact hK _ _ (h v' w' h2 h3 h4)
end
@[go_sem] theorem yields_undef : yielded.match_1 (fun _ => Option Bool) (some undef) (fun b => some b) (fun _ => none) = none := rfl
@[go_sem] theorem stor_float (P : Program) (w : World) (a : Addr) (m : Mode) (k : FloatKind) (b : Nat) : (store a (.float k b) m).run P w = stored P w a (.float k b) m := run_store P w a _ m rfl
def Ty (w:World) (g:Nat) (t:TypeId):Prop:=∃ cs fr,w.heap[g]?=some (.cells cs t fr)
theorem Ty.of {w:World} {g:Nat} {cs:Array Value} {t:TypeId} {fr:Nat × Nat} (h:w.heap[g]?=some (.cells cs t fr)):Ty w g t:=⟨cs,fr,h⟩
theorem Ty.set {w:World} {g:Nat} {t:TypeId} (h:Ty w g t) (p:Addr) (u:Value):Ty (w.setCell p u) g t:=by
 obtain⟨cs,fr,h⟩:=h
 by_cases e:g=p.block
 ·subst e
  obtain⟨b,o,sp⟩:=p
  cases sp with
  | none=>exact⟨cs.setIfInBounds o u,fr,by simp [World.setCell,Array.getElem?_modify,h]⟩
  | some x=>exact⟨cs,fr,by simp [World.setCell,Array.getElem?_modify,h]⟩
 ·exact⟨cs,fr,(Below.heap_setCell w p u g e).trans h⟩
theorem aG.bB {B:Nat} {ts:List TypeId} {w w':World} {p:Addr} {t:TypeId} (h:aG B ts w w') (hp:Ty w' p.block t) (ht:t∈ts) (hB:B≤p.block) (u:Value):aG B ts w (w'.setCell p u):=by
 obtain⟨cs,fr,hp⟩:=hp
 exact h.setCell hp ht hB u
theorem aG.bU {B:Nat} {ts:List TypeId} {w w':World} {p:Addr} (h:aG B ts w w') (hp:w.heap.size≤p.block) (hB:B≤w.heap.size) (u:Value):aG B ts w (w'.setCell p u) :=
 ⟨h.below.setCell (Nat.le_trans hB hp) u,fun k cs t fr hk ht=>(Below.heap_setCell w' p u k (by have:=lt_of_block hk;omega)).trans (h.typed k cs t fr hk ht)⟩
def rE (b:UInt8):Value:=.int .u8 (b.toNat:Int)
def af (l:List UInt8):List Value:=l.map rE
theorem aT (l:List UInt8):(af l).length=l.length:=by simp [af]
theorem aX (l:List UInt8):∀ u∈af l,u.oneCell'=true:=by
 intro u hu
 simp only [af,List.mem_map] at hu
 obtain⟨b,_,rfl⟩:=hu
 rfl
theorem bF (l m:List UInt8):af (l++m)=af l++af m:=by simp [af]
theorem d9 (l:List UInt8) (k:Nat):(af l).take k=af (l.take k):=by simp [af]
theorem dI (l:List UInt8) (k:Nat):(af l).drop k=af (l.drop k):=by simp [af]
theorem av.byte {w:World} {B:Nat} {t:TypeId} {A:Option Addr} {l:List UInt8} (h:av w B t A (af l)) {k:Nat} (hk:k<l.length):∃ ad,A=some ad∧w.cell? (ad.add k)=some (.int .u8 (l[k].toNat:Int)):=by
 obtain⟨ad,e,hc⟩:=h.at_ (k:=k) (by rw [aT];exact hk)
 exact⟨ad,e,by rw [hc];simp [af,rE]⟩
theorem av.mP {w:World} {B:Nat} {t:TypeId} {A:Option Addr} {l:List UInt8} (h:av w B t A (af l)) {k:Nat} {x:UInt8} (hx:l[k]?=some x):∃ ad,A=some ad∧w.cell? (ad.add k)=some (.int .u8 (x.toNat:Int)):=by
 have hk:k<l.length:=by
  rcases Nat.lt_or_ge k l.length with q | q
  ·exact q
  ·rw [List.getElem?_eq_none q] at hx;cases hx
 obtain⟨ad,e,hc⟩:=h.byte hk
 refine⟨ad,e,?_⟩
 rw [List.getElem?_eq_getElem hk] at hx
 injection hx with hx
 rw [hc,hx]
theorem av.int {w:World} {B:Nat} {t:TypeId} {A:Option Addr} {kd:IntKind} {ns:List Int} (h:av w B t A (ns.map (Value.int kd))) {k:Nat} (hk:k<ns.length) :
  ∃ ad x,A=some ad∧ns[k]?=some x∧w.cell? (ad.add k)=some (.int kd x):=by
 obtain⟨ad,e,hc⟩:=h.at_ (k:=k) (by simpa using hk)
 exact⟨ad,ns[k],e,List.getElem?_eq_getElem hk,by rw [hc];simp⟩
theorem ko {α:Type} {l:List α} {k:Nat} {x:α} (h:l[k]?=some x):l.take (k+1)=l.take k++[x]:=by
 rw [List.take_add_one,h];rfl
def str (l:List UInt8):ByteArray:=⟨l.toArray⟩
@[go_sem] theorem str_toList (l : List UInt8) : (str l).toList = l := by rw [ByteArray.toList_eq]; rfl
theorem DR {P:Program} (w:World) (src dst e:TypeId) (hs:P.underlying src=some (.slice e)) (he:P.underlying e=some (.int .u8)) (hd:P.underlying dst=some .string) {B:Nat} {t:TypeId} (A:Option Addr) (n c:Nat) (l:List UInt8) (hn:n=l.length)
  (hL:av w B t A (af l)):(convert src dst (.slice A n c)).run P w=.ok (.string (str l)) w:=by
 subst hn
 rcases A with _ | ad
 ·have:l=[]:=by
   rcases l with _ | ⟨x,l⟩
   ·rfl
   ·obtain⟨ad,q,_⟩:=hL (by simp [af])
    cases q
  subst this
  rw [run_convert_bytes_nil w src e hs he _ _ dst hd]
  rfl
 ·have hl:(loadCells ad l.length).run P w=.ok ((l.map fun b=>(b.toNat:Int)).map (Value.int .u8)).toArray w:=by
   have:=run_loadCells_list (P:=P) w ad (af l) (fun j u hu=>by
    obtain⟨El,q,_,hc⟩:=hL (fun e=>by rw [e] at hu;simp at hu)
    injection q with q
    subst q
    exact hc j u hu)
   rw [aT] at this
   rw [this]
   simp [af,rE]
  have e1:((l.map fun b=>(b.toNat:Int)).map fun n=>UInt8.ofNat n.toNat)=l:=by
   rw [List.map_map]
   conv=>rhs;rw [← List.map_id l]
   exact List.map_congr_left fun b _=>by simp
  rw [run_convert_bytes_string w src dst e _ l.length c hs he hd,run_bytesToString w _ l.length c _ hl,foldl_push_bytes,e1]
  simp only [str,ByteArray.empty,ByteArray.emptyWithCapacity]
  congr 3
  apply Array.toList_inj.1
  simp only [Array.toList_append]
  rfl
section
open Go.RowKit Go.Lib
theorem ai {w:World} {g:Nat} {a b:Value} {t:TypeId} {fr:Nat × Nat} (h:w.heap[g]?=some (.cells #[a,b] t fr)):w.cell? ⟨g,0,none⟩=some a∧w.cell? ⟨g,1,none⟩=some b:=⟨by simp [World.cell?,h],by simp [World.cell?,h]⟩
theorem aM {w:World} {a b:Value} {t:TypeId} {u:World} (h:w.alloc (.cells #[a,b] t)=u):u.heap[w.heap.size]?=some (.cells #[a,b] t (0,0))∧Below w.heap.size w u∧u.heap.size=w.heap.size+1:=by
 subst h
 exact⟨heap_alloc_new w _,(Below.refl _ w).alloc (Nat.le_refl _) _,by simp⟩
theorem ah {w w':World} {g:Nat} {o:Obj} (hb:w.heap[g]?=some o) (h:Below w.heap.size w w'):w'.heap[g]?=some o:=(h.block g (lt_of_block hb)).trans hb
theorem aF {α:Type} {l:List α} {k:Nat} {x:α} (h:l[k]?=some x):l.take (k+1)=l.take k++[x]:=by
 obtain⟨q1,q2⟩:=List.getElem?_eq_some_iff.1 h
 rw [List.take_succ_eq_append_getElem q1,q2]
theorem av.stay {w w':World} {A:Option Addr} {xs:List Value} (h:av w w.heap.size 0 A xs) (hb:Below w.heap.size w w'):av w' w'.heap.size 0 A xs:=(h.below (Nat.le_refl _) hb).more hb.size
end
end
end Go.Proofs.YtmcfknnfaokmlaaGreat
