import Derived.Deep.RegionHeld
import Derived.Sort.Lot0
import Derived.Deep.RegionLaw
import Derived.Deep.AppendLies
import Derived.WalkKit
import Derived.Deep.Draws
import Derived.ProofKit
import Derived.Lib.AppendZerosOnto
import Derived.Lib.Hide
namespace Go.Proofs.YtcmiompdjjiojaaGreat
set_option maxHeartbeats 16000000
set_option linter.unusedSimpArgs false
set_option maxRecDepth 100000
section
open Go.RowKit
theorem dP (g i:Nat):(⟨g,0,none⟩:Addr).add i=⟨g,i,none⟩:=by
 unfold Addr.add;split <;> simp_all
theorem iK (a:Addr) (i:Nat):(a.add i).block=a.block:=by unfold Addr.add;split <;> rfl
theorem addr_add (a:Addr) (i j:Nat):(a.add i).add j=a.add (i+j):=by
 unfold Addr.add
 by_cases p:i=0
 ·subst p;simp
 ·by_cases q:j=0
  ·subst q;simp [p]
  ·simp [p,q,Nat.add_assoc]
structure aM (B:Nat) (ts:List TypeId) (w w':World):Prop where
 below:Below B w w'
 typed:∀ (k:Nat) (cs:Array Value) (t:TypeId) (fr:Nat × Nat),w.heap[k]?=some (.cells cs t fr)→t ∉ ts→w'.heap[k]?=w.heap[k]?
section
variable {B B' : Nat} {ts ts' : List TypeId} {w w' w'' : World}
theorem aM.refl (B:Nat) (ts:List TypeId) (w:World):aM B ts w w:=⟨Below.refl _ _,fun _ _ _ _ _ _=>rfl⟩
theorem aM.trans (h:aM B ts w w') (k:aM B ts w' w''):aM B ts w w'' :=
 ⟨h.below.trans k.below,fun b cs t fr hb ht=>by
  have e:=h.typed b cs t fr hb ht
  exact (k.typed b cs t fr (e.trans hb) ht).trans e⟩
theorem aM.mono (h:aM B ts w w') (hB:B'≤B):aM B' ts w w':=⟨h.below.mono hB,h.typed⟩
theorem aM.more (h:aM B ts w w') (hs:∀ t∈ts,t∈ts'):aM B ts' w w':=⟨h.below,fun b cs t fr hb ht=>h.typed b cs t fr hb (fun m=>ht (hs t m))⟩
theorem aM.of_below (h:Below w.heap.size w w') (hB:B≤w.heap.size) (ts:List TypeId):aM B ts w w' :=
 ⟨h.mono hB,fun b _ _ _ hb _=>h.block b (lt_of_block hb)⟩
theorem aM.drewN (h:aM B ts w w') (n:Nat):aM B ts w (w'.drewN n):=⟨⟨h.below.os,h.below.tape,h.below.output,h.below.size,h.below.block⟩,h.typed⟩
theorem aM.drew (h:aM B ts w w'):aM B ts w w'.drew:=⟨h.below.drew,h.typed⟩
theorem aM.alloc (h:aM B ts w w') (hB:B≤w'.heap.size) (o:Obj):aM B ts w (w'.alloc o) :=
 h.trans ⟨(Below.refl _ _).alloc hB o,fun _ _ _ _ hb _=>Below.heap_alloc _ _ _ (lt_of_block hb)⟩
theorem aM.setCell (h:aM B ts w w') {p:Addr} {cs:Array Value} {t:TypeId} {fr:Nat × Nat} (hp:w'.heap[p.block]?=some (.cells cs t fr)) (ht:t∈ts) (hB:B≤p.block) (u:Value):aM B ts w (w'.setCell p u) :=
 h.trans ⟨(Below.refl _ _).setCell hB u,fun b cs' t' fr' hb ht'=>Below.heap_setCell _ _ _ _ (fun e=>by
  subst e
  rw [hp] at hb
  injection hb with hb
  injection hb with _ e2
  subst e2
  exact ht' ht)⟩
theorem aM.grown (h:aM B ts w w') {row:Option Nat} (hg:w'.grownBy w'' row) (hB:B≤w'.heap.size)
  (hr:∀ k,row=some k→B≤k∧∃ cs t fr,w'.heap[k]?=some (.cells cs t fr)∧t∈ts):aM B ts w w'' :=
 h.trans ⟨(Below.refl _ _).grown hg hB (fun k e=>(hr k e).1),fun b cs t fr hb ht=>hg.block b (lt_of_block hb) (fun e=>by
  obtain⟨_,cs',t',fr',hb',ht'⟩:=hr b e.symm
  rw [hb] at hb'
  injection hb' with hb'
  injection hb' with _ e2
  subst e2
  exact ht ht')⟩
theorem aM.blk (h:aM B ts w w') {g:Nat} {cs:Array Value} {t:TypeId} {fr:Nat × Nat} (hg:w.heap[g]?=some (.cells cs t fr)) (ht:t ∉ ts):w'.heap[g]?=some (.cells cs t fr) :=
 (h.typed g cs t fr hg ht).trans hg
theorem aM.size (h:aM B ts w w'):w.heap.size≤w'.heap.size:=h.below.size
end
def au (w:World) (B:Nat) (t:TypeId) (A:Option Addr) (xs:List Value):Prop :=
 xs≠[]→∃ ad,A=some ad∧(ad.block<B∨∃ cs fr,w.heap[ad.block]?=some (.cells cs t fr))∧∀ j u,xs[j]?=some u→w.cell? (ad.add j)=some u
section
variable {w w' : World} {B B' : Nat} {t : TypeId} {A : Option Addr} {xs : List Value}
theorem au.nil:au w B t A []:=fun h=>absurd rfl h
theorem au.at_ (h:au w B t A xs) {k:Nat} (hk:k<xs.length):∃ ad,A=some ad∧w.cell? (ad.add k)=some xs[k]:=by
 obtain⟨ad,e,_,hc⟩:=h (fun e=>by rw [e] at hk;simp at hk)
 exact⟨ad,e,hc k _ (List.getElem?_eq_getElem hk)⟩
theorem au.more (h:au w B t A xs) (hB:B≤B'):au w B' t A xs:=fun hx=>by
 obtain⟨ad,e,hb,hc⟩:=h hx
 exact⟨ad,e,hb.imp (fun q=>Nat.lt_of_lt_of_le q hB) id,hc⟩
theorem au.keep (h:au w B t A xs) (hk:∀ b,(b<B∨∃ cs fr,w.heap[b]?=some (.cells cs t fr))→w'.heap[b]?=w.heap[b]?):au w' B t A xs:=fun hx=>by
 obtain⟨ad,e,hb,hc⟩:=h hx
 have q:=hk ad.block hb
 refine⟨ad,e,hb.imp id (fun ⟨cs,fr,r⟩=>⟨cs,fr,q.trans r⟩),fun j u hu=>?_⟩
 exact (World.cell?_of_block (by rw [iK];exact q)).trans (hc j u hu)
theorem au.bE (h:au w B t A xs) {ts:List TypeId} (hT:aM B ts w w') (ht:t ∉ ts):au w' B t A xs :=
 h.keep fun b hb=>hb.elim (fun q=>hT.below.block b q) (fun ⟨cs,fr,r⟩=>hT.typed b cs t fr r ht)
theorem au.below (h:au w B t A xs) (hB:B≤w.heap.size) (hT:Below w.heap.size w w'):au w' B t A xs:=h.keep fun b hb=>hT.block b (hb.elim (fun q=>by omega) (fun ⟨_,_,r⟩=>lt_of_block r))
theorem au.drew (h:au w B t A xs):au w.drew B t A xs:=h
theorem au.take (h:au w B t A xs) (k:Nat):au w B t A (xs.take k):=fun hx=>by
 obtain⟨ad,e,hb,hc⟩:=h (fun e=>hx (by rw [e];simp))
 refine⟨ad,e,hb,fun j u hu=>hc j u ?_⟩
 rw [List.getElem?_take] at hu
 split at hu
 ·exact hu
 ·cases hu
theorem au.cut (h:au w B t A xs) (k c:Nat) (hc:xs.length≤c):au w B t (if c=k then A else A.map (·.add k)) (xs.drop k):=fun hx=>by
 have hl:k<xs.length:=by
  rcases Nat.lt_or_ge k xs.length with q | q
  ·exact q
  ·exact absurd (List.drop_eq_nil_of_le q) hx
 obtain⟨ad,rfl,hb,hcell⟩:=h (fun e=>by rw [e] at hl;simp at hl)
 rw [if_neg (by omega)]
 refine⟨ad.add k,rfl,by rw [iK];exact hb,fun j u hu=>?_⟩
 rw [addr_add]
 exact hcell _ u (by rw [← hu,List.getElem?_drop])
theorem au.iy {g:Nat} {cs:Array Value} {fr:Nat × Nat} (hg:w.heap[g]?=some (.cells cs t fr)):au w B t (some ⟨g,0,none⟩) cs.toList:=fun _=>by
 refine⟨_,rfl,.inr ⟨cs,fr,hg⟩,fun j u hu=>?_⟩
 rw [dP,cell_of_row w g j cs t fr hg]
 simpa using hu
theorem au.KJ {base:Nat} {size n:Nat} {c:Nat} (h:w.ownsRow base t size (.slice A n c) n xs):au w B t A xs:=fun hx=>by
 rcases h.2 with⟨_,hn⟩ | ⟨g,cap,cur,hv,_,hh,_,_,_,ht⟩
 ·exact absurd (List.eq_nil_of_length_eq_zero (by rw [h.1,hn,Nat.zero_mul])) hx
 ·have hA:A=some ⟨g,0,none⟩:=by injection hv
  subst hA
  refine⟨_,rfl,.inr ⟨cur,(0,0),hh⟩,fun j u hu=>?_⟩
  exact h.cells (g:=g) rfl j u hu
end
section
variable {w w' : World} {base : Nat} {e : TypeId} {size : Nat} {v : Value} {n : Nat} {xs : List Value}
theorem aD (h:w.ownsRow base e size v n xs):∃ A c,v=.slice A n c:=by
 rcases h.2 with⟨rfl,rfl⟩ | ⟨g,cap,_,rfl,_⟩
 ·exact⟨_,_,rfl⟩
 ·exact⟨_,_,rfl⟩
theorem aO {A:Option Addr} {m c:Nat} (h:w.ownsRow base e size (.slice A m c) n xs):m=n∧n≤c:=by
 rcases h.2 with⟨h1,h2⟩ | ⟨g,cap,_,h1,_,_,h2,_⟩
 ·injection h1 with _ a b;omega
 ·injection h1 with _ a b;omega
theorem bM (h:w.ownsRow base e size v n xs):∀ k,v.ownBlock=some k→base≤k∧∃ cs fr,w.heap[k]?=some (.cells cs e fr):=by
 intro k hk
 rcases h.2 with⟨rfl,_⟩ | ⟨g,cap,cur,rfl,hb,hg,_⟩
 ·simp [Value.ownBlock] at hk
 ·simp [Value.ownBlock] at hk
  subst hk
  exact⟨hb,cur,(0,0),hg⟩
theorem bX {B:Nat} {ts:List TypeId} (h:w.ownsRow base e size v n xs) (hT:aM B ts w w') (he:e ∉ ts):w'.ownsRow base e size v n xs:=by
 refine⟨h.1,?_⟩
 rcases h.2 with hn | ⟨g,cap,cur,rfl,hb,hg,rest⟩
 ·exact .inl hn
 ·exact .inr ⟨g,cap,cur,rfl,hb,hT.blk hg he,rest⟩
theorem own_below (h:w.ownsRow base e size v n xs) (hT:Below w.heap.size w w'):w'.ownsRow base e size v n xs:=bX h (aM.of_below hT (Nat.le_refl _) []) (by simp)
theorem dA (h:w.ownsRow base e size v n xs) {b:Nat} (hb:b≤base):w.ownsRow b e size v n xs:=by
 refine⟨h.1,?_⟩
 rcases h.2 with hn | ⟨g,cap,cur,rfl,hbg,rest⟩
 ·exact .inl hn
 ·exact .inr ⟨g,cap,cur,rfl,by omega,rest⟩
theorem rY {w':World} (h:w.ownsRow base e size v n xs) (hg:w.grownBy w' v.ownBlock) {g:Nat} {cs:Array Value} {t:TypeId} {fr:Nat × Nat} (hb:w.heap[g]?=some (.cells cs t fr)) (ht:t≠e):w'.heap[g]?=some (.cells cs t fr):=by
 refine (hg.block g (lt_of_block hb) (fun q=>?_)).trans hb
 obtain⟨_,cs',fr',r⟩:=bM h g q.symm
 rw [hb] at r
 injection r with r
 injection r with _ r2
 exact ht r2
theorem ed {B:Nat} {ts:List TypeId} {w':World} (h:w.ownsRow base e size v n xs) (hg:w.grownBy w' v.ownBlock) (hB:B≤base) (hB2:B≤w.heap.size) (he:e∈ts):aM B ts w w' :=
 (aM.refl B ts w).grown hg hB2 (fun k q=>by
  obtain⟨a,cs,fr,r⟩:=bM h k q
  exact⟨by omega,cs,e,fr,r,he⟩)
end
theorem rG {w w1:World} {o:Obj} {e:TypeId} {size:Nat} {v:Value} {n:Nat} {xs:List Value} (h:(w.alloc o).ownsRow w.heap.size e size v n xs) (hg:(w.alloc o).grownBy w1 v.ownBlock):Below w.heap.size w w1 :=
 ((Below.refl _ _).alloc (Nat.le_refl _) o).grown hg (by simp) (fun k q=>(h.lt k q).1)
theorem kD {w w1:World} {B:Nat} {e:TypeId} {size:Nat} {v:Value} {n:Nat} {xs:List Value} (h:w.ownsRow B e size v n xs) (hg:w.grownBy w1 v.ownBlock) (hB:B≤w.heap.size):Below B w w1 :=
 (Below.refl _ _).grown hg hB (fun k q=>(h.lt k q).1)
theorem ah {w:World} {g:Nat} {cs:Array Value} {t:TypeId} {fr:Nat × Nat} (h:w.heap[g]?=some (.cells cs t fr)) (i:Nat) (u:Value):(w.setCell ⟨g,i,none⟩ u).heap[g]?=some (.cells (cs.setIfInBounds i u) t fr):=by
 simp [World.setCell,Array.getElem?_modify,h]
theorem az {w:World} {g:Nat} {o:Obj} (h:w.heap[g]?=some o) {p:Addr} (hp:g≠p.block) (u:Value):(w.setCell p u).heap[g]?=some o:=(Below.heap_setCell w p u g hp).trans h
theorem bu {w:World} {g:Nat} {o:Obj} (h:w.heap[g]?=some o) (o':Obj):(w.alloc o').heap[g]?=some o:=(Below.heap_alloc w o' g (lt_of_block h)).trans h
theorem af {w:World} {g:Nat} {cs:Array Value} {t:TypeId} (h:w.heap[g]?=some (.cells cs t (0,0))) (i:Nat):w.frozen? ⟨g,i,none⟩=false:=frozen_of_row w g i cs t h
theorem Jm {w:World} {g g':Nat} {cs cs':Array Value} {t t':TypeId} {fr fr':Nat × Nat} (h:w.heap[g]?=some (.cells cs t fr)) (h':w.heap[g']?=some (.cells cs' t' fr')) (hne:t≠t'):g≠g':=by
 rintro rfl
 rw [h] at h'
 injection h' with h'
 injection h' with _ q
 exact hne q
section
variable {P : Program} (w : World)
theorem zA (base:Nat) (t ty e:TypeId) (i:TypeInfo) (size:Nat) (ht:P.underlying t=some (.slice e)) (hi:P.info? e=some i)
  (v:Value) (n:Nat) (xs:List Value) (hown:w.ownsRow base e size v n xs) (c:Nat):(Builtin.append_ #[t,t] ty #[v,.slice none 0 c]).run P w=.ok v w:=by
 rcases hown.2 with⟨rfl,rfl⟩ | ⟨g,cap,cur,rfl,_,_,hnc,_⟩
 ·simp [Builtin.append_,run_underlying ht,sizeOf,typeInfo,hi,Builtin.lenOf,Builtin.firstCells]
 ·simp [Builtin.append_,run_underlying ht,sizeOf,typeInfo,hi,Builtin.lenOf,Builtin.firstCells,hnc,storeCells]
theorem FK (base:Nat) (t ty e:TypeId) (i:TypeInfo) (z:Value) (size bytes:Nat) (ht:P.underlying t=some (.slice e)) (hi:P.info? e=some i) (hz:i.zero=some z)
  (hsize:i.size=size) (hby:i.bytes=bytes) (hzs:z.cells.size=size) (hsz:0<size)
  (v:Value) (n:Nat) (xs:List Value) (hown:w.ownsRow base e size v n xs)
  (B:Nat) (A:Option Addr) (m c:Nat) (news:List Value) (t':TypeId) (hl:news.length=m * size) (hL:au w B t' A news) (h1:∀ u∈news,u.oneCell'=true)
  (h63:n+m≤maxLen) (hbytes:(n+m) * bytes≤140737488355328) (hbase:base≤w.heap.size) :
  ∃ v' w',(Builtin.append_ #[t,t] ty #[v,.slice A m c]).run P w=.ok v' w'∧w'.ownsRow base e size v' (n+m) (xs++news)∧w.grownBy w' v.ownBlock∧(v'.ownBlock=v.ownBlock∨v'.ownBlock=some w.heap.size):=by
 rcases A with _ | ad
 ·have hn:news=[]:=by
   rcases news with _ | ⟨x,l⟩
   ·rfl
   ·obtain⟨ad,q,_⟩:=hL (by simp)
    cases q
  subst hn
  have hm:m=0:=by
   rcases Nat.eq_zero_or_pos m with q | q
   ·exact q
   ·have:=Nat.mul_pos q hsz
    simp at hl
    omega
  subst hm
  exact⟨v,w,zA w base t ty e i size ht hi v n xs hown c,by simpa using hown,World.grownBy.refl w _,.inl rfl⟩
 ·have hcells:∀ j u,news[j]?=some u→w.cell? (ad.add j)=some u:=by
   intro j u hu
   obtain⟨IA,q,_,hc⟩:=hL (fun e=>by rw [e] at hu;simp at hu)
   injection q with q
   subst q
   exact hc j u hu
  obtain⟨v',w',hrun,h2,h3,_,h5⟩:=run_append_own_at (P:=P) w base t ty e i z size bytes ht hi hz hsize hby hzs hsz v n xs hown ad m c news hl hcells h1 h63 hbytes hbase
  exact⟨v',w',hrun,h2,h3,h5⟩
theorem bL {ops:Array Oper} {rest:List Oper} {o:Oper} {a:Act} {Q:Exit→Act→World→Prop} (hgd:o.guard=none) (s x:Operand) (t:TypeId)
  (ho:o.op=.call { callee:=.builtin .append,args:=#[s,x],argTypes:=#[t,t] })
  (base:Nat) (e:TypeId) (i:TypeInfo) (z:Value) (size bytes:Nat) (ht:P.underlying t=some (.slice e)) (hi:P.info? e=some i) (hz:i.zero=some z)
  (hsize:i.size=size) (hby:i.bytes=bytes) (hzs:z.cells.size=size) (hsz:0<size)
  (v:Value) (n:Nat) (xs:List Value) (hs:a.eval s=v) (hown:w.ownsRow base e size v n xs)
  (B:Nat) (A:Option Addr) (m c:Nat) (news:List Value) (t':TypeId) (hx:a.eval x=.slice A m c) (hl:news.length=m * size) (hL:au w B t' A news) (h1:∀ u∈news,u.oneCell'=true)
  (h63:n+m≤maxLen) (hbytes:(n+m) * bytes≤140737488355328) (hbase:base≤w.heap.size)
  (h:∀ v' w',w'.ownsRow base e size v' (n+m) (xs++news)→w.grownBy w' v.ownBlock→(v'.ownBlock=v.ownBlock∨v'.ownBlock=some w.heap.size)→wpList P ops Q rest (a.put o.dst v') w'):wpList P ops Q (o :: rest) a w :=
 wpList_plain hgd fun K hK=>by
  obtain⟨v',w',hrun,h2,h3,h4⟩:=FK (P:=P) w base t o.type e i z size bytes ht hi hz hsize hby hzs hsz v n xs hown B A m c news t' hl hL h1 h63 hbytes hbase
  unfold Oper.wp execOp
  simp only [ho,resolve,invoke,builtin,Sem.run_bind,Sem.run_pure,Result.andThen_ok,List.map_toArray,List.map_cons,List.map_nil,hs,hx,hrun]
  exact hK _ _ (h v' w' h2 h3 h4)
end
@[go_sem] theorem yields_undef : yielded.match_1 (fun _ => Option Bool) (some undef) (fun b => some b) (fun _ => none) = none := rfl
@[go_sem] theorem stor_float (P : Program) (w : World) (a : Addr) (m : Mode) (k : FloatKind) (b : Nat) : (store a (.float k b) m).run P w = stored P w a (.float k b) m := run_store P w a _ m rfl
def Ty (w:World) (g:Nat) (t:TypeId):Prop:=∃ cs fr,w.heap[g]?=some (.cells cs t fr)
theorem Ty.of {w:World} {g:Nat} {cs:Array Value} {t:TypeId} {fr:Nat × Nat} (h:w.heap[g]?=some (.cells cs t fr)):Ty w g t:=⟨cs,fr,h⟩
theorem Ty.set {w:World} {g:Nat} {t:TypeId} (h:Ty w g t) (p:Addr) (u:Value):Ty (w.setCell p u) g t:=by
 obtain⟨cs,fr,h⟩:=h
 by_cases e:g=p.block
 ·subst e
  obtain⟨b,o,sp⟩:=p
  cases sp with
  | none=>exact⟨cs.setIfInBounds o u,fr,by simp [World.setCell,Array.getElem?_modify,h]⟩
  | some x=>exact⟨cs,fr,by simp [World.setCell,Array.getElem?_modify,h]⟩
 ·exact⟨cs,fr,(Below.heap_setCell w p u g e).trans h⟩
theorem aM.aB {B:Nat} {ts:List TypeId} {w w':World} {p:Addr} {t:TypeId} (h:aM B ts w w') (hp:Ty w' p.block t) (ht:t∈ts) (hB:B≤p.block) (u:Value):aM B ts w (w'.setCell p u):=by
 obtain⟨cs,fr,hp⟩:=hp
 exact h.setCell hp ht hB u
def bcell (b:UInt8):Value:=.int .u8 (b.toNat:Int)
def mP (l:List UInt8):List Value:=l.map bcell
theorem Di (l:List UInt8):(mP l).length=l.length:=by simp [mP]
theorem au.byte {w:World} {B:Nat} {t:TypeId} {A:Option Addr} {l:List UInt8} (h:au w B t A (mP l)) {k:Nat} (hk:k<l.length):∃ ad,A=some ad∧w.cell? (ad.add k)=some (.int .u8 (l[k].toNat:Int)):=by
 obtain⟨ad,e,hc⟩:=h.at_ (k:=k) (by rw [Di];exact hk)
 exact⟨ad,e,by rw [hc];simp [mP,bcell]⟩
theorem au.int {w:World} {B:Nat} {t:TypeId} {A:Option Addr} {kd:IntKind} {ns:List Int} (h:au w B t A (ns.map (Value.int kd))) {k:Nat} (hk:k<ns.length) :
  ∃ ad x,A=some ad∧ns[k]?=some x∧w.cell? (ad.add k)=some (.int kd x):=by
 obtain⟨ad,e,hc⟩:=h.at_ (k:=k) (by simpa using hk)
 exact⟨ad,ns[k],e,List.getElem?_eq_getElem hk,by rw [hc];simp⟩
theorem kv {α:Type} {l:List α} {k:Nat} {x:α} (h:l[k]?=some x):l.take (k+1)=l.take k++[x]:=by
 rw [List.take_add_one,h];rfl
def str (l:List UInt8):ByteArray:=⟨l.toArray⟩
@[go_sem] theorem str_toList (l : List UInt8) : (str l).toList = l := by rw [ByteArray.toList_eq]; rfl
section
open Go.RowKit Go.Lib
theorem aa {w:World} {g:Nat} {a b:Value} {t:TypeId} {fr:Nat × Nat} (h:w.heap[g]?=some (.cells #[a,b] t fr)):w.cell? ⟨g,0,none⟩=some a∧w.cell? ⟨g,1,none⟩=some b:=⟨by simp [World.cell?,h],by simp [World.cell?,h]⟩
theorem aj {w:World} {a b:Value} {t:TypeId} {u:World} (h:w.alloc (.cells #[a,b] t)=u):u.heap[w.heap.size]?=some (.cells #[a,b] t (0,0))∧Below w.heap.size w u∧u.heap.size=w.heap.size+1:=by
 subst h
 exact⟨heap_alloc_new w _,(Below.refl _ w).alloc (Nat.le_refl _) _,by simp⟩
theorem ae {w w':World} {g:Nat} {o:Obj} (hb:w.heap[g]?=some o) (h:Below w.heap.size w w'):w'.heap[g]?=some o:=(h.block g (lt_of_block hb)).trans hb
theorem bH {α:Type} {l:List α} {k:Nat} {x:α} (h:l[k]?=some x):l.take (k+1)=l.take k++[x]:=by
 obtain⟨q1,q2⟩:=List.getElem?_eq_some_iff.1 h
 rw [List.take_succ_eq_append_getElem q1,q2]
theorem au.stay {w w':World} {A:Option Addr} {xs:List Value} (h:au w w.heap.size 0 A xs) (hb:Below w.heap.size w w'):au w' w'.heap.size 0 A xs:=(h.below (Nat.le_refl _) hb).more hb.size
end
end
section
section
section
open Go.RowKit
section
variable {P : Program} (w : World)
theorem FB {base:Nat} {e:TypeId} {z:Value} {size need old:Nat} {xs:List Value} (hbase:base≤w.heap.size) (hl:xs.length=need * size) (hzs:z.cells.size=size) (hn:need≤maxLen) :
  (w.drew.alloc (.cells (xs.toArray++Builtin.zeroCells z.cells (grownCap w need old e - need)) e)).ownsRow base e size (.slice (some ⟨w.heap.size,0,none⟩) need (grownCap w need old e)) need xs:=by
 have hge:=grownCap_ge w need old e
 refine⟨hl,.inr ⟨w.heap.size,_,_,rfl,hbase,heap_alloc_new w.drew _,hge,grownCap_le_maxLen w need old e hn,?_,?_⟩⟩
 ·rw [Array.size_append,List.size_toArray,size_zeroCells,hzs,hl,← Nat.add_mul]
  congr 1
  omega
 ·rw [Array.toList_append,← hl]
  exact List.take_left
theorem sP (base:Nat) (t ty e:TypeId) (i:TypeInfo) (z:Value) (size bytes:Nat) (ht:P.underlying t=some (.slice e)) (hi:P.info? e=some i) (hz:i.zero=some z)
  (hsize:i.size=size) (hby:i.bytes=bytes) (hzs:z.cells.size=size)
  (B0:Nat) (t0:TypeId) (A0:Option Addr) (n:Nat) (olds:List Value) (hl0:olds.length=n * size) (hL0:au w B0 t0 A0 olds) (hnil:A0=none→n=0)
  (ad:Addr) (m c:Nat) (news:List Value) (hl:news.length=m * size) (hc:∀ j u,news[j]?=some u→w.cell? (ad.add j)=some u) (h1:∀ u∈news,u.oneCell'=true) (hm:0<m)
  (h63:n+m≤maxLen) (hbytes:(n+m) * bytes≤140737488355328) (hbase:base≤w.heap.size) :
  ∃ v' w',(Builtin.append_ #[t,t] ty #[.slice A0 n n,.slice (some ad) m c]).run P w=.ok v' w'∧w'.ownsRow base e size v' (n+m) (olds++news)∧w.grownBy w' none∧v'.ownBlock=some w.heap.size:=by
 subst hsize
 subst hby
 have hold:(Builtin.firstCells i.size n (.slice A0 n n)).run P w.drew=.ok olds.toArray w.drew:=by
  rcases A0 with _ | b
  ·have:n=0:=hnil rfl
   subst this
   have:olds=[]:=List.eq_nil_of_length_eq_zero (by simpa using hl0)
   subst this
   exact run_firstCells_none w.drew _ _ _ _
  ·refine run_firstCells_some w.drew i.size n b n n olds hl0 (fun j u hu=>?_)
   obtain⟨IA,q,_,hcell⟩:=hL0 (fun e=>by rw [e] at hu;simp at hu)
   injection q with q
   subst q
   exact hcell j u hu
 have hs:=Src.ofSlice (P:=P) w ht ad m c news hl hc h1
 have hr:=run_append_grow_src (P:=P) w t t ty e i z ht hi hz A0 n n olds hold (.slice (some ad) m c) m news hs (by omega) (by unfold maxLen at h63;omega) (growslice_fits (by omega) hbytes)
 exact⟨_,_,hr,FB w hbase (by rw [List.length_append,hl0,hl,Nat.add_mul]) hzs h63,⟨rfl,rfl,rfl,by simp,fun k hk _=>Below.heap_alloc w.drew _ k hk⟩,rfl⟩
end
theorem jK {P:Program} {ops:Array Oper} {o:Oper} {a:Act} {w w':World} {K:Act→World→Prop} {Q:Exit→Act→World→Prop} {E:Prop}
  (hg:o.guard=none) (s x:Operand) (t tx:TypeId) (hop:o.op=Op.call { callee:=Callee.builtin Builtin.append,args:=#[s,x],argTypes:=#[t,tx] }) {v xv v':Value}
  (hs:a.eval s=v) (hx:a.eval x=xv) (hrun:(Builtin.append_ #[t,tx] o.type #[v,xv]).run P w=.ok v' w') (hK:K (a.put o.dst v') w') :
  if Region.wanted o (yielded ops a.tmps)=true then Oper.wp P o a w K Q else E:=by
 have hw:Region.wanted o (yielded ops a.tmps)=true:=by simp [Region.wanted,hg]
 rw [if_pos hw]
 unfold Oper.wp
 simp only [execOp,hop,resolve,invoke,builtin,Sem.run_bind,Sem.run_pure,Result.andThen_ok,List.map_toArray,List.map_cons,List.map_nil,hs,hx,hrun]
 exact hK
theorem eT {P:Program} {ops:Array Oper} {o:Oper} {a:Act} {w:World} {K:Act→World→Prop} {Q:Exit→Act→World→Prop} {E:Prop}
  (hgd:o.guard=none) (s x:Operand) (t:TypeId) (ho:o.op=Op.call { callee:=Callee.builtin Builtin.append,args:=#[s,x],argTypes:=#[t,t] })
  (base:Nat) (e:TypeId) (i:TypeInfo) (z:Value) (size bytes:Nat) (ht:P.underlying t=some (.slice e)) (hi:P.info? e=some i) (hz:i.zero=some z)
  (hsize:i.size=size) (hby:i.bytes=bytes) (hzs:z.cells.size=size) (hsz:0<size)
  (v:Value) (n:Nat) (xs:List Value) (hs:a.eval s=v) (hown:w.ownsRow base e size v n xs)
  (B:Nat) (A:Option Addr) (m c:Nat) (news:List Value) (t':TypeId) (hx:a.eval x=.slice A m c) (hl:news.length=m * size) (hL:au w B t' A news) (h1:∀ u∈news,u.oneCell'=true)
  (h63:n+m≤maxLen) (hbytes:(n+m) * bytes≤140737488355328) (hbase:base≤w.heap.size)
  (h:∀ v' w',w'.ownsRow base e size v' (n+m) (xs++news)→w.grownBy w' v.ownBlock→(v'.ownBlock=v.ownBlock∨v'.ownBlock=some w.heap.size)→K (a.put o.dst v') w') :
  if Region.wanted o (yielded ops a.tmps)=true then Oper.wp P o a w K Q else E:=by
 obtain⟨v',w',hrun,h2,h3,h4⟩:=FK (P:=P) w base t o.type e i z size bytes ht hi hz hsize hby hzs hsz v n xs hown B A m c news t' hl hL h1 h63 hbytes hbase
 exact jK hgd s x t t ho hs hx hrun (h v' w' h2 h3 h4)
theorem fF {P:Program} {ops:Array Oper} {o:Oper} {a:Act} {w:World} {K:Act→World→Prop} {Q:Exit→Act→World→Prop} {E:Prop}
  (hgd:o.guard=none) (s x:Operand) (t:TypeId) (ho:o.op=Op.call { callee:=Callee.builtin Builtin.append,args:=#[s,x],argTypes:=#[t,t] })
  (base:Nat) (e:TypeId) (i:TypeInfo) (z:Value) (size bytes:Nat) (ht:P.underlying t=some (.slice e)) (hi:P.info? e=some i) (hz:i.zero=some z)
  (hsize:i.size=size) (hby:i.bytes=bytes) (hzs:z.cells.size=size)
  (B0:Nat) (t0:TypeId) (A0:Option Addr) (n:Nat) (olds:List Value) (hs:a.eval s=.slice A0 n n) (hl0:olds.length=n * size) (hL0:au w B0 t0 A0 olds) (hnil:A0=none→n=0)
  (ad:Addr) (m c:Nat) (news:List Value) (hx:a.eval x=.slice (some ad) m c) (hl:news.length=m * size) (hc:∀ j u,news[j]?=some u→w.cell? (ad.add j)=some u) (h1:∀ u∈news,u.oneCell'=true) (hm:0<m)
  (h63:n+m≤maxLen) (hbytes:(n+m) * bytes≤140737488355328) (hbase:base≤w.heap.size)
  (h:∀ v' w',w'.ownsRow base e size v' (n+m) (olds++news)→w.grownBy w' none→v'.ownBlock=some w.heap.size→K (a.put o.dst v') w') :
  if Region.wanted o (yielded ops a.tmps)=true then Oper.wp P o a w K Q else E:=by
 obtain⟨v',w',hrun,h2,h3,h4⟩:=sP (P:=P) w base t o.type e i z size bytes ht hi hz hsize hby hzs B0 t0 A0 n olds hl0 hL0 hnil ad m c news hl hc h1 hm h63 hbytes hbase
 exact jK hgd s x t t ho hs hx hrun (h v' w' h2 h3 h4)
end
section
open Go.RowKit
structure But (F:Nat→Prop) (B:Nat) (w w':World):Prop where
 os:w'.os=w.os
 tape:w'.tape=w.tape
 output:w'.output=w.output
 size:w.heap.size≤w'.heap.size
 block:∀ k,k<B→¬ F k→w'.heap[k]?=w.heap[k]?
section
variable {F G : Nat → Prop} {B B' : Nat} {w w' w'' : World}
theorem But.trans (h:But F B w w') (k:But F B w' w''):But F B w w'' :=
 ⟨k.os.trans h.os,k.tape.trans h.tape,k.output.trans h.output,Nat.le_trans h.size k.size,fun i hi hf=>(k.block i hi hf).trans (h.block i hi hf)⟩
end
def InF (F:Nat→Prop) (A:Option Addr):Prop:=∀ ad,A=some ad→F ad.block
theorem InF.none {F:Nat→Prop}:InF F none:=fun _ h=>by cases h
theorem dh {w w':World} {base:Nat} {e:TypeId} {size n:Nat} {v:Value} {xs:List Value} (h:w.ownsRow base e size v n xs) (hk:∀ k,v.ownBlock=some k→w'.heap[k]?=w.heap[k]?):w'.ownsRow base e size v n xs:=by
 refine⟨h.1,?_⟩
 rcases h.2 with hn | ⟨g,cap,cur,rfl,hb,hg,rest⟩
 ·exact .inl hn
 ·exact .inr ⟨g,cap,cur,rfl,hb,(hk g rfl).trans hg,rest⟩
end
section
variable {P : Program} (w : World)
theorem jy {ops:Array Oper} {rest:List Oper} {o:Oper} {a:Act} {Q:Exit→Act→World→Prop} (hgd:o.guard=none) (s x:Operand) (t:TypeId)
  (ho:o.op=.call { callee:=.builtin .append,args:=#[s,x],argTypes:=#[t,t] })
  (base:Nat) (e:TypeId) (i:TypeInfo) (z:Value) (size bytes:Nat) (ht:P.underlying t=some (.slice e)) (hi:P.info? e=some i) (hz:i.zero=some z)
  (hsize:i.size=size) (hby:i.bytes=bytes) (hzs:z.cells.size=size)
  (B0:Nat) (t0:TypeId) (A0:Option Addr) (n:Nat) (olds:List Value) (hs:a.eval s=.slice A0 n n) (hl0:olds.length=n * size) (hL0:au w B0 t0 A0 olds) (hnil:A0=none→n=0)
  (ad:Addr) (m c:Nat) (news:List Value) (hx:a.eval x=.slice (some ad) m c) (hl:news.length=m * size) (hc:∀ j u,news[j]?=some u→w.cell? (ad.add j)=some u) (h1:∀ u∈news,u.oneCell'=true) (hm:0<m)
  (h63:n+m≤maxLen) (hbytes:(n+m) * bytes≤140737488355328) (hbase:base≤w.heap.size)
  (h:∀ v' w',w'.ownsRow base e size v' (n+m) (olds++news)→w.grownBy w' none→wpList P ops Q rest (a.put o.dst v') w'):wpList P ops Q (o :: rest) a w :=
 wpList_plain hgd fun K hK=>by
  obtain⟨v',w',hrun,h2,h3,_⟩:=sP (P:=P) w base t o.type e i z size bytes ht hi hz hsize hby hzs B0 t0 A0 n olds hl0 hL0 hnil ad m c news hl hc h1 hm h63 hbytes hbase
  unfold Oper.wp execOp
  simp only [ho,resolve,invoke,builtin,Sem.run_bind,Sem.run_pure,Result.andThen_ok,List.map_toArray,List.map_cons,List.map_nil,hs,hx,hrun]
  exact hK _ _ (h v' w' h2 h3)
end
end
section
section
variable {P : Program} {ops : Array Oper} {Q : Exit → Act → World → Prop} {md : Region.Mode} {S : World → Prop} {st : Nat}
def Any (P:Program) (md:Region.Mode) (ops:Array Oper) (Q:Exit→Act→World→Prop) (S:World→Prop) (st:Nat):Nat→Array Bool→Act→World→Prop
 | 0,ls,a,w=>Region.ready md ops ls=[]∧Q .normal a w
 | f+1,ls,a,w=>(Region.ready md ops ls=[]→Q .normal a w)∧∀ j∈Region.ready md ops ls,wpOp P ops Q j (fun b u=>(j≠st→S u)∧Any P md ops Q S st f (ls.setIfInBounds j true) b u) a w
theorem Any.plain:∀ {f:Nat} {ls:Array Bool} {a:Act} {w:World},Any P md ops Q S st f ls a w→wpAny P md ops Q f ls a w
 | 0,_,_,_,h=>h
 | _+1,_,_,_,h=>⟨h.1,fun j hj=>wpOp_mono (fun _ _ q=>q.2.plain) (h.2 j hj)⟩
theorem waits {i j:Nat} {ls:Array Bool} {oj:Oper} (hi:i∈Region.ready md ops ls) (hj:j∈Region.ready md ops ls) (ho:ops[j]?=some oj):∀ e∈oj.after,Region.binds md e=true→e.on≠i:=by
 intro e he hb q
 obtain⟨_,o,hoj,hall⟩:=mem_ready.1 hj
 rw [ho] at hoj
 injection hoj with hoj
 subst hoj
 have h1:=hall e he hb
 have h0:=(mem_ready.1 hi).1
 rw [q] at h1
 rcases Nat.lt_or_ge i ls.size with r | r
 ·simp only [Array.getD_eq_getD_getElem?,Array.getElem?_eq_getElem r,Option.getD_some] at h0 h1
  rw [h0] at h1
  cases h1
 ·simp only [Array.getD_eq_getD_getElem?,Array.getElem?_eq_none r,Option.getD_none] at h1
  cases h1
theorem Any.first {i:Nat} {oi os:Oper} {v:Value} (hi:ops[i]?=some oi) (hsel:Region.noSelect ops=true) (hQ:∀ c a w,Q (.panic c) (a.put oi.dst v) w→Q (.panic c) a w)
  (hs:ops[st]?=some os) (hw:∃ e∈os.after,Region.binds md e=true∧e.on=i) (f:Nat) (ls:Array Bool) (a:Act) (w:World)
  (hfree:∀ j oj,ops[j]?=some oj→j≠i→ls.getD j true=false→(∀ e∈oj.after,Region.binds md e=true→e.on≠i)→oi.apart ops oj=true)
  (hr:i∈Region.ready md ops ls) (hy:YieldsIf P ops S oi v a) (hS:S w) (H:Any P md ops Q S st f (ls.setIfInBounds i true) (a.put oi.dst v) w):Any P md ops Q S st (f+1) ls a w:=by
 have kZ:=Region.noSelect_spec hsel
 induction f generalizing ls a w with
 | zero =>
  refine⟨fun e=>absurd hr (by rw [e];simp),fun j hj=>?_⟩
  rcases Nat.decEq j i with q | q
  ·exact absurd (ready_mono hj q) (by rw [H.1];simp)
  ·subst q
   exact hy.wpOp hi hS ⟨fun _=>hS,H⟩
 | succ f ih =>
  refine⟨fun e=>absurd hr (by rw [e];simp),fun j hj=>?_⟩
  rcases Nat.decEq j i with q | q
  ·obtain⟨un,oj,hoj,_⟩:=mem_ready.1 hj
   have now:j≠st:=by
    rintro rfl
    obtain⟨e,he,hb,hon⟩:=hw
    exact waits hr hj hs e he hb hon
   have stays:∀ k ok,ops[k]?=some ok→k≠i→(ls.setIfInBounds j true).getD k true=false→(∀ e∈ok.after,Region.binds md e=true→e.on≠i)→oi.apart ops ok=true:=by
    intro k ok hk hki hun hno
    refine hfree k ok hk hki ?_ hno
    rcases Nat.decEq j k with r | r
    ·rwa [getD_set_ne true r] at hun
    ·rw [← r];exact un
   have next:=wpOp_putIf hoj (hfree j oj hoj q un (waits hr hj hoj)) (fun cs b=>kZ i oi cs b hi) (fun cs b=>kZ j oj cs b hoj) hQ hy (H.2 j (ready_mono hj q))
   refine wpOp_mono (fun b u g=>⟨g.2.1,ih _ b u stays (ready_mono hr (Ne.symm q)) g.1 (g.2.1 now) ?_⟩) next
   rw [Array.setIfInBounds_comm _ _ q]
   exact g.2.2
  ·subst q
   exact hy.wpOp hi hS ⟨fun _=>hS,H⟩
theorem Any.take {i:Nat} {oi os:Oper} {v:Value} {f:Nat} {ls:Array Bool} {a:Act} {w:World} (hi:ops[i]?=some oi) (hsel:Region.noSelect ops=true) (hf:Region.free md ops ls i=true) (hr:(Region.ready md ops ls).contains i=true)
  (hs:ops[st]?=some os) (hw:(os.after.any fun e=>Region.binds md e && e.on==i)=true) (hQ:∀ c a w,Q (.panic c) (a.put oi.dst v) w→Q (.panic c) a w) (hy:YieldsIf P ops S oi v a) (hS:S w)
  (H:Any P md ops Q S st f (ls.setIfInBounds i true) (a.put oi.dst v) w):Any P md ops Q S st (f+1) ls a w:=by
 refine Any.first hi hsel hQ hs ?_ f ls a w (Region.free_spec hi hf) (by simpa using hr) hy hS H
 obtain⟨e,he,hb⟩:=Array.any_eq_true'.1 hw
 simp only [Bool.and_eq_true,beq_iff_eq] at hb
 exact⟨e,he,hb.1,hb.2⟩
theorem Any.one {i:Nat} {oi:Oper} {f:Nat} {ls:Array Bool} {a:Act} {w:World} (hr:Region.ready md ops ls=[i]) (hi:ops[i]?=some oi)
  (h:∀ K:Act→World→Prop,(∀ b u,(i≠st→S u)→Any P md ops Q S st f (ls.setIfInBounds i true) b u→K b u)→if Region.wanted oi (yielded ops a.tmps)=true then Oper.wp P oi a w K Q else K (a.put oi.dst undef) w):Any P md ops Q S st (f+1) ls a w:=by
 refine⟨fun e=>absurd e (by rw [hr];simp),fun j hj=>?_⟩
 rw [hr,List.mem_singleton] at hj
 subst hj
 exact wpOp_step hi (fun K hK=>h K (fun b u q1 q2=>hK b u ⟨q1,q2⟩))
theorem Any.done {ls:Array Bool} {a:Act} {w:World} {f:Nat} (hr:Region.ready md ops ls=[]) (h:Q .normal a w):Any P md ops Q S st f ls a w:=by
 cases f with
 | zero=>exact⟨hr,h⟩
 | succ f=>exact⟨fun _=>h,fun j hj=>by rw [hr] at hj;cases hj⟩
theorem Any.begin {id:Nat} {a:Act} {w:World} (hm:P.follows .mixedOrders=true) (h:Any P .any ops Q S st ops.size (Array.replicate ops.size false) a w.drew):(Code.region id ops true).wp P Q a w :=
 wp_region_any hm h.plain
end
end
end
section
section
variable {P : Program} {ops : Array Oper} {Q : Exit → Act → World → Prop} {md : Region.Mode} {S : World → Prop} {st : Nat}
theorem tkH (i:Nat) {oi:Oper} (v:Value) {f:Nat} {ls:Array Bool} {a:Act} {w:World} (hi:ops[i]?=some oi) (hk:(Region.noSelect ops && (Region.free md ops ls i && (Region.ready md ops ls).contains i))=true)
  (hw:Region.wanted oi (yielded ops a.tmps)=true) (hy:∀ u,S u→(execOp a.eval oi).run P u=.ok (.value v) u) (hS:S w) (h:wpAnyH P md ops Q S f (ls.setIfInBounds i true) (a.put oi.dst v) w)
  (hQ:∀ c a w,Q (.panic c) (a.put oi.dst v) w→Q (.panic c) a w:=by exact fun _ _ _ h=>h):wpAnyH P md ops Q S (f+1) ls a w:=by
 simp only [Bool.and_eq_true] at hk
 exact wpAnyH_take hi hk.1 hk.2.1 hk.2.2 hQ (Or.inl ⟨hw,hy⟩) hS h
theorem skH (i:Nat) {oi:Oper} {f:Nat} {ls:Array Bool} {a:Act} {w:World} (hi:ops[i]?=some oi) (hk:(Region.noSelect ops && (Region.free md ops ls i && (Region.ready md ops ls).contains i))=true)
  (hw:Region.wanted oi (yielded ops a.tmps)=false) (hS:S w) (h:wpAnyH P md ops Q S f (ls.setIfInBounds i true) (a.put oi.dst undef) w)
  (hQ:∀ c a w,Q (.panic c) (a.put oi.dst undef) w→Q (.panic c) a w:=by exact fun _ _ _ h=>h):wpAnyH P md ops Q S (f+1) ls a w:=by
 simp only [Bool.and_eq_true] at hk
 exact wpAnyH_take hi hk.1 hk.2.1 hk.2.2 hQ (Or.inr ⟨hw,rfl⟩) hS h
theorem rq (i:Nat) {oi os:Oper} (v:Value) {f:Nat} {ls:Array Bool} {a:Act} {w:World} (hi:ops[i]?=some oi) (hk:(Region.noSelect ops && (Region.free md ops ls i && (Region.ready md ops ls).contains i))=true) (hs:ops[st]?=some os)
  (hn:(os.after.any fun e=>Region.binds md e && e.on==i)=true) (hw:Region.wanted oi (yielded ops a.tmps)=true) (hy:∀ u,S u→(execOp a.eval oi).run P u=.ok (.value v) u) (hS:S w) (h:Any P md ops Q S st f (ls.setIfInBounds i true) (a.put oi.dst v) w)
  (hQ:∀ c a w,Q (.panic c) (a.put oi.dst v) w→Q (.panic c) a w:=by exact fun _ _ _ h=>h):Any P md ops Q S st (f+1) ls a w:=by
 simp only [Bool.and_eq_true] at hk
 exact Any.take hi hk.1 hk.2.1 hk.2.2 hs hn hQ (Or.inl ⟨hw,hy⟩) hS h
end
theorem pS {α:Type}:(∀ (l:List α) (i:Nat) (a:α),l.toArray.setIfInBounds i a=(l.set i a).toArray)∧(∀ (x:α) (l:List α) (a:α),(x :: l).set 0 a=a :: l)∧(∀ (x:α) (l:List α) (n:Nat) (a:α),(x :: l).set (n+1) a=x :: l.set n a) ∧
  (∀ (l:List α) (i:Nat) (h:i<l.toArray.size),l.toArray[i]=l[i]'h)∧(∀ (x:α) (l:List α) (h:0<(x :: l).length),(x :: l)[0]=x)∧(∀ (x:α) (l:List α) (i:Nat) (h:i+1<(x :: l).length),(x :: l)[i+1]=l[i]'(Nat.lt_of_succ_lt_succ h)) :=
 ⟨fun l i a=>List.setIfInBounds_toArray l i a,fun _ _ _=>rfl,fun _ _ _ _=>rfl,fun _ _ _=>rfl,fun _ _ _=>rfl,fun _ _ _ _=>rfl⟩
theorem av {P:Program} {ops:Array Oper} {Q:Exit→Act→World→Prop} {md:Region.Mode} {S:World→Prop} (i:Nat) {oi:Oper} {v:Value} {b:Act} {f:Nat} {ls:Array Bool} {a:Act} {w:World} (hS:S w) (h:wpAnyH P md ops Q S f (ls.setIfInBounds i true) b w)
  (hi:ops[i]?=some oi:=by rfl) (hk:(Region.noSelect ops && (Region.free md ops ls i && (Region.ready md ops ls).contains i))=true:=by kernel_rfl)
  (hw:Region.wanted oi (yielded ops a.tmps)=true:=by rfl) (hy:∀ u,S u→(execOp a.eval oi).run P u=.ok (.value v) u:=by intro u hu;go_simp;try rfl)
  (hb:a.put oi.dst v=b:=by simp only [Act.put,pS] <;> rfl) (hQ:∀ c a w,Q (.panic c) (a.put oi.dst v) w→Q (.panic c) a w:=by exact fun _ _ _ h=>h):wpAnyH P md ops Q S (f+1) ls a w:=by
 simp only [Bool.and_eq_true] at hk
 subst hb
 exact wpAnyH_take hi hk.1 hk.2.1 hk.2.2 hQ (Or.inl ⟨hw,hy⟩) hS h
theorem eG {P:Program} {ops:Array Oper} {Q:Exit→Act→World→Prop} {md:Region.Mode} {S:World→Prop} (i:Nat) {oi:Oper} {b:Act} {f:Nat} {ls:Array Bool} {a:Act} {w:World} (hS:S w) (h:wpAnyH P md ops Q S f (ls.setIfInBounds i true) b w)
  (hi:ops[i]?=some oi:=by rfl) (hk:(Region.noSelect ops && (Region.free md ops ls i && (Region.ready md ops ls).contains i))=true:=by kernel_rfl)
  (hw:Region.wanted oi (yielded ops a.tmps)=false:=by rfl) (hb:a.put oi.dst undef=b:=by simp only [Act.put,pS] <;> rfl) (hQ:∀ c a w,Q (.panic c) (a.put oi.dst undef) w→Q (.panic c) a w:=by exact fun _ _ _ h=>h):wpAnyH P md ops Q S (f+1) ls a w:=by
 simp only [Bool.and_eq_true] at hk
 subst hb
 exact wpAnyH_take hi hk.1 hk.2.1 hk.2.2 hQ (Or.inr ⟨hw,rfl⟩) hS h
theorem nm {α:Sort _} (x:α):∃ u,x=u:=⟨x,rfl⟩
theorem fw {P:Program} {md:Region.Mode} {ops:Array Oper} {Q:Exit→Act→World→Prop} {S:World→Prop} (i:Nat) {oi:Oper} {f:Nat} {ls:Array Bool} {a:Act} {w:World}
  (h:∀ K:Act→World→Prop,(∀ b u,S u→wpAnyH P md ops Q S f (ls.setIfInBounds i true) b u→K b u)→if Region.wanted oi (yielded ops a.tmps)=true then Oper.wp P oi a w K Q else K (a.put oi.dst undef) w)
  (hr:Region.ready md ops ls=[i]:=by kernel_rfl) (hi:ops[i]?=some oi:=by rfl):wpAnyH P md ops Q S (f+1) ls a w:=by
 refine⟨fun e=>absurd e (by rw [hr];simp),fun j hj=>?_⟩
 rw [hr,List.mem_singleton] at hj
 subst hj
 exact wpOp_step hi (fun K hK=>h K (fun b u q1 q2=>hK b u ⟨q1,q2⟩))
end
section
section
open Go.Sort
namespace Sr
section
variable {α : Type} {lt : α → α → Bool}
structure WO (lt:α→α→Bool):Prop where
 irr:∀ a,lt a a=false
 tr:∀ a b c,lt a b=true→lt b c=true→lt a c=true
 ng:∀ a b c,lt a c=true→lt a b=true∨lt b c=true
theorem WO.asym (h:WO lt) {a b:α} (q:lt a b=true):lt b a=false:=by
 cases e:lt b a with
 | false=>rfl
 | true=>have:=h.tr a b a q e;rw [h.irr] at this;cases this
theorem WO.Bd (h:WO lt) {a b c:α} (q:lt a b=true) (r:lt c b=false):lt a c=true:=by
 rcases h.ng a c b q with z | z
 ·exact z
 ·rw [z] at r;cases r
theorem WO.Fu (h:WO lt) {a b c:α} (q:lt b a=false) (r:lt b c=true):lt a c=true:=by
 rcases h.ng b a c r with z | z
 ·rw [z] at q;cases q
 ·exact z
theorem WO.Fs (h:WO lt) {a b c:α} (q:lt b a=false) (r:lt c b=false):lt c a=false:=by
 cases e:lt c a with
 | false=>rfl
 | true =>
  rcases h.ng c b a e with z | z
  ·rw [z] at r;cases r
  ·rw [z] at q;cases q
def iq (lt:α→α→Bool) (a b:α):Bool:=!lt a b && !lt b a
def gu (lt:α→α→Bool) (l:List α):Prop:=l.Pairwise fun a b=>lt b a=false
def gM (lt:α→α→Bool) (l r:List α):Prop:=∀ k,r.filter (iq lt k)=l.filter (iq lt k)
theorem kE (h:WO lt) (a:α):iq lt a a=true:=by simp [iq,h.irr]
theorem gM.refl (l:List α):gM lt l l:=fun _=>rfl
theorem gM.trans {a b c:List α} (h:gM lt a b) (k:gM lt b c):gM lt a c:=fun x=>(k x).trans (h x)
theorem gM.app {a b c d:List α} (h:gM lt a b) (k:gM lt c d):gM lt (a++c) (b++d):=fun x=>by rw [List.filter_append,List.filter_append,h x,k x]
theorem gM.mem (h:WO lt) {l r:List α} (s:gM lt l r) {x:α} (hx:x∈r):x∈l:=by
 have:x∈r.filter (iq lt x):=List.mem_filter.2 ⟨hx,kE h x⟩
 rw [s x] at this
 exact (List.mem_filter.1 this).1
theorem gM.comm (h:WO lt) {U V:List α} (c:∀ u∈U,∀ v∈V,lt v u=true):gM lt (U++V) (V++U):=fun k=>by
 rw [List.filter_append,List.filter_append]
 by_cases e:∃ u∈U,iq lt k u=true
 ·obtain⟨u,hu,he⟩:=e
  have z:V.filter (iq lt k)=[]:=by
   rw [List.filter_eq_nil_iff]
   intro v hv
   have q:=c u hu v hv
   simp only [iq,Bool.and_eq_true,Bool.not_eq_true'] at he
   have:=h.Bd q he.1
   simp [iq,this]
  rw [z];simp
 ·have z:U.filter (iq lt k)=[]:=by
   rw [List.filter_eq_nil_iff]
   intro u hu q
   exact e ⟨u,hu,q⟩
  rw [z];simp
theorem gu.nil:gu lt ([]:List α):=List.Pairwise.nil
theorem gu.one (x:α):gu lt [x]:=List.pairwise_singleton _ _
theorem gu.app {l r:List α} (h:gu lt l) (k:gu lt r) (c:∀ x∈l,∀ y∈r,lt y x=false):gu lt (l++r):=List.pairwise_append.2 ⟨h,k,c⟩
theorem gu.parts {l r:List α} (h:gu lt (l++r)):gu lt l∧gu lt r∧∀ x∈l,∀ y∈r,lt y x=false:=List.pairwise_append.1 h
def Ins (lt:α→α→Bool) (A S C:List α) (m:List α) (j:Nat):Prop :=
 ∃ (L:List α) (x:α) (G:List α),m=A++(L++x :: (G++C))∧A.length+L.length=j∧L.length+G.length+1=S.length∧gu lt (L++G)∧(∀ g∈G,lt x g=true)∧gM lt S (L++x :: G)
theorem Ins.start {A T C m:List α} {x:α} {W:List α} (h:m=A++(W++x :: C)) (hl:W.length=T.length) (hs:gu lt W) (hb:gM lt T W):Ins lt A (T++[x]) C m (A.length+W.length) :=
 ⟨W,x,[],by simpa using h,rfl,by simp [hl],by simpa using hs,by simp,by simpa using hb.app (gM.refl [x])⟩
section
variable [Inhabited α]
theorem mM {d:Array α} {A B:List α} {x:α} {i:Nat} (h:d.toList=A++x :: B) (hi:i=A.length):d[i]! = x∧i<d.size:=by
 have hl:i<d.size:=by
  have:=congrArg List.length h
  rw [Array.length_toList,List.length_append,List.length_cons] at this
  omega
 refine⟨?_,hl⟩
 rw [getElem!_pos d i hl]
 have:d.toList[i]?=some x:=by rw [h,hi];simp
 rw [Array.getElem?_toList,Array.getElem?_eq_getElem hl] at this
 exact Option.some.inj this
theorem wG (d:Array α) (i j:Nat):(swp d i j).toList=(d.toList.set i d[j]!).set j d[i]!:=by simp [swp]
theorem rf {d:Array α} {A B C:List α} {x y:α} {i j:Nat} (h:d.toList=A++x :: (B++y :: C)) (hi:i=A.length) (hj:j=A.length+1+B.length) :
  (swp d i j).toList=A++y :: (B++x :: C)∧(swp d j i).toList=A++y :: (B++x :: C):=by
 have h2:d.toList=(A++x :: B)++y :: C:=by rw [h];simp
 obtain⟨e1,_⟩:=mM h hi
 obtain⟨e2,_⟩:=mM (i:=j) h2 (by rw [hj];simp;omega)
 subst hi;subst hj
 constructor
 ·rw [wG,e1,e2,h]
  rw [List.set_append_right _ _ (Nat.le_refl _),Nat.sub_self,List.set_cons_zero,List.set_append_right _ _ (by omega)]
  rw [show A.length+1+B.length - A.length=B.length+1 by omega,List.set_cons_succ,List.set_append_right _ _ (Nat.le_refl _),Nat.sub_self,List.set_cons_zero]
 ·rw [wG,e1,e2,h]
  rw [List.set_append_right _ _ (by omega),show A.length+1+B.length - A.length=B.length+1 by omega,List.set_cons_succ,List.set_append_right _ _ (Nat.le_refl _),Nat.sub_self,List.set_cons_zero,
   List.set_append_right _ _ (Nat.le_refl _),Nat.sub_self,List.set_cons_zero]
theorem Ins.step (ho:WO lt) {A S C:List α} {d:Array α} {j:Nat} (h:Ins lt A S C d.toList (j+1)) (hj:A.length<j+1) (hlt:lt d[j+1]! d[j]! = true):Ins lt A S C (swp d (j+1) j).toList j:=by
 obtain⟨L,x,G,e,hjl,hl,hs,hg,hb⟩:=h
 have hn:L≠[]:=by rintro rfl;simp at hjl;omega
 obtain⟨L',y,rfl⟩:∃ L' y,L=L'++[y]:=⟨L.dropLast,L.getLast hn,(List.dropLast_concat_getLast hn).symm⟩
 rw [List.length_append,List.length_singleton] at hjl hl
 have e':d.toList=(A++L')++y :: ([]++x :: (G++C)):=by rw [e];simp
 have ex:=(mM (A:=A++L'++[y]) (x:=x) (B:=G++C) (i:=j+1) (by rw [e];simp) (by simp;omega)).1
 have ey:=(mM (i:=j) e' (by simp;omega)).1
 rw [ex,ey] at hlt
 refine⟨L',x,y :: G,?_,by omega,by simp;omega,by simpa using hs,?_,?_⟩
 ·rw [(rf (i:=j) (j:=j+1) e' (by simp;omega) (by simp;omega)).2];simp
 ·intro g hg'
  rcases List.mem_cons.1 hg' with rfl | q
  ·exact hlt
  ·exact hg g q
 ·refine hb.trans ?_
  have c:gM lt ([y]++[x]) ([x]++[y]):=gM.comm ho (by intro u hu v hv;simp at hu hv;subst hu;subst hv;exact hlt)
  have:=((gM.refl (lt:=lt) L').app c).app (gM.refl (lt:=lt) G)
  simpa using this
theorem Ins.stop (ho:WO lt) {A S C:List α} {d:Array α} {j:Nat} (h:Ins lt A S C d.toList j) (hlt:j≤A.length∨lt d[j]! d[j - 1]! = false):∃ W,d.toList=A++(W++C)∧W.length=S.length∧gu lt W∧gM lt S W:=by
 obtain⟨L,x,G,e,hjl,hl,hs,hg,hb⟩:=h
 refine⟨L++x :: G,by rw [e];simp,by simp;omega,?_,hb⟩
 obtain⟨h1,h2,h3⟩:=hs.parts
 have hx:∀ y∈L,lt x y=false:=by
  rcases hlt with q | q
  ·have:L=[]:=List.length_eq_zero_iff.1 (by omega)
   subst this;simp
  ·by_cases hn:L=[]
   ·subst hn;simp
   ·obtain⟨L',y,rfl⟩:∃ L' y,L=L'++[y]:=⟨L.dropLast,L.getLast hn,(List.dropLast_concat_getLast hn).symm⟩
    rw [List.length_append,List.length_singleton] at hjl
    have ex:=(mM (A:=A++L'++[y]) (x:=x) (B:=G++C) (i:=j) (by rw [e];simp) (by simp;omega)).1
    have ey:=(mM (A:=A++L') (x:=y) (B:=x :: (G++C)) (i:=j - 1) (by rw [e];simp) (by simp;omega)).1
    rw [ex,ey] at q
    intro z hz
    rcases List.mem_append.1 hz with hz | hz
    ·exact ho.Fs ((gu.parts h1).2.2 z hz y (by simp)) q
    ·simp at hz;subst hz;exact q
 refine gu.app h1 (List.pairwise_cons.2 ⟨fun g hg'=>ho.asym (hg g hg'),h2⟩) ?_
 intro a ha b hb'
 rcases List.mem_cons.1 hb' with rfl | q
 ·exact hx a ha
 ·exact h3 a ha b q
end
theorem xL (ho:WO lt) {U1 U2 V1 V2 W1 W2:List α} (hu:gu lt (U1++U2)) (hv:gu lt (V1++V2)) (h12:∀ x∈U1,∀ y∈V2,lt y x=false) (h21:∀ x∈U2,∀ y∈V1,lt y x=true)
  (s1:gu lt W1) (b1:gM lt (U1++V1) W1) (s2:gu lt W2) (b2:gM lt (U2++V2) W2):gu lt (W1++W2)∧gM lt ((U1++U2)++(V1++V2)) (W1++W2):=by
 constructor
 ·refine s1.app s2 fun x hx y hy=>?_
  rcases List.mem_append.1 (b1.mem ho hx) with p | p <;> rcases List.mem_append.1 (b2.mem ho hy) with q | q
  ·exact hu.parts.2.2 x p y q
  ·exact h12 x p y q
  ·exact ho.asym (h21 y q x p)
  ·exact hv.parts.2.2 x p y q
 ·refine gM.trans ?_ (b1.app b2)
  have c:gM lt (U2++V1) (V1++U2):=gM.comm ho h21
  have:=((gM.refl (lt:=lt) U1).app c).app (gM.refl (lt:=lt) V2)
  simpa using this
theorem Jb (ho:WO lt) {L:List α} {x y:α} {R:List α} (h:gu lt (L++x :: R)) (q:lt y x=false):∀ z∈L++[x],lt y z=false:=fun z hz=>by
 rcases List.mem_append.1 hz with p | p
 ·exact ho.Fs (h.parts.2.2 z p x (by simp)) q
 ·simp at p;subst p;exact q
theorem all_ge (ho:WO lt) {L:List α} {x y:α} {R:List α} (h:gu lt (L++x :: R)) (q:lt x y=false):∀ z∈x :: R,lt z y=false:=fun z hz=>by
 rcases List.mem_cons.1 hz with rfl | p
 ·exact q
 ·exact ho.Fs q ((List.pairwise_cons.1 h.parts.2.1).1 z p)
theorem Jc (ho:WO lt) {L:List α} {x y:α} {R:List α} (h:gu lt (L++x :: R)) (q:lt x y=true):∀ z∈L++[x],lt z y=true:=fun z hz=>by
 rcases List.mem_append.1 hz with p | p
 ·exact ho.Fu (h.parts.2.2 z p x (by simp)) q
 ·simp at p;subst p;exact q
theorem all_gt (ho:WO lt) {L:List α} {x y:α} {R:List α} (h:gu lt (L++x :: R)) (q:lt y x=true):∀ z∈x :: R,lt y z=true:=fun z hz=>by
 rcases List.mem_cons.1 hz with rfl | p
 ·exact q
 ·exact ho.Bd q ((List.pairwise_cons.1 h.parts.2.1).1 z p)
theorem lq {L:List α} {n:Nat} (h:n<L.length):∃ x,L=L.take n++x :: L.drop (n+1)∧L[n]?=some x∧L.drop n=x :: L.drop (n+1)∧L.take (n+1)=L.take n++[x] :=
 ⟨L[n],by rw [← List.drop_eq_getElem_cons h,List.take_append_drop],List.getElem?_eq_getElem h,List.drop_eq_getElem_cons h,by rw [List.take_add_one,List.getElem?_eq_getElem h];rfl⟩
section
variable [Inhabited α]
theorem ol {d:Array α} {P L Q:List α} (hd:d.toList=P++(L++Q)) {n:Nat} {x:α} (h:L[n]?=some x) {i:Nat} (hi:i=P.length+n):d[i]! = x:=by
 have hl:n<L.length:=by
  rcases Nat.lt_or_ge n L.length with q | q
  ·exact q
  ·rw [List.getElem?_eq_none q] at h;cases h
 have:d.toList[i]?=some x:=by rw [hd,hi,List.getElem?_append_right (by omega),Nat.add_sub_cancel_left,List.getElem?_append_left hl,h]
 have hs:i<d.size:=by
  rcases Nat.lt_or_ge i d.size with q | q
  ·exact q
  ·rw [List.getElem?_eq_none (by rw [Array.length_toList];exact q)] at this;cases this
 rw [getElem!_pos d i hs]
 rw [Array.getElem?_toList,Array.getElem?_eq_getElem hs] at this
 exact Option.some.inj this
theorem Mc (ho:WO lt) {d:Array α} {A U V C:List α} (hd:d.toList=A++(U++(V++C))) (su:gu lt U) (sv:gu lt V) {s e:Nat} (h1:A.length≤s) (h2:s≤A.length+U.length) (h3:A.length+U.length≤e) (h4:e≤A.length+U.length+V.length)
  (c1:A.length<s→e<A.length+U.length+V.length→lt d[e]! d[s - 1]! = false) (c2:s<A.length+U.length→A.length+U.length<e→lt d[e - 1]! d[s]! = true) :
  ∃ U1 U2 V1 V2,U=U1++U2∧V=V1++V2∧A.length+U1.length=s∧A.length+U.length+V1.length=e∧(∀ x∈U1,∀ y∈V2,lt y x=false)∧(∀ x∈U2,∀ y∈V1,lt y x=true):=by
 have hd2:d.toList=(A++U)++(V++C):=by rw [hd];simp
 refine⟨U.take (s - A.length),U.drop (s - A.length),V.take (e - (A.length+U.length)),V.drop (e - (A.length+U.length)),(List.take_append_drop _ _).symm,(List.take_append_drop _ _).symm,by rw [List.length_take];omega,by rw [List.length_take];omega,?_,?_⟩
 ·intro x hx y hy
  have n1:0<s - A.length:=by
   rcases Nat.eq_zero_or_pos (s - A.length) with q | q
   ·rw [q] at hx;simp at hx
   ·exact q
  have n2:e - (A.length+U.length)<V.length:=by
   rcases Nat.lt_or_ge (e - (A.length+U.length)) V.length with q | q
   ·exact q
   ·rw [List.drop_of_length_le q] at hy;cases hy
  obtain⟨a,ha,ha2,_,ha4⟩:=lq (L:=U) (n:=s - A.length - 1) (by omega)
  obtain⟨b,hb,hb2,hb3,_⟩:=lq (L:=V) (n:=e - (A.length+U.length)) n2
  rw [show s - A.length - 1+1=s - A.length by omega] at ha4
  have c:=c1 (by omega) (by omega)
  rw [ol hd2 hb2 (i:=e) (by rw [List.length_append];omega),ol hd ha2 (i:=s - 1) (by omega)] at c
  rw [ha4] at hx
  rw [hb3] at hy
  rw [ha] at su
  rw [hb] at sv
  refine ho.Fs (Jb ho su c x hx) ?_
  rcases List.mem_cons.1 hy with rfl | q
  ·exact ho.irr _
  ·exact (List.pairwise_cons.1 sv.parts.2.1).1 y q
 ·intro x hx y hy
  have n1:s - A.length<U.length:=by
   rcases Nat.lt_or_ge (s - A.length) U.length with q | q
   ·exact q
   ·rw [List.drop_of_length_le q] at hx;cases hx
  have n2:0<e - (A.length+U.length):=by
   rcases Nat.eq_zero_or_pos (e - (A.length+U.length)) with q | q
   ·rw [q] at hy;simp at hy
   ·exact q
  obtain⟨a,ha,ha2,ha3,_⟩:=lq (L:=U) (n:=s - A.length) n1
  obtain⟨b,hb,hb2,_,hb4⟩:=lq (L:=V) (n:=e - (A.length+U.length) - 1) (by omega)
  rw [show e - (A.length+U.length) - 1+1=e - (A.length+U.length) by omega] at hb4
  have c:=c2 (by omega) (by omega)
  rw [ol hd2 hb2 (i:=e - 1) (by rw [List.length_append];omega),ol hd ha2 (i:=s) (by omega)] at c
  rw [hb4] at hy
  rw [ha3] at hx
  rw [ha] at su
  rw [hb] at sv
  refine ho.Bd (Jc ho sv c y hy) ?_
  rcases List.mem_cons.1 hx with rfl | q
  ·exact ho.irr _
  ·exact (List.pairwise_cons.1 su.parts.2.1).1 x q
end
inductive wK (lt:α→α→Bool) (n:Nat):List α→Prop
 | nil:wK lt n []
 | last {q:List α}:q.length≤n→gu lt q→wK lt n q
 | cons {q r:List α}:q.length=n→gu lt q→wK lt n r→wK lt n (q++r)
theorem wK.all {n:Nat} {l:List α} (h:wK lt n l) (hl:l.length≤n):gu lt l:=by
 induction h with
 | nil=>exact gu.nil
 | last _ s=>exact s
 | @cons q r e s _ _ =>
  have:r=[]:=List.length_eq_zero_iff.1 (by rw [List.length_append] at hl;omega)
  subst this
  simpa using s
theorem wK.first {n:Nat} {l:List α} (h:wK lt n l) (hl:n<l.length):∃ q r,l=q++r∧q.length=n∧gu lt q∧wK lt n r:=by
 cases h with
 | nil=>simp at hl
 | last e _=>omega
 | cons e s b=>exact⟨_,_,rfl,e,s,b⟩
theorem wK.first' {n:Nat} (hn:0<n) {l:List α} (h:wK lt n l) (hl:n≤l.length):∃ q r,l=q++r∧q.length=n∧gu lt q∧wK lt n r:=by
 cases h with
 | nil=>simp at hl;omega
 | last e s=>exact⟨l,[],by simp,by omega,s,wK.nil⟩
 | cons e s b=>exact⟨_,_,rfl,e,s,b⟩
def Pre (lt:α→α→Bool) (n:Nat) (D:List α):Prop:=∀ R,wK lt n R→wK lt n (D++R)
theorem Pre.nil {n:Nat}:Pre lt n ([]:List α):=fun _ h=>h
theorem Pre.snoc {n:Nat} {D W:List α} (h:Pre lt n D) (hl:W.length=n) (hs:gu lt W):Pre lt n (D++W):=fun R hR=>by
 rw [List.append_assoc];exact h _ (wK.cons hl hs hR)
def pk (eq:α→α→Bool):α→List α→List α
 | _,[]=>[]
 | p,y :: l=>if eq y p=true then pk eq y l else y :: pk eq y l
def compact (eq:α→α→Bool):List α→List α
 | []=>[]
 | x :: l=>x :: pk eq x l
def ins (lt:α→α→Bool) (x:α):List α→List α
 | []=>[x]
 | y :: l=>if lt y x=true then y :: ins lt x l else if lt x y=true then x :: y :: l else y :: l
def canon (lt:α→α→Bool) (l:List α):List α:=l.foldl (fun o x=>ins lt x o) []
def Str (lt:α→α→Bool) (l:List α):Prop:=l.Pairwise fun a b=>lt a b=true
def first (lt:α→α→Bool) (l:List α) (k:α):Option α:=(l.filter (iq lt k)).head?
theorem gM.first {l r:List α} (h:gM lt l r) (k:α):first lt r k=first lt l k:=by unfold Sr.first;rw [h k]
theorem uL (a b:α):iq lt a b=iq lt b a:=by unfold iq;rw [Bool.and_comm]
theorem rX (h:WO lt) {a b c:α} (q:iq lt a b=true):iq lt a c=iq lt b c:=by
 simp only [iq,Bool.and_eq_true,Bool.not_eq_true'] at q
 have e1:lt a c=lt b c:=by
  cases z:lt a c with
  | true=>exact (h.Fu q.1 z).symm
  | false =>
   cases y:lt b c with
   | false=>rfl
   | true=>have:=h.Fu q.2 y;rw [this] at z;cases z
 have e2:lt c a=lt c b:=by
  cases z:lt c a with
  | true=>exact (h.Bd z q.2).symm
  | false =>
   cases y:lt c b with
   | false=>rfl
   | true=>have:=h.Bd y q.1;rw [this] at z;cases z
 simp [iq,e1,e2]
theorem bP (x:α) (l:List α) (k:α):first lt (x :: l) k=if iq lt k x=true then some x else first lt l k:=by
 unfold first
 rw [List.filter_cons]
 split <;> rfl
theorem ww (h:WO lt) {x:α} {l:List α} (hs:Str lt (x :: l)) {k:α} (hk:iq lt k x=true):first lt l k=none:=by
 unfold first
 rw [show l.filter (iq lt k)=[] from ?_]
 ·rfl
 ·rw [List.filter_eq_nil_iff]
  intro y hy q
  have:=(List.pairwise_cons.1 hs).1 y hy
  rw [rX h hk] at q
  simp [iq,this] at q
theorem qY (h:WO lt):∀ {l r:List α},Str lt l→Str lt r→(∀ k,first lt l k=first lt r k)→l=r
 | [],[],_,_,_=>rfl
 | [],y :: r,_,_,e=>by
  have:=e y
  rw [bP,if_pos (kE h y)] at this
  cases this
 | x :: l,[],_,_,e=>by
  have:=e x
  rw [bP,if_pos (kE h x)] at this
  cases this
 | x :: l,y :: r,hl,hr,e=>by
  have hxy:x=y:=by
   have e1:=e x
   have e2:=e y
   rw [bP,if_pos (kE h x),bP] at e1
   rw [bP,bP,if_pos (kE h y)] at e2
   by_cases q:iq lt x y=true
   ·rw [if_pos q] at e1
    exact Option.some.inj e1
   ·rw [if_neg q] at e1
    rw [uL] at q
    rw [if_neg q] at e2
    have m1:x∈r:=(List.mem_filter.1 (List.mem_of_mem_head? (Option.mem_def.2 e1.symm))).1
    have m2:y∈l:=(List.mem_filter.1 (List.mem_of_mem_head? (Option.mem_def.2 e2))).1
    have a:=(List.pairwise_cons.1 hr).1 x m1
    have b:=(List.pairwise_cons.1 hl).1 y m2
    have:=h.asym a
    rw [b] at this
    cases this
  subst hxy
  have:l=r:=qY h (List.pairwise_cons.1 hl).2 (List.pairwise_cons.1 hr).2 fun k=>by
   have ek:=e k
   rw [bP,bP] at ek
   by_cases q:iq lt k x=true
   ·rw [ww h hl q,ww h hr q]
   ·rwa [if_neg q,if_neg q] at ek
  rw [this]
theorem kU {x z:α}:∀ {l:List α},z∈ins lt x l→z=x∨z∈l
 | [],h=>by simp [ins] at h;exact .inl h
 | y :: l,h=>by
  unfold ins at h
  split at h
  ·rcases List.mem_cons.1 h with rfl | q
   ·exact .inr (by simp)
   ·rcases kU q with r | r
    ·exact .inl r
    ·exact .inr (by simp [r])
  ·split at h
   ·simp at h ⊢;rcases h with r | r | r <;> simp [r]
   ·exact .inr h
theorem qX (h:WO lt) {x:α}:∀ {l:List α},Str lt l→Str lt (ins lt x l)
 | [],_=>List.pairwise_singleton _ _
 | y :: l,hs=>by
  unfold ins
  obtain⟨h1,h2⟩:=List.pairwise_cons.1 hs
  split
  ·rename_i q
   refine List.pairwise_cons.2 ⟨fun z hz=>?_,qX h h2⟩
   rcases kU hz with rfl | r
   ·exact q
   ·exact h1 z r
  ·split
   ·rename_i q
    refine List.pairwise_cons.2 ⟨fun z hz=>?_,hs⟩
    rcases List.mem_cons.1 hz with rfl | r
    ·exact q
    ·exact h.tr _ _ _ q (h1 z r)
   ·exact hs
theorem xD (h:WO lt) {x:α} (k:α):∀ {l:List α},Str lt l→first lt (ins lt x l) k=if (first lt l k).isSome=true then first lt l k else if iq lt k x=true then some x else none
 | [],_=>by
  unfold ins
  rw [bP]
  simp [first]
 | y :: l,hs=>by
  obtain⟨h1,h2⟩:=List.pairwise_cons.1 hs
  unfold ins
  split
  ·rename_i q
   rw [bP,bP,xD h k h2]
   by_cases e:iq lt k y=true
   ·simp [e]
   ·simp [e]
  ·rename_i q0
   split
   ·rename_i q
    rw [bP]
    by_cases e:iq lt k x=true
    ·have:first lt (y :: l) k=none:=by
      refine ww h (x:=x) (List.pairwise_cons.2 ⟨fun z hz=>?_,hs⟩) e
      rcases List.mem_cons.1 hz with rfl | r
      ·exact q
      ·exact h.tr _ _ _ q (h1 z r)
     rw [if_pos e,this]
     simp [e]
    ·rw [if_neg e]
     cases z:first lt (y :: l) k with
     | none=>simp [e]
     | some v=>simp
   ·rename_i q
    have exy:iq lt x y=true:=by simp [iq,q0,q]
    by_cases e:iq lt k x=true
    ·have ek:iq lt k y=true:=(rX h e).trans exy
     rw [bP,if_pos ek]
     simp
    ·cases z:first lt (y :: l) k with
     | none=>simp [e]
     | some v=>simp
theorem uA (h:WO lt):∀ (l o:List α),Str lt o→Str lt (l.foldl (fun o x=>ins lt x o) o)∧∀ k,first lt (l.foldl (fun o x=>ins lt x o) o) k=if (first lt o k).isSome=true then first lt o k else first lt l k
 | [],o,ho=>⟨ho,fun k=>by
  cases z:first lt o k with
  | none=>simpa [first] using z
  | some v=>simpa using z⟩
 | x :: l,o,ho=>by
  obtain⟨h1,h2⟩:=uA h l (ins lt x o) (qX h ho)
  refine⟨h1,fun k=>?_⟩
  rw [List.foldl_cons,h2 k,xD h k ho,bP]
  cases z:first lt o k with
  | some v=>simp
  | none=>by_cases e:iq lt k x=true <;> simp [e]
theorem gF (h:WO lt) (l:List α):Str lt (canon lt l)∧∀ k,first lt (canon lt l) k=first lt l k:=by
 obtain⟨h1,h2⟩:=uA h l [] List.Pairwise.nil
 exact⟨h1,fun k=>by rw [canon,h2 k];simp [first]⟩
theorem y_ (h:WO lt):∀ (l:List α) (p:α),gu lt (p :: l)→Str lt (p :: pk (iq lt) p l)∧∀ k,first lt (p :: pk (iq lt) p l) k=first lt (p :: l) k
 | [],p,_=>⟨List.pairwise_singleton _ _,fun _=>rfl⟩
 | y :: l,p,hs=>by
  obtain⟨h1,h2⟩:=List.pairwise_cons.1 hs
  obtain⟨i1,i2⟩:=y_ h l y h2
  unfold pk
  have hyp:=h1 y (by simp)
  by_cases e:iq lt y p=true
  ·rw [if_pos e]
   obtain⟨j1,j2⟩:=List.pairwise_cons.1 i1
   have e':=e
   simp only [iq,Bool.and_eq_true,Bool.not_eq_true'] at e'
   refine⟨List.pairwise_cons.2 ⟨fun z hz=>h.Fu e'.1 (j1 z hz),j2⟩,fun k=>?_⟩
   have ik:=i2 k
   rw [bP,bP] at ik ⊢
   rw [bP]
   have ek:iq lt k y=iq lt k p:=by rw [uL,rX h e,uL]
   rw [ek] at ik ⊢
   by_cases q:iq lt k p=true
   ·rw [if_pos q,if_pos q]
   ·rw [if_neg q] at ik ⊢
    rw [if_neg q] at ik
    rw [if_neg q,if_neg q]
    exact ik
  ·rw [if_neg e]
   have hl:lt p y=true:=by
    simp only [iq,hyp,Bool.not_false,Bool.true_and,Bool.not_eq_true'] at e
    simpa using e
   refine⟨List.pairwise_cons.2 ⟨fun z hz=>?_,i1⟩,fun k=>?_⟩
   ·rcases List.mem_cons.1 hz with rfl | r
    ·exact hl
    ·exact h.tr _ _ _ hl ((List.pairwise_cons.1 i1).1 z r)
   ·rw [bP,bP (l:=y :: l),i2 k]
theorem lh (h:WO lt) {l r:List α} (hs:gu lt r) (hb:gM lt l r):compact (iq lt) r=canon lt l:=by
 obtain⟨c1,c2⟩:=gF h l
 refine qY h ?_ c1 fun k=>?_
 ·cases r with
  | nil=>exact List.Pairwise.nil
  | cons x r=>exact (y_ h r x hs).1
 ·rw [c2 k,← hb.first k]
  cases r with
  | nil=>rfl
  | cons x r=>exact (y_ h r x hs).2 k
theorem nW (h:WO lt) {l:List α} (hs:Str lt l):canon lt l=l:=by
 obtain⟨c1,c2⟩:=gF h l
 exact qY h c1 hs c2
theorem gT {x:α} {l:List α}:x∈canon lt l→x∈l:=by
 have:∀ (l o:List α),x∈l.foldl (fun o x=>ins lt x o) o→x∈o∨x∈l:=by
  intro l
  induction l with
  | nil=>intro o h;exact .inl h
  | cons y l ih =>
   intro o h
   rcases ih _ h with q | q
   ·rcases kU q with r | r
    ·exact .inr (by simp [r])
    ·exact .inl r
   ·exact .inr (by simp [q])
 intro h
 rcases this l [] h with q | q
 ·cases q
 ·exact q
theorem gD (l:List α) (x:α):canon lt (l++[x])=ins lt x (canon lt l):=by simp [canon]
theorem nZ (x:α):∀ (l:List α),(ins lt x l).length≤l.length+1
 | []=>by simp [ins]
 | y :: l=>by
  unfold ins
  have:=nZ x l
  split
  ·simp;omega
  ·split <;> simp
theorem dD (l:List α):(canon lt l).length≤l.length:=by
 have:∀ (l o:List α),(l.foldl (fun o x=>ins lt x o) o).length≤o.length+l.length:=by
  intro l
  induction l with
  | nil=>intro o;simp
  | cons y l ih =>
   intro o
   rw [List.foldl_cons]
   have:=ih (ins lt y o)
   have:=nZ (lt:=lt) y o
   simp;omega
 simpa [canon] using this l []
theorem xx {β:Type} {lt':β→β→Bool} {f:α→β} (hf:∀ a b,lt' (f a) (f b)=lt a b) (l:List α):canon lt' (l.map f)=(canon lt l).map f:=by
 have hi:∀ (x:α) (o:List α),ins lt' (f x) (o.map f)=(ins lt x o).map f:=by
  intro x o
  induction o with
  | nil=>rfl
  | cons y o ih =>
   simp only [List.map_cons,ins,hf]
   split
   ·simp [ih]
   ·split <;> simp
 have:∀ (l o:List α),(l.map f).foldl (fun o x=>ins lt' x o) (o.map f)=(l.foldl (fun o x=>ins lt x o) o).map f:=by
  intro l
  induction l with
  | nil=>intro o;rfl
  | cons y l ih =>
   intro o
   rw [List.map_cons,List.foldl_cons,List.foldl_cons,hi,ih]
 exact this l []
end
end Sr
end
section
namespace Sr
variable {α : Type} {lt : α → α → Bool}
theorem gV {x:α}:∀ {l:List α} {i:Nat},(∀ y∈l.take i,lt y x=true)→(∀ y,l[i]?=some y→lt y x=false∧lt x y=true)→ins lt x l=l.take i++x :: l.drop i
 | [],i,_,_=>by simp [ins]
 | y :: l,0,_,h=>by
  obtain⟨a,b⟩:=h y rfl
  simp [ins,a,b]
 | y :: l,i+1,h,k=>by
  have a:=h y (by simp)
  have q:=gV (x:=x) (l:=l) (i:=i) (fun z hz=>h z (by simp [hz])) (fun z hz=>k z hz)
  simp [ins,a,q]
theorem tT {x y:α}:∀ {l:List α} {i:Nat},(∀ y∈l.take i,lt y x=true)→l[i]?=some y→lt y x=false→lt x y=false→ins lt x l=l
 | [],i,_,h,_,_=>by simp at h
 | z :: l,0,_,h,a,b=>by
  simp at h
  subst h
  simp [ins,a,b]
 | z :: l,i+1,h,k,a,b=>by
  have c:=h z (by simp)
  have q:=tT (x:=x) (y:=y) (l:=l) (i:=i) (fun z hz=>h z (by simp [hz])) k a b
  simp [ins,c,q]
end Sr
end
end
section
section
theorem oq {a b:Int} (h:a=b):Ending.returned (.int .u64 a)=.returned (.int .u64 b):=by rw [h]
theorem aZ {a b:Int} (h:a=b):Ending.returned (.int .i64 a)=.returned (.int .i64 b):=by rw [h]
theorem oo {a b:Nat} (h:a=b):Ending.returned (.float .f64 a)=.returned (.float .f64 b):=by rw [h]
theorem aI {a b:Bool} (h:a=b):Ending.returned (.bool a)=.returned (.bool b):=by rw [h]
namespace Cd
def wid (n:Nat):Nat :=
 if n<256 then 1 else if n<65536 then 2 else if n<16777216 then 3 else if n<4294967296 then 4 else if n<1099511627776 then 5 else if n<281474976710656 then 6 else if n<72057594037927936 then 7 else 8
def ev (l:List UInt8):Nat:=l.foldl (fun n b=>n * 256+b.toNat) 0
def val (l:List UInt8):Nat:=ev l % 18446744073709551616
end Cd
end
section
open Go.ChangeShapes Go.WideShapes Go.ChangeAt Go.RowKit
section
variable {H : Type} {enc : TypeId × Value → H} {P : Program}
theorem Bw {f:Func} {s:ChangeSpec} {apart fresh handsOn again:Bool} {W W':World} {args:Array Value} {v:Value} {ds gs:List (DataW H)} {before pa pv:List MemPlace}
  (whole:DataW.Whole enc P f.params.toList s.vars apart W args.toList ds gs before) (same:before=pa++pv) (old:Below W.heap.size W W')
  (res:∀ (b:Nat) (sp:Nat→Bool) (hd:Bool),DataW.TrodAll enc P W' b sp hd f.resultTypes.toList (v.resultList f.resultTypes.size) (s.fn H (ds++gs)).results [])
  (arg:∀ sp:Nat→Bool,(∀ p∈before,sp p.block=true)→DataW.TrodAll enc P W' 0 sp true f.params.toList args.toList (s.fn H (ds++gs)).args pa)
  (var:∀ sp:Nat→Bool,(∀ p∈before,sp p.block=true)→DataW.TrodVars enc P W' sp s.vars (s.fn H (ds++gs)).vars pv)
  (outer:∀ (j:Nat) (t:TypeId) (r:Value),f.resultTypes[j]?=some t→(v.resultList f.resultTypes.size)[j]?=some r→Value.okWide P W' .any 0 t r) :
  s.post enc P f apart fresh handsOn again W args v W':=by
 have lower:∀ p∈before,p.block<W.heap.size:=fun p m=>whole.lt p m
 have marked:∀ p∈before,(fun b=>decide (b<W.heap.size)) p.block=true:=fun p m=>decide_eq_true (lower p m)
 have every:∀ p∈before,(fun _:Nat=>true) p.block=true:=fun _ _=>rfl
 have kept:W.keptBut W' (fun p=>p∈before∧(p∈([]:List MemPlace)++pa∨p∈pv)):=old.frame _
 obtain⟨_,_,_,_,_,frz,sep⟩:=id whole
 refine⟨ds,gs,before,[],pa,pv,whole,res _ _ _,arg _ marked,var _ marked,World.keptBut_mono (fun p m=>⟨m.1,?_⟩) kept,fun _=>?_⟩
 ·have h:=m.1
  rw [same,List.mem_append] at h
  exact Or.inr h
 ·refine⟨outer,_,_,([]++pa)++pv,⟨[]++pa,pv,trodAll_append (arg _ every) (res _ _ _),var _ every,rfl,?_,?_⟩,?_⟩
  ·intro b off m
   have h:MemPlace.cell b off∈before:=by rw [same];simpa using m
   rw [old.frozen (lower _ h)]
   exact frz b off h
  ·intro yes
   have h:=sep yes
   rw [same] at h
   simpa using h
  ·intro p m _
   rw [same]
   simpa using m
end
end
end
end Go.Proofs.YtcmiompdjjiojaaGreat
