import Derived.Test.YtcedlgedmkghgaaGreatZ1
import Derived.Test.YtcedlgedmkghgaaGreatZ3
import Derived.Test.YtcedlgedmkghgaaGreatZ4
import Derived.Shelf.SlSortCmp.KitK
import Derived.Shelf.SlSortCmp.Kit1
namespace Go.Proofs.YtcedlgedmkghgaaGreat
set_option maxHeartbeats 16000000
set_option linter.unusedSimpArgs false
set_option maxRecDepth 100000
section
open Go.Shelf Go.RowKit Go.Lib Go.Sort
namespace Sr
section
variable {α : Type} {eq : α → α → Bool}
theorem Cz:∀ (l:List α) (p y:α),pk eq p (l++[y])=pk eq p l++(if eq y ((p :: l).getLast (by simp))=true then [] else [y])
 | [],p,y=>by cases h:eq y p <;> simp [pk,h]
 | x :: l,p,y=>by
  have e:(p :: x :: l).getLast (by simp)=(x :: l).getLast (by simp):=by rw [List.getLast_cons]
  rw [e,List.cons_append,pk,pk,Cz l x y]
  split <;> simp
theorem wE {l:List α} (h:l≠[]) (y:α):compact eq (l++[y])=compact eq l++(if eq y (l.getLast h)=true then [] else [y]):=by
 cases l with
 | nil=>exact absurd rfl h
 | cons x l=>rw [List.cons_append,compact,compact,Cz];simp
theorem lS (d:Array α) (h:d.size<2):compact eq d.toList=d.toList:=by
 have:d.toList.length<2:=by simpa using h
 match d.toList,this with
 | [],_=>rfl
 | [x],_=>rfl
theorem mD {d:Array α} {kk:Nat} (h:kk<d.size) (y:α):(d.setIfInBounds kk y).toList.take (kk+1)=d.toList.take kk++[y]:=by
 rw [Array.toList_setIfInBounds,List.take_set,List.set_eq_take_append_cons_drop,if_pos (by rw [List.length_take,Array.length_toList];omega),List.take_take,Nat.min_eq_left (Nat.le_succ _),List.drop_of_length_le (by rw [List.length_take];omega)]
variable [Inhabited α]
theorem take_at {d:Array α} {k:Nat} (h:k<d.size):d.toList.take (k+1)=d.toList.take k++[d[k]!]:=by
 rw [List.take_add_one,Array.getElem?_toList,Array.getElem?_eq_getElem h,getElem!_pos d k h]
 rfl
theorem dU {d:Array α} {j:Nat} (h0:0<j) (h:j<d.size):compact eq (d.toList.take (j+1))=compact eq (d.toList.take j)++(if eq d[j]! d[j - 1]! = true then [] else [d[j]!]):=by
 have hn:d.toList.take j≠[]:=fun e=>by have:=congrArg List.length e;rw [List.length_take,Array.length_toList,Nat.min_eq_left (by omega)] at this;simp at this;omega
 rw [take_at h,wE hn]
 have e:(d.toList.take j).getLast hn=d[j - 1]!:=by
  have q:=take_at (d:=d) (k:=j - 1) (by omega)
  rw [show j - 1+1=j by omega] at q
  have:∀ (l:List α) (hl:l≠[]),l=d.toList.take (j - 1)++[d[j - 1]!]→l.getLast hl=d[j - 1]!:=fun l hl e=>by subst e;simp
  exact this _ hn q
 rw [e]
theorem lT (d:Array α) (h:0<d.size):compact eq (d.toList.take 1)=d.toList.take 1:=by
 rw [take_at (k:=0) h]
 simp [compact,pk]
theorem pE {d:Array α} {kk i:Nat} (hi:i≠kk) (y:α):(d.setIfInBounds kk y)[i]! = d[i]!:=by
 by_cases h:i<d.size
 ·rw [getElem!_pos _ i (by simpa using h),getElem!_pos d i h,Array.getElem_setIfInBounds (by simpa using h),if_neg (Ne.symm hi)]
 ·rw [getElem!_neg _ i (by simpa using h),getElem!_neg d i h]
end
end Sr
theorem qN {W:World} {B:Nat} {t:TypeId} {size c m g n:Nat} {cur:Array Value} {xs:List Value} (hg:W.heap[g]?=some (.cells cur t (0,0))) (hB:B≤g) (hcur:cur.size=c * size) (hn:n≤c) (hc:c≤maxLen) (hm:m≤n) (hx:xs.length=m * size) (hL:∀ j u,xs[j]?=some u→W.cell? ((⟨g,0,none⟩:Addr).add j)=some u) :
  W.ownsRow B t size (.slice (some ⟨g,0,none⟩) m c) m xs:=by
 refine⟨hx,.inr ⟨g,c,cur,rfl,hB,hg,by omega,hc,hcur,?_⟩⟩
 have hle:m * size≤c * size:=Nat.mul_le_mul_right _ (by omega)
 apply List.ext_getElem
 ·rw [List.length_take,Array.length_toList,hx];omega
 ·intro j h1 h2
  have q:=hL j xs[j] (List.getElem?_eq_getElem h2)
  rw [dN,cell_of_row W g j cur t (0,0) hg] at q
  rw [List.getElem_take,Array.getElem_toList]
  have hj:j<cur.size:=by omega
  rw [Array.getElem?_eq_getElem hj] at q
  exact Option.some.inj q
section
variable {P : Program} {α : Type} [Inhabited α] {enc : α → List Value} {k : Nat} {w0 W : World} {blk off : Nat} {dk d0 : Array α}
theorem zA (hk:∀ x,(enc x).length=k) (d:Array α) (i:Nat) (hi:i<d.size) (y:α):setMany (flatK enc k d) (i * k) (enc y)=flatK enc k (d.setIfInBounds i y):=by
 refine ext_get! (by simp) fun t ht=>?_
 have ht':t<d.size * k:=by simpa using ht
 have k0:0<k:=by
  rcases Nat.eq_zero_or_pos k with h | h
  ·subst h;simp at ht'
  ·exact h
 rw [get_setMany _ _ _ t (by simpa using ht'),get_flatK _ _ _ t ht',get_flatK _ _ _ t (by simpa using ht'),hk]
 by_cases a:t / k=i
 ·rw [if_pos ((blk_iff k i t k0).2 a)]
  have q:t - i * k=t % k:=by subst a;rw [Nat.mod_eq_sub_div_mul]
  rw [q,a,getElem!_set_same _ _ _ hi]
 ·rw [if_neg (fun h=>a ((blk_iff k i t k0).1 h)),Sr.pE a]
theorem xG (h:SWK enc k w0 blk off dk W) (R:RowK enc k w0 blk off d0) (i:Nat) (hi:i<dk.size) (y:α):SWK enc k w0 blk off (dk.setIfInBounds i y) (W.setCells blk (off+i * k) (enc y)):=by
 obtain⟨n,os,rfl⟩:=h
 refine⟨n,os,?_⟩
 unfold sortWorldK
 rw [setCells_grow os blk _ _ _ (by rw [size_putRowK];exact R.hblk)]
 congr 1
 unfold putRowK
 rw [setCells_putRow _ _ _ _ _ _ (by rw [R.hk,size_flatK];exact rowK_bnd dk k i hi),zA R.hk _ _ hi]
theorem pK (b:Nat):∀ (xs ys:List Value) (o:Nat) (w:World),w.setCells b o (xs++ys)=(w.setCells b o xs).setCells b (o+xs.length) ys
 | [],ys,o,w=>rfl
 | x :: xs,ys,o,w=>by
  rw [List.cons_append,World.setCells,World.setCells,pK b xs ys,List.length_cons]
  congr 1
  omega
theorem zD (R:RowK enc k w0 blk off d0):∀ (zs:List α) (kk:Nat) (W:World) (dk:Array α),SWK enc k w0 blk off dk W→kk+zs.length≤dk.size →
  ∃ dk',SWK enc k w0 blk off dk' (W.setCells blk (off+kk * k) (zs.flatMap enc))∧dk'.size=dk.size∧dk'.toList.take kk=dk.toList.take kk
 | [],kk,W,dk,h,_=>⟨dk,h,rfl,rfl⟩
 | z :: zs,kk,W,dk,h,hl=>by
  rw [List.length_cons] at hl
  obtain⟨dk',h1,h2,h3⟩:=zD R zs (kk+1) _ _ (xG h R kk (by omega) z) (by rw [Array.size_setIfInBounds];omega)
  refine⟨dk',?_,by rw [h2,Array.size_setIfInBounds],?_⟩
  ·rw [List.flatMap_cons,pK,R.hk]
   rw [Nat.add_mul,Nat.one_mul,← Nat.add_assoc] at h1
   exact h1
  ·have q:=congrArg (List.take kk) h3
   rw [List.take_take,Nat.min_eq_left (Nat.le_succ _),Sr.mD (by omega),List.take_append_of_le_length (by rw [List.length_take,Array.length_toList];omega),List.take_take,Nat.min_self] at q
   exact q
omit [Inhabited α] in
theorem uq (hk:∀ x,(enc x).length=k) (z:α) (m:Nat):(Builtin.zeroCells (enc z).toArray m).toList=(List.replicate m z).flatMap enc:=by
 have l1:(Builtin.zeroCells (enc z).toArray m).toList.length=m * k:=by simp [Builtin.zeroCells,hk]
 have l2:((List.replicate m z).flatMap enc).length=m * k:=by rw [jk (fun x _=>hk x),List.length_replicate]
 apply List.ext_getElem (by rw [l1,l2])
 intro t h1 h2
 rw [l1] at h1
 have k0:0<k:=by
  rcases Nat.eq_zero_or_pos k with h | h
  ·subst h;simp at h1
  ·exact h
 have hdiv:t / k<m:=Nat.div_lt_of_lt_mul (by rw [Nat.mul_comm];exact h1)
 have e:=iB (f:=enc) (size:=k) (l:=List.replicate m z) (fun x _=>hk x) (k:=t / k) (x:=z) (by rw [List.getElem?_replicate,if_pos hdiv]) (j:=t % k) (Nat.mod_lt _ k0)
 rw [Nat.div_add_mod' t k] at e
 rw [List.getElem?_eq_getElem h2] at e
 have hm:t % k<(enc z).length:=by rw [hk];exact Nat.mod_lt _ k0
 rw [List.getElem?_eq_getElem hm] at e
 have e':=Option.some.inj e
 rw [e']
 simp only [Builtin.zeroCells,Array.toList_map,List.size_toArray,hk,List.getElem_map,List.getElem!_toArray,Array.toList_range,List.getElem_range]
 rw [getElem!_pos (enc z) (t % k) hm]
theorem vJ (h:SWK enc k w0 blk off dk W) (R:RowK enc k w0 blk off d0) (hs:dk.size=d0.size) {t e ty:TypeId} {z:α} (ht:P.underlying t=some (.slice e)) (hv:∀ w,(zeroValue e).run P w=.ok (.agg (enc z).toArray) w) (hz:(Value.agg (enc z).toArray).cells=(enc z).toArray) (kk c:Nat) (hkk:kk<dk.size) :
  ∃ W2 dk',(Builtin.clear_ #[t] ty #[.slice (some ⟨blk,off+kk * k,none⟩) (dk.size - kk) c]).run P W=.ok (.tuple #[]) W2∧SWK enc k w0 blk off dk' W2∧dk'.size=dk.size∧dk'.toList.take kk=dk.toList.take kk:=by
 obtain⟨dk',h1,h2,h3⟩:=zD R (List.replicate (dk.size - kk) z) kk W dk h (by rw [List.length_replicate];omega)
 refine⟨_,dk',?_,h1,h2,h3⟩
 have hl:((List.replicate (dk.size - kk) z).flatMap enc).length=(dk.size - kk) * k:=by rw [jk (fun x _=>R.hk x),List.length_replicate]
 have hst:=stores_of_holds P (h.holds R.hblk R.hH hs) (kk * k) ((List.replicate (dk.size - kk) z).flatMap enc) (by rw [hl,size_flatK,← Nat.add_mul];exact Nat.mul_le_mul_right _ (by omega)) (fun v hv'=>by
  obtain⟨x,_,hx⟩:=List.mem_flatMap.1 hv'
  exact R.h1 x v hx)
 obtain⟨m,hm⟩:∃ m,dk.size - kk=m+1:=⟨dk.size - kk - 1,by omega⟩
 rw [hm] at hst ⊢
 simp [Builtin.clear_,run_underlying ht,hv,hz,uq R.hk,hst]
theorem zC (h:SWK enc k w0 blk off dk W) (j:Nat) (hj:j<w0.heap.size) (hne:j≠blk):W.heap[j]?=w0.heap[j]?:=by
 obtain⟨n,os,rfl⟩:=h
 have e1:(sortWorldK enc k w0 blk off n dk os).heap=(w0.heap.modify blk (onCells (putCells id off (flatK enc k dk))))++os:=rfl
 rw [e1,Array.getElem?_append_left (by simpa using hj),Array.getElem?_modify,if_neg (Ne.symm hne)]
theorem qB (h:SWK enc k w0 blk off dk W) {B:Nat} (hB:B≤blk) (hblk:blk<w0.heap.size):Below B w0 W:=by
 have keep:=zC h
 obtain⟨n,os,hw⟩:=h
 refine⟨by rw [hw];rfl,by rw [hw];rfl,by rw [hw];rfl,SWK.le ⟨n,os,hw⟩,fun j hj=>keep j (by omega) (by omega)⟩
theorem pQ (h:SWK enc k w0 blk off dk W) (R:RowK enc k w0 blk off d0) (hs:dk.size=d0.size) {l:List α} (hl:dk.toList.take l.length=l) {B:Nat} {t:TypeId} (hB:blk<B):au W B t (some ⟨blk,off,none⟩) (l.flatMap enc):=fun _=>by
 refine⟨_,rfl,.inl hB,fun j u hu=>?_⟩
 have hlen:=jk (f:=enc) (size:=k) (l:=l) (fun x _=>R.hk x)
 have hj:j<l.length * k:=by
  rcases Nat.lt_or_ge j (l.flatMap enc).length with q | q
  ·omega
  ·rw [List.getElem?_eq_none q] at hu;cases hu
 have k0:0<k:=by
  rcases Nat.eq_zero_or_pos k with q | q
  ·subst q;simp at hj
  ·exact q
 have hd:j / k<l.length:=Nat.div_lt_of_lt_mul (by rw [Nat.mul_comm];exact hj)
 have hx:l[j / k]?=some l[j / k]:=List.getElem?_eq_getElem hd
 have ll:l.length≤dk.size:=by
  have q:=congrArg List.length hl
  rw [List.length_take] at q
  have q2:dk.toList.length=dk.size:=Array.length_toList
  omega
 have hdk:dk[j / k]! = l[j / k]:=by
  have e:dk.toList[j / k]?=some l[j / k]:=by rw [← hx,← hl,List.getElem?_take,if_pos (by omega)]
  rw [Array.getElem?_toList,Array.getElem?_eq_getElem (by omega)] at e
  rw [getElem!_pos dk _ (by omega)]
  exact Option.some.inj e
 have e:=iB (f:=enc) (size:=k) (l:=l) (fun x _=>R.hk x) hx (j:=j % k) (Nat.mod_lt _ k0)
 rw [Nat.div_add_mod' j k,hu] at e
 have c:=HoldsK.cells (h.holds R.hblk R.hH hs) R.hk (i:=j / k) (by omega) (j % k) u (by rw [hdk];exact e.symm)
 have ea:(⟨blk,off+j / k * k,none⟩:Addr).add (j % k)=(⟨blk,off,none⟩:Addr).add j:=by
  rw [Addr.add_lit,Addr.add_lit,Nat.add_assoc,Nat.div_add_mod' j k]
 rw [← ea]
 exact c
theorem CX (h:SWK enc k w0 blk 0 dk W) (R:RowK enc k w0 blk 0 d0) (hs:dk.size=d0.size) {B:Nat} {t:TypeId} {n c:Nat} {ys:List Value} (hown:w0.ownsRow B t k (.slice (some ⟨blk,0,none⟩) n c) n ys) {l:List α} (hl:dk.toList.take l.length=l) (hm:l.length≤n) :
  W.ownsRow B t k (.slice (some ⟨blk,0,none⟩) l.length c) l.length (l.flatMap enc):=by
 have hx:(l.flatMap enc).length=l.length * k:=jk (fun x _=>R.hk x)
 have hcl:∀ j u,(l.flatMap enc)[j]?=some u→W.cell? ((⟨blk,0,none⟩:Addr).add j)=some u:=fun j u hu=>by
  obtain⟨ad,e,_,hc⟩:=pQ h R hs hl (B:=blk+1) (t:=t) (Nat.lt_succ_self _) (fun q=>by rw [q] at hu;simp at hu)
  injection e with e
  subst e
  exact hc j u hu
 rcases hown.2 with⟨hn,_⟩ | ⟨g,cap,cur,hv,hB,hg,h1,h2,h3,_⟩
 ·cases hn
 ·injection hv with e1 _ e3
  injection e1 with e1
  injection e1 with e1
  subst e1;subst e3
  obtain⟨q,os,rfl⟩:=h
  have e1:(sortWorldK enc k w0 blk 0 q dk os).heap=(w0.heap.modify blk (onCells (putCells id 0 (flatK enc k dk))))++os:=rfl
  refine qN (cur:=putCells id 0 (flatK enc k dk) cur) ?_ hB (by rw [← h3];unfold putCells;simp) h1 h2 hm hx hcl
  rw [e1,Array.getElem?_append_left (by simpa using R.hblk),Array.getElem?_modify,if_pos rfl,hg]
  rfl
theorem tQ {t:TypeId} {c n B:Nat} {d:Array α} (hk:∀ x,(enc x).length=k) (h1:∀ x,∀ v∈enc x,v.oneCell'=true) (k0:0<k) {v:Value} (hv:v=.slice (some ⟨blk,0,none⟩) n c) (hown:w0.ownsRow B t k v n (d.toList.flatMap enc)):RowK enc k w0 blk 0 d:=by
 subst hv
 refine⟨hk,h1,fun j hj=>?_,?_⟩
 ·have hj':j<d.size * k:=by simpa using hj
  have hx:j / k<d.size:=Nat.div_lt_of_lt_mul (by rw [Nat.mul_comm];exact hj')
  have e:=iB (f:=enc) (size:=k) (l:=d.toList) (fun x _=>hk x) (k:=j / k) (x:=d[j / k]!) (by rw [Array.getElem?_toList,Array.getElem?_eq_getElem hx,getElem!_pos d _ hx]) (j:=j % k) (Nat.mod_lt _ k0)
  rw [Nat.div_add_mod' j k] at e
  have hm:j % k<(enc d[j / k]!).length:=by rw [hk];exact Nat.mod_lt _ k0
  rw [List.getElem?_eq_getElem hm] at e
  have c:=hown.cells (g:=blk) rfl j _ e
  have f:=hown.frozenAt (g:=blk) j
  refine⟨?_,?_⟩
  ·rw [Nat.zero_add,← dN,c,get_flatK _ _ _ _ hj',getElem!_pos (enc d[j / k]!) (j % k) hm]
   rfl
  ·rw [Nat.zero_add];exact f
 ·exact (hown.lt blk rfl).2
end
section
variable {P : Program} {α : Type} [Inhabited α] {enc : α → Value} {w0 W : World} {blk off : Nat} {dk d0 : Array α}
theorem Jm (h:SW enc w0 blk off dk W) (R:Row1 enc w0 blk off d0) (i:Nat) (hi:i<dk.size) (y:α):SW enc w0 blk off (dk.setIfInBounds i y) (W.setCell ⟨blk,off+i,none⟩ (enc y)):=by
 obtain⟨n,os,rfl⟩:=h
 refine⟨n,os,?_⟩
 unfold sortWorld
 rw [setCell_eq,mapBlock_grow _ _ _ _ (by simpa [putRow,mapBlock] using R.hblk),← setCell_eq,putRow_set enc _ blk off dk i y hi]
theorem CW (R:Row1 enc w0 blk off d0):∀ (zs:List α) (kk:Nat) (W:World) (dk:Array α),SW enc w0 blk off dk W→kk+zs.length≤dk.size →
  ∃ dk',SW enc w0 blk off dk' (W.setCells blk (off+kk) (zs.map enc))∧dk'.size=dk.size∧dk'.toList.take kk=dk.toList.take kk
 | [],kk,W,dk,h,_=>⟨dk,h,rfl,rfl⟩
 | z :: zs,kk,W,dk,h,hl=>by
  rw [List.length_cons] at hl
  obtain⟨dk',h1,h2,h3⟩:=CW R zs (kk+1) _ _ (Jm h R kk (by omega) z) (by rw [Array.size_setIfInBounds];omega)
  refine⟨dk',h1,by rw [h2,Array.size_setIfInBounds],?_⟩
  have q:=congrArg (List.take kk) h3
  rw [List.take_take,Nat.min_eq_left (Nat.le_succ _),Sr.mD (by omega),List.take_append_of_le_length (by rw [List.length_take,Array.length_toList];omega),List.take_take,Nat.min_self] at q
  exact q
theorem Jl (h:SW enc w0 blk off dk W) (R:Row1 enc w0 blk off d0) (hs:dk.size=d0.size) {t e ty:TypeId} {z:α} (ht:P.underlying t=some (.slice e)) (hv:∀ w,(zeroValue e).run P w=.ok (enc z) w) (hz:(enc z).cells=#[enc z]) (h1:(enc z).oneCell'=true) (kk c:Nat) (hkk:kk<dk.size) :
  ∃ W2 dk',(Builtin.clear_ #[t] ty #[.slice (some ⟨blk,off+kk,none⟩) (dk.size - kk) c]).run P W=.ok (.tuple #[]) W2∧SW enc w0 blk off dk' W2∧dk'.size=dk.size∧dk'.toList.take kk=dk.toList.take kk:=by
 obtain⟨dk',g1,g2,g3⟩:=CW R (List.replicate (dk.size - kk) z) kk W dk h (by rw [List.length_replicate];omega)
 rw [List.map_replicate] at g1
 refine⟨_,dk',?_,g1,g2,g3⟩
 have hH:=h.holds R.hblk R.hH hs
 exact Lib.run_clear_slice W t e ty (enc z) ht hv hz h1 blk (off+kk) (dk.size - kk) c (by omega) (fun j hj=>by rw [Nat.add_assoc,(hH (kk+j) (by omega)).1];rfl) (fun j hj=>by rw [Nat.add_assoc];exact (hH (kk+j) (by omega)).2)
theorem sw_keep (h:SW enc w0 blk off dk W) (j:Nat) (hj:j<w0.heap.size) (hne:j≠blk):W.heap[j]?=w0.heap[j]?:=by
 obtain⟨n,os,rfl⟩:=h
 have e1:(sortWorld enc w0 blk off n dk os).heap=(w0.heap.modify blk (onCells (putCells enc off dk)))++os:=rfl
 rw [e1,Array.getElem?_append_left (by simpa using hj),Array.getElem?_modify,if_neg (Ne.symm hne)]
theorem Jk (h:SW enc w0 blk off dk W) {B:Nat} (hB:B≤blk) (hblk:blk<w0.heap.size):Below B w0 W:=by
 have keep:=sw_keep h
 obtain⟨n,os,hw⟩:=h
 refine⟨by rw [hw];rfl,by rw [hw];rfl,by rw [hw];rfl,SW.le ⟨n,os,hw⟩,fun j hj=>keep j (by omega) (by omega)⟩
theorem CV (h:SW enc w0 blk off dk W) (R:Row1 enc w0 blk off d0) (hs:dk.size=d0.size) {l:List α} (hl:dk.toList.take l.length=l) {B:Nat} {t:TypeId} (hB:blk<B):au W B t (some ⟨blk,off,none⟩) (l.map enc):=fun _=>by
 refine⟨_,rfl,.inl hB,fun j u hu=>?_⟩
 rw [List.getElem?_map] at hu
 obtain⟨x,hx,rfl⟩:=Option.map_eq_some_iff.1 hu
 have hj:j<l.length:=by
  rcases Nat.lt_or_ge j l.length with q | q
  ·exact q
  ·rw [List.getElem?_eq_none q] at hx;cases hx
 have ll:l.length≤dk.size:=by
  have q:=congrArg List.length hl
  rw [List.length_take] at q
  have q2:dk.toList.length=dk.size:=Array.length_toList
  omega
 have hdk:dk[j]! = x:=by
  have e:dk.toList[j]?=some x:=by rw [← hx,← hl,List.getElem?_take,if_pos hj]
  rw [Array.getElem?_toList,Array.getElem?_eq_getElem (by omega)] at e
  rw [getElem!_pos dk _ (by omega)]
  exact Option.some.inj e
 rw [Addr.add_lit,← hdk]
 exact h.c1 R hs j (by omega)
theorem sw_own (h:SW enc w0 blk 0 dk W) (R:Row1 enc w0 blk 0 d0) (hs:dk.size=d0.size) {B:Nat} {t:TypeId} {n c:Nat} {ys:List Value} (hown:w0.ownsRow B t 1 (.slice (some ⟨blk,0,none⟩) n c) n ys) {l:List α} (hl:dk.toList.take l.length=l) (hm:l.length≤n) :
  W.ownsRow B t 1 (.slice (some ⟨blk,0,none⟩) l.length c) l.length (l.map enc):=by
 have hx:(l.map enc).length=l.length * 1:=by simp
 have hcl:∀ j u,(l.map enc)[j]?=some u→W.cell? ((⟨blk,0,none⟩:Addr).add j)=some u:=fun j u hu=>by
  obtain⟨ad,e,_,hc⟩:=CV h R hs hl (B:=blk+1) (t:=t) (Nat.lt_succ_self _) (fun q=>by rw [q] at hu;simp at hu)
  injection e with e
  subst e
  exact hc j u hu
 rcases hown.2 with⟨hn,_⟩ | ⟨g,cap,cur,hv,hB,hg,h1,h2,h3,_⟩
 ·cases hn
 ·injection hv with e1 _ e3
  injection e1 with e1
  injection e1 with e1
  subst e1;subst e3
  obtain⟨q,os,rfl⟩:=h
  have e1:(sortWorld enc w0 blk 0 q dk os).heap=(w0.heap.modify blk (onCells (putCells enc 0 dk)))++os:=rfl
  refine qN (cur:=putCells enc 0 dk cur) ?_ hB (by rw [← h3];unfold putCells;simp) h1 h2 hm hx hcl
  rw [e1,Array.getElem?_append_left (by simpa using R.hblk),Array.getElem?_modify,if_pos rfl,hg]
  rfl
theorem I7 {t:TypeId} {c n B:Nat} {d:Array α} (hO:OneCell enc) {v:Value} (hv:v=.slice (some ⟨blk,0,none⟩) n c) (hown:w0.ownsRow B t 1 v n (d.toList.map enc)):Row1 enc w0 blk 0 d:=by
 subst hv
 refine⟨hO,fun j hj=>?_,(hown.lt blk rfl).2⟩
 have e:(d.toList.map enc)[j]?=some (enc d[j]!):=by rw [List.getElem?_map,Array.getElem?_toList,Array.getElem?_eq_getElem hj,getElem!_pos d j hj];rfl
 have c:=hown.cells (g:=blk) rfl j _ e
 have f:=hown.frozenAt (g:=blk) j
 rw [dN] at c
 rw [Nat.zero_add]
 exact⟨c,f⟩
end
end
end Go.Proofs.YtcedlgedmkghgaaGreat
