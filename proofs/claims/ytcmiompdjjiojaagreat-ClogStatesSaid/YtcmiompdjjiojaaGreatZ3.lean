import Derived.Test.YtcmiompdjjiojaaGreatZ2
import Derived.Deep.DeepCutAuto
import Derived.Shelf.SlSortCmp.KitK
import Derived.Shelf.SlSortCmp.Kit1
import Derived.Test.YtcmiompdjjiojaaGreatProg
namespace Go.Proofs.YtcmiompdjjiojaaGreat
set_option maxHeartbeats 16000000
open Go.Lib
set_option linter.unusedSimpArgs false
set_option maxRecDepth 100000
section
open Go.Shelf Go.RowKit Go.Lib Go.Sort
namespace Sr
section
variable {α : Type} {eq : α → α → Bool}
theorem FC:∀ (l:List α) (p y:α),pk eq p (l++[y])=pk eq p l++(if eq y ((p :: l).getLast (by simp))=true then [] else [y])
 | [],p,y=>by cases h:eq y p <;> simp [pk,h]
 | x :: l,p,y=>by
  have e:(p :: x :: l).getLast (by simp)=(x :: l).getLast (by simp):=by rw [List.getLast_cons]
  rw [e,List.cons_append,pk,pk,FC l x y]
  split <;> simp
theorem yD {l:List α} (h:l≠[]) (y:α):compact eq (l++[y])=compact eq l++(if eq y (l.getLast h)=true then [] else [y]):=by
 cases l with
 | nil=>exact absurd rfl h
 | cons x l=>rw [List.cons_append,compact,compact,FC];simp
theorem mQ (d:Array α) (h:d.size<2):compact eq d.toList=d.toList:=by
 have:d.toList.length<2:=by simpa using h
 match d.toList,this with
 | [],_=>rfl
 | [x],_=>rfl
theorem nK {d:Array α} {kk:Nat} (h:kk<d.size) (y:α):(d.setIfInBounds kk y).toList.take (kk+1)=d.toList.take kk++[y]:=by
 rw [Array.toList_setIfInBounds,List.take_set,List.set_eq_take_append_cons_drop,if_pos (by rw [List.length_take,Array.length_toList];omega),List.take_take,Nat.min_eq_left (Nat.le_succ _),List.drop_of_length_le (by rw [List.length_take];omega)]
variable [Inhabited α]
theorem take_at {d:Array α} {k:Nat} (h:k<d.size):d.toList.take (k+1)=d.toList.take k++[d[k]!]:=by
 rw [List.take_add_one,Array.getElem?_toList,Array.getElem?_eq_getElem h,getElem!_pos d k h]
 rfl
theorem dV {d:Array α} {j:Nat} (h0:0<j) (h:j<d.size):compact eq (d.toList.take (j+1))=compact eq (d.toList.take j)++(if eq d[j]! d[j - 1]! = true then [] else [d[j]!]):=by
 have hn:d.toList.take j≠[]:=fun e=>by have:=congrArg List.length e;rw [List.length_take,Array.length_toList,Nat.min_eq_left (by omega)] at this;simp at this;omega
 rw [take_at h,yD hn]
 have e:(d.toList.take j).getLast hn=d[j - 1]!:=by
  have q:=take_at (d:=d) (k:=j - 1) (by omega)
  rw [show j - 1+1=j by omega] at q
  have:∀ (l:List α) (hl:l≠[]),l=d.toList.take (j - 1)++[d[j - 1]!]→l.getLast hl=d[j - 1]!:=fun l hl e=>by subst e;simp
  exact this _ hn q
 rw [e]
theorem mR (d:Array α) (h:0<d.size):compact eq (d.toList.take 1)=d.toList.take 1:=by
 rw [take_at (k:=0) h]
 simp [compact,pk]
theorem qP {d:Array α} {kk i:Nat} (hi:i≠kk) (y:α):(d.setIfInBounds kk y)[i]! = d[i]!:=by
 by_cases h:i<d.size
 ·rw [getElem!_pos _ i (by simpa using h),getElem!_pos d i h,Array.getElem_setIfInBounds (by simpa using h),if_neg (Ne.symm hi)]
 ·rw [getElem!_neg _ i (by simpa using h),getElem!_neg d i h]
end
end Sr
theorem sO {W:World} {B:Nat} {t:TypeId} {size c m g n:Nat} {cur:Array Value} {xs:List Value} (hg:W.heap[g]?=some (.cells cur t (0,0))) (hB:B≤g) (hcur:cur.size=c * size) (hn:n≤c) (hc:c≤maxLen) (hm:m≤n) (hx:xs.length=m * size) (hL:∀ j u,xs[j]?=some u→W.cell? ((⟨g,0,none⟩:Addr).add j)=some u) :
  W.ownsRow B t size (.slice (some ⟨g,0,none⟩) m c) m xs:=by
 refine⟨hx,.inr ⟨g,c,cur,rfl,hB,hg,by omega,hc,hcur,?_⟩⟩
 have hle:m * size≤c * size:=Nat.mul_le_mul_right _ (by omega)
 apply List.ext_getElem
 ·rw [List.length_take,Array.length_toList,hx];omega
 ·intro j h1 h2
  have q:=hL j xs[j] (List.getElem?_eq_getElem h2)
  rw [dP,cell_of_row W g j cur t (0,0) hg] at q
  rw [List.getElem_take,Array.getElem_toList]
  have hj:j<cur.size:=by omega
  rw [Array.getElem?_eq_getElem hj] at q
  exact Option.some.inj q
section
variable {P : Program} {α : Type} [Inhabited α] {enc : α → List Value} {k : Nat} {w0 W : World} {blk off : Nat} {dk d0 : Array α}
theorem Cc (hk:∀ x,(enc x).length=k) (d:Array α) (i:Nat) (hi:i<d.size) (y:α):setMany (flatK enc k d) (i * k) (enc y)=flatK enc k (d.setIfInBounds i y):=by
 refine ext_get! (by simp) fun t ht=>?_
 have ht':t<d.size * k:=by simpa using ht
 have k0:0<k:=by
  rcases Nat.eq_zero_or_pos k with h | h
  ·subst h;simp at ht'
  ·exact h
 rw [get_setMany _ _ _ t (by simpa using ht'),get_flatK _ _ _ t ht',get_flatK _ _ _ t (by simpa using ht'),hk]
 by_cases a:t / k=i
 ·rw [if_pos ((blk_iff k i t k0).2 a)]
  have q:t - i * k=t % k:=by subst a;rw [Nat.mod_eq_sub_div_mul]
  rw [q,a,getElem!_set_same _ _ _ hi]
 ·rw [if_neg (fun h=>a ((blk_iff k i t k0).1 h)),Sr.qP a]
theorem zI (h:SWK enc k w0 blk off dk W) (R:RowK enc k w0 blk off d0) (i:Nat) (hi:i<dk.size) (y:α):SWK enc k w0 blk off (dk.setIfInBounds i y) (W.setCells blk (off+i * k) (enc y)):=by
 obtain⟨n,os,rfl⟩:=h
 refine⟨n,os,?_⟩
 unfold sortWorldK
 rw [setCells_grow os blk _ _ _ (by rw [size_putRowK];exact R.hblk)]
 congr 1
 unfold putRowK
 rw [setCells_putRow _ _ _ _ _ _ (by rw [R.hk,size_flatK];exact rowK_bnd dk k i hi),Cc R.hk _ _ hi]
theorem qW (b:Nat):∀ (xs ys:List Value) (o:Nat) (w:World),w.setCells b o (xs++ys)=(w.setCells b o xs).setCells b (o+xs.length) ys
 | [],ys,o,w=>rfl
 | x :: xs,ys,o,w=>by
  rw [List.cons_append,World.setCells,World.setCells,qW b xs ys,List.length_cons]
  congr 1
  omega
theorem Ch (R:RowK enc k w0 blk off d0):∀ (zs:List α) (kk:Nat) (W:World) (dk:Array α),SWK enc k w0 blk off dk W→kk+zs.length≤dk.size →
  ∃ dk',SWK enc k w0 blk off dk' (W.setCells blk (off+kk * k) (zs.flatMap enc))∧dk'.size=dk.size∧dk'.toList.take kk=dk.toList.take kk
 | [],kk,W,dk,h,_=>⟨dk,h,rfl,rfl⟩
 | z :: zs,kk,W,dk,h,hl=>by
  rw [List.length_cons] at hl
  obtain⟨dk',h1,h2,h3⟩:=Ch R zs (kk+1) _ _ (zI h R kk (by omega) z) (by rw [Array.size_setIfInBounds];omega)
  refine⟨dk',?_,by rw [h2,Array.size_setIfInBounds],?_⟩
  ·rw [List.flatMap_cons,qW,R.hk]
   rw [Nat.add_mul,Nat.one_mul,← Nat.add_assoc] at h1
   exact h1
  ·have q:=congrArg (List.take kk) h3
   rw [List.take_take,Nat.min_eq_left (Nat.le_succ _),Sr.nK (by omega),List.take_append_of_le_length (by rw [List.length_take,Array.length_toList];omega),List.take_take,Nat.min_self] at q
   exact q
omit [Inhabited α] in
theorem wJ (hk:∀ x,(enc x).length=k) (z:α) (m:Nat):(Builtin.zeroCells (enc z).toArray m).toList=(List.replicate m z).flatMap enc:=by
 have l1:(Builtin.zeroCells (enc z).toArray m).toList.length=m * k:=by simp [Builtin.zeroCells,hk]
 have l2:((List.replicate m z).flatMap enc).length=m * k:=by rw [jb (fun x _=>hk x),List.length_replicate]
 apply List.ext_getElem (by rw [l1,l2])
 intro t h1 h2
 rw [l1] at h1
 have k0:0<k:=by
  rcases Nat.eq_zero_or_pos k with h | h
  ·subst h;simp at h1
  ·exact h
 have hdiv:t / k<m:=Nat.div_lt_of_lt_mul (by rw [Nat.mul_comm];exact h1)
 have e:=ig (f:=enc) (size:=k) (l:=List.replicate m z) (fun x _=>hk x) (k:=t / k) (x:=z) (by rw [List.getElem?_replicate,if_pos hdiv]) (j:=t % k) (Nat.mod_lt _ k0)
 rw [Nat.div_add_mod' t k] at e
 rw [List.getElem?_eq_getElem h2] at e
 have hm:t % k<(enc z).length:=by rw [hk];exact Nat.mod_lt _ k0
 rw [List.getElem?_eq_getElem hm] at e
 have e':=Option.some.inj e
 rw [e']
 simp only [Builtin.zeroCells,Array.toList_map,List.size_toArray,hk,List.getElem_map,List.getElem!_toArray,Array.toList_range,List.getElem_range]
 rw [getElem!_pos (enc z) (t % k) hm]
theorem xS (h:SWK enc k w0 blk off dk W) (R:RowK enc k w0 blk off d0) (hs:dk.size=d0.size) {t e ty:TypeId} {z:α} (ht:P.underlying t=some (.slice e)) (hv:∀ w,(zeroValue e).run P w=.ok (.agg (enc z).toArray) w) (hz:(Value.agg (enc z).toArray).cells=(enc z).toArray) (kk c:Nat) (hkk:kk<dk.size) :
  ∃ W2 dk',(Builtin.clear_ #[t] ty #[.slice (some ⟨blk,off+kk * k,none⟩) (dk.size - kk) c]).run P W=.ok (.tuple #[]) W2∧SWK enc k w0 blk off dk' W2∧dk'.size=dk.size∧dk'.toList.take kk=dk.toList.take kk:=by
 obtain⟨dk',h1,h2,h3⟩:=Ch R (List.replicate (dk.size - kk) z) kk W dk h (by rw [List.length_replicate];omega)
 refine⟨_,dk',?_,h1,h2,h3⟩
 have hl:((List.replicate (dk.size - kk) z).flatMap enc).length=(dk.size - kk) * k:=by rw [jb (fun x _=>R.hk x),List.length_replicate]
 have hst:=stores_of_holds P (h.holds R.hblk R.hH hs) (kk * k) ((List.replicate (dk.size - kk) z).flatMap enc) (by rw [hl,size_flatK,← Nat.add_mul];exact Nat.mul_le_mul_right _ (by omega)) (fun v hv'=>by
  obtain⟨x,_,hx⟩:=List.mem_flatMap.1 hv'
  exact R.h1 x v hx)
 obtain⟨m,hm⟩:∃ m,dk.size - kk=m+1:=⟨dk.size - kk - 1,by omega⟩
 rw [hm] at hst ⊢
 simp [Builtin.clear_,run_underlying ht,hv,hz,wJ R.hk,hst]
theorem Cg (h:SWK enc k w0 blk off dk W) (j:Nat) (hj:j<w0.heap.size) (hne:j≠blk):W.heap[j]?=w0.heap[j]?:=by
 obtain⟨n,os,rfl⟩:=h
 have e1:(sortWorldK enc k w0 blk off n dk os).heap=(w0.heap.modify blk (onCells (putCells id off (flatK enc k dk))))++os:=rfl
 rw [e1,Array.getElem?_append_left (by simpa using hj),Array.getElem?_modify,if_neg (Ne.symm hne)]
theorem sF (h:SWK enc k w0 blk off dk W) {B:Nat} (hB:B≤blk) (hblk:blk<w0.heap.size):Below B w0 W:=by
 have keep:=Cg h
 obtain⟨n,os,hw⟩:=h
 refine⟨by rw [hw];rfl,by rw [hw];rfl,by rw [hw];rfl,SWK.le ⟨n,os,hw⟩,fun j hj=>keep j (by omega) (by omega)⟩
theorem qZ (h:SWK enc k w0 blk off dk W) (R:RowK enc k w0 blk off d0) (hs:dk.size=d0.size) {l:List α} (hl:dk.toList.take l.length=l) {B:Nat} {t:TypeId} (hB:blk<B):au W B t (some ⟨blk,off,none⟩) (l.flatMap enc):=fun _=>by
 refine⟨_,rfl,.inl hB,fun j u hu=>?_⟩
 have hlen:=jb (f:=enc) (size:=k) (l:=l) (fun x _=>R.hk x)
 have hj:j<l.length * k:=by
  rcases Nat.lt_or_ge j (l.flatMap enc).length with q | q
  ·omega
  ·rw [List.getElem?_eq_none q] at hu;cases hu
 have k0:0<k:=by
  rcases Nat.eq_zero_or_pos k with q | q
  ·subst q;simp at hj
  ·exact q
 have hd:j / k<l.length:=Nat.div_lt_of_lt_mul (by rw [Nat.mul_comm];exact hj)
 have hx:l[j / k]?=some l[j / k]:=List.getElem?_eq_getElem hd
 have ll:l.length≤dk.size:=by
  have q:=congrArg List.length hl
  rw [List.length_take] at q
  have q2:dk.toList.length=dk.size:=Array.length_toList
  omega
 have hdk:dk[j / k]! = l[j / k]:=by
  have e:dk.toList[j / k]?=some l[j / k]:=by rw [← hx,← hl,List.getElem?_take,if_pos (by omega)]
  rw [Array.getElem?_toList,Array.getElem?_eq_getElem (by omega)] at e
  rw [getElem!_pos dk _ (by omega)]
  exact Option.some.inj e
 have e:=ig (f:=enc) (size:=k) (l:=l) (fun x _=>R.hk x) hx (j:=j % k) (Nat.mod_lt _ k0)
 rw [Nat.div_add_mod' j k,hu] at e
 have c:=HoldsK.cells (h.holds R.hblk R.hH hs) R.hk (i:=j / k) (by omega) (j % k) u (by rw [hdk];exact e.symm)
 have ea:(⟨blk,off+j / k * k,none⟩:Addr).add (j % k)=(⟨blk,off,none⟩:Addr).add j:=by
  rw [Addr.add_lit,Addr.add_lit,Nat.add_assoc,Nat.div_add_mod' j k]
 rw [← ea]
 exact c
theorem FQ (h:SWK enc k w0 blk 0 dk W) (R:RowK enc k w0 blk 0 d0) (hs:dk.size=d0.size) {B:Nat} {t:TypeId} {n c:Nat} {ys:List Value} (hown:w0.ownsRow B t k (.slice (some ⟨blk,0,none⟩) n c) n ys) {l:List α} (hl:dk.toList.take l.length=l) (hm:l.length≤n) :
  W.ownsRow B t k (.slice (some ⟨blk,0,none⟩) l.length c) l.length (l.flatMap enc):=by
 have hx:(l.flatMap enc).length=l.length * k:=jb (fun x _=>R.hk x)
 have hcl:∀ j u,(l.flatMap enc)[j]?=some u→W.cell? ((⟨blk,0,none⟩:Addr).add j)=some u:=fun j u hu=>by
  obtain⟨ad,e,_,hc⟩:=qZ h R hs hl (B:=blk+1) (t:=t) (Nat.lt_succ_self _) (fun q=>by rw [q] at hu;simp at hu)
  injection e with e
  subst e
  exact hc j u hu
 rcases hown.2 with⟨hn,_⟩ | ⟨g,cap,cur,hv,hB,hg,h1,h2,h3,_⟩
 ·cases hn
 ·injection hv with e1 _ e3
  injection e1 with e1
  injection e1 with e1
  subst e1;subst e3
  obtain⟨q,os,rfl⟩:=h
  have e1:(sortWorldK enc k w0 blk 0 q dk os).heap=(w0.heap.modify blk (onCells (putCells id 0 (flatK enc k dk))))++os:=rfl
  refine sO (cur:=putCells id 0 (flatK enc k dk) cur) ?_ hB (by rw [← h3];unfold putCells;simp) h1 h2 hm hx hcl
  rw [e1,Array.getElem?_append_left (by simpa using R.hblk),Array.getElem?_modify,if_pos rfl,hg]
  rfl
theorem vS {t:TypeId} {c n B:Nat} {d:Array α} (hk:∀ x,(enc x).length=k) (h1:∀ x,∀ v∈enc x,v.oneCell'=true) (k0:0<k) {v:Value} (hv:v=.slice (some ⟨blk,0,none⟩) n c) (hown:w0.ownsRow B t k v n (d.toList.flatMap enc)):RowK enc k w0 blk 0 d:=by
 subst hv
 refine⟨hk,h1,fun j hj=>?_,?_⟩
 ·have hj':j<d.size * k:=by simpa using hj
  have hx:j / k<d.size:=Nat.div_lt_of_lt_mul (by rw [Nat.mul_comm];exact hj')
  have e:=ig (f:=enc) (size:=k) (l:=d.toList) (fun x _=>hk x) (k:=j / k) (x:=d[j / k]!) (by rw [Array.getElem?_toList,Array.getElem?_eq_getElem hx,getElem!_pos d _ hx]) (j:=j % k) (Nat.mod_lt _ k0)
  rw [Nat.div_add_mod' j k] at e
  have hm:j % k<(enc d[j / k]!).length:=by rw [hk];exact Nat.mod_lt _ k0
  rw [List.getElem?_eq_getElem hm] at e
  have c:=hown.cells (g:=blk) rfl j _ e
  have f:=hown.frozenAt (g:=blk) j
  refine⟨?_,?_⟩
  ·rw [Nat.zero_add,← dP,c,get_flatK _ _ _ _ hj',getElem!_pos (enc d[j / k]!) (j % k) hm]
   rfl
  ·rw [Nat.zero_add];exact f
 ·exact (hown.lt blk rfl).2
end
section
variable {P : Program} {α : Type} [Inhabited α] {enc : α → Value} {w0 W : World} {blk off : Nat} {dk d0 : Array α}
theorem Mm (h:SW enc w0 blk off dk W) (R:Row1 enc w0 blk off d0) (i:Nat) (hi:i<dk.size) (y:α):SW enc w0 blk off (dk.setIfInBounds i y) (W.setCell ⟨blk,off+i,none⟩ (enc y)):=by
 obtain⟨n,os,rfl⟩:=h
 refine⟨n,os,?_⟩
 unfold sortWorld
 rw [setCell_eq,mapBlock_grow _ _ _ _ (by simpa [putRow,mapBlock] using R.hblk),← setCell_eq,putRow_set enc _ blk off dk i y hi]
theorem FP (R:Row1 enc w0 blk off d0):∀ (zs:List α) (kk:Nat) (W:World) (dk:Array α),SW enc w0 blk off dk W→kk+zs.length≤dk.size →
  ∃ dk',SW enc w0 blk off dk' (W.setCells blk (off+kk) (zs.map enc))∧dk'.size=dk.size∧dk'.toList.take kk=dk.toList.take kk
 | [],kk,W,dk,h,_=>⟨dk,h,rfl,rfl⟩
 | z :: zs,kk,W,dk,h,hl=>by
  rw [List.length_cons] at hl
  obtain⟨dk',h1,h2,h3⟩:=FP R zs (kk+1) _ _ (Mm h R kk (by omega) z) (by rw [Array.size_setIfInBounds];omega)
  refine⟨dk',h1,by rw [h2,Array.size_setIfInBounds],?_⟩
  have q:=congrArg (List.take kk) h3
  rw [List.take_take,Nat.min_eq_left (Nat.le_succ _),Sr.nK (by omega),List.take_append_of_le_length (by rw [List.length_take,Array.length_toList];omega),List.take_take,Nat.min_self] at q
  exact q
theorem Ml (h:SW enc w0 blk off dk W) (R:Row1 enc w0 blk off d0) (hs:dk.size=d0.size) {t e ty:TypeId} {z:α} (ht:P.underlying t=some (.slice e)) (hv:∀ w,(zeroValue e).run P w=.ok (enc z) w) (hz:(enc z).cells=#[enc z]) (h1:(enc z).oneCell'=true) (kk c:Nat) (hkk:kk<dk.size) :
  ∃ W2 dk',(Builtin.clear_ #[t] ty #[.slice (some ⟨blk,off+kk,none⟩) (dk.size - kk) c]).run P W=.ok (.tuple #[]) W2∧SW enc w0 blk off dk' W2∧dk'.size=dk.size∧dk'.toList.take kk=dk.toList.take kk:=by
 obtain⟨dk',g1,g2,g3⟩:=FP R (List.replicate (dk.size - kk) z) kk W dk h (by rw [List.length_replicate];omega)
 rw [List.map_replicate] at g1
 refine⟨_,dk',?_,g1,g2,g3⟩
 have hH:=h.holds R.hblk R.hH hs
 exact Lib.run_clear_slice W t e ty (enc z) ht hv hz h1 blk (off+kk) (dk.size - kk) c (by omega) (fun j hj=>by rw [Nat.add_assoc,(hH (kk+j) (by omega)).1];rfl) (fun j hj=>by rw [Nat.add_assoc];exact (hH (kk+j) (by omega)).2)
theorem sw_keep (h:SW enc w0 blk off dk W) (j:Nat) (hj:j<w0.heap.size) (hne:j≠blk):W.heap[j]?=w0.heap[j]?:=by
 obtain⟨n,os,rfl⟩:=h
 have e1:(sortWorld enc w0 blk off n dk os).heap=(w0.heap.modify blk (onCells (putCells enc off dk)))++os:=rfl
 rw [e1,Array.getElem?_append_left (by simpa using hj),Array.getElem?_modify,if_neg (Ne.symm hne)]
theorem Mk (h:SW enc w0 blk off dk W) {B:Nat} (hB:B≤blk) (hblk:blk<w0.heap.size):Below B w0 W:=by
 have keep:=sw_keep h
 obtain⟨n,os,hw⟩:=h
 refine⟨by rw [hw];rfl,by rw [hw];rfl,by rw [hw];rfl,SW.le ⟨n,os,hw⟩,fun j hj=>keep j (by omega) (by omega)⟩
theorem FO (h:SW enc w0 blk off dk W) (R:Row1 enc w0 blk off d0) (hs:dk.size=d0.size) {l:List α} (hl:dk.toList.take l.length=l) {B:Nat} {t:TypeId} (hB:blk<B):au W B t (some ⟨blk,off,none⟩) (l.map enc):=fun _=>by
 refine⟨_,rfl,.inl hB,fun j u hu=>?_⟩
 rw [List.getElem?_map] at hu
 obtain⟨x,hx,rfl⟩:=Option.map_eq_some_iff.1 hu
 have hj:j<l.length:=by
  rcases Nat.lt_or_ge j l.length with q | q
  ·exact q
  ·rw [List.getElem?_eq_none q] at hx;cases hx
 have ll:l.length≤dk.size:=by
  have q:=congrArg List.length hl
  rw [List.length_take] at q
  have q2:dk.toList.length=dk.size:=Array.length_toList
  omega
 have hdk:dk[j]! = x:=by
  have e:dk.toList[j]?=some x:=by rw [← hx,← hl,List.getElem?_take,if_pos hj]
  rw [Array.getElem?_toList,Array.getElem?_eq_getElem (by omega)] at e
  rw [getElem!_pos dk _ (by omega)]
  exact Option.some.inj e
 rw [Addr.add_lit,← hdk]
 exact h.c1 R hs j (by omega)
theorem sw_own (h:SW enc w0 blk 0 dk W) (R:Row1 enc w0 blk 0 d0) (hs:dk.size=d0.size) {B:Nat} {t:TypeId} {n c:Nat} {ys:List Value} (hown:w0.ownsRow B t 1 (.slice (some ⟨blk,0,none⟩) n c) n ys) {l:List α} (hl:dk.toList.take l.length=l) (hm:l.length≤n) :
  W.ownsRow B t 1 (.slice (some ⟨blk,0,none⟩) l.length c) l.length (l.map enc):=by
 have hx:(l.map enc).length=l.length * 1:=by simp
 have hcl:∀ j u,(l.map enc)[j]?=some u→W.cell? ((⟨blk,0,none⟩:Addr).add j)=some u:=fun j u hu=>by
  obtain⟨ad,e,_,hc⟩:=FO h R hs hl (B:=blk+1) (t:=t) (Nat.lt_succ_self _) (fun q=>by rw [q] at hu;simp at hu)
  injection e with e
  subst e
  exact hc j u hu
 rcases hown.2 with⟨hn,_⟩ | ⟨g,cap,cur,hv,hB,hg,h1,h2,h3,_⟩
 ·cases hn
 ·injection hv with e1 _ e3
  injection e1 with e1
  injection e1 with e1
  subst e1;subst e3
  obtain⟨q,os,rfl⟩:=h
  have e1:(sortWorld enc w0 blk 0 q dk os).heap=(w0.heap.modify blk (onCells (putCells enc 0 dk)))++os:=rfl
  refine sO (cur:=putCells enc 0 dk cur) ?_ hB (by rw [← h3];unfold putCells;simp) h1 h2 hm hx hcl
  rw [e1,Array.getElem?_append_left (by simpa using R.hblk),Array.getElem?_modify,if_pos rfl,hg]
  rfl
theorem LK {t:TypeId} {c n B:Nat} {d:Array α} (hO:OneCell enc) {v:Value} (hv:v=.slice (some ⟨blk,0,none⟩) n c) (hown:w0.ownsRow B t 1 v n (d.toList.map enc)):Row1 enc w0 blk 0 d:=by
 subst hv
 refine⟨hO,fun j hj=>?_,(hown.lt blk rfl).2⟩
 have e:(d.toList.map enc)[j]?=some (enc d[j]!):=by rw [List.getElem?_map,Array.getElem?_toList,Array.getElem?_eq_getElem hj,getElem!_pos d j hj];rfl
 have c:=hown.cells (g:=blk) rfl j _ e
 have f:=hown.frozenAt (g:=blk) j
 rw [dP] at c
 rw [Nat.zero_add]
 exact⟨c,f⟩
end
end
section
section
open Go.Shelf Go.RowKit Go.Lib Go.Sort
structure yj (bo:Bool) (P:Program):Prop where
 mixed:P.follows .mixedOrders=true
 f1:P.funcs[(cond bo 182 183)]?=some (cond bo Tryz.f182 Tryz.f183)
 f2:P.funcs[(cond bo 178 179)]?=some (cond bo Tryz.f178 Tryz.f179)
 f3:P.funcs[(cond bo 168 170)]?=some (cond bo Tryz.f168 Tryz.f170)
 f4:P.funcs[(cond bo 169 171)]?=some (cond bo Tryz.f169 Tryz.f171)
 f5:P.funcs[(cond bo 152 154)]?=some (cond bo Tryz.f152 Tryz.f154)
 e1:∀ args w,(callFunc (cond bo 182 183) args).run P w=.ok (.enter (cond bo 182 183) args) w
 e2:∀ args w,(callFunc (cond bo 178 179) args).run P w=.ok (.enter (cond bo 178 179) args) w
 e3:∀ args w,(callFunc (cond bo 168 170) args).run P w=.ok (.enter (cond bo 168 170) args) w
 e4:∀ args w,(callFunc (cond bo 169 171) args).run P w=.ok (.enter (cond bo 169 171) args) w
 u0:P.underlying 0=some (.tuple #[])
 a0:∀ w,(isAgg 0).run P w=.ok false w
 z0:∀ w,(Go.sizeOf 0).run P w=.ok 1 w
 v0:∀ w,(zeroValue 0).run P w=.ok (.tuple #[]) w
 u3:P.underlying 3=some (.int .i64)
 a3:∀ w,(isAgg 3).run P w=.ok false w
 z3:∀ w,(Go.sizeOf 3).run P w=.ok 1 w
 v3:∀ w,(zeroValue 3).run P w=.ok (.int .i64 0) w
 u4:P.underlying 4=some .bool
 a4:∀ w,(isAgg 4).run P w=.ok false w
 z4:∀ w,(Go.sizeOf 4).run P w=.ok 1 w
 v4:∀ w,(zeroValue 4).run P w=.ok (.bool false) w
 u5:P.underlying 161=some (.int .u64)
 a5:∀ w,(isAgg 161).run P w=.ok false w
 z5:∀ w,(Go.sizeOf 161).run P w=.ok 1 w
 v5:∀ w,(zeroValue 161).run P w=.ok (.int .u64 0) w
 u6:P.underlying (cond bo 23 24)=some (.slice (cond bo 61 64))
 a6:∀ w,(isAgg (cond bo 23 24)).run P w=.ok false w
 z6:∀ w,(Go.sizeOf (cond bo 23 24)).run P w=.ok 1 w
 v6:∀ w,(zeroValue (cond bo 23 24)).run P w=.ok (.slice none 0 0) w
 u7:P.underlying (cond bo 150 155)=some (.func #[(cond bo 61 64),(cond bo 61 64)] #[3] false)
 a7:∀ w,(isAgg (cond bo 150 155)).run P w=.ok false w
 z7:∀ w,(Go.sizeOf (cond bo 150 155)).run P w=.ok 1 w
 v7:∀ w,(zeroValue (cond bo 150 155)).run P w=.ok .nilFunc w
 n1:(cond bo Tryz.f182 Tryz.f183).ntmps=38
 n2:(cond bo Tryz.f178 Tryz.f179).ntmps=58
 n3:(cond bo Tryz.f168 Tryz.f170).ntmps=53
 n4:(cond bo Tryz.f169 Tryz.f171).ntmps=220
 n5:(cond bo Tryz.f152 Tryz.f154).ntmps=63
variable {bo : Bool} {P : Program} {α : Type} [Inhabited α]
def SOkL (enc:α→List Value) (k:Nat) (w0:World) (blk off:Nat) (d:Array α) (l:List α) (w':World):Prop:=∃ dk:Array α,SWK enc k w0 blk off dk w'∧dk.size=d.size∧dk.toList=l
set_option maxRecDepth 1000000 in
theorem pU (L:yj bo P) (k:Nat) (aE:∀ w,(isAgg (cond bo 61 64)).run P w=.ok true w) (zE:∀ w,(Go.sizeOf (cond bo 61 64)).run P w=.ok k w) (enc:α→List Value) (blk off cap:Nat) (d0 d:Array α) (w0 w:World) (R:RowK enc k w0 blk off d0) (hs:d0.size=d.size) (S:SWK enc k w0 blk off d w) {X p M q Y:List α} (hd:d.toList=X++(p++(M++(q++Y)))) (hpq:q.length=p.length) (a b n:Nat) (ha:a=X.length) (hb:b=X.length+p.length+M.length) (hn:n=p.length) (hsz:d.size<4611686018427387904) (Gt:Value) :
  Calls P (cond bo 182 183) #[.slice (some ⟨blk,off,none⟩) d.size cap,.int .i64 a,.int .i64 b,.int .i64 n,Gt] w fun e w'=>e=.returned (.tuple #[])∧SOkL enc k w0 blk off d (X++(q++(M++(p++Y)))) w':=by
 cases bo
 all_goals
  have mixed:=L.mixed;have u0:=L.u0;have a0:=L.a0;have z0:=L.z0;have v0:=L.v0;have u3:=L.u3;have a3:=L.a3;have z3:=L.z3;have v3:=L.v3;have u4:=L.u4;have a4:=L.a4;have z4:=L.z4;have v4:=L.v4;have u5:=L.u5;have a5:=L.a5;have z5:=L.z5;have v5:=L.v5;have u6:=L.u6;have a6:=L.a6;have z6:=L.z6;have v6:=L.v6;have u7:=L.u7;have a7:=L.a7;have z7:=L.z7;have v7:=L.v7;simp only [cond_true,cond_false] at *
  have hlen:d.size=X.length+(p.length+(M.length+(q.length+Y.length))):=by have:=congrArg List.length hd;simp only [Array.length_toList,List.length_append] at this;omega
  have HD:=hid hd
  have HX:=hid ha
  have HB:=hid hb
  have HN:=hid hn
  have HQ:=hid hpq
  have S0:Aside _:=S
  have bb:b+n≤d.size:=by omega
  have ab:a+n≤b:=by omega
  have HLen:=hid hlen
  have FG:=L.f1;have NT:=L.n1;simp only [cond_true,cond_false] at FG NT
  clear hd ha hb hn hpq S hlen
  go_enter FG,NT
  go_wp2
  go_loopw [10] (fun s10 wr=>∃ (i:Nat) (dk:Array α),s10=.int .i64 i∧i≤n∧dk.size=d.size∧Aside (SWK enc k w0 blk off dk wr)∧Hid (dk.toList=X++(q.take i++(p.drop i++(M++(p.take i++(q.drop i++Y))))))) (fun s10 _=>n - (intOf s10).toNat)
  case atStart=>exact⟨0,d,rfl,Nat.zero_le _,rfl,S0,hid (by simpa using HD.out)⟩
  case round =>
   obtain⟨i,dk,rfl,hi,hds,S1,HE⟩:=hrel
   clear S0
   by_cases hlt:i<n
   ·have hlz:(i:Int)<(n:Int):=by omega
    obtain⟨pi,hpi⟩:∃ x,p.drop i=x :: p.drop (i+1)∧p[i]?=some x:=by
     have:i<p.length:=by have:=HN.out;omega
     exact⟨p[i],List.drop_eq_getElem_cons this,List.getElem?_eq_getElem this⟩
    obtain⟨qi,hqi⟩:∃ x,q.drop i=x :: q.drop (i+1)∧q[i]?=some x:=by
     have:i<q.length:=by have:=HN.out;have:=HQ.out;omega
     exact⟨q[i],List.drop_eq_getElem_cons this,List.getElem?_eq_getElem this⟩
    have HSW:Hid ((swp dk (a+i) (b+i)).toList=X++(q.take (i+1)++(p.drop (i+1)++(M++(p.take (i+1)++(q.drop (i+1)++Y)))))):=hid (by
     have h1:dk.toList=(X++q.take i)++pi :: ((p.drop (i+1)++(M++p.take i))++qi :: (q.drop (i+1)++Y)):=by rw [HE.out,hpi.1,hqi.1];simp
     have l1:(q.take i).length=i:=by rw [List.length_take];have:=HN.out;have:=HQ.out;omega
     have l2:(p.take i).length=i:=by rw [List.length_take];have:=HN.out;omega
     have l3:(p.drop (i+1)).length=p.length - (i+1):=List.length_drop
     have q1:=(Sr.rf (i:=a+i) (j:=b+i) h1 (by rw [List.length_append,l1,HX.out]) (by simp only [List.length_append,l1,l2,l3];have:=HX.out;have:=HB.out;have:=HN.out;omega)).1
     rw [q1,List.take_add_one,List.take_add_one,hpi.2,hqi.2]
     simp)
    clear hpi hqi
    have oH:((a:Int)+(i:Int)).toNat=a+i:=by omega
    have oK:(0:Int)≤(a:Int)+(i:Int):=by omega
    have oF:(a:Int)+(i:Int)<(d.size:Int):=by omega
    have oN:IntKind.i64.wrap ((a:Int)+(i:Int))=(a:Int)+(i:Int):=by rw [IntKind.wrap_i64];omega
    have oI:((b:Int)+(i:Int)).toNat=b+i:=by omega
    have oL:(0:Int)≤(b:Int)+(i:Int):=by omega
    have bc1:(b:Int)+(i:Int)<(d.size:Int):=by omega
    have oO:IntKind.i64.wrap ((b:Int)+(i:Int))=(b:Int)+(i:Int):=by rw [IntKind.wrap_i64];omega
    have S2:Aside (SWK enc k w0 blk off (swp dk (a+i) (b+i)) ((wr.drew.setCells blk (off+(a+i) * k) (enc dk[b+i]!)).setCells blk (off+(b+i) * k) (enc dk[a+i]!))):=S1.out.swapped R (a+i) (b+i) (by omega) (by omega)
    have jY:=S1.out.ld1 R (by omega) P (a+i) (by omega)
    have jZ:=S1.out.ld1 R (by omega) P (b+i) (by omega)
    have s1a:=S1.out.st1 R (by omega) P (a+i) (by omega) dk[b+i]!
    have s1b:=S1.out.st2 R (by omega) P (a+i) (b+i) (by omega) (by omega) dk[b+i]! dk[a+i]!
    have n1a:(enc dk[a+i]!).length=k:=R.hk _
    have n1b:(enc dk[b+i]!).length=k:=R.hk _
    generalize enc dk[a+i]! = cI1 at S2 jY s1b n1a
    generalize enc dk[b+i]! = cJ1 at S2 jZ s1a s1b n1b
    clear S1
    go_wp2_with fail
    go_big_region_o
    clear jY jZ s1a s1b
    generalize (wr.drew.setCells blk (off+(a+i) * k) cJ1).setCells blk (off+(b+i) * k) cI1=w2 at S2 ⊢
    clear oH oK oF oN oI oL bc1 oO
    go_wp2
    go_roundw
    case rel=>exact⟨i+1,_,by go_num,by omega,by rw [size_swp];exact hds,S2,HSW⟩
    case measure=>simp [intOf];omega
   ·obtain rfl:i=n:=by omega
    have HF:=HE.out
    have e1:q.take i=q:=List.take_of_length_le (by have:=HN.out;have:=HQ.out;omega)
    have e2:p.take i=p:=List.take_of_length_le (by have:=HN.out;omega)
    have e3:q.drop i=[]:=List.drop_of_length_le (by have:=HN.out;have:=HQ.out;omega)
    have e4:p.drop i=[]:=List.drop_of_length_le (by have:=HN.out;omega)
    rw [e1,e2,e3,e4] at HF
    have HG:Hid (dk.toList=X++(q++(M++(p++Y)))):=hid (by simpa using HF)
    clear HF e1 e2 e3 e4
    go_wp2
    go_end0
    exact⟨rfl,dk,S1.out,hds,HG.out⟩
end
end
section
section
open Go.Shelf Go.RowKit Go.Lib Go.Sort
variable {bo : Bool} {P : Program} {α : Type} [Inhabited α]
set_option maxRecDepth 1000000 in
theorem rotateL (L:yj bo P) (k:Nat) (aE:∀ w,(isAgg (cond bo 61 64)).run P w=.ok true w) (zE:∀ w,(Go.sizeOf (cond bo 61 64)).run P w=.ok k w) (enc:α→List Value) (blk off cap:Nat) (d0 d:Array α) (w0 w:World) (R:RowK enc k w0 blk off d0) (hs:d0.size=d.size) (S:SWK enc k w0 blk off d w) {X p q Y:List α} (hd:d.toList=X++(p++(q++Y))) (hp:0<p.length) (hq:0<q.length) (a m b:Nat) (ha:a=X.length) (hm:m=X.length+p.length) (hb:b=X.length+p.length+q.length) (hsz:d.size<4611686018427387904) (Gt:Value) :
  Calls P (cond bo 178 179) #[.slice (some ⟨blk,off,none⟩) d.size cap,.int .i64 a,.int .i64 m,.int .i64 b,Gt] w fun e w'=>e=.returned (.tuple #[])∧SOkL enc k w0 blk off d (X++(q++(p++Y))) w':=by
 cases bo
 all_goals
  have mixed:=L.mixed;have u0:=L.u0;have a0:=L.a0;have z0:=L.z0;have v0:=L.v0;have u3:=L.u3;have a3:=L.a3;have z3:=L.z3;have v3:=L.v3;have u4:=L.u4;have a4:=L.a4;have z4:=L.z4;have v4:=L.v4;have u5:=L.u5;have a5:=L.a5;have z5:=L.z5;have v5:=L.v5;have u6:=L.u6;have a6:=L.a6;have z6:=L.z6;have v6:=L.v6;have u7:=L.u7;have a7:=L.a7;have z7:=L.z7;have v7:=L.v7;simp only [cond_true,cond_false] at *
  have hlen:d.size=X.length+(p.length+(q.length+Y.length)):=by have:=congrArg List.length hd;simp only [Array.length_toList,List.length_append] at this;omega
  have HD:=hid hd
  have HX:=hid ha
  have HM:=hid hm
  have HB:=hid hb
  have S0:Aside _:=S
  have bb:b≤d.size:=by omega
  have am:a<m:=by omega
  have mb:m<b:=by omega
  have FG:=L.f2;have NT:=L.n2;simp only [cond_true,cond_false] at FG NT
  have e1:=L.e1;simp only [cond_true,cond_false] at *
  clear hd ha hm hb S hlen
  go_enter FG,NT
  go_wp2
  go_loopw [10,11] (fun s10 s11 wr=>∃ (i j:Nat) (dk:Array α) (X' p' q' Y':List α),s10=.int .i64 i∧s11=.int .i64 j∧0<i∧0<j∧i≤m∧m+j≤b∧dk.size=d.size∧Aside (SWK enc k w0 blk off dk wr) ∧
   Hid (p'.length=i∧q'.length=j∧X'.length+i=m∧dk.toList=X'++(p'++(q'++Y'))∧X'++(q'++(p'++Y'))=X++(q++(p++Y)))) (fun s10 s11 _=>(intOf s10).toNat+(intOf s11).toNat)
  case atStart=>exact⟨m - a,b - m,d,X,p,q,Y,by congr 1 <;> omega,by congr 1 <;> omega,by omega,by omega,by omega,by omega,rfl,S0,hid ⟨by have:=HX.out;have:=HM.out;omega,by have:=HM.out;have:=HB.out;omega,by have:=HX.out;have:=HM.out;omega,HD.out,rfl⟩⟩
  case round =>
   obtain⟨i,j,dk,X',p',q',Y',rfl,rfl,hi,hj,him,hjb,hds,S1,HE⟩:=hrel
   clear S0
   rcases Nat.lt_trichotomy i j with hlt | hlt | hlt
   ·have hne:((i:Int)==(j:Int))=false:=by simp;omega
    have hne2:((i:Int) != (j:Int))=true:=by simp;omega
    have hgt:¬ ((j:Int)<(i:Int)):=by omega
    have hcall:=pU (P:=P) L k aE zE enc blk off cap d0 dk w0 wr R (by omega) S1.out (X:=X') (p:=p') (M:=q'.take (j - i)) (q:=q'.drop (j - i)) (Y:=Y') (by rw [HE.out.2.2.2.1,← List.append_assoc (q'.take _),List.take_append_drop]) (by rw [List.length_drop];have:=HE.out.1;have:=HE.out.2.1;omega) (m - i) (m+j - i) i (by have:=HE.out.2.2.1;omega) (by rw [List.length_take];have:=HE.out.1;have:=HE.out.2.1;have:=HE.out.2.2.1;omega) HE.out.1.symm (by omega) Gt
    rw [hds,show ((m - i:Nat):Int)=(m:Int) - (i:Int) by omega,show ((m+j - i:Nat):Int)=(m:Int)+(j:Int) - (i:Int) by omega] at hcall
    clear S1
    go_wp2_with ((first | go_at_fn 182 | go_at_fn 183);(try simp only [cond_true,cond_false] at hcall);refine hcall.mono ?_;rintro e w1 ⟨rfl,dk1,S2,hd1,hl1⟩)
    have S3:Aside _:=S2
    have HL:=hid hl1
    clear S2 hl1
    go_wp2
    go_roundw
    case rel=>exact⟨i,j - i,dk1,X',q'.drop (j - i),q'.take (j - i),p'++Y',rfl,by congr 1 <;> omega,hi,by omega,him,by omega,by omega,S3,hid ⟨by rw [List.length_drop];have:=HE.out.1;have:=HE.out.2.1;omega,by rw [List.length_take];have:=HE.out.2.1;omega,HE.out.2.2.1,by rw [HL.out],by rw [← HE.out.2.2.2.2,← List.append_assoc (q'.take _),List.take_append_drop]⟩⟩
    case measure=>simp [intOf];omega
   ·subst hlt
    have hcall:=pU (P:=P) L k aE zE enc blk off cap d0 dk w0 wr R (by omega) S1.out (X:=X') (p:=p') (M:=[]) (q:=q') (Y:=Y') (by rw [HE.out.2.2.2.1];rfl) (by have:=HE.out.1;have:=HE.out.2.1;omega) (m - i) m i (by have:=HE.out.2.2.1;omega) (by have:=HE.out.1;have:=HE.out.2.2.1;simp;omega) HE.out.1.symm (by omega) Gt
    rw [hds,show ((m - i:Nat):Int)=(m:Int) - (i:Int) by omega] at hcall
    clear S1
    go_wp2_with ((first | go_at_fn 182 | go_at_fn 183);(try simp only [cond_true,cond_false] at hcall);refine hcall.mono ?_;rintro e w1 ⟨rfl,dk1,S2,hd1,hl1⟩)
    have S3:Aside _:=S2
    have HL:=hid hl1
    clear S2 hl1
    go_wp2
    go_end0
    exact⟨rfl,dk1,S3.out,by omega,by rw [HL.out,← HE.out.2.2.2.2];rfl⟩
   ·have hne:((i:Int)==(j:Int))=false:=by simp;omega
    have hne2:((i:Int) != (j:Int))=true:=by simp;omega
    have hgt:(j:Int)<(i:Int):=by omega
    have hcall:=pU (P:=P) L k aE zE enc blk off cap d0 dk w0 wr R (by omega) S1.out (X:=X') (p:=p'.take j) (M:=p'.drop j) (q:=q') (Y:=Y') (by rw [HE.out.2.2.2.1,← List.append_assoc (p'.take _),List.take_append_drop]) (by rw [List.length_take];have:=HE.out.1;have:=HE.out.2.1;omega) (m - i) m j (by have:=HE.out.2.2.1;omega) (by rw [List.length_take,List.length_drop];have:=HE.out.1;have:=HE.out.2.1;have:=HE.out.2.2.1;omega) (by rw [List.length_take];have:=HE.out.1;omega) (by omega) Gt
    rw [hds,show ((m - i:Nat):Int)=(m:Int) - (i:Int) by omega] at hcall
    clear S1
    go_wp2_with ((first | go_at_fn 182 | go_at_fn 183);(try simp only [cond_true,cond_false] at hcall);refine hcall.mono ?_;rintro e w1 ⟨rfl,dk1,S2,hd1,hl1⟩)
    have S3:Aside _:=S2
    have HL:=hid hl1
    clear S2 hl1
    go_wp2
    go_roundw
    case rel=>exact⟨i - j,j,dk1,X'++q',p'.drop j,p'.take j,Y',by congr 1 <;> omega,rfl,by omega,hj,by omega,hjb,by omega,S3,hid ⟨by rw [List.length_drop];have:=HE.out.1;omega,by rw [List.length_take];have:=HE.out.1;omega,by rw [List.length_append];have:=HE.out.2.1;have:=HE.out.2.2.1;omega,by rw [HL.out];simp,by rw [← HE.out.2.2.2.2,List.append_assoc,← List.append_assoc (p'.take _),List.take_append_drop]⟩⟩
    case measure=>simp [intOf];omega
def mK (cf:α→α→Int) (enc:α→List Value) (k:Nat) (w0:World) (blk off:Nat) (d:Array α) (A B C:List α) (w':World):Prop :=
 ∃ (dk:Array α) (W:List α),SWK enc k w0 blk off dk w'∧dk.size=d.size∧dk.toList=A++(W++C)∧W.length=B.length∧Sr.gu (ltOf cf) W∧Sr.gM (ltOf cf) B W
set_option maxRecDepth 1000000 in
theorem uT (L:yj bo P) (k:Nat) (aE:∀ w,(isAgg (cond bo 61 64)).run P w=.ok true w) (zE:∀ w,(Go.sizeOf (cond bo 61 64)).run P w=.ok k w) (enc:α→List Value) (blk off cap:Nat) (d0 d:Array α) (w0 w:World) (R:RowK enc k w0 blk off d0) (hs:d0.size=d.size) (S:SWK enc k w0 blk off d w) (cf:α→α→Int) (g:Nat) (cb:Array Value) (eg:∀ args w,(callFunc g args).run P w=.ok (.enter g args) w) (hcmp:CmpLays P g cb enc k cf blk off d0.size w0) (ho:Sr.WO (ltOf cf)) {A B C:List α} (hd:d.toList=A++(B++C)) (a b:Nat) (ha:a=A.length) (hb:b=A.length+B.length) (hsz:d.size<4611686018427387904) :
  Calls P (cond bo 168 170) #[.slice (some ⟨blk,off,none⟩) d.size cap,.int .i64 a,.int .i64 b,.func (.func g) #[] cb] w fun e w'=>e=.returned (.tuple #[])∧mK cf enc k w0 blk off d A B C w':=by
 cases bo
 all_goals
  have mixed:=L.mixed;have u0:=L.u0;have a0:=L.a0;have z0:=L.z0;have v0:=L.v0;have u3:=L.u3;have a3:=L.a3;have z3:=L.z3;have v3:=L.v3;have u4:=L.u4;have a4:=L.a4;have z4:=L.z4;have v4:=L.v4;have u5:=L.u5;have a5:=L.a5;have z5:=L.z5;have v5:=L.v5;have u6:=L.u6;have a6:=L.a6;have z6:=L.z6;have v6:=L.v6;have u7:=L.u7;have a7:=L.a7;have z7:=L.z7;have v7:=L.v7;simp only [cond_true,cond_false] at *
  have hlen:d.size=A.length+(B.length+C.length):=by have:=congrArg List.length hd;simp only [Array.length_toList,List.length_append] at this;omega
  have HD:=hid hd
  have HA:=hid ha
  have zO:=hid hb
  have HC:Aside _:=hcmp
  have S0:Aside _:=S
  have bb:b≤d.size:=by omega
  have ab:a≤b:=by omega
  have FG:=L.f3;have NT:=L.n3;simp only [cond_true,cond_false] at FG NT
  clear hd ha hb S hlen hcmp
  go_enter FG,NT
  go_wp2
  go_loopw [8] (fun s8 wr=>∃ (i:Nat) (dk:Array α) (T R' W:List α),s8=.int .i64 i∧a<i∧i≤b+1∧dk.size=d.size∧Aside (SWK enc k w0 blk off dk wr) ∧
   Hid (B=T++R'∧(i<b→a+T.length=i)∧(b≤i→R'=[])∧dk.toList=A++(W++(R'++C))∧W.length=T.length∧Sr.gu (ltOf cf) W∧Sr.gM (ltOf cf) T W)) (fun s8 _=>b+1 - (intOf s8).toNat)
  case atStart =>
   refine⟨a+1,d,B.take 1,B.drop 1,B.take 1,by go_num,by omega,by omega,rfl,S0,hid ⟨(List.take_append_drop 1 B).symm,fun h=>by rw [List.length_take];have:=HA.out;have:=zO.out;omega,fun h=>List.drop_of_length_le (by have:=HA.out;have:=zO.out;omega),by rw [← List.append_assoc (B.take 1),List.take_append_drop];exact HD.out,rfl,?_,Sr.gM.refl _⟩⟩
   rcases B with _ | ⟨x,B⟩
   ·exact Sr.gu.nil
   ·exact Sr.gu.one x
  case round =>
   obtain⟨i,dk,T,R',W,rfl,hai,hib,hds,S1,HE⟩:=hrel
   clear S0
   by_cases hlt:i<b
   ·have hltz:(i:Int)<(b:Int):=by omega
    obtain⟨x,R2,hR⟩:∃ x R2,R'=x :: R2:=by
     have h1:=HE.out.1
     have h2:=HE.out.2.1 hlt
     have h3:=congrArg List.length h1
     rw [List.length_append] at h3
     have:=HA.out;have:=zO.out
     cases hq:R' with
     | nil=>rw [hq] at h3;simp at h3;omega
     | cons x R2=>exact⟨x,R2,rfl⟩
    have HI0:Hid (Sr.Ins (ltOf cf) A (T++[x]) (R2++C) dk.toList i):=hid (by
     have:=Sr.Ins.start (lt:=ltOf cf) (A:=A) (T:=T) (C:=R2++C) (m:=dk.toList) (x:=x) (W:=W) (by rw [HE.out.2.2.2.1,hR];simp) HE.out.2.2.2.2.1 HE.out.2.2.2.2.2.1 HE.out.2.2.2.2.2.2
     rwa [show A.length+W.length=i by have:=HE.out.2.1 hlt;have:=HE.out.2.2.2.2.1;have:=HA.out;omega] at this)
    have HR:=hid hR
    clear hR
    go_wp2
    go_loopw [9] (fun s9 wr2=>∃ (j:Nat) (dj:Array α),s9=.int .i64 j∧a≤j∧j≤i∧dj.size=d.size∧Aside (SWK enc k w0 blk off dj wr2)∧Hid (Sr.Ins (ltOf cf) A (T++[x]) (R2++C) dj.toList j)) (fun s9 _=>(intOf s9).toNat)
    case atStart=>exact⟨i,dk,rfl,by omega,Nat.le_refl _,hds,S1,HI0⟩
    case round =>
     clear S1
     obtain⟨j,dj,rfl,haj,hji,hsj,S1,HI⟩:=hrel
     have OUT:Hid ((j≤a∨ltOf cf dj[j]! dj[j - 1]! = false)→B=(T++[x])++R2∧(i+1<b→a+(T++[x]).length=i+1)∧(b≤i+1→R2=[])∧∃ W2:List α,dj.toList=A++(W2++(R2++C))∧W2.length=(T++[x]).length∧Sr.gu (ltOf cf) W2∧Sr.gM (ltOf cf) (T++[x]) W2):=hid fun hst=>by
      have q1:B=(T++[x])++R2:=by rw [HE.out.1,HR.out];simp
      have q2:=HE.out.2.1 hlt
      have q3:=congrArg List.length q1
      rw [List.length_append,List.length_append,List.length_singleton] at q3
      refine⟨q1,fun _=>by rw [List.length_append,List.length_singleton];omega,fun _=>List.length_eq_zero_iff.1 (by have:=HA.out;have:=zO.out;omega),?_⟩
      exact HI.out.stop ho (hst.imp (fun q=>by have:=HA.out;omega) id)
     by_cases hja:a<j
     ·obtain⟨jp,rfl⟩:∃ jp,j=jp+1:=⟨j - 1,by omega⟩
      have hjaz':(a:Int)<(jp:Int)+1:=by omega
      have hwp:IntKind.i64.wrap (jp:Int)=(jp:Int):=by rw [IntKind.wrap_i64];omega
      have jz1:(jp:Int)<(d.size:Int):=by omega
      cases hL:ltOf cf dj[jp+1]! dj[jp]! with
      | true =>
       have HL:=hid hL
       have oH:((jp:Int)+1).toNat=jp+1:=by omega
       have oK:(0:Int)≤(jp:Int)+1:=by omega
       have oF:(jp:Int)+1<(d.size:Int):=by omega
       have oN:IntKind.i64.wrap ((jp:Int)+1)=(jp:Int)+1:=by rw [IntKind.wrap_i64];omega
       have oI:((jp:Int)).toNat=jp:=by omega
       have oL:(0:Int)≤(jp:Int):=by omega
       have bc1:(jp:Int)<(d.size:Int):=by omega
       have oO:IntKind.i64.wrap ((jp:Int))=(jp:Int):=by rw [IntKind.wrap_i64];omega
       obtain⟨x1,hx1⟩:∃ x,x=dj[jp+1]!:=⟨_,rfl⟩
       obtain⟨y1,hy1⟩:∃ x,x=dj[jp]!:=⟨_,rfl⟩
       have jY:=S1.out.ld R (by omega) P (jp+1) (by omega)
       have jZ:=S1.out.ld R (by omega) P (jp) (by omega)
       rw [← hx1] at jY
       rw [← hy1] at jZ
       have hc1:=S1.out.cmp HC.out (by omega) x1 y1
       have hv1:cf x1 y1<0:=by rw [hx1,hy1];exact of_decide_eq_true hL
       have hd1:decide (cf x1 y1<0)=true:=decide_eq_true hv1
       clear hx1 hy1
       go_wp2_with fail
       go_quiet_grown (first | (go_at_fn g;refine Calls.grown_of (hc1 _ _)))
       have S2:Aside (SWK enc k w0 blk off dj (grow (wr.drewN nq) osq)):=S1.out.grown nq osq
       clear jY jZ hc1 S1
       generalize grow (wr.drewN nq) osq=w2 at S2 ⊢
       clear nq osq oH oK oF oN oI oL bc1 oO
       clear hL
       go_wp2_with fail
       have HSW:Hid (Sr.Ins (ltOf cf) A (T++[x]) (R2++C) (swp dj (jp+1) jp).toList jp):=hid (HI.out.step ho (by have:=HA.out;omega) HL.out)
       have yI:((jp:Int)+1).toNat=jp+1:=by omega
       have y7:(0:Int)≤(jp:Int)+1:=by omega
       have yn:(jp:Int)+1<(d.size:Int):=by omega
       have zb:IntKind.i64.wrap ((jp:Int)+1)=(jp:Int)+1:=by rw [IntKind.wrap_i64];omega
       have yK:((jp:Int)).toNat=jp:=by omega
       have y9:(0:Int)≤(jp:Int):=by omega
       have bc2:(jp:Int)<(d.size:Int):=by omega
       have ze:IntKind.i64.wrap ((jp:Int))=(jp:Int):=by rw [IntKind.wrap_i64];omega
       have S3:Aside (SWK enc k w0 blk off (swp dj (jp+1) (jp)) ((w2.drew.setCells blk (off+(jp+1) * k) (enc dj[jp]!)).setCells blk (off+(jp) * k) (enc dj[jp+1]!))):=S2.out.swapped R (jp+1) (jp) (by omega) (by omega)
       have oV:=S2.out.ld1 R (by omega) P (jp+1) (by omega)
       have oW:=S2.out.ld1 R (by omega) P (jp) (by omega)
       have s2a:=S2.out.st1 R (by omega) P (jp+1) (by omega) dj[jp]!
       have LQ:=S2.out.st2 R (by omega) P (jp+1) (jp) (by omega) (by omega) dj[jp]! dj[jp+1]!
       have n2a:(enc dj[jp+1]!).length=k:=R.hk _
       have n2b:(enc dj[jp]!).length=k:=R.hk _
       generalize enc dj[jp+1]! = cI2 at S3 oV LQ n2a
       generalize enc dj[jp]! = cJ2 at S3 oW s2a LQ n2b
       clear S2
       go_wp2_with fail
       go_big_region_o
       clear oV oW s2a LQ
       generalize (w2.drew.setCells blk (off+(jp+1) * k) cJ2).setCells blk (off+(jp) * k) cI2=w3 at S3 ⊢
       clear yI y7 yn zb yK y9 bc2 ze
       go_wp2
       go_roundw
       case rel=>exact⟨jp,_,by first | rfl | go_num | (congr 1;omega),by omega,by omega,by rw [size_swp];exact hsj,S3,HSW⟩
       case measure=>simp [intOf] <;> omega
      | false =>
       have HL:=hid hL
       have oH:((jp:Int)+1).toNat=jp+1:=by omega
       have oK:(0:Int)≤(jp:Int)+1:=by omega
       have oF:(jp:Int)+1<(d.size:Int):=by omega
       have oN:IntKind.i64.wrap ((jp:Int)+1)=(jp:Int)+1:=by rw [IntKind.wrap_i64];omega
       have oI:((jp:Int)).toNat=jp:=by omega
       have oL:(0:Int)≤(jp:Int):=by omega
       have bc1:(jp:Int)<(d.size:Int):=by omega
       have oO:IntKind.i64.wrap ((jp:Int))=(jp:Int):=by rw [IntKind.wrap_i64];omega
       obtain⟨x1,hx1⟩:∃ x,x=dj[jp+1]!:=⟨_,rfl⟩
       obtain⟨y1,hy1⟩:∃ x,x=dj[jp]!:=⟨_,rfl⟩
       have jY:=S1.out.ld R (by omega) P (jp+1) (by omega)
       have jZ:=S1.out.ld R (by omega) P (jp) (by omega)
       rw [← hx1] at jY
       rw [← hy1] at jZ
       have hc1:=S1.out.cmp HC.out (by omega) x1 y1
       have hv1:¬ cf x1 y1<0:=by rw [hx1,hy1];exact of_decide_eq_false hL
       have hd1:decide (cf x1 y1<0)=false:=decide_eq_false hv1
       clear hx1 hy1
       go_wp2_with fail
       go_quiet_grown (first | (go_at_fn g;refine Calls.grown_of (hc1 _ _)))
       have S2:Aside (SWK enc k w0 blk off dj (grow (wr.drewN nq) osq)):=S1.out.grown nq osq
       clear jY jZ hc1 S1
       generalize grow (wr.drewN nq) osq=w2 at S2 ⊢
       clear nq osq oH oK oF oN oI oL bc1 oO
       clear hL
       go_wp2
       go_roundw
       case rel =>
        obtain⟨o1,o2,o3,W2,o4,o5,o6,o7⟩:=OUT.out (.inr HL.out)
        exact⟨i+1,dj,T++[x],R2,W2,by go_num,by omega,by omega,hsj,S2,hid ⟨o1,o2,o3,o4,o5,o6,o7⟩⟩
       case measure=>simp [intOf];omega
     ·have hjaz:decide ((j:Int) > (a:Int))=false:=decide_eq_false (by omega)
      have hjaz':¬ (a:Int)<(j:Int):=by omega
      have S2:Aside (SWK enc k w0 blk off dj wr.drew):=S1.out.drew
      clear S1
      go_wp2_with fail
      go_big_region_o
      all_goals go_wp2
      go_roundw
      case rel =>
       obtain⟨o1,o2,o3,W2,o4,o5,o6,o7⟩:=OUT.out (.inl (by omega))
       exact⟨i+1,dj,T++[x],R2,W2,by go_num,by omega,by omega,hsj,S2,hid ⟨o1,o2,o3,o4,o5,o6,o7⟩⟩
      case measure=>simp [intOf];omega
   ·have hltz:¬ (i:Int)<(b:Int):=by omega
    obtain⟨h1,h2,h3,h4,h5,h6,h7⟩:=HE.out
    have h3:=h3 (by omega)
    subst h3
    rw [List.append_nil] at h1
    subst h1
    have HE2:Hid _:=hid (And.intro h4 (And.intro h5 (And.intro h6 h7)))
    clear h2 h4 h5 h6 h7
    go_wp2
    go_end0
    exact⟨rfl,dk,W,S1.out,hds,by have:=HE2.out.1;simpa using this,HE2.out.2.1,HE2.out.2.2.1,HE2.out.2.2.2⟩
end
section
open Go.Shelf Go.RowKit Go.Lib Go.Sort
variable {bo : Bool} {P : Program} {α : Type} [Inhabited α]
end
end
section
section
open Go.Shelf Go.RowKit Go.Lib Go.Sort
variable {bo : Bool} {P : Program} {α : Type} [Inhabited α]
set_option maxRecDepth 1000000 in
theorem symOneL (L:yj bo P) (k:Nat) (aE:∀ w,(isAgg (cond bo 61 64)).run P w=.ok true w) (zE:∀ w,(Go.sizeOf (cond bo 61 64)).run P w=.ok k w) (enc:α→List Value) (blk off cap:Nat) (d0 d:Array α) (w0 w:World) (R:RowK enc k w0 blk off d0) (hs:d0.size=d.size) (S:SWK enc k w0 blk off d w) (cf:α→α→Int) (g:Nat) (cb:Array Value) (eg:∀ args w,(callFunc g args).run P w=.ok (.enter g args) w) (hcmp:CmpLays P g cb enc k cf blk off d0.size w0) (ho:Sr.WO (ltOf cf)) {A V C:List α} {x:α} (hd:d.toList=A++(x :: V++C)) (sv:Sr.gu (ltOf cf) V) (a m b:Nat) (ha:a=A.length) (hm:m=A.length+1) (hb:b=A.length+1+V.length) (hsz:d.size<4611686018427387904) :
  Calls P (cond bo 169 171) #[.slice (some ⟨blk,off,none⟩) d.size cap,.int .i64 a,.int .i64 m,.int .i64 b,.func (.func g) #[] cb] w fun e w'=>e=.returned (.tuple #[])∧mK cf enc k w0 blk off d A (x :: V) C w':=by
 cases bo
 all_goals
  have mixed:=L.mixed;have u0:=L.u0;have a0:=L.a0;have z0:=L.z0;have v0:=L.v0;have u3:=L.u3;have a3:=L.a3;have z3:=L.z3;have v3:=L.v3;have u4:=L.u4;have a4:=L.a4;have z4:=L.z4;have v4:=L.v4;have u5:=L.u5;have a5:=L.a5;have z5:=L.z5;have v5:=L.v5;have u6:=L.u6;have a6:=L.a6;have z6:=L.z6;have v6:=L.v6;have u7:=L.u7;have a7:=L.a7;have z7:=L.z7;have v7:=L.v7;simp only [cond_true,cond_false] at *
  have hlen:d.size=A.length+(1+V.length+C.length):=by have:=congrArg List.length hd;simp only [Array.length_toList,List.length_append,List.length_cons] at this;omega
  have HX:Hid (d[a]! = x):=hid (Sr.mM (A:=A) (x:=x) (B:=V++C) (by rw [hd];simp) ha).1
  have HP:Hid (∀ n y,V[n]?=some y→d[a+1+n]! = y):=hid fun n y h=>Sr.ol (P:=A++[x]) (L:=V) (Q:=C) (by rw [hd];simp) h (by simp;omega)
  have HD:=hid hd
  have HA:=hid ha
  have zO:=hid hb
  have HC:Aside _:=hcmp
  have S0:Aside _:=S
  have bb:b≤d.size:=by omega
  have am:m≤a+1:=by omega
  have am2:a+1≤m:=by omega
  have mb:m≤b:=by omega
  have vl:V.length=b - (a+1):=by omega
  have VL:=hid vl
  have FG:=L.f4;have NT:=L.n4;simp only [cond_true,cond_false] at FG NT
  clear hd ha hb hm S hlen hcmp vl
  have w1:IntKind.i64.wrap ((m:Int) - (a:Int))=1:=by rw [IntKind.wrap_i64];omega
  have w2:(m:Int) - (a:Int)=1:=by omega
  go_enter FG,NT
  go_wp2_with fail
  go_loopw [10,11] (fun s10 s11 wr=>∃ i j:Nat,s10=.int .i64 i∧s11=.int .i64 j∧a+1≤i∧i≤j∧j≤b∧Aside (SWK enc k w0 blk off d wr)∧Hid ((∀ z∈V.take (i - (a+1)),ltOf cf z x=true)∧(∀ z∈V.drop (j - (a+1)),ltOf cf z x=false))) (fun s10 s11 _=>(intOf s11).toNat - (intOf s10).toNat)
  case atStart=>exact⟨m,b,rfl,rfl,am2,mb,Nat.le_refl _,S0,hid ⟨by rw [show m - (a+1)=0 by omega];simp,by rw [List.drop_of_length_le (by have:=VL.out;omega)];simp⟩⟩
  case round =>
   obtain⟨i,j,rfl,rfl,h1,h2,h3,S1,HE⟩:=hrel
   clear S0
   by_cases hlt:i<j
   ·obtain⟨h,hh1,DR⟩:∃ h:Nat,2 * h≤i+j∧i+j<2 * h+2:=⟨(i+j) / 2,by omega,by omega⟩
    obtain⟨z,hz1,hz2,hz3,Kg⟩:=Sr.lq (L:=V) (n:=h - (a+1)) (by have:=VL.out;omega)
    have HZ:Hid (d[h]! = z):=hid (by have:=HP.out _ _ hz2;rwa [show a+1+(h - (a+1))=h by omega] at this)
    have SV:Hid (Sr.gu (ltOf cf) (V.take (h - (a+1))++z :: V.drop (h - (a+1)+1))):=hid (by rw [← hz1];exact sv)
    have HZ3:=hid hz3
    have HZ4:=hid Kg
    clear hz1 hz2 hz3 Kg
    cases hL:ltOf cf d[h]! d[a]! with
    | true =>
     have HN:Hid (∀ z'∈V.take (h+1 - (a+1)),ltOf cf z' x=true):=hid (by
      rw [show h+1 - (a+1)=h - (a+1)+1 by omega,HZ4.out]
      exact Sr.Jc ho SV.out (by rw [← HZ.out,← HX.out];exact hL))
     have oH:(((i:Int)+(j:Int)) / 2).toNat=h:=by omega
     have oK:(0:Int)≤((i:Int)+(j:Int)) / 2:=by omega
     have oF:((i:Int)+(j:Int)) / 2<(d.size:Int):=by omega
     have oN:IntKind.i64.wrap (((i:Int)+(j:Int)) / 2)=((i:Int)+(j:Int)) / 2:=by rw [IntKind.wrap_i64];omega
     have oI:((a:Int)).toNat=a:=by omega
     have oL:(0:Int)≤(a:Int):=by omega
     have bc1:(a:Int)<(d.size:Int):=by omega
     have oO:IntKind.i64.wrap ((a:Int))=(a:Int):=by rw [IntKind.wrap_i64];omega
     obtain⟨x1,hx1⟩:∃ x,x=d[h]!:=⟨_,rfl⟩
     obtain⟨y1,hy1⟩:∃ x,x=d[a]!:=⟨_,rfl⟩
     have jY:=S1.out.ld R (by omega) P (h) (by omega)
     have jZ:=S1.out.ld R (by omega) P (a) (by omega)
     rw [← hx1] at jY
     rw [← hy1] at jZ
     have hc1:=S1.out.cmp HC.out (by omega) x1 y1
     have hv1:cf x1 y1<0:=by rw [hx1,hy1];exact of_decide_eq_true hL
     have hd1:decide (cf x1 y1<0)=true:=decide_eq_true hv1
     clear hx1 hy1
     go_wp2_with fail
     go_quiet_grown (first | (go_at_fn g;refine Calls.grown_of (hc1 _ _)))
     have S2:Aside (SWK enc k w0 blk off d (grow (wr.drewN nq) osq)):=S1.out.grown nq osq
     clear jY jZ hc1 S1
     generalize grow (wr.drewN nq) osq=w2 at S2 ⊢
     clear nq osq oH oK oF oN oI oL bc1 oO
     clear hL
     have eh:((i:Int)+(j:Int)) / 2=(h:Int):=by omega
     go_wp2
     go_roundw
     case rel=>exact⟨h+1,j,by go_num,rfl,by omega,by omega,h3,S2,hid ⟨HN.out,HE.out.2⟩⟩
     case measure=>simp [intOf];omega
    | false =>
     have HN:Hid (∀ z'∈V.drop (h - (a+1)),ltOf cf z' x=false):=hid (by
      rw [HZ3.out]
      exact Sr.all_ge ho SV.out (by rw [← HZ.out,← HX.out];exact hL))
     have oH:(((i:Int)+(j:Int)) / 2).toNat=h:=by omega
     have oK:(0:Int)≤((i:Int)+(j:Int)) / 2:=by omega
     have oF:((i:Int)+(j:Int)) / 2<(d.size:Int):=by omega
     have oN:IntKind.i64.wrap (((i:Int)+(j:Int)) / 2)=((i:Int)+(j:Int)) / 2:=by rw [IntKind.wrap_i64];omega
     have oI:((a:Int)).toNat=a:=by omega
     have oL:(0:Int)≤(a:Int):=by omega
     have bc1:(a:Int)<(d.size:Int):=by omega
     have oO:IntKind.i64.wrap ((a:Int))=(a:Int):=by rw [IntKind.wrap_i64];omega
     obtain⟨x1,hx1⟩:∃ x,x=d[h]!:=⟨_,rfl⟩
     obtain⟨y1,hy1⟩:∃ x,x=d[a]!:=⟨_,rfl⟩
     have jY:=S1.out.ld R (by omega) P (h) (by omega)
     have jZ:=S1.out.ld R (by omega) P (a) (by omega)
     rw [← hx1] at jY
     rw [← hy1] at jZ
     have hc1:=S1.out.cmp HC.out (by omega) x1 y1
     have hv1:¬ cf x1 y1<0:=by rw [hx1,hy1];exact of_decide_eq_false hL
     have hd1:decide (cf x1 y1<0)=false:=decide_eq_false hv1
     clear hx1 hy1
     go_wp2_with fail
     go_quiet_grown (first | (go_at_fn g;refine Calls.grown_of (hc1 _ _)))
     have S2:Aside (SWK enc k w0 blk off d (grow (wr.drewN nq) osq)):=S1.out.grown nq osq
     clear jY jZ hc1 S1
     generalize grow (wr.drewN nq) osq=w2 at S2 ⊢
     clear nq osq oH oK oF oN oI oL bc1 oO
     clear hL
     have eh:((i:Int)+(j:Int)) / 2=(h:Int):=by omega
     go_wp2
     go_roundw
     case rel=>exact⟨i,h,rfl,by go_num,h1,by omega,by omega,S2,hid ⟨HE.out.1,HN.out⟩⟩
     case measure=>simp [intOf];omega
   ·obtain rfl:i=j:=by omega
    clear h2
    go_wp2_with fail
    go_loopw [13] (fun s13 wr2=>∃ (kk:Nat) (dk:Array α),s13=.int .i64 kk∧a≤kk∧kk+1≤i∧dk.size=d.size∧Aside (SWK enc k w0 blk off dk wr2)∧Hid (dk.toList=A++(V.take (kk - a)++x :: (V.drop (kk - a)++C)))) (fun s13 _=>i - (intOf s13).toNat)
    case atStart=>exact⟨a,d,rfl,Nat.le_refl _,h1,rfl,S1,hid (by rw [HD.out];simp)⟩
    case round =>
     clear S1
     obtain⟨kk,dk,rfl,k1,k2,hds,S1,HF⟩:=hrel
     by_cases hlt2:kk+1<i
     ·have hlz:(kk:Int)<(i:Int) - 1:=by omega
      obtain⟨z,hz1,hz2,hz3,Kg⟩:=Sr.lq (L:=V) (n:=kk - a) (by have:=VL.out;omega)
      have HSW:Hid ((swp dk kk (kk+1)).toList=A++(V.take (kk+1 - a)++x :: (V.drop (kk+1 - a)++C))):=hid (by
       have q:=(Sr.rf (d:=dk) (A:=A++V.take (kk - a)) (B:=[]) (C:=V.drop (kk - a+1)++C) (x:=x) (y:=z) (i:=kk) (j:=kk+1) (by rw [HF.out,hz3];simp) (by rw [List.length_append,List.length_take];have:=VL.out;have:=HA.out;omega) (by rw [List.length_append,List.length_take];have:=VL.out;have:=HA.out;simp;omega)).1
       rw [q,show kk+1 - a=kk - a+1 by omega,Kg]
       simp)
      clear hz1 hz2 hz3 Kg
      have dsz:dk.size=d.size:=hds
      have yI:((kk:Int)).toNat=kk:=by omega
      have y7:(0:Int)≤(kk:Int):=by omega
      have yn:(kk:Int)<(d.size:Int):=by omega
      have zb:IntKind.i64.wrap ((kk:Int))=(kk:Int):=by rw [IntKind.wrap_i64];omega
      have yK:((kk:Int)+1).toNat=kk+1:=by omega
      have y9:(0:Int)≤(kk:Int)+1:=by omega
      have bc2:(kk:Int)+1<(d.size:Int):=by omega
      have ze:IntKind.i64.wrap ((kk:Int)+1)=(kk:Int)+1:=by rw [IntKind.wrap_i64];omega
      have S2:Aside (SWK enc k w0 blk off (swp dk (kk) (kk+1)) ((wr.drew.setCells blk (off+(kk) * k) (enc dk[kk+1]!)).setCells blk (off+(kk+1) * k) (enc dk[kk]!))):=S1.out.swapped R (kk) (kk+1) (by omega) (by omega)
      have oV:=S1.out.ld1 R (by omega) P (kk) (by omega)
      have oW:=S1.out.ld1 R (by omega) P (kk+1) (by omega)
      have s2a:=S1.out.st1 R (by omega) P (kk) (by omega) dk[kk+1]!
      have LQ:=S1.out.st2 R (by omega) P (kk) (kk+1) (by omega) (by omega) dk[kk+1]! dk[kk]!
      have n2a:(enc dk[kk]!).length=k:=R.hk _
      have n2b:(enc dk[kk+1]!).length=k:=R.hk _
      generalize enc dk[kk]! = cI2 at S2 oV LQ n2a
      generalize enc dk[kk+1]! = cJ2 at S2 oW s2a LQ n2b
      clear S1
      go_wp2_with fail
      go_big_region_o
      clear oV oW s2a LQ
      generalize (wr.drew.setCells blk (off+(kk) * k) cJ2).setCells blk (off+(kk+1) * k) cI2=w2 at S2 ⊢
      clear yI y7 yn zb yK y9 bc2 ze
      go_wp2
      go_roundw
      case rel=>exact⟨kk+1,_,by go_num,by omega,by omega,by rw [size_swp];exact hds,S2,HSW⟩
      case measure=>simp [intOf];omega
     ·have hlz:¬ (kk:Int)<(i:Int) - 1:=by omega
      have ek:kk - a=i - (a+1):=by omega
      have HG:=HF.out
      rw [ek] at HG
      have HG2:=hid HG
      clear HG
      have SV:Hid (Sr.gu (ltOf cf) (V.take (i - (a+1))++x :: V.drop (i - (a+1)))):=hid (by
       have sv':=sv
       rw [← List.take_append_drop (i - (a+1)) V] at sv'
       obtain⟨p1,p2,p3⟩:=Sr.gu.parts sv'
       refine Sr.gu.app p1 (List.pairwise_cons.2 ⟨fun z hz=>HE.out.2 z hz,p2⟩) fun p hp y hy=>?_
       rcases List.mem_cons.1 hy with rfl | q
       ·exact ho.asym (HE.out.1 p hp)
       ·exact p3 p hp y q)
      have SB:Hid (Sr.gM (ltOf cf) (x :: V) (V.take (i - (a+1))++x :: V.drop (i - (a+1)))):=hid (by
       have c:Sr.gM (ltOf cf) ([x]++V.take (i - (a+1))) (V.take (i - (a+1))++[x]):=Sr.gM.comm ho (by intro u hu v hv;simp at hu;subst hu;exact HE.out.1 v hv)
       have:=c.app (Sr.gM.refl (lt:=ltOf cf) (V.drop (i - (a+1))))
       simpa using this)
      go_wp2
      refine bodyPost_ret (results_none rfl _ _ _) rfl ?_
      exact⟨rfl,dk,V.take (i - (a+1))++x :: V.drop (i - (a+1)),S1.out,hds,by rw [HG2.out];simp,by simp only [List.length_append,List.length_cons,List.length_take,List.length_drop];have:=VL.out;omega,SV.out,SB.out⟩
end
end
section
section
open Go.Shelf Go.RowKit Go.Lib Go.Sort
variable {bo : Bool} {P : Program} {α : Type} [Inhabited α]
set_option maxRecDepth 1000000 in
theorem Mo (L:yj bo P) (k:Nat) (aE:∀ w,(isAgg (cond bo 61 64)).run P w=.ok true w) (zE:∀ w,(Go.sizeOf (cond bo 61 64)).run P w=.ok k w) (enc:α→List Value) (blk off cap:Nat) (d0 d:Array α) (w0 w:World) (R:RowK enc k w0 blk off d0) (hs:d0.size=d.size) (S:SWK enc k w0 blk off d w) (cf:α→α→Int) (g:Nat) (cb:Array Value) (eg:∀ args w,(callFunc g args).run P w=.ok (.enter g args) w) (hcmp:CmpLays P g cb enc k cf blk off d0.size w0) (ho:Sr.WO (ltOf cf)) {A U C:List α} {y:α} (hd:d.toList=A++(U++y :: C)) (su:Sr.gu (ltOf cf) U) (a m b:Nat) (ha:a=A.length) (hm:m=A.length+U.length) (hb:b=A.length+U.length+1) (hu:1<U.length) (hsz:d.size<4611686018427387904) :
  Calls P (cond bo 169 171) #[.slice (some ⟨blk,off,none⟩) d.size cap,.int .i64 a,.int .i64 m,.int .i64 b,.func (.func g) #[] cb] w fun e w'=>e=.returned (.tuple #[])∧mK cf enc k w0 blk off d A (U++[y]) C w':=by
 cases bo
 all_goals
  have mixed:=L.mixed;have u0:=L.u0;have a0:=L.a0;have z0:=L.z0;have v0:=L.v0;have u3:=L.u3;have a3:=L.a3;have z3:=L.z3;have v3:=L.v3;have u4:=L.u4;have a4:=L.a4;have z4:=L.z4;have v4:=L.v4;have u5:=L.u5;have a5:=L.a5;have z5:=L.z5;have v5:=L.v5;have u6:=L.u6;have a6:=L.a6;have z6:=L.z6;have v6:=L.v6;have u7:=L.u7;have a7:=L.a7;have z7:=L.z7;have v7:=L.v7;simp only [cond_true,cond_false] at *
  have hlen:d.size=A.length+(U.length+(1+C.length)):=by have:=congrArg List.length hd;simp only [Array.length_toList,List.length_append,List.length_cons] at this;omega
  have HX:Hid (d[m]! = y):=hid (Sr.mM (A:=A++U) (x:=y) (B:=C) (by rw [hd];simp) (by rw [List.length_append];exact hm)).1
  have HP:Hid (∀ n z,U[n]?=some z→d[a+n]! = z):=hid fun n z h=>Sr.ol (P:=A) (L:=U) (Q:=y :: C) (by rw [hd]) h (by omega)
  have HD:=hid hd
  have HA:=hid ha
  have HC:Aside _:=hcmp
  have S0:Aside _:=S
  have bm:b≤m+1:=by omega
  have bm2:m+1≤b:=by omega
  have bb:m<d.size:=by omega
  have am:a+1<m:=by omega
  have vl:U.length=m - a:=by omega
  have VL:=hid vl
  have FG:=L.f4;have NT:=L.n4;simp only [cond_true,cond_false] at FG NT
  clear hd ha hb hm S hlen hcmp vl hu
  have w1:IntKind.i64.wrap ((b:Int) - (m:Int))=1:=by rw [IntKind.wrap_i64];omega
  have w2:(b:Int) - (m:Int)=1:=by omega
  have w3:((m:Int) - (a:Int)==1)=false:=by simp;omega
  have w4:¬ (m:Int) - (a:Int)=1:=by omega
  go_enter FG,NT
  go_wp2_with fail
  go_loopw [14,15] (fun s10 s11 wr=>∃ i j:Nat,s10=.int .i64 i∧s11=.int .i64 j∧a≤i∧i≤j∧j≤m∧Aside (SWK enc k w0 blk off d wr)∧Hid ((∀ z∈U.take (i - a),ltOf cf y z=false)∧(∀ z∈U.drop (j - a),ltOf cf y z=true))) (fun s10 s11 _=>(intOf s11).toNat - (intOf s10).toNat)
  case atStart=>exact⟨a,m,rfl,rfl,Nat.le_refl _,by omega,Nat.le_refl _,S0,hid ⟨by simp,by rw [List.drop_of_length_le (by have:=VL.out;omega)];simp⟩⟩
  case round =>
   obtain⟨i,j,rfl,rfl,h1,h2,h3,S1,HE⟩:=hrel
   clear S0
   by_cases hlt:i<j
   ·obtain⟨h,hh1,DR⟩:∃ h:Nat,2 * h≤i+j∧i+j<2 * h+2:=⟨(i+j) / 2,by omega,by omega⟩
    obtain⟨z,hz1,hz2,hz3,Kg⟩:=Sr.lq (L:=U) (n:=h - a) (by have:=VL.out;omega)
    have HZ:Hid (d[h]! = z):=hid (by have:=HP.out _ _ hz2;rwa [show a+(h - a)=h by omega] at this)
    have SV:Hid (Sr.gu (ltOf cf) (U.take (h - a)++z :: U.drop (h - a+1))):=hid (by rw [← hz1];exact su)
    have HZ3:=hid hz3
    have HZ4:=hid Kg
    clear hz1 hz2 hz3 Kg
    cases hL:ltOf cf d[m]! d[h]! with
    | true =>
     have HN:Hid (∀ z'∈U.drop (h - a),ltOf cf y z'=true):=hid (by
      rw [HZ3.out]
      exact Sr.all_gt ho SV.out (by rw [← HZ.out,← HX.out];exact hL))
     have oH:((m:Int)).toNat=m:=by omega
     have oK:(0:Int)≤(m:Int):=by omega
     have oF:(m:Int)<(d.size:Int):=by omega
     have oN:IntKind.i64.wrap ((m:Int))=(m:Int):=by rw [IntKind.wrap_i64];omega
     have oI:(((i:Int)+(j:Int)) / 2).toNat=h:=by omega
     have oL:(0:Int)≤((i:Int)+(j:Int)) / 2:=by omega
     have bc1:((i:Int)+(j:Int)) / 2<(d.size:Int):=by omega
     have oO:IntKind.i64.wrap (((i:Int)+(j:Int)) / 2)=((i:Int)+(j:Int)) / 2:=by rw [IntKind.wrap_i64];omega
     obtain⟨x1,hx1⟩:∃ x,x=d[m]!:=⟨_,rfl⟩
     obtain⟨y1,hy1⟩:∃ x,x=d[h]!:=⟨_,rfl⟩
     have jY:=S1.out.ld R (by omega) P (m) (by omega)
     have jZ:=S1.out.ld R (by omega) P (h) (by omega)
     rw [← hx1] at jY
     rw [← hy1] at jZ
     have hc1:=S1.out.cmp HC.out (by omega) x1 y1
     have hv1:cf x1 y1<0:=by rw [hx1,hy1];exact of_decide_eq_true hL
     have hd1:decide (cf x1 y1<0)=true:=decide_eq_true hv1
     clear hx1 hy1
     go_wp2_with fail
     go_quiet_grown (first | (go_at_fn g;refine Calls.grown_of (hc1 _ _)))
     have S2:Aside (SWK enc k w0 blk off d (grow (wr.drewN nq) osq)):=S1.out.grown nq osq
     clear jY jZ hc1 S1
     generalize grow (wr.drewN nq) osq=w2 at S2 ⊢
     clear nq osq oH oK oF oN oI oL bc1 oO
     clear hL
     have eh:((i:Int)+(j:Int)) / 2=(h:Int):=by omega
     go_wp2
     go_roundw
     case rel=>exact⟨i,h,rfl,by go_num,h1,by omega,by omega,S2,hid ⟨HE.out.1,HN.out⟩⟩
     case measure=>simp [intOf];omega
    | false =>
     have HN:Hid (∀ z'∈U.take (h+1 - a),ltOf cf y z'=false):=hid (by
      rw [show h+1 - a=h - a+1 by omega,HZ4.out]
      exact Sr.Jb ho SV.out (by rw [← HZ.out,← HX.out];exact hL))
     have oH:((m:Int)).toNat=m:=by omega
     have oK:(0:Int)≤(m:Int):=by omega
     have oF:(m:Int)<(d.size:Int):=by omega
     have oN:IntKind.i64.wrap ((m:Int))=(m:Int):=by rw [IntKind.wrap_i64];omega
     have oI:(((i:Int)+(j:Int)) / 2).toNat=h:=by omega
     have oL:(0:Int)≤((i:Int)+(j:Int)) / 2:=by omega
     have bc1:((i:Int)+(j:Int)) / 2<(d.size:Int):=by omega
     have oO:IntKind.i64.wrap (((i:Int)+(j:Int)) / 2)=((i:Int)+(j:Int)) / 2:=by rw [IntKind.wrap_i64];omega
     obtain⟨x1,hx1⟩:∃ x,x=d[m]!:=⟨_,rfl⟩
     obtain⟨y1,hy1⟩:∃ x,x=d[h]!:=⟨_,rfl⟩
     have jY:=S1.out.ld R (by omega) P (m) (by omega)
     have jZ:=S1.out.ld R (by omega) P (h) (by omega)
     rw [← hx1] at jY
     rw [← hy1] at jZ
     have hc1:=S1.out.cmp HC.out (by omega) x1 y1
     have hv1:¬ cf x1 y1<0:=by rw [hx1,hy1];exact of_decide_eq_false hL
     have hd1:decide (cf x1 y1<0)=false:=decide_eq_false hv1
     clear hx1 hy1
     go_wp2_with fail
     go_quiet_grown (first | (go_at_fn g;refine Calls.grown_of (hc1 _ _)))
     have S2:Aside (SWK enc k w0 blk off d (grow (wr.drewN nq) osq)):=S1.out.grown nq osq
     clear jY jZ hc1 S1
     generalize grow (wr.drewN nq) osq=w2 at S2 ⊢
     clear nq osq oH oK oF oN oI oL bc1 oO
     clear hL
     have eh:((i:Int)+(j:Int)) / 2=(h:Int):=by omega
     go_wp2
     go_roundw
     case rel=>exact⟨h+1,j,by go_num,rfl,by omega,by omega,h3,S2,hid ⟨HN.out,HE.out.2⟩⟩
     case measure=>simp [intOf];omega
   ·obtain rfl:i=j:=by omega
    clear h2
    go_wp2_with fail
    go_loopw [17] (fun s13 wr2=>∃ (kk:Nat) (dk:Array α),s13=.int .i64 kk∧i≤kk∧kk≤m∧dk.size=d.size∧Aside (SWK enc k w0 blk off dk wr2)∧Hid (dk.toList=A++(U.take (kk - a)++y :: (U.drop (kk - a)++C)))) (fun s13 _=>(intOf s13).toNat)
    case atStart=>exact⟨m,d,rfl,h3,Nat.le_refl _,rfl,S1,hid (by rw [HD.out,List.take_of_length_le (by have:=VL.out;omega),List.drop_of_length_le (by have:=VL.out;omega)];simp)⟩
    case round =>
     clear S1
     obtain⟨kk,dk,rfl,k1,k2,hds,S1,HF⟩:=hrel
     by_cases hlt2:i<kk
     ·obtain⟨kp,rfl⟩:∃ kp,kk=kp+1:=⟨kk - 1,by omega⟩
      have hlz:(i:Int)<(kp:Int)+1:=by omega
      obtain⟨z,hz1,hz2,hz3,Kg⟩:=Sr.lq (L:=U) (n:=kp - a) (by have:=VL.out;omega)
      have HSW:Hid ((swp dk (kp+1) kp).toList=A++(U.take (kp - a)++y :: (U.drop (kp - a)++C))):=hid (by
       have hf:=HF.out
       rw [show kp+1 - a=kp - a+1 by omega,Kg] at hf
       have q:=(Sr.rf (d:=dk) (A:=A++U.take (kp - a)) (B:=[]) (C:=U.drop (kp - a+1)++C) (x:=z) (y:=y) (i:=kp) (j:=kp+1) (by rw [hf];simp) (by rw [List.length_append,List.length_take];have:=VL.out;have:=HA.out;omega) (by rw [List.length_append,List.length_take];have:=VL.out;have:=HA.out;simp;omega)).2
       rw [q,hz3]
       simp)
      clear hz1 hz2 hz3 Kg
      have dsz:dk.size=d.size:=hds
      have yI:((kp:Int)+1).toNat=kp+1:=by omega
      have y7:(0:Int)≤(kp:Int)+1:=by omega
      have yn:(kp:Int)+1<(d.size:Int):=by omega
      have zb:IntKind.i64.wrap ((kp:Int)+1)=(kp:Int)+1:=by rw [IntKind.wrap_i64];omega
      have yK:((kp:Int)).toNat=kp:=by omega
      have y9:(0:Int)≤(kp:Int):=by omega
      have bc2:(kp:Int)<(d.size:Int):=by omega
      have ze:IntKind.i64.wrap ((kp:Int))=(kp:Int):=by rw [IntKind.wrap_i64];omega
      have S2:Aside (SWK enc k w0 blk off (swp dk (kp+1) (kp)) ((wr.drew.setCells blk (off+(kp+1) * k) (enc dk[kp]!)).setCells blk (off+(kp) * k) (enc dk[kp+1]!))):=S1.out.swapped R (kp+1) (kp) (by omega) (by omega)
      have oV:=S1.out.ld1 R (by omega) P (kp+1) (by omega)
      have oW:=S1.out.ld1 R (by omega) P (kp) (by omega)
      have s2a:=S1.out.st1 R (by omega) P (kp+1) (by omega) dk[kp]!
      have LQ:=S1.out.st2 R (by omega) P (kp+1) (kp) (by omega) (by omega) dk[kp]! dk[kp+1]!
      have n2a:(enc dk[kp+1]!).length=k:=R.hk _
      have n2b:(enc dk[kp]!).length=k:=R.hk _
      generalize enc dk[kp+1]! = cI2 at S2 oV LQ n2a
      generalize enc dk[kp]! = cJ2 at S2 oW s2a LQ n2b
      clear S1
      go_wp2_with fail
      go_big_region_o
      clear oV oW s2a LQ
      generalize (wr.drew.setCells blk (off+(kp+1) * k) cJ2).setCells blk (off+(kp) * k) cI2=w2 at S2 ⊢
      clear yI y7 yn zb yK y9 bc2 ze
      go_wp2
      go_roundw
      case rel=>exact⟨kp,_,by first | rfl | go_num | (congr 1;omega),by omega,by omega,by rw [size_swp];exact hds,S2,HSW⟩
      case measure=>simp [intOf] <;> omega
     ·obtain rfl:kk=i:=by omega
      have SV:Hid (Sr.gu (ltOf cf) (U.take (kk - a)++y :: U.drop (kk - a))):=hid (by
       have sv':=su
       rw [← List.take_append_drop (kk - a) U] at sv'
       obtain⟨p1,p2,p3⟩:=Sr.gu.parts sv'
       refine Sr.gu.app p1 (List.pairwise_cons.2 ⟨fun z hz=>ho.asym (HE.out.2 z hz),p2⟩) fun p hp y' hy=>?_
       rcases List.mem_cons.1 hy with rfl | q
       ·exact HE.out.1 p hp
       ·exact p3 p hp y' q)
      have SB:Hid (Sr.gM (ltOf cf) (U++[y]) (U.take (kk - a)++y :: U.drop (kk - a))):=hid (by
       have c:Sr.gM (ltOf cf) (U.drop (kk - a)++[y]) ([y]++U.drop (kk - a)):=Sr.gM.comm ho (by intro u hu v hv;simp at hv;subst hv;exact HE.out.2 u hu)
       have:=(Sr.gM.refl (lt:=ltOf cf) (U.take (kk - a))).app c
       rw [← List.append_assoc,List.take_append_drop] at this
       simpa using this)
      go_wp2
      refine bodyPost_ret (results_none rfl _ _ _) rfl ?_
      exact⟨rfl,dk,U.take (kk - a)++y :: U.drop (kk - a),S1.out,hds,by rw [HF.out];simp,by simp only [List.length_append,List.length_cons,List.length_nil,List.length_take,List.length_drop];have:=VL.out;omega,SV.out,SB.out⟩
end
section
open Go.Shelf Go.RowKit Go.Lib Go.Sort
variable {bo : Bool} {P : Program} {α : Type} [Inhabited α]
end
end
end Go.Proofs.YtcmiompdjjiojaaGreat
