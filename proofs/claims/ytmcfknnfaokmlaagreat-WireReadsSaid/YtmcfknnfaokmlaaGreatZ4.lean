import Derived.Test.YtmcfknnfaokmlaaGreatZ2
import Derived.Test.YtmcfknnfaokmlaaGreatZ1
import Derived.Test.YtmcfknnfaokmlaaGreatRows
import Derived.WideKeyArgs
import Derived.Deep.Slices
import Derived.Laws.Cover2
import Derived.WalkSmall
import Derived.Deep.Fields
import Derived.Carry
import Derived.Lib.SmallJoins
namespace Go.Proofs.YtmcfknnfaokmlaaGreat
set_option maxHeartbeats 16000000
open Go.Proofs.Tryz
set_option linter.unusedSimpArgs false
set_option maxRecDepth 100000
section
open Go.ChangeShapes Go.WideShapes Go.ChangeAt Go.RowKit Go.Deep
section
variable {H : Type} {enc : TypeId × Value → H} {P : Program}
theorem jM (laid:laidOutB P=true) {W W':World} (old:Below W.heap.size W W') {sp:Nat→Bool} :
  ∀ {ts:List TypeId} {vs:List Value} {ds:List (DataW H)} {ps:List MemPlace},(∀ t∈ts,P.readableRec t=true∧t<P.types.size)→(∀ x∈ps,x.block<W.heap.size)→(∀ x∈ps,sp x.block=true) →
   DataW.TrodAll enc P W 0 (fun _=>true) true ts vs ds ps→DataW.TrodAll enc P W' 0 sp true ts vs ds ps
 | [],_,_,_,_,_,_,h=>by
  obtain⟨rfl,rfl,rfl⟩:=trodAll_nil h
  rfl
 | t :: ts,_,_,_,ok,low,mark,h=>by
  obtain⟨v,vs,d,ds,p,q,rfl,rfl,rfl,h1,h2⟩:=trodAll_cons h
  refine⟨p,q,?_,?_,rfl⟩
  ·exact WideElems.Trod_stays laid (ok t (by simp)).1 (ok t (by simp)).2 h1 (fun x m=>old.same (low x (by simp [m]))) (fun x m=>mark x (by simp [m]))
  ·exact jM laid old (fun u m=>ok u (by simp [m])) (fun x m=>low x (by simp [m])) (fun x m=>mark x (by simp [m])) h2
theorem vS {f:Func} {s:ChangeSpec} {apart fresh handsOn again:Bool} {W W':World} {args:Array Value} {ds gs:List (DataW H)} {before:List MemPlace} {tb:TypeId}
  (laid:laidOutB P=true) (ok:∀ t∈f.params.toList,P.readableRec t=true∧t<P.types.size) (nv:s.vars=[]) (rt:f.resultTypes=#[tb]) (ut:P.underlying tb=some .bool)
  (whole:DataW.Whole enc P f.params.toList s.vars apart W args.toList ds gs before) (old:Below W.heap.size W W')
  (yes:(s.fn H (ds++gs)).results=[.lit (.bool true)]) (same:(s.fn H (ds++gs)).args=ds) (vars:(s.fn H (ds++gs)).vars=[]) :
  s.post enc P f apart fresh handsOn again W args (.bool true) W':=by
 have low:∀ x∈before,x.block<W.heap.size:=fun x m=>whole.lt x m
 obtain⟨p,q,hA,hV,hb,_,_⟩:=id whole
 have hV':DataW.TrodVars enc P W (fun _=>true) [] gs q:=by rw [← nv];exact hV
 obtain⟨rfl,rfl⟩:=trodVars_none hV'
 rw [List.append_nil] at hb
 subst hb
 refine vR (pa:=before) (pv:=[]) whole (by simp) old (fun _ _ _=>?_) (fun sp mark=>?_) (fun sp _=>?_) ?_
 ·rw [yes,rt]
  exact trodAll_mk1 (shut_bool ut _)
 ·rw [same]
  exact jM laid old ok low mark hA
 ·rw [vars,nv]
  rfl
 ·exact ok_one rt rfl (okWide_bool_mk ut _)
end
open Go.ChangeShapes Go.WideShapes Go.ChangeAt Go.RowKit Go.Deep
theorem wf_u8 {k:Int} (h:(Lit.int .u8 k).wf=true):0≤k∧k<256:=by
 unfold Lit.wf at h
 simp only [Bool.and_eq_true,decide_eq_true_eq] at h
 have a:IntKind.u8.min=0:=by decide +kernel
 have b:IntKind.u8.max=255:=by decide +kernel
 rw [a,b] at h;omega
theorem wf_u64 {k:Int} (h:(Lit.int .u64 k).wf=true):0≤k∧k<18446744073709551616:=by
 unfold Lit.wf at h
 simp only [Bool.and_eq_true,decide_eq_true_eq] at h
 have a:IntKind.u64.min=0:=by decide +kernel
 have b:IntKind.u64.max=18446744073709551615:=by decide +kernel
 rw [a,b] at h;omega
section
variable {H : Type} {enc : TypeId × Value → H} {P : Program} {w : World} {base : Nat} {sp : Nat → Bool} {held : Bool}
theorem xD {t e:TypeId} {kd:IntKind} {fuel:Nat} {v:Value} {x:DataW H × List MemPlace} (ht:P.underlying t=some (.slice e)) (he:P.underlying e=some (.int kd)) (hc:P.cellsOf e=1)
  (h:DataW.trod enc P w base sp held fuel t [v]=some x):∃ (A:Option Addr) (c:Nat) (ns:List Int),v=.slice A ns.length c∧ns.length≤c∧c≤maxLen∧(∀ n∈ns,(Lit.int kd n).wf=true)∧av w w.heap.size 0 A (ns.map (Value.int kd)):=by
 rcases open_ints ht he hc h with⟨hcs,_⟩ | ⟨a,len,cap,zs,hcs,_,hl,hm,hz,_,hcell,hwf⟩
 ·simp at hcs
  subst hcs
  exact⟨none,0,[],rfl,Nat.le_refl _,Nat.zero_le _,by simp,av.nil⟩
 ·simp at hcs
  subst hcs
  have hlen:len≤zs.length:=by rw [hz];split <;> omega
  have e1:(zs.take len).length=len:=by rw [List.length_take];omega
  refine⟨some a,cap,zs.take len,by rw [e1],by omega,hm,fun n hn=>hwf n (List.mem_of_mem_take hn),fun hne=>?_⟩
  have cells:∀ j u,((zs.take len).map (Value.int kd))[j]?=some u→w.cell? (a.add j)=some u:=by
   intro j u hu
   rw [List.getElem?_map,List.getElem?_take] at hu
   split at hu
   ·rename_i hj
    rw [hcell j (by omega)]
    rw [List.getElem?_eq_getElem (by omega)] at hu
    simp only [Option.map_some,Option.some.injEq] at hu
    rw [← hu,List.getD_eq_getElem?_getD,List.getElem?_eq_getElem (by omega)]
    rfl
   ·simp at hu
  refine⟨a,rfl,.inl ?_,cells⟩
  obtain⟨u,hu⟩:∃ u,((zs.take len).map (Value.int kd))[0]?=some u:=by
   cases hq:(zs.take len).map (Value.int kd) with
   | nil=>exact absurd hq hne
   | cons u _=>exact⟨u,rfl⟩
  have:=World.block_lt_of_cell? _ _ (cells 0 u hu)
  rwa [dM] at this
theorem uS {t e:TypeId} {fuel:Nat} {v:Value} {x:DataW H × List MemPlace} (ht:P.underlying t=some (.slice e)) (he:P.underlying e=some (.int .u8)) (hc:P.cellsOf e=1)
  (h:DataW.trod enc P w base sp held fuel t [v]=some x):∃ (A:Option Addr) (c:Nat) (l:List UInt8),v=.slice A l.length c∧l.length≤c∧c≤maxLen∧av w w.heap.size 0 A (af l):=by
 obtain⟨A,c,ns,hv,h1,h2,hwf,hL⟩:=xD ht he hc h
 have e1:ns.map (Value.int .u8)=af (ns.map fun n=>UInt8.ofNat n.toNat):=by
  unfold af
  rw [List.map_map]
  refine List.map_congr_left fun n hn=>?_
  have:=wf_u8 (hwf n hn)
  simp only [Function.comp,rE]
  rw [UInt8.toNat_ofNat']
  congr 1
  omega
 rw [e1] at hL
 exact⟨A,c,_,by simpa using hv,by simpa using h1,h2,hL⟩
end
section
variable {H : Type} {enc : TypeId × Value → H} {w : World} {base : Nat}
theorem Tryz.oneU8:prog.cellsOf 5=1:=by kernel_rfl
theorem xV {v:Value} {d:DataW H} {ps:List MemPlace} (hval:Value.okWide prog w .any base 33 v) (h:DataW.Trod enc prog w 0 (fun _=>true) true 33 v d ps) :
  ∃ (A:Option Addr) (c:Nat) (l:List UInt8),v=.slice A l.length c∧l.length≤c∧c≤maxLen∧av w w.heap.size 0 A (af l):=by
 obtain⟨a,len,cap,rfl⟩:=okWide_slice underlying33 hval
 obtain⟨fuel,hf⟩:=h
 exact uS underlying33 underlying5 Tryz.oneU8 hf
end
open Go.ChangeShapes Go.WideShapes Go.ChangeAt Go.RowKit
theorem Tryz.laidOut2:laidOutB prog=true:=by kernel_rfl
theorem Tryz.own2:ownKnob prog.godebug=none:=by kernel_rfl
open Go.ChangeShapes Go.WideShapes Go.ChangeAt Go.RowKit Go.Deep
section
variable {H : Type} {enc : TypeId × Value → H} {P : Program} {w : World} {base : Nat} {sp : Nat → Bool} {held : Bool}
end
section
variable {H : Type} {enc : TypeId × Value → H} {w : World} {base : Nat}
end
end
section
open Go.ChangeShapes Go.WideShapes Go.ChangeAt Go.RowKit Go.Deep
variable {w : World}
theorem gW {α:Type} [Inhabited α] {E:α→List Value} {k:Nat} (hk:0<k) (hE:∀ x,(E x).length=k) {p:α→Prop} {a:Addr} {len:Nat} (each:∀ i,i<len→∃ q:α,(∀ j u,(E q)[j]?=some u→w.cell? (a.add (i * k+j))=some u)∧p q) :
  ∃ qs:List α,qs.length=len∧av w w.heap.size 0 (some a) (qs.flatMap E)∧∀ q∈qs,p q:=by
 obtain⟨Q,hQ⟩:=choose_lt (α:=α) (p:=fun i q=>(∀ j u,(E q)[j]?=some u→w.cell? (a.add (i * k+j))=some u)∧p q) each
 refine⟨(List.range len).map Q,by simp,fun hne=>?_,?_⟩
 ·have cells:∀ j u,(((List.range len).map Q).flatMap E)[j]?=some u→w.cell? (a.add j)=some u:=by
   intro j u hu
   have hfl:(((List.range len).map Q).flatMap E).length=((List.range len).map Q).length * k:=jS fun x _=>hE x
   rw [List.length_map,List.length_range] at hfl
   have hj:j<len * k:=by
    rcases Nat.lt_or_ge j (((List.range len).map Q).flatMap E).length with z | z
    ·omega
    ·rw [List.getElem?_eq_none z] at hu;cases hu
   have hd:j / k<len:=(Nat.div_lt_iff_lt_mul hk).2 hj
   have hm:j % k<k:=Nat.mod_lt _ hk
   have hjk:j / k * k+j % k=j:=by rw [Nat.mul_comm];exact Nat.div_add_mod j k
   have e:((List.range len).map Q)[j / k]?=some (Q (j / k)):=by simp [hd]
   have f:=mR (f:=E) (size:=k) (l:=(List.range len).map Q) (fun x _=>hE x) e (j:=j % k) hm
   rw [hjk] at f
   rw [f] at hu
   have:=(hQ (j / k) hd).1 (j % k) u hu
   rwa [hjk] at this
  refine⟨a,rfl,.inl ?_,cells⟩
  obtain⟨u,hu⟩:∃ u,(((List.range len).map Q).flatMap E)[0]?=some u:=by
   cases hq:((List.range len).map Q).flatMap E with
   | nil=>exact absurd hq hne
   | cons u _=>exact⟨u,rfl⟩
  have:=World.block_lt_of_cell? _ _ (cells 0 u hu)
  rwa [dM] at this
 ·intro q hq
  obtain⟨i,hi2,rfl⟩:=List.mem_map.1 hq
  exact (hQ i (List.mem_range.1 hi2)).2
end
end Go.Proofs.YtmcfknnfaokmlaaGreat
