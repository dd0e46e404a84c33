import Derived.Test.YtcedlgedmkghgaaZ2
import Derived.Test.YtcedlgedmkghgaaZ5
import Derived.Test.YtcedlgedmkghgaaRows
import Derived.WideKeyArgs
import Derived.Deep.Slices
import Derived.Laws.Cover2
import Derived.WalkSmall
import Derived.Deep.Fields
import Derived.Carry
namespace Go.Proofs.Ytcedlgedmkghgaa
set_option maxHeartbeats 16000000
set_option linter.unusedSimpArgs false
set_option maxRecDepth 100000
section
open Go.ChangeShapes Go.WideShapes Go.ChangeAt Go.RowKit Go.Deep
section
variable {H : Type} {enc : TypeId × Value → H} {P : Program}
theorem gK (laid:laidOutB P=true) {W W':World} (old:Below W.heap.size W W') {sp:Nat→Bool} :
  ∀ {ts:List TypeId} {vs:List Value} {ds:List (DataW H)} {ps:List MemPlace},(∀ t∈ts,P.readableRec t=true∧t<P.types.size)→(∀ x∈ps,x.block<W.heap.size)→(∀ x∈ps,sp x.block=true) →
   DataW.TrodAll enc P W 0 (fun _=>true) true ts vs ds ps→DataW.TrodAll enc P W' 0 sp true ts vs ds ps
 | [],_,_,_,_,_,_,h=>by
  obtain⟨rfl,rfl,rfl⟩:=trodAll_nil h
  rfl
 | t :: ts,_,_,_,ok,low,mark,h=>by
  obtain⟨v,vs,d,ds,p,q,rfl,rfl,rfl,h1,h2⟩:=trodAll_cons h
  refine⟨p,q,?_,?_,rfl⟩
  ·exact WideElems.Trod_stays laid (ok t (by simp)).1 (ok t (by simp)).2 h1 (fun x m=>old.same (low x (by simp [m]))) (fun x m=>mark x (by simp [m]))
  ·exact gK laid old (fun u m=>ok u (by simp [m])) (fun x m=>low x (by simp [m])) (fun x m=>mark x (by simp [m])) h2
theorem xg {f:Func} {s:ChangeSpec} {apart fresh handsOn again:Bool} {W W':World} {args:Array Value} {ds gs:List (DataW H)} {before:List MemPlace} {tb:TypeId}
  (laid:laidOutB P=true) (ok:∀ t∈f.params.toList,P.readableRec t=true∧t<P.types.size) (nv:s.vars=[]) (rt:f.resultTypes=#[tb]) (ut:P.underlying tb=some .bool)
  (whole:DataW.Whole enc P f.params.toList s.vars apart W args.toList ds gs before) (old:Below W.heap.size W W')
  (yes:(s.fn H (ds++gs)).results=[.lit (.bool true)]) (same:(s.fn H (ds++gs)).args=ds) (vars:(s.fn H (ds++gs)).vars=[]) :
  s.post enc P f apart fresh handsOn again W args (.bool true) W':=by
 have low:∀ x∈before,x.block<W.heap.size:=fun x m=>whole.lt x m
 obtain⟨p,q,hA,hV,hb,_,_⟩:=id whole
 have hV':DataW.TrodVars enc P W (fun _=>true) [] gs q:=by rw [← nv];exact hV
 obtain⟨rfl,rfl⟩:=trodVars_none hV'
 rw [List.append_nil] at hb
 subst hb
 refine pW (pa:=before) (pv:=[]) whole (by simp) old (fun _ _ _=>?_) (fun sp mark=>?_) (fun sp _=>?_) ?_
 ·rw [yes,rt]
  exact trodAll_mk1 (shut_bool ut _)
 ·rw [same]
  exact gK laid old ok low mark hA
 ·rw [vars,nv]
  rfl
 ·exact ok_one rt rfl (okWide_bool_mk ut _)
end
open Go.ChangeShapes Go.WideShapes Go.ChangeAt Go.RowKit Go.Deep
theorem wf_u64 {k:Int} (h:(Lit.int .u64 k).wf=true):0≤k∧k<18446744073709551616:=by
 unfold Lit.wf at h
 simp only [Bool.and_eq_true,decide_eq_true_eq] at h
 have a:IntKind.u64.min=0:=by decide +kernel
 have b:IntKind.u64.max=18446744073709551615:=by decide +kernel
 rw [a,b] at h;omega
section
variable {H : Type} {enc : TypeId × Value → H} {P : Program} {w : World} {base : Nat} {sp : Nat → Bool} {held : Bool}
end
section
variable {H : Type} {enc : TypeId × Value → H} {w : World} {base : Nat}
end
open Go.ChangeShapes Go.WideShapes Go.ChangeAt Go.RowKit
theorem Try.laidOut2:laidOutB Try.prog=true:=by kernel_rfl
theorem Try.own2:ownKnob Try.prog.godebug=none:=by kernel_rfl
open Go.ChangeShapes Go.WideShapes Go.ChangeAt Go.RowKit Go.Deep
section
variable {H : Type} {enc : TypeId × Value → H} {P : Program} {w : World} {base : Nat} {sp : Nat → Bool} {held : Bool}
end
section
variable {H : Type} {enc : TypeId × Value → H} {w : World} {base : Nat}
end
end
end Go.Proofs.Ytcedlgedmkghgaa
