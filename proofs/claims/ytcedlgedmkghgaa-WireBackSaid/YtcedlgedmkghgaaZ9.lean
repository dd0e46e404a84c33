import Derived.Test.YtcedlgedmkghgaaZ5
import Derived.Deep.MidRow
import Derived.Deep.WholeRow
import Derived.Maps.RangeWalk
import Derived.Maps.Ext
import Derived.Laws.CopyOwn
import Derived.Great.BuildSlice
namespace Go.Proofs.Ytcedlgedmkghgaa
set_option maxHeartbeats 16000000
set_option linter.unusedSimpArgs false
set_option maxRecDepth 100000
section
open Go.RowKit
section
variable {α : Type} {f : α → List Value} {size : Nat}
theorem gN:∀ {l:List α},(∀ x∈l,(f x).length=size)→(l.flatMap f).length=l.length * size
 | [],_=>by simp
 | x :: l,h=>by
  rw [List.flatMap_cons,List.length_append,gN (fun y hy=>h y (List.mem_cons_of_mem _ hy)),h x (List.mem_cons_self ..),List.length_cons,Nat.add_mul,Nat.one_mul,Nat.add_comm]
theorem jq:∀ {l:List α},(∀ x∈l,(f x).length=size)→∀ {k:Nat} {x:α},l[k]?=some x→∀ {j:Nat},j<size→(l.flatMap f)[k * size+j]?=(f x)[j]?
 | [],_,k,x,h,_,_=>by simp at h
 | y :: l,hf,0,x,h,j,hj=>by
  simp only [List.getElem?_cons_zero,Option.some.injEq] at h
  subst h
  rw [List.flatMap_cons,Nat.zero_mul,Nat.zero_add,List.getElem?_append_left (by rw [hf y (List.mem_cons_self ..)];exact hj)]
 | y :: l,hf,k+1,x,h,j,hj=>by
  simp only [List.getElem?_cons_succ] at h
  have hy:=hf y (List.mem_cons_self ..)
  rw [List.flatMap_cons,List.getElem?_append_right (by rw [hy,Nat.add_mul];omega),hy,show (k+1) * size+j - size=k * size+j by rw [Nat.add_mul];omega]
  exact jq (fun z hz=>hf z (List.mem_cons_of_mem _ hz)) h hj
end
section
variable {w : World}
theorem heap_setCells_other {b k:Nat} (h:k≠b):∀ (vs:List Value) (o:Nat) (w:World),(w.setCells b o vs).heap[k]?=w.heap[k]?
 | [],_,_=>rfl
 | v :: r,o,w=>by
  rw [World.setCells,heap_setCells_other h r]
  exact Below.heap_setCell _ _ _ _ h
theorem iw (b:Nat):∀ (vs:List Value) (o:Nat) (w:World),(w.setCells b o vs).os=w.os∧(w.setCells b o vs).tape=w.tape∧(w.setCells b o vs).output=w.output∧(w.setCells b o vs).heap.size=w.heap.size
 | [],_,_=>⟨rfl,rfl,rfl,rfl⟩
 | v :: r,o,w=>by
  obtain⟨h1,h2,h3,h4⟩:=iw b r (o+1) (w.setCell ⟨b,o,none⟩ v)
  exact⟨h1,h2,h3,by rw [World.setCells,h4];simp [World.setCell]⟩
theorem eT (b:Nat) (vs:List Value) (o:Nat) (w:World):w.grownBy (w.setCells b o vs) (some b):=by
 obtain⟨h1,h2,h3,h4⟩:=iw b vs o w
 exact⟨h1,h2,h3,by omega,fun k _ hk=>heap_setCells_other (fun e=>hk (by rw [e])) vs o w⟩
variable {base : Nat} {e : TypeId} {size n c g : Nat} {xs : List Value}
end
def key (i:Int):Lit:=.int .i64 i
def at_ (D:DataW Value) (i:Int):DataW Value:=D.atKey (key i) (.held (.slice none 0 0))
section
variable {P : Program} {w : World} {t k e : TypeId} {b n : Nat} {D : DataW Value}
end
section
variable {P : Program} {w w' : World} {ops : Array Oper} {rest : List Oper} {o : Oper} {a : Act} {K : Act → World → Prop} {Q : Exit → Act → World → Prop} {E : Prop}
theorem bN (w:World) (t e:TypeId) (cs:Array Value) (ie:TypeInfo) (z:Value) (hu:P.underlying t=some (.slice e)) (hie:P.info? e=some ie) (hz:ie.zero=some z) (hs:ie.size=cs.size) (h0:0<cs.size) (hm:cs.size≤16777216) :
  (Instr.buildSlice t 1 #[(0,.agg cs)]).run P w=.ok (.slice (some ⟨w.heap.size,0,none⟩) 1 1) (w.alloc (.cells cs e)):=by
 refine run_buildSlice w t e 1 _ cs ie z hu hie hz (by rw [hs,Nat.one_mul];show ¬ cs.size > 16777216;omega) (by rw [hs,Nat.one_mul];omega) ?_
 have q:=Great.fill_whole (s:=ie.size) (by rw [hs];exact h0) [Value.agg cs] ((Array.range (1 * ie.size)).map (z.cells[· % z.cells.size]!)) (fun v hv=>by rw [List.mem_singleton] at hv;subst hv;exact hs.symm) (by simp)
 simpa [Value.cells] using q
end
end
end Go.Proofs.Ytcedlgedmkghgaa
