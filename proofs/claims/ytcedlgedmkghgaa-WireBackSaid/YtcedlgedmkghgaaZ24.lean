import Derived.Test.YtcedlgedmkghgaaZ17
import Derived.Test.YtcedlgedmkghgaaZ23
import Derived.Test.YtcedlgedmkghgaaZ21
namespace Go.Proofs.Ytcedlgedmkghgaa
set_option maxHeartbeats 16000000
set_option linter.unusedSimpArgs false
set_option maxRecDepth 100000
section
open Go.ChangeShapes Go.WideShapes Go.ChangeAt Go.RowKit Go.Deep Go.Lib
def encMu (m:T9.Mu):List Value:=[.int .i64 m.kind,.int .u64 (m.id:Int),.int .u64 (m.list:Int),.string (str m.text),.float .f64 m.f,.bool m.flag]
def T9.Mu.val (m:T9.Mu):Value:=.agg #[.int .i64 m.kind,.int .u64 (m.id:Int),.int .u64 (m.list:Int),.string (str m.text),.float .f64 m.f,.bool m.flag]
theorem bu {w:World} {a b c d e f:Value} {t:TypeId} {u:World} (h:w.alloc (.cells #[a,b,c,d,e,f] t)=u):u.heap[w.heap.size]?=some (.cells #[a,b,c,d,e,f] t (0,0))∧Below w.heap.size w u∧u.heap.size=w.heap.size+1:=by
 rw [← h]
 exact⟨heap_alloc_new w _,(Below.refl _ w).alloc (Nat.le_refl _) _,by simp⟩
theorem au {w:World} {p:Nat} {t:TypeId} {a b c d e f:Value} {fr:Nat × Nat} (h:w.heap[p]?=some (.cells #[a,b,c,d,e,f] t fr)):w.cell? ⟨p,0,none⟩=some a∧w.cell? ⟨p,1,none⟩=some b∧w.cell? ⟨p,2,none⟩=some c∧w.cell? ⟨p,3,none⟩=some d∧w.cell? ⟨p,4,none⟩=some e∧w.cell? ⟨p,5,none⟩=some f:=by
 simp [World.cell?,h]
theorem fP {l:List UInt8} (h:T9.title l=true):l.length≤60:=by
 unfold T9.title at h
 rw [Bool.and_eq_true,decide_eq_true_eq] at h
 exact h.1.2
theorem xL {l:List UInt8} (h:T9.tag l=true):l.length≤16:=by
 unfold T9.tag at h
 rw [Bool.and_eq_true,decide_eq_true_eq] at h
 exact h.1.2
theorem qh {s:T9.St} (h:T9.aN s=0):s.short:=by
 obtain⟨h1,h2,h3,h4⟩:=T9.nZ h
 have l:=(T9.qZ.1 h3).1
 have t:=(T9.rP.1 h4).1
 refine⟨fun x hx=>by have:=fP (l x hx).2;omega,fun x hx=>?_,by omega,by omega⟩
 obtain⟨f1,_,_,_,f5,f6⟩:=T9.jT (t x hx).2.1
 exact⟨by have:=fP f1;omega,fun y hy=>by have:=xL (T9.lQ f6 y hy);omega,by omega⟩
theorem Try.one11i:Try.prog.cellsOf 3=1:=by kernel_rfl
section
variable {H : Type} {enc : TypeId × Value → H} {w : World} {base : Nat}
end
end
end Go.Proofs.Ytcedlgedmkghgaa
