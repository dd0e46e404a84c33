import Derived.Test.YtmcfknnfaokmlaaGreatZ17
import Derived.Test.YtmcfknnfaokmlaaGreatZ22
import Derived.Test.YtmcfknnfaokmlaaGreatZ21
namespace Go.Proofs.YtmcfknnfaokmlaaGreat
set_option maxHeartbeats 16000000
open Go.Proofs.Tryz
set_option linter.unusedSimpArgs false
set_option maxRecDepth 100000
section
open Go.ChangeShapes Go.WideShapes Go.ChangeAt Go.RowKit Go.Deep Go.Lib
def encMu (m:T9.Mu):List Value:=[.int .i64 m.kind,.int .u64 (m.id:Int),.int .u64 (m.list:Int),.string (str m.text),.float .f64 m.f,.bool m.flag]
def T9.Mu.val (m:T9.Mu):Value:=.agg #[.int .i64 m.kind,.int .u64 (m.id:Int),.int .u64 (m.list:Int),.string (str m.text),.float .f64 m.f,.bool m.flag]
theorem a_ {w:World} {a b c d e f:Value} {t:TypeId} {u:World} (h:w.alloc (.cells #[a,b,c,d,e,f] t)=u):u.heap[w.heap.size]?=some (.cells #[a,b,c,d,e,f] t (0,0))∧Below w.heap.size w u∧u.heap.size=w.heap.size+1:=by
 rw [← h]
 exact⟨heap_alloc_new w _,(Below.refl _ w).alloc (Nat.le_refl _) _,by simp⟩
theorem au {w:World} {p:Nat} {t:TypeId} {a b c d e f:Value} {fr:Nat × Nat} (h:w.heap[p]?=some (.cells #[a,b,c,d,e,f] t fr)):w.cell? ⟨p,0,none⟩=some a∧w.cell? ⟨p,1,none⟩=some b∧w.cell? ⟨p,2,none⟩=some c∧w.cell? ⟨p,3,none⟩=some d∧w.cell? ⟨p,4,none⟩=some e∧w.cell? ⟨p,5,none⟩=some f:=by
 simp [World.cell?,h]
theorem iK {l:List UInt8} (h:T9.title l=true):l.length≤60:=by
 unfold T9.title at h
 rw [Bool.and_eq_true,decide_eq_true_eq] at h
 exact h.1.2
theorem D5 {l:List UInt8} (h:T9.tag l=true):l.length≤16:=by
 unfold T9.tag at h
 rw [Bool.and_eq_true,decide_eq_true_eq] at h
 exact h.1.2
theorem jG {s:T9.St} (h:T9.aH s=0):s.short:=by
 obtain⟨h1,h2,h3,h4⟩:=T9.uw h
 have l:=(T9.xS.1 h3).1
 have t:=(T9.yu.1 h4).1
 refine⟨fun x hx=>by have:=iK (l x hx).2;omega,fun x hx=>?_,by omega,by omega⟩
 obtain⟨f1,_,_,_,f5,f6⟩:=T9.og (t x hx).2.1
 exact⟨by have:=iK f1;omega,fun y hy=>by have:=D5 (T9.qD f6 y hy);omega,by omega⟩
theorem Tryz.one11i:prog.cellsOf 3=1:=by kernel_rfl
section
variable {H : Type} {enc : TypeId × Value → H} {w : World} {base : Nat}
end
end
section
section
open Go.ChangeShapes Go.WideShapes Go.ChangeAt Go.RowKit Go.Deep Go.Lib
structure It where
 who:Nat
 id:Nat
 m:T9.Mu
instance:Inhabited It:=⟨⟨0,0,⟨0,0,0,[],0,false⟩⟩⟩
def encI (x:It):List Value:=[.int .u64 (x.who:Int),.int .u64 (x.id:Int),.int .i64 x.m.kind,.int .u64 (x.m.id:Int),.int .u64 (x.m.list:Int),.string (str x.m.text),.float .f64 x.m.f,.bool x.m.flag]
def It.ok (x:It):Prop:=x.m.ok
theorem o9 (x:It):(encI x).length=8:=rfl
theorem uY (x:It):∀ v∈encI x,v.oneCell'=true:=by
 intro v hv
 simp only [encI,List.mem_cons,List.not_mem_nil,or_false] at hv
 rcases hv with rfl | rfl | rfl | rfl | rfl | rfl | rfl | rfl <;> rfl
def fA (xs:List It):List Value:=xs.flatMap encI
theorem vF (xs:List It):(fA xs).length=xs.length * 8:=jS fun x _=>o9 x
def IL (w:World) (A:Option Addr) (xs:List It):Prop:=av w w.heap.size 0 A (fA xs)
section
variable {w w' : World} {A : Option Addr} {xs : List It}
theorem IL.stay (h:IL w A xs) (hb:Below w.heap.size w w'):IL w' A xs:=av.stay h hb
theorem IL.nil:IL w A []:=av.nil
theorem IL.at_ (h:IL w A xs) {k:Nat} (hk:k<xs.length):∃ ad x,A=some ad∧xs[k]?=some x∧w.cell? (ad.add (k * 8))=some (.int .u64 (x.who:Int))∧w.cell? ⟨(ad.add (k * 8)).block,(ad.add (k * 8)).off+1,none⟩=some (.int .u64 (x.id:Int)) ∧
  w.cell? ⟨(ad.add (k * 8)).block,(ad.add (k * 8)).off+2,none⟩=some (.int .i64 x.m.kind)∧w.cell? ⟨(ad.add (k * 8)).block,(ad.add (k * 8)).off+3,none⟩=some (.int .u64 (x.m.id:Int))∧w.cell? ⟨(ad.add (k * 8)).block,(ad.add (k * 8)).off+4,none⟩=some (.int .u64 (x.m.list:Int)) ∧
  w.cell? ⟨(ad.add (k * 8)).block,(ad.add (k * 8)).off+5,none⟩=some (.string (str x.m.text))∧w.cell? ⟨(ad.add (k * 8)).block,(ad.add (k * 8)).off+6,none⟩=some (.float .f64 x.m.f)∧w.cell? ⟨(ad.add (k * 8)).block,(ad.add (k * 8)).off+7,none⟩=some (.bool x.m.flag):=by
 have hx:xs[k]?=some xs[k]:=List.getElem?_eq_getElem hk
 obtain⟨ad,e,_,hc⟩:=h (fun q=>by have:=vF xs;rw [q] at this;simp at this;omega)
 have c:∀ j u,j<8→(encI xs[k])[j]?=some u→w.cell? ((ad.add (k * 8)).add j)=some u:=fun j u hj hu=>by
  rw [addr_add]
  exact hc _ _ ((mR (f:=encI) (size:=8) (fun l _=>o9 l) hx hj).trans hu)
 exact⟨ad,xs[k],e,hx,c 0 _ (by omega) rfl,c 1 _ (by omega) rfl,c 2 _ (by omega) rfl,c 3 _ (by omega) rfl,c 4 _ (by omega) rfl,c 5 _ (by omega) rfl,c 6 _ (by omega) rfl,c 7 _ (by omega) rfl⟩
end
theorem bi {w:World} {a b c d e f g h:Value} {t:TypeId} {u:World} (q:w.alloc (.cells #[a,b,c,d,e,f,g,h] t)=u):u.heap[w.heap.size]?=some (.cells #[a,b,c,d,e,f,g,h] t (0,0))∧Below w.heap.size w u∧u.heap.size=w.heap.size+1:=by
 subst q
 exact⟨heap_alloc_new w _,(Below.refl _ w).alloc (Nat.le_refl _) _,by simp⟩
theorem ay {w:World} {p:Nat} {t:TypeId} {a b c d e f g h:Value} {fr:Nat × Nat} (q:w.heap[p]?=some (.cells #[a,b,c,d,e,f,g,h] t fr)):w.cell? ⟨p,0,none⟩=some a∧w.cell? ⟨p,1,none⟩=some b∧w.cell? ⟨p,2,none⟩=some c∧w.cell? ⟨p,3,none⟩=some d∧w.cell? ⟨p,4,none⟩=some e∧w.cell? ⟨p,5,none⟩=some f∧w.cell? ⟨p,6,none⟩=some g∧w.cell? ⟨p,7,none⟩=some h:=by
 simp [World.cell?,q]
variable {H : Type} {enc : TypeId × Value → H} {w : World} {base : Nat}
theorem Tryz.eight14:prog.cellsOf 57=8:=by kernel_rfl
theorem Tryz.six14:prog.cellsOf 55=6:=by kernel_rfl
theorem uU {fuel:Nat} {cs:List Value} {x:DataW H × List MemPlace} (h:DataW.trod enc prog w 0 (fun _=>true) true fuel 55 cs=some x) :
  ∃ m:T9.Mu,cs=encMu m∧m.ok:=by
 obtain⟨xs,n,_,_,hlen,hxl,hf⟩:=DataW.trod_struct underlying55 h
 rw [Tryz.six14] at hlen
 match cs,hlen with
 | [c0,c1,c2,c3,c4,c5],_ =>
  match xs,hxl with
  | [y0,y1,y2,y3,y4,y5],_ =>
   have h0:DataW.trod enc prog w 0 (fun _=>true) true n 3 (([c0,c1,c2,c3,c4,c5].drop 0).take (prog.cellsOf 3))=some y0:=hf 0 _ rfl
   rw [Tryz.one11i] at h0
   have h1:DataW.trod enc prog w 0 (fun _=>true) true n 22 (([c0,c1,c2,c3,c4,c5].drop 1).take (prog.cellsOf 22))=some y1:=hf 1 _ rfl
   rw [Tryz.one9u] at h1
   have h2:DataW.trod enc prog w 0 (fun _=>true) true n 22 (([c0,c1,c2,c3,c4,c5].drop 2).take (prog.cellsOf 22))=some y2:=hf 2 _ rfl
   rw [Tryz.one9u] at h2
   have h3:DataW.trod enc prog w 0 (fun _=>true) true n 9 (([c0,c1,c2,c3,c4,c5].drop 3).take (prog.cellsOf 9))=some y3:=hf 3 _ rfl
   rw [Tryz.one9s] at h3
   have h4:DataW.trod enc prog w 0 (fun _=>true) true n 53 (([c0,c1,c2,c3,c4,c5].drop 4).take (prog.cellsOf 53))=some y4:=hf 4 _ rfl
   rw [Tryz.one9f] at h4
   have h5:DataW.trod enc prog w 0 (fun _=>true) true n 4 (([c0,c1,c2,c3,c4,c5].drop 5).take (prog.cellsOf 4))=some y5:=hf 5 _ rfl
   rw [Tryz.one9b] at h5
   obtain⟨k0,e0,_,_⟩:=DataW.trod_int underlying3 (h0:DataW.trod enc prog w 0 (fun _=>true) true n 3 [c0]=some y0)
   have g0:c0=_:=List.head_eq_of_cons_eq e0
   subst g0
   obtain⟨k1,e1,_,w1⟩:=DataW.trod_int underlying22 (h1:DataW.trod enc prog w 0 (fun _=>true) true n 22 [c1]=some y1)
   have g1:c1=_:=List.head_eq_of_cons_eq e1
   obtain⟨i1,q1⟩:=Int.eq_ofNat_of_zero_le (wf_u64 w1).1
   have b1:=(wf_u64 w1).2
   subst g1;subst q1
   obtain⟨k2,e2,_,w2⟩:=DataW.trod_int underlying22 (h2:DataW.trod enc prog w 0 (fun _=>true) true n 22 [c2]=some y2)
   have g2:c2=_:=List.head_eq_of_cons_eq e2
   obtain⟨i2,q2⟩:=Int.eq_ofNat_of_zero_le (wf_u64 w2).1
   have b2:=(wf_u64 w2).2
   subst g2;subst q2
   obtain⟨sb,e3,_,_⟩:=DataW.trod_string underlying9 (h3:DataW.trod enc prog w 0 (fun _=>true) true n 9 [c3]=some y3)
   have g3:c3=.string (str sb.data.toList):=(List.head_eq_of_cons_eq e3).trans (by rw [kg])
   subst g3
   obtain⟨i4,e4,_,w4⟩:=jN underlying53 (h4:DataW.trod enc prog w 0 (fun _=>true) true n 53 [c4]=some y4)
   have g4:c4=_:=List.head_eq_of_cons_eq e4
   have b4:=Ef w4
   subst g4
   obtain⟨i5,e5,_⟩:=DataW.trod_bool underlying4 (h5:DataW.trod enc prog w 0 (fun _=>true) true n 4 [c5]=some y5)
   have g5:c5=_:=List.head_eq_of_cons_eq e5
   subst g5
   exact⟨⟨k0,i1,i2,sb.data.toList,i4,i5⟩,rfl,by show i1<_;omega,by show i2<_;omega,b4⟩
theorem sO {fuel:Nat} {cs:List Value} {x:DataW H × List MemPlace} (h:DataW.trod enc prog w 0 (fun _=>true) true fuel 57 cs=some x) :
  ∃ q:It,cs=encI q∧q.ok∧q.who<18446744073709551616∧q.id<18446744073709551616:=by
 obtain⟨xs,n,_,_,hlen,hxl,hf⟩:=DataW.trod_struct underlying57 h
 rw [Tryz.eight14] at hlen
 match cs,hlen with
 | [c0,c1,c2,c3,c4,c5,c6,c7],_ =>
  match xs,hxl with
  | [y0,y1,y2],_ =>
   have h0:DataW.trod enc prog w 0 (fun _=>true) true n 22 (([c0,c1,c2,c3,c4,c5,c6,c7].drop 0).take (prog.cellsOf 22))=some y0:=hf 0 _ rfl
   rw [Tryz.one9u] at h0
   have h1:DataW.trod enc prog w 0 (fun _=>true) true n 22 (([c0,c1,c2,c3,c4,c5,c6,c7].drop 1).take (prog.cellsOf 22))=some y1:=hf 1 _ rfl
   rw [Tryz.one9u] at h1
   have h2:DataW.trod enc prog w 0 (fun _=>true) true n 55 (([c0,c1,c2,c3,c4,c5,c6,c7].drop 2).take (prog.cellsOf 55))=some y2:=hf 2 _ rfl
   rw [Tryz.six14] at h2
   obtain⟨k0,e0,_,w0⟩:=DataW.trod_int underlying22 (h0:DataW.trod enc prog w 0 (fun _=>true) true n 22 [c0]=some y0)
   have g0:c0=_:=List.head_eq_of_cons_eq e0
   obtain⟨i0,q0⟩:=Int.eq_ofNat_of_zero_le (wf_u64 w0).1
   have b0:=(wf_u64 w0).2
   subst g0;subst q0
   obtain⟨k1,e1,_,w1⟩:=DataW.trod_int underlying22 (h1:DataW.trod enc prog w 0 (fun _=>true) true n 22 [c1]=some y1)
   have g1:c1=_:=List.head_eq_of_cons_eq e1
   obtain⟨i1,q1⟩:=Int.eq_ofNat_of_zero_le (wf_u64 w1).1
   have b1:=(wf_u64 w1).2
   subst g1;subst q1
   obtain⟨m,e2,hm⟩:=uU (show DataW.trod enc prog w 0 (fun _=>true) true n 55 [c2,c3,c4,c5,c6,c7]=some y2 from h2)
   refine⟨⟨i0,i1,m⟩,?_,hm,by show i0<_;omega,by show i1<_;omega⟩
   show _ :: _ :: _=_ :: _ :: encMu m
   rw [← e2]
end
end
end Go.Proofs.YtmcfknnfaokmlaaGreat
