import Derived.Test.YtcedlgedmkghgaaGreatZ17
import Derived.Test.YtcedlgedmkghgaaGreatZ16
import Derived.Test.YtcedlgedmkghgaaGreatZ13
import Derived.Test.YtcedlgedmkghgaaGreatZ15
import Derived.Lib.SmallJoins
namespace Go.Proofs.YtcedlgedmkghgaaGreat
set_option maxHeartbeats 16000000
open Go.Lib Go.Proofs.Tryz
set_option linter.unusedSimpArgs false
set_option maxRecDepth 100000
section
open Go.ChangeShapes Go.WideShapes Go.ChangeAt Go.RowKit Go.Deep
theorem m_ (s:ByteArray):str s.data.toList=s:=by
 obtain⟨d⟩:=s
 simp [str]
section
variable {H : Type} {enc : TypeId × Value → H} {w : World} {base : Nat}
theorem Tryz.twoLi9:prog.cellsOf 71=2:=by kernel_rfl
theorem Tryz.sevenTk9:prog.cellsOf 74=7:=by kernel_rfl
theorem Tryz.twoSt9:prog.cellsOf 25=2:=by kernel_rfl
theorem Tryz.one9u:prog.cellsOf 44=1:=by kernel_rfl
theorem Tryz.one9s:prog.cellsOf 9=1:=by kernel_rfl
theorem Tryz.one9b:prog.cellsOf 4=1:=by kernel_rfl
theorem Tryz.one9f:prog.cellsOf 63=1:=by kernel_rfl
theorem Tryz.one9g:prog.cellsOf 72=1:=by kernel_rfl
theorem Tryz.one9l:prog.cellsOf 22=1:=by kernel_rfl
theorem Tryz.one9k:prog.cellsOf 23=1:=by kernel_rfl
theorem mJ {P:Program} {b0:Nat} {spare:Nat→Bool} {held:Bool} {fuel:Nat} {t:TypeId} {k:FloatKind} {cs:List Value} {x:DataW H × List MemPlace} (ht:P.underlying t=some (.float k)) (h:DataW.trod enc P w b0 spare held fuel t cs=some x):∃ n,cs=[.float k n]∧x=(.lit (.float k n),[])∧(Lit.float k n).wf=true:=by
 cases fuel with
 | zero=>simp [DataW.trod] at h
 | succ n =>
  unfold DataW.trod at h
  rw [ht] at h
  split at h <;> simp_all
theorem Js {b:Nat} (h:(Lit.float .f64 b).wf=true):b<18446744073709551616:=of_decide_eq_true h
theorem lq {α:Type} [Inhabited α] {E:α→List Value} {k:Nat} (hk:0<k) (hE:∀ x,(E x).length=k) {p:α→Prop} {a:Addr} {len:Nat} (each:∀ i,i<len→∃ q:α,(∀ j u,(E q)[j]?=some u→w.cell? (a.add (i * k+j))=some u)∧p q) :
  ∃ qs:List α,qs.length=len∧au w w.heap.size 0 (some a) (qs.flatMap E)∧∀ q∈qs,p q:=by
 obtain⟨Q,hQ⟩:=choose_lt (α:=α) (p:=fun i q=>(∀ j u,(E q)[j]?=some u→w.cell? (a.add (i * k+j))=some u)∧p q) each
 refine⟨(List.range len).map Q,by simp,fun hne=>?_,?_⟩
 ·have cells:∀ j u,(((List.range len).map Q).flatMap E)[j]?=some u→w.cell? (a.add j)=some u:=by
   intro j u hu
   have hfl:(((List.range len).map Q).flatMap E).length=((List.range len).map Q).length * k:=jk fun x _=>hE x
   rw [List.length_map,List.length_range] at hfl
   have hj:j<len * k:=by
    rcases Nat.lt_or_ge j (((List.range len).map Q).flatMap E).length with z | z
    ·omega
    ·rw [List.getElem?_eq_none z] at hu;cases hu
   have hd:j / k<len:=(Nat.div_lt_iff_lt_mul hk).2 hj
   have hm:j % k<k:=Nat.mod_lt _ hk
   have hjk:j / k * k+j % k=j:=by rw [Nat.mul_comm];exact Nat.div_add_mod j k
   have e:((List.range len).map Q)[j / k]?=some (Q (j / k)):=by simp [hd]
   have f:=iB (f:=E) (size:=k) (l:=(List.range len).map Q) (fun x _=>hE x) e (j:=j % k) hm
   rw [hjk] at f
   rw [f] at hu
   have:=(hQ (j / k) hd).1 (j % k) u hu
   rwa [hjk] at this
  refine⟨a,rfl,.inl ?_,cells⟩
  obtain⟨u,hu⟩:∃ u,(((List.range len).map Q).flatMap E)[0]?=some u:=by
   cases hq:((List.range len).map Q).flatMap E with
   | nil=>exact absurd hq hne
   | cons u _=>exact⟨u,rfl⟩
  have:=World.block_lt_of_cell? _ _ (cells 0 u hu)
  rwa [iY] at this
 ·intro q hq
  obtain⟨i,hi2,rfl⟩:=List.mem_map.1 hq
  exact (hQ i (List.mem_range.1 hi2)).2
theorem DU (ts:List (List UInt8)):(ts.flatMap fun x=>[encS x])=aB ts:=by
 induction ts with
 | nil=>rfl
 | cons t ts ih=>rw [List.flatMap_cons,ih];rfl
theorem xZ {fuel:Nat} {v:Value} {x:DataW H × List MemPlace} (hf:DataW.trod enc prog w 0 (fun _=>true) true fuel 72 [v]=some x) :
  ∃ (A:Option Addr) (c:Nat) (ts:List (List UInt8)),v=.slice A ts.length c∧ts.length≤c∧c≤maxLen∧GL w A ts:=by
 rcases open_slice underlying72 hf with⟨hcs,_⟩ | ⟨a,len,cap,m,n,D,Pl,hcs,_,hl,hm,hmm,_,hi⟩
 ·simp at hcs
  subst hcs
  exact⟨none,0,[],rfl,Nat.le_refl _,Nat.zero_le _,GL.nil⟩
 ·simp at hcs
  subst hcs
  simp only [if_true] at hmm
  subst hmm
  rw [Tryz.one9s] at hi
  obtain⟨ts,h1,h2,_⟩:=lq (w:=w) (E:=fun x=>[encS x]) (k:=1) (by omega) (fun _=>rfl) (p:=fun _=>True) (a:=a) (len:=len) (fun i hlt=>by
   obtain⟨cs',hc,ht⟩:=hi i (by omega)
   obtain⟨hsz,hcl,hat⟩:=World.cells?_some hc
   obtain⟨sb,e0,_,w0⟩:=DataW.trod_string underlying9 ht
   subst e0
   refine⟨sb.data.toList,fun j u hu=>?_,trivial⟩
   have hj:j<1:=by
    rcases Nat.lt_or_ge j 1 with z | z
    ·exact z
    ·rw [List.getElem?_eq_none (by simpa using z)] at hu;cases hu
   obtain rfl:j=0:=by omega
   have q:=hat 0 (by omega)
   rw [addr_add] at q
   rw [q]
   simp only [List.getElem?_cons_zero,Option.some.injEq] at hu ⊢
   rw [← hu]
   show _=Value.string (str sb.data.toList)
   rw [m_])
  rw [DU] at h2
  exact⟨some a,m,ts,by rw [h1],by omega,hm,h2⟩
theorem xX {fuel:Nat} {cs:List Value} {x:DataW H × List MemPlace} (h:DataW.trod enc prog w 0 (fun _=>true) true fuel 71 cs=some x) :
  ∃ l:T9.Li,cs=bf l∧l.ok:=by
 obtain⟨xs,n,_,_,hlen,hxl,hf⟩:=DataW.trod_struct underlying71 h
 rw [Tryz.twoLi9] at hlen
 match cs,hlen with
 | [c0,c1],_ =>
  match xs,hxl with
  | [y0,y1],_ =>
   have h0:DataW.trod enc prog w 0 (fun _=>true) true n 44 (([c0,c1].drop 0).take (prog.cellsOf 44))=some y0:=hf 0 _ rfl
   rw [Tryz.one9u] at h0
   have h1:DataW.trod enc prog w 0 (fun _=>true) true n 9 (([c0,c1].drop 1).take (prog.cellsOf 9))=some y1:=hf 1 _ rfl
   rw [Tryz.one9s] at h1
   obtain⟨k,e0,_,w0⟩:=DataW.trod_int underlying44 (h0:DataW.trod enc prog w 0 (fun _=>true) true n 44 [c0]=some y0)
   obtain⟨sb,e1,_,_⟩:=DataW.trod_string underlying9 (h1:DataW.trod enc prog w 0 (fun _=>true) true n 9 [c1]=some y1)
   have b:=wf_u64 w0
   obtain⟨i,hi⟩:=Int.eq_ofNat_of_zero_le b.1
   have g0:c0=_:=List.head_eq_of_cons_eq e0
   have g1:c1=.string (str sb.data.toList):=(List.head_eq_of_cons_eq e1).trans (by rw [m_])
   subst g0;subst g1;subst hi
   exact⟨⟨i,sb.data.toList⟩,rfl,by show i<_;omega⟩
theorem x8 {fuel:Nat} {cs:List Value} {x:DataW H × List MemPlace} (h:DataW.trod enc prog w 0 (fun _=>true) true fuel 74 cs=some x) :
  ∃ m:aL,cs=az m∧m.t.ok∧m.fine w∧m.t.tags.length≤maxLen:=by
 obtain⟨xs,n,_,_,hlen,hxl,hf⟩:=DataW.trod_struct underlying74 h
 rw [Tryz.sevenTk9] at hlen
 match cs,hlen with
 | [c0,c1,c2,c3,c4,c5,c6],_ =>
  match xs,hxl with
  | [y0,y1,y2,y3,y4,y5,y6],_ =>
   have h0:DataW.trod enc prog w 0 (fun _=>true) true n 44 (([c0,c1,c2,c3,c4,c5,c6].drop 0).take (prog.cellsOf 44))=some y0:=hf 0 _ rfl
   rw [Tryz.one9u] at h0
   have h1:DataW.trod enc prog w 0 (fun _=>true) true n 44 (([c0,c1,c2,c3,c4,c5,c6].drop 1).take (prog.cellsOf 44))=some y1:=hf 1 _ rfl
   rw [Tryz.one9u] at h1
   have h2:DataW.trod enc prog w 0 (fun _=>true) true n 9 (([c0,c1,c2,c3,c4,c5,c6].drop 2).take (prog.cellsOf 9))=some y2:=hf 2 _ rfl
   rw [Tryz.one9s] at h2
   have h3:DataW.trod enc prog w 0 (fun _=>true) true n 4 (([c0,c1,c2,c3,c4,c5,c6].drop 3).take (prog.cellsOf 4))=some y3:=hf 3 _ rfl
   rw [Tryz.one9b] at h3
   have h4:DataW.trod enc prog w 0 (fun _=>true) true n 63 (([c0,c1,c2,c3,c4,c5,c6].drop 4).take (prog.cellsOf 63))=some y4:=hf 4 _ rfl
   rw [Tryz.one9f] at h4
   have h5:DataW.trod enc prog w 0 (fun _=>true) true n 63 (([c0,c1,c2,c3,c4,c5,c6].drop 5).take (prog.cellsOf 63))=some y5:=hf 5 _ rfl
   rw [Tryz.one9f] at h5
   have h6:DataW.trod enc prog w 0 (fun _=>true) true n 72 (([c0,c1,c2,c3,c4,c5,c6].drop 6).take (prog.cellsOf 72))=some y6:=hf 6 _ rfl
   rw [Tryz.one9g] at h6
   obtain⟨k0,e0,_,w0⟩:=DataW.trod_int underlying44 (h0:DataW.trod enc prog w 0 (fun _=>true) true n 44 [c0]=some y0)
   have g0:c0=_:=List.head_eq_of_cons_eq e0
   obtain⟨i0,q0⟩:=Int.eq_ofNat_of_zero_le (wf_u64 w0).1
   have b0:=(wf_u64 w0).2
   subst g0;subst q0
   obtain⟨k1,e1,_,w1⟩:=DataW.trod_int underlying44 (h1:DataW.trod enc prog w 0 (fun _=>true) true n 44 [c1]=some y1)
   have g1:c1=_:=List.head_eq_of_cons_eq e1
   obtain⟨i1,q1⟩:=Int.eq_ofNat_of_zero_le (wf_u64 w1).1
   have b1:=(wf_u64 w1).2
   subst g1;subst q1
   obtain⟨sb,e2,_,_⟩:=DataW.trod_string underlying9 (h2:DataW.trod enc prog w 0 (fun _=>true) true n 9 [c2]=some y2)
   have g2:c2=.string (str sb.data.toList):=(List.head_eq_of_cons_eq e2).trans (by rw [m_])
   subst g2
   obtain⟨i3,e3,_⟩:=DataW.trod_bool underlying4 (h3:DataW.trod enc prog w 0 (fun _=>true) true n 4 [c3]=some y3)
   have g3:c3=_:=List.head_eq_of_cons_eq e3
   subst g3
   obtain⟨i4,e4,_,w4⟩:=mJ underlying63 (h4:DataW.trod enc prog w 0 (fun _=>true) true n 63 [c4]=some y4)
   have g4:c4=_:=List.head_eq_of_cons_eq e4
   have b4:=Js w4
   subst g4
   obtain⟨i5,e5,_,w5⟩:=mJ underlying63 (h5:DataW.trod enc prog w 0 (fun _=>true) true n 63 [c5]=some y5)
   have g5:c5=_:=List.head_eq_of_cons_eq e5
   have b5:=Js w5
   subst g5
   obtain⟨A,c,ts,e6,hc,hm,hL⟩:=xZ (h6:DataW.trod enc prog w 0 (fun _=>true) true n 72 [c6]=some y6)
   subst e6
   exact⟨⟨⟨i0,i1,sb.data.toList,i3,i4,i5,ts⟩,A,c⟩,rfl,⟨by show i0<_;omega,by show i1<_;omega,b4,b5⟩,⟨hL,hc⟩,Nat.le_trans hc hm⟩
theorem wC {fuel:Nat} {v:Value} {x:DataW H × List MemPlace} (hf:DataW.trod enc prog w 0 (fun _=>true) true fuel 22 [v]=some x) :
  ∃ (A:Option Addr) (c:Nat) (ls:List (T9.Li)),v=.slice A ls.length c∧ls.length≤c∧au w w.heap.size 0 A (ls.flatMap bf)∧∀ q∈ls,q.ok:=by
 rcases open_slice underlying22 hf with⟨hcs,_⟩ | ⟨a,len,cap,m,n,D,Pl,hcs,_,hl,hm,hmm,_,hi⟩
 ·simp at hcs
  subst hcs
  exact⟨none,0,[],rfl,Nat.le_refl _,au.nil,by simp⟩
 ·simp at hcs
  subst hcs
  simp only [if_true] at hmm
  subst hmm
  rw [Tryz.twoLi9] at hi
  obtain⟨ls,h1,h2,h3⟩:=lq (w:=w) (E:=bf) (k:=2) (by omega) (fun x=>fJ x) (p:=fun q=>q.ok) (a:=a) (len:=len) (fun i hlt=>by
   obtain⟨cs',hc,ht⟩:=hi i (by omega)
   obtain⟨q,rfl,hok⟩:=xX ht
   obtain⟨_,hcl,hat⟩:=World.cells?_some hc
   refine⟨q,fun j u hu=>?_,hok⟩
   have hj:j<2:=by
    rcases Nat.lt_or_ge j (bf q).length with z | z
    ·exact z
    ·rw [List.getElem?_eq_none z] at hu;cases hu
   have:=hat j hj
   rw [addr_add] at this
   rw [this];exact hu)
  exact⟨some a,m,ls,by rw [h1],by omega,h2,h3⟩
theorem wD {fuel:Nat} {v:Value} {x:DataW H × List MemPlace} (hf:DataW.trod enc prog w 0 (fun _=>true) true fuel 23 [v]=some x) :
  ∃ (A:Option Addr) (c:Nat) (ls:List (aL)),v=.slice A ls.length c∧ls.length≤c∧au w w.heap.size 0 A (ls.flatMap az)∧∀ q∈ls,q.t.ok∧q.fine w∧q.t.tags.length≤maxLen:=by
 rcases open_slice underlying23 hf with⟨hcs,_⟩ | ⟨a,len,cap,m,n,D,Pl,hcs,_,hl,hm,hmm,_,hi⟩
 ·simp at hcs
  subst hcs
  exact⟨none,0,[],rfl,Nat.le_refl _,au.nil,by simp⟩
 ·simp at hcs
  subst hcs
  simp only [if_true] at hmm
  subst hmm
  rw [Tryz.sevenTk9] at hi
  obtain⟨ls,h1,h2,h3⟩:=lq (w:=w) (E:=az) (k:=7) (by omega) (fun x=>aU x) (p:=fun q=>q.t.ok∧q.fine w∧q.t.tags.length≤maxLen) (a:=a) (len:=len) (fun i hlt=>by
   obtain⟨cs',hc,ht⟩:=hi i (by omega)
   obtain⟨q,rfl,hok⟩:=x8 ht
   obtain⟨_,hcl,hat⟩:=World.cells?_some hc
   refine⟨q,fun j u hu=>?_,hok⟩
   have hj:j<7:=by
    rcases Nat.lt_or_ge j (az q).length with z | z
    ·exact z
    ·rw [List.getElem?_eq_none z] at hu;cases hu
   have:=hat j hj
   rw [addr_add] at this
   rw [this];exact hu)
  exact⟨some a,m,ls,by rw [h1],by omega,h2,h3⟩
theorem yU {v:Value} {d:DataW H} {ps:List MemPlace} (hval:Value.okWide prog w .any base 25 v) (h:DataW.Trod enc prog w 0 (fun _=>true) true 25 v d ps) :
  ∃ m:aW,v=m.val∧SM m w∧m.st.ok∧m.far:=by
 obtain⟨cs,rfl,hsz⟩:=okWide_struct underlying25 hval
 rw [Tryz.twoSt9] at hsz
 obtain⟨c0,c1,rfl⟩:∃ c0 c1,cs=#[c0,c1]:=by
  obtain⟨l⟩:=cs
  match l,hsz with
  | [a,b],_=>exact⟨a,b,rfl⟩
 obtain⟨fuel,hf⟩:=h
 obtain⟨xs,n,_,_,_,hxl,hf2⟩:=DataW.trod_struct underlying25 hf
 match xs,hxl with
 | [y0,y1],_ =>
  have h0:DataW.trod enc prog w 0 (fun _=>true) true n 22 (((Value.agg #[c0,c1]).cells.toList.drop 0).take (prog.cellsOf 22))=some y0:=hf2 0 _ rfl
  have h1:DataW.trod enc prog w 0 (fun _=>true) true n 23 (((Value.agg #[c0,c1]).cells.toList.drop 1).take (prog.cellsOf 23))=some y1:=hf2 1 _ rfl
  rw [Tryz.one9l] at h0
  rw [Tryz.one9k] at h1
  obtain⟨A,c,ls,e0,hc,hL,hp⟩:=wC (v:=c0) h0
  obtain⟨A2,c2,ms,e1,hc2,hK,hq⟩:=wD (v:=c1) h1
  subst e0;subst e1
  refine⟨⟨ls,A,c,ms,A2,c2⟩,rfl,⟨hL,⟨hK,fun m hm=>(hq m hm).2.1⟩,hc,hc2⟩,⟨hp,fun t ht=>?_⟩,fun m hm=>(hq m hm).2.2⟩
  obtain⟨m,hm,rfl⟩:=List.mem_map.1 ht
  exact (hq m hm).1
end
end
section
open Go.ChangeShapes Go.WideShapes Go.ChangeAt Go.RowKit Go.Deep Go.Lib
def encMu (m:T9.Mu):List Value:=[.int .i64 m.kind,.int .u64 (m.id:Int),.int .u64 (m.list:Int),.string (str m.text),.float .f64 m.f,.bool m.flag]
def T9.Mu.val (m:T9.Mu):Value:=.agg #[.int .i64 m.kind,.int .u64 (m.id:Int),.int .u64 (m.list:Int),.string (str m.text),.float .f64 m.f,.bool m.flag]
theorem bu {w:World} {a b c d e f:Value} {t:TypeId} {u:World} (h:w.alloc (.cells #[a,b,c,d,e,f] t)=u):u.heap[w.heap.size]?=some (.cells #[a,b,c,d,e,f] t (0,0))∧Below w.heap.size w u∧u.heap.size=w.heap.size+1:=by
 rw [← h]
 exact⟨heap_alloc_new w _,(Below.refl _ w).alloc (Nat.le_refl _) _,by simp⟩
theorem ag {w:World} {p:Nat} {t:TypeId} {a b c d e f:Value} {fr:Nat × Nat} (h:w.heap[p]?=some (.cells #[a,b,c,d,e,f] t fr)):w.cell? ⟨p,0,none⟩=some a∧w.cell? ⟨p,1,none⟩=some b∧w.cell? ⟨p,2,none⟩=some c∧w.cell? ⟨p,3,none⟩=some d∧w.cell? ⟨p,4,none⟩=some e∧w.cell? ⟨p,5,none⟩=some f:=by
 simp [World.cell?,h]
def j6 (m:T9.Mu) (g:Nat) (w:World):Prop:=w.heap[g]?=some (.cells #[.int .i64 m.kind,.int .u64 (m.id:Int),.int .u64 (m.list:Int),.string (str m.text),.float .f64 m.f,.bool m.flag] 65 (0,0))
theorem j6.stay {m:T9.Mu} {g:Nat} {w w':World} (h:j6 m g w) (hb:Below w.heap.size w w'):j6 m g w':=(hb.block g (lt_of_block h)).trans h
theorem zJ {l:List UInt8} (h:T9.title l=true):l.length≤60:=by
 unfold T9.title at h
 rw [Bool.and_eq_true,decide_eq_true_eq] at h
 exact h.1.2
theorem Jo {l:List UInt8} (h:T9.tag l=true):l.length≤16:=by
 unfold T9.tag at h
 rw [Bool.and_eq_true,decide_eq_true_eq] at h
 exact h.1.2
theorem zm {s:T9.St} (h:T9.aH s=0):s.short:=by
 obtain⟨h1,h2,h3,h4⟩:=T9.aD h
 have l:=(T9.iE.1 h3).1
 have t:=(T9.cu.1 h4).1
 refine⟨fun x hx=>by have:=zJ (l x hx).2;omega,fun x hx=>?_,by omega,by omega⟩
 obtain⟨f1,_,_,_,f5,f6⟩:=T9.b_ (t x hx).2.1
 exact⟨by have:=zJ f1;omega,fun y hy=>by have:=Jo (T9.oz f6 y hy);omega,by omega⟩
theorem Dn {s:T9.St} {m:T9.Mu} (h:(T9.bA s m).2=0):T9.aH s=0∧T9.bN m=0∧(T9.eB s m).1=0∧(T9.bA s m).1=(T9.eB s m).2:=by
 unfold T9.bA at h ⊢
 by_cases a:T9.aH s≠0
 ·rw [if_pos a] at h;exact absurd h a
 rw [if_neg a] at h ⊢
 by_cases b:T9.bN m≠0
 ·rw [if_pos b] at h;exact absurd h b
 rw [if_neg b] at h ⊢
 by_cases c:(T9.eB s m).1≠0
 ·rw [if_pos c] at h;exact absurd h c
 rw [if_neg c]
 exact⟨by omega,by omega,by omega,rfl⟩
theorem Ah {s:T9.St} {m:T9.Mu} (h:(T9.bA s m).2≠0):(T9.bA s m).1=⟨[],[]⟩:=by
 unfold T9.bA at h ⊢
 split
 ·rfl
 ·split
  ·rfl
  ·split
   ·rfl
   ·rename_i a b c
    rw [if_neg a,if_neg b,if_neg c] at h
    exact absurd rfl h
theorem Tryz.one11i:prog.cellsOf 3=1:=by kernel_rfl
section
variable {H : Type} {enc : TypeId × Value → H} {w : World} {base : Nat}
end
end
section
open Go.Shelf Go.RowKit Go.Lib Go.Sort
def zu (n:Nat):Nat:=n % 18446744073709551616
theorem IZ (n:Nat):zu n<18446744073709551616:=Nat.mod_lt _ (by decide)
theorem rkw_id {n:Nat} (h:n<18446744073709551616):zu n=n:=Nat.mod_eq_of_lt h
def rkM (m:aL):aL:=⟨{ m.t with rank:=zu m.t.rank },m.A,m.c⟩
theorem rkM_id {m:aL} (h:m.t.rank<18446744073709551616):rkM m=m:=by
 unfold rkM
 rw [rkw_id h]
def encR (m:aL):List Value:=az (rkM m)
theorem Gn (m:aL):(encR m).length=7:=rfl
theorem Gp (m:aL):∀ v∈encR m,v.oneCell'=true:=dI _
def F5 (x y:aL):Int:=if Fl.lt (zu x.t.rank) (zu y.t.rank)=true then -1 else if Fl.lt (zu y.t.rank) (zu x.t.rank)=true then 1 else h_ x.t.id y.t.id
theorem Iw (n:Nat):Fl.pl (zu n)=Fl.pl n:=by
 have h1:zu n % Fl.two63=n % Fl.two63:=by unfold zu;rw [Fl.j3];omega
 have h2:zu n / Fl.two63 % 2=n / Fl.two63 % 2:=by unfold zu;rw [Fl.j3];omega
 have e:Fl.dw (zu n)=Fl.dw n:=by unfold Fl.dw;rw [h1]
 unfold Fl.pl
 rw [e]
 unfold Fl.sv
 rw [h1,h2]
theorem Hu (a b:Nat):Fl.lt (zu a) (zu b)=Fl.lt a b:=by
 rw [Bool.eq_iff_iff,Fl.rE,Fl.rE,Iw,Iw]
theorem Ba:ltOf F5=fun x y=>T9.kT x.t y.t:=by
 funext x y
 show decide (F5 x y<0)=T9.kT x.t y.t
 unfold F5 T9.kT
 rw [Hu,Hu]
 cases h:Fl.lt x.t.rank y.t.rank
 ·cases k:Fl.lt y.t.rank x.t.rank
  ·rw [if_neg (by decide),if_neg (by decide),r_];simp
  ·rw [if_neg (by decide),if_pos rfl];rfl
 ·rw [if_pos rfl];rfl
theorem woRM:Sr.WO (ltOf F5):=by
 rw [Ba]
 exact⟨fun a=>T9.EO.irr _,fun a b c=>T9.EO.tr _ _ _,fun a b c=>T9.EO.ng _ _ _⟩
theorem cmpR_w (x y:aL) (W:World) :
  Calls prog 253 #[.agg (encR x).toArray,.agg (encR y).toArray] W fun e w'=>e=.returned (.int .i64 (F5 x y))∧∃ q os',w'=grow (W.drewN q) os':=by
 obtain⟨wB,iR⟩:∃ u,(W.alloc (.cells (encR x).toArray 74)).alloc (.cells (encR y).toArray 74)=u:=⟨_,rfl⟩
 have GB:Hid (∀ q os,grow (wB.drewN q) os=grow (W.drewN q) (#[.cells (encR x).toArray 74,.cells (encR y).toArray 74]++os)):=hid fun q os=>by rw [← iR];exact lX W _ _ q os
 have kx:wB.heap[W.heap.size]?=some (.cells (encR x).toArray 74 (0,0)):=by rw [← iR];exact aY (heap_alloc_new W _) _
 have ky:wB.heap[W.heap.size+1]?=some (.cells (encR y).toArray 74 (0,0)):=by
  rw [← iR]
  have:=heap_alloc_new (W.alloc (.cells (encR x).toArray 74)) (.cells (encR y).toArray 74)
  rwa [World.size_alloc] at this
 have rx:=IZ x.t.rank
 have ry:=IZ y.t.rank
 unfold encR az rkM at kx ky iR ⊢
 dsimp only at kx ky iR ⊢
 unfold F5
 generalize zu x.t.rank=a at *
 generalize zu y.t.rank=b at *
 obtain⟨x0,x1,x2,x3,x4,x5,x6⟩:=aj kx
 obtain⟨y0,y1,y2,y3,y4,y5,y6⟩:=aj ky
 clear kx ky
 have FIN:Hid (∃ q os',wB=grow (W.drewN q) os'):=hid ⟨0,_,(show wB=grow (wB.drewN 0) #[] by rw [drewN_zero,grow_empty]).trans (GB.out 0 #[])⟩
 cases h:Fl.lt a b
 ·cases k:Fl.lt b a
  ·rw [if_neg (by decide),if_neg (by decide)]
   go_enter func253,ntmps253
   go_wp2_with (first | (go_at_call 254;refine (AX _ _ _ (by assumption) (by assumption)).mono ?_;rintro e w' ⟨rfl,rfl⟩) | (go_at_call 172;refine (qf _ _ _).mono ?_;rintro e w' ⟨rfl,rfl⟩))
   go_ret
   exact⟨rfl,FIN.out⟩
  ·rw [if_neg (by decide),if_pos rfl]
   go_enter func253,ntmps253
   go_wp2_with (go_at_call 254;refine (AX _ _ _ (by assumption) (by assumption)).mono ?_;rintro e w' ⟨rfl,rfl⟩)
   go_ret
   exact⟨rfl,FIN.out⟩
 ·rw [if_pos rfl]
  go_enter func253,ntmps253
  go_wp2_with (go_at_call 254;refine (AX _ _ _ (by assumption) (by assumption)).mono ?_;rintro e w' ⟨rfl,rfl⟩)
  go_ret
  exact⟨rfl,FIN.out⟩
theorem sortR_c {blk cap:Nat} {d:Array aL} {w:World} {g:Nat} {cb:Array Value} (R:RowK encR 7 w blk 0 d) (S:SWK encR 7 w blk 0 d w) (eg:∀ args w,(callFunc g args).run prog w=.ok (.enter g args) w) (hcmp:CmpLays prog g cb encR 7 F5 blk 0 d.size w) (hsz:d.size<4611686018427387904) (n:Nat) (hn:n=d.size) :
  Calls prog 176 #[.slice (some ⟨blk,0,none⟩) n cap,.func (.func g) #[] cb] w fun e w'=>e=.returned (.tuple #[])∧lN F5 encR 7 w blk 0 d [] d.toList [] w':=by
 have hc:=xB srtK 7 isAgg74 sizeOf74 encR blk 0 cap d d w w R rfl S F5 g cb eg hcmp woRM n hn hsz;simp only [cond_true,cond_false] at hc
 rw [← hn] at hc
 have HC:=hid hc
 clear hc hcmp R S hn hsz
 go_enter func176,ntmps176
 go_wp2_with (go_at_call 220;refine HC.out.mono ?_;rintro e w1 ⟨rfl,hw1⟩)
 have H:=hid hw1
 clear hw1
 go_wp2
 go_end0
 exact⟨rfl,H.out⟩
def zW (ts:List (List UInt8)) (w:World) (e:Ending) (w':World):Prop:=∃ A2 c2,e=.returned (.slice A2 ts.length c2)∧au w' 0 9 A2 (aB ts)∧ts.length≤c2∧Below w.heap.size w w'
theorem Av {A:Option Addr} {n c:Nat} {ts:List (List UInt8)} {w:World} (h:GL w A ts) (hn:n=ts.length) (hs:n≤1000000000):Calls prog 252 #[.slice A n c] w (zW ts w):=by
 obtain⟨i0,hi,hz0,hz1,hz2⟩:=info_parts Tryz.infoStr9
 have q:=fun (w:World) a n c n' c'=>Lib.run_eql_slice_nil (P:=prog) w 72 9 a n c n' c' underlying72
 have HL:=hid h
 have HN:=hid hn
 clear h hn
 rcases A with _ | ad
 ·have h0:n=0:=by
   rcases Nat.eq_zero_or_pos n with q | q
   ·exact q
   ·obtain⟨ad,_,e,_⟩:=HL.out.at_ (k:=0) (by have:=HN.out;omega)
    cases e
  subst h0
  have e:ts=[]:=List.length_eq_zero_iff.1 HN.out.symm
  subst e
  go_enter func252,ntmps252
  go_wp2
  go_ret
  exact⟨_,0,rfl,au.nil,Nat.le_refl _,Below.refl _ _⟩
 ·have ho:(w.alloc (.cells #[] 9)).ownsRow w.heap.size 9 1 (.slice (some ⟨w.heap.size,0,none⟩) 0 0) 0 []:=World.ownsRow_made w #[] 0 (Nat.le_refl _) (by unfold maxLen;omega) rfl
  have HO:=hid ho
  clear ho
  go_enter func252,ntmps252
  go_wp2_with (at_builtin;refine bE _ rfl _ _ 72 rfl w.heap.size 9 i0 _ 1 16 underlying72 hi hz0 hz1 hz2 rfl (by decide) _ 0 [] rfl HO.out (w.alloc (.cells #[] 9)).heap.size _ n c (aB ts) 0 rfl (by rw [dC,HN.out];omega) (au.stay HL.out ((Below.refl _ _).alloc (Nat.le_refl _) _)) (eT _) (by unfold maxLen;omega) (by omega) (by simp) ?_)
  intro v' w1 hown' hgrow _
  obtain⟨A2,k2,rfl⟩:=aA hown'
  have T1:=pX HO.out hgrow
  have ho2:w1.ownsRow w.heap.size 9 1 (.slice A2 n k2) n (aB ts):=by simpa using hown'
  have HO2:=hid ho2
  have HT:=hid T1
  clear hown' ho2 T1 hgrow
  go_wp2
  go_ret
  refine⟨A2,k2,by rw [← HN.out];simp,aG HO2.out,by rw [← HN.out];exact (aO HO2.out).2,HT.out⟩
end
end Go.Proofs.YtcedlgedmkghgaaGreat
