import Derived.Test.YtdjiiknefhepdaaGreatZ16
import Derived.Test.YtdjiiknefhepdaaGreatZ15
import Derived.Test.YtdjiiknefhepdaaGreatZ12
import Derived.Test.YtdjiiknefhepdaaGreatZ14
import Derived.Lib.SmallJoins
namespace Go.Proofs.YtdjiiknefhepdaaGreat
set_option maxHeartbeats 16000000
open Go.Lib Go.Proofs.Tryz
set_option linter.unusedSimpArgs false
set_option maxRecDepth 100000
section
open Go.ChangeShapes Go.WideShapes Go.ChangeAt Go.RowKit Go.Deep
theorem nI (s:ByteArray):str s.data.toList=s:=by
 obtain⟨d⟩:=s
 simp [str]
section
variable {H : Type} {enc : TypeId × Value → H} {w : World} {base : Nat}
theorem Tryz.twoLi9:prog.cellsOf 60=2:=by kernel_rfl
theorem Tryz.sevenTk9:prog.cellsOf 63=7:=by kernel_rfl
theorem Tryz.twoSt9:prog.cellsOf 25=2:=by kernel_rfl
theorem Tryz.one9u:prog.cellsOf 53=1:=by kernel_rfl
theorem Tryz.one9s:prog.cellsOf 9=1:=by kernel_rfl
theorem Tryz.one9b:prog.cellsOf 4=1:=by kernel_rfl
theorem Tryz.one9f:prog.cellsOf 54=1:=by kernel_rfl
theorem Tryz.one9g:prog.cellsOf 61=1:=by kernel_rfl
theorem Tryz.one9l:prog.cellsOf 22=1:=by kernel_rfl
theorem Tryz.one9k:prog.cellsOf 23=1:=by kernel_rfl
theorem mU {P:Program} {b0:Nat} {spare:Nat→Bool} {held:Bool} {fuel:Nat} {t:TypeId} {k:FloatKind} {cs:List Value} {x:DataW H × List MemPlace} (ht:P.underlying t=some (.float k)) (h:DataW.trod enc P w b0 spare held fuel t cs=some x):∃ n,cs=[.float k n]∧x=(.lit (.float k n),[])∧(Lit.float k n).wf=true:=by
 cases fuel with
 | zero=>simp [DataW.trod] at h
 | succ n =>
  unfold DataW.trod at h
  rw [ht] at h
  split at h <;> simp_all
theorem Jb {b:Nat} (h:(Lit.float .f64 b).wf=true):b<18446744073709551616:=of_decide_eq_true h
theorem lW {α:Type} [Inhabited α] {E:α→List Value} {k:Nat} (hk:0<k) (hE:∀ x,(E x).length=k) {p:α→Prop} {a:Addr} {len:Nat} (each:∀ i,i<len→∃ q:α,(∀ j u,(E q)[j]?=some u→w.cell? (a.add (i * k+j))=some u)∧p q) :
  ∃ qs:List α,qs.length=len∧au w w.heap.size 0 (some a) (qs.flatMap E)∧∀ q∈qs,p q:=by
 obtain⟨Q,hQ⟩:=choose_lt (α:=α) (p:=fun i q=>(∀ j u,(E q)[j]?=some u→w.cell? (a.add (i * k+j))=some u)∧p q) each
 refine⟨(List.range len).map Q,by simp,fun hne=>?_,?_⟩
 ·have cells:∀ j u,(((List.range len).map Q).flatMap E)[j]?=some u→w.cell? (a.add j)=some u:=by
   intro j u hu
   have hfl:(((List.range len).map Q).flatMap E).length=((List.range len).map Q).length * k:=jS fun x _=>hE x
   rw [List.length_map,List.length_range] at hfl
   have hj:j<len * k:=by
    rcases Nat.lt_or_ge j (((List.range len).map Q).flatMap E).length with z | z
    ·omega
    ·rw [List.getElem?_eq_none z] at hu;cases hu
   have hd:j / k<len:=(Nat.div_lt_iff_lt_mul hk).2 hj
   have hm:j % k<k:=Nat.mod_lt _ hk
   have hjk:j / k * k+j % k=j:=by rw [Nat.mul_comm];exact Nat.div_add_mod j k
   have e:((List.range len).map Q)[j / k]?=some (Q (j / k)):=by simp [hd]
   have f:=iR (f:=E) (size:=k) (l:=(List.range len).map Q) (fun x _=>hE x) e (j:=j % k) hm
   rw [hjk] at f
   rw [f] at hu
   have:=(hQ (j / k) hd).1 (j % k) u hu
   rwa [hjk] at this
  refine⟨a,rfl,.inl ?_,cells⟩
  obtain⟨u,hu⟩:∃ u,(((List.range len).map Q).flatMap E)[0]?=some u:=by
   cases hq:((List.range len).map Q).flatMap E with
   | nil=>exact absurd hq hne
   | cons u _=>exact⟨u,rfl⟩
  have:=World.block_lt_of_cell? _ _ (cells 0 u hu)
  rwa [lV] at this
 ·intro q hq
  obtain⟨i,hi2,rfl⟩:=List.mem_map.1 hq
  exact (hQ i (List.mem_range.1 hi2)).2
theorem DK (ts:List (List UInt8)):(ts.flatMap fun x=>[encS x])=aC ts:=by
 induction ts with
 | nil=>rfl
 | cons t ts ih=>rw [List.flatMap_cons,ih];rfl
theorem zS {fuel:Nat} {v:Value} {x:DataW H × List MemPlace} (hf:DataW.trod enc prog w 0 (fun _=>true) true fuel 61 [v]=some x) :
  ∃ (A:Option Addr) (c:Nat) (ts:List (List UInt8)),v=.slice A ts.length c∧ts.length≤c∧c≤maxLen∧GL w A ts:=by
 rcases open_slice underlying61 hf with⟨hcs,_⟩ | ⟨a,len,cap,m,n,D,Pl,hcs,_,hl,hm,hmm,_,hi⟩
 ·simp at hcs
  subst hcs
  exact⟨none,0,[],rfl,Nat.le_refl _,Nat.zero_le _,GL.nil⟩
 ·simp at hcs
  subst hcs
  simp only [if_true] at hmm
  subst hmm
  rw [Tryz.one9s] at hi
  obtain⟨ts,h1,h2,_⟩:=lW (w:=w) (E:=fun x=>[encS x]) (k:=1) (by omega) (fun _=>rfl) (p:=fun _=>True) (a:=a) (len:=len) (fun i hlt=>by
   obtain⟨cs',hc,ht⟩:=hi i (by omega)
   obtain⟨hsz,hcl,hat⟩:=World.cells?_some hc
   obtain⟨sb,e0,_,w0⟩:=DataW.trod_string underlying9 ht
   subst e0
   refine⟨sb.data.toList,fun j u hu=>?_,trivial⟩
   have hj:j<1:=by
    rcases Nat.lt_or_ge j 1 with z | z
    ·exact z
    ·rw [List.getElem?_eq_none (by simpa using z)] at hu;cases hu
   obtain rfl:j=0:=by omega
   have q:=hat 0 (by omega)
   rw [addr_add] at q
   rw [q]
   simp only [List.getElem?_cons_zero,Option.some.injEq] at hu ⊢
   rw [← hu]
   show _=Value.string (str sb.data.toList)
   rw [nI])
  rw [DK] at h2
  exact⟨some a,m,ts,by rw [h1],by omega,hm,h2⟩
theorem y7 {fuel:Nat} {cs:List Value} {x:DataW H × List MemPlace} (h:DataW.trod enc prog w 0 (fun _=>true) true fuel 60 cs=some x) :
  ∃ l:T9.Li,cs=bf l∧l.ok:=by
 obtain⟨xs,n,_,_,hlen,hxl,hf⟩:=DataW.trod_struct underlying60 h
 rw [Tryz.twoLi9] at hlen
 match cs,hlen with
 | [c0,c1],_ =>
  match xs,hxl with
  | [y0,y1],_ =>
   have h0:DataW.trod enc prog w 0 (fun _=>true) true n 53 (([c0,c1].drop 0).take (prog.cellsOf 53))=some y0:=hf 0 _ rfl
   rw [Tryz.one9u] at h0
   have h1:DataW.trod enc prog w 0 (fun _=>true) true n 9 (([c0,c1].drop 1).take (prog.cellsOf 9))=some y1:=hf 1 _ rfl
   rw [Tryz.one9s] at h1
   obtain⟨k,e0,_,w0⟩:=DataW.trod_int underlying53 (h0:DataW.trod enc prog w 0 (fun _=>true) true n 53 [c0]=some y0)
   obtain⟨sb,e1,_,_⟩:=DataW.trod_string underlying9 (h1:DataW.trod enc prog w 0 (fun _=>true) true n 9 [c1]=some y1)
   have b:=wf_u64 w0
   obtain⟨i,hi⟩:=Int.eq_ofNat_of_zero_le b.1
   have g0:c0=_:=List.head_eq_of_cons_eq e0
   have g1:c1=.string (str sb.data.toList):=(List.head_eq_of_cons_eq e1).trans (by rw [nI])
   subst g0;subst g1;subst hi
   exact⟨⟨i,sb.data.toList⟩,rfl,by show i<_;omega⟩
theorem zH {fuel:Nat} {cs:List Value} {x:DataW H × List MemPlace} (h:DataW.trod enc prog w 0 (fun _=>true) true fuel 63 cs=some x) :
  ∃ m:aM,cs=az m∧m.t.ok∧m.fine w∧m.t.tags.length≤maxLen:=by
 obtain⟨xs,n,_,_,hlen,hxl,hf⟩:=DataW.trod_struct underlying63 h
 rw [Tryz.sevenTk9] at hlen
 match cs,hlen with
 | [c0,c1,c2,c3,c4,c5,c6],_ =>
  match xs,hxl with
  | [y0,y1,y2,y3,y4,y5,y6],_ =>
   have h0:DataW.trod enc prog w 0 (fun _=>true) true n 53 (([c0,c1,c2,c3,c4,c5,c6].drop 0).take (prog.cellsOf 53))=some y0:=hf 0 _ rfl
   rw [Tryz.one9u] at h0
   have h1:DataW.trod enc prog w 0 (fun _=>true) true n 53 (([c0,c1,c2,c3,c4,c5,c6].drop 1).take (prog.cellsOf 53))=some y1:=hf 1 _ rfl
   rw [Tryz.one9u] at h1
   have h2:DataW.trod enc prog w 0 (fun _=>true) true n 9 (([c0,c1,c2,c3,c4,c5,c6].drop 2).take (prog.cellsOf 9))=some y2:=hf 2 _ rfl
   rw [Tryz.one9s] at h2
   have h3:DataW.trod enc prog w 0 (fun _=>true) true n 4 (([c0,c1,c2,c3,c4,c5,c6].drop 3).take (prog.cellsOf 4))=some y3:=hf 3 _ rfl
   rw [Tryz.one9b] at h3
   have h4:DataW.trod enc prog w 0 (fun _=>true) true n 54 (([c0,c1,c2,c3,c4,c5,c6].drop 4).take (prog.cellsOf 54))=some y4:=hf 4 _ rfl
   rw [Tryz.one9f] at h4
   have h5:DataW.trod enc prog w 0 (fun _=>true) true n 54 (([c0,c1,c2,c3,c4,c5,c6].drop 5).take (prog.cellsOf 54))=some y5:=hf 5 _ rfl
   rw [Tryz.one9f] at h5
   have h6:DataW.trod enc prog w 0 (fun _=>true) true n 61 (([c0,c1,c2,c3,c4,c5,c6].drop 6).take (prog.cellsOf 61))=some y6:=hf 6 _ rfl
   rw [Tryz.one9g] at h6
   obtain⟨k0,e0,_,w0⟩:=DataW.trod_int underlying53 (h0:DataW.trod enc prog w 0 (fun _=>true) true n 53 [c0]=some y0)
   have g0:c0=_:=List.head_eq_of_cons_eq e0
   obtain⟨i0,q0⟩:=Int.eq_ofNat_of_zero_le (wf_u64 w0).1
   have b0:=(wf_u64 w0).2
   subst g0;subst q0
   obtain⟨k1,e1,_,w1⟩:=DataW.trod_int underlying53 (h1:DataW.trod enc prog w 0 (fun _=>true) true n 53 [c1]=some y1)
   have g1:c1=_:=List.head_eq_of_cons_eq e1
   obtain⟨i1,q1⟩:=Int.eq_ofNat_of_zero_le (wf_u64 w1).1
   have b1:=(wf_u64 w1).2
   subst g1;subst q1
   obtain⟨sb,e2,_,_⟩:=DataW.trod_string underlying9 (h2:DataW.trod enc prog w 0 (fun _=>true) true n 9 [c2]=some y2)
   have g2:c2=.string (str sb.data.toList):=(List.head_eq_of_cons_eq e2).trans (by rw [nI])
   subst g2
   obtain⟨i3,e3,_⟩:=DataW.trod_bool underlying4 (h3:DataW.trod enc prog w 0 (fun _=>true) true n 4 [c3]=some y3)
   have g3:c3=_:=List.head_eq_of_cons_eq e3
   subst g3
   obtain⟨i4,e4,_,w4⟩:=mU underlying54 (h4:DataW.trod enc prog w 0 (fun _=>true) true n 54 [c4]=some y4)
   have g4:c4=_:=List.head_eq_of_cons_eq e4
   have b4:=Jb w4
   subst g4
   obtain⟨i5,e5,_,w5⟩:=mU underlying54 (h5:DataW.trod enc prog w 0 (fun _=>true) true n 54 [c5]=some y5)
   have g5:c5=_:=List.head_eq_of_cons_eq e5
   have b5:=Jb w5
   subst g5
   obtain⟨A,c,ts,e6,hc,hm,hL⟩:=zS (h6:DataW.trod enc prog w 0 (fun _=>true) true n 61 [c6]=some y6)
   subst e6
   exact⟨⟨⟨i0,i1,sb.data.toList,i3,i4,i5,ts⟩,A,c⟩,rfl,⟨by show i0<_;omega,by show i1<_;omega,b4,b5⟩,⟨hL,hc⟩,Nat.le_trans hc hm⟩
theorem xg {fuel:Nat} {v:Value} {x:DataW H × List MemPlace} (hf:DataW.trod enc prog w 0 (fun _=>true) true fuel 22 [v]=some x) :
  ∃ (A:Option Addr) (c:Nat) (ls:List (T9.Li)),v=.slice A ls.length c∧ls.length≤c∧au w w.heap.size 0 A (ls.flatMap bf)∧∀ q∈ls,q.ok:=by
 rcases open_slice underlying22 hf with⟨hcs,_⟩ | ⟨a,len,cap,m,n,D,Pl,hcs,_,hl,hm,hmm,_,hi⟩
 ·simp at hcs
  subst hcs
  exact⟨none,0,[],rfl,Nat.le_refl _,au.nil,by simp⟩
 ·simp at hcs
  subst hcs
  simp only [if_true] at hmm
  subst hmm
  rw [Tryz.twoLi9] at hi
  obtain⟨ls,h1,h2,h3⟩:=lW (w:=w) (E:=bf) (k:=2) (by omega) (fun x=>fO x) (p:=fun q=>q.ok) (a:=a) (len:=len) (fun i hlt=>by
   obtain⟨cs',hc,ht⟩:=hi i (by omega)
   obtain⟨q,rfl,hok⟩:=y7 ht
   obtain⟨_,hcl,hat⟩:=World.cells?_some hc
   refine⟨q,fun j u hu=>?_,hok⟩
   have hj:j<2:=by
    rcases Nat.lt_or_ge j (bf q).length with z | z
    ·exact z
    ·rw [List.getElem?_eq_none z] at hu;cases hu
   have:=hat j hj
   rw [addr_add] at this
   rw [this];exact hu)
  exact⟨some a,m,ls,by rw [h1],by omega,h2,h3⟩
theorem wF {fuel:Nat} {v:Value} {x:DataW H × List MemPlace} (hf:DataW.trod enc prog w 0 (fun _=>true) true fuel 23 [v]=some x) :
  ∃ (A:Option Addr) (c:Nat) (ls:List (aM)),v=.slice A ls.length c∧ls.length≤c∧au w w.heap.size 0 A (ls.flatMap az)∧∀ q∈ls,q.t.ok∧q.fine w∧q.t.tags.length≤maxLen:=by
 rcases open_slice underlying23 hf with⟨hcs,_⟩ | ⟨a,len,cap,m,n,D,Pl,hcs,_,hl,hm,hmm,_,hi⟩
 ·simp at hcs
  subst hcs
  exact⟨none,0,[],rfl,Nat.le_refl _,au.nil,by simp⟩
 ·simp at hcs
  subst hcs
  simp only [if_true] at hmm
  subst hmm
  rw [Tryz.sevenTk9] at hi
  obtain⟨ls,h1,h2,h3⟩:=lW (w:=w) (E:=az) (k:=7) (by omega) (fun x=>aT x) (p:=fun q=>q.t.ok∧q.fine w∧q.t.tags.length≤maxLen) (a:=a) (len:=len) (fun i hlt=>by
   obtain⟨cs',hc,ht⟩:=hi i (by omega)
   obtain⟨q,rfl,hok⟩:=zH ht
   obtain⟨_,hcl,hat⟩:=World.cells?_some hc
   refine⟨q,fun j u hu=>?_,hok⟩
   have hj:j<7:=by
    rcases Nat.lt_or_ge j (az q).length with z | z
    ·exact z
    ·rw [List.getElem?_eq_none z] at hu;cases hu
   have:=hat j hj
   rw [addr_add] at this
   rw [this];exact hu)
  exact⟨some a,m,ls,by rw [h1],by omega,h2,h3⟩
theorem mr {v:Value} {d:DataW H} {ps:List MemPlace} (hval:Value.okWide prog w .any base 25 v) (h:DataW.Trod enc prog w 0 (fun _=>true) true 25 v d ps) :
  ∃ m:aW,v=m.val∧SM m w∧m.st.ok∧m.far:=by
 obtain⟨cs,rfl,hsz⟩:=okWide_struct underlying25 hval
 rw [Tryz.twoSt9] at hsz
 obtain⟨c0,c1,rfl⟩:∃ c0 c1,cs=#[c0,c1]:=by
  obtain⟨l⟩:=cs
  match l,hsz with
  | [a,b],_=>exact⟨a,b,rfl⟩
 obtain⟨fuel,hf⟩:=h
 obtain⟨xs,n,_,_,_,hxl,hf2⟩:=DataW.trod_struct underlying25 hf
 match xs,hxl with
 | [y0,y1],_ =>
  have h0:DataW.trod enc prog w 0 (fun _=>true) true n 22 (((Value.agg #[c0,c1]).cells.toList.drop 0).take (prog.cellsOf 22))=some y0:=hf2 0 _ rfl
  have h1:DataW.trod enc prog w 0 (fun _=>true) true n 23 (((Value.agg #[c0,c1]).cells.toList.drop 1).take (prog.cellsOf 23))=some y1:=hf2 1 _ rfl
  rw [Tryz.one9l] at h0
  rw [Tryz.one9k] at h1
  obtain⟨A,c,ls,e0,hc,hL,hp⟩:=xg (v:=c0) h0
  obtain⟨A2,c2,ms,e1,hc2,hK,hq⟩:=wF (v:=c1) h1
  subst e0;subst e1
  refine⟨⟨ls,A,c,ms,A2,c2⟩,rfl,⟨hL,⟨hK,fun m hm=>(hq m hm).2.1⟩,hc,hc2⟩,⟨hp,fun t ht=>?_⟩,fun m hm=>(hq m hm).2.2⟩
  obtain⟨m,hm,rfl⟩:=List.mem_map.1 ht
  exact (hq m hm).1
end
end
section
open Go.ChangeShapes Go.WideShapes Go.ChangeAt Go.RowKit Go.Deep Go.Lib
def encMu (m:T9.Mu):List Value:=[.int .i64 m.kind,.int .u64 (m.id:Int),.int .u64 (m.list:Int),.string (str m.text),.float .f64 m.f,.bool m.flag]
def T9.Mu.val (m:T9.Mu):Value:=.agg #[.int .i64 m.kind,.int .u64 (m.id:Int),.int .u64 (m.list:Int),.string (str m.text),.float .f64 m.f,.bool m.flag]
theorem bu {w:World} {a b c d e f:Value} {t:TypeId} {u:World} (h:w.alloc (.cells #[a,b,c,d,e,f] t)=u):u.heap[w.heap.size]?=some (.cells #[a,b,c,d,e,f] t (0,0))∧Below w.heap.size w u∧u.heap.size=w.heap.size+1:=by
 rw [← h]
 exact⟨heap_alloc_new w _,(Below.refl _ w).alloc (Nat.le_refl _) _,by simp⟩
theorem ag {w:World} {p:Nat} {t:TypeId} {a b c d e f:Value} {fr:Nat × Nat} (h:w.heap[p]?=some (.cells #[a,b,c,d,e,f] t fr)):w.cell? ⟨p,0,none⟩=some a∧w.cell? ⟨p,1,none⟩=some b∧w.cell? ⟨p,2,none⟩=some c∧w.cell? ⟨p,3,none⟩=some d∧w.cell? ⟨p,4,none⟩=some e∧w.cell? ⟨p,5,none⟩=some f:=by
 simp [World.cell?,h]
def kC (m:T9.Mu) (g:Nat) (w:World):Prop:=w.heap[g]?=some (.cells #[.int .i64 m.kind,.int .u64 (m.id:Int),.int .u64 (m.list:Int),.string (str m.text),.float .f64 m.f,.bool m.flag] 56 (0,0))
theorem kC.stay {m:T9.Mu} {g:Nat} {w w':World} (h:kC m g w) (hb:Below w.heap.size w w'):kC m g w':=(hb.block g (lt_of_block h)).trans h
theorem yQ {l:List UInt8} (h:T9.title l=true):l.length≤60:=by
 unfold T9.title at h
 rw [Bool.and_eq_true,decide_eq_true_eq] at h
 exact h.1.2
theorem Jt {l:List UInt8} (h:T9.tag l=true):l.length≤16:=by
 unfold T9.tag at h
 rw [Bool.and_eq_true,decide_eq_true_eq] at h
 exact h.1.2
theorem zP {s:T9.St} (h:T9.aH s=0):s.short:=by
 obtain⟨h1,h2,h3,h4⟩:=T9.aD h
 have l:=(T9.iE.1 h3).1
 have t:=(T9.cu.1 h4).1
 refine⟨fun x hx=>by have:=yQ (l x hx).2;omega,fun x hx=>?_,by omega,by omega⟩
 obtain⟨f1,_,_,_,f5,f6⟩:=T9.b_ (t x hx).2.1
 exact⟨by have:=yQ f1;omega,fun y hy=>by have:=Jt (T9.oD f6 y hy);omega,by omega⟩
theorem DI {s:T9.St} {m:T9.Mu} (h:(T9.bA s m).2=0):T9.aH s=0∧T9.bL m=0∧(T9.eF s m).1=0∧(T9.bA s m).1=(T9.eF s m).2:=by
 unfold T9.bA at h ⊢
 by_cases a:T9.aH s≠0
 ·rw [if_pos a] at h;exact absurd h a
 rw [if_neg a] at h ⊢
 by_cases b:T9.bL m≠0
 ·rw [if_pos b] at h;exact absurd h b
 rw [if_neg b] at h ⊢
 by_cases c:(T9.eF s m).1≠0
 ·rw [if_pos c] at h;exact absurd h c
 rw [if_neg c]
 exact⟨by omega,by omega,by omega,rfl⟩
theorem Bg {s:T9.St} {m:T9.Mu} (h:(T9.bA s m).2≠0):(T9.bA s m).1=⟨[],[]⟩:=by
 unfold T9.bA at h ⊢
 split
 ·rfl
 ·split
  ·rfl
  ·split
   ·rfl
   ·rename_i a b c
    rw [if_neg a,if_neg b,if_neg c] at h
    exact absurd rfl h
theorem Tryz.one11i:prog.cellsOf 3=1:=by kernel_rfl
section
variable {H : Type} {enc : TypeId × Value → H} {w : World} {base : Nat}
end
end
section
open Go.Shelf Go.RowKit Go.Lib Go.Sort
def yC (n:Nat):Nat:=n % 18446744073709551616
theorem Iw (n:Nat):yC n<18446744073709551616:=Nat.mod_lt _ (by decide)
theorem rkw_id {n:Nat} (h:n<18446744073709551616):yC n=n:=Nat.mod_eq_of_lt h
def rkM (m:aM):aM:=⟨{ m.t with rank:=yC m.t.rank },m.A,m.c⟩
theorem rkM_id {m:aM} (h:m.t.rank<18446744073709551616):rkM m=m:=by
 unfold rkM
 rw [rkw_id h]
def encR (m:aM):List Value:=az (rkM m)
theorem Gn (m:aM):(encR m).length=7:=rfl
theorem Fy (m:aM):∀ v∈encR m,v.oneCell'=true:=dK _
def IZ (x y:aM):Int:=if Fl.lt (yC x.t.rank) (yC y.t.rank)=true then -1 else if Fl.lt (yC y.t.rank) (yC x.t.rank)=true then 1 else ic x.t.id y.t.id
theorem Ig (n:Nat):Fl.pl (yC n)=Fl.pl n:=by
 have h1:yC n % Fl.two63=n % Fl.two63:=by unfold yC;rw [Fl.j5];omega
 have h2:yC n / Fl.two63 % 2=n / Fl.two63 % 2:=by unfold yC;rw [Fl.j5];omega
 have e:Fl.dx (yC n)=Fl.dx n:=by unfold Fl.dx;rw [h1]
 unfold Fl.pl
 rw [e]
 unfold Fl.sv
 rw [h1,h2]
theorem Gv (a b:Nat):Fl.lt (yC a) (yC b)=Fl.lt a b:=by
 rw [Bool.eq_iff_iff,Fl.rY,Fl.rY,Ig,Ig]
theorem AU:ltOf IZ=fun x y=>T9.lM x.t y.t:=by
 funext x y
 show decide (IZ x y<0)=T9.lM x.t y.t
 unfold IZ T9.lM
 rw [Gv,Gv]
 cases h:Fl.lt x.t.rank y.t.rank
 ·cases k:Fl.lt y.t.rank x.t.rank
  ·rw [if_neg (by decide),if_neg (by decide),sI];simp
  ·rw [if_neg (by decide),if_pos rfl];rfl
 ·rw [if_pos rfl];rfl
theorem woRM:Sr.WO (ltOf IZ):=by
 rw [AU]
 exact⟨fun a=>T9.EP.irr _,fun a b c=>T9.EP.tr _ _ _,fun a b c=>T9.EP.ng _ _ _⟩
theorem cmpR_w (x y:aM) (W:World) :
  Calls prog 152 #[.agg (encR x).toArray,.agg (encR y).toArray] W fun e w'=>e=.returned (.int .i64 (IZ x y))∧∃ q os',w'=grow (W.drewN q) os':=by
 obtain⟨wB,iU⟩:∃ u,(W.alloc (.cells (encR x).toArray 63)).alloc (.cells (encR y).toArray 63)=u:=⟨_,rfl⟩
 have GB:Hid (∀ q os,grow (wB.drewN q) os=grow (W.drewN q) (#[.cells (encR x).toArray 63,.cells (encR y).toArray 63]++os)):=hid fun q os=>by rw [← iU];exact m_ W _ _ q os
 have kx:wB.heap[W.heap.size]?=some (.cells (encR x).toArray 63 (0,0)):=by rw [← iU];exact a_ (heap_alloc_new W _) _
 have ky:wB.heap[W.heap.size+1]?=some (.cells (encR y).toArray 63 (0,0)):=by
  rw [← iU]
  have:=heap_alloc_new (W.alloc (.cells (encR x).toArray 63)) (.cells (encR y).toArray 63)
  rwa [World.size_alloc] at this
 have rx:=Iw x.t.rank
 have ry:=Iw y.t.rank
 unfold encR az rkM at kx ky iU ⊢
 dsimp only at kx ky iU ⊢
 unfold IZ
 generalize yC x.t.rank=a at *
 generalize yC y.t.rank=b at *
 obtain⟨x0,x1,x2,x3,x4,x5,x6⟩:=aj kx
 obtain⟨y0,y1,y2,y3,y4,y5,y6⟩:=aj ky
 clear kx ky
 have FIN:Hid (∃ q os',wB=grow (W.drewN q) os'):=hid ⟨0,_,(show wB=grow (wB.drewN 0) #[] by rw [drewN_zero,grow_empty]).trans (GB.out 0 #[])⟩
 cases h:Fl.lt a b
 ·cases k:Fl.lt b a
  ·rw [if_neg (by decide),if_neg (by decide)]
   go_enter func152,ntmps152
   go_wp2_with (first | (go_at_call 153;refine (Bo _ _ _ (by assumption) (by assumption)).mono ?_;rintro e w' ⟨rfl,rfl⟩) | (go_at_call 75;refine (qw _ _ _).mono ?_;rintro e w' ⟨rfl,rfl⟩))
   go_ret
   exact⟨rfl,FIN.out⟩
  ·rw [if_neg (by decide),if_pos rfl]
   go_enter func152,ntmps152
   go_wp2_with (go_at_call 153;refine (Bo _ _ _ (by assumption) (by assumption)).mono ?_;rintro e w' ⟨rfl,rfl⟩)
   go_ret
   exact⟨rfl,FIN.out⟩
 ·rw [if_pos rfl]
  go_enter func152,ntmps152
  go_wp2_with (go_at_call 153;refine (Bo _ _ _ (by assumption) (by assumption)).mono ?_;rintro e w' ⟨rfl,rfl⟩)
  go_ret
  exact⟨rfl,FIN.out⟩
theorem sortR_c {blk cap:Nat} {d:Array aM} {w:World} {g:Nat} {cb:Array Value} (R:RowK encR 7 w blk 0 d) (S:SWK encR 7 w blk 0 d w) (eg:∀ args w,(callFunc g args).run prog w=.ok (.enter g args) w) (hcmp:CmpLays prog g cb encR 7 IZ blk 0 d.size w) (hsz:d.size<4611686018427387904) (n:Nat) (hn:n=d.size) :
  Calls prog 79 #[.slice (some ⟨blk,0,none⟩) n cap,.func (.func g) #[] cb] w fun e w'=>e=.returned (.tuple #[])∧oG IZ encR 7 w blk 0 d [] d.toList [] w':=by
 have hc:=CZ srtK 7 isAgg63 sizeOf63 encR blk 0 cap d d w w R rfl S IZ g cb eg hcmp woRM n hn hsz
 rw [← hn] at hc
 have HC:=hid hc
 clear hc hcmp R S hn hsz
 go_enter func79,ntmps79
 go_wp2_with (go_at_call 120;refine HC.out.mono ?_;rintro e w1 ⟨rfl,hw1⟩)
 have H:=hid hw1
 clear hw1
 go_wp2
 go_end0
 exact⟨rfl,H.out⟩
def Bn (ts:List (List UInt8)) (w:World) (e:Ending) (w':World):Prop:=∃ A2 c2,e=.returned (.slice A2 ts.length c2)∧au w' 0 9 A2 (aC ts)∧ts.length≤c2∧Below w.heap.size w w'
theorem BH {A:Option Addr} {n c:Nat} {ts:List (List UInt8)} {w:World} (h:GL w A ts) (hn:n=ts.length) (hs:n≤1000000000):Calls prog 151 #[.slice A n c] w (Bn ts w):=by
 obtain⟨i0,hi,hz0,hz1,hz2⟩:=info_parts Tryz.infoStr9
 have q:=fun (w:World) a n c n' c'=>Lib.run_eql_slice_nil (P:=prog) w 61 9 a n c n' c' underlying61
 have HL:=hid h
 have HN:=hid hn
 clear h hn
 rcases A with _ | ad
 ·have h0:n=0:=by
   rcases Nat.eq_zero_or_pos n with q | q
   ·exact q
   ·obtain⟨ad,_,e,_⟩:=HL.out.at_ (k:=0) (by have:=HN.out;omega)
    cases e
  subst h0
  have e:ts=[]:=List.length_eq_zero_iff.1 HN.out.symm
  subst e
  go_enter func151,ntmps151
  go_wp2
  go_ret
  exact⟨_,0,rfl,au.nil,Nat.le_refl _,Below.refl _ _⟩
 ·have ho:(w.alloc (.cells #[] 9)).ownsRow w.heap.size 9 1 (.slice (some ⟨w.heap.size,0,none⟩) 0 0) 0 []:=World.ownsRow_made w #[] 0 (Nat.le_refl _) (by unfold maxLen;omega) rfl
  have HO:=hid ho
  clear ho
  go_enter func151,ntmps151
  go_wp2_with (at_builtin;refine bP _ rfl _ _ 61 rfl w.heap.size 9 i0 _ 1 16 underlying61 hi hz0 hz1 hz2 rfl (by decide) _ 0 [] rfl HO.out (w.alloc (.cells #[] 9)).heap.size _ n c (aC ts) 0 rfl (by rw [dD,HN.out];omega) (au.stay HL.out ((Below.refl _ _).alloc (Nat.le_refl _) _)) (eT _) (by unfold maxLen;omega) (by omega) (by simp) ?_)
  intro v' w1 hown' hgrow _
  obtain⟨A2,k2,rfl⟩:=aA hown'
  have T1:=vZ HO.out hgrow
  have ho2:w1.ownsRow w.heap.size 9 1 (.slice A2 n k2) n (aC ts):=by simpa using hown'
  have HO2:=hid ho2
  have HT:=hid T1
  clear hown' ho2 T1 hgrow
  go_wp2
  go_ret
  refine⟨A2,k2,by rw [← HN.out];simp,aG HO2.out,by rw [← HN.out];exact (aQ HO2.out).2,HT.out⟩
end
end Go.Proofs.YtdjiiknefhepdaaGreat
