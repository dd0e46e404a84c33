import Derived.Test.YtcedlgedmkghgaaZ21
import Derived.Test.YtcedlgedmkghgaaZ22
import Derived.Lib.SmallJoins
namespace Go.Proofs.Ytcedlgedmkghgaa
set_option maxHeartbeats 16000000
set_option linter.unusedSimpArgs false
set_option maxRecDepth 100000
section
open Go.ChangeShapes Go.WideShapes Go.ChangeAt Go.RowKit Go.Deep
theorem gV (s:ByteArray):str s.data.toList=s:=by
 obtain⟨d⟩:=s
 simp [str]
section
variable {H : Type} {enc : TypeId × Value → H} {w : World} {base : Nat}
theorem Try.twoLi9:Try.prog.cellsOf 66=2:=by kernel_rfl
theorem Try.sevenTk9:Try.prog.cellsOf 69=7:=by kernel_rfl
theorem Try.twoSt9:Try.prog.cellsOf 28=2:=by kernel_rfl
theorem Try.one9u:Try.prog.cellsOf 22=1:=by kernel_rfl
theorem Try.one9s:Try.prog.cellsOf 9=1:=by kernel_rfl
theorem Try.one9b:Try.prog.cellsOf 4=1:=by kernel_rfl
theorem Try.one9f:Try.prog.cellsOf 47=1:=by kernel_rfl
theorem Try.one9g:Try.prog.cellsOf 67=1:=by kernel_rfl
theorem Try.one9l:Try.prog.cellsOf 25=1:=by kernel_rfl
theorem Try.one9k:Try.prog.cellsOf 26=1:=by kernel_rfl
theorem gL {P:Program} {b0:Nat} {spare:Nat→Bool} {held:Bool} {fuel:Nat} {t:TypeId} {k:FloatKind} {cs:List Value} {x:DataW H × List MemPlace} (ht:P.underlying t=some (.float k)) (h:DataW.trod enc P w b0 spare held fuel t cs=some x):∃ n,cs=[.float k n]∧x=(.lit (.float k n),[])∧(Lit.float k n).wf=true:=by
 cases fuel with
 | zero=>simp [DataW.trod] at h
 | succ n =>
  unfold DataW.trod at h
  rw [ht] at h
  split at h <;> simp_all
theorem xW {b:Nat} (h:(Lit.float .f64 b).wf=true):b<18446744073709551616:=of_decide_eq_true h
theorem eX {α:Type} [Inhabited α] {E:α→List Value} {k:Nat} (hk:0<k) (hE:∀ x,(E x).length=k) {p:α→Prop} {a:Addr} {len:Nat} (each:∀ i,i<len→∃ q:α,(∀ j u,(E q)[j]?=some u→w.cell? (a.add (i * k+j))=some u)∧p q) :
  ∃ qs:List α,qs.length=len∧ah w w.heap.size 0 (some a) (qs.flatMap E)∧∀ q∈qs,p q:=by
 obtain⟨Q,hQ⟩:=choose_lt (α:=α) (p:=fun i q=>(∀ j u,(E q)[j]?=some u→w.cell? (a.add (i * k+j))=some u)∧p q) each
 refine⟨(List.range len).map Q,by simp,fun hne=>?_,?_⟩
 ·have cells:∀ j u,(((List.range len).map Q).flatMap E)[j]?=some u→w.cell? (a.add j)=some u:=by
   intro j u hu
   have hfl:(((List.range len).map Q).flatMap E).length=((List.range len).map Q).length * k:=gN fun x _=>hE x
   rw [List.length_map,List.length_range] at hfl
   have hj:j<len * k:=by
    rcases Nat.lt_or_ge j (((List.range len).map Q).flatMap E).length with z | z
    ·omega
    ·rw [List.getElem?_eq_none z] at hu;cases hu
   have hd:j / k<len:=(Nat.div_lt_iff_lt_mul hk).2 hj
   have hm:j % k<k:=Nat.mod_lt _ hk
   have hjk:j / k * k+j % k=j:=by rw [Nat.mul_comm];exact Nat.div_add_mod j k
   have e:((List.range len).map Q)[j / k]?=some (Q (j / k)):=by simp [hd]
   have f:=jq (f:=E) (size:=k) (l:=(List.range len).map Q) (fun x _=>hE x) e (j:=j % k) hm
   rw [hjk] at f
   rw [f] at hu
   have:=(hQ (j / k) hd).1 (j % k) u hu
   rwa [hjk] at this
  refine⟨a,rfl,.inl ?_,cells⟩
  obtain⟨u,hu⟩:∃ u,(((List.range len).map Q).flatMap E)[0]?=some u:=by
   cases hq:((List.range len).map Q).flatMap E with
   | nil=>exact absurd hq hne
   | cons u _=>exact⟨u,rfl⟩
  have:=World.block_lt_of_cell? _ _ (cells 0 u hu)
  rwa [dM] at this
 ·intro q hq
  obtain⟨i,hi2,rfl⟩:=List.mem_map.1 hq
  exact (hQ i (List.mem_range.1 hi2)).2
theorem um (ts:List (List UInt8)):(ts.flatMap fun x=>[encS x])=dn ts:=by
 induction ts with
 | nil=>rfl
 | cons t ts ih=>rw [List.flatMap_cons,ih];rfl
theorem oP {fuel:Nat} {v:Value} {x:DataW H × List MemPlace} (hf:DataW.trod enc Try.prog w 0 (fun _=>true) true fuel 67 [v]=some x) :
  ∃ (A:Option Addr) (c:Nat) (ts:List (List UInt8)),v=.slice A ts.length c∧ts.length≤c∧c≤maxLen∧GL w A ts:=by
 rcases open_slice Try.underlying67 hf with⟨hcs,_⟩ | ⟨a,len,cap,m,n,D,Pl,hcs,_,hl,hm,hmm,_,hi⟩
 ·simp at hcs
  subst hcs
  exact⟨none,0,[],rfl,Nat.le_refl _,Nat.zero_le _,GL.nil⟩
 ·simp at hcs
  subst hcs
  simp only [if_true] at hmm
  subst hmm
  rw [Try.one9s] at hi
  obtain⟨ts,h1,h2,_⟩:=eX (w:=w) (E:=fun x=>[encS x]) (k:=1) (by omega) (fun _=>rfl) (p:=fun _=>True) (a:=a) (len:=len) (fun i hlt=>by
   obtain⟨cs',hc,ht⟩:=hi i (by omega)
   obtain⟨hsz,hcl,hat⟩:=World.cells?_some hc
   obtain⟨sb,e0,_,w0⟩:=DataW.trod_string Try.underlying9 ht
   subst e0
   refine⟨sb.data.toList,fun j u hu=>?_,trivial⟩
   have hj:j<1:=by
    rcases Nat.lt_or_ge j 1 with z | z
    ·exact z
    ·rw [List.getElem?_eq_none (by simpa using z)] at hu;cases hu
   obtain rfl:j=0:=by omega
   have q:=hat 0 (by omega)
   rw [addr_add] at q
   rw [q]
   simp only [List.getElem?_cons_zero,Option.some.injEq] at hu ⊢
   rw [← hu]
   show _=Value.string (str sb.data.toList)
   rw [gV])
  rw [um] at h2
  exact⟨some a,m,ts,by rw [h1],by omega,hm,h2⟩
theorem oN {fuel:Nat} {cs:List Value} {x:DataW H × List MemPlace} (h:DataW.trod enc Try.prog w 0 (fun _=>true) true fuel 66 cs=some x) :
  ∃ l:T9.Li,cs=jr l∧l.ok:=by
 obtain⟨xs,n,_,_,hlen,hxl,hf⟩:=DataW.trod_struct Try.underlying66 h
 rw [Try.twoLi9] at hlen
 match cs,hlen with
 | [c0,c1],_ =>
  match xs,hxl with
  | [y0,y1],_ =>
   have h0:DataW.trod enc Try.prog w 0 (fun _=>true) true n 22 (([c0,c1].drop 0).take (Try.prog.cellsOf 22))=some y0:=hf 0 _ rfl
   rw [Try.one9u] at h0
   have h1:DataW.trod enc Try.prog w 0 (fun _=>true) true n 9 (([c0,c1].drop 1).take (Try.prog.cellsOf 9))=some y1:=hf 1 _ rfl
   rw [Try.one9s] at h1
   obtain⟨k,e0,_,w0⟩:=DataW.trod_int Try.underlying22 (h0:DataW.trod enc Try.prog w 0 (fun _=>true) true n 22 [c0]=some y0)
   obtain⟨sb,e1,_,_⟩:=DataW.trod_string Try.underlying9 (h1:DataW.trod enc Try.prog w 0 (fun _=>true) true n 9 [c1]=some y1)
   have b:=wf_u64 w0
   obtain⟨i,hi⟩:=Int.eq_ofNat_of_zero_le b.1
   have g0:c0=_:=List.head_eq_of_cons_eq e0
   have g1:c1=.string (str sb.data.toList):=(List.head_eq_of_cons_eq e1).trans (by rw [gV])
   subst g0;subst g1;subst hi
   exact⟨⟨i,sb.data.toList⟩,rfl,by show i<_;omega⟩
theorem oQ {fuel:Nat} {cs:List Value} {x:DataW H × List MemPlace} (h:DataW.trod enc Try.prog w 0 (fun _=>true) true fuel 69 cs=some x) :
  ∃ m:fe,cs=dm m∧m.t.ok∧m.fine w∧m.t.tags.length≤maxLen:=by
 obtain⟨xs,n,_,_,hlen,hxl,hf⟩:=DataW.trod_struct Try.underlying69 h
 rw [Try.sevenTk9] at hlen
 match cs,hlen with
 | [c0,c1,c2,c3,c4,c5,c6],_ =>
  match xs,hxl with
  | [y0,y1,y2,y3,y4,y5,y6],_ =>
   have h0:DataW.trod enc Try.prog w 0 (fun _=>true) true n 22 (([c0,c1,c2,c3,c4,c5,c6].drop 0).take (Try.prog.cellsOf 22))=some y0:=hf 0 _ rfl
   rw [Try.one9u] at h0
   have h1:DataW.trod enc Try.prog w 0 (fun _=>true) true n 22 (([c0,c1,c2,c3,c4,c5,c6].drop 1).take (Try.prog.cellsOf 22))=some y1:=hf 1 _ rfl
   rw [Try.one9u] at h1
   have h2:DataW.trod enc Try.prog w 0 (fun _=>true) true n 9 (([c0,c1,c2,c3,c4,c5,c6].drop 2).take (Try.prog.cellsOf 9))=some y2:=hf 2 _ rfl
   rw [Try.one9s] at h2
   have h3:DataW.trod enc Try.prog w 0 (fun _=>true) true n 4 (([c0,c1,c2,c3,c4,c5,c6].drop 3).take (Try.prog.cellsOf 4))=some y3:=hf 3 _ rfl
   rw [Try.one9b] at h3
   have h4:DataW.trod enc Try.prog w 0 (fun _=>true) true n 47 (([c0,c1,c2,c3,c4,c5,c6].drop 4).take (Try.prog.cellsOf 47))=some y4:=hf 4 _ rfl
   rw [Try.one9f] at h4
   have h5:DataW.trod enc Try.prog w 0 (fun _=>true) true n 47 (([c0,c1,c2,c3,c4,c5,c6].drop 5).take (Try.prog.cellsOf 47))=some y5:=hf 5 _ rfl
   rw [Try.one9f] at h5
   have h6:DataW.trod enc Try.prog w 0 (fun _=>true) true n 67 (([c0,c1,c2,c3,c4,c5,c6].drop 6).take (Try.prog.cellsOf 67))=some y6:=hf 6 _ rfl
   rw [Try.one9g] at h6
   obtain⟨k0,e0,_,w0⟩:=DataW.trod_int Try.underlying22 (h0:DataW.trod enc Try.prog w 0 (fun _=>true) true n 22 [c0]=some y0)
   have g0:c0=_:=List.head_eq_of_cons_eq e0
   obtain⟨i0,q0⟩:=Int.eq_ofNat_of_zero_le (wf_u64 w0).1
   have b0:=(wf_u64 w0).2
   subst g0;subst q0
   obtain⟨k1,e1,_,w1⟩:=DataW.trod_int Try.underlying22 (h1:DataW.trod enc Try.prog w 0 (fun _=>true) true n 22 [c1]=some y1)
   have g1:c1=_:=List.head_eq_of_cons_eq e1
   obtain⟨i1,q1⟩:=Int.eq_ofNat_of_zero_le (wf_u64 w1).1
   have b1:=(wf_u64 w1).2
   subst g1;subst q1
   obtain⟨sb,e2,_,_⟩:=DataW.trod_string Try.underlying9 (h2:DataW.trod enc Try.prog w 0 (fun _=>true) true n 9 [c2]=some y2)
   have g2:c2=.string (str sb.data.toList):=(List.head_eq_of_cons_eq e2).trans (by rw [gV])
   subst g2
   obtain⟨i3,e3,_⟩:=DataW.trod_bool Try.underlying4 (h3:DataW.trod enc Try.prog w 0 (fun _=>true) true n 4 [c3]=some y3)
   have g3:c3=_:=List.head_eq_of_cons_eq e3
   subst g3
   obtain⟨i4,e4,_,w4⟩:=gL Try.underlying47 (h4:DataW.trod enc Try.prog w 0 (fun _=>true) true n 47 [c4]=some y4)
   have g4:c4=_:=List.head_eq_of_cons_eq e4
   have b4:=xW w4
   subst g4
   obtain⟨i5,e5,_,w5⟩:=gL Try.underlying47 (h5:DataW.trod enc Try.prog w 0 (fun _=>true) true n 47 [c5]=some y5)
   have g5:c5=_:=List.head_eq_of_cons_eq e5
   have b5:=xW w5
   subst g5
   obtain⟨A,c,ts,e6,hc,hm,hL⟩:=oP (h6:DataW.trod enc Try.prog w 0 (fun _=>true) true n 67 [c6]=some y6)
   subst e6
   exact⟨⟨⟨i0,i1,sb.data.toList,i3,i4,i5,ts⟩,A,c⟩,rfl,⟨by show i0<_;omega,by show i1<_;omega,b4,b5⟩,⟨hL,hc⟩,Nat.le_trans hc hm⟩
theorem nG {fuel:Nat} {v:Value} {x:DataW H × List MemPlace} (hf:DataW.trod enc Try.prog w 0 (fun _=>true) true fuel 25 [v]=some x) :
  ∃ (A:Option Addr) (c:Nat) (ls:List (T9.Li)),v=.slice A ls.length c∧ls.length≤c∧ah w w.heap.size 0 A (ls.flatMap jr)∧∀ q∈ls,q.ok:=by
 rcases open_slice Try.underlying25 hf with⟨hcs,_⟩ | ⟨a,len,cap,m,n,D,Pl,hcs,_,hl,hm,hmm,_,hi⟩
 ·simp at hcs
  subst hcs
  exact⟨none,0,[],rfl,Nat.le_refl _,ah.nil,by simp⟩
 ·simp at hcs
  subst hcs
  simp only [if_true] at hmm
  subst hmm
  rw [Try.twoLi9] at hi
  obtain⟨ls,h1,h2,h3⟩:=eX (w:=w) (E:=jr) (k:=2) (by omega) (fun x=>kN x) (p:=fun q=>q.ok) (a:=a) (len:=len) (fun i hlt=>by
   obtain⟨cs',hc,ht⟩:=hi i (by omega)
   obtain⟨q,rfl,hok⟩:=oN ht
   obtain⟨_,hcl,hat⟩:=World.cells?_some hc
   refine⟨q,fun j u hu=>?_,hok⟩
   have hj:j<2:=by
    rcases Nat.lt_or_ge j (jr q).length with z | z
    ·exact z
    ·rw [List.getElem?_eq_none z] at hu;cases hu
   have:=hat j hj
   rw [addr_add] at this
   rw [this];exact hu)
  exact⟨some a,m,ls,by rw [h1],by omega,h2,h3⟩
theorem nH {fuel:Nat} {v:Value} {x:DataW H × List MemPlace} (hf:DataW.trod enc Try.prog w 0 (fun _=>true) true fuel 26 [v]=some x) :
  ∃ (A:Option Addr) (c:Nat) (ls:List (fe)),v=.slice A ls.length c∧ls.length≤c∧ah w w.heap.size 0 A (ls.flatMap dm)∧∀ q∈ls,q.t.ok∧q.fine w∧q.t.tags.length≤maxLen:=by
 rcases open_slice Try.underlying26 hf with⟨hcs,_⟩ | ⟨a,len,cap,m,n,D,Pl,hcs,_,hl,hm,hmm,_,hi⟩
 ·simp at hcs
  subst hcs
  exact⟨none,0,[],rfl,Nat.le_refl _,ah.nil,by simp⟩
 ·simp at hcs
  subst hcs
  simp only [if_true] at hmm
  subst hmm
  rw [Try.sevenTk9] at hi
  obtain⟨ls,h1,h2,h3⟩:=eX (w:=w) (E:=dm) (k:=7) (by omega) (fun x=>kM x) (p:=fun q=>q.t.ok∧q.fine w∧q.t.tags.length≤maxLen) (a:=a) (len:=len) (fun i hlt=>by
   obtain⟨cs',hc,ht⟩:=hi i (by omega)
   obtain⟨q,rfl,hok⟩:=oQ ht
   obtain⟨_,hcl,hat⟩:=World.cells?_some hc
   refine⟨q,fun j u hu=>?_,hok⟩
   have hj:j<7:=by
    rcases Nat.lt_or_ge j (dm q).length with z | z
    ·exact z
    ·rw [List.getElem?_eq_none z] at hu;cases hu
   have:=hat j hj
   rw [addr_add] at this
   rw [this];exact hu)
  exact⟨some a,m,ls,by rw [h1],by omega,h2,h3⟩
end
end
end Go.Proofs.Ytcedlgedmkghgaa
