import Derived.Test.YtmcfknnfaokmlaaGreatZ21
import Derived.Test.YtmcfknnfaokmlaaGreatZ4
import Derived.Test.YtmcfknnfaokmlaaGreatZ5
import Derived.Lib.SmallJoins
namespace Go.Proofs.YtmcfknnfaokmlaaGreat
set_option maxHeartbeats 16000000
open Go.Proofs.Tryz
set_option linter.unusedSimpArgs false
set_option maxRecDepth 100000
section
open Go.ChangeShapes Go.WideShapes Go.ChangeAt Go.RowKit Go.Deep
theorem kg (s:ByteArray):str s.data.toList=s:=by
 obtain⟨d⟩:=s
 simp [str]
section
variable {H : Type} {enc : TypeId × Value → H} {w : World} {base : Nat}
theorem Tryz.twoLi9:prog.cellsOf 94=2:=by kernel_rfl
theorem Tryz.sevenTk9:prog.cellsOf 97=7:=by kernel_rfl
theorem Tryz.twoSt9:prog.cellsOf 28=2:=by kernel_rfl
theorem Tryz.one9s:prog.cellsOf 9=1:=by kernel_rfl
theorem Tryz.one9b:prog.cellsOf 4=1:=by kernel_rfl
theorem Tryz.one9f:prog.cellsOf 53=1:=by kernel_rfl
theorem Tryz.one9g:prog.cellsOf 95=1:=by kernel_rfl
theorem Tryz.one9l:prog.cellsOf 25=1:=by kernel_rfl
theorem Tryz.one9k:prog.cellsOf 26=1:=by kernel_rfl
theorem jN {P:Program} {b0:Nat} {spare:Nat→Bool} {held:Bool} {fuel:Nat} {t:TypeId} {k:FloatKind} {cs:List Value} {x:DataW H × List MemPlace} (ht:P.underlying t=some (.float k)) (h:DataW.trod enc P w b0 spare held fuel t cs=some x):∃ n,cs=[.float k n]∧x=(.lit (.float k n),[])∧(Lit.float k n).wf=true:=by
 cases fuel with
 | zero=>simp [DataW.trod] at h
 | succ n =>
  unfold DataW.trod at h
  rw [ht] at h
  split at h <;> simp_all
theorem Ef {b:Nat} (h:(Lit.float .f64 b).wf=true):b<18446744073709551616:=of_decide_eq_true h
theorem zU (ts:List (List UInt8)):(ts.flatMap fun x=>[encS x])=dA ts:=by
 induction ts with
 | nil=>rfl
 | cons t ts ih=>rw [List.flatMap_cons,ih];rfl
theorem uV {fuel:Nat} {v:Value} {x:DataW H × List MemPlace} (hf:DataW.trod enc prog w 0 (fun _=>true) true fuel 95 [v]=some x) :
  ∃ (A:Option Addr) (c:Nat) (ts:List (List UInt8)),v=.slice A ts.length c∧ts.length≤c∧c≤maxLen∧GL w A ts:=by
 rcases open_slice underlying95 hf with⟨hcs,_⟩ | ⟨a,len,cap,m,n,D,Pl,hcs,_,hl,hm,hmm,_,hi⟩
 ·simp at hcs
  subst hcs
  exact⟨none,0,[],rfl,Nat.le_refl _,Nat.zero_le _,GL.nil⟩
 ·simp at hcs
  subst hcs
  simp only [if_true] at hmm
  subst hmm
  rw [Tryz.one9s] at hi
  obtain⟨ts,h1,h2,_⟩:=gW (w:=w) (E:=fun x=>[encS x]) (k:=1) (by omega) (fun _=>rfl) (p:=fun _=>True) (a:=a) (len:=len) (fun i hlt=>by
   obtain⟨cs',hc,ht⟩:=hi i (by omega)
   obtain⟨hsz,hcl,hat⟩:=World.cells?_some hc
   obtain⟨sb,e0,_,w0⟩:=DataW.trod_string underlying9 ht
   subst e0
   refine⟨sb.data.toList,fun j u hu=>?_,trivial⟩
   have hj:j<1:=by
    rcases Nat.lt_or_ge j 1 with z | z
    ·exact z
    ·rw [List.getElem?_eq_none (by simpa using z)] at hu;cases hu
   obtain rfl:j=0:=by omega
   have q:=hat 0 (by omega)
   rw [addr_add] at q
   rw [q]
   simp only [List.getElem?_cons_zero,Option.some.injEq] at hu ⊢
   rw [← hu]
   show _=Value.string (str sb.data.toList)
   rw [kg])
  rw [zU] at h2
  exact⟨some a,m,ts,by rw [h1],by omega,hm,h2⟩
theorem uT {fuel:Nat} {cs:List Value} {x:DataW H × List MemPlace} (h:DataW.trod enc prog w 0 (fun _=>true) true fuel 94 cs=some x) :
  ∃ l:T9.Li,cs=jm l∧l.ok:=by
 obtain⟨xs,n,_,_,hlen,hxl,hf⟩:=DataW.trod_struct underlying94 h
 rw [Tryz.twoLi9] at hlen
 match cs,hlen with
 | [c0,c1],_ =>
  match xs,hxl with
  | [y0,y1],_ =>
   have h0:DataW.trod enc prog w 0 (fun _=>true) true n 22 (([c0,c1].drop 0).take (prog.cellsOf 22))=some y0:=hf 0 _ rfl
   rw [Tryz.one9u] at h0
   have h1:DataW.trod enc prog w 0 (fun _=>true) true n 9 (([c0,c1].drop 1).take (prog.cellsOf 9))=some y1:=hf 1 _ rfl
   rw [Tryz.one9s] at h1
   obtain⟨k,e0,_,w0⟩:=DataW.trod_int underlying22 (h0:DataW.trod enc prog w 0 (fun _=>true) true n 22 [c0]=some y0)
   obtain⟨sb,e1,_,_⟩:=DataW.trod_string underlying9 (h1:DataW.trod enc prog w 0 (fun _=>true) true n 9 [c1]=some y1)
   have b:=wf_u64 w0
   obtain⟨i,hi⟩:=Int.eq_ofNat_of_zero_le b.1
   have g0:c0=_:=List.head_eq_of_cons_eq e0
   have g1:c1=.string (str sb.data.toList):=(List.head_eq_of_cons_eq e1).trans (by rw [kg])
   subst g0;subst g1;subst hi
   exact⟨⟨i,sb.data.toList⟩,rfl,by show i<_;omega⟩
theorem uW {fuel:Nat} {cs:List Value} {x:DataW H × List MemPlace} (h:DataW.trod enc prog w 0 (fun _=>true) true fuel 97 cs=some x) :
  ∃ m:fJ,cs=dO m∧m.t.ok∧m.fine w∧m.t.tags.length≤maxLen:=by
 obtain⟨xs,n,_,_,hlen,hxl,hf⟩:=DataW.trod_struct underlying97 h
 rw [Tryz.sevenTk9] at hlen
 match cs,hlen with
 | [c0,c1,c2,c3,c4,c5,c6],_ =>
  match xs,hxl with
  | [y0,y1,y2,y3,y4,y5,y6],_ =>
   have h0:DataW.trod enc prog w 0 (fun _=>true) true n 22 (([c0,c1,c2,c3,c4,c5,c6].drop 0).take (prog.cellsOf 22))=some y0:=hf 0 _ rfl
   rw [Tryz.one9u] at h0
   have h1:DataW.trod enc prog w 0 (fun _=>true) true n 22 (([c0,c1,c2,c3,c4,c5,c6].drop 1).take (prog.cellsOf 22))=some y1:=hf 1 _ rfl
   rw [Tryz.one9u] at h1
   have h2:DataW.trod enc prog w 0 (fun _=>true) true n 9 (([c0,c1,c2,c3,c4,c5,c6].drop 2).take (prog.cellsOf 9))=some y2:=hf 2 _ rfl
   rw [Tryz.one9s] at h2
   have h3:DataW.trod enc prog w 0 (fun _=>true) true n 4 (([c0,c1,c2,c3,c4,c5,c6].drop 3).take (prog.cellsOf 4))=some y3:=hf 3 _ rfl
   rw [Tryz.one9b] at h3
   have h4:DataW.trod enc prog w 0 (fun _=>true) true n 53 (([c0,c1,c2,c3,c4,c5,c6].drop 4).take (prog.cellsOf 53))=some y4:=hf 4 _ rfl
   rw [Tryz.one9f] at h4
   have h5:DataW.trod enc prog w 0 (fun _=>true) true n 53 (([c0,c1,c2,c3,c4,c5,c6].drop 5).take (prog.cellsOf 53))=some y5:=hf 5 _ rfl
   rw [Tryz.one9f] at h5
   have h6:DataW.trod enc prog w 0 (fun _=>true) true n 95 (([c0,c1,c2,c3,c4,c5,c6].drop 6).take (prog.cellsOf 95))=some y6:=hf 6 _ rfl
   rw [Tryz.one9g] at h6
   obtain⟨k0,e0,_,w0⟩:=DataW.trod_int underlying22 (h0:DataW.trod enc prog w 0 (fun _=>true) true n 22 [c0]=some y0)
   have g0:c0=_:=List.head_eq_of_cons_eq e0
   obtain⟨i0,q0⟩:=Int.eq_ofNat_of_zero_le (wf_u64 w0).1
   have b0:=(wf_u64 w0).2
   subst g0;subst q0
   obtain⟨k1,e1,_,w1⟩:=DataW.trod_int underlying22 (h1:DataW.trod enc prog w 0 (fun _=>true) true n 22 [c1]=some y1)
   have g1:c1=_:=List.head_eq_of_cons_eq e1
   obtain⟨i1,q1⟩:=Int.eq_ofNat_of_zero_le (wf_u64 w1).1
   have b1:=(wf_u64 w1).2
   subst g1;subst q1
   obtain⟨sb,e2,_,_⟩:=DataW.trod_string underlying9 (h2:DataW.trod enc prog w 0 (fun _=>true) true n 9 [c2]=some y2)
   have g2:c2=.string (str sb.data.toList):=(List.head_eq_of_cons_eq e2).trans (by rw [kg])
   subst g2
   obtain⟨i3,e3,_⟩:=DataW.trod_bool underlying4 (h3:DataW.trod enc prog w 0 (fun _=>true) true n 4 [c3]=some y3)
   have g3:c3=_:=List.head_eq_of_cons_eq e3
   subst g3
   obtain⟨i4,e4,_,w4⟩:=jN underlying53 (h4:DataW.trod enc prog w 0 (fun _=>true) true n 53 [c4]=some y4)
   have g4:c4=_:=List.head_eq_of_cons_eq e4
   have b4:=Ef w4
   subst g4
   obtain⟨i5,e5,_,w5⟩:=jN underlying53 (h5:DataW.trod enc prog w 0 (fun _=>true) true n 53 [c5]=some y5)
   have g5:c5=_:=List.head_eq_of_cons_eq e5
   have b5:=Ef w5
   subst g5
   obtain⟨A,c,ts,e6,hc,hm,hL⟩:=uV (h6:DataW.trod enc prog w 0 (fun _=>true) true n 95 [c6]=some y6)
   subst e6
   exact⟨⟨⟨i0,i1,sb.data.toList,i3,i4,i5,ts⟩,A,c⟩,rfl,⟨by show i0<_;omega,by show i1<_;omega,b4,b5⟩,⟨hL,hc⟩,Nat.le_trans hc hm⟩
theorem sQ {fuel:Nat} {v:Value} {x:DataW H × List MemPlace} (hf:DataW.trod enc prog w 0 (fun _=>true) true fuel 25 [v]=some x) :
  ∃ (A:Option Addr) (c:Nat) (ls:List (T9.Li)),v=.slice A ls.length c∧ls.length≤c∧av w w.heap.size 0 A (ls.flatMap jm)∧∀ q∈ls,q.ok:=by
 rcases open_slice underlying25 hf with⟨hcs,_⟩ | ⟨a,len,cap,m,n,D,Pl,hcs,_,hl,hm,hmm,_,hi⟩
 ·simp at hcs
  subst hcs
  exact⟨none,0,[],rfl,Nat.le_refl _,av.nil,by simp⟩
 ·simp at hcs
  subst hcs
  simp only [if_true] at hmm
  subst hmm
  rw [Tryz.twoLi9] at hi
  obtain⟨ls,h1,h2,h3⟩:=gW (w:=w) (E:=jm) (k:=2) (by omega) (fun x=>pg x) (p:=fun q=>q.ok) (a:=a) (len:=len) (fun i hlt=>by
   obtain⟨cs',hc,ht⟩:=hi i (by omega)
   obtain⟨q,rfl,hok⟩:=uT ht
   obtain⟨_,hcl,hat⟩:=World.cells?_some hc
   refine⟨q,fun j u hu=>?_,hok⟩
   have hj:j<2:=by
    rcases Nat.lt_or_ge j (jm q).length with z | z
    ·exact z
    ·rw [List.getElem?_eq_none z] at hu;cases hu
   have:=hat j hj
   rw [addr_add] at this
   rw [this];exact hu)
  exact⟨some a,m,ls,by rw [h1],by omega,h2,h3⟩
theorem sS {fuel:Nat} {v:Value} {x:DataW H × List MemPlace} (hf:DataW.trod enc prog w 0 (fun _=>true) true fuel 26 [v]=some x) :
  ∃ (A:Option Addr) (c:Nat) (ls:List (fJ)),v=.slice A ls.length c∧ls.length≤c∧av w w.heap.size 0 A (ls.flatMap dO)∧∀ q∈ls,q.t.ok∧q.fine w∧q.t.tags.length≤maxLen:=by
 rcases open_slice underlying26 hf with⟨hcs,_⟩ | ⟨a,len,cap,m,n,D,Pl,hcs,_,hl,hm,hmm,_,hi⟩
 ·simp at hcs
  subst hcs
  exact⟨none,0,[],rfl,Nat.le_refl _,av.nil,by simp⟩
 ·simp at hcs
  subst hcs
  simp only [if_true] at hmm
  subst hmm
  rw [Tryz.sevenTk9] at hi
  obtain⟨ls,h1,h2,h3⟩:=gW (w:=w) (E:=dO) (k:=7) (by omega) (fun x=>o_ x) (p:=fun q=>q.t.ok∧q.fine w∧q.t.tags.length≤maxLen) (a:=a) (len:=len) (fun i hlt=>by
   obtain⟨cs',hc,ht⟩:=hi i (by omega)
   obtain⟨q,rfl,hok⟩:=uW ht
   obtain⟨_,hcl,hat⟩:=World.cells?_some hc
   refine⟨q,fun j u hu=>?_,hok⟩
   have hj:j<7:=by
    rcases Nat.lt_or_ge j (dO q).length with z | z
    ·exact z
    ·rw [List.getElem?_eq_none z] at hu;cases hu
   have:=hat j hj
   rw [addr_add] at this
   rw [this];exact hu)
  exact⟨some a,m,ls,by rw [h1],by omega,h2,h3⟩
end
end
end Go.Proofs.YtmcfknnfaokmlaaGreat
