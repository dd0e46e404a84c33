import Derived.Test.YtcedlgedmkghgaaZ30
import Derived.Test.YtcedlgedmkghgaaZ23
namespace Go.Proofs.Ytcedlgedmkghgaa
set_option maxHeartbeats 16000000
set_option linter.unusedSimpArgs false
set_option maxRecDepth 100000
section
section
open Go.ChangeShapes Go.WideShapes Go.ChangeAt Go.RowKit Go.Deep Go.Lib
def iT (x:La):List Value:=[.int .u64 (x.who:Int),.int .u64 (x.id:Int)]
def eQ (xs:List La):List Value:=xs.flatMap iT
theorem kK (x:La):(iT x).length=2:=rfl
theorem vN (x:La):∀ v∈iT x,v.oneCell'=true:=by
 intro v hv
 simp only [iT,List.mem_cons,List.not_mem_nil,or_false] at hv
 rcases hv with rfl | rfl <;> rfl
theorem qD (xs:List La):(eQ xs).length=xs.length * 2:=gN fun x _=>kK x
theorem oH (xs:List La) (x:La):eQ (xs++[x])=eQ xs++iT x:=by simp [eQ]
theorem nQ (xs:List It) (x:It):dR (xs++[x])=dR xs++encI x:=by simp [dR]
def AL (w:World) (A:Option Addr) (xs:List La):Prop:=ah w w.heap.size 0 A (eQ xs)
section
variable {w w' : World} {A : Option Addr} {xs : List La}
theorem AL.stay (h:AL w A xs) (hb:Below w.heap.size w w'):AL w' A xs:=ah.stay h hb
theorem AL.nil:AL w A []:=ah.nil
theorem AL.at_ (h:AL w A xs) {k:Nat} (hk:k<xs.length):∃ ad x,A=some ad∧xs[k]?=some x∧w.cell? (ad.add (k * 2))=some (.int .u64 (x.who:Int))∧w.cell? ⟨(ad.add (k * 2)).block,(ad.add (k * 2)).off+1,none⟩=some (.int .u64 (x.id:Int)):=by
 have hx:xs[k]?=some xs[k]:=List.getElem?_eq_getElem hk
 obtain⟨ad,e,_,hc⟩:=h (fun q=>by have:=qD xs;rw [q] at this;simp at this;omega)
 have c:∀ j u,j<2→(iT xs[k])[j]?=some u→w.cell? ((ad.add (k * 2)).add j)=some u:=fun j u hj hu=>by
  rw [addr_add]
  exact hc _ _ ((jq (f:=iT) (size:=2) (fun l _=>kK l) hx hj).trans hu)
 exact⟨ad,xs[k],e,hx,c 0 _ (by omega) rfl,c 1 _ (by omega) rfl⟩
end
structure dL where
 kind:Int
 line:Nat
 aQ:Nat
 bZ:Nat
 cu:Nat
 is:List It
 A:Option Addr
 c:Nat
 las:List La
 A1:Option Addr
 c1:Nat
 s:jk
def dL.val (m:dL):Value:=.agg #[.int .i64 m.kind,.int .u64 (m.line:Int),.int .u64 (m.aQ:Int),.int .u64 (m.bZ:Int),.int .u64 (m.cu:Int),.slice m.A m.is.length m.c,.slice m.A1 m.las.length m.c1,.slice m.s.A m.s.ls.length m.s.c,.slice m.s.A2 m.s.ms.length m.s.c2]
def dL.mg (m:dL):Mg:=⟨m.kind,m.line,m.aQ,m.bZ,m.cu,m.is,m.las,m.s.st⟩
structure WM (m:dL) (w:World):Prop where
 i:IL w m.A m.is
 a:AL w m.A1 m.las
 s:SM m.s w
 ic:m.is.length≤m.c
 ac:m.las.length≤m.c1
theorem WM.stay {m:dL} {w w':World} (h:WM m w) (hb:Below w.heap.size w w'):WM m w':=⟨h.i.stay hb,h.a.stay hb,h.s.stay hb,h.ic,h.ac⟩
structure qA (m:dL) (w:World):Prop where
 i:ah w 0 51 m.A (dR m.is)
 a:ah w 0 55 m.A1 (eQ m.las)
 s:uW m.s w
 ic:m.is.length≤m.c
 ac:m.las.length≤m.c1
theorem qA.wm {m:dL} {w:World} (h:qA m w):WM m w:=⟨h.i.old,h.a.old,h.s.sm,h.ic,h.ac⟩
theorem qA.dB {m:dL} {w w':World} {B:Nat} {ts:List TypeId} (h:qA m w) (hT:ay B ts w w') (h0:51 ∉ ts) (h4:55 ∉ ts) (h1:66 ∉ ts) (h2:69 ∉ ts) (h3:9 ∉ ts):qA m w':=⟨eH h.i hT h0,eH h.a hT h4,h.s.dB hT h1 h2 h3,h.ic,h.ac⟩
theorem qA.stay {m:dL} {w w':World} (h:qA m w) (hb:Below w.heap.size w w'):qA m w':=h.dB (ay.of_below hb (Nat.le_refl _) []) (by simp) (by simp) (by simp) (by simp) (by simp)
def dL.no:dL:=⟨0,0,0,0,0,[],none,0,[],none,0,⟨[],none,0,[],none,0⟩⟩
theorem dL.no_wmt (w:World):qA dL.no w:=⟨ah.nil,ah.nil,⟨ah.nil,ah.nil,by simp [dL.no],Nat.le_refl _,Nat.le_refl _⟩,Nat.le_refl _,Nat.le_refl _⟩
def nk (m:dL) (g:Nat) (w:World):Prop:=w.heap[g]?=some (.cells #[.int .i64 m.kind,.int .u64 (m.line:Int),.int .u64 (m.aQ:Int),.int .u64 (m.bZ:Int),.int .u64 (m.cu:Int),.slice m.A m.is.length m.c,.slice m.A1 m.las.length m.c1,.slice m.s.A m.s.ls.length m.s.c,.slice m.s.A2 m.s.ms.length m.s.c2] 30 (0,0))
theorem nk.stay {m:dL} {g:Nat} {w w':World} (h:nk m g w) (hb:Below w.heap.size w w'):nk m g w':=(hb.block g (lt_of_block h)).trans h
theorem bF {w:World} {a b c d e f g h i:Value} {t:TypeId} {u:World} (q:w.alloc (.cells #[a,b,c,d,e,f,g,h,i] t)=u):u.heap[w.heap.size]?=some (.cells #[a,b,c,d,e,f,g,h,i] t (0,0))∧Below w.heap.size w u∧u.heap.size=w.heap.size+1:=by
 subst q
 exact⟨heap_alloc_new w _,(Below.refl _ w).alloc (Nat.le_refl _) _,by simp⟩
theorem ai {w:World} {p:Nat} {t:TypeId} {a b c d e f g h i:Value} {fr:Nat × Nat} (q:w.heap[p]?=some (.cells #[a,b,c,d,e,f,g,h,i] t fr)):w.cell? ⟨p,0,none⟩=some a∧w.cell? ⟨p,1,none⟩=some b∧w.cell? ⟨p,2,none⟩=some c∧w.cell? ⟨p,3,none⟩=some d∧w.cell? ⟨p,4,none⟩=some e∧w.cell? ⟨p,5,none⟩=some f∧w.cell? ⟨p,6,none⟩=some g∧w.cell? ⟨p,7,none⟩=some h∧w.cell? ⟨p,8,none⟩=some i:=by
 simp [World.cell?,q]
theorem nk.cells {m:dL} {g:Nat} {w:World} (h:nk m g w):w.cell? ⟨g,0,none⟩=some (.int .i64 m.kind)∧w.cell? ⟨g,1,none⟩=some (.int .u64 (m.line:Int))∧w.cell? ⟨g,2,none⟩=some (.int .u64 (m.aQ:Int))∧w.cell? ⟨g,3,none⟩=some (.int .u64 (m.bZ:Int))∧w.cell? ⟨g,4,none⟩=some (.int .u64 (m.cu:Int))∧w.cell? ⟨g,5,none⟩=some (.slice m.A m.is.length m.c)∧w.cell? ⟨g,6,none⟩=some (.slice m.A1 m.las.length m.c1)∧w.cell? ⟨g,7,none⟩=some (.slice m.s.A m.s.ls.length m.s.c)∧w.cell? ⟨g,8,none⟩=some (.slice m.s.A2 m.s.ms.length m.s.c2):=ai h
variable {H : Type} {enc : TypeId × Value → H} {w : World} {base : Nat}
theorem Try.two15:Try.prog.cellsOf 55=2:=by kernel_rfl
theorem Try.nine15:Try.prog.cellsOf 30=9:=by kernel_rfl
theorem nE {fuel:Nat} {cs:List Value} {x:DataW H × List MemPlace} (h:DataW.trod enc Try.prog w 0 (fun _=>true) true fuel 55 cs=some x) :
  ∃ q:La,cs=iT q∧q.ok:=by
 obtain⟨xs,n,_,_,hlen,hxl,hf⟩:=DataW.trod_struct Try.underlying55 h
 rw [Try.two15] at hlen
 match cs,hlen with
 | [c0,c1],_ =>
  match xs,hxl with
  | [y0,y1],_ =>
   have h0:DataW.trod enc Try.prog w 0 (fun _=>true) true n 22 (([c0,c1].drop 0).take (Try.prog.cellsOf 22))=some y0:=hf 0 _ rfl
   rw [Try.one9u] at h0
   have h1:DataW.trod enc Try.prog w 0 (fun _=>true) true n 22 (([c0,c1].drop 1).take (Try.prog.cellsOf 22))=some y1:=hf 1 _ rfl
   rw [Try.one9u] at h1
   obtain⟨k0,e0,_,w0⟩:=DataW.trod_int Try.underlying22 (h0:DataW.trod enc Try.prog w 0 (fun _=>true) true n 22 [c0]=some y0)
   have g0:c0=_:=List.head_eq_of_cons_eq e0
   obtain⟨i0,q0⟩:=Int.eq_ofNat_of_zero_le (wf_u64 w0).1
   have b0:=(wf_u64 w0).2
   subst g0;subst q0
   obtain⟨k1,e1,_,w1⟩:=DataW.trod_int Try.underlying22 (h1:DataW.trod enc Try.prog w 0 (fun _=>true) true n 22 [c1]=some y1)
   have g1:c1=_:=List.head_eq_of_cons_eq e1
   obtain⟨i1,q1⟩:=Int.eq_ofNat_of_zero_le (wf_u64 w1).1
   have b1:=(wf_u64 w1).2
   subst g1;subst q1
   exact⟨⟨i0,i1⟩,rfl,by show i0<_;omega,by show i1<_;omega⟩
theorem lX {fuel:Nat} {v:Value} {x:DataW H × List MemPlace} (hf:DataW.trod enc Try.prog w 0 (fun _=>true) true fuel 24 [v]=some x) :
  ∃ (A:Option Addr) (c:Nat) (ls:List La),v=.slice A ls.length c∧ls.length≤c∧ah w w.heap.size 0 A (ls.flatMap iT)∧(∀ q∈ls,q.ok)∧c≤maxLen:=by
 rcases open_slice Try.underlying24 hf with⟨hcs,_⟩ | ⟨a,len,cap,m,n,D,Pl,hcs,_,hl,hm,hmm,_,hi⟩
 ·simp at hcs
  subst hcs
  exact⟨none,0,[],rfl,Nat.le_refl _,ah.nil,by simp,Nat.zero_le _⟩
 ·simp at hcs
  subst hcs
  simp only [if_true] at hmm
  subst hmm
  rw [Try.two15] at hi
  obtain⟨ls,h1,h2,h3⟩:=eX (w:=w) (E:=iT) (k:=2) (by omega) (fun x=>kK x) (p:=fun q=>q.ok) (a:=a) (len:=len) (fun i hlt=>by
   obtain⟨cs',hc,ht⟩:=hi i (by omega)
   obtain⟨q,rfl,hok⟩:=nE ht
   obtain⟨_,hcl,hat⟩:=World.cells?_some hc
   refine⟨q,fun j u hu=>?_,hok⟩
   have hj:j<2:=by
    rcases Nat.lt_or_ge j (iT q).length with z | z
    ·exact z
    ·rw [List.getElem?_eq_none z] at hu;cases hu
   have:=hat j hj
   rw [addr_add] at this
   rw [this];exact hu)
  exact⟨some a,m,ls,by rw [h1],by omega,h2,h3,hm⟩
theorem kH {fuel:Nat} {v:Value} {x:DataW H × List MemPlace} (hf:DataW.trod enc Try.prog w 0 (fun _=>true) true fuel 23 [v]=some x) :
  ∃ (A:Option Addr) (c:Nat) (ls:List It),v=.slice A ls.length c∧ls.length≤c∧ah w w.heap.size 0 A (ls.flatMap encI)∧(∀ q∈ls,q.ok∧q.who<18446744073709551616∧q.id<18446744073709551616)∧c≤maxLen:=by
 rcases open_slice Try.underlying23 hf with⟨hcs,_⟩ | ⟨a,len,cap,m,n,D,Pl,hcs,_,hl,hm,hmm,_,hi⟩
 ·simp at hcs
  subst hcs
  exact⟨none,0,[],rfl,Nat.le_refl _,ah.nil,by simp,Nat.zero_le _⟩
 ·simp at hcs
  subst hcs
  simp only [if_true] at hmm
  subst hmm
  rw [Try.eight14] at hi
  obtain⟨ls,h1,h2,h3⟩:=eX (w:=w) (E:=encI) (k:=8) (by omega) (fun x=>kL x) (p:=fun q=>q.ok∧q.who<18446744073709551616∧q.id<18446744073709551616) (a:=a) (len:=len) (fun i hlt=>by
   obtain⟨cs',hc,ht⟩:=hi i (by omega)
   obtain⟨q,rfl,hok⟩:=nD ht
   obtain⟨_,hcl,hat⟩:=World.cells?_some hc
   refine⟨q,fun j u hu=>?_,hok⟩
   have hj:j<8:=by
    rcases Nat.lt_or_ge j (encI q).length with z | z
    ·exact z
    ·rw [List.getElem?_eq_none z] at hu;cases hu
   have:=hat j hj
   rw [addr_add] at this
   rw [this];exact hu)
  exact⟨some a,m,ls,by rw [h1],by omega,h2,h3,hm⟩
theorem Try.one15i:Try.prog.cellsOf 23=1:=by kernel_rfl
theorem Try.one15a:Try.prog.cellsOf 24=1:=by kernel_rfl
theorem lY {fuel:Nat} {c0 c1:Value} {x:DataW H × List MemPlace} (hf:DataW.trod enc Try.prog w 0 (fun _=>true) true fuel 28 [c0,c1]=some x) :
  ∃ m:jk,c0=.slice m.A m.ls.length m.c∧c1=.slice m.A2 m.ms.length m.c2∧SM m w∧m.st.ok∧m.far:=by
 obtain⟨xs,n,_,_,_,hxl,hf2⟩:=DataW.trod_struct Try.underlying28 hf
 match xs,hxl with
 | [y0,y1],_ =>
  have h0:DataW.trod enc Try.prog w 0 (fun _=>true) true n 25 (([c0,c1].drop 0).take (Try.prog.cellsOf 25))=some y0:=hf2 0 _ rfl
  have h1:DataW.trod enc Try.prog w 0 (fun _=>true) true n 26 (([c0,c1].drop 1).take (Try.prog.cellsOf 26))=some y1:=hf2 1 _ rfl
  rw [Try.one9l] at h0
  rw [Try.one9k] at h1
  obtain⟨A,c,ls,e0,hc,hL,hp⟩:=nG (v:=c0) h0
  obtain⟨A2,c2,ms,e1,hc2,hK,hq⟩:=nH (v:=c1) h1
  subst e0;subst e1
  refine⟨⟨ls,A,c,ms,A2,c2⟩,rfl,rfl,⟨hL,⟨hK,fun m hm=>(hq m hm).2.1⟩,hc,hc2⟩,⟨hp,fun t ht=>?_⟩,fun m hm=>(hq m hm).2.2⟩
  obtain⟨m,hm,rfl⟩:=List.mem_map.1 ht
  exact (hq m hm).1
structure dL.fit (m:dL):Prop where
 ok:m.mg.ok
 far:m.s.far
 ic:m.c≤maxLen
 ac:m.c1≤maxLen
theorem rq {v:Value} {d:DataW H} {ps:List MemPlace} (hval:Value.okWide Try.prog w .any base 30 v) (h:DataW.Trod enc Try.prog w 0 (fun _=>true) true 30 v d ps) :
  ∃ m:dL,v=m.val∧WM m w∧m.fit:=by
 obtain⟨cs,rfl,hsz⟩:=okWide_struct Try.underlying30 hval
 rw [Try.nine15] at hsz
 obtain⟨c0,c1,c2,c3,c4,c5,c6,c7,c8,rfl⟩:∃ c0 c1 c2 c3 c4 c5 c6 c7 c8,cs=#[c0,c1,c2,c3,c4,c5,c6,c7,c8]:=by
  obtain⟨l⟩:=cs
  match l,hsz with
  | [a,b,c,d,e,f,g,h,i],_=>exact⟨a,b,c,d,e,f,g,h,i,rfl⟩
 obtain⟨fuel,hf0⟩:=h
 obtain⟨xs,n,_,_,_,hxl,hf⟩:=DataW.trod_struct Try.underlying30 hf0
 match xs,hxl with
 | [y0,y1,y2,y3,y4,y5,y6,y7],_ =>
  have h0:DataW.trod enc Try.prog w 0 (fun _=>true) true n 3 (((Value.agg #[c0,c1,c2,c3,c4,c5,c6,c7,c8]).cells.toList.drop 0).take (Try.prog.cellsOf 3))=some y0:=hf 0 _ rfl
  rw [Try.one11i] at h0
  have h1:DataW.trod enc Try.prog w 0 (fun _=>true) true n 22 (((Value.agg #[c0,c1,c2,c3,c4,c5,c6,c7,c8]).cells.toList.drop 1).take (Try.prog.cellsOf 22))=some y1:=hf 1 _ rfl
  rw [Try.one9u] at h1
  have h2:DataW.trod enc Try.prog w 0 (fun _=>true) true n 22 (((Value.agg #[c0,c1,c2,c3,c4,c5,c6,c7,c8]).cells.toList.drop 2).take (Try.prog.cellsOf 22))=some y2:=hf 2 _ rfl
  rw [Try.one9u] at h2
  have h3:DataW.trod enc Try.prog w 0 (fun _=>true) true n 22 (((Value.agg #[c0,c1,c2,c3,c4,c5,c6,c7,c8]).cells.toList.drop 3).take (Try.prog.cellsOf 22))=some y3:=hf 3 _ rfl
  rw [Try.one9u] at h3
  have h4:DataW.trod enc Try.prog w 0 (fun _=>true) true n 22 (((Value.agg #[c0,c1,c2,c3,c4,c5,c6,c7,c8]).cells.toList.drop 4).take (Try.prog.cellsOf 22))=some y4:=hf 4 _ rfl
  rw [Try.one9u] at h4
  have h5:DataW.trod enc Try.prog w 0 (fun _=>true) true n 23 (((Value.agg #[c0,c1,c2,c3,c4,c5,c6,c7,c8]).cells.toList.drop 5).take (Try.prog.cellsOf 23))=some y5:=hf 5 _ rfl
  rw [Try.one15i] at h5
  have h6:DataW.trod enc Try.prog w 0 (fun _=>true) true n 24 (((Value.agg #[c0,c1,c2,c3,c4,c5,c6,c7,c8]).cells.toList.drop 6).take (Try.prog.cellsOf 24))=some y6:=hf 6 _ rfl
  rw [Try.one15a] at h6
  have h7:DataW.trod enc Try.prog w 0 (fun _=>true) true n 28 (((Value.agg #[c0,c1,c2,c3,c4,c5,c6,c7,c8]).cells.toList.drop 7).take (Try.prog.cellsOf 28))=some y7:=hf 7 _ rfl
  rw [Try.twoSt9] at h7
  obtain⟨k0,e0,_,_⟩:=DataW.trod_int Try.underlying3 (h0:DataW.trod enc Try.prog w 0 (fun _=>true) true n 3 [c0]=some y0)
  have g0:c0=_:=List.head_eq_of_cons_eq e0
  subst g0
  obtain⟨k1,e1,_,w1⟩:=DataW.trod_int Try.underlying22 (h1:DataW.trod enc Try.prog w 0 (fun _=>true) true n 22 [c1]=some y1)
  have g1:c1=_:=List.head_eq_of_cons_eq e1
  obtain⟨i1,q1⟩:=Int.eq_ofNat_of_zero_le (wf_u64 w1).1
  have b1:=(wf_u64 w1).2
  subst g1;subst q1
  obtain⟨k2,e2,_,w2⟩:=DataW.trod_int Try.underlying22 (h2:DataW.trod enc Try.prog w 0 (fun _=>true) true n 22 [c2]=some y2)
  have g2:c2=_:=List.head_eq_of_cons_eq e2
  obtain⟨i2,q2⟩:=Int.eq_ofNat_of_zero_le (wf_u64 w2).1
  have b2:=(wf_u64 w2).2
  subst g2;subst q2
  obtain⟨k3,e3,_,w3⟩:=DataW.trod_int Try.underlying22 (h3:DataW.trod enc Try.prog w 0 (fun _=>true) true n 22 [c3]=some y3)
  have g3:c3=_:=List.head_eq_of_cons_eq e3
  obtain⟨i3,q3⟩:=Int.eq_ofNat_of_zero_le (wf_u64 w3).1
  have b3:=(wf_u64 w3).2
  subst g3;subst q3
  obtain⟨k4,e4,_,w4⟩:=DataW.trod_int Try.underlying22 (h4:DataW.trod enc Try.prog w 0 (fun _=>true) true n 22 [c4]=some y4)
  have g4:c4=_:=List.head_eq_of_cons_eq e4
  obtain⟨i4,q4⟩:=Int.eq_ofNat_of_zero_le (wf_u64 w4).1
  have b4:=(wf_u64 w4).2
  subst g4;subst q4
  obtain⟨A,c,is,e5,hc,hI,hio,hcm⟩:=kH (show DataW.trod enc Try.prog w 0 (fun _=>true) true n 23 [c5]=some y5 from h5)
  obtain⟨A1,c1,las,e6,hc1,hA,hao,hcm1⟩:=lX (show DataW.trod enc Try.prog w 0 (fun _=>true) true n 24 [c6]=some y6 from h6)
  obtain⟨s,e7,e8,hS,hso,hsf⟩:=lY (show DataW.trod enc Try.prog w 0 (fun _=>true) true n 28 [c7,c8]=some y7 from h7)
  subst e5;subst e6;subst e7;subst e8
  exact⟨⟨k0,i1,i2,i3,i4,is,A,c,las,A1,c1,s⟩,rfl,⟨hI,hA,hS,hc,hc1⟩,⟨by show i1<_;omega,by show i2<_;omega,by show i3<_;omega,by show i4<_;omega,fun x hx=>⟨(hio x hx).2.1,(hio x hx).2.2,(hio x hx).1⟩,hao,hso⟩,hsf,hcm,hcm1⟩
end
end
end Go.Proofs.Ytcedlgedmkghgaa
