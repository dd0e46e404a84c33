import Derived.Test.YtmcfknnfaokmlaaGreatZ28
import Derived.Test.YtmcfknnfaokmlaaGreatZ22
namespace Go.Proofs.YtmcfknnfaokmlaaGreat
set_option maxHeartbeats 16000000
open Go.Proofs.Tryz
set_option linter.unusedSimpArgs false
set_option maxRecDepth 100000
section
section
open Go.ChangeShapes Go.WideShapes Go.ChangeAt Go.RowKit Go.Deep Go.Lib
theorem tQ (xs:List It) (x:It):fA (xs++[x])=fA xs++encI x:=by simp [fA]
structure dR where
 kind:Int
 line:Nat
 aK:Nat
 bE:Nat
 bI:Nat
 is:List It
 A:Option Addr
 c:Nat
 las:List La
 A1:Option Addr
 c1:Nat
 s:ji
def dR.val (m:dR):Value:=.agg #[.int .i64 m.kind,.int .u64 (m.line:Int),.int .u64 (m.aK:Int),.int .u64 (m.bE:Int),.int .u64 (m.bI:Int),.slice m.A m.is.length m.c,.slice m.A1 m.las.length m.c1,.slice m.s.A m.s.ls.length m.s.c,.slice m.s.A2 m.s.ms.length m.s.c2]
def dR.mg (m:dR):Mg:=⟨m.kind,m.line,m.aK,m.bE,m.bI,m.is,m.las,m.s.st⟩
structure WM (m:dR) (w:World):Prop where
 i:IL w m.A m.is
 a:AL w m.A1 m.las
 s:SM m.s w
 ic:m.is.length≤m.c
 ac:m.las.length≤m.c1
theorem WM.stay {m:dR} {w w':World} (h:WM m w) (hb:Below w.heap.size w w'):WM m w':=⟨h.i.stay hb,h.a.stay hb,h.s.stay hb,h.ic,h.ac⟩
structure wV (m:dR) (w:World):Prop where
 i:av w 0 57 m.A (fA m.is)
 a:av w 0 61 m.A1 (gy m.las)
 s:AZ m.s w
 ic:m.is.length≤m.c
 ac:m.las.length≤m.c1
theorem wV.wm {m:dR} {w:World} (h:wV m w):WM m w:=⟨h.i.old,h.a.old,h.s.sm,h.ic,h.ac⟩
theorem wV.cZ {m:dR} {w w':World} {B:Nat} {ts:List TypeId} (h:wV m w) (hT:aG B ts w w') (h0:57 ∉ ts) (h4:61 ∉ ts) (h1:94 ∉ ts) (h2:97 ∉ ts) (h3:9 ∉ ts):wV m w':=⟨gP h.i hT h0,gP h.a hT h4,h.s.cZ hT h1 h2 h3,h.ic,h.ac⟩
theorem wV.stay {m:dR} {w w':World} (h:wV m w) (hb:Below w.heap.size w w'):wV m w':=h.cZ (aG.of_below hb (Nat.le_refl _) []) (by simp) (by simp) (by simp) (by simp) (by simp)
def dR.no:dR:=⟨0,0,0,0,0,[],none,0,[],none,0,⟨[],none,0,[],none,0⟩⟩
theorem dR.xU (w:World):wV dR.no w:=⟨av.nil,av.nil,⟨av.nil,av.nil,by simp [dR.no],Nat.le_refl _,Nat.le_refl _⟩,Nat.le_refl _,Nat.le_refl _⟩
def sK (m:dR) (g:Nat) (w:World):Prop:=w.heap[g]?=some (.cells #[.int .i64 m.kind,.int .u64 (m.line:Int),.int .u64 (m.aK:Int),.int .u64 (m.bE:Int),.int .u64 (m.bI:Int),.slice m.A m.is.length m.c,.slice m.A1 m.las.length m.c1,.slice m.s.A m.s.ls.length m.s.c,.slice m.s.A2 m.s.ms.length m.s.c2] 30 (0,0))
theorem sK.stay {m:dR} {g:Nat} {w w':World} (h:sK m g w) (hb:Below w.heap.size w w'):sK m g w':=(hb.block g (lt_of_block h)).trans h
theorem bD {w:World} {a b c d e f g h i:Value} {t:TypeId} {u:World} (q:w.alloc (.cells #[a,b,c,d,e,f,g,h,i] t)=u):u.heap[w.heap.size]?=some (.cells #[a,b,c,d,e,f,g,h,i] t (0,0))∧Below w.heap.size w u∧u.heap.size=w.heap.size+1:=by
 subst q
 exact⟨heap_alloc_new w _,(Below.refl _ w).alloc (Nat.le_refl _) _,by simp⟩
theorem ag {w:World} {p:Nat} {t:TypeId} {a b c d e f g h i:Value} {fr:Nat × Nat} (q:w.heap[p]?=some (.cells #[a,b,c,d,e,f,g,h,i] t fr)):w.cell? ⟨p,0,none⟩=some a∧w.cell? ⟨p,1,none⟩=some b∧w.cell? ⟨p,2,none⟩=some c∧w.cell? ⟨p,3,none⟩=some d∧w.cell? ⟨p,4,none⟩=some e∧w.cell? ⟨p,5,none⟩=some f∧w.cell? ⟨p,6,none⟩=some g∧w.cell? ⟨p,7,none⟩=some h∧w.cell? ⟨p,8,none⟩=some i:=by
 simp [World.cell?,q]
theorem sK.cells {m:dR} {g:Nat} {w:World} (h:sK m g w):w.cell? ⟨g,0,none⟩=some (.int .i64 m.kind)∧w.cell? ⟨g,1,none⟩=some (.int .u64 (m.line:Int))∧w.cell? ⟨g,2,none⟩=some (.int .u64 (m.aK:Int))∧w.cell? ⟨g,3,none⟩=some (.int .u64 (m.bE:Int))∧w.cell? ⟨g,4,none⟩=some (.int .u64 (m.bI:Int))∧w.cell? ⟨g,5,none⟩=some (.slice m.A m.is.length m.c)∧w.cell? ⟨g,6,none⟩=some (.slice m.A1 m.las.length m.c1)∧w.cell? ⟨g,7,none⟩=some (.slice m.s.A m.s.ls.length m.s.c)∧w.cell? ⟨g,8,none⟩=some (.slice m.s.A2 m.s.ms.length m.s.c2):=ag h
variable {H : Type} {enc : TypeId × Value → H} {w : World} {base : Nat}
theorem Tryz.nine15:prog.cellsOf 30=9:=by kernel_rfl
theorem o5 {fuel:Nat} {v:Value} {x:DataW H × List MemPlace} (hf:DataW.trod enc prog w 0 (fun _=>true) true fuel 23 [v]=some x) :
  ∃ (A:Option Addr) (c:Nat) (ls:List It),v=.slice A ls.length c∧ls.length≤c∧av w w.heap.size 0 A (ls.flatMap encI)∧(∀ q∈ls,q.ok∧q.who<18446744073709551616∧q.id<18446744073709551616)∧c≤maxLen:=by
 rcases open_slice underlying23 hf with⟨hcs,_⟩ | ⟨a,len,cap,m,n,D,Pl,hcs,_,hl,hm,hmm,_,hi⟩
 ·simp at hcs
  subst hcs
  exact⟨none,0,[],rfl,Nat.le_refl _,av.nil,by simp,Nat.zero_le _⟩
 ·simp at hcs
  subst hcs
  simp only [if_true] at hmm
  subst hmm
  rw [Tryz.eight14] at hi
  obtain⟨ls,h1,h2,h3⟩:=gW (w:=w) (E:=encI) (k:=8) (by omega) (fun x=>o9 x) (p:=fun q=>q.ok∧q.who<18446744073709551616∧q.id<18446744073709551616) (a:=a) (len:=len) (fun i hlt=>by
   obtain⟨cs',hc,ht⟩:=hi i (by omega)
   obtain⟨q,rfl,hok⟩:=sO ht
   obtain⟨_,hcl,hat⟩:=World.cells?_some hc
   refine⟨q,fun j u hu=>?_,hok⟩
   have hj:j<8:=by
    rcases Nat.lt_or_ge j (encI q).length with z | z
    ·exact z
    ·rw [List.getElem?_eq_none z] at hu;cases hu
   have:=hat j hj
   rw [addr_add] at this
   rw [this];exact hu)
  exact⟨some a,m,ls,by rw [h1],by omega,h2,h3,hm⟩
theorem Tryz.one15i:prog.cellsOf 23=1:=by kernel_rfl
theorem Tryz.one15a:prog.cellsOf 24=1:=by kernel_rfl
theorem qM {fuel:Nat} {c0 c1:Value} {x:DataW H × List MemPlace} (hf:DataW.trod enc prog w 0 (fun _=>true) true fuel 28 [c0,c1]=some x) :
  ∃ m:ji,c0=.slice m.A m.ls.length m.c∧c1=.slice m.A2 m.ms.length m.c2∧SM m w∧m.st.ok∧m.far:=by
 obtain⟨xs,n,_,_,_,hxl,hf2⟩:=DataW.trod_struct underlying28 hf
 match xs,hxl with
 | [y0,y1],_ =>
  have h0:DataW.trod enc prog w 0 (fun _=>true) true n 25 (([c0,c1].drop 0).take (prog.cellsOf 25))=some y0:=hf2 0 _ rfl
  have h1:DataW.trod enc prog w 0 (fun _=>true) true n 26 (([c0,c1].drop 1).take (prog.cellsOf 26))=some y1:=hf2 1 _ rfl
  rw [Tryz.one9l] at h0
  rw [Tryz.one9k] at h1
  obtain⟨A,c,ls,e0,hc,hL,hp⟩:=sQ (v:=c0) h0
  obtain⟨A2,c2,ms,e1,hc2,hK,hq⟩:=sS (v:=c1) h1
  subst e0;subst e1
  refine⟨⟨ls,A,c,ms,A2,c2⟩,rfl,rfl,⟨hL,⟨hK,fun m hm=>(hq m hm).2.1⟩,hc,hc2⟩,⟨hp,fun t ht=>?_⟩,fun m hm=>(hq m hm).2.2⟩
  obtain⟨m,hm,rfl⟩:=List.mem_map.1 ht
  exact (hq m hm).1
structure dR.fit (m:dR):Prop where
 ok:m.mg.ok
 far:m.s.far
 ic:m.c≤maxLen
 ac:m.c1≤maxLen
theorem pV {v:Value} {d:DataW H} {ps:List MemPlace} (hval:Value.okWide prog w .any base 30 v) (h:DataW.Trod enc prog w 0 (fun _=>true) true 30 v d ps) :
  ∃ m:dR,v=m.val∧WM m w∧m.fit:=by
 obtain⟨cs,rfl,hsz⟩:=okWide_struct underlying30 hval
 rw [Tryz.nine15] at hsz
 obtain⟨c0,c1,c2,c3,c4,c5,c6,c7,c8,rfl⟩:∃ c0 c1 c2 c3 c4 c5 c6 c7 c8,cs=#[c0,c1,c2,c3,c4,c5,c6,c7,c8]:=by
  obtain⟨l⟩:=cs
  match l,hsz with
  | [a,b,c,d,e,f,g,h,i],_=>exact⟨a,b,c,d,e,f,g,h,i,rfl⟩
 obtain⟨fuel,hf0⟩:=h
 obtain⟨xs,n,_,_,_,hxl,hf⟩:=DataW.trod_struct underlying30 hf0
 match xs,hxl with
 | [y0,y1,y2,y3,y4,y5,y6,y7],_ =>
  have h0:DataW.trod enc prog w 0 (fun _=>true) true n 3 (((Value.agg #[c0,c1,c2,c3,c4,c5,c6,c7,c8]).cells.toList.drop 0).take (prog.cellsOf 3))=some y0:=hf 0 _ rfl
  rw [Tryz.one11i] at h0
  have h1:DataW.trod enc prog w 0 (fun _=>true) true n 22 (((Value.agg #[c0,c1,c2,c3,c4,c5,c6,c7,c8]).cells.toList.drop 1).take (prog.cellsOf 22))=some y1:=hf 1 _ rfl
  rw [Tryz.one9u] at h1
  have h2:DataW.trod enc prog w 0 (fun _=>true) true n 22 (((Value.agg #[c0,c1,c2,c3,c4,c5,c6,c7,c8]).cells.toList.drop 2).take (prog.cellsOf 22))=some y2:=hf 2 _ rfl
  rw [Tryz.one9u] at h2
  have h3:DataW.trod enc prog w 0 (fun _=>true) true n 22 (((Value.agg #[c0,c1,c2,c3,c4,c5,c6,c7,c8]).cells.toList.drop 3).take (prog.cellsOf 22))=some y3:=hf 3 _ rfl
  rw [Tryz.one9u] at h3
  have h4:DataW.trod enc prog w 0 (fun _=>true) true n 22 (((Value.agg #[c0,c1,c2,c3,c4,c5,c6,c7,c8]).cells.toList.drop 4).take (prog.cellsOf 22))=some y4:=hf 4 _ rfl
  rw [Tryz.one9u] at h4
  have h5:DataW.trod enc prog w 0 (fun _=>true) true n 23 (((Value.agg #[c0,c1,c2,c3,c4,c5,c6,c7,c8]).cells.toList.drop 5).take (prog.cellsOf 23))=some y5:=hf 5 _ rfl
  rw [Tryz.one15i] at h5
  have h6:DataW.trod enc prog w 0 (fun _=>true) true n 24 (((Value.agg #[c0,c1,c2,c3,c4,c5,c6,c7,c8]).cells.toList.drop 6).take (prog.cellsOf 24))=some y6:=hf 6 _ rfl
  rw [Tryz.one15a] at h6
  have h7:DataW.trod enc prog w 0 (fun _=>true) true n 28 (((Value.agg #[c0,c1,c2,c3,c4,c5,c6,c7,c8]).cells.toList.drop 7).take (prog.cellsOf 28))=some y7:=hf 7 _ rfl
  rw [Tryz.twoSt9] at h7
  obtain⟨k0,e0,_,_⟩:=DataW.trod_int underlying3 (h0:DataW.trod enc prog w 0 (fun _=>true) true n 3 [c0]=some y0)
  have g0:c0=_:=List.head_eq_of_cons_eq e0
  subst g0
  obtain⟨k1,e1,_,w1⟩:=DataW.trod_int underlying22 (h1:DataW.trod enc prog w 0 (fun _=>true) true n 22 [c1]=some y1)
  have g1:c1=_:=List.head_eq_of_cons_eq e1
  obtain⟨i1,q1⟩:=Int.eq_ofNat_of_zero_le (wf_u64 w1).1
  have b1:=(wf_u64 w1).2
  subst g1;subst q1
  obtain⟨k2,e2,_,w2⟩:=DataW.trod_int underlying22 (h2:DataW.trod enc prog w 0 (fun _=>true) true n 22 [c2]=some y2)
  have g2:c2=_:=List.head_eq_of_cons_eq e2
  obtain⟨i2,q2⟩:=Int.eq_ofNat_of_zero_le (wf_u64 w2).1
  have b2:=(wf_u64 w2).2
  subst g2;subst q2
  obtain⟨k3,e3,_,w3⟩:=DataW.trod_int underlying22 (h3:DataW.trod enc prog w 0 (fun _=>true) true n 22 [c3]=some y3)
  have g3:c3=_:=List.head_eq_of_cons_eq e3
  obtain⟨i3,q3⟩:=Int.eq_ofNat_of_zero_le (wf_u64 w3).1
  have b3:=(wf_u64 w3).2
  subst g3;subst q3
  obtain⟨k4,e4,_,w4⟩:=DataW.trod_int underlying22 (h4:DataW.trod enc prog w 0 (fun _=>true) true n 22 [c4]=some y4)
  have g4:c4=_:=List.head_eq_of_cons_eq e4
  obtain⟨i4,q4⟩:=Int.eq_ofNat_of_zero_le (wf_u64 w4).1
  have b4:=(wf_u64 w4).2
  subst g4;subst q4
  obtain⟨A,c,is,e5,hc,hI,hio,hcm⟩:=o5 (show DataW.trod enc prog w 0 (fun _=>true) true n 23 [c5]=some y5 from h5)
  obtain⟨A1,c1,las,e6,hc1,hA,hao,hcm1⟩:=qL (show DataW.trod enc prog w 0 (fun _=>true) true n 24 [c6]=some y6 from h6)
  obtain⟨s,e7,e8,hS,hso,hsf⟩:=qM (show DataW.trod enc prog w 0 (fun _=>true) true n 28 [c7,c8]=some y7 from h7)
  subst e5;subst e6;subst e7;subst e8
  exact⟨⟨k0,i1,i2,i3,i4,is,A,c,las,A1,c1,s⟩,rfl,⟨hI,hA,hS,hc,hc1⟩,⟨by show i1<_;omega,by show i2<_;omega,by show i3<_;omega,by show i4<_;omega,fun x hx=>⟨(hio x hx).2.1,(hio x hx).2.2,(hio x hx).1⟩,hao,hso⟩,hsf,hcm,hcm1⟩
end
end
end Go.Proofs.YtmcfknnfaokmlaaGreat
