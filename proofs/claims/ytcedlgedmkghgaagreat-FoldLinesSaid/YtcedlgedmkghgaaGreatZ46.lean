import Derived.Test.YtcedlgedmkghgaaGreatZ18
import Derived.Test.YtcedlgedmkghgaaGreatZ45
import Derived.Test.YtcedlgedmkghgaaGreatZ42
import Derived.Test.YtcedlgedmkghgaaGreatZ13
import Derived.Test.YtcedlgedmkghgaaGreatZ21
import Derived.Test.YtcedlgedmkghgaaGreatZ40
import Derived.Test.YtcedlgedmkghgaaGreatZ22
namespace Go.Proofs.YtcedlgedmkghgaaGreat
set_option maxHeartbeats 16000000
open Go.Lib Go.Proofs.Tryz
set_option linter.unusedSimpArgs false
set_option maxRecDepth 100000
section
open Go.RowKit Go.Lib
theorem Eg {m:T9.Mu} {w:World}:Calls prog 29 #[m.val] w fun e w'=>e=.returned (.bool (decide (m.text.length≤200)))∧Below w.heap.size w w':=by
 unfold T9.Mu.val
 obtain⟨w1,hw1⟩:∃ u,w.alloc (.cells #[.int .i64 m.kind,.int .u64 (m.id:Int),.int .u64 (m.list:Int),.string (str m.text),.float .f64 m.f,.bool m.flag] 65)=u:=⟨_,rfl⟩
 obtain⟨pb,b1,z1⟩:=bu hw1
 obtain⟨p0,p1,p2,p3,p4,p5⟩:=ag pb
 have B1:=hid b1
 have sz:(str m.text).size=m.text.length:=rfl
 clear pb b1 z1
 by_cases h:m.text.length≤200
 ·have hz:((str m.text).size:Int)≤200:=by rw [sz];omega
  have e:=hid (decide_eq_true h)
  clear h sz
  go_enter func29,ntmps29
  go_wp2
  go_ret
  exact⟨aP (by rw [e.out]),B1.out⟩
 ·have hz:¬ (((str m.text).size:Int)≤200):=by rw [sz];omega
  have e:=hid (decide_eq_false h)
  clear h sz
  go_enter func29,ntmps29
  go_wp2
  go_ret
  exact⟨aP (by rw [e.out]),B1.out⟩
end
section
open Go.RowKit Go.Lib
end
section
open Go.RowKit Go.Lib
theorem yT {ts:List T9.Tk} {x:T9.Tk} (h:∀ t∈ts,t.ok) (hx:x.ok):∀ t∈Sr.ins T9.iT x ts,t.ok:=fun t ht=>by
 rcases Sr.kv ht with rfl | q
 ·exact hx
 ·exact h t q
theorem rG {ts:List T9.Tk} {l i:Nat} {d:Bool} (h:∀ t∈ts,t.ok):∀ t∈T9.wo ts l d i,t.ok:=fun t ht=>h t (List.mem_filter.1 ht).1
theorem Eo {ts:List T9.Tk} {i:Nat} (h:∀ t∈ts,t.ok) (hh:T9.d_ ts i=true):(T9.dH ts i).1.ok:=h _ (T9.kM hh).1
theorem Ii {l:List T9.Tk} {t:T9.Tk} (hl:l.length≤60) (h:t.ok):(T9.nN l t).ok:=by
 unfold T9.nN
 cases e:T9.xM l t.id with
 | none=>exact h
 | some j =>
  obtain⟨x,hx,_⟩:=T9.y9 e
  have:=(List.getElem?_eq_some_iff.1 hx).1
  have hb:=(Fl.Gu (j+1) (by omega)).1
  dsimp only
  generalize Fl.xK (j+1)=f at hb ⊢
  exact⟨h.1,h.2.1,hb,h.2.2.2⟩
theorem Bf (ts:List T9.Tk) (l:Nat):(T9.kJ ts l).length≤ts.length:=by
 unfold T9.kJ
 have q:∀ (xs o:List T9.Tk),(xs.foldl (fun o x=>Sr.ins T9.kT x o) o).length≤o.length+xs.length:=by
  intro xs
  induction xs with
  | nil=>intro o;simp
  | cons x xs ih =>
   intro o
   have a:=ih (Sr.ins T9.kT x o)
   have b:∀ o:List T9.Tk,(Sr.ins T9.kT x o).length≤o.length+1:=by
    intro o
    induction o with
    | nil=>simp [Sr.ins]
    | cons y o ih2=>unfold Sr.ins;split <;> (try split) <;> simp <;> omega
   have c:=b o
   simp only [List.foldl_cons,List.length_cons]
   omega
 have a:=q (T9.fH ts l) []
 have b:(T9.fH ts l).length≤ts.length:=by unfold T9.fH;exact List.length_filter_le _ _
 unfold Sr.canon
 simp only [List.length_nil,Nat.zero_add] at a
 omega
theorem Ih {home:Bool} {m:T9.Mu} {t:T9.Tk} (km:m.ok) (h:t.ok):(T9.oD home m t).2.ok:=by
 unfold T9.oD
 split
 ·exact h
 split
 ·exact h
 split
 ·exact⟨h.1,km.2.1,km.2.2,h.2.2.2⟩
 split
 ·exact⟨h.1,h.2.1,km.2.2,h.2.2.2⟩
 split
 ·exact⟨h.1,h.2.1,h.2.2.1,km.2.2⟩
 ·exact h
theorem Gj {s:T9.St} {m:T9.Mu} (h:s.ok) (km:m.ok) (hr:T9.aH s=0) (hd:(T9.eB s m).1=0):(T9.eB s m).2.ok:=by
 unfold T9.eB at hd ⊢
 by_cases k1:m.kind=1
 ·rw [if_pos k1] at hd ⊢
  split at hd
  ·cases hd
  rename_i a
  rw [if_neg a]
  split at hd
  ·cases hd
  rename_i b
  rw [if_neg b]
  refine⟨fun l hl=>?_,h.2⟩
  rcases Sr.kv hl with rfl | q
  ·exact km.1
  ·exact h.1 l q
 rw [if_neg k1] at hd ⊢
 by_cases k2:m.kind=2
 ·rw [if_pos k2] at hd ⊢
  split at hd
  ·cases hd
  rename_i a
  rw [if_neg a]
  exact⟨fun l hl=>h.1 l (List.mem_filter.1 hl).1,rG h.2⟩
 rw [if_neg k2] at hd ⊢
 by_cases k12:m.kind=12
 ·rw [if_pos k12] at hd ⊢
  split at hd
  ·cases hd
  rename_i a
  rw [if_neg a]
  exact⟨h.1,rG h.2⟩
 rw [if_neg k12] at hd ⊢
 by_cases k13:m.kind=13
 ·rw [if_pos k13] at hd ⊢
  split at hd
  ·cases hd
  rename_i a
  rw [if_neg a]
  refine⟨h.1,fun t ht=>?_⟩
  obtain⟨x,hx,rfl⟩:=List.mem_map.1 ht
  exact Ii (Nat.le_trans (Bf _ _) (T9.aD hr).2.1) (h.2 x hx)
 rw [if_neg k13] at hd ⊢
 by_cases k3:m.kind=3
 ·rw [if_pos k3] at hd ⊢
  split at hd
  ·cases hd
  rename_i a
  rw [if_neg a]
  split at hd
  ·cases hd
  rename_i b
  rw [if_neg b]
  split at hd
  ·cases hd
  rename_i c
  rw [if_neg c]
  exact⟨h.1,yT h.2 ⟨km.1,km.2.1,km.2.2,(by decide +kernel:Fl.ig<18446744073709551616)⟩⟩
 rw [if_neg k3] at hd ⊢
 split at hd
 ·cases hd
 rename_i a
 rw [if_neg a]
 have a':T9.d_ s.tasks m.id=true:=by simpa using a
 by_cases k11:m.kind=11
 ·rw [if_pos k11]
  exact⟨h.1,rG h.2⟩
 ·rw [if_neg k11]
  exact⟨h.1,yT (rG h.2) (Ih km (Eo h.2 a'))⟩
end
section
open Go.RowKit Go.Lib Go.Sort
theorem T9.xV {s:T9.St} (h:s.qM):(T9.canon s).qM:=by
 have q:∀ t∈(T9.canon s).tasks,∃ u∈s.tasks,T9.norm u=t:=fun t ht=>by
  obtain⟨u,hu,e⟩:=List.mem_map.1 ht
  exact⟨u,Sr.gJ hu,e⟩
 refine⟨Nat.le_trans (Sr.dB _) h.nl,?_,fun l hl=>h.name l (Sr.gJ hl),?_,?_,?_⟩
 ·show ((Sr.canon T9.iT s.tasks).map T9.norm).length≤70
  rw [List.length_map]
  exact Nat.le_trans (Sr.dB _) h.nt
 ·intro t ht
  obtain⟨u,hu,rfl⟩:=q t ht
  exact h.title u hu
 ·intro t ht
  obtain⟨u,hu,rfl⟩:=q t ht
  exact Nat.le_trans (Sr.dB _) (h.few u hu)
 ·intro t ht x hx
  obtain⟨u,hu,rfl⟩:=q t ht
  exact h.tag u hu x (Sr.gJ hx)
theorem T9.FV {s:T9.St} (h:s.ok):(T9.canon s).ok:=by
 refine⟨fun l hl=>h.1 l (Sr.gJ hl),fun t ht=>?_⟩
 obtain⟨u,hu,rfl⟩:=List.mem_map.1 ht
 obtain⟨a,b,c,d⟩:=h.2 u (Sr.gJ hu)
 exact⟨a,b,Fl.rY c,Fl.rY d⟩
end
section
open Go.RowKit Go.Lib
namespace T9
def dO (s:St):St:=if aH (canon s)=0 then canon s else ⟨[],[]⟩
def ou (s:St) (m:Mu):St:=if (bA s m).2=0 then (bA s m).1 else s
def cK (s:St):List Mu→St
 | []=>s
 | m :: l=>cK (ou s m) l
def dJ (s:St):List Mu→List Int
 | []=>[]
 | m :: l=>(bA s m).2 :: dJ (ou s m) l
def fV (s:St):Prop:=aH s=0∧s.ok
theorem fV.short {s:St} (h:fV s):s.short:=zm h.1
theorem fV.canon {s:St} (h:fV s):T9.canon s=s:=kg h.1
theorem kH {s:St} (h:s.ok):fV (dO s):=by
 unfold dO
 split
 ·rename_i q
  exact⟨q,T9.FV h⟩
 ·exact⟨by decide,by simp,by simp⟩
theorem xC {s:St} {m:Mu} (h:fV s) (km:m.ok):fV (ou s m):=by
 unfold ou
 split
 ·rename_i e
  obtain⟨a1,a2,a3,a4⟩:=Dn e
  rw [a4]
  exact⟨DR a1 a2 a3,Gj h.2 km a1 a3⟩
 ·exact h
theorem iP {l:List Mu}:∀ {s:St},fV s→(∀ m∈l,m.ok)→fV (cK s l):=by
 induction l with
 | nil=>exact fun h _=>h
 | cons m l ih=>exact fun h k=>ih (xC h (k m (List.mem_cons_self ..))) fun x hx=>k x (List.mem_cons_of_mem _ hx)
theorem sG {l k:List Mu}:∀ {s:St},cK s (l++k)=cK (cK s l) k:=by
 induction l with
 | nil=>exact rfl
 | cons m l ih=>exact ih
theorem sF {l k:List Mu}:∀ {s:St},dJ s (l++k)=dJ s l++dJ (cK s l) k:=by
 induction l with
 | nil=>exact rfl
 | cons m l ih=>exact fun {s}=>congrArg ((bA s m).2 :: ·) ih
theorem ja {l:List Mu}:∀ {s:St},(dJ s l).length=l.length:=by
 induction l with
 | nil=>exact rfl
 | cons m l ih=>exact fun {s}=>congrArg (·+1) ih
theorem sH {l:List Mu} {s:St} {i:Nat} {m:Mu} (h:l[i]?=some m):cK s (l.take (i+1))=ou (cK s (l.take i)) m:=by
 rw [bL h,sG]
 rfl
theorem kX {l:List Mu} {s:St} {i:Nat} {m:Mu} (h:l[i]?=some m):dJ s (l.take (i+1))=dJ s (l.take i)++[(bA (cK s (l.take i)) m).2]:=by
 rw [bL h,sF]
 rfl
end T9
end
section
section
open Go.ChangeShapes Go.WideShapes Go.ChangeAt Go.RowKit Go.Deep Go.Lib
structure It where
 who:Nat
 id:Nat
 m:T9.Mu
instance:Inhabited It:=⟨⟨0,0,⟨0,0,0,[],0,false⟩⟩⟩
def encI (x:It):List Value:=[.int .u64 (x.who:Int),.int .u64 (x.id:Int),.int .i64 x.m.kind,.int .u64 (x.m.id:Int),.int .u64 (x.m.list:Int),.string (str x.m.text),.float .f64 x.m.f,.bool x.m.flag]
def It.ok (x:It):Prop:=x.m.ok
theorem sw (x:It):(encI x).length=8:=rfl
theorem Gl (x:It):∀ v∈encI x,v.oneCell'=true:=by
 intro v hv
 simp only [encI,List.mem_cons,List.not_mem_nil,or_false] at hv
 rcases hv with rfl | rfl | rfl | rfl | rfl | rfl | rfl | rfl <;> rfl
def eH (xs:List It):List Value:=xs.flatMap encI
theorem ma (xs:List It):(eH xs).length=xs.length * 8:=jk fun x _=>sw x
theorem qK (xs:List It):∀ v∈eH xs,v.oneCell'=true:=fun v hv=>by
 obtain⟨l,_,h⟩:=List.mem_flatMap.1 hv
 exact Gl l v h
theorem qJ (xs ys:List It):eH (xs++ys)=eH xs++eH ys:=by simp [eH]
def dx (xs:List It):List T9.Mu:=xs.map (·.m)
theorem ic (xs:List It):(dx xs).length=xs.length:=by simp [dx]
theorem yS (xs ys:List It):dx (xs++ys)=dx xs++dx ys:=by simp [dx]
theorem rF {xs:List It} {i:Nat} {x:It} (h:xs[i]?=some x):(dx xs)[i]?=some x.m:=by simp [dx,h]
theorem Eh (xs:List It) (i:Nat):dx (xs.take i)=(dx xs).take i:=by simp [dx,List.map_take]
def IL (w:World) (A:Option Addr) (xs:List It):Prop:=au w w.heap.size 0 A (eH xs)
section
variable {w w' : World} {A : Option Addr} {xs : List It}
theorem IL.stay (h:IL w A xs) (hb:Below w.heap.size w w'):IL w' A xs:=au.stay h hb
theorem IL.nil:IL w A []:=au.nil
theorem IL.at_ (h:IL w A xs) {k:Nat} (hk:k<xs.length):∃ ad x,A=some ad∧xs[k]?=some x∧w.cell? (ad.add (k * 8))=some (.int .u64 (x.who:Int))∧w.cell? ⟨(ad.add (k * 8)).block,(ad.add (k * 8)).off+1,none⟩=some (.int .u64 (x.id:Int)) ∧
  w.cell? ⟨(ad.add (k * 8)).block,(ad.add (k * 8)).off+2,none⟩=some (.int .i64 x.m.kind)∧w.cell? ⟨(ad.add (k * 8)).block,(ad.add (k * 8)).off+3,none⟩=some (.int .u64 (x.m.id:Int))∧w.cell? ⟨(ad.add (k * 8)).block,(ad.add (k * 8)).off+4,none⟩=some (.int .u64 (x.m.list:Int)) ∧
  w.cell? ⟨(ad.add (k * 8)).block,(ad.add (k * 8)).off+5,none⟩=some (.string (str x.m.text))∧w.cell? ⟨(ad.add (k * 8)).block,(ad.add (k * 8)).off+6,none⟩=some (.float .f64 x.m.f)∧w.cell? ⟨(ad.add (k * 8)).block,(ad.add (k * 8)).off+7,none⟩=some (.bool x.m.flag):=by
 have hx:xs[k]?=some xs[k]:=List.getElem?_eq_getElem hk
 obtain⟨ad,e,_,hc⟩:=h (fun q=>by have:=ma xs;rw [q] at this;simp at this;omega)
 have c:∀ j u,j<8→(encI xs[k])[j]?=some u→w.cell? ((ad.add (k * 8)).add j)=some u:=fun j u hj hu=>by
  rw [addr_add]
  exact hc _ _ ((iB (f:=encI) (size:=8) (fun l _=>sw l) hx hj).trans hu)
 exact⟨ad,xs[k],e,hx,c 0 _ (by omega) rfl,c 1 _ (by omega) rfl,c 2 _ (by omega) rfl,c 3 _ (by omega) rfl,c 4 _ (by omega) rfl,c 5 _ (by omega) rfl,c 6 _ (by omega) rfl,c 7 _ (by omega) rfl⟩
end
theorem mV {w:World} {a b c d e f g h:Value} {t:TypeId} {u:World} (q:w.alloc (.cells #[a,b,c,d,e,f,g,h] t)=u):u.heap[w.heap.size]?=some (.cells #[a,b,c,d,e,f,g,h] t (0,0))∧Below w.heap.size w u∧u.heap.size=w.heap.size+1:=by
 subst q
 exact⟨heap_alloc_new w _,(Below.refl _ w).alloc (Nat.le_refl _) _,by simp⟩
theorem kr {w:World} {p:Nat} {t:TypeId} {a b c d e f g h:Value} {fr:Nat × Nat} (q:w.heap[p]?=some (.cells #[a,b,c,d,e,f,g,h] t fr)):w.cell? ⟨p,0,none⟩=some a∧w.cell? ⟨p,1,none⟩=some b∧w.cell? ⟨p,2,none⟩=some c∧w.cell? ⟨p,3,none⟩=some d∧w.cell? ⟨p,4,none⟩=some e∧w.cell? ⟨p,5,none⟩=some f∧w.cell? ⟨p,6,none⟩=some g∧w.cell? ⟨p,7,none⟩=some h:=by
 simp [World.cell?,q]
variable {H : Type} {enc : TypeId × Value → H} {w : World} {base : Nat}
theorem Tryz.eight14:prog.cellsOf 67=8:=by kernel_rfl
theorem Tryz.six14:prog.cellsOf 65=6:=by kernel_rfl
theorem xY {fuel:Nat} {cs:List Value} {x:DataW H × List MemPlace} (h:DataW.trod enc prog w 0 (fun _=>true) true fuel 65 cs=some x) :
  ∃ m:T9.Mu,cs=encMu m∧m.ok:=by
 obtain⟨xs,n,_,_,hlen,hxl,hf⟩:=DataW.trod_struct underlying65 h
 rw [Tryz.six14] at hlen
 match cs,hlen with
 | [c0,c1,c2,c3,c4,c5],_ =>
  match xs,hxl with
  | [y0,y1,y2,y3,y4,y5],_ =>
   have h0:DataW.trod enc prog w 0 (fun _=>true) true n 3 (([c0,c1,c2,c3,c4,c5].drop 0).take (prog.cellsOf 3))=some y0:=hf 0 _ rfl
   rw [Tryz.one11i] at h0
   have h1:DataW.trod enc prog w 0 (fun _=>true) true n 44 (([c0,c1,c2,c3,c4,c5].drop 1).take (prog.cellsOf 44))=some y1:=hf 1 _ rfl
   rw [Tryz.one9u] at h1
   have h2:DataW.trod enc prog w 0 (fun _=>true) true n 44 (([c0,c1,c2,c3,c4,c5].drop 2).take (prog.cellsOf 44))=some y2:=hf 2 _ rfl
   rw [Tryz.one9u] at h2
   have h3:DataW.trod enc prog w 0 (fun _=>true) true n 9 (([c0,c1,c2,c3,c4,c5].drop 3).take (prog.cellsOf 9))=some y3:=hf 3 _ rfl
   rw [Tryz.one9s] at h3
   have h4:DataW.trod enc prog w 0 (fun _=>true) true n 63 (([c0,c1,c2,c3,c4,c5].drop 4).take (prog.cellsOf 63))=some y4:=hf 4 _ rfl
   rw [Tryz.one9f] at h4
   have h5:DataW.trod enc prog w 0 (fun _=>true) true n 4 (([c0,c1,c2,c3,c4,c5].drop 5).take (prog.cellsOf 4))=some y5:=hf 5 _ rfl
   rw [Tryz.one9b] at h5
   obtain⟨k0,e0,_,_⟩:=DataW.trod_int underlying3 (h0:DataW.trod enc prog w 0 (fun _=>true) true n 3 [c0]=some y0)
   have g0:c0=_:=List.head_eq_of_cons_eq e0
   subst g0
   obtain⟨k1,e1,_,w1⟩:=DataW.trod_int underlying44 (h1:DataW.trod enc prog w 0 (fun _=>true) true n 44 [c1]=some y1)
   have g1:c1=_:=List.head_eq_of_cons_eq e1
   obtain⟨i1,q1⟩:=Int.eq_ofNat_of_zero_le (wf_u64 w1).1
   have b1:=(wf_u64 w1).2
   subst g1;subst q1
   obtain⟨k2,e2,_,w2⟩:=DataW.trod_int underlying44 (h2:DataW.trod enc prog w 0 (fun _=>true) true n 44 [c2]=some y2)
   have g2:c2=_:=List.head_eq_of_cons_eq e2
   obtain⟨i2,q2⟩:=Int.eq_ofNat_of_zero_le (wf_u64 w2).1
   have b2:=(wf_u64 w2).2
   subst g2;subst q2
   obtain⟨sb,e3,_,_⟩:=DataW.trod_string underlying9 (h3:DataW.trod enc prog w 0 (fun _=>true) true n 9 [c3]=some y3)
   have g3:c3=.string (str sb.data.toList):=(List.head_eq_of_cons_eq e3).trans (by rw [m_])
   subst g3
   obtain⟨i4,e4,_,w4⟩:=mJ underlying63 (h4:DataW.trod enc prog w 0 (fun _=>true) true n 63 [c4]=some y4)
   have g4:c4=_:=List.head_eq_of_cons_eq e4
   have b4:=Js w4
   subst g4
   obtain⟨i5,e5,_⟩:=DataW.trod_bool underlying4 (h5:DataW.trod enc prog w 0 (fun _=>true) true n 4 [c5]=some y5)
   have g5:c5=_:=List.head_eq_of_cons_eq e5
   subst g5
   exact⟨⟨k0,i1,i2,sb.data.toList,i4,i5⟩,rfl,by show i1<_;omega,by show i2<_;omega,b4⟩
theorem ww {fuel:Nat} {cs:List Value} {x:DataW H × List MemPlace} (h:DataW.trod enc prog w 0 (fun _=>true) true fuel 67 cs=some x) :
  ∃ q:It,cs=encI q∧q.ok∧q.who<18446744073709551616∧q.id<18446744073709551616:=by
 obtain⟨xs,n,_,_,hlen,hxl,hf⟩:=DataW.trod_struct underlying67 h
 rw [Tryz.eight14] at hlen
 match cs,hlen with
 | [c0,c1,c2,c3,c4,c5,c6,c7],_ =>
  match xs,hxl with
  | [y0,y1,y2],_ =>
   have h0:DataW.trod enc prog w 0 (fun _=>true) true n 44 (([c0,c1,c2,c3,c4,c5,c6,c7].drop 0).take (prog.cellsOf 44))=some y0:=hf 0 _ rfl
   rw [Tryz.one9u] at h0
   have h1:DataW.trod enc prog w 0 (fun _=>true) true n 44 (([c0,c1,c2,c3,c4,c5,c6,c7].drop 1).take (prog.cellsOf 44))=some y1:=hf 1 _ rfl
   rw [Tryz.one9u] at h1
   have h2:DataW.trod enc prog w 0 (fun _=>true) true n 65 (([c0,c1,c2,c3,c4,c5,c6,c7].drop 2).take (prog.cellsOf 65))=some y2:=hf 2 _ rfl
   rw [Tryz.six14] at h2
   obtain⟨k0,e0,_,w0⟩:=DataW.trod_int underlying44 (h0:DataW.trod enc prog w 0 (fun _=>true) true n 44 [c0]=some y0)
   have g0:c0=_:=List.head_eq_of_cons_eq e0
   obtain⟨i0,q0⟩:=Int.eq_ofNat_of_zero_le (wf_u64 w0).1
   have b0:=(wf_u64 w0).2
   subst g0;subst q0
   obtain⟨k1,e1,_,w1⟩:=DataW.trod_int underlying44 (h1:DataW.trod enc prog w 0 (fun _=>true) true n 44 [c1]=some y1)
   have g1:c1=_:=List.head_eq_of_cons_eq e1
   obtain⟨i1,q1⟩:=Int.eq_ofNat_of_zero_le (wf_u64 w1).1
   have b1:=(wf_u64 w1).2
   subst g1;subst q1
   obtain⟨m,e2,hm⟩:=xY (show DataW.trod enc prog w 0 (fun _=>true) true n 65 [c2,c3,c4,c5,c6,c7]=some y2 from h2)
   refine⟨⟨i0,i1,m⟩,?_,hm,by show i0<_;omega,by show i1<_;omega⟩
   show _ :: _ :: _=_ :: _ :: encMu m
   rw [← e2]
theorem wZ {v:Value} {d:DataW H} {ps:List MemPlace} (hval:Value.okWide prog w .any base 26 v) (h:DataW.Trod enc prog w 0 (fun _=>true) true 26 v d ps) :
  ∃ (A:Option Addr) (c:Nat) (xs:List It),v=.slice A xs.length c∧xs.length≤c∧IL w A xs∧(∀ q∈xs,q.ok∧q.who<18446744073709551616∧q.id<18446744073709551616)∧c≤maxLen:=by
 obtain⟨a0,len0,cap0,rfl⟩:=okWide_slice underlying26 hval
 obtain⟨fuel,hf⟩:=h
 rcases open_slice underlying26 hf with⟨hcs,_⟩ | ⟨a,len,cap,m,n,D,Pl,hcs,_,hl,hm,hmm,_,hi⟩
 ·simp [Value.cells] at hcs
  obtain⟨rfl,rfl,rfl⟩:=hcs
  exact⟨none,0,[],rfl,Nat.le_refl _,IL.nil,by simp,Nat.zero_le _⟩
 ·simp [Value.cells] at hcs
  obtain⟨rfl,rfl,rfl⟩:=hcs
  simp only [if_true] at hmm
  subst hmm
  rw [Tryz.eight14] at hi
  obtain⟨ls,h1,h2,h3⟩:=lq (w:=w) (E:=encI) (k:=8) (by omega) (fun x=>sw x) (p:=fun q=>q.ok∧q.who<18446744073709551616∧q.id<18446744073709551616) (a:=a) (len:=len0) (fun i hlt=>by
   obtain⟨cs',hc,ht⟩:=hi i (by omega)
   obtain⟨q,rfl,hok⟩:=ww ht
   obtain⟨_,hcl,hat⟩:=World.cells?_some hc
   refine⟨q,fun j u hu=>?_,hok⟩
   have hj:j<8:=by
    rcases Nat.lt_or_ge j (encI q).length with z | z
    ·exact z
    ·rw [List.getElem?_eq_none z] at hu;cases hu
   have:=hat j hj
   rw [addr_add] at this
   rw [this];exact hu)
  exact⟨some a,m,ls,by rw [h1],by omega,h2,h3,hm⟩
theorem pu {v:Value} {d:DataW H} {ps:List MemPlace} (hval:Value.okWide prog w .any base 26 v) (h:DataW.Trod enc prog w 0 (fun _=>true) true 26 v d ps) :
  ∃ (A:Option Addr) (c:Nat) (xs:List It),v=.slice A xs.length c∧xs.length≤c∧IL w A xs∧(∀ q∈xs,q.ok)∧c≤maxLen:=by
 obtain⟨A,c,xs,h1,h2,h3,h4,h5⟩:=wZ hval h
 exact⟨A,c,xs,h1,h2,h3,fun q hq=>(h4 q hq).1,h5⟩
end
end
end Go.Proofs.YtcedlgedmkghgaaGreat
