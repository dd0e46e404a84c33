import Derived.Test.YtcedlgedmkghgaaGreatZ14
import Derived.Test.YtcedlgedmkghgaaGreatZ29
import Derived.Test.YtcedlgedmkghgaaGreatZ19
import Derived.Deep.QuietTactic
import Derived.Deep.RegionHeld3
namespace Go.Proofs.YtcedlgedmkghgaaGreat
set_option maxHeartbeats 16000000
open Go.Lib Go.Proofs.Tryz
set_option linter.unusedSimpArgs false
set_option maxRecDepth 100000
section
section
open Go.RowKit Go.Lib
structure KS (w:World) (B g n c:Nat) (ms:List aL):Prop where
 row:w.ownsRow B 74 7 (.slice (some ⟨g,0,none⟩) n c) n (ai ms)
 tags:bI w B ms
theorem I_ {α:Type} {l:List α} {i:Nat} {x:α} (h:l[i]?=some x):l.set i x=l:=by
 obtain⟨hi,rfl⟩:=List.getElem?_eq_some_iff.1 h
 exact List.set_getElem_self hi
theorem bI.same {w:World} {B:Nat} {ms ns:List aL} (e:ns.map (fun m=>(m.A,m.c,m.t.tags))=ms.map fun m=>(m.A,m.c,m.t.tags)) (h:bI w B ms):bI w B ns:=by
 have hl:ns.length=ms.length:=by have:=congrArg List.length e;simpa using this
 have at_:∀ i (h1:i<ns.length) (h2:i<ms.length),ns[i].A=ms[i].A∧ns[i].c=ms[i].c∧ns[i].t.tags=ms[i].t.tags:=fun i h1 h2=>by
  have q:=congrArg (fun l=>l[i]?) e
  simp only [List.getElem?_map,List.getElem?_eq_getElem h1,List.getElem?_eq_getElem h2,Option.map_some,Option.some.injEq,Prod.mk.injEq] at q
  exact q
 refine⟨fun m hm=>?_,List.pairwise_iff_getElem.2 fun i j hi hj hij=>?_⟩
 ·obtain⟨i,hi,rfl⟩:=List.mem_iff_getElem.1 hm
  obtain⟨a,b,d⟩:=at_ i hi (by omega)
  have:=h.1 ms[i] (List.getElem_mem _)
  rw [a,b,d]
  exact this
 ·obtain⟨a,b,_⟩:=at_ i hi (by omega)
  obtain⟨a',b',_⟩:=at_ j hj (by omega)
  have:=List.pairwise_iff_getElem.1 h.2 i j (by omega) (by omega) hij
  unfold aL.blk at this ⊢
  rw [a,b,a',b']
  exact this
theorem KS.len {w:World} {B g n c:Nat} {ms:List aL} (h:KS w B g n c ms):ms.length=n:=by
 have q:=h.row.1
 rw [aQ] at q
 omega
theorem KS.cell {w:World} {B g n c i:Nat} {ms:List aL} {x:aL} (h:KS w B g n c ms) (hx:ms[i]?=some x) (j:Nat) (v:Value) (hv:(az x)[j]?=some v):w.cell? ⟨g,i * 7+j,none⟩=some v:=by
 have hj:j<7:=by
  rcases Nat.lt_or_ge j (az x).length with q | q
  ·rw [aU] at q;exact q
  ·rw [List.getElem?_eq_none q] at hv;cases hv
 exact cZ h.row ((iB (f:=az) (size:=7) (fun x _=>aU x) hx hj).trans hv)
theorem KS.free {w:World} {B g n c:Nat} {ms:List aL} (h:KS w B g n c ms) (j:Nat):w.frozen? ⟨g,j,none⟩=false:=h.row.frozenAt (g:=g) j
theorem KS.lt {w:World} {B g n c:Nat} {ms:List aL} (h:KS w B g n c ms):B≤g∧g<w.heap.size:=h.row.lt g rfl
theorem KS.stay {w w':World} {B g n c:Nat} {ms:List aL} (h:KS w B g n c ms) (hb:Below w.heap.size w w'):KS w' B g n c ms:=⟨own_below h.row hb,h.tags.bH (aN.of_below hb (Nat.le_refl _) []) (by simp)⟩
theorem KS.ty {w:World} {B g n c:Nat} {ms:List aL} (h:KS w B g n c ms):Ty w g 74:=by
 obtain⟨cur,_,hb,_⟩:=eZ h.row
 exact⟨_,_,hb⟩
theorem KS.put {w:World} {B g n c i j:Nat} {ms:List aL} {x x':aL} {v:Value} (h:KS w B g n c ms) (hx:ms[i]?=some x) (hj:j<7) (he:az x'=(az x).set j v) (hA:x'.A=x.A) (hc:x'.c=x.c) (ht:x'.t.tags=x.t.tags) :
  KS (w.setCell ⟨g,i * 7+j,none⟩ v) B g n c (ms.set i x')∧aN B [74,9] w (w.setCell ⟨g,i * 7+j,none⟩ v):=by
 have hi:=(List.getElem?_eq_some_iff.1 hx).1
 have T:aN B [74] w (w.setCell ⟨g,i * 7+j,none⟩ v):=(aN.refl _ _ w).aC (p:=⟨g,i * 7+j,none⟩) h.ty (by simp) h.lt.1 v
 refine⟨⟨?_,?_⟩,T.more (by simp)⟩
 ·rw [← gD hx hj he]
  exact aV (vs:=[v]) h.row (by rw [aQ];simp;omega)
 ·have q:=h.tags.bH T (by decide)
  have e:(ms.set i x').map (fun m=>(m.A,m.c,m.t.tags))=ms.map fun m=>(m.A,m.c,m.t.tags):=by
   rw [List.map_set,hA,hc,ht]
   exact I_ (by rw [List.getElem?_map,hx];rfl)
  exact bI.same e q
theorem bI.put {w w':World} {B i:Nat} {ms:List aL} {x x':aL} (h:bI w B ms) (hx:ms[i]?=some x) (hg:w.grownBy w' (nG x.A x.c)) (ho:dX w' B 9 1 x'.A x'.t.tags.length x'.c (aB x'.t.tags)) (hb:nG x'.A x'.c=nG x.A x.c∨∃ g,nG x'.A x'.c=some g∧w.heap.size≤g):bI w' B (ms.set i x'):=by
 obtain⟨hi,ex⟩:=List.getElem?_eq_some_iff.1 hx
 have other:∀ j (hj:j<ms.length),j≠i→∀ g,ms[j].blk=some g→nG x.A x.c≠some g:=fun j hj hne g hg' e=>by
  rcases Nat.lt_or_gt_of_ne hne with q | q
  ·have:=List.pairwise_iff_getElem.1 h.2 j i hj hi q g hg'
   rw [ex] at this
   exact this e
  ·have:=List.pairwise_iff_getElem.1 h.2 i j hi hj q g (by rw [ex];exact e)
   exact this hg'
 have apart:∀ j (hj:j<ms.length),j≠i→∀ g,ms[j].blk=some g→nG x'.A x'.c≠some g:=fun j hj hne g hg' e=>by
  rcases hb with q | ⟨k,q,hk⟩
  ·rw [q] at e
   exact other j hj hne g hg' e
  ·rw [q] at e
   injection e with e
   have:=((h.1 ms[j] (List.getElem_mem _)).rR hg').2
   omega
 refine⟨fun m hm=>?_,List.pairwise_iff_getElem.2 fun j k hj hk hjk g e1 e2=>?_⟩
 ·obtain⟨j,hj,rfl⟩:=List.mem_iff_getElem.1 hm
  rw [List.length_set] at hj
  rw [List.getElem_set]
  split
  ·exact ho
  ·rename_i hne
   have o:=h.1 ms[j] (List.getElem_mem _)
   rcases o.parts with q | ⟨g,e,c0,q⟩
   ·exact .inl q
   ·refine .inr ⟨g,e,dz q fun k hk=>?_⟩
    rw [show (Value.slice (some (⟨g,0,none⟩:Addr)) ms[j].t.tags.length ms[j].c).ownBlock=some g from rfl] at hk
    injection hk with hk
    subst hk
    have hb':ms[j].blk=some g:=by unfold aL.blk;rw [if_neg (by omega),e];rfl
    exact hg.block g (o.rR hb').2 (fun z=>other j hj (fun q=>hne q.symm) g hb' z.symm)
 ·rw [List.length_set] at hj hk
  rw [List.getElem_set] at e1 e2
  by_cases a:i=j
  ·rw [if_pos a] at e1
   rw [if_neg (by omega)] at e2
   exact apart k hk (by omega) g e2 e1
  ·rw [if_neg a] at e1
   by_cases b:i=k
   ·rw [if_pos b] at e2
    exact apart j hj (by omega) g e1 e2
   ·rw [if_neg b] at e2
    exact List.pairwise_iff_getElem.1 h.2 j k hj hk hjk g e1 e2
namespace T9
theorem oO {l:List (List UInt8)} {x:List UInt8}:(l.filter fun y=>!decide (y=x)).length<l.length↔qm l x=true:=by
 rw [List.length_filter_lt_length_iff_exists]
 unfold qm
 rw [List.any_eq_true]
 simp
theorem fil_not {l:List (List UInt8)} {x:List UInt8} (h:qm l x=false):(l.filter fun y=>!decide (y=x))=l:=by
 rw [List.filter_eq_self]
 intro y hy
 unfold qm at h
 rw [List.any_eq_false] at h
 simpa using h y hy
theorem fil_at {l:List (List UInt8)} {x:List UInt8} (hu:Sr.Str dL l) (h:qm l x=true):(l.filter fun y=>!decide (y=x))=l.take (nK l x)++l.drop (nK l x+1):=by
 obtain⟨y,hy,rfl⟩:=(wP hu).1 h
 obtain⟨hp,ey⟩:=List.getElem?_eq_some_iff.1 hy
 conv=>lhs;rw [← List.take_append_drop (nK l y) l]
 rw [List.filter_append,List.drop_eq_getElem_cons hp,ey,List.filter_cons,if_neg (by simp)]
 congr 1
 ·rw [List.filter_eq_self]
  intro z hz
  obtain⟨i,hi,rfl⟩:=List.mem_iff_getElem.1 hz
  rw [List.length_take] at hi
  have:=List.pairwise_iff_getElem.1 hu i (nK l y) (by omega) hp (by omega)
  rw [List.getElem_take]
  rw [ey] at this
  have ne:l[i]≠y:=fun e=>by rw [e,JH.irr] at this;cases this
  simp [ne]
 ·rw [List.filter_eq_self]
  intro z hz
  obtain⟨i,hi,rfl⟩:=List.mem_iff_getElem.1 hz
  rw [List.length_drop] at hi
  have:=List.pairwise_iff_getElem.1 hu (nK l y) (nK l y+1+i) hp (by omega) (by omega)
  rw [List.getElem_drop]
  rw [ey] at this
  have ne:l[nK l y+1+i]≠y:=fun e=>by rw [e,JH.irr] at this;cases this
  simp [ne]
theorem ins_at {l:List (List UInt8)} {x:List UInt8} (h:qm l x=false):Sr.ins dL x l=l.take (nK l x)++x :: l.drop (nK l x):=by
 refine Sr.rC fun y hy=>?_
 unfold qm at h
 rw [List.any_eq_false] at h
 have ne:=h y hy
 simp only [decide_eq_true_eq] at ne
 cases q:dL y x with
 | true=>exact .inl rfl
 | false =>
  right
  cases r:dL x y with
  | true=>rfl
  | false =>
   refine absurd ?_ ne
   unfold dL at q r
   rw [decide_eq_false_iff_not] at q r
   exact List.le_antisymm (List.not_lt.1 r) (List.not_lt.1 q)
end T9
def xN (r:Int × T9.Tk) (B g n c:Nat) (ms:List aL) (i:Nat) (w:World) (e:Ending) (w':World):Prop :=
 aN B [74,9] w w'∧(r.1=0→∃ x',e=.returned (.tuple #[])∧x'.t=r.2∧KS w' B g n c (ms.set i x'))∧(r.1≠0→e=.panicked [{ v:=.iface 50 (.int .i64 r.1),recovered:=false }])
theorem chT4_c {u:T9.Mu} {B g n c i:Nat} {ms:List aL} {x:aL} {w:World} (h:KS w B g n c ms) (hx:ms[i]?=some x) (hB:B≤w.heap.size) :
  Calls prog 209 #[.pointer (some ⟨g,i * 7,none⟩),.agg #[.int .i64 4,.int .u64 (u.id:Int),.int .u64 (u.list:Int),.string (str u.text),.float .f64 u.f,.bool u.flag]] w (xN (0,{ x.t with title:=u.text }) B g n c ms i w):=by
 obtain⟨w1,hw1⟩:∃ v,w.alloc (.cells #[.int .i64 4,.int .u64 (u.id:Int),.int .u64 (u.list:Int),.string (str u.text),.float .f64 u.f,.bool u.flag] 65)=v:=⟨_,rfl⟩
 obtain⟨pb,b1,z1⟩:=bu hw1
 obtain⟨p0,p1,p2,p3,p4,p5⟩:=ag pb
 have K1:=hid (h.stay b1)
 have B1:=hid b1
 have X:=hid hx
 have q:=K1.out.cell hx 2 _ rfl
 have f:=K1.out.free (i * 7+2)
 clear h hx pb b1 z1
 go_enter func209,ntmps209
 go_wp2_with fail
 go_end0
 obtain⟨k1,t1⟩:=K1.out.put (j:=2) (x':=⟨{ x.t with title:=u.text },x.A,x.c⟩) (v:=.string (str u.text)) X.out (by decide) rfl rfl rfl rfl
 exact⟨(aN.of_below B1.out hB _).trans t1,fun _=>⟨_,rfl,rfl,k1⟩,fun z=>absurd rfl z⟩
theorem chT5_c {u:T9.Mu} {B g n c i:Nat} {ms:List aL} {x:aL} {w:World} (h:KS w B g n c ms) (hx:ms[i]?=some x) (hB:B≤w.heap.size) :
  Calls prog 209 #[.pointer (some ⟨g,i * 7,none⟩),.agg #[.int .i64 5,.int .u64 (u.id:Int),.int .u64 (u.list:Int),.string (str u.text),.float .f64 u.f,.bool u.flag]] w (xN (0,{ x.t with done:=u.flag }) B g n c ms i w):=by
 obtain⟨w1,hw1⟩:∃ v,w.alloc (.cells #[.int .i64 5,.int .u64 (u.id:Int),.int .u64 (u.list:Int),.string (str u.text),.float .f64 u.f,.bool u.flag] 65)=v:=⟨_,rfl⟩
 obtain⟨pb,b1,z1⟩:=bu hw1
 obtain⟨p0,p1,p2,p3,p4,p5⟩:=ag pb
 have K1:=hid (h.stay b1)
 have B1:=hid b1
 have X:=hid hx
 have q:=K1.out.cell hx 3 _ rfl
 have f:=K1.out.free (i * 7+3)
 clear h hx pb b1 z1
 go_enter func209,ntmps209
 go_wp2_with fail
 go_end0
 obtain⟨k1,t1⟩:=K1.out.put (j:=3) (x':=⟨{ x.t with done:=u.flag },x.A,x.c⟩) (v:=.bool u.flag) X.out (by decide) rfl rfl rfl rfl
 exact⟨(aN.of_below B1.out hB _).trans t1,fun _=>⟨_,rfl,rfl,k1⟩,fun z=>absurd rfl z⟩
theorem chT7_c {u:T9.Mu} {B g n c i:Nat} {ms:List aL} {x:aL} {w:World} (h:KS w B g n c ms) (hx:ms[i]?=some x) (hB:B≤w.heap.size) :
  Calls prog 209 #[.pointer (some ⟨g,i * 7,none⟩),.agg #[.int .i64 7,.int .u64 (u.id:Int),.int .u64 (u.list:Int),.string (str u.text),.float .f64 u.f,.bool u.flag]] w (xN (0,{ x.t with rank:=u.f }) B g n c ms i w):=by
 obtain⟨w1,hw1⟩:∃ v,w.alloc (.cells #[.int .i64 7,.int .u64 (u.id:Int),.int .u64 (u.list:Int),.string (str u.text),.float .f64 u.f,.bool u.flag] 65)=v:=⟨_,rfl⟩
 obtain⟨pb,b1,z1⟩:=bu hw1
 obtain⟨p0,p1,p2,p3,p4,p5⟩:=ag pb
 have K1:=hid (h.stay b1)
 have B1:=hid b1
 have X:=hid hx
 have q:=K1.out.cell hx 4 _ rfl
 have f:=K1.out.free (i * 7+4)
 clear h hx pb b1 z1
 go_enter func209,ntmps209
 go_wp2_with fail
 go_end0
 obtain⟨k1,t1⟩:=K1.out.put (j:=4) (x':=⟨{ x.t with rank:=u.f },x.A,x.c⟩) (v:=.float .f64 u.f) X.out (by decide) rfl rfl rfl rfl
 exact⟨(aN.of_below B1.out hB _).trans t1,fun _=>⟨_,rfl,rfl,k1⟩,fun z=>absurd rfl z⟩
theorem chT8_c {u:T9.Mu} {B g n c i:Nat} {ms:List aL} {x:aL} {w:World} (h:KS w B g n c ms) (hx:ms[i]?=some x) (hB:B≤w.heap.size) :
  Calls prog 209 #[.pointer (some ⟨g,i * 7,none⟩),.agg #[.int .i64 8,.int .u64 (u.id:Int),.int .u64 (u.list:Int),.string (str u.text),.float .f64 u.f,.bool u.flag]] w (xN (0,{ x.t with est:=u.f }) B g n c ms i w):=by
 obtain⟨w1,hw1⟩:∃ v,w.alloc (.cells #[.int .i64 8,.int .u64 (u.id:Int),.int .u64 (u.list:Int),.string (str u.text),.float .f64 u.f,.bool u.flag] 65)=v:=⟨_,rfl⟩
 obtain⟨pb,b1,z1⟩:=bu hw1
 obtain⟨p0,p1,p2,p3,p4,p5⟩:=ag pb
 have K1:=hid (h.stay b1)
 have B1:=hid b1
 have X:=hid hx
 have q:=K1.out.cell hx 5 _ rfl
 have f:=K1.out.free (i * 7+5)
 clear h hx pb b1 z1
 go_enter func209,ntmps209
 go_wp2_with fail
 go_end0
 obtain⟨k1,t1⟩:=K1.out.put (j:=5) (x':=⟨{ x.t with est:=u.f },x.A,x.c⟩) (v:=.float .f64 u.f) X.out (by decide) rfl rfl rfl rfl
 exact⟨(aN.of_below B1.out hB _).trans t1,fun _=>⟨_,rfl,rfl,k1⟩,fun z=>absurd rfl z⟩
end
section
open Go.RowKit Go.Lib
theorem wX:prog.follows .mixedOrders=true:=by kernel_rfl
theorem dX.mH {w w':World} {B:Nat} {t:TypeId} {k n c:Nat} {A:Option Addr} {xs:List Value} (h:dX w B t k A n c xs) (hg:w.grownBy w' (nG A c)) (hB:B≤w.heap.size):aN B [t] w w':=by
 rcases h.parts with⟨_,q⟩ | ⟨g,rfl,c0,q⟩
 ·rw [show nG A c=none by unfold nG;rw [if_pos q]] at hg
  exact aN.of_below ⟨hg.os,hg.tape,hg.output,hg.size,fun k hk=>hg.block k hk (by simp)⟩ hB _
 ·rw [aZ c0] at hg
  exact dP (B:=B) q hg (Nat.le_refl _) hB (by simp)
theorem tT {w:World} {B g n c i:Nat} {ms:List aL} {x:aL} (h:w.ownsRow B 74 7 (.slice (some ⟨g,0,none⟩) n c) n (ai ms)) (hx:ms[i]?=some x) (j:Nat) (v:Value) (hv:(az x)[j]?=some v):w.cell? ⟨g,i * 7+j,none⟩=some v:=by
 have hj:j<7:=by
  rcases Nat.lt_or_ge j (az x).length with q | q
  ·rw [aU] at q;exact q
  ·rw [List.getElem?_eq_none q] at hv;cases hv
 exact cZ h ((iB (f:=az) (size:=7) (fun x _=>aU x) hx hj).trans hv)
theorem DV {l:List (List UInt8)} {p:Nat} {x:List UInt8}:(aB l).take p++[encS x]++(aB l).drop p=aB (l.take p++x :: l.drop p):=by
 simp [aB,List.map_take,List.map_drop]
theorem AO {l:List (List UInt8)} {p:Nat}:(aB l).take p++(aB l).drop (p+1)=aB (l.take p++l.drop (p+1)):=by
 simp [aB,List.map_take,List.map_drop]
theorem chT9_c {u:T9.Mu} {B g n c i:Nat} {ms:List aL} {x:aL} {w:World} (h:KS w B g n c ms) (hx:ms[i]?=some x) (hB:B≤w.heap.size) (hu:Sr.Str T9.dL x.t.tags) (hl:x.t.tags.length≤100) :
  Calls prog 209 #[.pointer (some ⟨g,i * 7,none⟩),.agg #[.int .i64 9,.int .u64 (u.id:Int),.int .u64 (u.list:Int),.string (str u.text),.float .f64 u.f,.bool u.flag]] w (xN ((T9.dW x.t.tags ⟨9,u.id,u.list,u.text,u.f,u.flag⟩).1,{ x.t with tags:=(T9.dW x.t.tags ⟨9,u.id,u.list,u.text,u.f,u.flag⟩).2 }) B g n c ms i w):=by
 obtain⟨w1,hw1⟩:∃ v,w.alloc (.cells #[.int .i64 9,.int .u64 (u.id:Int),.int .u64 (u.list:Int),.string (str u.text),.float .f64 u.f,.bool u.flag] 65)=v:=⟨_,rfl⟩
 obtain⟨pb,b1,z1⟩:=bu hw1
 obtain⟨p0,p1,p2,p3,p4,p5⟩:=ag pb
 have PB:=hid pb
 have K1:=hid (h.stay b1)
 have B1:=hid b1
 have X:=hid hx
 have HU:=hid hu
 have q:=K1.out.cell hx 6 _ rfl
 have f:=K1.out.free (i * 7+6)
 have XT:Hid (dX w1 B 9 1 x.A x.t.tags.length x.c (aB x.t.tags)):=hid (K1.out.tags.1 x (List.mem_of_getElem? hx))
 have XG:Hid (GL w1 x.A x.t.tags):=hid (XT.out.lies (by rw [dC,Nat.mul_one])).old
 have SC:=hid (vD (c:=x.c) (x:=u.text) (w:=w1.drew) XG.out rfl (by omega) hu)
 obtain⟨pp,fP⟩:∃ p,T9.nK x.t.tags u.text=p:=⟨_,rfl⟩
 obtain⟨hh,gK⟩:∃ b,T9.qm x.t.tags u.text=b:=⟨_,rfl⟩
 have HP:=hid fP
 have HH:=hid gK
 have PL:pp≤x.t.tags.length:=by rw [← fP];exact Sr.om
 rw [fP,gK] at SC
 have HB:=hid hB
 obtain⟨R,hR⟩:∃ r,T9.dW x.t.tags ⟨9,u.id,u.list,u.text,u.f,u.flag⟩=r:=⟨_,rfl⟩
 rw [hR]
 have HR:=hid hR
 clear h hx hu pb b1 z1 fP gK hR hB
 go_enter func209,ntmps209
 go_wp2_with fail
 refine wp_region_held_drew (S:=fun u=>u=w1.drew) (by kernel_rfl) (rfl) (fun S0=>?_)
 refine aK 0 ?_ rfl (by kernel_rfl) rfl ?_ S0 ?_
 rotate_left
 ·intro u hu;subst hu;go_simp;try rfl
 try simp only [Act.put,pS]
 refine aK 1 ?_ rfl (by kernel_rfl) rfl ?_ S0 ?_
 rotate_left
 ·intro u hu;subst hu;go_simp;try rfl
 try simp only [Act.put,pS]
 refine aK 2 ?_ rfl (by kernel_rfl) rfl ?_ S0 ?_
 rotate_left
 ·intro u hu;subst hu;go_simp;try rfl
 try simp only [Act.put,pS]
 refine aK 3 ?_ rfl (by kernel_rfl) rfl ?_ S0 ?_
 rotate_left
 ·intro u hu;subst hu;go_simp;try rfl
 try simp only [Act.put,pS]
 refine aK 4 ?_ rfl (by kernel_rfl) rfl ?_ S0 ?_
 rotate_left
 ·intro u hu;subst hu;go_simp;try rfl
 try simp only [Act.put,pS]
 refine aK 5 ?_ rfl (by kernel_rfl) rfl ?_ S0 ?_
 rotate_left
 ·intro u hu;subst hu;go_simp;try rfl
 try simp only [Act.put,pS]
 refine ax (i:=6) (by kernel_rfl) rfl (fun K hK=>?_)
 go_simp
 skip
 refine SC.out.mono ?_
 rintro e wa ⟨rfl,rfl⟩
 have S1:w1.drew=w1.drew:=rfl
 refine hK _ _ S1 ?_
 clear hK K S0
 have S0:=S1
 clear S1
 try simp only [Act.put,pS]
 refine aK 7 ?_ rfl (by kernel_rfl) rfl ?_ S0 ?_
 rotate_left
 ·intro u hu;subst hu;go_simp;try rfl
 try simp only [Act.put,pS]
 refine aK 8 ?_ rfl (by kernel_rfl) rfl ?_ S0 ?_
 rotate_left
 ·intro u hu;subst hu;go_simp;try rfl
 try simp only [Act.put,pS]
 refine aK 9 ?_ rfl (by kernel_rfl) rfl ?_ S0 ?_
 rotate_left
 ·intro u hu;subst hu;go_simp;try rfl
 try simp only [Act.put,pS]
 refine aK 10 ?_ rfl (by kernel_rfl) rfl ?_ S0 ?_
 rotate_left
 ·intro u hu;subst hu;go_simp;try rfl
 try simp only [Act.put,pS]
 refine aK 11 ?_ rfl (by kernel_rfl) rfl ?_ S0 ?_
 rotate_left
 ·intro u hu;subst hu;go_simp;try rfl
 try simp only [Act.put,pS]
 refine wpAnyH_done (by kernel_rfl) ?_ _
 clear S0
 cases hh with
 | true =>
  go_wp2_with (go_at_call 192;refine (eX _ _).mono ?_;rintro e w' ⟨rfl,rfl⟩)
  have e:R=(92,x.t.tags):=by
   rw [← HR.out];unfold T9.dW
   rw [if_neg (show ¬ ((9:Int)=10) by decide),if_pos (T9.oO.2 HH.out)]
  subst e
  exact⟨rfl,aN.of_below B1.out.drew HB.out _,(fun z=>by cases z),fun _=>rfl⟩
 | false =>
  by_cases h4:4≤x.t.tags.length
  ·have h4z:(4:Int)≤(x.t.tags.length:Int):=by omega
   have h4d:decide ((4:Int)≤(x.t.tags.length:Int))=true:=decide_eq_true h4z
   have h4n:decide (4≤x.t.tags.length)=true:=decide_eq_true h4
   go_wp2_with (first | (go_at_call 192;(with_reducible refine (fq 92 _).mono ?_);rintro e w' ⟨rfl,rfl⟩) | (go_at_call 192;refine (eX _ _).mono ?_;rintro e w' ⟨rfl,rfl⟩))
   have e:R=(95,x.t.tags):=by
    rw [← HR.out];unfold T9.dW
    rw [if_neg (show ¬ ((9:Int)=10) by decide),if_neg (by rw [T9.oO,HH.out];decide),if_pos h4]
   subst e
   exact⟨rfl,aN.of_below B1.out.drew HB.out _,(fun z=>by cases z),fun _=>rfl⟩
  ·have h4z:¬ ((4:Int)≤(x.t.tags.length:Int)):=by omega
   have h4d:decide ((4:Int)≤(x.t.tags.length:Int))=false:=decide_eq_false h4z
   have h4n:decide (4≤x.t.tags.length)=false:=decide_eq_false h4
   have ER:Hid (R=(0,x.t.tags.take pp++u.text :: x.t.tags.drop pp)):=hid (by
    rw [← HR.out];unfold T9.dW
    rw [if_neg (show ¬ ((9:Int)=10) by decide),if_neg (by rw [T9.oO,HH.out];decide),if_neg h4,T9.fil_not HH.out,Sr.f_,Sr.mM T9.JH HU.out,T9.ins_at HH.out,HP.out])
   obtain⟨w2,hw2⟩:∃ v,w1.drew.drew.alloc (.cells #[.string (str u.text)] 9)=v:=⟨_,rfl⟩
   have lb:w2.heap[w1.heap.size]?=some (.cells [encS u.text].toArray 9 (0,0)):=by rw [← hw2];exact heap_alloc_new w1.drew.drew _
   have b2:Below w1.heap.size w1 w2:=by rw [← hw2];exact ((Below.refl _ w1).drew.drew).alloc (Nat.le_refl _) _
   have LB:=hid lb
   have B2:=hid b2
   have K2:=hid (K1.out.stay b2)
   have XT2:=hid (XT.out.below b2)
   have LN:Hid ((x.t.tags.take pp++u.text :: x.t.tags.drop pp).length=x.t.tags.length+1):=hid (by rw [List.length_append,List.length_cons,List.length_take,List.length_drop];omega)
   have PT:Hid (∀ (A':Option Addr) (c':Nat) (w3:World),dX w3 B 9 1 A' (x.t.tags.length+1) c' ((aB x.t.tags).take pp++[encS u.text]++(aB x.t.tags).drop pp)→w2.grownBy w3 (nG x.A x.c)→(nG A' c'=nG x.A x.c∨∃ k,nG A' c'=some k∧w2.heap.size≤k)→bI w3 B (ms.set i ⟨{ x.t with tags:=x.t.tags.take pp++u.text :: x.t.tags.drop pp },A',c'⟩)):=hid fun A' c' w3 ho hg hb=>by
    refine K2.out.tags.put (x':=⟨{ x.t with tags:=x.t.tags.take pp++u.text :: x.t.tags.drop pp },A',c'⟩) X.out hg ?_ hb
    show dX w3 B _ 1 A' (x.t.tags.take pp++u.text :: x.t.tags.drop pp).length c' _
    rw [LN.out,← DV]
    exact ho
   have LN:Hid ((x.t.tags.take pp++u.text :: x.t.tags.drop pp).length=x.t.tags.length+1):=hid (by rw [List.length_append,List.length_cons,List.length_take,List.length_drop];omega)
   have NE:Hid (nG x.A x.c≠some w1.heap.size):=hid fun e=>by
    have:=(XT.out.rR (m:=x) e).2
    omega
   have IC:=hid (Ec (p:=pp) (gv:=w1.heap.size) XT2.out (by rw [dC,Nat.mul_one]) (eT _) LB.out rfl (by simp [encS];rfl) PL NE.out (by omega:x.t.tags.length≤1000) (Nat.le_trans (Nat.le_trans HB.out B1.out.size) B2.out.size))
   clear lb b2
   go_wp2_with (go_at_call 192;refine (fq _ _).mono ?_;rintro e w' ⟨rfl,rfl⟩)
   refine Any.begin (S:=fun v=>v.cell? ⟨g,i * 7+6,none⟩=some (.slice x.A x.t.tags.length x.c)∧v.cell? ⟨w.heap.size,3,none⟩=some (.string (str u.text))) (st:=12) wX ?_
   have S0:=(And.intro q p3:w1.drew.drew.cell? ⟨g,i * 7+6,none⟩=some (.slice x.A x.t.tags.length x.c)∧w1.drew.drew.cell? ⟨w.heap.size,3,none⟩=some (.string (str u.text)))
   refine pU 0 ?_ rfl (by kernel_rfl) rfl (by kernel_rfl) rfl ?_ S0 ?_
   rotate_left
   ·intro u hu;go_simp;try rfl
   try simp only [Act.put,pS]
   refine pU 1 ?_ rfl (by kernel_rfl) rfl (by kernel_rfl) rfl ?_ S0 ?_
   rotate_left
   ·intro u hu;go_simp;try rfl
   try simp only [Act.put,pS]
   refine pU 2 ?_ rfl (by kernel_rfl) rfl (by kernel_rfl) rfl ?_ S0 ?_
   rotate_left
   ·intro u hu;go_simp;try rfl
   try simp only [Act.put,pS]
   refine pU 3 ?_ rfl (by kernel_rfl) rfl (by kernel_rfl) rfl ?_ S0 ?_
   rotate_left
   ·intro u hu;go_simp;try rfl
   try simp only [Act.put,pS]
   refine pU 4 ?_ rfl (by kernel_rfl) rfl (by kernel_rfl) rfl ?_ S0 ?_
   rotate_left
   ·intro u hu;obtain⟨y0,y1⟩:=hu;go_simp;try rfl
   try simp only [Act.put,pS]
   refine pU 5 ?_ rfl (by kernel_rfl) rfl (by kernel_rfl) rfl ?_ S0 ?_
   rotate_left
   ·intro u hu;go_simp;try rfl
   try simp only [Act.put,pS]
   refine pU 6 ?_ rfl (by kernel_rfl) rfl (by kernel_rfl) rfl ?_ S0 ?_
   rotate_left
   ·intro u hu;go_simp;try rfl
   try simp only [Act.put,pS]
   refine pU 7 ?_ rfl (by kernel_rfl) rfl (by kernel_rfl) rfl ?_ S0 ?_
   rotate_left
   ·intro u hu;obtain⟨y0,y1⟩:=hu;go_simp;try rfl
   try simp only [Act.put,pS]
   refine Any.one (i:=8) (by kernel_rfl) rfl (fun K hK=>?_)
   go_simp
   have S1:w2.cell? ⟨g,i * 7+6,none⟩=some (.slice x.A x.t.tags.length x.c)∧w2.cell? ⟨w.heap.size,3,none⟩=some (.string (str u.text)):=⟨tT K2.out.row X.out 6 _ rfl,(ag (ae PB.out B2.out)).2.2.2.1⟩
   refine hK _ _ (fun _=>S1) ?_
   clear hK K S0
   have S0:=S1
   clear S1
   try simp only [Act.put,pS]
   refine Any.one (i:=9) (by kernel_rfl) rfl (fun K hK=>?_)
   go_simp
   refine IC.out.mono ?_
   rintro e w3 ⟨A',c',rfl,ho,hg,hb⟩
   have T3:=hid (XT2.out.mH hg (Nat.le_trans (Nat.le_trans HB.out B1.out.size) B2.out.size))
   have TG3:=hid (PT.out A' c' w3 ho hg hb)
   have R3:=hid (bP K2.out.row T3.out (by decide))
   have P3:=hid (T3.out.blk (ae PB.out B2.out) (by decide))
   have f3:w3.frozen? ⟨g,i * 7+6,none⟩=false:=R3.out.frozenAt (g:=g) _
   clear ho hg hb
   have S1:w3.cell? ⟨g,i * 7+6,none⟩=some (.slice x.A x.t.tags.length x.c)∧w3.cell? ⟨w.heap.size,3,none⟩=some (.string (str u.text)):=⟨tT R3.out X.out 6 _ rfl,(ag P3.out).2.2.2.1⟩
   refine hK _ _ (fun _=>S1) ?_
   clear hK K S0
   have S0:=S1
   clear S1
   try simp only [Act.put,pS]
   refine Any.one (i:=10) (by kernel_rfl) rfl (fun K hK=>?_)
   go_simp
   have S1:=S0
   refine hK _ _ (fun _=>S1) ?_
   clear hK K S0
   have S0:=S1
   clear S1
   try simp only [Act.put,pS]
   refine Any.one (i:=11) (by kernel_rfl) rfl (fun K hK=>?_)
   go_simp
   have S1:=S0
   refine hK _ _ (fun _=>S1) ?_
   clear hK K S0
   have S0:=S1
   clear S1
   try simp only [Act.put,pS]
   refine Any.one (i:=12) (by kernel_rfl) rfl (fun K hK=>?_)
   go_simp
   have y0:=S0.1
   go_simp
   refine hK _ _ (fun z=>absurd rfl z) ?_
   clear hK K S0
   try simp only [Act.put,pS]
   refine Any.done (by kernel_rfl) ?_
   go_wp2
   go_end0
   have T4:aN B [74] w3 (w3.setCell ⟨g,i * 7+6,none⟩ (.slice A' (x.t.tags.length+1) c')):=(aN.refl _ _ w3).aC (p:=⟨g,i * 7+6,none⟩) (by obtain⟨cur,_,hb,_⟩:=eZ R3.out;exact⟨_,_,hb⟩) (by simp) K1.out.lt.1 _
   refine⟨(aN.of_below (B1.out.trans (B2.out.mono B1.out.size)) HB.out _).trans ((T3.out.more (by simp)).trans (T4.more (by simp))),fun _=>⟨⟨{ x.t with tags:=x.t.tags.take pp++u.text :: x.t.tags.drop pp },A',c'⟩,rfl,by rw [ER.out],?_,TG3.out.bH T4 (by decide)⟩,fun z=>absurd (by rw [ER.out]) z⟩
   rw [← gD (v:=.slice A' (x.t.tags.length+1) c') X.out (by decide:6<7) (by simp [az,LN.out])]
   exact aV (vs:=[.slice A' (x.t.tags.length+1) c']) R3.out (by rw [aQ,K1.out.len];have:=(List.getElem?_eq_some_iff.1 X.out).1;have:=K1.out.len;simp;omega)
theorem chT10_c {u:T9.Mu} {B g n c i:Nat} {ms:List aL} {x:aL} {w:World} (h:KS w B g n c ms) (hx:ms[i]?=some x) (hB:B≤w.heap.size) (hu:Sr.Str T9.dL x.t.tags) (hl:x.t.tags.length≤100) :
  Calls prog 209 #[.pointer (some ⟨g,i * 7,none⟩),.agg #[.int .i64 10,.int .u64 (u.id:Int),.int .u64 (u.list:Int),.string (str u.text),.float .f64 u.f,.bool u.flag]] w (xN ((T9.dW x.t.tags ⟨10,u.id,u.list,u.text,u.f,u.flag⟩).1,{ x.t with tags:=(T9.dW x.t.tags ⟨10,u.id,u.list,u.text,u.f,u.flag⟩).2 }) B g n c ms i w):=by
 obtain⟨tk,A5,c5⟩:=x
 have hu:Sr.Str T9.dL tk.tags:=hu
 have hl:tk.tags.length≤100:=hl
 obtain⟨w1,hw1⟩:∃ v,w.alloc (.cells #[.int .i64 10,.int .u64 (u.id:Int),.int .u64 (u.list:Int),.string (str u.text),.float .f64 u.f,.bool u.flag] 65)=v:=⟨_,rfl⟩
 obtain⟨pb,b1,z1⟩:=bu hw1
 obtain⟨p0,p1,p2,p3,p4,p5⟩:=ag pb
 have K1:=hid (h.stay b1)
 have B1:=hid b1
 have X:=hid hx
 have HU:=hid hu
 have q:=K1.out.cell hx 6 _ rfl
 have f:=K1.out.free (i * 7+6)
 have XT:Hid (dX w1 B 9 1 A5 tk.tags.length c5 (aB tk.tags)):=hid (K1.out.tags.1 _ (List.mem_of_getElem? hx))
 have XG:Hid (GL w1 A5 tk.tags):=hid (XT.out.lies (by rw [dC,Nat.mul_one])).old
 have SC:=hid (vD (c:=c5) (x:=u.text) (w:=w1.drew) XG.out rfl (by omega) hu)
 obtain⟨pp,fP⟩:∃ p,T9.nK tk.tags u.text=p:=⟨_,rfl⟩
 obtain⟨hh,gK⟩:∃ b,T9.qm tk.tags u.text=b:=⟨_,rfl⟩
 have HP:=hid fP
 have HH:=hid gK
 rw [fP,gK] at SC
 have HB:=hid hB
 obtain⟨R,hR⟩:∃ r,T9.dW tk.tags ⟨10,u.id,u.list,u.text,u.f,u.flag⟩=r:=⟨_,rfl⟩
 show Calls prog 209 #[.pointer (some ⟨g,i * 7,none⟩),.agg #[.int .i64 10,.int .u64 (u.id:Int),.int .u64 (u.list:Int),.string (str u.text),.float .f64 u.f,.bool u.flag]] w (xN ((T9.dW tk.tags ⟨10,u.id,u.list,u.text,u.f,u.flag⟩).1,{ tk with tags:=(T9.dW tk.tags ⟨10,u.id,u.list,u.text,u.f,u.flag⟩).2 }) B g n c ms i w)
 rw [hR]
 have HR:=hid hR
 clear h hx hu pb b1 z1 fP gK hR hB
 cases hh with
 | false =>
  go_enter func209,ntmps209
  go_wp2_with fail
  refine wp_region_held_drew (S:=fun u=>u=w1.drew) (by kernel_rfl) (rfl) (fun S0=>?_)
  refine aK 0 ?_ rfl (by kernel_rfl) rfl ?_ S0 ?_
  rotate_left
  ·intro u hu;subst hu;go_simp;try rfl
  try simp only [Act.put,pS]
  refine aK 1 ?_ rfl (by kernel_rfl) rfl ?_ S0 ?_
  rotate_left
  ·intro u hu;subst hu;go_simp;try rfl
  try simp only [Act.put,pS]
  refine aK 2 ?_ rfl (by kernel_rfl) rfl ?_ S0 ?_
  rotate_left
  ·intro u hu;subst hu;go_simp;try rfl
  try simp only [Act.put,pS]
  refine aK 3 ?_ rfl (by kernel_rfl) rfl ?_ S0 ?_
  rotate_left
  ·intro u hu;subst hu;go_simp;try rfl
  try simp only [Act.put,pS]
  refine aK 4 ?_ rfl (by kernel_rfl) rfl ?_ S0 ?_
  rotate_left
  ·intro u hu;subst hu;go_simp;try rfl
  try simp only [Act.put,pS]
  refine aK 5 ?_ rfl (by kernel_rfl) rfl ?_ S0 ?_
  rotate_left
  ·intro u hu;subst hu;go_simp;try rfl
  try simp only [Act.put,pS]
  refine ax (i:=6) (by kernel_rfl) rfl (fun K hK=>?_)
  go_simp
  refine (SC.out).mono ?_
  rintro e wa ⟨rfl,rfl⟩
  have S1:w1.drew=w1.drew:=rfl
  refine hK _ _ S1 ?_
  clear hK K S0
  have S0:=S1
  clear S1
  try simp only [Act.put,pS]
  refine aK 7 ?_ rfl (by kernel_rfl) rfl ?_ S0 ?_
  rotate_left
  ·intro u hu;subst hu;go_simp;try rfl
  try simp only [Act.put,pS]
  refine aK 8 ?_ rfl (by kernel_rfl) rfl ?_ S0 ?_
  rotate_left
  ·intro u hu;subst hu;go_simp;try rfl
  try simp only [Act.put,pS]
  refine aK 9 ?_ rfl (by kernel_rfl) rfl ?_ S0 ?_
  rotate_left
  ·intro u hu;subst hu;go_simp;try rfl
  try simp only [Act.put,pS]
  refine aK 10 ?_ rfl (by kernel_rfl) rfl ?_ S0 ?_
  rotate_left
  ·intro u hu;subst hu;go_simp;try rfl
  try simp only [Act.put,pS]
  refine aK 11 ?_ rfl (by kernel_rfl) rfl ?_ S0 ?_
  rotate_left
  ·intro u hu;subst hu;go_simp;try rfl
  try simp only [Act.put,pS]
  refine wpAnyH_done (by kernel_rfl) ?_ _
  clear S0
  go_wp2_with (go_at_call 192;refine (eX _ _).mono ?_;rintro e w' ⟨rfl,rfl⟩)
  have e:R=(3,tk.tags):=by
   rw [← HR.out];unfold T9.dW
   rw [if_pos rfl,if_neg (by rw [T9.oO,HH.out];decide)]
  subst e
  exact⟨rfl,aN.of_below B1.out.drew HB.out _,(fun z=>by cases z),fun _=>rfl⟩
 | true =>
  have PP:pp<tk.tags.length:=by
   obtain⟨y,hy,_⟩:=(T9.wP HU.out).1 HH.out
   rw [HP.out] at hy
   exact (List.getElem?_eq_some_iff.1 hy).1
  obtain⟨ga,rfl,c0,own⟩:=XT.out.parts.resolve_left (fun z=>by omega)
  obtain⟨L,hL⟩:∃ L,tk.tags.length=L+1:=⟨tk.tags.length - 1,by omega⟩
  have HL:=hid hL
  have ER:Hid (R=(0,tk.tags.take pp++tk.tags.drop (pp+1))):=hid (by
   rw [← HR.out];unfold T9.dW
   rw [if_pos rfl,if_pos (T9.oO.2 HH.out),T9.fil_at HU.out HH.out,HP.out])
  have LN:Hid ((tk.tags.take pp++tk.tags.drop (pp+1)).length=L):=hid (by rw [List.length_append,List.length_take,List.length_drop];omega)
  rw [hL] at own q SC
  have DC:=hid (DN (p:=pp) (bZ own) (eT _) (by omega) (by omega))
  have q2:w1.cell? ⟨g,i * 7+6,none⟩=some (.slice (some ⟨ga,0,none⟩) (L+1) c5):=q
  have jD:IntKind.i64.wrap ((pp:Int)+1)=(pp:Int)+1:=by rw [IntKind.wrap_i64];omega
  have PT:Hid (∀ (A':Option Addr) (c':Nat) (w3:World),dX w3 B 9 1 A' L c' ((aB tk.tags).take pp++(aB tk.tags).drop (pp+1))→w1.drew.grownBy w3 (nG (some ⟨ga,0,none⟩) c5)→(nG A' c'=nG (some ⟨ga,0,none⟩) c5∨∃ k,nG A' c'=some k∧w1.drew.heap.size≤k)→bI w3 B (ms.set i ⟨{ tk with tags:=tk.tags.take pp++tk.tags.drop (pp+1) },A',c'⟩)):=hid fun A' c' w3 ho hg hb=>by
   refine K1.out.tags.put (w:=w1.drew) (x':=⟨{ tk with tags:=tk.tags.take pp++tk.tags.drop (pp+1) },A',c'⟩) X.out hg ?_ hb
   show dX w3 B _ 1 A' (tk.tags.take pp++tk.tags.drop (pp+1)).length c' _
   rw [LN.out,← AO]
   exact ho
  clear own hL
  go_enter func209,ntmps209
  go_wp2_with fail
  refine wp_region_held_drew (S:=fun u=>u=w1.drew) (by kernel_rfl) (rfl) (fun S0=>?_)
  refine aK 0 ?_ rfl (by kernel_rfl) rfl ?_ S0 ?_
  rotate_left
  ·intro u hu;subst hu;go_simp;try rfl
  try simp only [Act.put,pS]
  refine aK 1 ?_ rfl (by kernel_rfl) rfl ?_ S0 ?_
  rotate_left
  ·intro u hu;subst hu;go_simp;try rfl
  try simp only [Act.put,pS]
  refine aK 2 ?_ rfl (by kernel_rfl) rfl ?_ S0 ?_
  rotate_left
  ·intro u hu;subst hu;go_simp;try rfl
  try simp only [Act.put,pS]
  refine aK 3 ?_ rfl (by kernel_rfl) rfl ?_ S0 ?_
  rotate_left
  ·intro u hu;subst hu;go_simp;try rfl
  try simp only [Act.put,pS]
  refine aK 4 ?_ rfl (by kernel_rfl) rfl ?_ S0 ?_
  rotate_left
  ·intro u hu;subst hu;go_simp;try rfl
  try simp only [Act.put,pS]
  refine aK 5 ?_ rfl (by kernel_rfl) rfl ?_ S0 ?_
  rotate_left
  ·intro u hu;subst hu;go_simp;try rfl
  try simp only [Act.put,pS]
  refine ax (i:=6) (by kernel_rfl) rfl (fun K hK=>?_)
  go_simp
  refine (SC.out).mono ?_
  rintro e wa ⟨rfl,rfl⟩
  have S1:w1.drew=w1.drew:=rfl
  refine hK _ _ S1 ?_
  clear hK K S0
  have S0:=S1
  clear S1
  try simp only [Act.put,pS]
  refine aK 7 ?_ rfl (by kernel_rfl) rfl ?_ S0 ?_
  rotate_left
  ·intro u hu;subst hu;go_simp;try rfl
  try simp only [Act.put,pS]
  refine aK 8 ?_ rfl (by kernel_rfl) rfl ?_ S0 ?_
  rotate_left
  ·intro u hu;subst hu;go_simp;try rfl
  try simp only [Act.put,pS]
  refine aK 9 ?_ rfl (by kernel_rfl) rfl ?_ S0 ?_
  rotate_left
  ·intro u hu;subst hu;go_simp;try rfl
  try simp only [Act.put,pS]
  refine aK 10 ?_ rfl (by kernel_rfl) rfl ?_ S0 ?_
  rotate_left
  ·intro u hu;subst hu;go_simp;try rfl
  try simp only [Act.put,pS]
  refine aK 11 ?_ rfl (by kernel_rfl) rfl ?_ S0 ?_
  rotate_left
  ·intro u hu;subst hu;go_simp;try rfl
  try simp only [Act.put,pS]
  refine wpAnyH_done (by kernel_rfl) ?_ _
  clear S0
  go_wp2_with (go_at_call 192;refine (fq _ _).mono ?_;rintro e w' ⟨rfl,rfl⟩)
  refine DC.out.mono ?_
  rintro e w3 ⟨A',c',rfl,ho,hg,hb⟩
  have T3:=hid (XT.out.mH (w:=w1.drew) hg (Nat.le_trans HB.out B1.out.size))
  have TG3:=hid (PT.out A' c' w3 ho hg hb)
  have R3:=hid (bP (bZ K1.out.row) T3.out (by decide))
  have f3:w3.frozen? ⟨g,i * 7+6,none⟩=false:=R3.out.frozenAt (g:=g) _
  have q3:=tT R3.out X.out 6 _ rfl
  clear ho hg hb
  go_wp2
  go_end0
  have T4:aN B [74] w3 (w3.setCell ⟨g,i * 7+6,none⟩ (.slice A' L c')):=(aN.refl _ _ w3).aC (p:=⟨g,i * 7+6,none⟩) (by obtain⟨cur,_,hb,_⟩:=eZ R3.out;exact⟨_,_,hb⟩) (by simp) K1.out.lt.1 _
  refine⟨(aN.of_below B1.out.drew HB.out _).trans ((T3.out.more (by simp)).trans (T4.more (by simp))),fun _=>⟨⟨{ tk with tags:=tk.tags.take pp++tk.tags.drop (pp+1) },A',c'⟩,rfl,by rw [ER.out],?_,TG3.out.bH T4 (by decide)⟩,fun z=>absurd (by rw [ER.out]) z⟩
  rw [← gD (v:=.slice A' L c') X.out (by decide:6<7) (by simp [az,LN.out])]
  exact aV (vs:=[.slice A' L c']) R3.out (by rw [aQ,K1.out.len];have:=(List.getElem?_eq_some_iff.1 X.out).1;have:=K1.out.len;simp;omega)
end
end
end Go.Proofs.YtcedlgedmkghgaaGreat
