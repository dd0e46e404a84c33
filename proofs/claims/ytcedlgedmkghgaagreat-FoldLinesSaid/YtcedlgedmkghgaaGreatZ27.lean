import Derived.Test.YtcedlgedmkghgaaGreatZ22
import Derived.Test.YtcedlgedmkghgaaGreatZ16
import Derived.Test.YtcedlgedmkghgaaGreatZ19
import Derived.Lib.Overlaps
import Derived.Deep.LoopGhost
import Derived.WalkLawsBesides
namespace Go.Proofs.YtcedlgedmkghgaaGreat
set_option maxHeartbeats 16000000
open Go.Lib Go.Proofs.Tryz
set_option linter.unusedSimpArgs false
set_option maxRecDepth 100000
section
section
open Go.RowKit Go.Lib
section
variable {P : Program} {w : World} {B g n c k : Nat} {e : TypeId} {xs : List Value}
theorem eZ (h:w.ownsRow B e k (.slice (some ⟨g,0,none⟩) n c) n xs):∃ cur,B≤g∧w.heap[g]?=some (.cells cur e (0,0))∧n≤c∧c≤maxLen∧cur.size=c * k∧cur.toList.take (n * k)=xs:=by
 rcases h.2 with⟨q,_⟩ | ⟨g',c',cur,q,h1,h2,h3,h4,h5,h6⟩
 ·cases q
 ·injection q with q1 q2 q3
  injection q1 with q1
  injection q1 with q1
  subst q1;subst q3
  exact⟨cur,h1,h2,h3,h4,h5,h6⟩
theorem gM (h:w.ownsRow B e k (.slice (some ⟨g,0,none⟩) n c) n xs) {m:Nat} (hm:m≤n):w.ownsRow B e k (.slice (some ⟨g,0,none⟩) m c) m (xs.take (m * k)):=by
 obtain⟨cur,h1,h2,h3,h4,h5,h6⟩:=eZ h
 refine⟨by rw [List.length_take,h.1];exact Nat.min_eq_left (Nat.mul_le_mul_right _ hm),.inr ⟨g,c,cur,rfl,h1,h2,by omega,h4,h5,?_⟩⟩
 rw [← h6,List.take_take,Nat.min_eq_left (Nat.mul_le_mul_right _ hm)]
theorem tF (h:w.ownsRow B e k (.slice (some ⟨g,0,none⟩) n c) n xs) {m:Nat} (hm:n+m≤c):∃ ys,ys.length=m * k∧w.ownsRow B e k (.slice (some ⟨g,0,none⟩) (n+m) c) (n+m) (xs++ys):=by
 obtain⟨cur,h1,h2,h3,h4,h5,h6⟩:=eZ h
 have e1:(n+m) * k=n * k+m * k:=Nat.add_mul _ _ _
 have e2:n * k+m * k≤c * k:=by rw [← e1];exact Nat.mul_le_mul_right _ hm
 have hy:((cur.toList.drop (n * k)).take (m * k)).length=m * k:=by rw [List.length_take,List.length_drop,Array.length_toList,h5];omega
 refine⟨(cur.toList.drop (n * k)).take (m * k),hy,by rw [List.length_append,h.1,hy,e1],.inr ⟨g,c,cur,rfl,h1,h2,hm,h4,h5,?_⟩⟩
 rw [e1,List.take_add,h6]
theorem dQ {dT sT:TypeId} {i:TypeInfo} (ty:TypeId) (hu:P.underlying dT=some (.slice e)) (hi:P.info? e=some i) (hs:i.size=k) {N:Nat} {ys:List Value}
  (h:w.ownsRow B e k (.slice (some ⟨g,0,none⟩) N c) N ys) {p m dc sl sc:Nat} {a:Addr} {cs:List Value} (hl:cs.length=m * k) (hm:m=Nat.min sl (N - p)) (hp:p≤N)
  (hc:∀ j v,cs[j]?=some v→w.cell? (a.add j)=some v) (h1:∀ v∈cs,v.oneCell'=true) :
  (Builtin.copy_ #[dT,sT] ty #[.slice (some ⟨g,p * k,none⟩) (N - p) dc,.slice (some a) sl sc]).run P w=.ok (goInt m) (w.setCells g (p * k) cs):=by
 have hfit:p * k+cs.length≤ys.length:=by
  rw [hl,h.1,← Nat.add_mul]
  refine Nat.mul_le_mul_right _ ?_
  have:m≤N - p:=by rw [hm];exact Nat.min_le_right _ _
  omega
 have ld:=run_loadCells_list (P:=P) w a cs hc
 rw [hl,hm] at ld
 have th:=kR h (o:=p * k) (m:=cs.length) hfit
 have st:=run_storeCells_cells (P:=P) g (p * k) cs 0 w (fun j hj=>by simpa using (th j hj).1) (fun j hj=>by simpa using (th j hj).2) h1
 subst hm
 simp [Builtin.copy_,run_underlying hu,Builtin.lenOf,Builtin.firstCells,sizeOf,typeInfo,hi,hs,ld,st]
theorem fw {t:TypeId} {i:TypeInfo} (ty:TypeId) (hu:P.underlying t=some (.slice e)) (hi:P.info? e=some i) (hs:i.size=k) {p m sc:Nat} {a:Addr} {cs:List Value}
  (h:w.ownsRow B e k (.slice (some ⟨g,0,none⟩) (p+m) c) (p+m) xs) (hl:cs.length=m * k) (hc:∀ j v,cs[j]?=some v→w.cell? (a.add j)=some v) (h1:∀ v∈cs,v.oneCell'=true) :
  (Builtin.append_ #[t,t] ty #[.slice (some ⟨g,0,none⟩) p c,.slice (some a) m sc]).run P w=.ok (.slice (some ⟨g,0,none⟩) (p+m) c) (w.setCells g (p * k) cs):=by
 obtain⟨_,_,_,hroom,_⟩:=eZ h
 have hfit:p * k+cs.length≤xs.length:=by rw [hl,h.1,← Nat.add_mul];exact Nat.le_refl _
 have ld:=run_loadCells_list (P:=P) w a cs hc
 rw [hl] at ld
 have th:=kR h (o:=p * k) (m:=cs.length) hfit
 have st:=run_storeCells_cells (P:=P) g (p * k) cs 0 w (fun j hj=>by simpa using (th j hj).1) (fun j hj=>by simpa using (th j hj).2) h1
 have ad:(⟨g,0,none⟩:Addr).add (p * k)=⟨g,p * k,none⟩:=dN _ _
 simp [Builtin.append_,run_underlying hu,Builtin.lenOf,Builtin.firstCells,sizeOf,typeInfo,hi,hs,hroom,ld,st,ad]
theorem jq {z:Value} (hz:z.cells.size=k) (m:Nat):(Builtin.zeroCells z.cells m).toList.length=m * k:=by rw [Array.length_toList,size_zeroCells,hz]
theorem uJ {z:Value} (h1:∀ v∈z.cells.toList,v.oneCell'=true) (m:Nat):∀ v∈(Builtin.zeroCells z.cells m).toList,v.oneCell'=true:=fun v hv=>by
 unfold Builtin.zeroCells at hv
 simp only [Array.toList_map,List.mem_map,Array.toList_range,List.mem_range] at hv
 obtain⟨j,hj,rfl⟩:=hv
 have h0:0<z.cells.size:=Nat.pos_of_ne_zero fun q=>by rw [q,Nat.mul_zero] at hj;omega
 have hjm:j % z.cells.size<z.cells.size:=Nat.mod_lt _ h0
 rw [getElem!_pos z.cells _ hjm]
 exact h1 _ (Array.getElem_mem_toList hjm)
theorem kE {t:TypeId} {z:Value} (ty:TypeId) (hu:P.underlying t=some (.slice e)) (hv:∀ w,(zeroValue e).run P w=.ok z w) (hz:z.cells.size=k) (hz1:∀ v∈z.cells.toList,v.oneCell'=true) {p m sc:Nat}
  (h:w.ownsRow B e k (.slice (some ⟨g,0,none⟩) (p+m) c) (p+m) xs):∃ cs:List Value,cs.length=m * k ∧
  (Builtin.clear_ #[t] ty #[.slice (some ⟨g,p * k,none⟩) m sc]).run P w=.ok (.tuple #[]) (w.setCells g (p * k) cs):=by
 rcases m with _ | m
 ·refine⟨[],by simp,?_⟩
  simp [Builtin.clear_,run_underlying hu,World.setCells]
 ·refine⟨(Builtin.zeroCells z.cells (m+1)).toList,jq hz _,?_⟩
  have hl:=jq hz (m+1)
  have hfit:p * k+(Builtin.zeroCells z.cells (m+1)).toList.length≤xs.length:=by rw [hl,h.1,← Nat.add_mul];exact Nat.le_refl _
  have th:=kR h (o:=p * k) hfit
  have st:=run_storeCells_cells (P:=P) g (p * k) (Builtin.zeroCells z.cells (m+1)).toList 0 w (fun j hj=>by simpa using (th j hj).1) (fun j hj=>by simpa using (th j hj).2) (uJ hz1 _)
  rw [Nat.add_zero] at st
  simp [Builtin.clear_,run_underlying hu,hv,st]
theorem jH {t tx:TypeId} {i:TypeInfo} {z:Value} {kx kd:IntKind} (ty:TypeId) (hu:P.underlying t=some (.slice e)) (htx:P.underlying tx=some (.int kx)) (hi:P.info? e=some i) (hz:i.zero=some z) (hs:i.size=k) (hzs:z.cells.size=k) (k0:0<k)
  (h:w.ownsRow B e k (.slice (some ⟨g,0,none⟩) n c) n xs) {m base:Nat} (m0:0<m) (hg:c<n+m) (h63:n+m≤maxLen) (hb:(n+m) * i.bytes≤140737488355328) (hbase:base≤w.heap.size) :
  ∃ c' zs w',zs.length=m * k∧n+m≤c'∧(Builtin.append_ #[t,tx] ty #[.slice (some ⟨g,0,none⟩) n c,.int kd (m:Int)]).run P w=.ok (.slice (some ⟨w.heap.size,0,none⟩) (n+m) c') w' ∧
   w'.ownsRow base e k (.slice (some ⟨w.heap.size,0,none⟩) (n+m) c') (n+m) (xs++zs)∧Below w.heap.size w w':=by
 subst hs
 have hold:=run_firstCells_some (P:=P) w.drew i.size n ⟨g,0,none⟩ n c xs h.1 (by simpa using h.cells (g:=g) rfl)
 have hmb:m * i.bytes≤140737488355328:=Nat.le_trans (Nat.mul_le_mul_right _ (Nat.le_add_left _ _)) hb
 have hr:=Lib.run_append_grow_zeros (P:=P) w t tx ty e i z kd kx hu htx hi hz (some ⟨g,0,none⟩) n c xs hold m m0 k0 hg (by unfold maxLen at h63;omega) (by omega) (growslice_fits (by omega) hb)
 have q:=Cy w (base:=base) (e:=e) (z:=z) (size:=i.size) (need:=n+m) (old:=c) (xs:=xs++(Builtin.zeroCells z.cells m).toList) hbase (by rw [List.length_append,h.1,jq hzs,Nat.add_mul]) hzs h63
 refine⟨_,(Builtin.zeroCells z.cells m).toList,_,jq hzs m,(aO q).2,hr,?_,⟨rfl,rfl,rfl,by simp,fun k hk=>Below.heap_alloc w.drew _ k hk⟩⟩
 rw [← List.append_toArray,Array.toArray_toList] at q
 exact q
end
section
variable {xs ys zs v : List Value} {p n k : Nat}
theorem lC {A Y Z V:List Value} {o:Nat} (ho:o=A.length) (hy:Y.length=V.length):splice (A++(Y++Z)) o V=A++(V++Z):=by
 subst ho
 unfold splice
 rw [List.take_left,← hy,← List.drop_drop,List.drop_left,List.drop_left]
theorem sN (hx:xs.length=n * k) (hy:ys.length=k) (hv:v.length=k) (hp:p≤n):splice (splice (xs++ys) ((p+1) * k) (xs.drop (p * k))) (p * k) v=xs.take (p * k)++v++xs.drop (p * k):=by
 have pk:p * k≤n * k:=Nat.mul_le_mul_right _ hp
 have e1:(p+1) * k=p * k+k:=by rw [Nat.add_mul,Nat.one_mul]
 have tl:((xs++ys).take ((p+1) * k)).length=(p+1) * k:=by rw [List.length_take,List.length_append,hx,hy];omega
 have s1:=lC (A:=(xs++ys).take ((p+1) * k)) (Y:=(xs++ys).drop ((p+1) * k)) (Z:=[]) (V:=xs.drop (p * k)) (o:=(p+1) * k) tl.symm (by rw [List.length_drop,List.length_drop,List.length_append,hx,hy];omega)
 rw [List.append_nil,List.take_append_drop,List.append_nil] at s1
 rw [s1]
 have t2:(xs++ys).take ((p+1) * k)=xs.take (p * k)++((xs++ys).drop (p * k)).take k:=by
  rw [e1,List.take_add,List.take_append_of_le_length (by rw [hx];exact pk)]
 rw [t2,List.append_assoc,lC (by rw [List.length_take,hx];omega) (by rw [List.length_take,List.length_drop,List.length_append,hx,hy,hv];omega),List.append_assoc]
theorem gL (hx:xs.length=n * k) (hz:zs.length=(n+1 - p) * k) (hv:v.length=k) (hp:p≤n):splice (splice (xs.take (p * k)++zs) (p * k) v) ((p+1) * k) (xs.drop (p * k))=xs.take (p * k)++v++xs.drop (p * k):=by
 have pk:p * k≤n * k:=Nat.mul_le_mul_right _ hp
 have e1:(p+1) * k=p * k+k:=by rw [Nat.add_mul,Nat.one_mul]
 have tl:(xs.take (p * k)).length=p * k:=by rw [List.length_take,hx];omega
 have zl:zs.length=(n * k - p * k)+k:=by rw [hz,show n+1 - p=(n - p)+1 by omega,Nat.add_mul,Nat.one_mul,Nat.mul_sub_right_distrib]
 have zt:zs=zs.take k++zs.drop k:=(List.take_append_drop k zs).symm
 rw [zt,lC tl.symm (by rw [List.length_take,zl,hv];omega)]
 have s2:=lC (A:=xs.take (p * k)++v) (Y:=zs.drop k) (Z:=[]) (V:=xs.drop (p * k)) (o:=(p+1) * k) (by rw [List.length_append,tl,hv,e1]) (by rw [List.length_drop,List.length_drop,zl,hx];omega)
 rw [List.append_nil,List.append_nil] at s2
 rw [← List.append_assoc,s2]
theorem si (hx:xs.length=n * k) (hp:p<n):(splice xs (p * k) (xs.drop ((p+1) * k))).take ((n - 1) * k)=xs.take (p * k)++xs.drop ((p+1) * k):=by
 have pk:(p+1) * k≤n * k:=Nat.mul_le_mul_right _ hp
 have e1:(p+1) * k=p * k+k:=by rw [Nat.add_mul,Nat.one_mul]
 have e2:(n - 1) * k=n * k - k:=by rw [Nat.mul_sub_right_distrib,Nat.one_mul]
 unfold splice
 have tl:(xs.take (p * k)++xs.drop ((p+1) * k)).length=(n - 1) * k:=by rw [List.length_append,List.length_take,List.length_drop,hx,e2];omega
 rw [← tl,← List.append_assoc]
 exact List.take_left
end
namespace Sr
section
variable {α : Type} {lt : α → α → Bool}
def pos (p:α→Bool) (l:List α):Nat:=(l.takeWhile p).length
theorem om {p:α→Bool}:∀ {l:List α},pos p l≤l.length
 | []=>Nat.le_refl _
 | x :: l=>by
  unfold pos List.takeWhile
  split
  ·have:=om (p:=p) (l:=l)
   unfold pos at this
   simp only [List.length_cons]
   omega
  ·exact Nat.zero_le _
theorem jv {p:α→Bool} {x:α} {l:List α}:pos p (x :: l)=if p x=true then pos p l+1 else 0:=by
 unfold pos
 rw [List.takeWhile_cons]
 split <;> rfl
theorem mX {p:α→Bool}:∀ {l:List α} {i:Nat} {x:α},l.Pairwise (fun a b=>p b=true→p a=true)→l[i]?=some x→(i<pos p l↔p x=true)
 | [],i,x,_,h=>by simp at h
 | y :: l,0,x,hd,h=>by
  simp only [List.getElem?_cons_zero,Option.some.injEq] at h
  subst h
  rw [jv]
  split <;> simp_all
 | y :: l,i+1,x,hd,h=>by
  rw [List.getElem?_cons_succ] at h
  have hp:=List.pairwise_cons.1 hd
  rw [jv]
  split
  ·rw [Nat.add_lt_add_iff_right]
   exact mX hp.2 h
  ·rename_i q
   constructor
   ·intro z;omega
   ·intro z;exact absurd (hp.1 x (List.mem_of_getElem? h) z) q
theorem vY {p q:α→Bool} {l:List α} (hd:l.Pairwise fun a b=>p b=true→p a=true) (hq:l.Pairwise fun a b=>q b=true→p a=true) (hn:∀ x∈l,q x=true→p x=false):l.any q=true↔∃ x,l[pos p l]?=some x∧q x=true:=by
 constructor
 ·intro h
  obtain⟨x,hx,qx⟩:=List.any_eq_true.1 h
  obtain⟨i,hi,ei⟩:=List.mem_iff_getElem.1 hx
  have ge:l[i]?=some x:=by rw [List.getElem?_eq_getElem hi,ei]
  have np:¬ i<pos p l:=fun z=>by
   have:=(mX hd ge).1 z
   rw [hn x hx qx] at this;cases this
  rcases Nat.lt_or_ge (pos p l) i with r | r
  ·have hpl:pos p l<l.length:=by omega
   have hy:=List.pairwise_iff_getElem.1 hq (pos p l) i hpl hi r
   rw [ei] at hy
   have:=(mX hd (List.getElem?_eq_getElem hpl)).2 (hy qx)
   omega
  ·obtain rfl:i=pos p l:=by omega
   exact⟨x,ge,qx⟩
 ·rintro⟨x,hx,qx⟩
  exact List.any_eq_true.2 ⟨x,List.mem_of_getElem? hx,qx⟩
theorem rC {x:α}:∀ {l:List α},(∀ y∈l,lt y x=true∨lt x y=true)→ins lt x l=l.take (pos (fun y=>lt y x) l)++x :: l.drop (pos (fun y=>lt y x) l)
 | [],_=>rfl
 | y :: l,h=>by
  rw [jv]
  unfold ins
  by_cases q:lt y x=true
  ·rw [if_pos q,if_pos q,rC fun z hz=>h z (List.mem_cons_of_mem _ hz)]
   rfl
  ·rw [if_neg q,if_neg q,if_pos ((h y List.mem_cons_self).resolve_left q)]
   rfl
end
end Sr
end
section
open Go.Shelf Go.RowKit Go.Lib Go.Sort
theorem fq (er:Int) (w:World):Calls prog 192 #[.bool false,.int .i64 er] w fun e w'=>e=.returned (.tuple #[])∧w=w':=by
 go_enter func192,ntmps192
 go_wp2
 go_end0
 exact⟨rfl,rfl⟩
theorem eX (er:Int) (w:World):Calls prog 192 #[.bool true,.int .i64 er] w fun e w'=>e=.panicked [{ v:=.iface 50 (.int .i64 er),recovered:=false }]∧w=w':=by
 go_enter func192,ntmps192
 go_wp2
 exact⟨rfl,rfl,rfl⟩
theorem xc (w:World):Calls prog 140 #[.int .i64 0] w fun e w'=>e=.returned (.tuple #[])∧w=w':=by
 go_enter func140,ntmps140
 go_wp2_with (go_at_call 192;refine (fq _ _).mono ?_;rintro e w' ⟨rfl,rfl⟩)
 go_end0
 exact⟨rfl,rfl⟩
theorem yY {er:Int} (h:er≠0) (w:World):Calls prog 140 #[.int .i64 er] w fun e w'=>e=.panicked [{ v:=.iface 50 (.int .i64 er),recovered:=false }]∧w=w':=by
 have h1:(er != 0)=true:=by simpa using h
 clear h
 go_enter func140,ntmps140
 go_wp2_with (go_at_call 192;refine (eX _ _).mono ?_;rintro e w' ⟨rfl,rfl⟩)
 exact⟨rfl,rfl,rfl⟩
namespace T9
def iM (ls:List Li) (id:Nat):Nat:=Sr.pos (fun l=>decide (l.id<id)) ls
def dV (ts:List Tk) (id:Nat):Nat:=Sr.pos (fun t=>decide (t.id<id)) ts
def nK (ts:List (List UInt8)) (x:List UInt8):Nat:=Sr.pos (fun t=>dL t x) ts
def qm (ts:List (List UInt8)) (x:List UInt8):Bool:=ts.any fun t=>decide (t=x)
theorem downL {ls:List Li} {id:Nat} (hu:ls.Pairwise fun x y=>x.id<y.id):ls.Pairwise fun a b=>(fun l:Li=>decide (l.id<id)) b=true→(fun l:Li=>decide (l.id<id)) a=true :=
 hu.imp fun q r=>decide_eq_true (Nat.lt_trans q (of_decide_eq_true r))
theorem downK {ls:List Tk} {id:Nat} (hu:ls.Pairwise fun x y=>x.id<y.id):ls.Pairwise fun a b=>(fun l:Tk=>decide (l.id<id)) b=true→(fun l:Tk=>decide (l.id<id)) a=true :=
 hu.imp fun q r=>decide_eq_true (Nat.lt_trans q (of_decide_eq_true r))
theorem downT {ls:List (List UInt8)} {x:List UInt8} (hu:Sr.Str dL ls):ls.Pairwise fun a b=>(fun t=>dL t x) b=true→(fun t=>dL t x) a=true :=
 List.Pairwise.imp (R:=fun a b=>dL a b=true) (fun q r=>JH.tr _ _ _ q r) hu
theorem Iz {ls:List Li} {id:Nat} (hu:ls.Pairwise fun x y=>x.id<y.id) {i:Nat} {l:Li} (h:ls[i]?=some l):i<iM ls id↔l.id<id:=by
 rw [iM,Sr.mX (downL hu) h,decide_eq_true_eq]
theorem y_ {ls:List Tk} {id:Nat} (hu:ls.Pairwise fun x y=>x.id<y.id) {i:Nat} {l:Tk} (h:ls[i]?=some l):i<dV ls id↔l.id<id:=by
 rw [dV,Sr.mX (downK hu) h,decide_eq_true_eq]
theorem IA {ls:List (List UInt8)} {x:List UInt8} (hu:Sr.Str dL ls) {i:Nat} {l:List UInt8} (h:ls[i]?=some l):i<nK ls x↔dL l x=true :=
 Sr.mX (downT hu) h
theorem oU {ls:List Li} {id:Nat} (hu:ls.Pairwise fun x y=>x.id<y.id):bC ls id=true↔∃ l,ls[iM ls id]?=some l∧l.id=id:=by
 have q:=Sr.vY (q:=fun l:Li=>l.id==id) (downL (id:=id) hu) (hu.imp fun q r=>decide_eq_true (by rw [beq_iff_eq] at r;omega)) (fun x _ r=>decide_eq_false (by rw [beq_iff_eq] at r;omega))
 unfold bC iM
 rw [q]
 simp only [beq_iff_eq]
theorem kY {ls:List Tk} {id:Nat} (hu:ls.Pairwise fun x y=>x.id<y.id):d_ ls id=true↔∃ l,ls[dV ls id]?=some l∧l.id=id:=by
 have q:=Sr.vY (q:=fun l:Tk=>l.id==id) (downK (id:=id) hu) (hu.imp fun q r=>decide_eq_true (by rw [beq_iff_eq] at r;omega)) (fun x _ r=>decide_eq_false (by rw [beq_iff_eq] at r;omega))
 unfold d_ dV
 rw [q]
 simp only [beq_iff_eq]
theorem wP {ls:List (List UInt8)} {x:List UInt8} (hu:Sr.Str dL ls):qm ls x=true↔∃ l,ls[nK ls x]?=some l∧l=x:=by
 have q:=Sr.vY (q:=fun l:List UInt8=>decide (l=x)) (downT (x:=x) hu) (List.Pairwise.imp (R:=fun a b=>dL a b=true) (fun {a b} q r=>by have:=of_decide_eq_true r;subst this;exact q) hu) (fun y _ r=>by have:=of_decide_eq_true r;subst this;exact JH.irr y)
 unfold qm nK
 rw [q]
 simp only [decide_eq_true_eq]
end T9
theorem pJ (m:T9.Li) (id:Nat) (W:World):Calls prog 228 #[.agg (bf m).toArray,.int .u64 (id:Int)] W fun e w'=>e=.returned (.int .i64 (h_ m.id id))∧Below W.heap.size W w':=by
 obtain⟨w1,hw1⟩:∃ u,W.alloc (.cells (bf m).toArray 71)=u:=⟨_,rfl⟩
 unfold bf at hw1 ⊢
 obtain⟨lb,b1,z1⟩:=ak hw1
 obtain⟨l0,l1⟩:=aa lb
 have B1:=hid b1
 clear b1 lb z1
 go_enter func228,ntmps228
 go_wp2_with (go_at_call 172;refine (qf _ _ _).mono ?_;rintro e w' ⟨rfl,rfl⟩)
 go_ret
 exact⟨rfl,B1.out⟩
theorem pI (m:aL) (id:Nat) (W:World):Calls prog 235 #[.agg (az m).toArray,.int .u64 (id:Int)] W fun e w'=>e=.returned (.int .i64 (h_ m.t.id id))∧Below W.heap.size W w':=by
 obtain⟨w1,hw1⟩:∃ u,W.alloc (.cells (az m).toArray 74)=u:=⟨_,rfl⟩
 unfold az at hw1 ⊢
 obtain⟨lb,b1,z1⟩:=bn hw1
 obtain⟨l0,l1,l2,l3,l4,l5,l6⟩:=aj lb
 have B1:=hid b1
 clear b1 lb z1
 go_enter func235,ntmps235
 go_wp2_with (go_at_call 172;refine (qf _ _ _).mono ?_;rintro e w' ⟨rfl,rfl⟩)
 go_ret
 exact⟨rfl,B1.out⟩
theorem EI {A:Option Addr} {n c id:Nat} {ms:List T9.Li} {w:World} (hk:LL w A ms) (hn:n=ms.length) (hs:n≤1000000) (hu:(ms).Pairwise fun x y=>x.id<y.id) :
  Calls prog 227 #[.slice A n c,.int .u64 (id:Int),.func (.func 228) #[] #[]] w fun e w'=>e=.returned (.tuple #[.int .i64 (T9.iM (ms) id:Int),.bool (T9.bC (ms) id)])∧Below w.heap.size w w':=by
 have HK:=hid hk
 have HN:=hid hn
 obtain⟨k,hk0⟩:∃ k,T9.iM (ms) id=k:=⟨_,rfl⟩
 obtain⟨hb,hb0⟩:∃ b,T9.bC (ms) id=b:=⟨_,rfl⟩
 have kn:k≤n:=by rw [← hk0,hn];exact Nat.le_trans Sr.om (by simp)
 have ids:Hid (∀ i t,(ms)[i]?=some t→(i<k↔t.id<id)):=hid fun i t hi=>by rw [← hk0];exact T9.Iz hu hi
 have HAS:Hid (hb=true↔∃ l,(ms)[k]?=some l∧l.id=id):=hid (by rw [← hk0,← hb0];exact T9.oU hu)
 rw [hk0,hb0]
 have HK0:=hid hk0
 clear hk hn hu hk0 hb0
 go_enter func227,ntmps227
 go_wp2_with fail
 go_loopg [9,10] n (fun kx s9 s10 wr=>∃ lo hi:Nat,s9=.int .i64 lo∧s10=.int .i64 hi∧lo≤hi∧hi≤n∧hi - lo≤kx∧lo≤k∧k≤hi∧Aside (Below w.heap.size w wr))
 case atStart=>exact⟨0,n,rfl,rfl,Nat.zero_le _,Nat.le_refl _,by omega,Nat.zero_le _,kn,Below.refl _ _⟩
 case round =>
  obtain⟨lo,hi,rfl,rfl,hlh,hin,hg,hlk,hkh,hB⟩:=hrel
  have BR:=hid hB.out
  clear hB
  by_cases hlt:lo<hi
  ·obtain⟨ad,m,hA,hx,r0,r1⟩:=(HK.out.stay BR.out).at_ (k:=(lo+hi) / 2) (by have:=HN.out;omega)
   subst hA
   have ids:=ids.out _ _ hx
   have PC:=hid (pJ m id wr)
   unfold bf at PC
   clear hx
   by_cases hc:(lo+hi) / 2<k
   ·have e:h_ m.id id=-1:=by unfold h_;rw [if_pos (ids.1 hc)]
    rw [e] at PC
    clear ids e
    go_wp2_with (go_at_call 228;refine PC.out.mono ?_;rintro e w' ⟨rfl,h2⟩;have H2:=hid h2;clear h2)
    go_roundg (hi - ((lo+hi) / 2+1))
    case measure=>omega
    case rel=>exact⟨(lo+hi) / 2+1,hi,by rw [show ((lo:Int)+(hi:Int)) / 2+1=(((lo+hi) / 2+1:Nat):Int) by omega],rfl,by omega,hin,Nat.le_refl _,by omega,hkh,BR.out.trans (H2.out.mono BR.out.size)⟩
   ·have e:∃ v:Int,h_ m.id id=v∧0≤v:=by
     refine⟨_,rfl,?_⟩
     unfold h_
     rw [if_neg (fun q=>hc (ids.2 q))]
     split <;> omega
    obtain⟨v,e,hv⟩:=e
    have hvn:¬ (v<0):=by omega
    rw [e] at PC
    clear ids e
    go_wp2_with (go_at_call 228;refine PC.out.mono ?_;rintro e w' ⟨rfl,h2⟩;have H2:=hid h2;clear h2)
    go_roundg ((lo+hi) / 2 - lo)
    case measure=>omega
    case rel=>exact⟨lo,(lo+hi) / 2,rfl,by rw [show ((lo:Int)+(hi:Int)) / 2=(((lo+hi) / 2:Nat):Int) by omega],by omega,by omega,Nat.le_refl _,by omega,by omega,BR.out.trans (H2.out.mono BR.out.size)⟩
  ·obtain rfl:hi=lo:=by omega
   obtain rfl:k=hi:=by omega
   by_cases hkn:k<n
   ·have knz:(k:Int)<(n:Int):=by omega
    obtain⟨ad,m,hA,hx,r0,r1⟩:=(HK.out.stay BR.out).at_ (k:=k) (by have:=HN.out;omega)
    subst hA
    have PC:=hid (pJ m id wr)
    unfold bf at PC
    have idk:=ids.out _ _ hx
    have hm:hb=true↔m.id=id:=by
     rw [HAS.out,hx]
     simp
    clear hx
    cases hb with
    | true =>
     have e:h_ m.id id=0:=by
      unfold h_
      rw [hm.1 rfl,if_neg (Nat.lt_irrefl _),if_neg (Nat.lt_irrefl _)]
     rw [e] at PC
     clear hm idk e
     go_wp2_with (go_at_call 228;refine PC.out.mono ?_;rintro e w' ⟨rfl,h2⟩;have H2:=hid h2;clear h2)
     go_ret2
     exact⟨rfl,BR.out.trans (H2.out.mono BR.out.size)⟩
    | false =>
     have e:h_ m.id id=1:=by
      have q:¬ m.id<id:=fun z=>Nat.lt_irrefl _ (idk.2 z)
      have q2:m.id≠id:=fun z=>by have:=hm.2 z;cases this
      unfold h_
      rw [if_neg q,if_pos (by omega)]
     rw [e] at PC
     clear hm idk e
     go_wp2_with (go_at_call 228;refine PC.out.mono ?_;rintro e w' ⟨rfl,h2⟩;have H2:=hid h2;clear h2)
     go_ret2
     exact⟨rfl,BR.out.trans (H2.out.mono BR.out.size)⟩
   ·obtain rfl:k=n:=by omega
    have knz:¬ ((k:Int)<(k:Int)):=by omega
    have hm:hb=false:=by
     cases hb with
     | false=>rfl
     | true =>
      obtain⟨l,hl,_⟩:=HAS.out.1 rfl
      rw [List.getElem?_eq_none (by have:=HN.out;simp;omega)] at hl
      cases hl
    subst hm
    go_wp2_with fail
    go_ret2
    exact⟨rfl,BR.out⟩
theorem EH {A:Option Addr} {n c id:Nat} {ms:List aL} {w:World} (hk:KL w A ms) (hn:n=ms.length) (hs:n≤1000000) (hu:(ay ms).Pairwise fun x y=>x.id<y.id) :
  Calls prog 233 #[.slice A n c,.int .u64 (id:Int),.func (.func 235) #[] #[]] w fun e w'=>e=.returned (.tuple #[.int .i64 (T9.dV (ay ms) id:Int),.bool (T9.d_ (ay ms) id)])∧Below w.heap.size w w':=by
 have HK:=hid hk
 have HN:=hid hn
 obtain⟨k,hk0⟩:∃ k,T9.dV (ay ms) id=k:=⟨_,rfl⟩
 obtain⟨hb,hb0⟩:∃ b,T9.d_ (ay ms) id=b:=⟨_,rfl⟩
 have kn:k≤n:=by rw [← hk0,hn];exact Nat.le_trans Sr.om (by simp [aI])
 have ids:Hid (∀ i t,(ay ms)[i]?=some t→(i<k↔t.id<id)):=hid fun i t hi=>by rw [← hk0];exact T9.y_ hu hi
 have HAS:Hid (hb=true↔∃ l,(ay ms)[k]?=some l∧l.id=id):=hid (by rw [← hk0,← hb0];exact T9.kY hu)
 rw [hk0,hb0]
 have HK0:=hid hk0
 clear hk hn hu hk0 hb0
 go_enter func233,ntmps233
 go_wp2_with fail
 go_loopg [9,10] n (fun kx s9 s10 wr=>∃ lo hi:Nat,s9=.int .i64 lo∧s10=.int .i64 hi∧lo≤hi∧hi≤n∧hi - lo≤kx∧lo≤k∧k≤hi∧Aside (Below w.heap.size w wr))
 case atStart=>exact⟨0,n,rfl,rfl,Nat.zero_le _,Nat.le_refl _,by omega,Nat.zero_le _,kn,Below.refl _ _⟩
 case round =>
  obtain⟨lo,hi,rfl,rfl,hlh,hin,hg,hlk,hkh,hB⟩:=hrel
  have BR:=hid hB.out
  clear hB
  by_cases hlt:lo<hi
  ·obtain⟨ad,m,hA,hx,hf,r0,r1,r2,r3,r4,r5,r6⟩:=(HK.out.stay BR.out).at_ (k:=(lo+hi) / 2) (by have:=HN.out;omega)
   subst hA
   have ids:=ids.out _ _ (gZ hx)
   have PC:=hid (pI m id wr)
   unfold az at PC
   clear hx hf
   by_cases hc:(lo+hi) / 2<k
   ·have e:h_ m.t.id id=-1:=by unfold h_;rw [if_pos (ids.1 hc)]
    rw [e] at PC
    clear ids e
    go_wp2_with (go_at_call 235;refine PC.out.mono ?_;rintro e w' ⟨rfl,h2⟩;have H2:=hid h2;clear h2)
    go_roundg (hi - ((lo+hi) / 2+1))
    case measure=>omega
    case rel=>exact⟨(lo+hi) / 2+1,hi,by rw [show ((lo:Int)+(hi:Int)) / 2+1=(((lo+hi) / 2+1:Nat):Int) by omega],rfl,by omega,hin,Nat.le_refl _,by omega,hkh,BR.out.trans (H2.out.mono BR.out.size)⟩
   ·have e:∃ v:Int,h_ m.t.id id=v∧0≤v:=by
     refine⟨_,rfl,?_⟩
     unfold h_
     rw [if_neg (fun q=>hc (ids.2 q))]
     split <;> omega
    obtain⟨v,e,hv⟩:=e
    have hvn:¬ (v<0):=by omega
    rw [e] at PC
    clear ids e
    go_wp2_with (go_at_call 235;refine PC.out.mono ?_;rintro e w' ⟨rfl,h2⟩;have H2:=hid h2;clear h2)
    go_roundg ((lo+hi) / 2 - lo)
    case measure=>omega
    case rel=>exact⟨lo,(lo+hi) / 2,rfl,by rw [show ((lo:Int)+(hi:Int)) / 2=(((lo+hi) / 2:Nat):Int) by omega],by omega,by omega,Nat.le_refl _,by omega,by omega,BR.out.trans (H2.out.mono BR.out.size)⟩
  ·obtain rfl:hi=lo:=by omega
   obtain rfl:k=hi:=by omega
   by_cases hkn:k<n
   ·have knz:(k:Int)<(n:Int):=by omega
    obtain⟨ad,m,hA,hx,hf,r0,r1,r2,r3,r4,r5,r6⟩:=(HK.out.stay BR.out).at_ (k:=k) (by have:=HN.out;omega)
    subst hA
    have PC:=hid (pI m id wr)
    unfold az at PC
    have idk:=ids.out _ _ (gZ hx)
    have hm:hb=true↔m.t.id=id:=by
     rw [HAS.out,gZ hx]
     simp
    clear hx hf
    cases hb with
    | true =>
     have e:h_ m.t.id id=0:=by
      unfold h_
      rw [hm.1 rfl,if_neg (Nat.lt_irrefl _),if_neg (Nat.lt_irrefl _)]
     rw [e] at PC
     clear hm idk e
     go_wp2_with (go_at_call 235;refine PC.out.mono ?_;rintro e w' ⟨rfl,h2⟩;have H2:=hid h2;clear h2)
     go_ret2
     exact⟨rfl,BR.out.trans (H2.out.mono BR.out.size)⟩
    | false =>
     have e:h_ m.t.id id=1:=by
      have q:¬ m.t.id<id:=fun z=>Nat.lt_irrefl _ (idk.2 z)
      have q2:m.t.id≠id:=fun z=>by have:=hm.2 z;cases this
      unfold h_
      rw [if_neg q,if_pos (by omega)]
     rw [e] at PC
     clear hm idk e
     go_wp2_with (go_at_call 235;refine PC.out.mono ?_;rintro e w' ⟨rfl,h2⟩;have H2:=hid h2;clear h2)
     go_ret2
     exact⟨rfl,BR.out.trans (H2.out.mono BR.out.size)⟩
   ·obtain rfl:k=n:=by omega
    have knz:¬ ((k:Int)<(k:Int)):=by omega
    have hm:hb=false:=by
     cases hb with
     | false=>rfl
     | true =>
      obtain⟨l,hl,_⟩:=HAS.out.1 rfl
      rw [List.getElem?_eq_none (by have:=HN.out;simp [aI];omega)] at hl
      cases hl
    subst hm
    go_wp2_with fail
    go_ret2
    exact⟨rfl,BR.out⟩
theorem sU {s:aW} {id:Nat} {w:World} (h:SM s w) (hs:s.ls.length≤1000000) (hu:(s.ls).Pairwise fun x y=>x.id<y.id) :
  Calls prog 197 #[s.val,.int .u64 (id:Int)] w fun e w'=>e=.returned (.tuple #[.int .i64 (T9.iM (s.ls) id:Int),.bool (T9.bC (s.ls) id)])∧Below w.heap.size w w':=by
 obtain⟨w1,hw1⟩:∃ u,w.alloc (.cells #[.slice s.A s.ls.length s.c,.slice s.A2 s.ms.length s.c2] 25)=u:=⟨_,rfl⟩
 obtain⟨pb,b1,z1⟩:=ak hw1
 obtain⟨p0,p1⟩:=aa pb
 have B1:=hid b1
 have SC:=hid (EI (c:=s.c) (id:=id) (h.l.stay b1) rfl hs hu)
 obtain⟨pp,fP⟩:∃ p,T9.iM (s.ls) id=p:=⟨_,rfl⟩
 obtain⟨hh,gK⟩:∃ p,T9.bC (s.ls) id=p:=⟨_,rfl⟩
 rw [fP,gK] at SC ⊢
 unfold aW.val
 clear h hs hu pb b1 z1 fP gK
 go_enter func197,ntmps197
 go_wp2_with (go_at_call 227;refine SC.out.mono ?_;rintro e w' ⟨rfl,h2⟩;have H2:=hid h2;clear h2)
 go_ret2
 exact⟨rfl,B1.out.trans (H2.out.mono B1.out.size)⟩
theorem iQ {s:aW} {id:Nat} {w:World} (h:SM s w) (hs:s.ls.length≤1000000) (hu:(s.ls).Pairwise fun x y=>x.id<y.id) (hh:T9.bC (s.ls) id=true) :
  Calls prog 199 #[s.val,.int .u64 (id:Int)] w fun e w'=>e=.returned (.int .i64 (T9.iM (s.ls) id:Int))∧Below w.heap.size w w':=by
 obtain⟨w1,hw1⟩:∃ u,w.alloc (.cells #[.slice s.A s.ls.length s.c,.slice s.A2 s.ms.length s.c2] 25)=u:=⟨_,rfl⟩
 obtain⟨pb,b1,z1⟩:=ak hw1
 obtain⟨p0,p1⟩:=aa pb
 have B1:=hid b1
 have SC:=hid (sU (id:=id) (h.stay b1) hs hu)
 obtain⟨pp,fP⟩:∃ p,T9.iM (s.ls) id=p:=⟨_,rfl⟩
 rw [fP,hh] at SC
 rw [fP]
 unfold aW.val at SC ⊢
 clear h hs hu pb b1 z1 fP hh
 go_enter func199,ntmps199
 go_wp2_with (first | (go_at_call 197;refine SC.out.mono ?_;rintro e w' ⟨rfl,h2⟩;have H2:=hid h2;clear h2) | (go_at_call 192;refine (fq _ _).mono ?_;rintro e w' ⟨rfl,rfl⟩))
 go_ret
 exact⟨rfl,B1.out.trans (H2.out.mono B1.out.size)⟩
theorem jr {s:aW} {id:Nat} {w:World} (h:SM s w) (hs:s.ls.length≤1000000) (hu:(s.ls).Pairwise fun x y=>x.id<y.id) (hh:T9.bC (s.ls) id=false) :
  Calls prog 199 #[s.val,.int .u64 (id:Int)] w fun e w'=>e=.panicked [{ v:=.iface 50 (.int .i64 91),recovered:=false }]∧Below w.heap.size w w':=by
 obtain⟨w1,hw1⟩:∃ u,w.alloc (.cells #[.slice s.A s.ls.length s.c,.slice s.A2 s.ms.length s.c2] 25)=u:=⟨_,rfl⟩
 obtain⟨pb,b1,z1⟩:=ak hw1
 obtain⟨p0,p1⟩:=aa pb
 have B1:=hid b1
 have SC:=hid (sU (id:=id) (h.stay b1) hs hu)
 obtain⟨pp,fP⟩:∃ p,T9.iM (s.ls) id=p:=⟨_,rfl⟩
 rw [fP,hh] at SC
 unfold aW.val at SC ⊢
 clear h hs hu pb b1 z1 fP hh
 go_enter func199,ntmps199
 go_wp2_with (first | (go_at_call 197;refine SC.out.mono ?_;rintro e w' ⟨rfl,h2⟩;have H2:=hid h2;clear h2) | (go_at_call 192;refine (eX _ _).mono ?_;rintro e w' ⟨rfl,rfl⟩))
 exact⟨rfl,rfl,B1.out.trans (H2.out.mono B1.out.size)⟩
theorem uf {s:aW} {id:Nat} {w:World} (h:SM s w) (hs:s.ms.length≤1000000) (hu:(ay s.ms).Pairwise fun x y=>x.id<y.id) :
  Calls prog 205 #[s.val,.int .u64 (id:Int)] w fun e w'=>e=.returned (.tuple #[.int .i64 (T9.dV (ay s.ms) id:Int),.bool (T9.d_ (ay s.ms) id)])∧Below w.heap.size w w':=by
 obtain⟨w1,hw1⟩:∃ u,w.alloc (.cells #[.slice s.A s.ls.length s.c,.slice s.A2 s.ms.length s.c2] 25)=u:=⟨_,rfl⟩
 obtain⟨pb,b1,z1⟩:=ak hw1
 obtain⟨p0,p1⟩:=aa pb
 have B1:=hid b1
 have SC:=hid (EH (c:=s.c2) (id:=id) (h.k.stay b1) rfl hs hu)
 obtain⟨pp,fP⟩:∃ p,T9.dV (ay s.ms) id=p:=⟨_,rfl⟩
 obtain⟨hh,gK⟩:∃ p,T9.d_ (ay s.ms) id=p:=⟨_,rfl⟩
 rw [fP,gK] at SC ⊢
 unfold aW.val
 clear h hs hu pb b1 z1 fP gK
 go_enter func205,ntmps205
 go_wp2_with (go_at_call 233;refine SC.out.mono ?_;rintro e w' ⟨rfl,h2⟩;have H2:=hid h2;clear h2)
 go_ret2
 exact⟨rfl,B1.out.trans (H2.out.mono B1.out.size)⟩
theorem lg {s:aW} {id:Nat} {w:World} (h:SM s w) (hs:s.ms.length≤1000000) (hu:(ay s.ms).Pairwise fun x y=>x.id<y.id) (hh:T9.d_ (ay s.ms) id=true) :
  Calls prog 207 #[s.val,.int .u64 (id:Int)] w fun e w'=>e=.returned (.int .i64 (T9.dV (ay s.ms) id:Int))∧Below w.heap.size w w':=by
 obtain⟨w1,hw1⟩:∃ u,w.alloc (.cells #[.slice s.A s.ls.length s.c,.slice s.A2 s.ms.length s.c2] 25)=u:=⟨_,rfl⟩
 obtain⟨pb,b1,z1⟩:=ak hw1
 obtain⟨p0,p1⟩:=aa pb
 have B1:=hid b1
 have SC:=hid (uf (id:=id) (h.stay b1) hs hu)
 obtain⟨pp,fP⟩:∃ p,T9.dV (ay s.ms) id=p:=⟨_,rfl⟩
 rw [fP,hh] at SC
 rw [fP]
 unfold aW.val at SC ⊢
 clear h hs hu pb b1 z1 fP hh
 go_enter func207,ntmps207
 go_wp2_with (first | (go_at_call 205;refine SC.out.mono ?_;rintro e w' ⟨rfl,h2⟩;have H2:=hid h2;clear h2) | (go_at_call 192;refine (fq _ _).mono ?_;rintro e w' ⟨rfl,rfl⟩))
 go_ret
 exact⟨rfl,B1.out.trans (H2.out.mono B1.out.size)⟩
theorem mr {s:aW} {id:Nat} {w:World} (h:SM s w) (hs:s.ms.length≤1000000) (hu:(ay s.ms).Pairwise fun x y=>x.id<y.id) (hh:T9.d_ (ay s.ms) id=false) :
  Calls prog 207 #[s.val,.int .u64 (id:Int)] w fun e w'=>e=.panicked [{ v:=.iface 50 (.int .i64 93),recovered:=false }]∧Below w.heap.size w w':=by
 obtain⟨w1,hw1⟩:∃ u,w.alloc (.cells #[.slice s.A s.ls.length s.c,.slice s.A2 s.ms.length s.c2] 25)=u:=⟨_,rfl⟩
 obtain⟨pb,b1,z1⟩:=ak hw1
 obtain⟨p0,p1⟩:=aa pb
 have B1:=hid b1
 have SC:=hid (uf (id:=id) (h.stay b1) hs hu)
 obtain⟨pp,fP⟩:∃ p,T9.dV (ay s.ms) id=p:=⟨_,rfl⟩
 rw [fP,hh] at SC
 unfold aW.val at SC ⊢
 clear h hs hu pb b1 z1 fP hh
 go_enter func207,ntmps207
 go_wp2_with (first | (go_at_call 205;refine SC.out.mono ?_;rintro e w' ⟨rfl,h2⟩;have H2:=hid h2;clear h2) | (go_at_call 192;refine (eX _ _).mono ?_;rintro e w' ⟨rfl,rfl⟩))
 exact⟨rfl,rfl,B1.out.trans (H2.out.mono B1.out.size)⟩
end
end
end Go.Proofs.YtcedlgedmkghgaaGreat
