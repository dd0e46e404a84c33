import Derived.Test.YtcmiompdjjiojaaGreatZ12
import Derived.Shelf.Spec.SlicesInsert
namespace Go.Proofs.YtcmiompdjjiojaaGreat
set_option maxHeartbeats 16000000
open Go.Lib Go.Proofs.Tryz
set_option linter.unusedSimpArgs false
set_option maxRecDepth 100000
section
section
open Go.RowKit Go.Lib
section
variable {P : Program} {w : World} {B g n c k : Nat} {e : TypeId} {xs : List Value}
theorem fB (h:w.ownsRow B e k (.slice (some ⟨g,0,none⟩) n c) n xs):∃ cur,B≤g∧w.heap[g]?=some (.cells cur e (0,0))∧n≤c∧c≤maxLen∧cur.size=c * k∧cur.toList.take (n * k)=xs:=by
 rcases h.2 with⟨q,_⟩ | ⟨g',c',cur,q,h1,h2,h3,h4,h5,h6⟩
 ·cases q
 ·injection q with q1 q2 q3
  injection q1 with q1
  injection q1 with q1
  subst q1;subst q3
  exact⟨cur,h1,h2,h3,h4,h5,h6⟩
theorem gW (h:w.ownsRow B e k (.slice (some ⟨g,0,none⟩) n c) n xs) {m:Nat} (hm:m≤n):w.ownsRow B e k (.slice (some ⟨g,0,none⟩) m c) m (xs.take (m * k)):=by
 obtain⟨cur,h1,h2,h3,h4,h5,h6⟩:=fB h
 refine⟨by rw [List.length_take,h.1];exact Nat.min_eq_left (Nat.mul_le_mul_right _ hm),.inr ⟨g,c,cur,rfl,h1,h2,by omega,h4,h5,?_⟩⟩
 rw [← h6,List.take_take,Nat.min_eq_left (Nat.mul_le_mul_right _ hm)]
theorem vF (h:w.ownsRow B e k (.slice (some ⟨g,0,none⟩) n c) n xs) {m:Nat} (hm:n+m≤c):∃ ys,ys.length=m * k∧w.ownsRow B e k (.slice (some ⟨g,0,none⟩) (n+m) c) (n+m) (xs++ys):=by
 obtain⟨cur,h1,h2,h3,h4,h5,h6⟩:=fB h
 have e1:(n+m) * k=n * k+m * k:=Nat.add_mul _ _ _
 have e2:n * k+m * k≤c * k:=by rw [← e1];exact Nat.mul_le_mul_right _ hm
 have hy:((cur.toList.drop (n * k)).take (m * k)).length=m * k:=by rw [List.length_take,List.length_drop,Array.length_toList,h5];omega
 refine⟨(cur.toList.drop (n * k)).take (m * k),hy,by rw [List.length_append,h.1,hy,e1],.inr ⟨g,c,cur,rfl,h1,h2,hm,h4,h5,?_⟩⟩
 rw [e1,List.take_add,h6]
theorem dQ {dT sT:TypeId} {i:TypeInfo} (ty:TypeId) (hu:P.underlying dT=some (.slice e)) (hi:P.info? e=some i) (hs:i.size=k) {N:Nat} {ys:List Value}
  (h:w.ownsRow B e k (.slice (some ⟨g,0,none⟩) N c) N ys) {p m dc sl sc:Nat} {a:Addr} {cs:List Value} (hl:cs.length=m * k) (hm:m=Nat.min sl (N - p)) (hp:p≤N)
  (hc:∀ j v,cs[j]?=some v→w.cell? (a.add j)=some v) (h1:∀ v∈cs,v.oneCell'=true) :
  (Builtin.copy_ #[dT,sT] ty #[.slice (some ⟨g,p * k,none⟩) (N - p) dc,.slice (some a) sl sc]).run P w=.ok (goInt m) (w.setCells g (p * k) cs):=by
 have hfit:p * k+cs.length≤ys.length:=by
  rw [hl,h.1,← Nat.add_mul]
  refine Nat.mul_le_mul_right _ ?_
  have:m≤N - p:=by rw [hm];exact Nat.min_le_right _ _
  omega
 have ld:=run_loadCells_list (P:=P) w a cs hc
 rw [hl,hm] at ld
 have th:=lK h (o:=p * k) (m:=cs.length) hfit
 have st:=run_storeCells_cells (P:=P) g (p * k) cs 0 w (fun j hj=>by simpa using (th j hj).1) (fun j hj=>by simpa using (th j hj).2) h1
 subst hm
 simp [Builtin.copy_,run_underlying hu,Builtin.lenOf,Builtin.firstCells,sizeOf,typeInfo,hi,hs,ld,st]
theorem fE {t:TypeId} {i:TypeInfo} (ty:TypeId) (hu:P.underlying t=some (.slice e)) (hi:P.info? e=some i) (hs:i.size=k) {p m sc:Nat} {a:Addr} {cs:List Value}
  (h:w.ownsRow B e k (.slice (some ⟨g,0,none⟩) (p+m) c) (p+m) xs) (hl:cs.length=m * k) (hc:∀ j v,cs[j]?=some v→w.cell? (a.add j)=some v) (h1:∀ v∈cs,v.oneCell'=true) :
  (Builtin.append_ #[t,t] ty #[.slice (some ⟨g,0,none⟩) p c,.slice (some a) m sc]).run P w=.ok (.slice (some ⟨g,0,none⟩) (p+m) c) (w.setCells g (p * k) cs):=by
 obtain⟨_,_,_,hroom,_⟩:=fB h
 have hfit:p * k+cs.length≤xs.length:=by rw [hl,h.1,← Nat.add_mul];exact Nat.le_refl _
 have ld:=run_loadCells_list (P:=P) w a cs hc
 rw [hl] at ld
 have th:=lK h (o:=p * k) (m:=cs.length) hfit
 have st:=run_storeCells_cells (P:=P) g (p * k) cs 0 w (fun j hj=>by simpa using (th j hj).1) (fun j hj=>by simpa using (th j hj).2) h1
 have ad:(⟨g,0,none⟩:Addr).add (p * k)=⟨g,p * k,none⟩:=dP _ _
 simp [Builtin.append_,run_underlying hu,Builtin.lenOf,Builtin.firstCells,sizeOf,typeInfo,hi,hs,hroom,ld,st,ad]
theorem jE {z:Value} (hz:z.cells.size=k) (m:Nat):(Builtin.zeroCells z.cells m).toList.length=m * k:=by rw [Array.length_toList,size_zeroCells,hz]
theorem xe {z:Value} (h1:∀ v∈z.cells.toList,v.oneCell'=true) (m:Nat):∀ v∈(Builtin.zeroCells z.cells m).toList,v.oneCell'=true:=fun v hv=>by
 unfold Builtin.zeroCells at hv
 simp only [Array.toList_map,List.mem_map,Array.toList_range,List.mem_range] at hv
 obtain⟨j,hj,rfl⟩:=hv
 have h0:0<z.cells.size:=Nat.pos_of_ne_zero fun q=>by rw [q,Nat.mul_zero] at hj;omega
 have hjm:j % z.cells.size<z.cells.size:=Nat.mod_lt _ h0
 rw [getElem!_pos z.cells _ hjm]
 exact h1 _ (Array.getElem_mem_toList hjm)
theorem kY {t:TypeId} {z:Value} (ty:TypeId) (hu:P.underlying t=some (.slice e)) (hv:∀ w,(zeroValue e).run P w=.ok z w) (hz:z.cells.size=k) (hz1:∀ v∈z.cells.toList,v.oneCell'=true) {p m sc:Nat}
  (h:w.ownsRow B e k (.slice (some ⟨g,0,none⟩) (p+m) c) (p+m) xs):∃ cs:List Value,cs.length=m * k ∧
  (Builtin.clear_ #[t] ty #[.slice (some ⟨g,p * k,none⟩) m sc]).run P w=.ok (.tuple #[]) (w.setCells g (p * k) cs):=by
 rcases m with _ | m
 ·refine⟨[],by simp,?_⟩
  simp [Builtin.clear_,run_underlying hu,World.setCells]
 ·refine⟨(Builtin.zeroCells z.cells (m+1)).toList,jE hz _,?_⟩
  have hl:=jE hz (m+1)
  have hfit:p * k+(Builtin.zeroCells z.cells (m+1)).toList.length≤xs.length:=by rw [hl,h.1,← Nat.add_mul];exact Nat.le_refl _
  have th:=lK h (o:=p * k) hfit
  have st:=run_storeCells_cells (P:=P) g (p * k) (Builtin.zeroCells z.cells (m+1)).toList 0 w (fun j hj=>by simpa using (th j hj).1) (fun j hj=>by simpa using (th j hj).2) (xe hz1 _)
  rw [Nat.add_zero] at st
  simp [Builtin.clear_,run_underlying hu,hv,st]
theorem jT {t tx:TypeId} {i:TypeInfo} {z:Value} {kx kd:IntKind} (ty:TypeId) (hu:P.underlying t=some (.slice e)) (htx:P.underlying tx=some (.int kx)) (hi:P.info? e=some i) (hz:i.zero=some z) (hs:i.size=k) (hzs:z.cells.size=k) (k0:0<k)
  (h:w.ownsRow B e k (.slice (some ⟨g,0,none⟩) n c) n xs) {m base:Nat} (m0:0<m) (hg:c<n+m) (h63:n+m≤maxLen) (hb:(n+m) * i.bytes≤140737488355328) (hbase:base≤w.heap.size) :
  ∃ c' zs w',zs.length=m * k∧n+m≤c'∧(Builtin.append_ #[t,tx] ty #[.slice (some ⟨g,0,none⟩) n c,.int kd (m:Int)]).run P w=.ok (.slice (some ⟨w.heap.size,0,none⟩) (n+m) c') w' ∧
   w'.ownsRow base e k (.slice (some ⟨w.heap.size,0,none⟩) (n+m) c') (n+m) (xs++zs)∧Below w.heap.size w w':=by
 subst hs
 have hold:=run_firstCells_some (P:=P) w.drew i.size n ⟨g,0,none⟩ n c xs h.1 (by simpa using h.cells (g:=g) rfl)
 have hmb:m * i.bytes≤140737488355328:=Nat.le_trans (Nat.mul_le_mul_right _ (Nat.le_add_left _ _)) hb
 have hr:=Lib.run_append_grow_zeros (P:=P) w t tx ty e i z kd kx hu htx hi hz (some ⟨g,0,none⟩) n c xs hold m m0 k0 hg (by unfold maxLen at h63;omega) (by omega) (growslice_fits (by omega) hb)
 have q:=FB w (base:=base) (e:=e) (z:=z) (size:=i.size) (need:=n+m) (old:=c) (xs:=xs++(Builtin.zeroCells z.cells m).toList) hbase (by rw [List.length_append,h.1,jE hzs,Nat.add_mul]) hzs h63
 refine⟨_,(Builtin.zeroCells z.cells m).toList,_,jE hzs m,(aO q).2,hr,?_,⟨rfl,rfl,rfl,by simp,fun k hk=>Below.heap_alloc w.drew _ k hk⟩⟩
 rw [← List.append_toArray,Array.toArray_toList] at q
 exact q
end
section
variable {xs ys zs v : List Value} {p n k : Nat}
theorem mo {A Y Z V:List Value} {o:Nat} (ho:o=A.length) (hy:Y.length=V.length):splice (A++(Y++Z)) o V=A++(V++Z):=by
 subst ho
 unfold splice
 rw [List.take_left,← hy,← List.drop_drop,List.drop_left,List.drop_left]
theorem uS (hx:xs.length=n * k) (hy:ys.length=k) (hv:v.length=k) (hp:p≤n):splice (splice (xs++ys) ((p+1) * k) (xs.drop (p * k))) (p * k) v=xs.take (p * k)++v++xs.drop (p * k):=by
 have pk:p * k≤n * k:=Nat.mul_le_mul_right _ hp
 have e1:(p+1) * k=p * k+k:=by rw [Nat.add_mul,Nat.one_mul]
 have tl:((xs++ys).take ((p+1) * k)).length=(p+1) * k:=by rw [List.length_take,List.length_append,hx,hy];omega
 have s1:=mo (A:=(xs++ys).take ((p+1) * k)) (Y:=(xs++ys).drop ((p+1) * k)) (Z:=[]) (V:=xs.drop (p * k)) (o:=(p+1) * k) tl.symm (by rw [List.length_drop,List.length_drop,List.length_append,hx,hy];omega)
 rw [List.append_nil,List.take_append_drop,List.append_nil] at s1
 rw [s1]
 have t2:(xs++ys).take ((p+1) * k)=xs.take (p * k)++((xs++ys).drop (p * k)).take k:=by
  rw [e1,List.take_add,List.take_append_of_le_length (by rw [hx];exact pk)]
 rw [t2,List.append_assoc,mo (by rw [List.length_take,hx];omega) (by rw [List.length_take,List.length_drop,List.length_append,hx,hy,hv];omega),List.append_assoc]
theorem gV (hx:xs.length=n * k) (hz:zs.length=(n+1 - p) * k) (hv:v.length=k) (hp:p≤n):splice (splice (xs.take (p * k)++zs) (p * k) v) ((p+1) * k) (xs.drop (p * k))=xs.take (p * k)++v++xs.drop (p * k):=by
 have pk:p * k≤n * k:=Nat.mul_le_mul_right _ hp
 have e1:(p+1) * k=p * k+k:=by rw [Nat.add_mul,Nat.one_mul]
 have tl:(xs.take (p * k)).length=p * k:=by rw [List.length_take,hx];omega
 have zl:zs.length=(n * k - p * k)+k:=by rw [hz,show n+1 - p=(n - p)+1 by omega,Nat.add_mul,Nat.one_mul,Nat.mul_sub_right_distrib]
 have zt:zs=zs.take k++zs.drop k:=(List.take_append_drop k zs).symm
 rw [zt,mo tl.symm (by rw [List.length_take,zl,hv];omega)]
 have s2:=mo (A:=xs.take (p * k)++v) (Y:=zs.drop k) (Z:=[]) (V:=xs.drop (p * k)) (o:=(p+1) * k) (by rw [List.length_append,tl,hv,e1]) (by rw [List.length_drop,List.length_drop,zl,hx];omega)
 rw [List.append_nil,List.append_nil] at s2
 rw [← List.append_assoc,s2]
theorem uH (hx:xs.length=n * k) (hp:p<n):(splice xs (p * k) (xs.drop ((p+1) * k))).take ((n - 1) * k)=xs.take (p * k)++xs.drop ((p+1) * k):=by
 have pk:(p+1) * k≤n * k:=Nat.mul_le_mul_right _ hp
 have e1:(p+1) * k=p * k+k:=by rw [Nat.add_mul,Nat.one_mul]
 have e2:(n - 1) * k=n * k - k:=by rw [Nat.mul_sub_right_distrib,Nat.one_mul]
 unfold splice
 have tl:(xs.take (p * k)++xs.drop ((p+1) * k)).length=(n - 1) * k:=by rw [List.length_append,List.length_take,List.length_drop,hx,e2];omega
 rw [← tl,← List.append_assoc]
 exact List.take_left
end
namespace Sr
section
variable {α : Type} {lt : α → α → Bool}
def pos (p:α→Bool) (l:List α):Nat:=(l.takeWhile p).length
theorem pO {p:α→Bool}:∀ {l:List α},pos p l≤l.length
 | []=>Nat.le_refl _
 | x :: l=>by
  unfold pos List.takeWhile
  split
  ·have:=pO (p:=p) (l:=l)
   unfold pos at this
   simp only [List.length_cons]
   omega
  ·exact Nat.zero_le _
theorem jJ {p:α→Bool} {x:α} {l:List α}:pos p (x :: l)=if p x=true then pos p l+1 else 0:=by
 unfold pos
 rw [List.takeWhile_cons]
 split <;> rfl
theorem om {p:α→Bool}:∀ {l:List α} {i:Nat} {x:α},l.Pairwise (fun a b=>p b=true→p a=true)→l[i]?=some x→(i<pos p l↔p x=true)
 | [],i,x,_,h=>by simp at h
 | y :: l,0,x,hd,h=>by
  simp only [List.getElem?_cons_zero,Option.some.injEq] at h
  subst h
  rw [jJ]
  split <;> simp_all
 | y :: l,i+1,x,hd,h=>by
  rw [List.getElem?_cons_succ] at h
  have hp:=List.pairwise_cons.1 hd
  rw [jJ]
  split
  ·rw [Nat.add_lt_add_iff_right]
   exact om hp.2 h
  ·rename_i q
   constructor
   ·intro z;omega
   ·intro z;exact absurd (hp.1 x (List.mem_of_getElem? h) z) q
theorem yl {p q:α→Bool} {l:List α} (hd:l.Pairwise fun a b=>p b=true→p a=true) (hq:l.Pairwise fun a b=>q b=true→p a=true) (hn:∀ x∈l,q x=true→p x=false):l.any q=true↔∃ x,l[pos p l]?=some x∧q x=true:=by
 constructor
 ·intro h
  obtain⟨x,hx,qx⟩:=List.any_eq_true.1 h
  obtain⟨i,hi,ei⟩:=List.mem_iff_getElem.1 hx
  have ge:l[i]?=some x:=by rw [List.getElem?_eq_getElem hi,ei]
  have np:¬ i<pos p l:=fun z=>by
   have:=(om hd ge).1 z
   rw [hn x hx qx] at this;cases this
  rcases Nat.lt_or_ge (pos p l) i with r | r
  ·have hpl:pos p l<l.length:=by omega
   have hy:=List.pairwise_iff_getElem.1 hq (pos p l) i hpl hi r
   rw [ei] at hy
   have:=(om hd (List.getElem?_eq_getElem hpl)).2 (hy qx)
   omega
  ·obtain rfl:i=pos p l:=by omega
   exact⟨x,ge,qx⟩
 ·rintro⟨x,hx,qx⟩
  exact List.any_eq_true.2 ⟨x,List.mem_of_getElem? hx,qx⟩
theorem tV {x:α}:∀ {l:List α},(∀ y∈l,lt y x=true∨lt x y=true)→ins lt x l=l.take (pos (fun y=>lt y x) l)++x :: l.drop (pos (fun y=>lt y x) l)
 | [],_=>rfl
 | y :: l,h=>by
  rw [jJ]
  unfold ins
  by_cases q:lt y x=true
  ·rw [if_pos q,if_pos q,tV fun z hz=>h z (List.mem_cons_of_mem _ hz)]
   rfl
  ·rw [if_neg q,if_neg q,if_pos ((h y List.mem_cons_self).resolve_left q)]
   rfl
end
end Sr
end
section
open Go.Shelf Go.RowKit Go.Lib Go.Sort
theorem fD (er:Int) (w:World):Calls prog 95 #[.bool false,.int .i64 er] w fun e w'=>e=.returned (.tuple #[])∧w=w':=by
 go_enter func95,ntmps95
 go_wp2
 go_end0
 exact⟨rfl,rfl⟩
theorem eZ (er:Int) (w:World):Calls prog 95 #[.bool true,.int .i64 er] w fun e w'=>e=.panicked [{ v:=.iface 92 (.int .i64 er),recovered:=false }]∧w=w':=by
 go_enter func95,ntmps95
 go_wp2
 exact⟨rfl,rfl,rfl⟩
theorem y8 (w:World):Calls prog 77 #[.int .i64 0] w fun e w'=>e=.returned (.tuple #[])∧w=w':=by
 go_enter func77,ntmps77
 go_wp2_with (go_at_call 95;refine (fD _ _).mono ?_;rintro e w' ⟨rfl,rfl⟩)
 go_end0
 exact⟨rfl,rfl⟩
theorem Bo {er:Int} (h:er≠0) (w:World):Calls prog 77 #[.int .i64 er] w fun e w'=>e=.panicked [{ v:=.iface 92 (.int .i64 er),recovered:=false }]∧w=w':=by
 have h1:(er != 0)=true:=by simpa using h
 clear h
 go_enter func77,ntmps77
 go_wp2_with (go_at_call 95;refine (eZ _ _).mono ?_;rintro e w' ⟨rfl,rfl⟩)
 exact⟨rfl,rfl,rfl⟩
namespace T9
def iX (ls:List Li) (id:Nat):Nat:=Sr.pos (fun l=>decide (l.id<id)) ls
def dW (ts:List Tk) (id:Nat):Nat:=Sr.pos (fun t=>decide (t.id<id)) ts
def oM (ts:List (List UInt8)) (x:List UInt8):Nat:=Sr.pos (fun t=>dN t x) ts
def rZ (ts:List (List UInt8)) (x:List UInt8):Bool:=ts.any fun t=>decide (t=x)
theorem downL {ls:List Li} {id:Nat} (hu:ls.Pairwise fun x y=>x.id<y.id):ls.Pairwise fun a b=>(fun l:Li=>decide (l.id<id)) b=true→(fun l:Li=>decide (l.id<id)) a=true :=
 hu.imp fun q r=>decide_eq_true (Nat.lt_trans q (of_decide_eq_true r))
theorem downK {ls:List Tk} {id:Nat} (hu:ls.Pairwise fun x y=>x.id<y.id):ls.Pairwise fun a b=>(fun l:Tk=>decide (l.id<id)) b=true→(fun l:Tk=>decide (l.id<id)) a=true :=
 hu.imp fun q r=>decide_eq_true (Nat.lt_trans q (of_decide_eq_true r))
theorem downT {ls:List (List UInt8)} {x:List UInt8} (hu:Sr.Str dN ls):ls.Pairwise fun a b=>(fun t=>dN t x) b=true→(fun t=>dN t x) a=true :=
 List.Pairwise.imp (R:=fun a b=>dN a b=true) (fun q r=>MO.tr _ _ _ q r) hu
theorem Lj {ls:List Li} {id:Nat} (hu:ls.Pairwise fun x y=>x.id<y.id) {i:Nat} {l:Li} (h:ls[i]?=some l):i<iX ls id↔l.id<id:=by
 rw [iX,Sr.om (downL hu) h,decide_eq_true_eq]
theorem Bv {ls:List Tk} {id:Nat} (hu:ls.Pairwise fun x y=>x.id<y.id) {i:Nat} {l:Tk} (h:ls[i]?=some l):i<dW ls id↔l.id<id:=by
 rw [dW,Sr.om (downK hu) h,decide_eq_true_eq]
theorem Ll {ls:List (List UInt8)} {x:List UInt8} (hu:Sr.Str dN ls) {i:Nat} {l:List UInt8} (h:ls[i]?=some l):i<oM ls x↔dN l x=true :=
 Sr.om (downT hu) h
theorem qF {ls:List Li} {id:Nat} (hu:ls.Pairwise fun x y=>x.id<y.id):bC ls id=true↔∃ l,ls[iX ls id]?=some l∧l.id=id:=by
 have q:=Sr.yl (q:=fun l:Li=>l.id==id) (downL (id:=id) hu) (hu.imp fun q r=>decide_eq_true (by rw [beq_iff_eq] at r;omega)) (fun x _ r=>decide_eq_false (by rw [beq_iff_eq] at r;omega))
 unfold bC iX
 rw [q]
 simp only [beq_iff_eq]
theorem lW {ls:List Tk} {id:Nat} (hu:ls.Pairwise fun x y=>x.id<y.id):eB ls id=true↔∃ l,ls[dW ls id]?=some l∧l.id=id:=by
 have q:=Sr.yl (q:=fun l:Tk=>l.id==id) (downK (id:=id) hu) (hu.imp fun q r=>decide_eq_true (by rw [beq_iff_eq] at r;omega)) (fun x _ r=>decide_eq_false (by rw [beq_iff_eq] at r;omega))
 unfold eB dW
 rw [q]
 simp only [beq_iff_eq]
theorem yO {ls:List (List UInt8)} {x:List UInt8} (hu:Sr.Str dN ls):rZ ls x=true↔∃ l,ls[oM ls x]?=some l∧l=x:=by
 have q:=Sr.yl (q:=fun l:List UInt8=>decide (l=x)) (downT (x:=x) hu) (List.Pairwise.imp (R:=fun a b=>dN a b=true) (fun {a b} q r=>by have:=of_decide_eq_true r;subst this;exact q) hu) (fun y _ r=>by have:=of_decide_eq_true r;subst this;exact MO.irr y)
 unfold rZ oM
 rw [q]
 simp only [decide_eq_true_eq]
end T9
theorem qV (m:T9.Li) (id:Nat) (W:World):Calls prog 139 #[.agg (a_ m).toArray,.int .u64 (id:Int)] W fun e w'=>e=.returned (.int .i64 (iD m.id id))∧Below W.heap.size W w':=by
 obtain⟨w1,hw1⟩:=nm (W.alloc (.cells (a_ m).toArray 61))
 unfold a_ at hw1 ⊢
 obtain⟨lb,b1,z1⟩:=aj hw1
 obtain⟨l0,l1⟩:=aa lb
 have B1:=hid b1
 clear b1 lb z1
 go_enter func139,ntmps139
 go_wp2_with (go_at_call 117;refine (rU _ _ _).mono ?_;rintro e w' ⟨rfl,rfl⟩)
 go_ret
 exact⟨rfl,B1.out⟩
theorem qU (m:aN) (id:Nat) (W:World):Calls prog 146 #[.agg (aA m).toArray,.int .u64 (id:Int)] W fun e w'=>e=.returned (.int .i64 (iD m.t.id id))∧Below W.heap.size W w':=by
 obtain⟨w1,hw1⟩:=nm (W.alloc (.cells (aA m).toArray 64))
 unfold aA at hw1 ⊢
 obtain⟨lb,b1,z1⟩:=bf hw1
 obtain⟨l0,l1,l2,l3,l4,l5,l6⟩:=ak lb
 have B1:=hid b1
 clear b1 lb z1
 go_enter func146,ntmps146
 go_wp2_with (go_at_call 117;refine (rU _ _ _).mono ?_;rintro e w' ⟨rfl,rfl⟩)
 go_ret
 exact⟨rfl,B1.out⟩
theorem Il {A:Option Addr} {n c id:Nat} {ms:List T9.Li} {w:World} (hk:LL w A ms) (hn:n=ms.length) (hs:n≤1000000) (hu:(ms).Pairwise fun x y=>x.id<y.id) :
  Calls prog 138 #[.slice A n c,.int .u64 (id:Int),.func (.func 139) #[] #[]] w fun e w'=>e=.returned (.tuple #[.int .i64 (T9.iX (ms) id:Int),.bool (T9.bC (ms) id)])∧Below w.heap.size w w':=by
 have HK:=hid hk
 have HN:=hid hn
 obtain⟨k,hk0⟩:=nm (T9.iX (ms) id)
 obtain⟨hb,hb0⟩:=nm (T9.bC (ms) id)
 have kn:k≤n:=by rw [← hk0,hn];exact Nat.le_trans Sr.pO (by simp)
 have ids:Hid (∀ i t,(ms)[i]?=some t→(i<k↔t.id<id)):=hid fun i t hi=>by rw [← hk0];exact T9.Lj hu hi
 have HAS:Hid (hb=true↔∃ l,(ms)[k]?=some l∧l.id=id):=hid (by rw [← hk0,← hb0];exact T9.qF hu)
 rw [hk0,hb0]
 have HK0:=hid hk0
 clear hk hn hu hk0 hb0
 go_enter func138,ntmps138
 go_wp2_with fail
 go_loopg [9,10] n (fun kx s9 s10 wr=>∃ lo hi:Nat,s9=.int .i64 lo∧s10=.int .i64 hi∧lo≤hi∧hi≤n∧hi - lo≤kx∧lo≤k∧k≤hi∧Aside (Below w.heap.size w wr))
 case atStart=>exact⟨0,n,rfl,rfl,Nat.zero_le _,Nat.le_refl _,by omega,Nat.zero_le _,kn,Below.refl _ _⟩
 case round =>
  obtain⟨lo,hi,rfl,rfl,hlh,hin,hg,hlk,hkh,hB⟩:=hrel
  have BR:=hid hB.out
  clear hB
  by_cases hlt:lo<hi
  ·obtain⟨ad,m,hA,hx,r0,r1⟩:=(HK.out.stay BR.out).at_ (k:=(lo+hi) / 2) (by have:=HN.out;omega)
   subst hA
   have ids:=ids.out _ _ hx
   have PC:=hid (qV m id wr)
   unfold a_ at PC
   clear hx
   by_cases hc:(lo+hi) / 2<k
   ·have e:iD m.id id=-1:=by unfold iD;rw [if_pos (ids.1 hc)]
    rw [e] at PC
    clear ids e
    go_wp2_with (go_at_call 139;refine PC.out.mono ?_;rintro e w' ⟨rfl,h2⟩;have H2:=hid h2;clear h2)
    go_roundg (hi - ((lo+hi) / 2+1))
    case measure=>omega
    case rel=>exact⟨(lo+hi) / 2+1,hi,by rw [show ((lo:Int)+(hi:Int)) / 2+1=(((lo+hi) / 2+1:Nat):Int) by omega],rfl,by omega,hin,Nat.le_refl _,by omega,hkh,BR.out.trans (H2.out.mono BR.out.size)⟩
   ·have e:∃ v:Int,iD m.id id=v∧0≤v:=by
     refine⟨_,rfl,?_⟩
     unfold iD
     rw [if_neg (fun q=>hc (ids.2 q))]
     split <;> omega
    obtain⟨v,e,hv⟩:=e
    have hvn:¬ (v<0):=by omega
    rw [e] at PC
    clear ids e
    go_wp2_with (go_at_call 139;refine PC.out.mono ?_;rintro e w' ⟨rfl,h2⟩;have H2:=hid h2;clear h2)
    go_roundg ((lo+hi) / 2 - lo)
    case measure=>omega
    case rel=>exact⟨lo,(lo+hi) / 2,rfl,by rw [show ((lo:Int)+(hi:Int)) / 2=(((lo+hi) / 2:Nat):Int) by omega],by omega,by omega,Nat.le_refl _,by omega,by omega,BR.out.trans (H2.out.mono BR.out.size)⟩
  ·obtain rfl:hi=lo:=by omega
   obtain rfl:k=hi:=by omega
   by_cases hkn:k<n
   ·have knz:(k:Int)<(n:Int):=by omega
    obtain⟨ad,m,hA,hx,r0,r1⟩:=(HK.out.stay BR.out).at_ (k:=k) (by have:=HN.out;omega)
    subst hA
    have PC:=hid (qV m id wr)
    unfold a_ at PC
    have idk:=ids.out _ _ hx
    have hm:hb=true↔m.id=id:=by
     rw [HAS.out,hx]
     simp
    clear hx
    cases hb with
    | true =>
     have e:iD m.id id=0:=by
      unfold iD
      rw [hm.1 rfl,if_neg (Nat.lt_irrefl _),if_neg (Nat.lt_irrefl _)]
     rw [e] at PC
     clear hm idk e
     go_wp2_with (go_at_call 139;refine PC.out.mono ?_;rintro e w' ⟨rfl,h2⟩;have H2:=hid h2;clear h2)
     go_ret2
     exact⟨rfl,BR.out.trans (H2.out.mono BR.out.size)⟩
    | false =>
     have e:iD m.id id=1:=by
      have q:¬ m.id<id:=fun z=>Nat.lt_irrefl _ (idk.2 z)
      have q2:m.id≠id:=fun z=>by have:=hm.2 z;cases this
      unfold iD
      rw [if_neg q,if_pos (by omega)]
     rw [e] at PC
     clear hm idk e
     go_wp2_with (go_at_call 139;refine PC.out.mono ?_;rintro e w' ⟨rfl,h2⟩;have H2:=hid h2;clear h2)
     go_ret2
     exact⟨rfl,BR.out.trans (H2.out.mono BR.out.size)⟩
   ·obtain rfl:k=n:=by omega
    have knz:¬ ((k:Int)<(k:Int)):=by omega
    have hm:hb=false:=by
     cases hb with
     | false=>rfl
     | true =>
      obtain⟨l,hl,_⟩:=HAS.out.1 rfl
      rw [List.getElem?_eq_none (by have:=HN.out;simp;omega)] at hl
      cases hl
    subst hm
    go_wp2_with fail
    go_ret2
    exact⟨rfl,BR.out⟩
theorem Ik {A:Option Addr} {n c id:Nat} {ms:List aN} {w:World} (hk:KL w A ms) (hn:n=ms.length) (hs:n≤1000000) (hu:(ay ms).Pairwise fun x y=>x.id<y.id) :
  Calls prog 144 #[.slice A n c,.int .u64 (id:Int),.func (.func 146) #[] #[]] w fun e w'=>e=.returned (.tuple #[.int .i64 (T9.dW (ay ms) id:Int),.bool (T9.eB (ay ms) id)])∧Below w.heap.size w w':=by
 have HK:=hid hk
 have HN:=hid hn
 obtain⟨k,hk0⟩:=nm (T9.dW (ay ms) id)
 obtain⟨hb,hb0⟩:=nm (T9.eB (ay ms) id)
 have kn:k≤n:=by rw [← hk0,hn];exact Nat.le_trans Sr.pO (by simp [aK])
 have ids:Hid (∀ i t,(ay ms)[i]?=some t→(i<k↔t.id<id)):=hid fun i t hi=>by rw [← hk0];exact T9.Bv hu hi
 have HAS:Hid (hb=true↔∃ l,(ay ms)[k]?=some l∧l.id=id):=hid (by rw [← hk0,← hb0];exact T9.lW hu)
 rw [hk0,hb0]
 have HK0:=hid hk0
 clear hk hn hu hk0 hb0
 go_enter func144,ntmps144
 go_wp2_with fail
 go_loopg [9,10] n (fun kx s9 s10 wr=>∃ lo hi:Nat,s9=.int .i64 lo∧s10=.int .i64 hi∧lo≤hi∧hi≤n∧hi - lo≤kx∧lo≤k∧k≤hi∧Aside (Below w.heap.size w wr))
 case atStart=>exact⟨0,n,rfl,rfl,Nat.zero_le _,Nat.le_refl _,by omega,Nat.zero_le _,kn,Below.refl _ _⟩
 case round =>
  obtain⟨lo,hi,rfl,rfl,hlh,hin,hg,hlk,hkh,hB⟩:=hrel
  have BR:=hid hB.out
  clear hB
  by_cases hlt:lo<hi
  ·obtain⟨ad,m,hA,hx,hf,r0,r1,r2,r3,r4,r5,r6⟩:=(HK.out.stay BR.out).at_ (k:=(lo+hi) / 2) (by have:=HN.out;omega)
   subst hA
   have ids:=ids.out _ _ (iA hx)
   have PC:=hid (qU m id wr)
   unfold aA at PC
   clear hx hf
   by_cases hc:(lo+hi) / 2<k
   ·have e:iD m.t.id id=-1:=by unfold iD;rw [if_pos (ids.1 hc)]
    rw [e] at PC
    clear ids e
    go_wp2_with (go_at_call 146;refine PC.out.mono ?_;rintro e w' ⟨rfl,h2⟩;have H2:=hid h2;clear h2)
    go_roundg (hi - ((lo+hi) / 2+1))
    case measure=>omega
    case rel=>exact⟨(lo+hi) / 2+1,hi,by rw [show ((lo:Int)+(hi:Int)) / 2+1=(((lo+hi) / 2+1:Nat):Int) by omega],rfl,by omega,hin,Nat.le_refl _,by omega,hkh,BR.out.trans (H2.out.mono BR.out.size)⟩
   ·have e:∃ v:Int,iD m.t.id id=v∧0≤v:=by
     refine⟨_,rfl,?_⟩
     unfold iD
     rw [if_neg (fun q=>hc (ids.2 q))]
     split <;> omega
    obtain⟨v,e,hv⟩:=e
    have hvn:¬ (v<0):=by omega
    rw [e] at PC
    clear ids e
    go_wp2_with (go_at_call 146;refine PC.out.mono ?_;rintro e w' ⟨rfl,h2⟩;have H2:=hid h2;clear h2)
    go_roundg ((lo+hi) / 2 - lo)
    case measure=>omega
    case rel=>exact⟨lo,(lo+hi) / 2,rfl,by rw [show ((lo:Int)+(hi:Int)) / 2=(((lo+hi) / 2:Nat):Int) by omega],by omega,by omega,Nat.le_refl _,by omega,by omega,BR.out.trans (H2.out.mono BR.out.size)⟩
  ·obtain rfl:hi=lo:=by omega
   obtain rfl:k=hi:=by omega
   by_cases hkn:k<n
   ·have knz:(k:Int)<(n:Int):=by omega
    obtain⟨ad,m,hA,hx,hf,r0,r1,r2,r3,r4,r5,r6⟩:=(HK.out.stay BR.out).at_ (k:=k) (by have:=HN.out;omega)
    subst hA
    have PC:=hid (qU m id wr)
    unfold aA at PC
    have idk:=ids.out _ _ (iA hx)
    have hm:hb=true↔m.t.id=id:=by
     rw [HAS.out,iA hx]
     simp
    clear hx hf
    cases hb with
    | true =>
     have e:iD m.t.id id=0:=by
      unfold iD
      rw [hm.1 rfl,if_neg (Nat.lt_irrefl _),if_neg (Nat.lt_irrefl _)]
     rw [e] at PC
     clear hm idk e
     go_wp2_with (go_at_call 146;refine PC.out.mono ?_;rintro e w' ⟨rfl,h2⟩;have H2:=hid h2;clear h2)
     go_ret2
     exact⟨rfl,BR.out.trans (H2.out.mono BR.out.size)⟩
    | false =>
     have e:iD m.t.id id=1:=by
      have q:¬ m.t.id<id:=fun z=>Nat.lt_irrefl _ (idk.2 z)
      have q2:m.t.id≠id:=fun z=>by have:=hm.2 z;cases this
      unfold iD
      rw [if_neg q,if_pos (by omega)]
     rw [e] at PC
     clear hm idk e
     go_wp2_with (go_at_call 146;refine PC.out.mono ?_;rintro e w' ⟨rfl,h2⟩;have H2:=hid h2;clear h2)
     go_ret2
     exact⟨rfl,BR.out.trans (H2.out.mono BR.out.size)⟩
   ·obtain rfl:k=n:=by omega
    have knz:¬ ((k:Int)<(k:Int)):=by omega
    have hm:hb=false:=by
     cases hb with
     | false=>rfl
     | true =>
      obtain⟨l,hl,_⟩:=HAS.out.1 rfl
      rw [List.getElem?_eq_none (by have:=HN.out;simp [aK];omega)] at hl
      cases hl
    subst hm
    go_wp2_with fail
    go_ret2
    exact⟨rfl,BR.out⟩
theorem uZ {s:aQ} {id:Nat} {w:World} (h:SM s w) (hs:s.ls.length≤1000000) (hu:(s.ls).Pairwise fun x y=>x.id<y.id) :
  Calls prog 101 #[s.val,.int .u64 (id:Int)] w fun e w'=>e=.returned (.tuple #[.int .i64 (T9.iX (s.ls) id:Int),.bool (T9.bC (s.ls) id)])∧Below w.heap.size w w':=by
 obtain⟨w1,hw1⟩:=nm (w.alloc (.cells #[.slice s.A s.ls.length s.c,.slice s.A2 s.ms.length s.c2] 26))
 obtain⟨pb,b1,z1⟩:=aj hw1
 obtain⟨p0,p1⟩:=aa pb
 have B1:=hid b1
 have SC:=hid (Il (c:=s.c) (id:=id) (h.l.stay b1) rfl hs hu)
 obtain⟨pp,gy⟩:=nm (T9.iX (s.ls) id)
 obtain⟨hh,gU⟩:=nm (T9.bC (s.ls) id)
 rw [gy,gU] at SC ⊢
 unfold aQ.val
 clear h hs hu pb b1 z1 gy gU
 go_enter func101,ntmps101
 go_wp2_with (go_at_call 138;refine SC.out.mono ?_;rintro e w' ⟨rfl,h2⟩;have H2:=hid h2;clear h2)
 go_ret2
 exact⟨rfl,B1.out.trans (H2.out.mono B1.out.size)⟩
theorem je {s:aQ} {id:Nat} {w:World} (h:SM s w) (hs:s.ls.length≤1000000) (hu:(s.ls).Pairwise fun x y=>x.id<y.id) (hh:T9.bC (s.ls) id=true) :
  Calls prog 103 #[s.val,.int .u64 (id:Int)] w fun e w'=>e=.returned (.int .i64 (T9.iX (s.ls) id:Int))∧Below w.heap.size w w':=by
 obtain⟨w1,hw1⟩:=nm (w.alloc (.cells #[.slice s.A s.ls.length s.c,.slice s.A2 s.ms.length s.c2] 26))
 obtain⟨pb,b1,z1⟩:=aj hw1
 obtain⟨p0,p1⟩:=aa pb
 have B1:=hid b1
 have SC:=hid (uZ (id:=id) (h.stay b1) hs hu)
 obtain⟨pp,gy⟩:=nm (T9.iX (s.ls) id)
 rw [gy,hh] at SC
 rw [gy]
 unfold aQ.val at SC ⊢
 clear h hs hu pb b1 z1 gy hh
 go_enter func103,ntmps103
 go_wp2_with (first | (go_at_call 101;refine SC.out.mono ?_;rintro e w' ⟨rfl,h2⟩;have H2:=hid h2;clear h2) | (go_at_call 95;refine (fD _ _).mono ?_;rintro e w' ⟨rfl,rfl⟩))
 go_ret
 exact⟨rfl,B1.out.trans (H2.out.mono B1.out.size)⟩
theorem jI {s:aQ} {id:Nat} {w:World} (h:SM s w) (hs:s.ls.length≤1000000) (hu:(s.ls).Pairwise fun x y=>x.id<y.id) (hh:T9.bC (s.ls) id=false) :
  Calls prog 103 #[s.val,.int .u64 (id:Int)] w fun e w'=>e=.panicked [{ v:=.iface 92 (.int .i64 91),recovered:=false }]∧Below w.heap.size w w':=by
 obtain⟨w1,hw1⟩:=nm (w.alloc (.cells #[.slice s.A s.ls.length s.c,.slice s.A2 s.ms.length s.c2] 26))
 obtain⟨pb,b1,z1⟩:=aj hw1
 obtain⟨p0,p1⟩:=aa pb
 have B1:=hid b1
 have SC:=hid (uZ (id:=id) (h.stay b1) hs hu)
 obtain⟨pp,gy⟩:=nm (T9.iX (s.ls) id)
 rw [gy,hh] at SC
 unfold aQ.val at SC ⊢
 clear h hs hu pb b1 z1 gy hh
 go_enter func103,ntmps103
 go_wp2_with (first | (go_at_call 101;refine SC.out.mono ?_;rintro e w' ⟨rfl,h2⟩;have H2:=hid h2;clear h2) | (go_at_call 95;refine (eZ _ _).mono ?_;rintro e w' ⟨rfl,rfl⟩))
 exact⟨rfl,rfl,B1.out.trans (H2.out.mono B1.out.size)⟩
theorem wC {s:aQ} {id:Nat} {w:World} (h:SM s w) (hs:s.ms.length≤1000000) (hu:(ay s.ms).Pairwise fun x y=>x.id<y.id) :
  Calls prog 109 #[s.val,.int .u64 (id:Int)] w fun e w'=>e=.returned (.tuple #[.int .i64 (T9.dW (ay s.ms) id:Int),.bool (T9.eB (ay s.ms) id)])∧Below w.heap.size w w':=by
 obtain⟨w1,hw1⟩:=nm (w.alloc (.cells #[.slice s.A s.ls.length s.c,.slice s.A2 s.ms.length s.c2] 26))
 obtain⟨pb,b1,z1⟩:=aj hw1
 obtain⟨p0,p1⟩:=aa pb
 have B1:=hid b1
 have SC:=hid (Ik (c:=s.c2) (id:=id) (h.k.stay b1) rfl hs hu)
 obtain⟨pp,gy⟩:=nm (T9.dW (ay s.ms) id)
 obtain⟨hh,gU⟩:=nm (T9.eB (ay s.ms) id)
 rw [gy,gU] at SC ⊢
 unfold aQ.val
 clear h hs hu pb b1 z1 gy gU
 go_enter func109,ntmps109
 go_wp2_with (go_at_call 144;refine SC.out.mono ?_;rintro e w' ⟨rfl,h2⟩;have H2:=hid h2;clear h2)
 go_ret2
 exact⟨rfl,B1.out.trans (H2.out.mono B1.out.size)⟩
theorem lY {s:aQ} {id:Nat} {w:World} (h:SM s w) (hs:s.ms.length≤1000000) (hu:(ay s.ms).Pairwise fun x y=>x.id<y.id) (hh:T9.eB (ay s.ms) id=true) :
  Calls prog 111 #[s.val,.int .u64 (id:Int)] w fun e w'=>e=.returned (.int .i64 (T9.dW (ay s.ms) id:Int))∧Below w.heap.size w w':=by
 obtain⟨w1,hw1⟩:=nm (w.alloc (.cells #[.slice s.A s.ls.length s.c,.slice s.A2 s.ms.length s.c2] 26))
 obtain⟨pb,b1,z1⟩:=aj hw1
 obtain⟨p0,p1⟩:=aa pb
 have B1:=hid b1
 have SC:=hid (wC (id:=id) (h.stay b1) hs hu)
 obtain⟨pp,gy⟩:=nm (T9.dW (ay s.ms) id)
 rw [gy,hh] at SC
 rw [gy]
 unfold aQ.val at SC ⊢
 clear h hs hu pb b1 z1 gy hh
 go_enter func111,ntmps111
 go_wp2_with (first | (go_at_call 109;refine SC.out.mono ?_;rintro e w' ⟨rfl,h2⟩;have H2:=hid h2;clear h2) | (go_at_call 95;refine (fD _ _).mono ?_;rintro e w' ⟨rfl,rfl⟩))
 go_ret
 exact⟨rfl,B1.out.trans (H2.out.mono B1.out.size)⟩
theorem nG {s:aQ} {id:Nat} {w:World} (h:SM s w) (hs:s.ms.length≤1000000) (hu:(ay s.ms).Pairwise fun x y=>x.id<y.id) (hh:T9.eB (ay s.ms) id=false) :
  Calls prog 111 #[s.val,.int .u64 (id:Int)] w fun e w'=>e=.panicked [{ v:=.iface 92 (.int .i64 93),recovered:=false }]∧Below w.heap.size w w':=by
 obtain⟨w1,hw1⟩:=nm (w.alloc (.cells #[.slice s.A s.ls.length s.c,.slice s.A2 s.ms.length s.c2] 26))
 obtain⟨pb,b1,z1⟩:=aj hw1
 obtain⟨p0,p1⟩:=aa pb
 have B1:=hid b1
 have SC:=hid (wC (id:=id) (h.stay b1) hs hu)
 obtain⟨pp,gy⟩:=nm (T9.dW (ay s.ms) id)
 rw [gy,hh] at SC
 unfold aQ.val at SC ⊢
 clear h hs hu pb b1 z1 gy hh
 go_enter func111,ntmps111
 go_wp2_with (first | (go_at_call 109;refine SC.out.mono ?_;rintro e w' ⟨rfl,h2⟩;have H2:=hid h2;clear h2) | (go_at_call 95;refine (eZ _ _).mono ?_;rintro e w' ⟨rfl,rfl⟩))
 exact⟨rfl,rfl,B1.out.trans (H2.out.mono B1.out.size)⟩
end
end
section
open Go.RowKit Go.Lib
def yh (s:T9.St) (m:T9.Mu) (w:World) (e:Ending) (w':World):Prop:=∃ (q:aQ) (er:Int),e=.returned (.tuple #[q.val,.int .i64 er])∧kR q w'∧Below w.heap.size w w'∧q.st=(T9.bA s m).1∧er=(T9.bA s m).2
theorem kR.qN {w:World}:kR ⟨[],none,0,[],none,0⟩ w:=⟨au.nil,au.nil,by simp,Nat.le_refl _,Nat.le_refl _⟩
end
section
open Go.RowKit Go.Lib
theorem lX (b:Nat) (w:World):Calls prog 98 #[.float .f64 b] w fun e w'=>e=.returned (.bool (T9.n_ b))∧w=w':=by
 go_enter func98,ntmps98
 go_wp2_with (first | (go_at_call 93;refine (float64bits_c _ _).mono ?_;rintro e w' ⟨rfl,rfl⟩) | (go_at_call 86;refine (nV _ _).mono ?_;rintro e w' ⟨rfl,rfl⟩))
 go_ret
 exact⟨rfl,rfl⟩
theorem jC {g:Nat} {all what:Int} {b:Bool} {W:World} (hc:W.cell? ⟨g,0,none⟩=some (.int .i64 all)) (hx:(bits BinOp.and IntKind.i64 all what != 0)=b) :
  Calls prog 97 #[.int .i64 what,.pointer (some ⟨g,0,none⟩)] W fun e w'=>e=.returned (.bool b)∧W=w':=by
 go_enter func97,ntmps97
 go_wp2
 go_ret
 exact⟨rfl,rfl⟩
theorem Kv (w:World):Calls prog 96 #[.int .i64 1] w fun e w'=>e=.returned (.int .i64 10)∧w=w':=by
 go_enter func96,ntmps96
 go_wp2
 go_ret
 exact⟨rfl,rfl⟩
theorem Kw (w:World):Calls prog 96 #[.int .i64 2] w fun e w'=>e=.returned (.int .i64 2)∧w=w':=by
 go_enter func96,ntmps96
 go_wp2
 go_ret
 exact⟨rfl,rfl⟩
theorem Ky (w:World):Calls prog 96 #[.int .i64 3] w fun e w'=>e=.returned (.int .i64 45)∧w=w':=by
 go_enter func96,ntmps96
 go_wp2
 go_ret
 exact⟨rfl,rfl⟩
theorem Kz (w:World):Calls prog 96 #[.int .i64 4] w fun e w'=>e=.returned (.int .i64 12)∧w=w':=by
 go_enter func96,ntmps96
 go_wp2
 go_ret
 exact⟨rfl,rfl⟩
theorem KA (w:World):Calls prog 96 #[.int .i64 5] w fun e w'=>e=.returned (.int .i64 132)∧w=w':=by
 go_enter func96,ntmps96
 go_wp2
 go_ret
 exact⟨rfl,rfl⟩
theorem KD (w:World):Calls prog 96 #[.int .i64 6] w fun e w'=>e=.returned (.int .i64 37)∧w=w':=by
 go_enter func96,ntmps96
 go_wp2
 go_ret
 exact⟨rfl,rfl⟩
theorem KE (w:World):Calls prog 96 #[.int .i64 7] w fun e w'=>e=.returned (.int .i64 36)∧w=w':=by
 go_enter func96,ntmps96
 go_wp2
 go_ret
 exact⟨rfl,rfl⟩
theorem KF (w:World):Calls prog 96 #[.int .i64 8] w fun e w'=>e=.returned (.int .i64 68)∧w=w':=by
 go_enter func96,ntmps96
 go_wp2
 go_ret
 exact⟨rfl,rfl⟩
theorem KG (w:World):Calls prog 96 #[.int .i64 9] w fun e w'=>e=.returned (.int .i64 20)∧w=w':=by
 go_enter func96,ntmps96
 go_wp2
 go_ret
 exact⟨rfl,rfl⟩
theorem Hd (w:World):Calls prog 96 #[.int .i64 10] w fun e w'=>e=.returned (.int .i64 20)∧w=w':=by
 go_enter func96,ntmps96
 go_wp2
 go_ret
 exact⟨rfl,rfl⟩
theorem He (w:World):Calls prog 96 #[.int .i64 11] w fun e w'=>e=.returned (.int .i64 4)∧w=w':=by
 go_enter func96,ntmps96
 go_wp2
 go_ret
 exact⟨rfl,rfl⟩
theorem Hf (w:World):Calls prog 96 #[.int .i64 12] w fun e w'=>e=.returned (.int .i64 1)∧w=w':=by
 go_enter func96,ntmps96
 go_wp2
 go_ret
 exact⟨rfl,rfl⟩
theorem Hg (w:World):Calls prog 96 #[.int .i64 13] w fun e w'=>e=.returned (.int .i64 1)∧w=w':=by
 go_enter func96,ntmps96
 go_wp2
 go_ret
 exact⟨rfl,rfl⟩
theorem lI {w w1:World} {a b c d e f:Value} (v:Int) (pb:w1.heap[w.heap.size]?=some (.cells #[a,b,c,d,e,f] 57 (0,0))) (b1:Below w.heap.size w w1) :
  ∃ w2,w1.alloc (.cells #[.int .i64 v] 3)=w2∧w2.cell? ⟨w1.heap.size,0,none⟩=some (.int .i64 v)∧(w2.cell? ⟨w.heap.size,0,none⟩=some a∧w2.cell? ⟨w.heap.size,1,none⟩=some b∧w2.cell? ⟨w.heap.size,2,none⟩=some c∧w2.cell? ⟨w.heap.size,3,none⟩=some d∧w2.cell? ⟨w.heap.size,4,none⟩=some e∧w2.cell? ⟨w.heap.size,5,none⟩=some f)∧Hid (Below w.heap.size w w2):=by
 have b2:=(Below.refl _ w1).alloc (Nat.le_refl _) (.cells #[.int .i64 v] 3)
 exact⟨_,rfl,cell_of_one (heap_alloc_new w1 _),ag ((b2.block w.heap.size (lt_of_block pb)).trans pb),hid (b1.trans (b2.mono b1.size))⟩
theorem fI (n:Nat):(Hid (n=0)∧((n:Int) != 0)=false∧((n:Int)==0)=true)∨(Hid (¬ n=0)∧((n:Int) != 0)=true∧((n:Int)==0)=false):=by
 by_cases h:n=0
 ·subst h;exact Or.inl ⟨hid rfl,rfl,rfl⟩
 ·exact Or.inr ⟨hid h,by rw [bne_iff_ne];omega,by rw [beq_eq_false_iff_ne];omega⟩
theorem dR (b:Bool):b=false∨b=true:=by cases b;exact Or.inl rfl;exact Or.inr rfl
theorem qO (b:Bool):(b=false∧(!b)=true)∨(b=true∧(!b)=false):=by cases b;exact Or.inl ⟨rfl,rfl⟩;exact Or.inr ⟨rfl,rfl⟩
theorem sV (l:List UInt8):(Hid (l=[])∧l.isEmpty=true∧(!l.isEmpty)=false)∨(Hid (¬ l=[])∧l.isEmpty=false∧(!l.isEmpty)=true):=by
 cases l with
 | nil=>exact Or.inl ⟨hid rfl,rfl,rfl⟩
 | cons a l=>exact Or.inr ⟨hid (by simp),rfl,rfl⟩
theorem lJ {g:Nat} {all:Int} {b1 b2 b4 b6 b8 b16 De b32 Df pF:Bool} {W:World} (hc:W.cell? ⟨g,0,none⟩=some (.int .i64 all)) (h:[bits BinOp.and IntKind.i64 all 1 != 0,bits BinOp.and IntKind.i64 all 2 != 0,bits BinOp.and IntKind.i64 all 4 != 0,bits BinOp.and IntKind.i64 all 6 != 0,bits BinOp.and IntKind.i64 all 8 != 0,bits BinOp.and IntKind.i64 all 16 != 0,bits BinOp.and IntKind.i64 all 24 != 0,bits BinOp.and IntKind.i64 all 32 != 0,bits BinOp.and IntKind.i64 all 96 != 0,bits BinOp.and IntKind.i64 all 128 != 0]=[b1,b2,b4,b6,b8,b16,De,b32,Df,pF]) :
  Hid (Calls prog 97 #[.int .i64 1,.pointer (some ⟨g,0,none⟩)] W fun e w'=>e=.returned (.bool b1)∧W=w')∧Hid (Calls prog 97 #[.int .i64 2,.pointer (some ⟨g,0,none⟩)] W fun e w'=>e=.returned (.bool b2)∧W=w')∧Hid (Calls prog 97 #[.int .i64 4,.pointer (some ⟨g,0,none⟩)] W fun e w'=>e=.returned (.bool b4)∧W=w')∧Hid (Calls prog 97 #[.int .i64 6,.pointer (some ⟨g,0,none⟩)] W fun e w'=>e=.returned (.bool b6)∧W=w')∧Hid (Calls prog 97 #[.int .i64 8,.pointer (some ⟨g,0,none⟩)] W fun e w'=>e=.returned (.bool b8)∧W=w')∧Hid (Calls prog 97 #[.int .i64 16,.pointer (some ⟨g,0,none⟩)] W fun e w'=>e=.returned (.bool b16)∧W=w')∧Hid (Calls prog 97 #[.int .i64 24,.pointer (some ⟨g,0,none⟩)] W fun e w'=>e=.returned (.bool De)∧W=w')∧Hid (Calls prog 97 #[.int .i64 32,.pointer (some ⟨g,0,none⟩)] W fun e w'=>e=.returned (.bool b32)∧W=w')∧Hid (Calls prog 97 #[.int .i64 96,.pointer (some ⟨g,0,none⟩)] W fun e w'=>e=.returned (.bool Df)∧W=w')∧Hid (Calls prog 97 #[.int .i64 128,.pointer (some ⟨g,0,none⟩)] W fun e w'=>e=.returned (.bool pF)∧W=w'):=by
 simp only [List.cons.injEq,and_true] at h
 obtain⟨h1,h2,h4,h6,h8,h16,h24,h32,h96,h128⟩:=h
 exact⟨hid (jC hc h1),hid (jC hc h2),hid (jC hc h4),hid (jC hc h6),hid (jC hc h8),hid (jC hc h16),hid (jC hc h24),hid (jC hc h32),hid (jC hc h96),hid (jC hc h128)⟩
end
section
open Go.RowKit Go.Lib
theorem GY {m:T9.Mu} {w:World}:Calls prog 24 #[m.val] w fun e w'=>e=.returned (.bool (decide (m.text.length≤200)))∧Below w.heap.size w w':=by
 unfold T9.Mu.val
 obtain⟨w1,hw1⟩:=nm (w.alloc (.cells #[.int .i64 m.kind,.int .u64 (m.id:Int),.int .u64 (m.list:Int),.string (str m.text),.float .f64 m.f,.bool m.flag] 57))
 obtain⟨pb,b1,z1⟩:=bn hw1
 obtain⟨p0,p1,p2,p3,p4,p5⟩:=ag pb
 have B1:=hid b1
 have sz:(str m.text).size=m.text.length:=rfl
 clear pb b1 z1
 by_cases h:m.text.length≤200
 ·have hz:((str m.text).size:Int)≤200:=by rw [sz];omega
  have e:=hid (decide_eq_true h)
  clear h sz
  go_enter func24,ntmps24
  go_wp2
  go_ret
  exact⟨aI (by rw [e.out]),B1.out⟩
 ·have hz:¬ (((str m.text).size:Int)≤200):=by rw [sz];omega
  have e:=hid (decide_eq_false h)
  clear h sz
  go_enter func24,ntmps24
  go_wp2
  go_ret
  exact⟨aI (by rw [e.out]),B1.out⟩
end
section
section
open Go.ChangeShapes Go.WideShapes Go.ChangeAt Go.RowKit Go.Deep Go.Lib
structure It where
 who:Nat
 id:Nat
 m:T9.Mu
instance:Inhabited It:=⟨⟨0,0,⟨0,0,0,[],0,false⟩⟩⟩
def encI (x:It):List Value:=[.int .u64 (x.who:Int),.int .u64 (x.id:Int),.int .i64 x.m.kind,.int .u64 (x.m.id:Int),.int .u64 (x.m.list:Int),.string (str x.m.text),.float .f64 x.m.f,.bool x.m.flag]
def It.ok (x:It):Prop:=x.m.ok
theorem uK (x:It):(encI x).length=8:=rfl
theorem JL (x:It):∀ v∈encI x,v.oneCell'=true:=by
 intro v hv
 simp only [encI,List.mem_cons,List.not_mem_nil,or_false] at hv
 rcases hv with rfl | rfl | rfl | rfl | rfl | rfl | rfl | rfl <;> rfl
def ax (xs:List It):List Value:=xs.flatMap encI
theorem dw (xs:List It):(ax xs).length=xs.length * 8:=jb fun x _=>uK x
theorem nu (xs:List It):∀ v∈ax xs,v.oneCell'=true:=fun v hv=>by
 obtain⟨l,_,h⟩:=List.mem_flatMap.1 hv
 exact JL l v h
theorem jH (xs ys:List It):ax (xs++ys)=ax xs++ax ys:=by simp [ax]
def cZ (xs:List It):List T9.Mu:=xs.map (·.m)
theorem gI (xs:List It):(cZ xs).length=xs.length:=by simp [cZ]
theorem Bf (xs ys:List It):cZ (xs++ys)=cZ xs++cZ ys:=by simp [cZ]
theorem tZ {xs:List It} {i:Nat} {x:It} (h:xs[i]?=some x):(cZ xs)[i]?=some x.m:=by simp [cZ,h]
theorem xM (xs:List It) (i:Nat):cZ (xs.take i)=(cZ xs).take i:=by simp [cZ,List.map_take]
def IL (w:World) (A:Option Addr) (xs:List It):Prop:=au w w.heap.size 0 A (ax xs)
section
variable {w w' : World} {A : Option Addr} {xs : List It}
theorem IL.stay (h:IL w A xs) (hb:Below w.heap.size w w'):IL w' A xs:=au.stay h hb
theorem IL.nil:IL w A []:=au.nil
theorem IL.at_ (h:IL w A xs) {k:Nat} (hk:k<xs.length):∃ ad x,A=some ad∧xs[k]?=some x∧w.cell? (ad.add (k * 8))=some (.int .u64 (x.who:Int))∧w.cell? ⟨(ad.add (k * 8)).block,(ad.add (k * 8)).off+1,none⟩=some (.int .u64 (x.id:Int)) ∧
  w.cell? ⟨(ad.add (k * 8)).block,(ad.add (k * 8)).off+2,none⟩=some (.int .i64 x.m.kind)∧w.cell? ⟨(ad.add (k * 8)).block,(ad.add (k * 8)).off+3,none⟩=some (.int .u64 (x.m.id:Int))∧w.cell? ⟨(ad.add (k * 8)).block,(ad.add (k * 8)).off+4,none⟩=some (.int .u64 (x.m.list:Int)) ∧
  w.cell? ⟨(ad.add (k * 8)).block,(ad.add (k * 8)).off+5,none⟩=some (.string (str x.m.text))∧w.cell? ⟨(ad.add (k * 8)).block,(ad.add (k * 8)).off+6,none⟩=some (.float .f64 x.m.f)∧w.cell? ⟨(ad.add (k * 8)).block,(ad.add (k * 8)).off+7,none⟩=some (.bool x.m.flag):=by
 have hx:xs[k]?=some xs[k]:=List.getElem?_eq_getElem hk
 obtain⟨ad,e,_,hc⟩:=h (fun q=>by have:=dw xs;rw [q] at this;simp at this;omega)
 have c:∀ j u,j<8→(encI xs[k])[j]?=some u→w.cell? ((ad.add (k * 8)).add j)=some u:=fun j u hj hu=>by
  rw [addr_add]
  exact hc _ _ ((ig (f:=encI) (size:=8) (fun l _=>uK l) hx hj).trans hu)
 exact⟨ad,xs[k],e,hx,c 0 _ (by omega) rfl,c 1 _ (by omega) rfl,c 2 _ (by omega) rfl,c 3 _ (by omega) rfl,c 4 _ (by omega) rfl,c 5 _ (by omega) rfl,c 6 _ (by omega) rfl,c 7 _ (by omega) rfl⟩
end
theorem kg {w:World} {a b c d e f g h:Value} {t:TypeId} {u:World} (q:w.alloc (.cells #[a,b,c,d,e,f,g,h] t)=u):u.heap[w.heap.size]?=some (.cells #[a,b,c,d,e,f,g,h] t (0,0))∧Below w.heap.size w u∧u.heap.size=w.heap.size+1:=by
 subst q
 exact⟨heap_alloc_new w _,(Below.refl _ w).alloc (Nat.le_refl _) _,by simp⟩
theorem iQ {w:World} {p:Nat} {t:TypeId} {a b c d e f g h:Value} {fr:Nat × Nat} (q:w.heap[p]?=some (.cells #[a,b,c,d,e,f,g,h] t fr)):w.cell? ⟨p,0,none⟩=some a∧w.cell? ⟨p,1,none⟩=some b∧w.cell? ⟨p,2,none⟩=some c∧w.cell? ⟨p,3,none⟩=some d∧w.cell? ⟨p,4,none⟩=some e∧w.cell? ⟨p,5,none⟩=some f∧w.cell? ⟨p,6,none⟩=some g∧w.cell? ⟨p,7,none⟩=some h:=by
 simp [World.cell?,q]
variable {H : Type} {enc : TypeId × Value → H} {w : World} {base : Nat}
theorem Tryz.eight14:prog.cellsOf 59=8:=by kernel_rfl
theorem Tryz.six14:prog.cellsOf 57=6:=by kernel_rfl
theorem Ac {fuel:Nat} {cs:List Value} {x:DataW H × List MemPlace} (h:DataW.trod enc prog w 0 (fun _=>true) true fuel 57 cs=some x) :
  ∃ m:T9.Mu,cs=encMu m∧m.ok:=by
 obtain⟨xs,n,_,_,hlen,hxl,hf⟩:=DataW.trod_struct underlying57 h
 rw [Tryz.six14] at hlen
 match cs,hlen with
 | [c0,c1,c2,c3,c4,c5],_ =>
  match xs,hxl with
  | [y0,y1,y2,y3,y4,y5],_ =>
   have h0:DataW.trod enc prog w 0 (fun _=>true) true n 3 (([c0,c1,c2,c3,c4,c5].drop 0).take (prog.cellsOf 3))=some y0:=hf 0 _ rfl
   rw [Tryz.one11i] at h0
   have h1:DataW.trod enc prog w 0 (fun _=>true) true n 22 (([c0,c1,c2,c3,c4,c5].drop 1).take (prog.cellsOf 22))=some y1:=hf 1 _ rfl
   rw [Tryz.one9u] at h1
   have h2:DataW.trod enc prog w 0 (fun _=>true) true n 22 (([c0,c1,c2,c3,c4,c5].drop 2).take (prog.cellsOf 22))=some y2:=hf 2 _ rfl
   rw [Tryz.one9u] at h2
   have h3:DataW.trod enc prog w 0 (fun _=>true) true n 9 (([c0,c1,c2,c3,c4,c5].drop 3).take (prog.cellsOf 9))=some y3:=hf 3 _ rfl
   rw [Tryz.one9s] at h3
   have h4:DataW.trod enc prog w 0 (fun _=>true) true n 55 (([c0,c1,c2,c3,c4,c5].drop 4).take (prog.cellsOf 55))=some y4:=hf 4 _ rfl
   rw [Tryz.one9f] at h4
   have h5:DataW.trod enc prog w 0 (fun _=>true) true n 4 (([c0,c1,c2,c3,c4,c5].drop 5).take (prog.cellsOf 4))=some y5:=hf 5 _ rfl
   rw [Tryz.one9b] at h5
   obtain⟨k0,e0,_,_⟩:=DataW.trod_int underlying3 (h0:DataW.trod enc prog w 0 (fun _=>true) true n 3 [c0]=some y0)
   have g0:c0=_:=List.head_eq_of_cons_eq e0
   subst g0
   obtain⟨k1,e1,_,w1⟩:=DataW.trod_int underlying22 (h1:DataW.trod enc prog w 0 (fun _=>true) true n 22 [c1]=some y1)
   have g1:c1=_:=List.head_eq_of_cons_eq e1
   obtain⟨i1,q1⟩:=Int.eq_ofNat_of_zero_le (wf_u64 w1).1
   have b1:=(wf_u64 w1).2
   subst g1;subst q1
   obtain⟨k2,e2,_,w2⟩:=DataW.trod_int underlying22 (h2:DataW.trod enc prog w 0 (fun _=>true) true n 22 [c2]=some y2)
   have g2:c2=_:=List.head_eq_of_cons_eq e2
   obtain⟨i2,q2⟩:=Int.eq_ofNat_of_zero_le (wf_u64 w2).1
   have b2:=(wf_u64 w2).2
   subst g2;subst q2
   obtain⟨sb,e3,_,_⟩:=DataW.trod_string underlying9 (h3:DataW.trod enc prog w 0 (fun _=>true) true n 9 [c3]=some y3)
   have g3:c3=.string (str sb.data.toList):=(List.head_eq_of_cons_eq e3).trans (by rw [ou])
   subst g3
   obtain⟨i4,e4,_,w4⟩:=nS underlying55 (h4:DataW.trod enc prog w 0 (fun _=>true) true n 55 [c4]=some y4)
   have g4:c4=_:=List.head_eq_of_cons_eq e4
   have b4:=Mv w4
   subst g4
   obtain⟨i5,e5,_⟩:=DataW.trod_bool underlying4 (h5:DataW.trod enc prog w 0 (fun _=>true) true n 4 [c5]=some y5)
   have g5:c5=_:=List.head_eq_of_cons_eq e5
   subst g5
   exact⟨⟨k0,i1,i2,sb.data.toList,i4,i5⟩,rfl,by show i1<_;omega,by show i2<_;omega,b4⟩
theorem yu {fuel:Nat} {cs:List Value} {x:DataW H × List MemPlace} (h:DataW.trod enc prog w 0 (fun _=>true) true fuel 59 cs=some x) :
  ∃ q:It,cs=encI q∧q.ok∧q.who<18446744073709551616∧q.id<18446744073709551616:=by
 obtain⟨xs,n,_,_,hlen,hxl,hf⟩:=DataW.trod_struct underlying59 h
 rw [Tryz.eight14] at hlen
 match cs,hlen with
 | [c0,c1,c2,c3,c4,c5,c6,c7],_ =>
  match xs,hxl with
  | [y0,y1,y2],_ =>
   have h0:DataW.trod enc prog w 0 (fun _=>true) true n 22 (([c0,c1,c2,c3,c4,c5,c6,c7].drop 0).take (prog.cellsOf 22))=some y0:=hf 0 _ rfl
   rw [Tryz.one9u] at h0
   have h1:DataW.trod enc prog w 0 (fun _=>true) true n 22 (([c0,c1,c2,c3,c4,c5,c6,c7].drop 1).take (prog.cellsOf 22))=some y1:=hf 1 _ rfl
   rw [Tryz.one9u] at h1
   have h2:DataW.trod enc prog w 0 (fun _=>true) true n 57 (([c0,c1,c2,c3,c4,c5,c6,c7].drop 2).take (prog.cellsOf 57))=some y2:=hf 2 _ rfl
   rw [Tryz.six14] at h2
   obtain⟨k0,e0,_,w0⟩:=DataW.trod_int underlying22 (h0:DataW.trod enc prog w 0 (fun _=>true) true n 22 [c0]=some y0)
   have g0:c0=_:=List.head_eq_of_cons_eq e0
   obtain⟨i0,q0⟩:=Int.eq_ofNat_of_zero_le (wf_u64 w0).1
   have b0:=(wf_u64 w0).2
   subst g0;subst q0
   obtain⟨k1,e1,_,w1⟩:=DataW.trod_int underlying22 (h1:DataW.trod enc prog w 0 (fun _=>true) true n 22 [c1]=some y1)
   have g1:c1=_:=List.head_eq_of_cons_eq e1
   obtain⟨i1,q1⟩:=Int.eq_ofNat_of_zero_le (wf_u64 w1).1
   have b1:=(wf_u64 w1).2
   subst g1;subst q1
   obtain⟨m,e2,hm⟩:=Ac (show DataW.trod enc prog w 0 (fun _=>true) true n 57 [c2,c3,c4,c5,c6,c7]=some y2 from h2)
   refine⟨⟨i0,i1,m⟩,?_,hm,by show i0<_;omega,by show i1<_;omega⟩
   show _ :: _ :: _=_ :: _ :: encMu m
   rw [← e2]
theorem yZ {v:Value} {d:DataW H} {ps:List MemPlace} (hval:Value.okWide prog w .any base 27 v) (h:DataW.Trod enc prog w 0 (fun _=>true) true 27 v d ps) :
  ∃ (A:Option Addr) (c:Nat) (xs:List It),v=.slice A xs.length c∧xs.length≤c∧IL w A xs∧(∀ q∈xs,q.ok∧q.who<18446744073709551616∧q.id<18446744073709551616)∧c≤maxLen:=by
 obtain⟨a0,len0,cap0,rfl⟩:=okWide_slice underlying27 hval
 obtain⟨fuel,hf⟩:=h
 rcases open_slice underlying27 hf with⟨hcs,_⟩ | ⟨a,len,cap,m,n,D,Pl,hcs,_,hl,hm,hmm,_,hi⟩
 ·simp [Value.cells] at hcs
  obtain⟨rfl,rfl,rfl⟩:=hcs
  exact⟨none,0,[],rfl,Nat.le_refl _,IL.nil,by simp,Nat.zero_le _⟩
 ·simp [Value.cells] at hcs
  obtain⟨rfl,rfl,rfl⟩:=hcs
  simp only [if_true] at hmm
  subst hmm
  rw [Tryz.eight14] at hi
  obtain⟨ls,h1,h2,h3⟩:=l8 (w:=w) (E:=encI) (k:=8) (by omega) (fun x=>uK x) (p:=fun q=>q.ok∧q.who<18446744073709551616∧q.id<18446744073709551616) (a:=a) (len:=len0) (fun i hlt=>by
   obtain⟨cs',hc,ht⟩:=hi i (by omega)
   obtain⟨q,rfl,hok⟩:=yu ht
   obtain⟨_,hcl,hat⟩:=World.cells?_some hc
   refine⟨q,fun j u hu=>?_,hok⟩
   have hj:j<8:=by
    rcases Nat.lt_or_ge j (encI q).length with z | z
    ·exact z
    ·rw [List.getElem?_eq_none z] at hu;cases hu
   have:=hat j hj
   rw [addr_add] at this
   rw [this];exact hu)
  exact⟨some a,m,ls,by rw [h1],by omega,h2,h3,hm⟩
theorem j5 {v:Value} {d:DataW H} {ps:List MemPlace} (hval:Value.okWide prog w .any base 27 v) (h:DataW.Trod enc prog w 0 (fun _=>true) true 27 v d ps) :
  ∃ (A:Option Addr) (c:Nat) (xs:List It),v=.slice A xs.length c∧xs.length≤c∧IL w A xs∧(∀ q∈xs,q.ok)∧c≤maxLen:=by
 obtain⟨A,c,xs,h1,h2,h3,h4,h5⟩:=yZ hval h
 exact⟨A,c,xs,h1,h2,h3,fun q hq=>(h4 q hq).1,h5⟩
end
end
section
section
open Go.RowKit Go.Lib Go.Shelf
def FewOk (n:Nat) (xs:List It) (w:World) (e:Ending) (w':World):Prop:=∃ b,e=.returned (.bool b)∧(b=true→n≤30∧∀ x∈xs,x.m.text.length≤200)∧Below w.heap.size w w'
theorem tQ {A:Option Addr} {n c:Nat} {xs:List It} {w:World} (h:IL w A xs) (hn:n=xs.length) (hs:n≤maxLen) :
  Calls prog 8 #[.slice A n c] w (FewOk n xs w):=by
 have H:=hid h
 have HN:=hid hn
 have hs:n≤9223372036854775807:=by unfold maxLen at hs;omega
 clear h hn
 go_enter func8,ntmps8
 go_wp2
 go_loopw [7] (fun s7 wr=>∃ i:Nat,s7=.int .i64 i∧i≤n∧Hid (∀ x∈xs.take i,x.m.text.length≤200)∧Hid (Below w.heap.size w wr)) (fun s7 _=>n - (intOf s7).toNat)
 case atStart=>exact⟨0,rfl,Nat.zero_le _,hid (by simp),hid (Below.refl _ _)⟩
 case round =>
  obtain⟨i,rfl,hi,HU,BR⟩:=hrel
  by_cases hlt:i<n
  ·have hltz:(i:Int)<(n:Int):=by omega
   obtain⟨ad,x,hA,hx,r0,r1,r2,r3,r4,r5,r6,r7⟩:=(H.out.stay BR.out).at_ (k:=i) (by rw [← HN.out];exact hlt)
   obtain⟨xw,xi,⟨mk,mi,ml,mt,mf,mg⟩⟩:=x
   dsimp only at r0 r1 r2 r3 r4 r5 r6 r7
   subst hA
   have X:=hid hx
   obtain⟨wa,dB⟩:=nm (wr.alloc (.cells #[.int .u64 (xw:Int),.int .u64 (xi:Int),.int .i64 mk,.int .u64 (mi:Int),.int .u64 (ml:Int),.string (str mt),.float .f64 mf,.bool mg] 59))
   obtain⟨lb,ba,_⟩:=kg dB
   have BA:Hid (Below w.heap.size w wa):=hid (BR.out.trans (ba.mono BR.out.size))
   obtain⟨l0,l1,l2,l3,l4,l5,l6,l7⟩:=iQ lb
   have LI:=hid (GY (m:=⟨mk,mi,ml,mt,mf,mg⟩) (w:=wa))
   unfold T9.Mu.val at LI
   clear hx lb ba
   by_cases hl:mt.length≤200
   ·rw [decide_eq_true hl] at LI
    have U:Hid (∀ y∈xs.take (i+1),y.m.text.length≤200):=hid fun y hy=>by
     rw [bH X.out] at hy
     rcases List.mem_append.1 hy with q | q
     ·exact HU.out y q
     ·rw [List.mem_singleton] at q
      subst q
      exact hl
    clear hl
    go_wp2_with fail
    refine LI.out.mono ?_
    rintro e wb ⟨rfl,hb⟩
    have BB:Hid (Below w.heap.size w wb):=hid (BA.out.trans (hb.mono BA.out.size))
    clear hb
    go_wp2_with fail
    go_roundw
    case rel=>exact⟨i+1,by go_num,by omega,U,BB⟩
    case measure=>simp [intOf];omega
   ·rw [decide_eq_false hl] at LI
    clear hl
    go_wp2_with fail
    refine LI.out.mono ?_
    rintro e wb ⟨rfl,hb⟩
    go_wp2_with fail
    go_ret
    exact⟨false,rfl,by simp,BA.out.trans (hb.mono BA.out.size)⟩
  ·obtain rfl:i=n:=by omega
   have hltz:¬ ((i:Int)<(i:Int)):=by omega
   by_cases h8:i≤30
   ·have hz:(i:Int)≤30:=by omega
    go_wp2
    go_ret
    exact⟨true,aI (by simp),fun _=>⟨h8,by have:=HU.out;rwa [HN.out,List.take_length] at this⟩,BR.out⟩
   ·have hz:¬ ((i:Int)≤30):=by omega
    go_wp2
    go_ret
    exact⟨false,aI (by simp),by simp,BR.out⟩
end
end
section
open Go.Shelf Go.RowKit Go.Lib Go.Sort
@[go_sem] theorem buildL10 (w : World) : (Instr.build 61 #[(0, .int .u64 1), (1, .string ⟨#[108]⟩)]).run prog w = .ok (.agg #[.int .u64 1, .string ⟨#[108]⟩]) w := run_build w 61 _ _ (by kernel_rfl)
@[go_sem] theorem buildKa10 (w : World) : (Instr.build 64 #[(0, .int .u64 1), (1, .int .u64 1), (2, .string ⟨#[97]⟩), (4, .float .f64 4607182418800017408)]).run prog w = .ok (.agg #[.int .u64 1, .int .u64 1, .string ⟨#[97]⟩, .bool false, .float .f64 4607182418800017408, .float .f64 0, .slice none 0 0]) w := run_build w 64 _ _ (by kernel_rfl)
@[go_sem] theorem buildKb10 (w : World) : (Instr.build 64 #[(0, .int .u64 2), (1, .int .u64 1), (2, .string ⟨#[98]⟩), (4, .float .f64 4611686018427387904)]).run prog w = .ok (.agg #[.int .u64 2, .int .u64 1, .string ⟨#[98]⟩, .bool false, .float .f64 4611686018427387904, .float .f64 0, .slice none 0 0]) w := run_build w 64 _ _ (by kernel_rfl)
@[go_sem] theorem buildS10 (A A2 : Option Addr) (n c n2 c2 : Nat) (w : World) : (Instr.build 26 #[(0, .slice A n c), (1, .slice A2 n2 c2)]).run prog w = .ok (.agg #[.slice A n c, .slice A2 n2 c2]) w := run_build w 26 _ _ (by kernel_rfl)
end
section
section
open Go.RowKit Go.Lib
def It.val (x:It):Value:=.agg #[.int .u64 (x.who:Int),.int .u64 (x.id:Int),.int .i64 x.m.kind,.int .u64 (x.m.id:Int),.int .u64 (x.m.list:Int),.string (str x.m.text),.float .f64 x.m.f,.bool x.m.flag]
namespace T9
def vW (a b:Mu):Bool:=a.kind==b.kind && (a.id==b.id && (a.list==b.list && (decide (a.text=b.text) && (Fl.same a.f b.f && a.flag==b.flag))))
def pg (a b:It):Bool:=a.who==b.who && (a.id==b.id && vW a.m b.m)
theorem Ex (a:Mu):vW a a=true:=by simp [vW,Fl.same]
theorem Ev (a:It):pg a a=true:=by simp [pg,Ex]
end T9
theorem oh (a b:Nat):((a:Int)==(b:Int))=(a==b):=by
 cases h:(a==b) with
 | true=>simp only [beq_iff_eq] at h;simp [h]
 | false=>simp only [beq_eq_false_iff_ne] at h ⊢;omega
namespace T9
def fO:List It→List It→Bool
 | [],[]=>true
 | a :: l,b :: m=>pg a b && fO l m
 | _,_=>false
theorem nN:∀ l:List It,fO l l=true
 | []=>rfl
 | a :: l=>by simp [fO,Ev,nN l]
theorem vV:∀ {l m:List It},fO l m=true→l.length=m.length
 | [],[],_=>rfl
 | a :: l,b :: m,h=>by
  simp only [fO,Bool.and_eq_true] at h
  rw [List.length_cons,List.length_cons,vV h.2]
 | [],_ :: _,h=>by simp [fO] at h
 | _ :: _,[],h=>by simp [fO] at h
theorem Cb {l m:List It} (hl:l.length=m.length) (a b:It):fO (l++[a]) (m++[b])=(fO l m && pg a b):=by
 induction l generalizing m with
 | nil =>
  cases m with
  | nil=>simp [fO]
  | cons b m=>simp at hl
 | cons x l ih =>
  cases m with
  | nil=>simp at hl
  | cons y m =>
   simp only [List.length_cons,Nat.add_right_cancel_iff] at hl
   simp [fO,ih hl,Bool.and_assoc]
theorem Ew {l m:List It} {k:Nat} {a b:It} (h:l[k]?=some a) (h2:m[k]?=some b) (hq:pg a b=false):fO l m=false:=by
 induction l generalizing m k with
 | nil=>simp at h
 | cons x l ih =>
  cases m with
  | nil=>simp at h2
  | cons y m =>
   cases k with
   | zero =>
    simp only [List.getElem?_cons_zero,Option.some.injEq] at h h2
    subst h;subst h2
    simp [fO,hq]
   | succ k =>
    simp only [List.getElem?_cons_succ] at h h2
    simp [fO,ih h h2]
end T9
theorem zm {a b:T9.Mu} {w:World} (oa:a.f<18446744073709551616) (ob:b.f<18446744073709551616) :
  Calls prog 50 #[a.val,b.val] w fun e w'=>e=.returned (.bool (T9.vW a b))∧Below w.heap.size w w':=by
 obtain⟨k,id,li,tx,f,fg⟩:=a
 obtain⟨k2,id2,li2,tx2,f2,fg2⟩:=b
 dsimp only at oa ob
 obtain⟨R,hR⟩:=nm (T9.vW ⟨k,id,li,tx,f,fg⟩ ⟨k2,id2,li2,tx2,f2,fg2⟩)
 unfold T9.Mu.val
 rw [hR]
 unfold T9.vW at hR
 dsimp only at hR ⊢
 obtain⟨w1,hw1⟩:=nm (w.alloc (.cells #[.int .i64 k,.int .u64 (id:Int),.int .u64 (li:Int),.string (str tx),.float .f64 f,.bool fg] 57))
 obtain⟨pb,b1,z1⟩:=bn hw1
 obtain⟨w2,hw2⟩:=nm (w1.alloc (.cells #[.int .i64 k2,.int .u64 (id2:Int),.int .u64 (li2:Int),.string (str tx2),.float .f64 f2,.bool fg2] 57))
 obtain⟨pY,b2,z2⟩:=bn hw2
 have B:Hid (Below w.heap.size w w2):=hid (b1.trans (b2.mono (by omega)))
 have IJ:=(b2.block w.heap.size (by omega)).trans pb
 obtain⟨p0,p1,p2,p3,p4,p5⟩:=ag IJ
 obtain⟨q0,q1,q2,q3,q4,q5⟩:=ag pY
 have HZ:=hid z1
 clear pb pY IJ b1 b2 z1 z2
 have e2:=oh id id2
 have e3:=oh li li2
 have e4:decide (tx=tx2)=(tx==tx2):=by rw [Bool.eq_iff_iff];simp
 rw [← e2,← e3,e4,Bool.and_comm (Fl.same f f2)] at hR
 clear e2 e3 e4
 cases h1:(k==k2)
 rotate_left;cases h2:((id:Int)==(id2:Int))
 rotate_left;cases h3:((li:Int)==(li2:Int))
 rotate_left;cases h4:(tx==tx2)
 rotate_left;cases h5:(fg==fg2)
 rotate_left;cases h6:Fl.same f f2
 all_goals
  simp only [*,Bool.true_and,Bool.false_and,Bool.and_true,Bool.and_false] at hR
  subst hR
  go_enter func50,ntmps50
  go_wp2_with (go_at_call 65;refine (gY _ _ _ (by assumption) (by assumption)).mono ?_;rintro e w' ⟨rfl,rfl⟩)
  go_ret
  exact⟨rfl,B.out⟩
theorem wX {a b:It} {w:World} (oa:a.m.f<18446744073709551616) (ob:b.m.f<18446744073709551616) :
  Calls prog 39 #[a.val,b.val] w fun e w'=>e=.returned (.bool (T9.pg a b))∧Below w.heap.size w w':=by
 obtain⟨R,hR⟩:=nm (T9.pg a b)
 unfold It.val
 rw [hR]
 unfold T9.pg at hR
 obtain⟨w1,hw1⟩:=nm (w.alloc (.cells #[.int .u64 (a.who:Int),.int .u64 (a.id:Int),.int .i64 a.m.kind,.int .u64 (a.m.id:Int),.int .u64 (a.m.list:Int),.string (str a.m.text),.float .f64 a.m.f,.bool a.m.flag] 59))
 obtain⟨pb,b1,z1⟩:=kg hw1
 obtain⟨w2,hw2⟩:=nm (w1.alloc (.cells #[.int .u64 (b.who:Int),.int .u64 (b.id:Int),.int .i64 b.m.kind,.int .u64 (b.m.id:Int),.int .u64 (b.m.list:Int),.string (str b.m.text),.float .f64 b.m.f,.bool b.m.flag] 59))
 obtain⟨pY,b2,z2⟩:=kg hw2
 have B:Hid (Below w.heap.size w w2):=hid (b1.trans (b2.mono (by omega)))
 have IJ:=(b2.block w.heap.size (by omega)).trans pb
 obtain⟨p0,p1,p2,p3,p4,p5,p6,p7⟩:=iQ IJ
 obtain⟨q0,q1,q2,q3,q4,q5,q6,q7⟩:=iQ pY
 have HZ:=hid z1
 have MS:=hid (zm (a:=a.m) (b:=b.m) (w:=w2) oa ob)
 unfold T9.Mu.val at MS
 clear pb pY IJ b1 b2 z1 z2 oa ob
 obtain⟨sm,hsm⟩:=nm (T9.vW a.m b.m)
 rw [hsm] at MS
 rw [← oh a.who b.who,← oh a.id b.id,hsm] at hR
 clear hsm
 cases h1:((a.who:Int)==(b.who:Int))
 rotate_left;cases h2:((a.id:Int)==(b.id:Int))
 rotate_left;cases sm
 all_goals
  simp only [*,Bool.true_and,Bool.false_and,Bool.and_true,Bool.and_false] at hR
  subst hR
  go_enter func39,ntmps39
  go_wp2_with (go_at_call 50;refine MS.out.mono ?_;rintro e w3 ⟨rfl,h3⟩;have B3:=hid (B.out.trans (h3.mono B.out.size));clear h3)
  go_ret
  first | exact⟨rfl,B3.out⟩ | exact⟨rfl,B.out⟩
theorem nL {A A2:Option Addr} {n c n2 c2:Nat} {ms ks:List It} {w:World} (h:IL w A ms) (h2:IL w A2 ks) (hn:n=ms.length) (hn2:n2=ks.length) (hs:n≤1000000) (s1:∀ m∈ms,m.m.f<18446744073709551616) (s2:∀ m∈ks,m.m.f<18446744073709551616) :
  Calls prog 21 #[.slice A n c,.slice A2 n2 c2] w fun e w'=>e=.returned (.bool (T9.fO ms ks))∧Below w.heap.size w w':=by
 have H:=hid h
 have H2:=hid h2
 have HN:=hid hn
 have rD:=hid hn2
 have S1:=hid s1
 have S2:=hid s2
 clear h h2 hn hn2 s1 s2
 by_cases hl:n=n2
 ·subst hl
  have HL:=hid (HN.out.symm.trans rD.out)
  go_enter func21,ntmps21
  go_wp2_with fail
  go_loopw [13] (fun i wr=>∃ k:Nat,k≤n∧i=.int .i64 k∧Hid (T9.fO (ms.take k) (ks.take k)=true)∧Aside (Below w.heap.size w wr)) (fun i _=>n - (intOf i).toNat)
  case atStart=>exact⟨0,Nat.zero_le _,rfl,hid rfl,Below.refl _ _⟩
  case round =>
   obtain⟨k,hk,rfl,HE,hB⟩:=hrel
   have BR:=hid hB.out
   clear hB
   by_cases hlt:k<n
   ·obtain⟨ad,a,rfl,hm,r0,r1,r2,r3,r4,r5,r6,r7⟩:=(H.out.stay BR.out).at_ (k:=k) (by rw [← HN.out];exact hlt)
    obtain⟨ad2,b,rfl,hm2,q0,q1,q2,q3,q4,q5,q6,q7⟩:=(H2.out.stay BR.out).at_ (k:=k) (by rw [← rD.out];exact hlt)
    have HM:=hid hm
    have Gb:=hid hm2
    clear hm hm2
    have k0:0≤(k:Int):=by omega
    have k1:(k:Int)<(n:Int):=by omega
    have CT:Hid (Calls prog 39 #[.agg #[.int .u64 (a.who:Int),.int .u64 (a.id:Int),.int .i64 a.m.kind,.int .u64 (a.m.id:Int),.int .u64 (a.m.list:Int),.string (str a.m.text),.float .f64 a.m.f,.bool a.m.flag],.agg #[.int .u64 (b.who:Int),.int .u64 (b.id:Int),.int .i64 b.m.kind,.int .u64 (b.m.id:Int),.int .u64 (b.m.list:Int),.string (str b.m.text),.float .f64 b.m.f,.bool b.m.flag]] wr.drew fun e w'=>e=.returned (.bool (T9.pg a b))∧Below wr.drew.heap.size wr.drew w'):=hid (by
     exact wX (S1.out a (List.mem_of_getElem? HM.out)) (S2.out b (List.mem_of_getElem? Gb.out)))
    cases hq:T9.pg a b with
    | true =>
     have HQ:=hid hq
     rw [hq] at CT
     clear hq
     go_wp2_with fail
     go_still_tail 8,(by kernel_rfl)
     change wpList _ _ _ _ _ wr.drew
     go_wp2_with fail
     refine CT.out.mono ?_
     rintro e w9 ⟨rfl,h9⟩
     have B9:Hid (Below w.heap.size w w9):=hid (BR.out.trans (((Below.refl _ wr).drew.trans h9).mono BR.out.size))
     clear h9
     go_wp2
     go_roundw
     case rel=>exact⟨k+1,by omega,by go_num,hid (by rw [bH HM.out,bH Gb.out,T9.Cb (by rw [List.length_take,List.length_take,HL.out]),HE.out,HQ.out];rfl),B9.out⟩
     case measure=>simp [intOf];omega
    | false =>
     have R:Hid (T9.fO ms ks=false):=hid (T9.Ew HM.out Gb.out hq)
     rw [hq] at CT
     clear hq
     go_wp2_with fail
     go_still_tail 8,(by kernel_rfl)
     change wpList _ _ _ _ _ wr.drew
     go_wp2_with fail
     refine CT.out.mono ?_
     rintro e w9 ⟨rfl,h9⟩
     have B9:Hid (Below w.heap.size w w9):=hid (BR.out.trans (((Below.refl _ wr).drew.trans h9).mono BR.out.size))
     clear h9
     go_wp2
     go_ret
     exact⟨aI R.out.symm,B9.out⟩
   ·obtain rfl:k=n:=by omega
    have HE2:=HE.out
    rw [HN.out,List.take_length,HL.out,List.take_length] at HE2
    have HE3:=hid HE2
    clear HE2
    go_wp2
    go_ret
    exact⟨aI HE3.out.symm,BR.out⟩
 ·have R:Hid (T9.fO ms ks=false):=hid (by
   cases q:T9.fO ms ks with
   | false=>rfl
   | true =>
    have:=T9.vV q
    rw [← HN.out,← rD.out] at this
    exact absurd this hl)
  have hlz:¬ ((n:Int)=(n2:Int)):=by omega
  go_enter func21,ntmps21
  go_wp2
  go_ret
  exact⟨aI R.out.symm,Below.refl _ _⟩
end
end
end Go.Proofs.YtcmiompdjjiojaaGreat
