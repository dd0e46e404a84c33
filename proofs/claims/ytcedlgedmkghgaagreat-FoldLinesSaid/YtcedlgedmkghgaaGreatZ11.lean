import Derived.Test.YtcedlgedmkghgaaGreatZ4
import Derived.Test.YtcedlgedmkghgaaGreatZ5
import Derived.Test.YtcedlgedmkghgaaGreatZ8
import Derived.Test.YtcedlgedmkghgaaGreatZ9
import Derived.Test.YtcedlgedmkghgaaGreatZ10
namespace Go.Proofs.YtcedlgedmkghgaaGreat
set_option maxHeartbeats 16000000
open Go.Lib Go.Proofs.Tryz
set_option linter.unusedSimpArgs false
set_option maxRecDepth 100000
section
open Go.Shelf Go.RowKit Go.Lib Go.Sort
def h_ (a b:Nat):Int:=if a<b then -1 else if b<a then 1 else 0
def nA (a b:List UInt8):Int:=if a<b then -1 else if b<a then 1 else 0
def cfL (a b:T9.Li):Int:=h_ a.id b.id
def cfM (a b:aL):Int:=h_ a.t.id b.t.id
theorem r_ (a b:Nat):decide (h_ a b<0)=decide (a<b):=by
 unfold h_
 by_cases h:a<b
 ·simp [h]
 ·by_cases k:b<a
  ·simp [h,k]
  ·simp [h,k]
theorem F7 (a b:List UInt8):decide (nA a b<0)=decide (a<b):=by
 unfold nA
 by_cases h:a<b
 ·simp [h]
 ·by_cases k:b<a
  ·simp [h,k]
  ·simp [h,k]
theorem AZ:ltOf cfL=T9.iN:=by funext a b;exact r_ a.id b.id
theorem A_:ltOf cfM=iy:=by funext a b;exact r_ a.t.id b.t.id
theorem Bc:ltOf nA=T9.dL:=by funext a b;exact F7 a b
theorem sQ (a:Int) (w:World):Calls prog 219 #[.int .u64 a] w fun e w'=>e=.returned (.bool false)∧w=w':=by
 go_enter func219,ntmps219
 go_wp2
 go_ret
 exact⟨aP (by simp),rfl⟩
theorem l_ (a:ByteArray) (w:World):Calls prog 222 #[.string a] w fun e w'=>e=.returned (.bool false)∧w=w':=by
 go_enter func222,ntmps222
 go_wp2
 go_ret
 exact⟨aP (by simp),rfl⟩
theorem qf (a b:Nat) (w:World):Calls prog 172 #[.int .u64 (a:Int),.int .u64 (b:Int)] w fun e w'=>e=.returned (.int .i64 (h_ a b))∧w=w':=by
 unfold h_
 by_cases h:a<b
 ·have hz:(a:Int)<(b:Int):=by omega
  go_enter func172,ntmps172
  go_wp2_with (go_at_call 219;refine (sQ _ _).mono ?_;rintro e w' ⟨rfl,rfl⟩)
  go_ret
  exact⟨by simp,rfl⟩
 ·have hz:¬ (a:Int)<(b:Int):=by omega
  by_cases k:b<a
  ·have kz:(b:Int)<(a:Int):=by omega
   go_enter func172,ntmps172
   go_wp2_with (go_at_call 219;refine (sQ _ _).mono ?_;rintro e w' ⟨rfl,rfl⟩)
   go_ret
   exact⟨by simp,rfl⟩
  ·have kz:¬ (b:Int)<(a:Int):=by omega
   go_enter func172,ntmps172
   go_wp2_with (go_at_call 219;refine (sQ _ _).mono ?_;rintro e w' ⟨rfl,rfl⟩)
   go_ret
   exact⟨by simp,rfl⟩
theorem o8 {a b:List UInt8} (h:a<b):Op.bytesLess a b=true:=by rw [Go.Proofs.bytesLess_eq];exact decide_eq_true h
theorem oZ {a b:List UInt8} (h:¬ a<b):Op.bytesLess a b=false:=by rw [Go.Proofs.bytesLess_eq];exact decide_eq_false h
theorem F8 (a b:List UInt8) (w:World):Calls prog 183 #[.string (str a),.string (str b)] w fun e w'=>e=.returned (.int .i64 (nA a b))∧w=w':=by
 by_cases h:a<b
 ·have hb:=o8 h
  rw [show nA a b=-1 by unfold nA;rw [if_pos h]]
  clear h
  go_enter func183,ntmps183
  go_wp2_with (go_at_call 222;refine (l_ _ _).mono ?_;rintro e w' ⟨rfl,rfl⟩)
  go_ret
  exact⟨rfl,rfl⟩
 ·have hb:=oZ h
  by_cases k:b<a
  ·have hne:(a==b)=false:=by
    rw [beq_eq_false_iff_ne]
    rintro rfl
    exact h k
   have hne2:(!(a==b))=true:=by rw [hne];rfl
   rw [show nA a b=1 by unfold nA;rw [if_neg h,if_pos k]]
   clear h k
   go_enter func183,ntmps183
   go_wp2_with (go_at_call 222;refine (l_ _ _).mono ?_;rintro e w' ⟨rfl,rfl⟩)
   go_ret
   exact⟨rfl,rfl⟩
  ·have he:(a==b)=true:=by
    rw [beq_iff_eq]
    rcases List.le_iff_lt_or_eq.1 (List.not_lt.1 h) with r | r
    ·exact absurd r k
    ·exact r.symm
   have he2:(!(a==b))=false:=by rw [he];rfl
   rw [show nA a b=0 by unfold nA;rw [if_neg h,if_neg k]]
   clear h k
   go_enter func183,ntmps183
   go_wp2_with (go_at_call 222;refine (l_ _ _).mono ?_;rintro e w' ⟨rfl,rfl⟩)
   go_ret
   exact⟨rfl,rfl⟩
theorem jd:prog.follows .mixedOrders=true:=by kernel_rfl
theorem drewN_zero (w:World):w.drewN 0=w:=rfl
theorem wQ (x:T9.Li) (w:World):Calls prog 123 #[.agg (bf x).toArray] w fun e w'=>e=.returned (.int .u64 (x.id:Int))∧∃ q os',w'=grow (w.drewN q) os':=by
 unfold bf
 go_enter func123,ntmps123
 go_wp2
 go_ret
 exact⟨rfl,0,#[_],by rw [drewN_zero,← alloc_eq_grow]⟩
theorem wR (x:aL) (w:World):Calls prog 125 #[.agg (az x).toArray] w fun e w'=>e=.returned (.int .u64 (x.t.id:Int))∧∃ q os',w'=grow (w.drewN q) os':=by
 unfold az
 go_enter func125,ntmps125
 go_wp2
 go_ret
 exact⟨rfl,0,#[_],by rw [drewN_zero,← alloc_eq_grow]⟩
theorem wS (x:List UInt8) (w:World):Calls prog 127 #[encS x] w fun e w'=>e=.returned (.string (str x))∧∃ q os',w'=grow (w.drewN q) os':=by
 unfold encS
 go_enter func127,ntmps127
 go_wp2
 go_ret
 exact⟨rfl,0,#[],by rw [drewN_zero,grow_empty]⟩
theorem oo {P:Program} {f:FuncId} {args:Array Value} {w:World} {v:Value} (h:Calls P f args w fun e w'=>e=.returned v∧w=w'):Calls P f args w fun e w'=>e=.returned v∧∃ q os',w'=grow (w.drewN q) os' :=
 h.mono fun e w' ⟨he,hw⟩=>⟨he,0,#[],by rw [grow_empty,drewN_zero,hw]⟩
theorem lX (W:World) (o1 o2:Obj) (q:Nat) (os:Array Obj):grow (((W.alloc o1).alloc o2).drewN q) os=grow (W.drewN q) (#[o1,o2]++os):=by
 rw [alloc_eq_grow,alloc_eq_grow,grow_grow]
 show grow (grow (W.drewN q) _) os=_
 rw [grow_grow]
 rfl
theorem ru {α:Type} {enc:α→List Value} {k:Nat} {w:World} {blk off m:Nat} {dk:Array α} {os:Array Obj} [Inhabited α] {bx:Nat} {v:Value} (h:w.cell? ⟨bx,0,none⟩=some v) (hne:bx≠blk) (hlt:bx<w.heap.size):(sortWorldK enc k w blk off m dk os).cell? ⟨bx,0,none⟩=some v:=by
 unfold sortWorldK
 rw [cell?_grow _ _ _ (by rw [size_putRowK];exact hlt),cell?_putRowK_other enc k _ blk off dk _ hne]
 exact h
theorem xS {α:Type} {enc:α→Value} {w:World} {blk off m:Nat} {dk:Array α} {os:Array Obj} [Inhabited α] {bx:Nat} {v:Value} (h:w.cell? ⟨bx,0,none⟩=some v) (hne:bx≠blk) (hlt:bx<w.heap.size):(sortWorld enc w blk off m dk os).cell? ⟨bx,0,none⟩=some v:=by
 unfold sortWorld
 rw [cell?_grow _ _ _ (by simpa [putRow,mapBlock] using hlt),cell?_putRow_other enc _ blk off dk _ (.inl hne)]
 exact h
theorem eqvL_id (x y:T9.Li):Sr.gX T9.iN x y=((x.id:Int)==(y.id:Int)):=by
 rw [Bool.eq_iff_iff]
 simp [Sr.gX,T9.iN]
 omega
theorem eqvM_id (x y:aL):Sr.gX iy x y=((x.t.id:Int)==(y.t.id:Int)):=by
 rw [Bool.eq_iff_iff]
 simp [Sr.gX,iy,T9.iT]
 omega
theorem eqvS_eq (x y:List UInt8):Sr.gX T9.dL x y=(x==y):=by
 rw [Bool.eq_iff_iff]
 simp only [Sr.gX,T9.dL,Bool.and_eq_true,Bool.not_eq_true',decide_eq_false_iff_not,beq_iff_eq]
 constructor
 ·rintro⟨h,k⟩
  rcases List.le_iff_lt_or_eq.1 (List.not_lt.1 h) with r | r
  ·exact absurd r k
  ·exact r.symm
 ·rintro rfl
  exact⟨List.lt_irrefl _,List.lt_irrefl _⟩
theorem cmpL_w {bx:Nat} (x y:T9.Li) (W:World) (hb:W.cell? ⟨bx,0,none⟩=some (.func (.func 123) #[] #[])) (hlt:bx<W.heap.size) :
  Calls prog 171 #[.agg (bf x).toArray,.agg (bf y).toArray,.pointer (some ⟨bx,0,none⟩)] W fun e w'=>e=.returned (.int .i64 (cfL x y))∧∃ q os',w'=grow (W.drewN q) os':=by
 obtain⟨wB,iR⟩:∃ u,(W.alloc (.cells (bf x).toArray 71)).alloc (.cells (bf y).toArray 71)=u:=⟨_,rfl⟩
 have sB:wB.heap.size=W.heap.size+2:=by rw [← iR];simp
 have GB:Hid (∀ q os,grow (wB.drewN q) os=grow (W.drewN q) (#[.cells (bf x).toArray 71,.cells (bf y).toArray 71]++os)):=hid fun q os=>by rw [← iR];exact lX W _ _ q os
 have cb:∀ n os,(grow (wB.drewN n) os).cell? ⟨bx,0,none⟩=some (.func (.func 123) #[] #[]):=fun n os=>cell_grown (by show bx<wB.heap.size;omega) (by
  have b2:Below W.heap.size W wB:=by rw [← iR];exact ((Below.refl _ W).alloc (Nat.le_refl _) _).alloc (by simp) _
  exact (b2.cell (p:=⟨bx,0,none⟩) hlt).trans hb) n os
 have lx:∀ n os,∀ j (h:j<(bf x).length),(grow (wB.drewN n) os).cell? ⟨W.heap.size,j,none⟩=some ((bf x)[j]):=fun n os j h=>cell_grown (by show W.heap.size<wB.heap.size;omega) (by
  have k:wB.heap[W.heap.size]?=some (.cells (bf x).toArray 71 (0,0)):=by rw [← iR];exact aY (heap_alloc_new W _) _
  rw [cell_of_row wB W.heap.size j _ _ _ k]
  simp [h]) n os
 have ly:∀ n os,∀ j (h:j<(bf y).length),(grow (wB.drewN n) os).cell? ⟨W.heap.size+1,j,none⟩=some ((bf y)[j]):=fun n os j h=>cell_grown (by show W.heap.size+1<wB.heap.size;omega) (by
  have k:wB.heap[W.heap.size+1]?=some (.cells (bf y).toArray 71 (0,0)):=by
   rw [← iR]
   have:=heap_alloc_new (W.alloc (.cells (bf x).toArray 71)) (.cells (bf y).toArray 71)
   rwa [World.size_alloc] at this
  rw [cell_of_row wB (W.heap.size+1) j _ _ _ k]
  simp [h]) n os
 have x0:=fun n os=>lx n os 0 (by rw [fJ];decide)
 have y0:=fun n os=>ly n os 0 (by rw [fJ];decide)
 have x1:=fun n os=>lx n os 1 (by rw [fJ];decide)
 have y1:=fun n os=>ly n os 1 (by rw [fJ];decide)
 clear lx ly hb sB
 unfold bf at x0 y0 x1 y1 iR ⊢
 simp only [List.getElem_cons_zero,List.getElem_cons_succ] at x0 y0 x1 y1
 go_enter func171,ntmps171
 go_wp2_with fail
 clear iR
 have mixed:=jd
 go_quiet_grown (first | (go_at_call 123;first | exact Calls.grown_of (wQ x _) | exact Calls.grown_of (wQ y _)) | (go_at_call 172;refine Calls.grown_of (oo (qf _ _ _))))
 go_wp2
 go_ret
 refine⟨rfl,nq,_,GB.out nq osq⟩
theorem eqL_w {bx:Nat} (x y:T9.Li) (W:World) (hb:W.cell? ⟨bx,0,none⟩=some (.func (.func 123) #[] #[])) (hlt:bx<W.heap.size) :
  Calls prog 174 #[.agg (bf x).toArray,.agg (bf y).toArray,.pointer (some ⟨bx,0,none⟩)] W fun e w'=>e=.returned (.bool (Sr.gX T9.iN x y))∧∃ q os',w'=grow (W.drewN q) os':=by
 obtain⟨wB,iR⟩:∃ u,(W.alloc (.cells (bf x).toArray 71)).alloc (.cells (bf y).toArray 71)=u:=⟨_,rfl⟩
 have sB:wB.heap.size=W.heap.size+2:=by rw [← iR];simp
 have GB:Hid (∀ q os,grow (wB.drewN q) os=grow (W.drewN q) (#[.cells (bf x).toArray 71,.cells (bf y).toArray 71]++os)):=hid fun q os=>by rw [← iR];exact lX W _ _ q os
 have cb:∀ n os,(grow (wB.drewN n) os).cell? ⟨bx,0,none⟩=some (.func (.func 123) #[] #[]):=fun n os=>cell_grown (by show bx<wB.heap.size;omega) (by
  have b2:Below W.heap.size W wB:=by rw [← iR];exact ((Below.refl _ W).alloc (Nat.le_refl _) _).alloc (by simp) _
  exact (b2.cell (p:=⟨bx,0,none⟩) hlt).trans hb) n os
 have lx:∀ n os,∀ j (h:j<(bf x).length),(grow (wB.drewN n) os).cell? ⟨W.heap.size,j,none⟩=some ((bf x)[j]):=fun n os j h=>cell_grown (by show W.heap.size<wB.heap.size;omega) (by
  have k:wB.heap[W.heap.size]?=some (.cells (bf x).toArray 71 (0,0)):=by rw [← iR];exact aY (heap_alloc_new W _) _
  rw [cell_of_row wB W.heap.size j _ _ _ k]
  simp [h]) n os
 have ly:∀ n os,∀ j (h:j<(bf y).length),(grow (wB.drewN n) os).cell? ⟨W.heap.size+1,j,none⟩=some ((bf y)[j]):=fun n os j h=>cell_grown (by show W.heap.size+1<wB.heap.size;omega) (by
  have k:wB.heap[W.heap.size+1]?=some (.cells (bf y).toArray 71 (0,0)):=by
   rw [← iR]
   have:=heap_alloc_new (W.alloc (.cells (bf x).toArray 71)) (.cells (bf y).toArray 71)
   rwa [World.size_alloc] at this
  rw [cell_of_row wB (W.heap.size+1) j _ _ _ k]
  simp [h]) n os
 have x0:=fun n os=>lx n os 0 (by rw [fJ];decide)
 have y0:=fun n os=>ly n os 0 (by rw [fJ];decide)
 have x1:=fun n os=>lx n os 1 (by rw [fJ];decide)
 have y1:=fun n os=>ly n os 1 (by rw [fJ];decide)
 clear lx ly hb sB
 unfold bf at x0 y0 x1 y1 iR ⊢
 simp only [List.getElem_cons_zero,List.getElem_cons_succ] at x0 y0 x1 y1
 go_enter func174,ntmps174
 go_wp2_with fail
 clear iR
 have mixed:=jd
 go_quiet_grown (first | (go_at_call 123;first | exact Calls.grown_of (wQ x _) | exact Calls.grown_of (wQ y _)))
 go_wp2
 go_ret
 refine⟨aP (eqvL_id x y).symm,nq,_,GB.out nq osq⟩
end
end Go.Proofs.YtcedlgedmkghgaaGreat
