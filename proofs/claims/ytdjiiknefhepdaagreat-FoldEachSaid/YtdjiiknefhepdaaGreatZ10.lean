import Derived.Test.YtdjiiknefhepdaaGreatZ4
import Derived.Test.YtdjiiknefhepdaaGreatZ5
import Derived.Test.YtdjiiknefhepdaaGreatZ6
import Derived.Test.YtdjiiknefhepdaaGreatZ7
import Derived.Test.YtdjiiknefhepdaaGreatZ8
import Derived.Test.YtdjiiknefhepdaaGreatZ9
namespace Go.Proofs.YtdjiiknefhepdaaGreat
set_option maxHeartbeats 16000000
open Go.Lib Go.Proofs.Tryz
set_option linter.unusedSimpArgs false
set_option maxRecDepth 100000
section
open Go.Shelf Go.RowKit Go.Lib Go.Sort
def ic (a b:Nat):Int:=if a<b then -1 else if b<a then 1 else 0
def nU (a b:List UInt8):Int:=if a<b then -1 else if b<a then 1 else 0
def cfL (a b:T9.Li):Int:=ic a.id b.id
def cfM (a b:aM):Int:=ic a.t.id b.t.id
theorem sI (a b:Nat):decide (ic a b<0)=decide (a<b):=by
 unfold ic
 by_cases h:a<b
 ·simp [h]
 ·by_cases k:b<a
  ·simp [h,k]
  ·simp [h,k]
theorem Gr (a b:List UInt8):decide (nU a b<0)=decide (a<b):=by
 unfold nU
 by_cases h:a<b
 ·simp [h]
 ·by_cases k:b<a
  ·simp [h,k]
  ·simp [h,k]
theorem Ak:ltOf cfL=T9.iP:=by funext a b;exact sI a.id b.id
theorem Bc:ltOf cfM=iB:=by funext a b;exact sI a.t.id b.t.id
theorem Bw:ltOf nU=T9.dL:=by funext a b;exact Gr a b
theorem uy (a:Int) (w:World):Calls prog 119 #[.int .u64 a] w fun e w'=>e=.returned (.bool false)∧w=w':=by
 go_enter func119,ntmps119
 go_wp2
 go_ret
 exact⟨aP (by simp),rfl⟩
theorem mM (a:ByteArray) (w:World):Calls prog 122 #[.string a] w fun e w'=>e=.returned (.bool false)∧w=w':=by
 go_enter func122,ntmps122
 go_wp2
 go_ret
 exact⟨aP (by simp),rfl⟩
theorem qw (a b:Nat) (w:World):Calls prog 75 #[.int .u64 (a:Int),.int .u64 (b:Int)] w fun e w'=>e=.returned (.int .i64 (ic a b))∧w=w':=by
 unfold ic
 by_cases h:a<b
 ·have hz:(a:Int)<(b:Int):=by omega
  go_enter func75,ntmps75
  go_wp2_with (go_at_call 119;refine (uy _ _).mono ?_;rintro e w' ⟨rfl,rfl⟩)
  go_ret
  exact⟨by simp,rfl⟩
 ·have hz:¬ (a:Int)<(b:Int):=by omega
  by_cases k:b<a
  ·have kz:(b:Int)<(a:Int):=by omega
   go_enter func75,ntmps75
   go_wp2_with (go_at_call 119;refine (uy _ _).mono ?_;rintro e w' ⟨rfl,rfl⟩)
   go_ret
   exact⟨by simp,rfl⟩
  ·have kz:¬ (b:Int)<(a:Int):=by omega
   go_enter func75,ntmps75
   go_wp2_with (go_at_call 119;refine (uy _ _).mono ?_;rintro e w' ⟨rfl,rfl⟩)
   go_ret
   exact⟨by simp,rfl⟩
theorem pY {a b:List UInt8} (h:a<b):Op.bytesLess a b=true:=by rw [Go.Proofs.bytesLess_eq];exact decide_eq_true h
theorem pI {a b:List UInt8} (h:¬ a<b):Op.bytesLess a b=false:=by rw [Go.Proofs.bytesLess_eq];exact decide_eq_false h
theorem Gb (a b:List UInt8) (w:World):Calls prog 86 #[.string (str a),.string (str b)] w fun e w'=>e=.returned (.int .i64 (nU a b))∧w=w':=by
 by_cases h:a<b
 ·have hb:=pY h
  rw [show nU a b=-1 by unfold nU;rw [if_pos h]]
  clear h
  go_enter func86,ntmps86
  go_wp2_with (go_at_call 122;refine (mM _ _).mono ?_;rintro e w' ⟨rfl,rfl⟩)
  go_ret
  exact⟨rfl,rfl⟩
 ·have hb:=pI h
  by_cases k:b<a
  ·have hne:(a==b)=false:=by
    rw [beq_eq_false_iff_ne]
    rintro rfl
    exact h k
   have hne2:(!(a==b))=true:=by rw [hne];rfl
   rw [show nU a b=1 by unfold nU;rw [if_neg h,if_pos k]]
   clear h k
   go_enter func86,ntmps86
   go_wp2_with (go_at_call 122;refine (mM _ _).mono ?_;rintro e w' ⟨rfl,rfl⟩)
   go_ret
   exact⟨rfl,rfl⟩
  ·have he:(a==b)=true:=by
    rw [beq_iff_eq]
    rcases List.le_iff_lt_or_eq.1 (List.not_lt.1 h) with r | r
    ·exact absurd r k
    ·exact r.symm
   have he2:(!(a==b))=false:=by rw [he];rfl
   rw [show nU a b=0 by unfold nU;rw [if_neg h,if_neg k]]
   clear h k
   go_enter func86,ntmps86
   go_wp2_with (go_at_call 122;refine (mM _ _).mono ?_;rintro e w' ⟨rfl,rfl⟩)
   go_ret
   exact⟨rfl,rfl⟩
theorem jb:prog.follows .mixedOrders=true:=by kernel_rfl
theorem drewN_zero (w:World):w.drewN 0=w:=rfl
theorem wH (x:T9.Li) (w:World):Calls prog 44 #[.agg (bf x).toArray] w fun e w'=>e=.returned (.int .u64 (x.id:Int))∧∃ q os',w'=grow (w.drewN q) os':=by
 unfold bf
 go_enter func44,ntmps44
 go_wp2
 go_ret
 exact⟨rfl,0,#[_],by rw [drewN_zero,← alloc_eq_grow]⟩
theorem xE (x:aM) (w:World):Calls prog 46 #[.agg (az x).toArray] w fun e w'=>e=.returned (.int .u64 (x.t.id:Int))∧∃ q os',w'=grow (w.drewN q) os':=by
 unfold az
 go_enter func46,ntmps46
 go_wp2
 go_ret
 exact⟨rfl,0,#[_],by rw [drewN_zero,← alloc_eq_grow]⟩
theorem wL (x:List UInt8) (w:World):Calls prog 48 #[encS x] w fun e w'=>e=.returned (.string (str x))∧∃ q os',w'=grow (w.drewN q) os':=by
 unfold encS
 go_enter func48,ntmps48
 go_wp2
 go_ret
 exact⟨rfl,0,#[],by rw [drewN_zero,grow_empty]⟩
theorem oH {P:Program} {f:FuncId} {args:Array Value} {w:World} {v:Value} (h:Calls P f args w fun e w'=>e=.returned v∧w=w'):Calls P f args w fun e w'=>e=.returned v∧∃ q os',w'=grow (w.drewN q) os' :=
 h.mono fun e w' ⟨he,hw⟩=>⟨he,0,#[],by rw [grow_empty,drewN_zero,hw]⟩
theorem m_ (W:World) (o1 o2:Obj) (q:Nat) (os:Array Obj):grow (((W.alloc o1).alloc o2).drewN q) os=grow (W.drewN q) (#[o1,o2]++os):=by
 rw [alloc_eq_grow,alloc_eq_grow,grow_grow]
 show grow (grow (W.drewN q) _) os=_
 rw [grow_grow]
 rfl
theorem sG {α:Type} {enc:α→List Value} {k:Nat} {w:World} {blk off m:Nat} {dk:Array α} {os:Array Obj} [Inhabited α] {bx:Nat} {v:Value} (h:w.cell? ⟨bx,0,none⟩=some v) (hne:bx≠blk) (hlt:bx<w.heap.size):(sortWorldK enc k w blk off m dk os).cell? ⟨bx,0,none⟩=some v:=by
 unfold sortWorldK
 rw [cell?_grow _ _ _ (by rw [size_putRowK];exact hlt),cell?_putRowK_other enc k _ blk off dk _ hne]
 exact h
theorem yF {α:Type} {enc:α→Value} {w:World} {blk off m:Nat} {dk:Array α} {os:Array Obj} [Inhabited α] {bx:Nat} {v:Value} (h:w.cell? ⟨bx,0,none⟩=some v) (hne:bx≠blk) (hlt:bx<w.heap.size):(sortWorld enc w blk off m dk os).cell? ⟨bx,0,none⟩=some v:=by
 unfold sortWorld
 rw [cell?_grow _ _ _ (by simpa [putRow,mapBlock] using hlt),cell?_putRow_other enc _ blk off dk _ (.inl hne)]
 exact h
theorem eqvL_id (x y:T9.Li):Sr.gZ T9.iP x y=((x.id:Int)==(y.id:Int)):=by
 rw [Bool.eq_iff_iff]
 simp [Sr.gZ,T9.iP]
 omega
theorem eqvM_id (x y:aM):Sr.gZ iB x y=((x.t.id:Int)==(y.t.id:Int)):=by
 rw [Bool.eq_iff_iff]
 simp [Sr.gZ,iB,T9.iW]
 omega
theorem eqvS_eq (x y:List UInt8):Sr.gZ T9.dL x y=(x==y):=by
 rw [Bool.eq_iff_iff]
 simp only [Sr.gZ,T9.dL,Bool.and_eq_true,Bool.not_eq_true',decide_eq_false_iff_not,beq_iff_eq]
 constructor
 ·rintro⟨h,k⟩
  rcases List.le_iff_lt_or_eq.1 (List.not_lt.1 h) with r | r
  ·exact absurd r k
  ·exact r.symm
 ·rintro rfl
  exact⟨List.lt_irrefl _,List.lt_irrefl _⟩
theorem cmpL_w {bx:Nat} (x y:T9.Li) (W:World) (hb:W.cell? ⟨bx,0,none⟩=some (.func (.func 44) #[] #[])) (hlt:bx<W.heap.size) :
  Calls prog 74 #[.agg (bf x).toArray,.agg (bf y).toArray,.pointer (some ⟨bx,0,none⟩)] W fun e w'=>e=.returned (.int .i64 (cfL x y))∧∃ q os',w'=grow (W.drewN q) os':=by
 obtain⟨wB,iU⟩:∃ u,(W.alloc (.cells (bf x).toArray 60)).alloc (.cells (bf y).toArray 60)=u:=⟨_,rfl⟩
 have sB:wB.heap.size=W.heap.size+2:=by rw [← iU];simp
 have GB:Hid (∀ q os,grow (wB.drewN q) os=grow (W.drewN q) (#[.cells (bf x).toArray 60,.cells (bf y).toArray 60]++os)):=hid fun q os=>by rw [← iU];exact m_ W _ _ q os
 have cb:∀ n os,(grow (wB.drewN n) os).cell? ⟨bx,0,none⟩=some (.func (.func 44) #[] #[]):=fun n os=>cell_grown (by show bx<wB.heap.size;omega) (by
  have b2:Below W.heap.size W wB:=by rw [← iU];exact ((Below.refl _ W).alloc (Nat.le_refl _) _).alloc (by simp) _
  exact (b2.cell (p:=⟨bx,0,none⟩) hlt).trans hb) n os
 have lx:∀ n os,∀ j (h:j<(bf x).length),(grow (wB.drewN n) os).cell? ⟨W.heap.size,j,none⟩=some ((bf x)[j]):=fun n os j h=>cell_grown (by show W.heap.size<wB.heap.size;omega) (by
  have k:wB.heap[W.heap.size]?=some (.cells (bf x).toArray 60 (0,0)):=by rw [← iU];exact a_ (heap_alloc_new W _) _
  rw [cell_of_row wB W.heap.size j _ _ _ k]
  simp [h]) n os
 have ly:∀ n os,∀ j (h:j<(bf y).length),(grow (wB.drewN n) os).cell? ⟨W.heap.size+1,j,none⟩=some ((bf y)[j]):=fun n os j h=>cell_grown (by show W.heap.size+1<wB.heap.size;omega) (by
  have k:wB.heap[W.heap.size+1]?=some (.cells (bf y).toArray 60 (0,0)):=by
   rw [← iU]
   have:=heap_alloc_new (W.alloc (.cells (bf x).toArray 60)) (.cells (bf y).toArray 60)
   rwa [World.size_alloc] at this
  rw [cell_of_row wB (W.heap.size+1) j _ _ _ k]
  simp [h]) n os
 have x0:=fun n os=>lx n os 0 (by rw [fO];decide)
 have y0:=fun n os=>ly n os 0 (by rw [fO];decide)
 have x1:=fun n os=>lx n os 1 (by rw [fO];decide)
 have y1:=fun n os=>ly n os 1 (by rw [fO];decide)
 clear lx ly hb sB
 unfold bf at x0 y0 x1 y1 iU ⊢
 simp only [List.getElem_cons_zero,List.getElem_cons_succ] at x0 y0 x1 y1
 go_enter func74,ntmps74
 go_wp2_with fail
 clear iU
 have mixed:=jb
 go_quiet_grown (first | (go_at_call 44;first | exact Calls.grown_of (wH x _) | exact Calls.grown_of (wH y _)) | (go_at_call 75;refine Calls.grown_of (oH (qw _ _ _))))
 go_wp2
 go_ret
 refine⟨rfl,nq,_,GB.out nq osq⟩
theorem eqL_w {bx:Nat} (x y:T9.Li) (W:World) (hb:W.cell? ⟨bx,0,none⟩=some (.func (.func 44) #[] #[])) (hlt:bx<W.heap.size) :
  Calls prog 77 #[.agg (bf x).toArray,.agg (bf y).toArray,.pointer (some ⟨bx,0,none⟩)] W fun e w'=>e=.returned (.bool (Sr.gZ T9.iP x y))∧∃ q os',w'=grow (W.drewN q) os':=by
 obtain⟨wB,iU⟩:∃ u,(W.alloc (.cells (bf x).toArray 60)).alloc (.cells (bf y).toArray 60)=u:=⟨_,rfl⟩
 have sB:wB.heap.size=W.heap.size+2:=by rw [← iU];simp
 have GB:Hid (∀ q os,grow (wB.drewN q) os=grow (W.drewN q) (#[.cells (bf x).toArray 60,.cells (bf y).toArray 60]++os)):=hid fun q os=>by rw [← iU];exact m_ W _ _ q os
 have cb:∀ n os,(grow (wB.drewN n) os).cell? ⟨bx,0,none⟩=some (.func (.func 44) #[] #[]):=fun n os=>cell_grown (by show bx<wB.heap.size;omega) (by
  have b2:Below W.heap.size W wB:=by rw [← iU];exact ((Below.refl _ W).alloc (Nat.le_refl _) _).alloc (by simp) _
  exact (b2.cell (p:=⟨bx,0,none⟩) hlt).trans hb) n os
 have lx:∀ n os,∀ j (h:j<(bf x).length),(grow (wB.drewN n) os).cell? ⟨W.heap.size,j,none⟩=some ((bf x)[j]):=fun n os j h=>cell_grown (by show W.heap.size<wB.heap.size;omega) (by
  have k:wB.heap[W.heap.size]?=some (.cells (bf x).toArray 60 (0,0)):=by rw [← iU];exact a_ (heap_alloc_new W _) _
  rw [cell_of_row wB W.heap.size j _ _ _ k]
  simp [h]) n os
 have ly:∀ n os,∀ j (h:j<(bf y).length),(grow (wB.drewN n) os).cell? ⟨W.heap.size+1,j,none⟩=some ((bf y)[j]):=fun n os j h=>cell_grown (by show W.heap.size+1<wB.heap.size;omega) (by
  have k:wB.heap[W.heap.size+1]?=some (.cells (bf y).toArray 60 (0,0)):=by
   rw [← iU]
   have:=heap_alloc_new (W.alloc (.cells (bf x).toArray 60)) (.cells (bf y).toArray 60)
   rwa [World.size_alloc] at this
  rw [cell_of_row wB (W.heap.size+1) j _ _ _ k]
  simp [h]) n os
 have x0:=fun n os=>lx n os 0 (by rw [fO];decide)
 have y0:=fun n os=>ly n os 0 (by rw [fO];decide)
 have x1:=fun n os=>lx n os 1 (by rw [fO];decide)
 have y1:=fun n os=>ly n os 1 (by rw [fO];decide)
 clear lx ly hb sB
 unfold bf at x0 y0 x1 y1 iU ⊢
 simp only [List.getElem_cons_zero,List.getElem_cons_succ] at x0 y0 x1 y1
 go_enter func77,ntmps77
 go_wp2_with fail
 clear iU
 have mixed:=jb
 go_quiet_grown (first | (go_at_call 44;first | exact Calls.grown_of (wH x _) | exact Calls.grown_of (wH y _)))
 go_wp2
 go_ret
 refine⟨aP (eqvL_id x y).symm,nq,_,GB.out nq osq⟩
end
end Go.Proofs.YtdjiiknefhepdaaGreat
