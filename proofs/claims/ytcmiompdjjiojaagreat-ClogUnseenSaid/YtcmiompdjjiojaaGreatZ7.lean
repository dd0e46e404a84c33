import Derived.Test.YtcmiompdjjiojaaGreatZ5
import Derived.Test.YtcmiompdjjiojaaGreatZ4
import Derived.Test.YtcmiompdjjiojaaGreatZ6
namespace Go.Proofs.YtcmiompdjjiojaaGreat
set_option maxHeartbeats 16000000
open Go.Lib Go.Proofs.Tryz
set_option linter.unusedSimpArgs false
set_option maxRecDepth 100000
section
open Go.Shelf Go.RowKit Go.Lib Go.Sort
def iD (a b:Nat):Int:=if a<b then -1 else if b<a then 1 else 0
def oG (a b:List UInt8):Int:=if a<b then -1 else if b<a then 1 else 0
def cfL (a b:T9.Li):Int:=iD a.id b.id
def cfM (a b:aN):Int:=iD a.t.id b.t.id
theorem uF (a b:Nat):decide (iD a b<0)=decide (a<b):=by
 unfold iD
 by_cases h:a<b
 ·simp [h]
 ·by_cases k:b<a
  ·simp [h,k]
  ·simp [h,k]
theorem Jt (a b:List UInt8):decide (oG a b<0)=decide (a<b):=by
 unfold oG
 by_cases h:a<b
 ·simp [h]
 ·by_cases k:b<a
  ·simp [h,k]
  ·simp [h,k]
theorem Ec:ltOf cfL=T9.iY:=by funext a b;exact uF a.id b.id
theorem Ed:ltOf cfM=iI:=by funext a b;exact uF a.t.id b.t.id
theorem Ef:ltOf oG=T9.dN:=by funext a b;exact Jt a b
theorem uV (a:Int) (w:World):Calls prog 153 #[.int .u64 a] w fun e w'=>e=.returned (.bool false)∧w=w':=by
 go_enter func153,ntmps153
 go_wp2
 go_ret
 exact⟨aI (by simp),rfl⟩
theorem m_ (a:ByteArray) (w:World):Calls prog 156 #[.string a] w fun e w'=>e=.returned (.bool false)∧w=w':=by
 go_enter func156,ntmps156
 go_wp2
 go_ret
 exact⟨aI (by simp),rfl⟩
theorem rU (a b:Nat) (w:World):Calls prog 117 #[.int .u64 (a:Int),.int .u64 (b:Int)] w fun e w'=>e=.returned (.int .i64 (iD a b))∧w=w':=by
 unfold iD
 by_cases h:a<b
 ·have hz:(a:Int)<(b:Int):=by omega
  go_enter func117,ntmps117
  go_wp2_with (go_at_call 153;refine (uV _ _).mono ?_;rintro e w' ⟨rfl,rfl⟩)
  go_ret
  exact⟨by simp,rfl⟩
 ·have hz:¬ (a:Int)<(b:Int):=by omega
  by_cases k:b<a
  ·have kz:(b:Int)<(a:Int):=by omega
   go_enter func117,ntmps117
   go_wp2_with (go_at_call 153;refine (uV _ _).mono ?_;rintro e w' ⟨rfl,rfl⟩)
   go_ret
   exact⟨by simp,rfl⟩
  ·have kz:¬ (b:Int)<(a:Int):=by omega
   go_enter func117,ntmps117
   go_wp2_with (go_at_call 153;refine (uV _ _).mono ?_;rintro e w' ⟨rfl,rfl⟩)
   go_ret
   exact⟨by simp,rfl⟩
theorem qJ {a b:List UInt8} (h:a<b):Op.bytesLess a b=true:=by rw [Go.Proofs.bytesLess_eq];exact decide_eq_true h
theorem qI {a b:List UInt8} (h:¬ a<b):Op.bytesLess a b=false:=by rw [Go.Proofs.bytesLess_eq];exact decide_eq_false h
theorem Ju (a b:List UInt8) (w:World):Calls prog 128 #[.string (str a),.string (str b)] w fun e w'=>e=.returned (.int .i64 (oG a b))∧w=w':=by
 by_cases h:a<b
 ·have hb:=qJ h
  rw [show oG a b=-1 by unfold oG;rw [if_pos h]]
  clear h
  go_enter func128,ntmps128
  go_wp2_with (go_at_call 156;refine (m_ _ _).mono ?_;rintro e w' ⟨rfl,rfl⟩)
  go_ret
  exact⟨rfl,rfl⟩
 ·have hb:=qI h
  by_cases k:b<a
  ·have hne:(a==b)=false:=by
    rw [beq_eq_false_iff_ne]
    rintro rfl
    exact h k
   have hne2:(!(a==b))=true:=by rw [hne];rfl
   rw [show oG a b=1 by unfold oG;rw [if_neg h,if_pos k]]
   clear h k
   go_enter func128,ntmps128
   go_wp2_with (go_at_call 156;refine (m_ _ _).mono ?_;rintro e w' ⟨rfl,rfl⟩)
   go_ret
   exact⟨rfl,rfl⟩
  ·have he:(a==b)=true:=by
    rw [beq_iff_eq]
    rcases List.le_iff_lt_or_eq.1 (List.not_lt.1 h) with r | r
    ·exact absurd r k
    ·exact r.symm
   have he2:(!(a==b))=false:=by rw [he];rfl
   rw [show oG a b=0 by unfold oG;rw [if_neg h,if_neg k]]
   clear h k
   go_enter func128,ntmps128
   go_wp2_with (go_at_call 156;refine (m_ _ _).mono ?_;rintro e w' ⟨rfl,rfl⟩)
   go_ret
   exact⟨rfl,rfl⟩
theorem jq:prog.follows .mixedOrders=true:=by kernel_rfl
theorem drewN_zero (w:World):w.drewN 0=w:=rfl
theorem yP (x:T9.Li) (w:World):Calls prog 81 #[.agg (a_ x).toArray] w fun e w'=>e=.returned (.int .u64 (x.id:Int))∧∃ q os',w'=grow (w.drewN q) os':=by
 unfold a_
 go_enter func81,ntmps81
 go_wp2
 go_ret
 exact⟨rfl,0,#[_],by rw [drewN_zero,← alloc_eq_grow]⟩
theorem yQ (x:aN) (w:World):Calls prog 83 #[.agg (aA x).toArray] w fun e w'=>e=.returned (.int .u64 (x.t.id:Int))∧∃ q os',w'=grow (w.drewN q) os':=by
 unfold aA
 go_enter func83,ntmps83
 go_wp2
 go_ret
 exact⟨rfl,0,#[_],by rw [drewN_zero,← alloc_eq_grow]⟩
theorem yR (x:List UInt8) (w:World):Calls prog 85 #[encS x] w fun e w'=>e=.returned (.string (str x))∧∃ q os',w'=grow (w.drewN q) os':=by
 unfold encS
 go_enter func85,ntmps85
 go_wp2
 go_ret
 exact⟨rfl,0,#[],by rw [drewN_zero,grow_empty]⟩
theorem pQ {P:Program} {f:FuncId} {args:Array Value} {w:World} {v:Value} (h:Calls P f args w fun e w'=>e=.returned v∧w=w'):Calls P f args w fun e w'=>e=.returned v∧∃ q os',w'=grow (w.drewN q) os' :=
 h.mono fun e w' ⟨he,hw⟩=>⟨he,0,#[],by rw [grow_empty,drewN_zero,hw]⟩
theorem mW (W:World) (o1 o2:Obj) (q:Nat) (os:Array Obj):grow (((W.alloc o1).alloc o2).drewN q) os=grow (W.drewN q) (#[o1,o2]++os):=by
 rw [alloc_eq_grow,alloc_eq_grow,grow_grow]
 show grow (grow (W.drewN q) _) os=_
 rw [grow_grow]
 rfl
theorem tN {α:Type} {enc:α→List Value} {k:Nat} {w:World} {blk off m:Nat} {dk:Array α} {os:Array Obj} [Inhabited α] {bx:Nat} {v:Value} (h:w.cell? ⟨bx,0,none⟩=some v) (hne:bx≠blk) (hlt:bx<w.heap.size):(sortWorldK enc k w blk off m dk os).cell? ⟨bx,0,none⟩=some v:=by
 unfold sortWorldK
 rw [cell?_grow _ _ _ (by rw [size_putRowK];exact hlt),cell?_putRowK_other enc k _ blk off dk _ hne]
 exact h
theorem zY {α:Type} {enc:α→Value} {w:World} {blk off m:Nat} {dk:Array α} {os:Array Obj} [Inhabited α] {bx:Nat} {v:Value} (h:w.cell? ⟨bx,0,none⟩=some v) (hne:bx≠blk) (hlt:bx<w.heap.size):(sortWorld enc w blk off m dk os).cell? ⟨bx,0,none⟩=some v:=by
 unfold sortWorld
 rw [cell?_grow _ _ _ (by simpa [putRow,mapBlock] using hlt),cell?_putRow_other enc _ blk off dk _ (.inl hne)]
 exact h
theorem eqvL_id (x y:T9.Li):Sr.iq T9.iY x y=((x.id:Int)==(y.id:Int)):=by
 rw [Bool.eq_iff_iff]
 simp [Sr.iq,T9.iY]
 omega
theorem eqvM_id (x y:aN):Sr.iq iI x y=((x.t.id:Int)==(y.t.id:Int)):=by
 rw [Bool.eq_iff_iff]
 simp [Sr.iq,iI,T9.jg]
 omega
theorem eqvS_eq (x y:List UInt8):Sr.iq T9.dN x y=(x==y):=by
 rw [Bool.eq_iff_iff]
 simp only [Sr.iq,T9.dN,Bool.and_eq_true,Bool.not_eq_true',decide_eq_false_iff_not,beq_iff_eq]
 constructor
 ·rintro⟨h,k⟩
  rcases List.le_iff_lt_or_eq.1 (List.not_lt.1 h) with r | r
  ·exact absurd r k
  ·exact r.symm
 ·rintro rfl
  exact⟨List.lt_irrefl _,List.lt_irrefl _⟩
theorem cmpL_w {bx:Nat} (x y:T9.Li) (W:World) (hb:W.cell? ⟨bx,0,none⟩=some (.func (.func 81) #[] #[])) (hlt:bx<W.heap.size) :
  Calls prog 116 #[.agg (a_ x).toArray,.agg (a_ y).toArray,.pointer (some ⟨bx,0,none⟩)] W fun e w'=>e=.returned (.int .i64 (cfL x y))∧∃ q os',w'=grow (W.drewN q) os':=by
 obtain⟨wB,jf⟩:=nm ((W.alloc (.cells (a_ x).toArray 61)).alloc (.cells (a_ y).toArray 61))
 have sB:wB.heap.size=W.heap.size+2:=by rw [← jf];simp
 have GB:Hid (∀ q os,grow (wB.drewN q) os=grow (W.drewN q) (#[.cells (a_ x).toArray 61,.cells (a_ y).toArray 61]++os)):=hid fun q os=>by rw [← jf];exact mW W _ _ q os
 have cb:∀ n os,(grow (wB.drewN n) os).cell? ⟨bx,0,none⟩=some (.func (.func 81) #[] #[]):=fun n os=>cell_grown (by show bx<wB.heap.size;omega) (by
  have b2:Below W.heap.size W wB:=by rw [← jf];exact ((Below.refl _ W).alloc (Nat.le_refl _) _).alloc (by simp) _
  exact (b2.cell (p:=⟨bx,0,none⟩) hlt).trans hb) n os
 have lx:∀ n os,∀ j (h:j<(a_ x).length),(grow (wB.drewN n) os).cell? ⟨W.heap.size,j,none⟩=some ((a_ x)[j]):=fun n os j h=>cell_grown (by show W.heap.size<wB.heap.size;omega) (by
  have k:wB.heap[W.heap.size]?=some (.cells (a_ x).toArray 61 (0,0)):=by rw [← jf];exact bu (heap_alloc_new W _) _
  rw [cell_of_row wB W.heap.size j _ _ _ k]
  simp [h]) n os
 have ly:∀ n os,∀ j (h:j<(a_ y).length),(grow (wB.drewN n) os).cell? ⟨W.heap.size+1,j,none⟩=some ((a_ y)[j]):=fun n os j h=>cell_grown (by show W.heap.size+1<wB.heap.size;omega) (by
  have k:wB.heap[W.heap.size+1]?=some (.cells (a_ y).toArray 61 (0,0)):=by
   rw [← jf]
   have:=heap_alloc_new (W.alloc (.cells (a_ x).toArray 61)) (.cells (a_ y).toArray 61)
   rwa [World.size_alloc] at this
  rw [cell_of_row wB (W.heap.size+1) j _ _ _ k]
  simp [h]) n os
 have x0:=fun n os=>lx n os 0 (by rw [fT];decide)
 have y0:=fun n os=>ly n os 0 (by rw [fT];decide)
 have x1:=fun n os=>lx n os 1 (by rw [fT];decide)
 have y1:=fun n os=>ly n os 1 (by rw [fT];decide)
 clear lx ly hb sB
 unfold a_ at x0 y0 x1 y1 jf ⊢
 simp only [List.getElem_cons_zero,List.getElem_cons_succ] at x0 y0 x1 y1
 go_enter func116,ntmps116
 go_wp2_with fail
 clear jf
 have mixed:=jq
 go_quiet_grown (first | (go_at_call 81;first | exact Calls.grown_of (yP x _) | exact Calls.grown_of (yP y _)) | (go_at_call 117;refine Calls.grown_of (pQ (rU _ _ _))))
 go_wp2
 go_ret
 refine⟨rfl,nq,_,GB.out nq osq⟩
theorem eqL_w {bx:Nat} (x y:T9.Li) (W:World) (hb:W.cell? ⟨bx,0,none⟩=some (.func (.func 81) #[] #[])) (hlt:bx<W.heap.size) :
  Calls prog 119 #[.agg (a_ x).toArray,.agg (a_ y).toArray,.pointer (some ⟨bx,0,none⟩)] W fun e w'=>e=.returned (.bool (Sr.iq T9.iY x y))∧∃ q os',w'=grow (W.drewN q) os':=by
 obtain⟨wB,jf⟩:=nm ((W.alloc (.cells (a_ x).toArray 61)).alloc (.cells (a_ y).toArray 61))
 have sB:wB.heap.size=W.heap.size+2:=by rw [← jf];simp
 have GB:Hid (∀ q os,grow (wB.drewN q) os=grow (W.drewN q) (#[.cells (a_ x).toArray 61,.cells (a_ y).toArray 61]++os)):=hid fun q os=>by rw [← jf];exact mW W _ _ q os
 have cb:∀ n os,(grow (wB.drewN n) os).cell? ⟨bx,0,none⟩=some (.func (.func 81) #[] #[]):=fun n os=>cell_grown (by show bx<wB.heap.size;omega) (by
  have b2:Below W.heap.size W wB:=by rw [← jf];exact ((Below.refl _ W).alloc (Nat.le_refl _) _).alloc (by simp) _
  exact (b2.cell (p:=⟨bx,0,none⟩) hlt).trans hb) n os
 have lx:∀ n os,∀ j (h:j<(a_ x).length),(grow (wB.drewN n) os).cell? ⟨W.heap.size,j,none⟩=some ((a_ x)[j]):=fun n os j h=>cell_grown (by show W.heap.size<wB.heap.size;omega) (by
  have k:wB.heap[W.heap.size]?=some (.cells (a_ x).toArray 61 (0,0)):=by rw [← jf];exact bu (heap_alloc_new W _) _
  rw [cell_of_row wB W.heap.size j _ _ _ k]
  simp [h]) n os
 have ly:∀ n os,∀ j (h:j<(a_ y).length),(grow (wB.drewN n) os).cell? ⟨W.heap.size+1,j,none⟩=some ((a_ y)[j]):=fun n os j h=>cell_grown (by show W.heap.size+1<wB.heap.size;omega) (by
  have k:wB.heap[W.heap.size+1]?=some (.cells (a_ y).toArray 61 (0,0)):=by
   rw [← jf]
   have:=heap_alloc_new (W.alloc (.cells (a_ x).toArray 61)) (.cells (a_ y).toArray 61)
   rwa [World.size_alloc] at this
  rw [cell_of_row wB (W.heap.size+1) j _ _ _ k]
  simp [h]) n os
 have x0:=fun n os=>lx n os 0 (by rw [fT];decide)
 have y0:=fun n os=>ly n os 0 (by rw [fT];decide)
 have x1:=fun n os=>lx n os 1 (by rw [fT];decide)
 have y1:=fun n os=>ly n os 1 (by rw [fT];decide)
 clear lx ly hb sB
 unfold a_ at x0 y0 x1 y1 jf ⊢
 simp only [List.getElem_cons_zero,List.getElem_cons_succ] at x0 y0 x1 y1
 go_enter func119,ntmps119
 go_wp2_with fail
 clear jf
 have mixed:=jq
 go_quiet_grown (first | (go_at_call 81;first | exact Calls.grown_of (yP x _) | exact Calls.grown_of (yP y _)))
 go_wp2
 go_ret
 refine⟨aI (eqvL_id x y).symm,nq,_,GB.out nq osq⟩
end
section
section
open Go.RowKit Go.Lib
namespace T9
def tc (c:UInt8):Bool:=decide (32≤c.toNat∧c.toNat≤126)
def gc (c:UInt8):Bool:=decide ((97≤c.toNat∧c.toNat≤122)∨(48≤c.toNat∧c.toNat≤57)∨c.toNat=45)
def title (l:List UInt8):Bool:=decide (1≤l.length∧l.length≤60) && l.all tc
def tag (l:List UInt8):Bool:=decide (1≤l.length∧l.length≤16) && l.all gc
end T9
theorem EE {l:List UInt8} {s:ByteArray} (hs:s=str l):s.size=l.length∧∀ (n:Nat) (h:n<s.size),((s[n]'h).toNat:Int)=((l[n]!).toNat:Int):=by
 subst hs
 refine⟨rfl,fun n h=>?_⟩
 have h':n<l.length:=h
 rw [getElem!_pos l n h']
 rfl
theorem uo {p:UInt8→Bool} {l:List UInt8} {i:Nat} (hi:i<l.length):(l.take (i+1)).all p=((l.take i).all p && p l[i]!):=by
 rw [List.take_succ_eq_append_getElem hi,List.all_append,getElem!_pos l i hi]
 simp
theorem Cm (c:UInt8) (w:World):Calls prog 133 #[.int .u8 (c.toNat:Int)] w fun e w'=>e=.returned (.bool (T9.tc c))∧w=w':=by
 have hc:=c.toNat_lt
 go_enter func133,ntmps133
 go_wp2
 all_goals
  go_ret
  exact⟨aI (by unfold T9.tc;rw [Bool.eq_iff_iff];simp;try omega),rfl⟩
theorem Iq (c:UInt8) (w:World):Calls prog 135 #[.int .u8 (c.toNat:Int)] w fun e w'=>e=.returned (.bool (T9.gc c))∧w=w':=by
 have hc:=c.toNat_lt
 go_enter func135,ntmps135
 go_wp2
 all_goals
  go_ret
  exact⟨aI (by unfold T9.gc;rw [Bool.eq_iff_iff];simp;try omega),rfl⟩
theorem AV {f:Nat} {p:UInt8→Bool} (hf:∀ (c:UInt8) (w:World),Calls prog f #[.int .u8 (c.toNat:Int)] w fun e w'=>e=.returned (.bool (p c))∧w=w')
  (eg:∀ args w,(callFunc f args).run prog w=.ok (.enter f args) w) (l:List UInt8) (hl:l.length≤1000000) (k:Nat) (w:World) :
  Calls prog 132 #[.string (str l),.int .i64 (k:Int),.func (.func f) #[] #[]] w fun e w'=>e=.returned (.bool (decide (1≤l.length∧l.length≤k) && l.all p))∧w=w':=by
 obtain⟨s,hs⟩:∃ s,s=str l:=⟨_,rfl⟩
 obtain⟨sz,hb⟩:=EE hs
 rw [← hs]
 clear hs
 have SZ:=hid sz
 by_cases h0:1≤l.length∧l.length≤k
 ·have k1:¬ s.size=0:=by omega
  have k2:(s.size:Int)≤(k:Int):=by omega
  have k3:¬ ((k:Int)<(s.size:Int)):=by omega
  have H0:=hid h0
  have sm:s.size≤1000000:=by omega
  clear sz h0 hl
  go_enter func132,ntmps132
  go_wp2
  go_loopw [19] (fun s19 wr=>∃ i:Nat,s19=.int .i64 i∧i≤s.size∧Hid ((l.take i).all p=true)∧w=wr) (fun s19 _=>s.size - (intOf s19).toNat)
  case atStart=>exact⟨0,rfl,Nat.zero_le _,hid (by simp),rfl⟩
  case round =>
   obtain⟨i,rfl,hi,ha,rfl⟩:=hrel
   by_cases hlt:i<s.size
   ·have hltz:(i:Int)<(s.size:Int):=by omega
    have hit:=hid (uo (p:=p) (l:=l) (i:=i) (by have:=SZ.out;omega))
    have ba:=hb i hlt
    obtain⟨x,hx⟩:∃ x,x=l[i]!:=⟨_,rfl⟩
    rw [← hx] at hit ba
    clear hx
    have hc:=hf x
    cases hp:p x with
    | true =>
     rw [hp] at hc
     have HP:=hid hp
     clear hp hb hf
     go_wp2_with fail
     refine (hc _).mono ?_
     rintro e w' ⟨rfl,rfl⟩
     go_wp2
     go_roundw
     case rel=>exact⟨i+1,by go_num,by omega,hid (by rw [hit.out,ha.out,HP.out];rfl),by simp⟩
     case measure=>simp [intOf];omega
    | false =>
     rw [hp] at hc
     have HP:=hid hp
     clear hp hb hf
     go_wp2_with fail
     refine (hc _).mono ?_
     rintro e w' ⟨rfl,rfl⟩
     go_wp2
     go_ret
     refine⟨aI ?_,rfl⟩
     have:l.all p=false:=by
      rw [← List.take_append_drop (i+1) l,List.all_append,hit.out,HP.out]
      simp
     rw [this]
     simp
   ·obtain rfl:i=s.size:=by omega
    have hltz:¬ ((s.size:Int)<(s.size:Int)):=by omega
    go_wp2
    go_ret
    refine⟨aI ?_,rfl⟩
    have h1:=ha.out
    rw [SZ.out,List.take_length] at h1
    rw [h1]
    simp [H0.out]
 ·have H0:=hid h0
  have R:(decide (1≤l.length∧l.length≤k) && l.all p)=false:=by simp [h0]
  rw [R]
  by_cases h1:s.size=0
  ·have k1:((s.size:Int)==0)=true:=by simp [h1]
   clear sz h0 hl R h1
   go_enter func132,ntmps132
   go_wp2
   go_ret
   exact⟨rfl,rfl⟩
  ·have k1:((s.size:Int)==0)=false:=by simp [h1]
   have k2:((k:Int)<(s.size:Int)):=by omega
   clear sz h0 hl R
   go_enter func132,ntmps132
   go_wp2
   go_ret
   exact⟨rfl,rfl⟩
theorem oz (l:List UInt8) (hl:l.length≤1000000) (w:World):Calls prog 91 #[.string (str l)] w fun e w'=>e=.returned (.bool (T9.title l))∧w=w':=by
 have T:Calls prog 132 #[.string (str l),.int .i64 ((60:Nat):Int),.func (.func 133) #[] #[]] w fun e w'=>e=.returned (.bool (T9.title l))∧w=w':=AV Cm (by intro args w;rfl) l hl 60 w
 obtain⟨b,hb⟩:∃ b,b=T9.title l:=⟨_,rfl⟩
 rw [← hb] at T ⊢
 go_enter func91,ntmps91
 go_wp2_with (go_at_call 132;refine T.mono ?_;rintro e w' ⟨rfl,rfl⟩)
 go_ret
 exact⟨aI hb.symm,rfl⟩
theorem Ci (l:List UInt8) (hl:l.length≤1000000) (w:World):Calls prog 99 #[.string (str l)] w fun e w'=>e=.returned (.bool (T9.tag l))∧w=w':=by
 have T:Calls prog 132 #[.string (str l),.int .i64 ((16:Nat):Int),.func (.func 135) #[] #[]] w fun e w'=>e=.returned (.bool (T9.tag l))∧w=w':=AV Iq (by intro args w;rfl) l hl 16 w
 obtain⟨b,hb⟩:∃ b,b=T9.tag l:=⟨_,rfl⟩
 rw [← hb] at T ⊢
 go_enter func99,ntmps99
 go_wp2_with (go_at_call 132;refine T.mono ?_;rintro e w' ⟨rfl,rfl⟩)
 go_ret
 exact⟨aI hb.symm,rfl⟩
theorem kJ (l:List UInt8) (hl:l.length≤1000000) (w:World):Calls prog 58 #[.string (str l)] w fun e w'=>e=.returned (.bool (T9.title l))∧w=w':=by
 obtain⟨s,hs⟩:∃ s,s=str l:=⟨_,rfl⟩
 obtain⟨sz,hb⟩:=EE hs
 rw [← hs]
 clear hs
 have SZ:=hid sz
 have HB:=hid hb
 have sm:s.size≤1000000:=by omega
 clear sz hl hb
 go_enter func58,ntmps58
 go_wp2
 go_loopw [3] (fun s3 wr=>∃ i:Nat,s3=.int .i64 i∧i≤s.size∧Hid ((l.take i).all T9.tc=true)∧w=wr) (fun s3 _=>s.size - (intOf s3).toNat)
 case atStart=>exact⟨0,rfl,Nat.zero_le _,hid (by simp),rfl⟩
 case round =>
  obtain⟨i,rfl,hi,ha,rfl⟩:=hrel
  by_cases hlt:i<s.size
  ·have hltz:(i:Int)<(s.size:Int):=by omega
   have hit:=hid (uo (p:=T9.tc) (l:=l) (i:=i) (by have:=SZ.out;omega))
   have ba:=HB.out i hlt
   obtain⟨x,hx⟩:∃ x,x=l[i]!:=⟨_,rfl⟩
   rw [← hx] at hit ba
   clear hx
   have W:(32≤x.toNat∧x.toNat≤126)↔T9.tc x=true:=by unfold T9.tc;simp
   by_cases hp:32≤x.toNat∧x.toNat≤126
   ·have HP:=hid (W.1 hp)
    have p1:¬ ((x.toNat:Int)<32):=by omega
    have p2:¬ ((126:Int)<(x.toNat:Int)):=by omega
    clear W hp
    go_wp2
    go_roundw
    case rel=>exact⟨i+1,by go_num,by omega,hid (by rw [hit.out,ha.out,HP.out];rfl),by simp⟩
    case measure=>simp [intOf];omega
   ·have HP:=hid (show T9.tc x=false by rw [← Bool.not_eq_true];exact fun q=>hp (W.2 q))
    have R:T9.title l=false:=by
     have:l.all T9.tc=false:=by
      rw [← List.take_append_drop (i+1) l,List.all_append,hit.out,HP.out]
      simp
     unfold T9.title
     rw [this]
     simp
    have RH:=hid R
    by_cases p1:(x.toNat:Int)<32
    ·clear W hp R
     go_wp2
     go_ret
     exact⟨aI RH.out.symm,rfl⟩
    ·have p2:(126:Int)<(x.toNat:Int):=by omega
     clear W hp R
     go_wp2
     go_ret
     exact⟨aI RH.out.symm,rfl⟩
  ·obtain rfl:i=s.size:=by omega
   have hltz:¬ ((s.size:Int)<(s.size:Int)):=by omega
   have h1:=ha.out
   rw [SZ.out,List.take_length] at h1
   have HA:=hid h1
   clear ha h1
   go_wp2
   all_goals
    go_ret
    exact⟨aI (by unfold T9.title;rw [HA.out];have:=SZ.out;rw [Bool.eq_iff_iff];simp;omega),rfl⟩
theorem qR (l:List UInt8) (hl:l.length≤1000000) (w:World):Calls prog 61 #[.string (str l)] w fun e w'=>e=.returned (.bool (T9.tag l))∧w=w':=by
 obtain⟨s,hs⟩:∃ s,s=str l:=⟨_,rfl⟩
 obtain⟨sz,hb⟩:=EE hs
 rw [← hs]
 clear hs
 have SZ:=hid sz
 have HB:=hid hb
 have sm:s.size≤1000000:=by omega
 clear sz hl hb
 go_enter func61,ntmps61
 go_wp2
 go_loopw [3] (fun s3 wr=>∃ i:Nat,s3=.int .i64 i∧i≤s.size∧Hid ((l.take i).all T9.gc=true)∧w=wr) (fun s3 _=>s.size - (intOf s3).toNat)
 case atStart=>exact⟨0,rfl,Nat.zero_le _,hid (by simp),rfl⟩
 case round =>
  obtain⟨i,rfl,hi,ha,rfl⟩:=hrel
  by_cases hlt:i<s.size
  ·have hltz:(i:Int)<(s.size:Int):=by omega
   have hit:=hid (uo (p:=T9.gc) (l:=l) (i:=i) (by have:=SZ.out;omega))
   have ba:=HB.out i hlt
   obtain⟨x,hx⟩:∃ x,x=l[i]!:=⟨_,rfl⟩
   rw [← hx] at hit ba
   clear hx
   have W:((97≤x.toNat∧x.toNat≤122)∨(48≤x.toNat∧x.toNat≤57)∨x.toNat=45)↔T9.gc x=true:=by unfold T9.gc;rw [decide_eq_true_iff]
   rcases (by omega:x.toNat<45∨x.toNat=45∨(45<x.toNat∧x.toNat<48)∨(48≤x.toNat∧x.toNat≤57)∨(57<x.toNat∧x.toNat<97)∨(97≤x.toNat∧x.toNat≤122)∨122<x.toNat) with k | k | k | k | k | k | k
   ·have p1:(x.toNat:Int)<97:=by omega
    have p3:(x.toNat:Int)<48:=by omega
    have p5:((x.toNat:Int)==45)=false:=by simp;omega
    have HP:Hid (T9.gc x=false):=hid (by rw [← Bool.not_eq_true];exact fun q=>absurd (W.2 q) (by omega))
    have R:T9.tag l=false:=by
     have:l.all T9.gc=false:=by
      rw [← List.take_append_drop (i+1) l,List.all_append,hit.out,HP.out]
      simp
     unfold T9.tag
     rw [this]
     simp
    have RH:=hid R
    clear W k R
    go_wp2
    go_ret
    exact⟨aI RH.out.symm,rfl⟩
   ·have p1:(x.toNat:Int)<97:=by omega
    have p3:(x.toNat:Int)<48:=by omega
    have p5:((x.toNat:Int)==45)=true:=by simp;omega
    have HP:=hid (W.1 (by omega))
    clear W k
    go_wp2
    go_roundw
    case rel=>exact⟨i+1,by go_num,by omega,hid (by rw [hit.out,ha.out,HP.out];rfl),by simp⟩
    case measure=>simp [intOf];omega
   ·have p1:(x.toNat:Int)<97:=by omega
    have p3:(x.toNat:Int)<48:=by omega
    have p5:((x.toNat:Int)==45)=false:=by simp;omega
    have HP:Hid (T9.gc x=false):=hid (by rw [← Bool.not_eq_true];exact fun q=>absurd (W.2 q) (by omega))
    have R:T9.tag l=false:=by
     have:l.all T9.gc=false:=by
      rw [← List.take_append_drop (i+1) l,List.all_append,hit.out,HP.out]
      simp
     unfold T9.tag
     rw [this]
     simp
    have RH:=hid R
    clear W k R
    go_wp2
    go_ret
    exact⟨aI RH.out.symm,rfl⟩
   ·have p1:(x.toNat:Int)<97:=by omega
    have p3:(48:Int)≤(x.toNat:Int):=by omega
    have p4:(x.toNat:Int)≤57:=by omega
    have HP:=hid (W.1 (by omega))
    clear W k
    go_wp2
    go_roundw
    case rel=>exact⟨i+1,by go_num,by omega,hid (by rw [hit.out,ha.out,HP.out];rfl),by simp⟩
    case measure=>simp [intOf];omega
   ·have p1:(x.toNat:Int)<97:=by omega
    have p3:(48:Int)≤(x.toNat:Int):=by omega
    have p4:(57:Int)<(x.toNat:Int):=by omega
    have p4':decide ((x.toNat:Int)≤57)=false:=by simp;omega
    have p5:((x.toNat:Int)==45)=false:=by simp;omega
    have HP:Hid (T9.gc x=false):=hid (by rw [← Bool.not_eq_true];exact fun q=>absurd (W.2 q) (by omega))
    have R:T9.tag l=false:=by
     have:l.all T9.gc=false:=by
      rw [← List.take_append_drop (i+1) l,List.all_append,hit.out,HP.out]
      simp
     unfold T9.tag
     rw [this]
     simp
    have RH:=hid R
    clear W k R
    go_wp2
    go_ret
    exact⟨aI RH.out.symm,rfl⟩
   ·have p1:(97:Int)≤(x.toNat:Int):=by omega
    have p2:(x.toNat:Int)≤122:=by omega
    have HP:=hid (W.1 (by omega))
    clear W k
    go_wp2
    go_roundw
    case rel=>exact⟨i+1,by go_num,by omega,hid (by rw [hit.out,ha.out,HP.out];rfl),by simp⟩
    case measure=>simp [intOf];omega
   ·have p1:(97:Int)≤(x.toNat:Int):=by omega
    have p2:(122:Int)<(x.toNat:Int):=by omega
    have p2':decide ((x.toNat:Int)≤122)=false:=by simp;omega
    have p3:(48:Int)≤(x.toNat:Int):=by omega
    have p4:(57:Int)<(x.toNat:Int):=by omega
    have p4':decide ((x.toNat:Int)≤57)=false:=by simp;omega
    have p5:((x.toNat:Int)==45)=false:=by simp;omega
    have HP:Hid (T9.gc x=false):=hid (by rw [← Bool.not_eq_true];exact fun q=>absurd (W.2 q) (by omega))
    have R:T9.tag l=false:=by
     have:l.all T9.gc=false:=by
      rw [← List.take_append_drop (i+1) l,List.all_append,hit.out,HP.out]
      simp
     unfold T9.tag
     rw [this]
     simp
    have RH:=hid R
    clear W k R
    go_wp2
    go_ret
    exact⟨aI RH.out.symm,rfl⟩
  ·obtain rfl:i=s.size:=by omega
   have hltz:¬ ((s.size:Int)<(s.size:Int)):=by omega
   have h1:=ha.out
   rw [SZ.out,List.take_length] at h1
   have HA:=hid h1
   clear ha h1
   go_wp2
   all_goals
    go_ret
    exact⟨aI (by unfold T9.tag;rw [HA.out];have:=SZ.out;rw [Bool.eq_iff_iff];simp;omega),rfl⟩
end
section
open Go.RowKit Go.Lib
namespace T9
def n_ (b:Nat):Bool:=Fl.I b==Fl.I (Fl.canon b)
def bT:List UInt8→List (List UInt8)→Bool
 | _,[]=>true
 | a,t :: l=>tag t && dN a t && bT t l
def aT (t:Tk):Int :=
 if title t.title=false then 94 else if (Fl.dz t.rank || !n_ t.rank)=true then 100 else if n_ t.est=false then 90 else if 4<t.tags.length then 95 else if bT [] t.tags=true then 0 else 94
def bJ (ahead:Nat):List Li→Int
 | []=>0
 | l :: r=>if l.id≤ahead then 91 else if title l.name=false then 94 else bJ l.id r
def bK (ls:List Li) (ahead:Nat):List Tk→Int
 | []=>0
 | t :: r=>if t.id≤ahead then 93 else if (ls.any fun l=>l.id==t.list)=false then 91 else if aT t≠0 then aT t else bK ls t.id r
def aJ (s:St):Int :=
 if 20<s.lists.length∨60<s.tasks.length then 95 else if bJ 0 s.lists≠0 then bJ 0 s.lists else bK s.lists 0 s.tasks
def Tk.short (t:Tk):Prop:=t.title.length≤1000000∧(∀ x∈t.tags,x.length≤1000000)∧t.tags.length≤1000000
def St.short (s:St):Prop:=(∀ l∈s.lists,l.name.length≤1000000)∧(∀ t∈s.tasks,t.short)∧s.lists.length≤1000000∧s.tasks.length≤1000000
end T9
theorem DY {a x:List UInt8} (h:T9.dN a x=false):Op.bytesLess x a=true∨Op.bytesLess x a=false∧(x==a)=true:=by
 have h:¬ a<x:=by simpa [T9.dN] using h
 rcases List.le_iff_lt_or_eq.1 (List.not_lt.1 h) with r | r
 ·exact .inl (qJ r)
 ·subst r
  exact .inr ⟨qI (List.lt_irrefl _),by simp⟩
theorem Kq {a x:List UInt8} (h:T9.dN a x=true):Op.bytesLess x a=false∧(x==a)=false:=by
 have h:a<x:=by simpa [T9.dN] using h
 refine⟨qI fun q=>List.lt_irrefl _ (List.lt_trans q h),?_⟩
 rw [beq_eq_false_iff_ne]
 rintro rfl
 exact List.lt_irrefl _ h
theorem iH (b:Nat) (w:World) :
  Calls prog 157 #[.float .f64 b] w fun e w'=>e=.returned (.bool (T9.n_ b))∧w=w':=by
 go_enter func157,ntmps157
 go_wp2_with (first | (go_at_call 93;refine (float64bits_c _ _).mono ?_;rintro e w' ⟨rfl,rfl⟩) | (go_at_call 86;refine (nV _ _).mono ?_;rintro e w' ⟨rfl,rfl⟩))
 go_ret
 exact⟨rfl,rfl⟩
theorem w_ {m:aN} {w:World} (hm:m.fine w) (hs:m.t.short) :
  Calls prog 134 #[.agg (aA m).toArray] w fun e w'=>e=.returned (.int .i64 (T9.aT m.t))∧Below w.heap.size w w':=by
 obtain⟨tk,A,c⟩:=m
 have hm:(⟨tk,A,c⟩:aN).fine w:=hm
 have hs:tk.short:=hs
 show Calls prog 134 #[.agg (aA ⟨tk,A,c⟩).toArray] w fun e w'=>e=.returned (.int .i64 (T9.aT tk))∧Below w.heap.size w w'
 have HM:=hid hm
 have HS:=hid hs
 obtain⟨w1,hw1⟩:=nm (w.alloc (.cells #[.int .u64 (tk.id:Int),.int .u64 (tk.list:Int),.string (str tk.title),.bool tk.done,.float .f64 tk.rank,.float .f64 tk.est,.slice A tk.tags.length c] 64))
 have pb:w1.heap[w.heap.size]?=some (.cells #[.int .u64 (tk.id:Int),.int .u64 (tk.list:Int),.string (str tk.title),.bool tk.done,.float .f64 tk.rank,.float .f64 tk.est,.slice A tk.tags.length c] 64 (0,0)):=by rw [← hw1];exact heap_alloc_new w _
 have B1:Hid (Below w.heap.size w w1):=hid (by rw [← hw1];exact (Below.refl _ w).alloc (Nat.le_refl _) _)
 have GL1:Hid (GL w1 A tk.tags):=hid (hm.gl.stay B1.out)
 obtain⟨p0,p1,p2,p3,p4,p5,p6⟩:=ak pb
 have TC:=oz tk.title hs.1
 clear hm hs pb
 cases hT:T9.title tk.title with
 | false =>
  rw [hT] at TC
  have R:Hid (T9.aT tk=94):=hid (by unfold T9.aT;rw [if_pos hT])
  clear hT
  unfold aA
  go_enter func134,ntmps134
  go_wp2_with (go_at_call 91;refine (TC _).mono ?_;rintro e w' ⟨rfl,rfl⟩)
  go_ret
  exact⟨aZ R.out.symm,B1.out⟩
 | true =>
  rw [hT] at TC
  have HT:=hid hT
  clear hT
  cases hN:Fl.dz tk.rank with
  | true =>
   have R:Hid (T9.aT tk=100):=hid (by unfold T9.aT;rw [if_neg (by rw [HT.out];simp),if_pos (by rw [hN];rfl)])
   unfold aA
   go_enter func134,ntmps134
   go_wp2_with (first | (go_at_call 91;refine (TC _).mono ?_;rintro e w' ⟨rfl,rfl⟩) | (go_at_call 100;refine (fJ _ _).mono ?_;rintro e w' ⟨rfl,rfl⟩) | (go_at_call 157;refine (iH _ _).mono ?_;rintro e w' ⟨rfl,rfl⟩))
   go_ret
   exact⟨aZ R.out.symm,B1.out⟩
  | false =>
   cases hR:T9.n_ tk.rank with
   | false =>
    have R:Hid (T9.aT tk=100):=hid (by unfold T9.aT;rw [if_neg (by rw [HT.out];simp),if_pos (by rw [hN,hR];rfl)])
    unfold aA
    go_enter func134,ntmps134
    go_wp2_with (first | (go_at_call 91;refine (TC _).mono ?_;rintro e w' ⟨rfl,rfl⟩) | (go_at_call 100;refine (fJ _ _).mono ?_;rintro e w' ⟨rfl,rfl⟩) | (go_at_call 157;refine (iH _ _).mono ?_;rintro e w' ⟨rfl,rfl⟩))
    go_ret
    exact⟨aZ R.out.symm,B1.out⟩
   | true =>
    have IW:Hid ((Fl.dz tk.rank || !T9.n_ tk.rank)=false):=hid (by rw [hN,hR];rfl)
    cases hE:T9.n_ tk.est with
    | false =>
     have R:Hid (T9.aT tk=90):=hid (by unfold T9.aT;rw [if_neg (by rw [HT.out];simp),if_neg (by rw [IW.out];simp),if_pos hE])
     unfold aA
     go_enter func134,ntmps134
     go_wp2_with (first | (go_at_call 91;refine (TC _).mono ?_;rintro e w' ⟨rfl,rfl⟩) | (go_at_call 100;refine (fJ _ _).mono ?_;rintro e w' ⟨rfl,rfl⟩) | (go_at_call 157;refine (iH _ _).mono ?_;rintro e w' ⟨rfl,rfl⟩))
     go_ret
     exact⟨aZ R.out.symm,B1.out⟩
    | true =>
     have HE:Hid (T9.n_ tk.est=true):=hid hE
     by_cases hL:4<tk.tags.length
     ·have R:Hid (T9.aT tk=95):=hid (by unfold T9.aT;rw [if_neg (by rw [HT.out];simp),if_neg (by rw [IW.out];simp),if_neg (by rw [HE.out];simp),if_pos hL])
      have hLz:(4:Int)<(tk.tags.length:Int):=by omega
      unfold aA
      go_enter func134,ntmps134
      go_wp2_with (first | (go_at_call 91;refine (TC _).mono ?_;rintro e w' ⟨rfl,rfl⟩) | (go_at_call 100;refine (fJ _ _).mono ?_;rintro e w' ⟨rfl,rfl⟩) | (go_at_call 157;refine (iH _ _).mono ?_;rintro e w' ⟨rfl,rfl⟩))
      go_ret
      exact⟨aZ R.out.symm,B1.out⟩
     ·have R:Hid (T9.aT tk=if T9.bT [] tk.tags=true then 0 else 94):=hid (by unfold T9.aT;rw [if_neg (by rw [HT.out];simp),if_neg (by rw [IW.out];simp),if_neg (by rw [HE.out];simp),if_neg hL])
      have hLz:¬ ((4:Int)<(tk.tags.length:Int)):=by omega
      obtain⟨n,hn⟩:∃ n,n=tk.tags.length:=⟨_,rfl⟩
      have oC:=hid hn
      rw [← hn] at hw1 p6 hLz
      have hsm:n≤4:=by omega
      unfold aA
      rw [← hn]
      clear hL hn
      go_enter func134,ntmps134
      go_wp2_with (first | (go_at_call 91;refine (TC _).mono ?_;rintro e w' ⟨rfl,rfl⟩) | (go_at_call 100;refine (fJ _ _).mono ?_;rintro e w' ⟨rfl,rfl⟩) | (go_at_call 157;refine (iH _ _).mono ?_;rintro e w' ⟨rfl,rfl⟩))
      go_loopw [3,35] (fun s3 s35 wr=>∃ (i:Nat) (a:List UInt8),s35=.int .i64 i∧s3=.string (str a)∧i≤n∧Hid (T9.bT [] tk.tags=T9.bT a (tk.tags.drop i))∧w1=wr) (fun _ s35 _=>n - (intOf s35).toNat)
      case atStart=>exact⟨0,[],rfl,rfl,Nat.zero_le _,hid rfl,rfl⟩
      case round =>
       obtain⟨i,a,rfl,rfl,hi,hU,rfl⟩:=hrel
       by_cases hlt:i<n
       ·have hltz:(i:Int)<(n:Int):=by omega
        obtain⟨ad,x,hA,hx,hc⟩:=GL1.out.at_ (k:=i) (by have:=oC.out;omega)
        subst hA
        have HX:=hid (HS.out.2.1 x (List.mem_of_getElem? hx))
        have U2:Hid (T9.bT [] tk.tags=(T9.tag x && T9.dN a x && T9.bT x (tk.tags.drop (i+1)))):=hid (by
         obtain⟨q1,q2⟩:=List.getElem?_eq_some_iff.1 hx
         rw [hU.out,List.drop_eq_getElem_cons q1,q2]
         rfl)
        have TG:=Ci x HX.out
        cases hg:T9.tag x with
        | false =>
         rw [hg] at TG
         have R2:Hid (T9.aT tk=94):=hid (by rw [R.out,U2.out,hg];rfl)
         go_wp2_with (go_at_call 99;refine (TG _).mono ?_;rintro e w' ⟨rfl,rfl⟩)
         go_ret
         exact⟨aZ R2.out.symm,B1.out⟩
        | true =>
         rw [hg] at TG
         cases hl:T9.dN a x with
         | false =>
          have R2:Hid (T9.aT tk=94):=hid (by rw [R.out,U2.out,hg,hl];rfl)
          rcases DY hl with b1 | ⟨b1,b2⟩
          all_goals
           clear hg hl
           go_wp2_with (go_at_call 99;refine (TG _).mono ?_;rintro e w' ⟨rfl,rfl⟩)
           go_ret
           exact⟨aZ R2.out.symm,B1.out⟩
         | true =>
          obtain⟨b1,b2⟩:=Kq hl
          have R2:=hid (show T9.bT [] tk.tags=T9.bT x (tk.tags.drop (i+1)) by rw [U2.out,hg,hl];rfl)
          clear hg hl
          go_wp2_with (go_at_call 99;refine (TG _).mono ?_;rintro e w' ⟨rfl,rfl⟩)
          go_roundw
          case rel=>exact⟨i+1,x,by go_num,rfl,by omega,R2,by simp⟩
          case measure=>simp [intOf];omega
       ·obtain rfl:i=n:=by omega
        have hltz:¬ ((i:Int)<(i:Int)):=by omega
        go_wp2
        go_ret
        refine⟨aZ ?_,B1.out⟩
        rw [R.out,hU.out,oC.out,List.drop_length]
        rfl
end
section
open Go.RowKit Go.Lib
theorem Co {ms:List aN} {i:Nat} {m:aN} (h:ms[i]?=some m):(ay ms).drop i=m.t :: (ay ms).drop (i+1):=by
 obtain⟨q1,q2⟩:=List.getElem?_eq_some_iff.1 h
 have e:=List.drop_eq_getElem_cons q1
 rw [q2] at e
 unfold ay
 rw [← List.map_drop,e,List.map_cons,List.map_drop]
theorem drop_at {α:Type} {ls:List α} {i:Nat} {l:α} (h:ls[i]?=some l):ls.drop i=l :: ls.drop (i+1):=by
 obtain⟨q1,q2⟩:=List.getElem?_eq_some_iff.1 h
 rw [List.drop_eq_getElem_cons q1,q2]
theorem Jd {α:Type} {ls:List α} {p:α→Bool} {i:Nat} {l:α} (h:ls[i]?=some l):(ls.take (i+1)).any p=((ls.take i).any p || p l):=by
 obtain⟨q1,q2⟩:=List.getElem?_eq_some_iff.1 h
 rw [List.take_succ_eq_append_getElem q1,q2]
 simp
theorem any_hit {α:Type} {ls:List α} {p:α→Bool} {i:Nat} {l:α} (h:ls[i]?=some l) (hp:p l=true):ls.any p=true:=List.any_eq_true.2 ⟨l,List.mem_of_getElem? h,hp⟩
theorem nD {l:T9.Li} {a:Nat} {r:List T9.Li} (h:¬ l.id≤a) (k:T9.title l.name=true):T9.bJ a (l :: r)=T9.bJ l.id r:=by
 show (if l.id≤a then 91 else if T9.title l.name=false then 94 else T9.bJ l.id r)=_
 rw [if_neg h,if_neg (by rw [k];simp)]
theorem Cj {ls:List T9.Li} {t:T9.Tk} {a:Nat} {r:List T9.Tk} (h:¬ t.id≤a) (k:¬ (ls.any fun l=>l.id==t.list)=false) (f:T9.aT t=0):T9.bK ls a (t :: r)=T9.bK ls t.id r:=by
 show (if t.id≤a then 93 else if (ls.any fun l=>l.id==t.list)=false then 91 else if T9.aT t≠0 then T9.aT t else T9.bK ls t.id r)=_
 rw [if_neg h,if_neg k,if_neg (by simp [f])]
theorem bf {w:World} {a b c d e f g:Value} {t:TypeId} {u:World} (h:w.alloc (.cells #[a,b,c,d,e,f,g] t)=u):u.heap[w.heap.size]?=some (.cells #[a,b,c,d,e,f,g] t (0,0))∧Below w.heap.size w u∧u.heap.size=w.heap.size+1:=by
 subst h
 exact⟨heap_alloc_new w _,(Below.refl _ w).alloc (Nat.le_refl _) _,by simp⟩
theorem zu {A A2:Option Addr} {n1 n2 c c2:Nat} {ls:List T9.Li} {ms:List aN} {w:World} (hl:LL w A ls) (hk:KL w A2 ms) (e1:n1=ls.length) (e2:n2=ms.length) (hs:(⟨ls,ay ms⟩:T9.St).short) (hb:n1≤c∧n2≤c2) :
  Calls prog 92 #[.agg #[.slice A n1 c,.slice A2 n2 c2]] w fun e w'=>e=.returned (.int .i64 (T9.bK ls 0 (ay ms)))∧Below w.heap.size w w':=by
 have E1:=hid e1
 have E2:=hid e2
 have HS:=hid hs
 obtain⟨w1,hw1⟩:=nm (w.alloc (.cells #[.slice A n1 c,.slice A2 n2 c2] 26))
 obtain⟨pb,b1,z1⟩:=aj hw1
 have PB:=hid pb
 have B1:=hid b1
 have HL:=hid (hl.stay b1)
 have HK:=hid (hk.stay b1)
 have Z1:=hid z1
 have sm1:n1≤1000000:=by have:=hs.2.2.1;simp at this;omega
 have sm2:n2≤1000000:=by have:=hs.2.2.2;rw [aK] at this;omega
 obtain⟨p0,p1⟩:=aa pb
 clear hl hk e1 e2 hs pb b1 z1
 go_enter func92,ntmps92
 go_wp2
 go_step3
 go_wp2
 go_step3
 go_wp2
 go_loopw [3,12] (fun s3 s12 wr=>∃ (a i:Nat),s3=.int .u64 a∧s12=.int .i64 i∧i≤n2∧Hid (T9.bK ls 0 (ay ms)=T9.bK ls a ((ay ms).drop i))∧Aside (Below w1.heap.size w1 wr)) (fun _ s12 _=>n2 - (intOf s12).toNat)
 case atStart=>exact⟨0,0,rfl,rfl,Nat.zero_le _,hid rfl,Below.refl _ _⟩
 case round =>
  obtain⟨wo,hwo⟩:∃ u,u=wr:=⟨_,rfl⟩
  subst hwo
  obtain⟨a,i,rfl,rfl,hi,hU,hB⟩:=hrel
  have BR:=hid hB.out
  clear hB
  by_cases hlt:i<n2
  ·have hltz:(i:Int)<(n2:Int):=by omega
   obtain⟨ad,⟨tk,A3,c3⟩,hA,hx,hf,r0,r1,r2,r3,r4,r5,r6⟩:=(HK.out.stay BR.out).at_ (k:=i) (by have:=E2.out;omega)
   subst hA
   have FI:=hid hf
   have SH:Hid tk.short:=hid (HS.out.2.1 tk (List.mem_map.2 ⟨_,List.mem_of_getElem? hx,rfl⟩))
   have U2:Hid (T9.bK ls 0 (ay ms)=T9.bK ls a (tk :: (ay ms).drop (i+1))):=hid (by rw [hU.out,Co hx])
   dsimp only at r0 r1 r2 r3 r4 r5 r6
   obtain⟨w2,hw2⟩:=nm (wo.alloc (.cells #[.int .u64 (tk.id:Int),.int .u64 (tk.list:Int),.string (str tk.title),.bool tk.done,.float .f64 tk.rank,.float .f64 tk.est,.slice A3 tk.tags.length c3] 64))
   obtain⟨tb,b2,z2⟩:=bf hw2
   have TB:=hid tb
   have B2:Hid (Below w1.heap.size w1 w2):=hid (BR.out.trans (b2.mono BR.out.size))
   have B2':=hid b2
   have Z2:=hid z2
   have pY:=(B2.out.block w.heap.size (by have:=Z1.out;omega)).trans PB.out
   obtain⟨t0,t1,t2,t3,t4,t5,t6⟩:=ak tb
   obtain⟨u0,u1⟩:=aa pY
   clear hf hx tb b2 z2 pY
   by_cases hidq:tk.id≤a
   ·have hz:(tk.id:Int)≤(a:Int):=by omega
    have R:Hid (T9.bK ls 0 (ay ms)=93):=hid (by rw [U2.out];unfold T9.bK;rw [if_pos hidq])
    go_wp2
    rw [Exit.noGoto_ret]
    go_ret
    exact⟨aZ R.out.symm,B1.out.trans (B2.out.mono B1.out.size)⟩
   ·have hz:¬ ((tk.id:Int)≤(a:Int)):=by omega
    have NI:=hid hidq
    clear hidq
    go_wp2
    go_loopw [25] (fun s25 wi=>∃ j:Nat,s25=.int .i64 j∧j≤n1∧Hid ((ls.take j).any (fun l=>l.id==tk.list)=false)∧Aside (Below w2.heap.size w2 wi)) (fun s25 _=>n1 - (intOf s25).toNat)
    case atStart=>exact⟨0,rfl,Nat.zero_le _,hid (by simp),Below.refl _ _⟩
    case round =>
     obtain⟨j,rfl,hj,hV,hC⟩:=hrel
     have CR:=hid hC.out
     clear hC
     by_cases hlj:j<n1
     ·have hljz:(j:Int)<(n1:Int):=by omega
      obtain⟨ad1,l,hA1,hx1,q0,q1⟩:=(HL.out.stay (B2.out.trans (CR.out.mono B2.out.size))).at_ (k:=j) (by have:=E1.out;omega)
      subst hA1
      have X1:=hid hx1
      obtain⟨w3,hw3⟩:=nm (wr.alloc (.cells #[.int .u64 (l.id:Int),.string (str l.name)] 61))
      obtain⟨lb,b3,z3⟩:=aj hw3
      have B3:Hid (Below w2.heap.size w2 w3):=hid (CR.out.trans (b3.mono CR.out.size))
      have tb3:=(B3.out.block wo.heap.size (by have:=Z2.out;omega)).trans TB.out
      obtain⟨t0,t1,t2,t3,t4,t5,t6⟩:=ak tb3
      obtain⟨l0,l1⟩:=aa lb
      clear hx1 lb b3 z3 tb3
      by_cases he:l.id=tk.list
      ·have wT:((l.id:Int)==(tk.list:Int))=true:=by rw [he];simp
       have hez2:((l.id:Int) != (tk.list:Int))=false:=by rw [he];simp
       have AN:Hid (¬ (ls.any fun l=>l.id==tk.list)=false):=hid (by rw [any_hit X1.out (by simp [he])];simp)
       have BF:=hid (B2.out.trans (B3.out.mono B2.out.size))
       have RF:Hid (Calls prog 134 #[.agg #[.int .u64 (tk.id:Int),.int .u64 (tk.list:Int),.string (str tk.title),.bool tk.done,.float .f64 tk.rank,.float .f64 tk.est,.slice A3 tk.tags.length c3]] w3 fun e w'=>e=.returned (.int .i64 (T9.aT tk))∧Below w3.heap.size w3 w'):=hid (w_ (m:=⟨tk,A3,c3⟩) (FI.out.stay (B2'.out.trans (B3.out.mono B2'.out.size))) SH.out)
       clear he
       by_cases hf:T9.aT tk=0
       ·have U3:Hid (T9.bK ls 0 (ay ms)=T9.bK ls tk.id ((ay ms).drop (i+1))):=hid (by rw [U2.out];unfold T9.bK;rw [if_neg NI.out,if_neg AN.out,if_neg (by simp [hf])];cases (ay ms).drop (i+1) <;> rfl)
        rw [hf] at RF
        clear hf
        go_wp2_with fail
        refine RF.out.mono ?_
        rintro e w4 ⟨rfl,h4⟩
        have H4:=hid h4
        clear h4
        go_wp2
        go_roundw
        case rel=>exact⟨tk.id,i+1,rfl,by go_num,by omega,U3,(BF.out.trans (H4.out.mono BF.out.size))⟩
        case measure=>simp [intOf];omega
       ·have R:Hid (T9.bK ls 0 (ay ms)=T9.aT tk):=hid (by rw [U2.out];unfold T9.bK;rw [if_neg NI.out,if_neg AN.out,if_pos hf])
        have hfz:(T9.aT tk==0)=false:=by simp [hf]
        have hfz2:(T9.aT tk != 0)=true:=by simp [hf]
        go_wp2_with fail
        refine RF.out.mono ?_
        rintro e w4 ⟨rfl,h4⟩
        have H4:=hid h4
        clear h4
        go_wp2
        rw [Exit.noGoto_ret]
        go_ret
        exact⟨aZ R.out.symm,B1.out.trans ((BF.out.trans (H4.out.mono BF.out.size)).mono B1.out.size)⟩
      ·have wT:((l.id:Int)==(tk.list:Int))=false:=by simp;omega
       have hez2:((l.id:Int) != (tk.list:Int))=true:=by simp;omega
       have AN:Hid ((ls.take (j+1)).any (fun l=>l.id==tk.list)=false):=hid (by rw [Jd X1.out,hV.out];simp [he])
       clear he
       go_wp2
       go_roundw
       case rel=>exact⟨j+1,by go_num,by omega,AN,B3.out⟩
       case measure=>simp [intOf];omega
     ·obtain rfl:j=n1:=by omega
      have hljz:¬ ((j:Int)<(j:Int)):=by omega
      have R:Hid (T9.bK ls 0 (ay ms)=91):=hid (by
       have:=hV.out
       rw [E1.out,List.take_length] at this
       rw [U2.out];unfold T9.bK;rw [if_neg NI.out,if_pos this])
      have BF:=hid (B2.out.trans (CR.out.mono B2.out.size))
      go_wp2
      try rw [Exit.noGoto_ret]
      go_ret
      exact⟨aZ R.out.symm,B1.out.trans (BF.out.mono B1.out.size)⟩
  ·obtain rfl:i=n2:=by omega
   have hltz:¬ ((i:Int)<(i:Int)):=by omega
   have R:Hid (T9.bK ls 0 (ay ms)=0):=hid (by rw [hU.out,E2.out,← aK ms,List.drop_length];rfl)
   go_wp2
   try rw [Exit.noGoto_ret]
   go_ret
   exact⟨aZ R.out.symm,B1.out.trans (BR.out.mono B1.out.size)⟩
theorem FJ {A A2:Option Addr} {n1 n2 c c2:Nat} {ls:List T9.Li} {ms:List aN} {w:World} (hl:LL w A ls) (hk:KL w A2 ms) (e1:n1=ls.length) (e2:n2=ms.length) (hs:(⟨ls,ay ms⟩:T9.St).short) (hb:n1≤c∧n2≤c2) :
  Calls prog 72 #[.agg #[.slice A n1 c,.slice A2 n2 c2]] w fun e w'=>e=.returned (.int .i64 (T9.aJ ⟨ls,ay ms⟩))∧Below w.heap.size w w':=by
 have E1:=hid e1
 have E2:=hid e2
 have HS:=hid hs
 obtain⟨w1,hw1⟩:=nm (w.alloc (.cells #[.slice A n1 c,.slice A2 n2 c2] 26))
 obtain⟨pb,b1,z1⟩:=aj hw1
 have PB:=hid pb
 have B1:=hid b1
 have HL:=hid (hl.stay b1)
 have HK:=hid (hk.stay b1)
 have Z1:=hid z1
 have sm1:n1≤1000000:=by have:=hs.2.2.1;simp at this;omega
 have sm2:n2≤1000000:=by have:=hs.2.2.2;rw [aK] at this;omega
 obtain⟨p0,p1⟩:=aa pb
 have ET:Hid ((ay ms).length=n2):=hid (by rw [aK];exact e2.symm)
 have HBC:=hid hb
 clear hl hk e1 e2 hs pb b1 z1 hb
 by_cases hm1:20<n1
 ·have hmz:(20:Int)<(n1:Int):=by omega
  have R:Hid (T9.aJ ⟨ls,ay ms⟩=95):=hid (by unfold T9.aJ;rw [if_pos (.inl (by rw [← E1.out];exact hm1))])
  go_enter func72,ntmps72
  go_wp2
  go_ret
  exact⟨aZ R.out.symm,B1.out⟩
 have hmz:¬ ((20:Int)<(n1:Int)):=by omega
 by_cases hm2:60<n2
 ·have J7:(60:Int)<(n2:Int):=by omega
  have R:Hid (T9.aJ ⟨ls,ay ms⟩=95):=hid (by unfold T9.aJ;rw [if_pos (.inr (by rw [ET.out];exact hm2))])
  go_enter func72,ntmps72
  go_wp2
  go_ret
  exact⟨aZ R.out.symm,B1.out⟩
 have J7:¬ ((60:Int)<(n2:Int)):=by omega
 have R:Hid (T9.aJ ⟨ls,ay ms⟩=if T9.bJ 0 ls≠0 then T9.bJ 0 ls else T9.bK ls 0 (ay ms)):=hid (by unfold T9.aJ;rw [if_neg (by rw [ET.out,← E1.out];omega)])
 clear hm1 hm2
 go_enter func72,ntmps72
 go_wp2
 go_loopw [3,19] (fun s3 s19 wr=>∃ (a i:Nat),s3=.int .u64 a∧s19=.int .i64 i∧i≤n1∧Hid (T9.bJ 0 ls=T9.bJ a (ls.drop i))∧Aside (Below w1.heap.size w1 wr)) (fun _ s19 _=>n1 - (intOf s19).toNat)
 case atStart=>exact⟨0,0,rfl,rfl,Nat.zero_le _,hid rfl,Below.refl _ _⟩
 case round =>
  obtain⟨a,i,rfl,rfl,hi,hU,hB⟩:=hrel
  have BR:=hid hB.out
  clear hB
  have pbr:=(BR.out.block w.heap.size (by have:=Z1.out;omega)).trans PB.out
  by_cases hlt:i<n1
  ·have hltz:(i:Int)<(n1:Int):=by omega
   obtain⟨ad,l,hA,hx,q0,q1⟩:=(HL.out.stay BR.out).at_ (k:=i) (by have:=E1.out;omega)
   subst hA
   have SH:Hid (l.name.length≤1000000):=hid (HS.out.1 l (List.mem_of_getElem? hx))
   have U2:Hid (T9.bJ 0 ls=T9.bJ a (l :: ls.drop (i+1))):=hid (by rw [hU.out,drop_at hx])
   obtain⟨w2,hw2⟩:=nm (wr.alloc (.cells #[.int .u64 (l.id:Int),.string (str l.name)] 61))
   obtain⟨lb,b2,z2⟩:=aj hw2
   have B2:Hid (Below w1.heap.size w1 w2):=hid (BR.out.trans (b2.mono BR.out.size))
   obtain⟨l0,l1⟩:=aa lb
   clear hx lb b2 z2 pbr
   by_cases hidq:l.id≤a
   ·have hz:(l.id:Int)≤(a:Int):=by omega
    have R2:Hid (T9.aJ ⟨ls,ay ms⟩=91):=hid (by
     have:T9.bJ 0 ls=91:=by rw [U2.out];unfold T9.bJ;rw [if_pos hidq]
     rw [R.out,this];rfl)
    go_wp2
    go_ret
    exact⟨aZ R2.out.symm,B1.out.trans (B2.out.mono B1.out.size)⟩
   ·have hz:¬ ((l.id:Int)≤(a:Int)):=by omega
    have NI:=hid hidq
    have TC:=oz l.name SH.out
    clear hidq
    cases hT:T9.title l.name with
    | false =>
     rw [hT] at TC
     have R2:Hid (T9.aJ ⟨ls,ay ms⟩=94):=hid (by
      have:T9.bJ 0 ls=94:=by rw [U2.out];unfold T9.bJ;rw [if_neg NI.out,if_pos hT]
      rw [R.out,this];rfl)
     clear hT
     go_wp2_with (go_at_call 91;refine (TC _).mono ?_;rintro e w' ⟨rfl,rfl⟩)
     go_ret
     exact⟨aZ R2.out.symm,B1.out.trans (B2.out.mono B1.out.size)⟩
    | true =>
     rw [hT] at TC
     have U3:Hid (T9.bJ 0 ls=T9.bJ l.id (ls.drop (i+1))):=hid (U2.out.trans (nD NI.out hT))
     clear hT
     go_wp2_with (go_at_call 91;refine (TC _).mono ?_;rintro e w' ⟨rfl,rfl⟩)
     go_roundw
     case rel=>exact⟨l.id,i+1,rfl,by go_num,by omega,U3,B2.out⟩
     case measure=>simp [intOf];omega
  ·obtain rfl:i=n1:=by omega
   have hltz:¬ ((i:Int)<(i:Int)):=by omega
   have R2:Hid (T9.aJ ⟨ls,ay ms⟩=T9.bK ls 0 (ay ms)):=hid (by
    have:T9.bJ 0 ls=0:=by rw [hU.out,E1.out,List.drop_length];rfl
    rw [R.out,this];rfl)
   have RT:=hid (zu (HL.out.stay BR.out) (HK.out.stay BR.out) E1.out E2.out HS.out HBC.out)
   obtain⟨r0,r1⟩:=aa pbr
   clear pbr
   go_wp2_with fail
   refine RT.out.mono ?_
   rintro e w4 ⟨rfl,h4⟩
   have H4:=hid h4
   clear h4
   go_wp2
   go_ret
   exact⟨aZ R2.out.symm,B1.out.trans ((BR.out.trans (H4.out.mono BR.out.size)).mono B1.out.size)⟩
end
end
section
namespace T9
theorem iV {ls:List Li}:∀ {ts:List Tk} {a:Nat},bK ls a ts=0→(∀ t∈ts,a<t.id∧aT t=0∧(ls.any fun l=>l.id==t.list)=true)∧ts.Pairwise (fun x y=>x.id<y.id)
 | [],a,_=>⟨by simp,List.Pairwise.nil⟩
 | t :: r,a,h=>by
  unfold bK at h
  by_cases h1:t.id≤a
  ·rw [if_pos h1] at h;cases h
  rw [if_neg h1] at h
  by_cases h2:(ls.any fun l=>l.id==t.list)=false
  ·rw [if_pos h2] at h;cases h
  rw [if_neg h2] at h
  by_cases h3:aT t≠0
  ·rw [if_pos h3] at h;exact absurd h h3
  rw [if_neg h3] at h
  obtain⟨q1,q2⟩:=iV h
  have h2':(ls.any fun l=>l.id==t.list)=true:=by simpa using h2
  refine⟨fun x hx=>?_,List.pairwise_cons.2 ⟨fun x hx=>(q1 x hx).1,q2⟩⟩
  rcases List.mem_cons.1 hx with rfl | hx
  ·exact⟨by omega,by simpa using h3,h2'⟩
  ·have:=q1 x hx
   exact⟨by omega,this.2⟩
theorem wD {ls:List Li} {f:Tk→Tk} (hi:∀ t,(f t).id=t.id) (hl:∀ t,(f t).list=t.list):∀ {ts:List Tk} {a:Nat},(∀ t∈ts,aT (f t)=0)→bK ls a ts=0→bK ls a (ts.map f)=0
 | [],a,_,_=>rfl
 | t :: r,a,hf,h=>by
  rw [List.map_cons]
  unfold bK at h ⊢
  rw [hi,hl]
  by_cases h1:t.id≤a
  ·rw [if_pos h1] at h;cases h
  rw [if_neg h1] at h ⊢
  by_cases h2:(ls.any fun l=>l.id==t.list)=false
  ·rw [if_pos h2] at h;cases h
  rw [if_neg h2] at h ⊢
  rw [if_neg (fun q=>q (hf t List.mem_cons_self))]
  by_cases h3:aT t≠0
  ·rw [if_pos h3] at h;exact absurd h h3
  rw [if_neg h3] at h
  exact wD hi hl (fun x hx=>hf x (List.mem_cons_of_mem _ hx)) h
theorem xK:∀ {ls:List Li} {a:Nat},bJ a ls=0→(∀ l∈ls,a<l.id)∧ls.Pairwise (fun x y=>x.id<y.id)
 | [],a,_=>⟨by simp,List.Pairwise.nil⟩
 | l :: r,a,h=>by
  unfold bJ at h
  by_cases h1:l.id≤a
  ·rw [if_pos h1] at h;cases h
  rw [if_neg h1] at h
  by_cases h2:title l.name=false
  ·rw [if_pos h2] at h;cases h
  rw [if_neg h2] at h
  obtain⟨q1,q2⟩:=xK h
  refine⟨fun x hx=>?_,List.pairwise_cons.2 ⟨q1,q2⟩⟩
  rcases List.mem_cons.1 hx with rfl | hx
  ·omega
  ·have:=q1 x hx
   omega
theorem aF {s:St} (h:aJ s=0):s.lists.length≤20∧s.tasks.length≤60∧bJ 0 s.lists=0∧bK s.lists 0 s.tasks=0:=by
 unfold aJ at h
 by_cases h1:20<s.lists.length∨60<s.tasks.length
 ·rw [if_pos h1] at h;cases h
 rw [if_neg h1] at h
 by_cases h2:bJ 0 s.lists≠0
 ·rw [if_pos h2] at h;exact absurd h h2
 rw [if_neg h2] at h
 exact⟨by omega,by omega,by simpa using h2,h⟩
theorem jw {s:St} (h1:s.lists.length≤20) (h2:s.tasks.length≤60) (h3:bJ 0 s.lists=0) (h4:bK s.lists 0 s.tasks=0):aJ s=0:=by
 unfold aJ
 rw [if_neg (by omega),if_neg (fun q=>q h3),h4]
theorem mq:∀ {l:List (List UInt8)} {a:List UInt8},bT a l=true→(∀ x∈l,dN a x=true)∧Sr.Str dN l
 | [],a,_=>⟨by simp,List.Pairwise.nil⟩
 | t :: l,a,h=>by
  unfold bT at h
  rw [Bool.and_eq_true,Bool.and_eq_true] at h
  obtain⟨q1,q2⟩:=mq h.2
  refine⟨fun x hx=>?_,List.pairwise_cons.2 ⟨q1,q2⟩⟩
  rcases List.mem_cons.1 hx with rfl | hx
  ·exact h.1.2
  ·exact MO.tr _ _ _ h.1.2 (q1 x hx)
theorem xJ {b:Nat} (h:n_ b=true):Fl.canon b=b:=by
 unfold n_ at h
 rw [beq_iff_eq,Fl.I_eq,Fl.I_eq] at h
 omega
theorem cu {t:Tk} (h:aT t=0):title t.title=true∧Fl.dz t.rank=false∧n_ t.rank=true∧n_ t.est=true∧t.tags.length≤4∧bT [] t.tags=true:=by
 unfold aT at h
 by_cases h1:title t.title=false
 ·rw [if_pos h1] at h;cases h
 rw [if_neg h1] at h
 by_cases h2:(Fl.dz t.rank || !n_ t.rank)=true
 ·rw [if_pos h2] at h;cases h
 rw [if_neg h2] at h
 by_cases h3:n_ t.est=false
 ·rw [if_pos h3] at h;cases h
 rw [if_neg h3] at h
 by_cases h4:4<t.tags.length
 ·rw [if_pos h4] at h;cases h
 rw [if_neg h4] at h
 by_cases h5:bT [] t.tags=true
 ·rw [Bool.not_eq_true,Bool.or_eq_false_iff,Bool.not_eq_false'] at h2
  exact⟨by simpa using h1,h2.1,h2.2,by simpa using h3,by omega,h5⟩
 ·rw [if_neg h5] at h;cases h
theorem gG {t:Tk} (h1:title t.title=true) (h2:Fl.dz t.rank=false) (h3:n_ t.rank=true) (h4:n_ t.est=true) (h5:t.tags.length≤4) (h6:bT [] t.tags=true):aT t=0:=by
 unfold aT
 rw [if_neg (by rw [h1];decide),h2,h3,if_neg (by decide),if_neg (by rw [h4];decide),if_neg (by omega),if_pos h6]
theorem Eg {t:Tk} (h:aT t=0):norm t=t:=by
 obtain⟨_,_,h3,h4,_,h6⟩:=cu h
 unfold norm
 rw [xJ h3,xJ h4,Sr.nW MO (mq h6).2]
theorem FM {ts:List Tk} (h:ts.Pairwise (fun x y=>x.id<y.id)):Sr.Str jg ts:=h.imp fun q=>decide_eq_true q
theorem str_ltL {ls:List Li} (h:ls.Pairwise (fun x y=>x.id<y.id)):Sr.Str iY ls:=h.imp fun q=>decide_eq_true q
theorem kS {s:St} (h:aJ s=0):canon s=s:=by
 obtain⟨_,_,h3,h4⟩:=aF h
 have t:=iV h4
 show (⟨Sr.canon iY s.lists,(Sr.canon jg s.tasks).map norm⟩:St)=s
 rw [Sr.nW woL (str_ltL (xK h3).2),Sr.nW woK (FM t.2)]
 have e:s.tasks.map norm=s.tasks:=by
  conv=>rhs;rw [← List.map_id s.tasks]
  exact List.map_congr_left fun x hx=>Eg (t.1 x hx).2.1
 rw [e]
theorem Ib {s:St} (h:aJ s=0):tK s.tasks:=(iV (aF h).2.2.2).2.imp fun q=>by omega
def oP (l:List Tk) (t:Tk):Tk:=match zR l t.id with | some j=>{ t with rank:=Fl.zP (j+1) } | none=>t
theorem zB (l:List Tk) (t:Tk):(oP l t).id=t.id:=by unfold oP;split <;> rfl
theorem Md (l:List Tk) (t:Tk):(oP l t).list=t.list:=by unfold oP;split <;> rfl
theorem plc_at {l:List Tk} (u:tK l) {j:Nat} {t:Tk} (h:l[j]?=some t):zR l t.id=some j:=by
 obtain⟨hj,e⟩:=List.getElem?_eq_some_iff.1 h
 unfold zR
 rw [List.findIdx?_eq_some_iff_getElem]
 refine⟨hj,by simp [e],fun i hi=>?_⟩
 have q:=List.pairwise_iff_getElem.1 u i j (by omega) hj hi
 simp only [Bool.not_eq_true,beq_eq_false_iff_ne]
 rw [← e]
 exact q
theorem Bt {l:List Tk} {id:Nat}:zR l id=none↔∀ t∈l,t.id≠id:=by
 unfold zR
 rw [List.findIdx?_eq_none_iff]
 simp
theorem Bu {l:List Tk} {id k:Nat} (h:zR l id=some k):∃ t,l[k]?=some t∧t.id=id:=by
 unfold zR at h
 rw [List.findIdx?_eq_some_iff_getElem] at h
 obtain⟨hk,e,_⟩:=h
 exact⟨l[k],List.getElem?_eq_getElem hk,by simpa using e⟩
theorem Me {l ts:List Tk} (ul:tK l) (ut:tK ts) {i k:Nat} {x y:Tk} (hx:l[i]?=some x) (hy:ts[k]?=some y) (e:y.id=x.id) :
  (ts.map (oP (l.take i))).set k { oP (l.take i) y with rank:=Fl.zP (i+1) }=ts.map (oP (l.take (i+1))):=by
 obtain⟨hi,ex⟩:=List.getElem?_eq_some_iff.1 hx
 obtain⟨hk,ey⟩:=List.getElem?_eq_some_iff.1 hy
 have tk:l.take (i+1)=l.take i++[x]:=kv hx
 have none_i:∀ t∈l.take i,t.id≠x.id:=fun t ht=>by
  obtain⟨j,hj,ej⟩:=List.mem_iff_getElem.1 ht
  rw [List.length_take] at hj
  rw [List.getElem_take] at ej
  have q:=List.pairwise_iff_getElem.1 ul j i (by omega) hi (by omega)
  rw [ej,ex] at q
  exact q
 have sx:oP (l.take i) y=y:=by
  unfold oP
  rw [e,Bt.2 none_i]
 have sy:oP (l.take (i+1)) y={ y with rank:=Fl.zP (i+1) }:=by
  have p:zR (l.take (i+1)) y.id=some i:=by
   rw [e]
   have u:tK (l.take (i+1)):=List.Pairwise.sublist (List.take_sublist _ _) ul
   have g:(l.take (i+1))[i]?=some x:=by rw [List.getElem?_take,if_pos (by omega)];exact hx
   exact plc_at u g
  unfold oP
  rw [p]
 apply List.ext_getElem
 ·simp
 ·intro j h1 h2
  rw [List.getElem_set]
  have hj:j<ts.length:=by simpa using h2
  by_cases hjk:k=j
  ·subst hjk
   rw [if_pos rfl,List.getElem_map,ey,sy,sx]
  ·rw [if_neg hjk,List.getElem_map,List.getElem_map]
   have ne:ts[j].id≠x.id:=by
    rcases Nat.lt_or_ge j k with q | q
    ·have:=List.pairwise_iff_getElem.1 ut j k hj hk q
     rw [ey,e] at this
     exact this
    ·have:=List.pairwise_iff_getElem.1 ut k j hk hj (by omega)
     rw [ey,e] at this
     exact this.symm
   unfold oP
   have p:zR (l.take (i+1)) ts[j].id=zR (l.take i) ts[j].id:=by
    unfold zR
    rw [tk,List.findIdx?_append]
    have:[x].findIdx? (fun t=>t.id==ts[j].id)=none:=by
     rw [List.findIdx?_eq_none_iff]
     intro t ht
     simp only [List.mem_cons,List.not_mem_nil,or_false] at ht
     subst ht
     simpa using ne.symm
    rw [this]
    simp
   rw [p]
theorem zC {s:St} (h:aJ s=0) {l:List Tk} (hl:l.length≤60):aJ ⟨s.lists,s.tasks.map (oP l)⟩=0:=by
 obtain⟨h1,h2,h3,h4⟩:=aF h
 have t:=iV h4
 refine jw h1 (by simpa using h2) h3 (wD (zB l) (Md l) (fun x hx=>?_) h4)
 obtain⟨q1,q2,q3,q4,q5,q6⟩:=cu (t.1 x hx).2.1
 unfold oP
 split
 ·rename_i j hj
  obtain⟨y,hy,_⟩:=Bu hj
  have hj':=(List.getElem?_eq_some_iff.1 hy).1
  have f:=Fl.JU (j+1) (by omega)
  exact gG q1 f.2.1 f.2.2.1 q4 q5 q6
 ·exact (t.1 x hx).2.1
end T9
end
end Go.Proofs.YtcmiompdjjiojaaGreat
