import Derived.Test.YtdjiiknefhepdaaGreatZ10
import Derived.Test.YtdjiiknefhepdaaGreatZ6
import Derived.Test.YtdjiiknefhepdaaGreatZ7
import Derived.Test.YtdjiiknefhepdaaGreatZ13
namespace Go.Proofs.YtdjiiknefhepdaaGreat
set_option maxHeartbeats 16000000
open Go.Lib Go.Proofs.Tryz
set_option linter.unusedSimpArgs false
set_option maxRecDepth 100000
section
section
open Go.Shelf Go.RowKit Go.Lib Go.Sort
theorem cmpM_w {bx:Nat} (x y:aM) (W:World) (hb:W.cell? ⟨bx,0,none⟩=some (.func (.func 46) #[] #[])) (hlt:bx<W.heap.size) :
  Calls prog 80 #[.agg (az x).toArray,.agg (az y).toArray,.pointer (some ⟨bx,0,none⟩)] W fun e w'=>e=.returned (.int .i64 (cfM x y))∧∃ q os',w'=grow (W.drewN q) os':=by
 obtain⟨wB,iU⟩:∃ u,(W.alloc (.cells (az x).toArray 63)).alloc (.cells (az y).toArray 63)=u:=⟨_,rfl⟩
 have sB:wB.heap.size=W.heap.size+2:=by rw [← iU];simp
 have GB:Hid (∀ q os,grow (wB.drewN q) os=grow (W.drewN q) (#[.cells (az x).toArray 63,.cells (az y).toArray 63]++os)):=hid fun q os=>by rw [← iU];exact m_ W _ _ q os
 have cb:∀ n os,(grow (wB.drewN n) os).cell? ⟨bx,0,none⟩=some (.func (.func 46) #[] #[]):=fun n os=>cell_grown (by show bx<wB.heap.size;omega) (by
  have b2:Below W.heap.size W wB:=by rw [← iU];exact ((Below.refl _ W).alloc (Nat.le_refl _) _).alloc (by simp) _
  exact (b2.cell (p:=⟨bx,0,none⟩) hlt).trans hb) n os
 have lx:∀ n os,∀ j (h:j<(az x).length),(grow (wB.drewN n) os).cell? ⟨W.heap.size,j,none⟩=some ((az x)[j]):=fun n os j h=>cell_grown (by show W.heap.size<wB.heap.size;omega) (by
  have k:wB.heap[W.heap.size]?=some (.cells (az x).toArray 63 (0,0)):=by rw [← iU];exact a_ (heap_alloc_new W _) _
  rw [cell_of_row wB W.heap.size j _ _ _ k]
  simp [h]) n os
 have ly:∀ n os,∀ j (h:j<(az y).length),(grow (wB.drewN n) os).cell? ⟨W.heap.size+1,j,none⟩=some ((az y)[j]):=fun n os j h=>cell_grown (by show W.heap.size+1<wB.heap.size;omega) (by
  have k:wB.heap[W.heap.size+1]?=some (.cells (az y).toArray 63 (0,0)):=by
   rw [← iU]
   have:=heap_alloc_new (W.alloc (.cells (az x).toArray 63)) (.cells (az y).toArray 63)
   rwa [World.size_alloc] at this
  rw [cell_of_row wB (W.heap.size+1) j _ _ _ k]
  simp [h]) n os
 have x0:=fun n os=>lx n os 0 (by rw [aT];decide)
 have y0:=fun n os=>ly n os 0 (by rw [aT];decide)
 have x1:=fun n os=>lx n os 1 (by rw [aT];decide)
 have y1:=fun n os=>ly n os 1 (by rw [aT];decide)
 have x2:=fun n os=>lx n os 2 (by rw [aT];decide)
 have y2:=fun n os=>ly n os 2 (by rw [aT];decide)
 have x3:=fun n os=>lx n os 3 (by rw [aT];decide)
 have y3:=fun n os=>ly n os 3 (by rw [aT];decide)
 have x4:=fun n os=>lx n os 4 (by rw [aT];decide)
 have y4:=fun n os=>ly n os 4 (by rw [aT];decide)
 have x5:=fun n os=>lx n os 5 (by rw [aT];decide)
 have y5:=fun n os=>ly n os 5 (by rw [aT];decide)
 have x6:=fun n os=>lx n os 6 (by rw [aT];decide)
 have y6:=fun n os=>ly n os 6 (by rw [aT];decide)
 clear lx ly hb sB
 unfold az at x0 y0 x1 y1 x2 y2 x3 y3 x4 y4 x5 y5 x6 y6 iU ⊢
 simp only [List.getElem_cons_zero,List.getElem_cons_succ] at x0 y0 x1 y1 x2 y2 x3 y3 x4 y4 x5 y5 x6 y6
 go_enter func80,ntmps80
 go_wp2_with fail
 clear iU
 have mixed:=jb
 go_quiet_grown (first | (go_at_call 46;first | exact Calls.grown_of (xE x _) | exact Calls.grown_of (xE y _)) | (go_at_call 75;refine Calls.grown_of (oH (qw _ _ _))))
 go_wp2
 go_ret
 refine⟨rfl,nq,_,GB.out nq osq⟩
theorem eqM_w {bx:Nat} (x y:aM) (W:World) (hb:W.cell? ⟨bx,0,none⟩=some (.func (.func 46) #[] #[])) (hlt:bx<W.heap.size) :
  Calls prog 82 #[.agg (az x).toArray,.agg (az y).toArray,.pointer (some ⟨bx,0,none⟩)] W fun e w'=>e=.returned (.bool (Sr.gZ iB x y))∧∃ q os',w'=grow (W.drewN q) os':=by
 obtain⟨wB,iU⟩:∃ u,(W.alloc (.cells (az x).toArray 63)).alloc (.cells (az y).toArray 63)=u:=⟨_,rfl⟩
 have sB:wB.heap.size=W.heap.size+2:=by rw [← iU];simp
 have GB:Hid (∀ q os,grow (wB.drewN q) os=grow (W.drewN q) (#[.cells (az x).toArray 63,.cells (az y).toArray 63]++os)):=hid fun q os=>by rw [← iU];exact m_ W _ _ q os
 have cb:∀ n os,(grow (wB.drewN n) os).cell? ⟨bx,0,none⟩=some (.func (.func 46) #[] #[]):=fun n os=>cell_grown (by show bx<wB.heap.size;omega) (by
  have b2:Below W.heap.size W wB:=by rw [← iU];exact ((Below.refl _ W).alloc (Nat.le_refl _) _).alloc (by simp) _
  exact (b2.cell (p:=⟨bx,0,none⟩) hlt).trans hb) n os
 have lx:∀ n os,∀ j (h:j<(az x).length),(grow (wB.drewN n) os).cell? ⟨W.heap.size,j,none⟩=some ((az x)[j]):=fun n os j h=>cell_grown (by show W.heap.size<wB.heap.size;omega) (by
  have k:wB.heap[W.heap.size]?=some (.cells (az x).toArray 63 (0,0)):=by rw [← iU];exact a_ (heap_alloc_new W _) _
  rw [cell_of_row wB W.heap.size j _ _ _ k]
  simp [h]) n os
 have ly:∀ n os,∀ j (h:j<(az y).length),(grow (wB.drewN n) os).cell? ⟨W.heap.size+1,j,none⟩=some ((az y)[j]):=fun n os j h=>cell_grown (by show W.heap.size+1<wB.heap.size;omega) (by
  have k:wB.heap[W.heap.size+1]?=some (.cells (az y).toArray 63 (0,0)):=by
   rw [← iU]
   have:=heap_alloc_new (W.alloc (.cells (az x).toArray 63)) (.cells (az y).toArray 63)
   rwa [World.size_alloc] at this
  rw [cell_of_row wB (W.heap.size+1) j _ _ _ k]
  simp [h]) n os
 have x0:=fun n os=>lx n os 0 (by rw [aT];decide)
 have y0:=fun n os=>ly n os 0 (by rw [aT];decide)
 have x1:=fun n os=>lx n os 1 (by rw [aT];decide)
 have y1:=fun n os=>ly n os 1 (by rw [aT];decide)
 have x2:=fun n os=>lx n os 2 (by rw [aT];decide)
 have y2:=fun n os=>ly n os 2 (by rw [aT];decide)
 have x3:=fun n os=>lx n os 3 (by rw [aT];decide)
 have y3:=fun n os=>ly n os 3 (by rw [aT];decide)
 have x4:=fun n os=>lx n os 4 (by rw [aT];decide)
 have y4:=fun n os=>ly n os 4 (by rw [aT];decide)
 have x5:=fun n os=>lx n os 5 (by rw [aT];decide)
 have y5:=fun n os=>ly n os 5 (by rw [aT];decide)
 have x6:=fun n os=>lx n os 6 (by rw [aT];decide)
 have y6:=fun n os=>ly n os 6 (by rw [aT];decide)
 clear lx ly hb sB
 unfold az at x0 y0 x1 y1 x2 y2 x3 y3 x4 y4 x5 y5 x6 y6 iU ⊢
 simp only [List.getElem_cons_zero,List.getElem_cons_succ] at x0 y0 x1 y1 x2 y2 x3 y3 x4 y4 x5 y5 x6 y6
 go_enter func82,ntmps82
 go_wp2_with fail
 clear iU
 have mixed:=jb
 go_quiet_grown (first | (go_at_call 46;first | exact Calls.grown_of (xE x _) | exact Calls.grown_of (xE y _)))
 go_wp2
 go_ret
 refine⟨aP (eqvM_id x y).symm,nq,_,GB.out nq osq⟩
theorem cmpS_w {bx:Nat} (x y:List UInt8) (W:World) (hb:W.cell? ⟨bx,0,none⟩=some (.func (.func 48) #[] #[])) (hlt:bx<W.heap.size) :
  Calls prog 85 #[encS x,encS y,.pointer (some ⟨bx,0,none⟩)] W fun e w'=>e=.returned (.int .i64 (nU x y))∧∃ q os',w'=grow (W.drewN q) os':=by
 have cb:∀ n os,(grow (W.drewN n) os).cell? ⟨bx,0,none⟩=some (.func (.func 48) #[] #[]):=fun n os=>cell_grown (by show bx<W.heap.size;omega) hb n os
 clear hb
 unfold encS
 go_enter func85,ntmps85
 go_wp2_with fail
 have mixed:=jb
 go_quiet_grown (first | (go_at_call 48;first | exact Calls.grown_of (wL x _) | exact Calls.grown_of (wL y _)) | (go_at_call 86;refine Calls.grown_of (oH (Gb _ _ _))))
 go_wp2
 go_ret
 exact⟨rfl,nq,osq,rfl⟩
theorem eqS_w {bx:Nat} (x y:List UInt8) (W:World) (hb:W.cell? ⟨bx,0,none⟩=some (.func (.func 48) #[] #[])) (hlt:bx<W.heap.size) :
  Calls prog 88 #[encS x,encS y,.pointer (some ⟨bx,0,none⟩)] W fun e w'=>e=.returned (.bool (Sr.gZ T9.dL x y))∧∃ q os',w'=grow (W.drewN q) os':=by
 have cb:∀ n os,(grow (W.drewN n) os).cell? ⟨bx,0,none⟩=some (.func (.func 48) #[] #[]):=fun n os=>cell_grown (by show bx<W.heap.size;omega) hb n os
 clear hb
 unfold encS
 go_enter func88,ntmps88
 go_wp2_with fail
 have mixed:=jb
 go_quiet_grown (first | (go_at_call 48;first | exact Calls.grown_of (wL x _) | exact Calls.grown_of (wL y _)))
 go_wp2
 go_ret
 exact⟨aP (eqvS_eq x y).symm,nq,osq,rfl⟩
theorem srtL:zG prog:=⟨jb,func166,func159,func143,func144,func118,Tryz.call166,Tryz.call159,Tryz.call143,Tryz.call144,underlying0,isAgg0,sizeOf0,zeroValue0,underlying3,isAgg3,sizeOf3,zeroValue3,underlying4,isAgg4,sizeOf4,zeroValue4,underlying166,isAgg166,sizeOf166,zeroValue166,underlying22,isAgg22,sizeOf22,zeroValue22,underlying117,isAgg117,sizeOf117,zeroValue117⟩
theorem cptL:CptL prog:=⟨jb,func76,underlying0,isAgg0,sizeOf0,zeroValue0,underlying3,isAgg3,sizeOf3,zeroValue3,underlying4,isAgg4,sizeOf4,zeroValue4,underlying22,isAgg22,sizeOf22,zeroValue22,underlying119,isAgg119,sizeOf119,zeroValue119⟩
theorem srtK:x_ prog:=⟨jb,func167,func160,func145,func146,func120,Tryz.call167,Tryz.call160,Tryz.call145,Tryz.call146,underlying0,isAgg0,sizeOf0,zeroValue0,underlying3,isAgg3,sizeOf3,zeroValue3,underlying4,isAgg4,sizeOf4,zeroValue4,underlying166,isAgg166,sizeOf166,zeroValue166,underlying23,isAgg23,sizeOf23,zeroValue23,underlying122,isAgg122,sizeOf122,zeroValue122⟩
theorem cptK:CptK prog:=⟨jb,func81,underlying0,isAgg0,sizeOf0,zeroValue0,underlying3,isAgg3,sizeOf3,zeroValue3,underlying4,isAgg4,sizeOf4,zeroValue4,underlying23,isAgg23,sizeOf23,zeroValue23,underlying86,isAgg86,sizeOf86,zeroValue86⟩
theorem srtS:SrtS prog:=⟨jb,func147,func121,Tryz.call147,underlying0,isAgg0,sizeOf0,zeroValue0,underlying3,isAgg3,sizeOf3,zeroValue3,underlying4,isAgg4,sizeOf4,zeroValue4,underlying166,isAgg166,sizeOf166,zeroValue166,underlying61,isAgg61,sizeOf61,zeroValue61,underlying9,isAgg9,sizeOf9,zeroValue9,underlying125,isAgg125,sizeOf125,zeroValue125⟩
theorem cptS:CptS prog:=⟨jb,func87,underlying0,isAgg0,sizeOf0,zeroValue0,underlying3,isAgg3,sizeOf3,zeroValue3,underlying4,isAgg4,sizeOf4,zeroValue4,underlying61,isAgg61,sizeOf61,zeroValue61,underlying9,isAgg9,sizeOf9,underlying127,isAgg127,sizeOf127,zeroValue127⟩
theorem laysL {blk bx:Nat} {size:Nat} {w:World} (hb:w.cell? ⟨bx,0,none⟩=some (.func (.func 44) #[] #[])) (hne:bx≠blk) (hlt:bx<w.heap.size):CmpLays prog 74 #[.pointer (some ⟨bx,0,none⟩)] bf 2 cfL blk 0 size w :=
 fun m os dk _ x y=>cmpL_w x y _ (sG hb hne hlt) (by unfold sortWorldK;rw [size_grow];have q:(putRowK bf 2 (Sort.ahead w m) blk 0 dk).heap.size=w.heap.size:=(by rw [size_putRowK];rfl);omega)
theorem eqsL {blk bx:Nat} {size:Nat} {w:World} (hb:w.cell? ⟨bx,0,none⟩=some (.func (.func 44) #[] #[])) (hne:bx≠blk) (hlt:bx<w.heap.size):EqL prog 77 #[.pointer (some ⟨bx,0,none⟩)] bf 2 (Sr.gZ T9.iP) blk 0 size w :=
 fun m os dk _ x y=>eqL_w x y _ (sG hb hne hlt) (by unfold sortWorldK;rw [size_grow];have q:(putRowK bf 2 (Sort.ahead w m) blk 0 dk).heap.size=w.heap.size:=(by rw [size_putRowK];rfl);omega)
theorem laysM {blk bx:Nat} {size:Nat} {w:World} (hb:w.cell? ⟨bx,0,none⟩=some (.func (.func 46) #[] #[])) (hne:bx≠blk) (hlt:bx<w.heap.size):CmpLays prog 80 #[.pointer (some ⟨bx,0,none⟩)] az 7 cfM blk 0 size w :=
 fun m os dk _ x y=>cmpM_w x y _ (sG hb hne hlt) (by unfold sortWorldK;rw [size_grow];have q:(putRowK az 7 (Sort.ahead w m) blk 0 dk).heap.size=w.heap.size:=(by rw [size_putRowK];rfl);omega)
theorem eqsM {blk bx:Nat} {size:Nat} {w:World} (hb:w.cell? ⟨bx,0,none⟩=some (.func (.func 46) #[] #[])) (hne:bx≠blk) (hlt:bx<w.heap.size):EqK prog 82 #[.pointer (some ⟨bx,0,none⟩)] az 7 (Sr.gZ iB) blk 0 size w :=
 fun m os dk _ x y=>eqM_w x y _ (sG hb hne hlt) (by unfold sortWorldK;rw [size_grow];have q:(putRowK az 7 (Sort.ahead w m) blk 0 dk).heap.size=w.heap.size:=(by rw [size_putRowK];rfl);omega)
theorem laysS {blk bx:Nat} {size:Nat} {w:World} (hb:w.cell? ⟨bx,0,none⟩=some (.func (.func 48) #[] #[])) (hne:bx≠blk) (hlt:bx<w.heap.size):CmpLays1 prog 85 #[.pointer (some ⟨bx,0,none⟩)] encS nU blk 0 size w :=
 fun m os dk _ x y=>cmpS_w x y _ (yF hb hne hlt) (by unfold sortWorld;rw [size_grow];have q:(putRow encS (Sort.ahead w m) blk 0 dk).heap.size=w.heap.size:=(by simp [putRow,mapBlock,Sort.ahead]);omega)
theorem eqsS {blk bx:Nat} {size:Nat} {w:World} (hb:w.cell? ⟨bx,0,none⟩=some (.func (.func 48) #[] #[])) (hne:bx≠blk) (hlt:bx<w.heap.size):EqS prog 88 #[.pointer (some ⟨bx,0,none⟩)] encS (Sr.gZ T9.dL) blk 0 size w :=
 fun m os dk _ x y=>eqS_w x y _ (yF hb hne hlt) (by unfold sortWorld;rw [size_grow];have q:(putRow encS (Sort.ahead w m) blk 0 dk).heap.size=w.heap.size:=(by simp [putRow,mapBlock,Sort.ahead]);omega)
end
section
open Go.Shelf Go.RowKit Go.Lib Go.Sort
theorem Tryz.infoLi9:(prog.info? 60).map (fun i=>(i.zero,i.size,i.bytes))=some (some (.agg #[.int .u64 0,.string ⟨#[]⟩]),2,24):=by kernel_rfl
theorem Tryz.infoTk9:(prog.info? 63).map (fun i=>(i.zero,i.size,i.bytes))=some (some (.agg #[.int .u64 0,.int .u64 0,.string ⟨#[]⟩,.bool false,.float .f64 0,.float .f64 0,.slice none 0 0]),7,80):=by kernel_rfl
theorem Tryz.infoStr9:(prog.info? 9).map (fun i=>(i.zero,i.size,i.bytes))=some (some (.string ⟨#[]⟩),1,16):=by kernel_rfl
theorem gT {P:Program} (w:World) (t ty e:TypeId) (i:TypeInfo) (ht:P.underlying t=some (.slice e)) (hi:P.info? e=some i) (A A2:Option Addr) (n c c2:Nat) (hn:n≤c):(Builtin.append_ #[t,t] ty #[.slice A n c,.slice A2 0 c2]).run P w=.ok (.slice A n c) w:=by
 cases A2 <;> cases A <;> simp [Builtin.append_,run_underlying ht,sizeOf,typeInfo,hi,Builtin.lenOf,Builtin.firstCells,hn,storeCells,loadCells,loadCellsFrom]
def AX (t:TypeId) (size:Nat) (cells:List Value) (n:Nat) (w:World) (e:Ending) (w':World):Prop :=
 ∃ A2 c2,e=.returned (.slice A2 n c2)∧n≤c2∧(n=0∧c2=0∨∃ g,A2=some ⟨g,0,none⟩∧w'.ownsRow w.heap.size t size (.slice A2 n c2) n cells)∧Below w.heap.size w w'
theorem bK {w:World} {B:Nat} {e:TypeId} {size:Nat} {A:Option Addr} {n c:Nat} {xs:List Value} (h:w.ownsRow B e size (.slice A n c) n xs) (hn:0<n):∃ g,A=some ⟨g,0,none⟩∧B≤g:=by
 rcases h.2 with⟨_,h0⟩ | ⟨g,cap,cur,hv,hB,_⟩
 ·omega
 ·injection hv with h1
  exact⟨g,h1,hB⟩
theorem l_ {w:World} {B:Nat} {e:TypeId} {size:Nat} {A:Option Addr} {n c:Nat} {xs:List Value} (h:w.ownsRow B e size (.slice A n c) n xs):c≤maxLen:=by
 rcases h.2 with⟨hv,_⟩ | ⟨g,cap,cur,hv,_,_,_,hc,_⟩
 ·injection hv with _ _ h3;subst h3;exact Nat.zero_le _
 ·injection hv with _ _ h3;subst h3;exact hc
theorem ownL_c {A:Option Addr} {n c:Nat} {xs:List Value} {w:World} {B:Nat} {t:TypeId} (h:au w B t A xs) (hl:xs.length=n * 2) (h1:∀ u∈xs,u.oneCell'=true) (hs:n≤1000000000):Calls prog 72 #[.slice A n c] w (AX 60 2 xs n w):=by
 obtain⟨i0,hi,hz0,hz1,hz2⟩:=info_parts Tryz.infoLi9
 have HL:=hid h
 have HX:=hid hl
 have H1:=hid h1
 clear h hl h1
 by_cases h0:n=0
 ·subst h0
  rcases A with _ | ad
  ·have hr:∀ ty,(Builtin.append_ #[22,22] ty #[.slice none 0 0,.slice none 0 c]).run prog w=.ok (.slice none 0 0) w:=fun ty=>gT w _ ty _ i0 underlying22 hi none none 0 0 c (Nat.le_refl _)
   go_enter func72,ntmps72
   go_wp2
   go_ret
   exact⟨_,0,rfl,Nat.le_refl _,.inl ⟨rfl,rfl⟩,Below.refl _ _⟩
  ·have hr:∀ ty,(Builtin.append_ #[22,22] ty #[.slice (some ad) 0 0,.slice (some ad) 0 c]).run prog w=.ok (.slice (some ad) 0 0) w:=fun ty=>gT w _ ty _ i0 underlying22 hi (some ad) (some ad) 0 0 c (Nat.le_refl _)
   go_enter func72,ntmps72
   go_wp2
   go_ret
   exact⟨_,0,rfl,Nat.le_refl _,.inl ⟨rfl,rfl⟩,Below.refl _ _⟩
 ·obtain⟨ad,rfl⟩:∃ ad,A=some ad:=by
   obtain⟨ad,e,_⟩:=HL.out (fun e=>by have:=HX.out;rw [e] at this;simp at this;omega)
   exact⟨ad,e⟩
  have hc:Hid (∀ j u,xs[j]?=some u→w.cell? (ad.add j)=some u):=hid fun j u hu=>by
   obtain⟨JJ,e,_,hc⟩:=HL.out (fun e=>by rw [e] at hu;simp at hu)
   injection e with e
   subst e
   exact hc j u hu
  go_enter func72,ntmps72
  go_wp2_with (at_builtin;refine ja _ rfl _ _ 22 rfl w.heap.size 60 i0 _ 2 24 underlying22 hi hz0 hz1 hz2 rfl 0 0 (some ad) 0 [] rfl rfl au.nil (by simp) ad n c xs rfl HX.out hc.out H1.out (by omega) (by unfold maxLen;omega) (by omega) (Nat.le_refl _) ?_)
  intro v' w1 hown hgrow
  obtain⟨A2,c2,rfl⟩:=aA hown
  obtain⟨g,e,_⟩:=bK hown (by omega)
  have hr:=(aQ hown).2
  have HO:=hid hown
  have HB:=hid (kg (World.ownsRow_nil w w.heap.size 60 2) hgrow (Nat.le_refl _))
  have HE:=hid e
  clear hown hgrow e
  go_wp2
  go_ret
  exact⟨A2,c2,rfl,hr,.inr ⟨g,HE.out,HO.out⟩,HB.out⟩
theorem ownM_c {A:Option Addr} {n c:Nat} {xs:List Value} {w:World} {B:Nat} {t:TypeId} (h:au w B t A xs) (hl:xs.length=n * 7) (h1:∀ u∈xs,u.oneCell'=true) (hs:n≤1000000000):Calls prog 78 #[.slice A n c] w (AX 63 7 xs n w):=by
 obtain⟨i0,hi,hz0,hz1,hz2⟩:=info_parts Tryz.infoTk9
 have HL:=hid h
 have HX:=hid hl
 have H1:=hid h1
 clear h hl h1
 by_cases h0:n=0
 ·subst h0
  rcases A with _ | ad
  ·have hr:∀ ty,(Builtin.append_ #[23,23] ty #[.slice none 0 0,.slice none 0 c]).run prog w=.ok (.slice none 0 0) w:=fun ty=>gT w _ ty _ i0 underlying23 hi none none 0 0 c (Nat.le_refl _)
   go_enter func78,ntmps78
   go_wp2
   go_ret
   exact⟨_,0,rfl,Nat.le_refl _,.inl ⟨rfl,rfl⟩,Below.refl _ _⟩
  ·have hr:∀ ty,(Builtin.append_ #[23,23] ty #[.slice (some ad) 0 0,.slice (some ad) 0 c]).run prog w=.ok (.slice (some ad) 0 0) w:=fun ty=>gT w _ ty _ i0 underlying23 hi (some ad) (some ad) 0 0 c (Nat.le_refl _)
   go_enter func78,ntmps78
   go_wp2
   go_ret
   exact⟨_,0,rfl,Nat.le_refl _,.inl ⟨rfl,rfl⟩,Below.refl _ _⟩
 ·obtain⟨ad,rfl⟩:∃ ad,A=some ad:=by
   obtain⟨ad,e,_⟩:=HL.out (fun e=>by have:=HX.out;rw [e] at this;simp at this;omega)
   exact⟨ad,e⟩
  have hc:Hid (∀ j u,xs[j]?=some u→w.cell? (ad.add j)=some u):=hid fun j u hu=>by
   obtain⟨JJ,e,_,hc⟩:=HL.out (fun e=>by rw [e] at hu;simp at hu)
   injection e with e
   subst e
   exact hc j u hu
  go_enter func78,ntmps78
  go_wp2_with (at_builtin;refine ja _ rfl _ _ 23 rfl w.heap.size 63 i0 _ 7 80 underlying23 hi hz0 hz1 hz2 rfl 0 0 (some ad) 0 [] rfl rfl au.nil (by simp) ad n c xs rfl HX.out hc.out H1.out (by omega) (by unfold maxLen;omega) (by omega) (Nat.le_refl _) ?_)
  intro v' w1 hown hgrow
  obtain⟨A2,c2,rfl⟩:=aA hown
  obtain⟨g,e,_⟩:=bK hown (by omega)
  have hr:=(aQ hown).2
  have HO:=hid hown
  have HB:=hid (kg (World.ownsRow_nil w w.heap.size 63 7) hgrow (Nat.le_refl _))
  have HE:=hid e
  clear hown hgrow e
  go_wp2
  go_ret
  exact⟨A2,c2,rfl,hr,.inr ⟨g,HE.out,HO.out⟩,HB.out⟩
theorem ownS_c {A:Option Addr} {n c:Nat} {xs:List Value} {w:World} {B:Nat} {t:TypeId} (h:au w B t A xs) (hl:xs.length=n * 1) (h1:∀ u∈xs,u.oneCell'=true) (hs:n≤1000000000):Calls prog 83 #[.slice A n c] w (AX 9 1 xs n w):=by
 obtain⟨i0,hi,hz0,hz1,hz2⟩:=info_parts Tryz.infoStr9
 have HL:=hid h
 have HX:=hid hl
 have H1:=hid h1
 clear h hl h1
 by_cases h0:n=0
 ·subst h0
  rcases A with _ | ad
  ·have hr:∀ ty,(Builtin.append_ #[61,61] ty #[.slice none 0 0,.slice none 0 c]).run prog w=.ok (.slice none 0 0) w:=fun ty=>gT w _ ty _ i0 underlying61 hi none none 0 0 c (Nat.le_refl _)
   go_enter func83,ntmps83
   go_wp2
   go_ret
   exact⟨_,0,rfl,Nat.le_refl _,.inl ⟨rfl,rfl⟩,Below.refl _ _⟩
  ·have hr:∀ ty,(Builtin.append_ #[61,61] ty #[.slice (some ad) 0 0,.slice (some ad) 0 c]).run prog w=.ok (.slice (some ad) 0 0) w:=fun ty=>gT w _ ty _ i0 underlying61 hi (some ad) (some ad) 0 0 c (Nat.le_refl _)
   go_enter func83,ntmps83
   go_wp2
   go_ret
   exact⟨_,0,rfl,Nat.le_refl _,.inl ⟨rfl,rfl⟩,Below.refl _ _⟩
 ·obtain⟨ad,rfl⟩:∃ ad,A=some ad:=by
   obtain⟨ad,e,_⟩:=HL.out (fun e=>by have:=HX.out;rw [e] at this;simp at this;omega)
   exact⟨ad,e⟩
  have hc:Hid (∀ j u,xs[j]?=some u→w.cell? (ad.add j)=some u):=hid fun j u hu=>by
   obtain⟨JJ,e,_,hc⟩:=HL.out (fun e=>by rw [e] at hu;simp at hu)
   injection e with e
   subst e
   exact hc j u hu
  go_enter func83,ntmps83
  go_wp2_with (at_builtin;refine ja _ rfl _ _ 61 rfl w.heap.size 9 i0 _ 1 16 underlying61 hi hz0 hz1 hz2 rfl 0 0 (some ad) 0 [] rfl rfl au.nil (by simp) ad n c xs rfl HX.out hc.out H1.out (by omega) (by unfold maxLen;omega) (by omega) (Nat.le_refl _) ?_)
  intro v' w1 hown hgrow
  obtain⟨A2,c2,rfl⟩:=aA hown
  obtain⟨g,e,_⟩:=bK hown (by omega)
  have hr:=(aQ hown).2
  have HO:=hid hown
  have HB:=hid (kg (World.ownsRow_nil w w.heap.size 9 1) hgrow (Nat.le_refl _))
  have HE:=hid e
  clear hown hgrow e
  go_wp2
  go_ret
  exact⟨A2,c2,rfl,hr,.inr ⟨g,HE.out,HO.out⟩,HB.out⟩
theorem A_ (A:Option Addr) (c:Nat) (f:Value) (w:World):Calls prog 118 #[.slice A 0 c,.int .i64 0,f] w fun e w'=>e=.returned (.tuple #[])∧w=w':=by
 have hi:Calls prog 143 #[.slice A 0 c,.int .i64 0,.int .i64 0,f] w fun e w'=>e=.returned (.tuple #[])∧w=w':=by
  go_enter func143,ntmps143
  go_wp2_with fail
  go_loopw [8] (fun s8 wr=>s8=.int .i64 1∧wr=w) (fun _ _=>0)
  case atStart=>exact⟨rfl,rfl⟩
  case round =>
   obtain⟨rfl,rfl⟩:=hrel
   go_wp2
   go_end0
   exact⟨rfl,rfl⟩
 have HI:=hid hi
 clear hi
 go_enter func118,ntmps118
 go_wp2_with fail
 go_loopw [7,8] (fun s7 s8 wr=>s7=.int .i64 0∧s8=.int .i64 20∧wr=w) (fun _ _ _=>0)
 case atStart=>exact⟨rfl,rfl,rfl⟩
 case round =>
  obtain⟨rfl,rfl,rfl⟩:=hrel
  go_wp2_with (go_at_call 143;refine HI.out.mono ?_;rintro e w1 ⟨rfl,rfl⟩)
  go_loopw [6] (fun s6 wr2=>s6=.int .i64 20∧wr2=wr) (fun _ _=>0)
  case atStart=>exact⟨rfl,rfl⟩
  case round =>
   obtain⟨rfl,rfl⟩:=hrel
   go_wp2
   go_end0
   exact⟨rfl,rfl⟩
theorem H_ (A:Option Addr) (c:Nat) (f:Value) (w:World):Calls prog 73 #[.slice A 0 c,f] w fun e w'=>e=.returned (.tuple #[])∧w=w':=by
 go_enter func73,ntmps73
 go_wp2_with (go_at_call 118;refine (A_ _ _ _ _).mono ?_;rintro e w1 ⟨rfl,rfl⟩)
 go_end0
 exact⟨rfl,rfl⟩
theorem sortL_c {blk cap:Nat} {d:Array T9.Li} {w:World} {g:Nat} {cb:Array Value} (R:RowK bf 2 w blk 0 d) (S:SWK bf 2 w blk 0 d w) (eg:∀ args w,(callFunc g args).run prog w=.ok (.enter g args) w) (hcmp:CmpLays prog g cb bf 2 cfL blk 0 d.size w) (ho:Sr.WO (ltOf cfL)) (hsz:d.size<4611686018427387904) (n:Nat) (hn:n=d.size) :
  Calls prog 73 #[.slice (some ⟨blk,0,none⟩) n cap,.func (.func g) #[] cb] w fun e w'=>e=.returned (.tuple #[])∧qf cfL bf 2 w blk 0 d [] d.toList [] w':=by
 have hc:=stableL srtL 2 isAgg60 sizeOf60 bf blk 0 cap d d w w R rfl S cfL g cb eg hcmp ho n hn hsz
 rw [← hn] at hc
 have HC:=hid hc
 clear hc hcmp ho R S hn hsz
 go_enter func73,ntmps73
 go_wp2_with (go_at_call 118;refine HC.out.mono ?_;rintro e w1 ⟨rfl,hw1⟩)
 have H:=hid hw1
 clear hw1
 go_wp2
 go_end0
 exact⟨rfl,H.out⟩
theorem Bh (A:Option Addr) (c:Nat) (f:Value) (w:World):Calls prog 120 #[.slice A 0 c,.int .i64 0,f] w fun e w'=>e=.returned (.tuple #[])∧w=w':=by
 have hi:Calls prog 145 #[.slice A 0 c,.int .i64 0,.int .i64 0,f] w fun e w'=>e=.returned (.tuple #[])∧w=w':=by
  go_enter func145,ntmps145
  go_wp2_with fail
  go_loopw [8] (fun s8 wr=>s8=.int .i64 1∧wr=w) (fun _ _=>0)
  case atStart=>exact⟨rfl,rfl⟩
  case round =>
   obtain⟨rfl,rfl⟩:=hrel
   go_wp2
   go_end0
   exact⟨rfl,rfl⟩
 have HI:=hid hi
 clear hi
 go_enter func120,ntmps120
 go_wp2_with fail
 go_loopw [7,8] (fun s7 s8 wr=>s7=.int .i64 0∧s8=.int .i64 20∧wr=w) (fun _ _ _=>0)
 case atStart=>exact⟨rfl,rfl,rfl⟩
 case round =>
  obtain⟨rfl,rfl,rfl⟩:=hrel
  go_wp2_with (go_at_call 145;refine HI.out.mono ?_;rintro e w1 ⟨rfl,rfl⟩)
  go_loopw [6] (fun s6 wr2=>s6=.int .i64 20∧wr2=wr) (fun _ _=>0)
  case atStart=>exact⟨rfl,rfl⟩
  case round =>
   obtain⟨rfl,rfl⟩:=hrel
   go_wp2
   go_end0
   exact⟨rfl,rfl⟩
theorem zW (A:Option Addr) (c:Nat) (f:Value) (w:World):Calls prog 79 #[.slice A 0 c,f] w fun e w'=>e=.returned (.tuple #[])∧w=w':=by
 go_enter func79,ntmps79
 go_wp2_with (go_at_call 120;refine (Bh _ _ _ _).mono ?_;rintro e w1 ⟨rfl,rfl⟩)
 go_end0
 exact⟨rfl,rfl⟩
theorem sortM_c {blk cap:Nat} {d:Array aM} {w:World} {g:Nat} {cb:Array Value} (R:RowK az 7 w blk 0 d) (S:SWK az 7 w blk 0 d w) (eg:∀ args w,(callFunc g args).run prog w=.ok (.enter g args) w) (hcmp:CmpLays prog g cb az 7 cfM blk 0 d.size w) (ho:Sr.WO (ltOf cfM)) (hsz:d.size<4611686018427387904) (n:Nat) (hn:n=d.size) :
  Calls prog 79 #[.slice (some ⟨blk,0,none⟩) n cap,.func (.func g) #[] cb] w fun e w'=>e=.returned (.tuple #[])∧oG cfM az 7 w blk 0 d [] d.toList [] w':=by
 have hc:=CZ srtK 7 isAgg63 sizeOf63 az blk 0 cap d d w w R rfl S cfM g cb eg hcmp ho n hn hsz
 rw [← hn] at hc
 have HC:=hid hc
 clear hc hcmp ho R S hn hsz
 go_enter func79,ntmps79
 go_wp2_with (go_at_call 120;refine HC.out.mono ?_;rintro e w1 ⟨rfl,hw1⟩)
 have H:=hid hw1
 clear hw1
 go_wp2
 go_end0
 exact⟨rfl,H.out⟩
theorem AR (A:Option Addr) (c:Nat) (f:Value) (w:World):Calls prog 121 #[.slice A 0 c,.int .i64 0,f] w fun e w'=>e=.returned (.tuple #[])∧w=w':=by
 have hi:Calls prog 147 #[.slice A 0 c,.int .i64 0,.int .i64 0,f] w fun e w'=>e=.returned (.tuple #[])∧w=w':=by
  go_enter func147,ntmps147
  go_wp2_with fail
  go_loopw [8] (fun s8 wr=>s8=.int .i64 1∧wr=w) (fun _ _=>0)
  case atStart=>exact⟨rfl,rfl⟩
  case round =>
   obtain⟨rfl,rfl⟩:=hrel
   go_wp2
   go_end0
   exact⟨rfl,rfl⟩
 have HI:=hid hi
 clear hi
 go_enter func121,ntmps121
 go_wp2_with fail
 go_loopw [7,8] (fun s7 s8 wr=>s7=.int .i64 0∧s8=.int .i64 20∧wr=w) (fun _ _ _=>0)
 case atStart=>exact⟨rfl,rfl,rfl⟩
 case round =>
  obtain⟨rfl,rfl,rfl⟩:=hrel
  go_wp2_with (go_at_call 147;refine HI.out.mono ?_;rintro e w1 ⟨rfl,rfl⟩)
  go_loopw [6] (fun s6 wr2=>s6=.int .i64 20∧wr2=wr) (fun _ _=>0)
  case atStart=>exact⟨rfl,rfl⟩
  case round =>
   obtain⟨rfl,rfl⟩:=hrel
   go_wp2
   go_end0
   exact⟨rfl,rfl⟩
theorem Jc (A:Option Addr) (c:Nat) (f:Value) (w:World):Calls prog 84 #[.slice A 0 c,f] w fun e w'=>e=.returned (.tuple #[])∧w=w':=by
 go_enter func84,ntmps84
 go_wp2_with (go_at_call 121;refine (AR _ _ _ _).mono ?_;rintro e w1 ⟨rfl,rfl⟩)
 go_end0
 exact⟨rfl,rfl⟩
theorem sortS_c {blk cap:Nat} {d:Array (List UInt8)} {w:World} {g:Nat} {cb:Array Value} (R:Row1 encS w blk 0 d) (S:SW encS w blk 0 d w) (eg:∀ args w,(callFunc g args).run prog w=.ok (.enter g args) w) (hcmp:CmpLays1 prog g cb encS nU blk 0 d.size w) (ho:Sr.WO (ltOf nU)) (hsz:d.size<20) (n:Nat) (hn:n=d.size) :
  Calls prog 84 #[.slice (some ⟨blk,0,none⟩) n cap,.func (.func g) #[] cb] w fun e w'=>e=.returned (.tuple #[])∧Ci nU encS w blk 0 d [] d.toList [] w':=by
 have hc:=stableS srtS encS blk 0 cap d d w w R rfl S nU g cb eg hcmp ho n hn hsz
 rw [← hn] at hc
 have HC:=hid hc
 clear hc hcmp ho R S hn hsz
 go_enter func84,ntmps84
 go_wp2_with (go_at_call 121;refine HC.out.mono ?_;rintro e w1 ⟨rfl,hw1⟩)
 have H:=hid hw1
 clear hw1
 go_wp2
 go_end0
 exact⟨rfl,H.out⟩
theorem xR (A:Option Addr) (c:Nat) (f:Value) (w:World):Calls prog 76 #[.slice A 0 c,f] w fun e w'=>e=.returned (.slice A 0 c)∧w=w':=by
 go_enter func76,ntmps76
 go_wp2
 go_ret
 exact⟨rfl,rfl⟩
theorem yw (A:Option Addr) (c:Nat) (f:Value) (w:World):Calls prog 81 #[.slice A 0 c,f] w fun e w'=>e=.returned (.slice A 0 c)∧w=w':=by
 go_enter func81,ntmps81
 go_wp2
 go_ret
 exact⟨rfl,rfl⟩
theorem yO (A:Option Addr) (c:Nat) (f:Value) (w:World):Calls prog 87 #[.slice A 0 c,f] w fun e w'=>e=.returned (.slice A 0 c)∧w=w':=by
 go_enter func87,ntmps87
 go_wp2
 go_ret
 exact⟨rfl,rfl⟩
def vQ (t:TypeId) (size:Nat) (cells:List Value) (n:Nat) (w:World) (e:Ending) (w':World):Prop :=
 ∃ A2 c2,e=.returned (.slice A2 n c2)∧n≤c2∧(n=0∧c2=0∨∃ g,A2=some ⟨g,0,none⟩∧w'.ownsRow w.heap.size t size (.slice A2 n c2) n cells)∧au w' w'.heap.size 0 A2 cells∧Below w.heap.size w w'
theorem Dt {A:Option Addr} {n c:Nat} {ls:List (T9.Li)} {w:World} {B:Nat} {t:TypeId} (h:au w B t A (ls.flatMap bf)) (hn:n=ls.length) (hs:n≤1000000) :
  Calls prog 43 #[.slice A n c,.func (.func 44) #[] #[]] w (vQ 60 2 ((Sr.canon T9.iP ls).flatMap bf) (Sr.canon T9.iP ls).length w):=by
 have HL0:=hid (h.old (t':=0))
 have HN:=hid hn
 clear h hn
 obtain⟨wB,iU⟩:∃ u,w.alloc (.cells #[.func (.func 44) #[] #[]] 88)=u:=⟨_,rfl⟩
 have bB:Below w.heap.size w wB:=by rw [← iU];exact (Below.refl _ w).alloc (Nat.le_refl _) _
 have kB:wB.heap[w.heap.size]?=some (.cells #[.func (.func 44) #[] #[]] 88 (0,0)):=by rw [← iU];exact heap_alloc_new w _
 have sB:wB.heap.size=w.heap.size+1:=by rw [← iU];simp
 have BB:=hid bB
 have KB:=hid kB
 have SB:=hid sB
 have HL:=hid (HL0.out.below (Nat.le_refl _) bB)
 have hO:=ownL_c (c:=c) (n:=n) HL.out (by rw [HN.out];exact eQ ls) (iF ls) (by omega)
 have HOW:=hid hO
 clear bB kB sB hO
 go_enter func43,ntmps43
 go_wp2_with (go_at_call 72;refine HOW.out.mono ?_;rintro e w1 ⟨A2,c2,rfl,hc2,ho,hb1⟩)
 have B1:=hid (BB.out.trans (hb1.mono (by have:=SB.out;omega)))
 have KB1:=hid ((hb1.block w.heap.size (by have:=SB.out;omega)).trans KB.out)
 have z1:=hb1.size
 have Z1:=hid z1
 have HO0:=hid ho
 clear hb1 ho z1
 by_cases h0:n=0
 ·subst h0
  have hnil:ls=[]:=List.length_eq_zero_iff.1 HN.out.symm
  have nS:=hid hnil
  clear hnil
  go_wp2_with (go_at_call 73;refine (H_ _ _ _ _).mono ?_;rintro e w2 ⟨rfl,rfl⟩)
  go_wp2_with (go_at_call 76;refine (xR _ _ _ _).mono ?_;rintro e w2 ⟨rfl,rfl⟩)
  go_ret
  exact⟨A2,c2,by rw [nS.out];rfl,by rw [nS.out];exact Nat.zero_le _,by
   rcases HO0.out with q | ⟨g,e,o⟩
   ·exact .inl ⟨by rw [nS.out];rfl,q.2⟩
   ·refine .inr ⟨g,e,?_⟩
    rw [nS.out] at o ⊢
    exact ed o (by have:=SB.out;omega),by rw [nS.out];exact au.nil,B1.out⟩
 ·obtain⟨g,hg,hown⟩:=HO0.out.resolve_left (fun q=>h0 q.1)
  have HG:=hid hg
  have HO:=hid hown
  rw [hg] at hown
  have gl:=hown.lt g rfl
  have Af:=hid gl
  have R:RowK bf 2 w1 g 0 ls.toArray:=tq (d:=ls.toArray) fO lD (by decide) rfl hown
  have S0:SWK bf 2 w1 g 0 ls.toArray w1:=SWK.start R.hH
  have RR:=hid R
  have HS0:=hid S0
  have IY:w1.cell? ⟨w.heap.size,0,none⟩=some (.func (.func 44) #[] #[]):=cell_of_one KB1.out
  have bxl:w.heap.size<w1.heap.size:=lt_of_block KB1.out
  have bxn:w.heap.size≠g:=by have:=SB.out;omega
  have JH:=hid (sortL_c (cap:=c2) R S0 (fun args w=>Tryz.call74 args w) (laysL (size:=ls.toArray.size) IY bxn bxl) (by rw [Ak];exact T9.woL) (by simp;have:=HN.out;omega) n (by simp;exact HN.out))
  clear hown R S0 gl
  rw [hg]
  clear hg
  have BX:=hid IY
  clear IY
  go_wp2_with (go_at_call 73;refine JH.out.mono ?_;rintro e w2 ⟨rfl,dk,W,hs2,hd2,hl2,hw2,EE,hst⟩)
  have S2:=hid hs2
  have SR:=hid (And.intro hd2 (And.intro hl2 (And.intro EE hst)))
  have hds:dk.size=n:=by rw [hd2];simp;exact HN.out.symm
  have CC:=FO cptL 2 isAgg60 sizeOf60 bf (⟨0,[]⟩:T9.Li) (fun w=>zeroValue60 w) rfl g 0 c2 ls.toArray dk w1 w2 RR.out (by rw [hd2]) hs2 (Sr.gZ T9.iP) 77 #[.pointer (some ⟨w.heap.size,0,none⟩)] (fun args w=>Tryz.call77 args w) (eqsL BX.out bxn bxl) (by rw [hds];exact hc2) (by have:=(l_ HO.out);unfold maxLen at this;omega) (by omega)
  rw [hds] at CC
  have HCC:=hid CC
  have HDS:=hid hds
  clear hs2 hd2 hl2 hw2 EE hst CC hds
  go_wp2_with (go_at_call 76;refine HCC.out.mono ?_;rintro e w3 ⟨dk3,m,rfl,hs3,hd3,hm0,zu⟩;have HM:=hid hm0;have HL3:=hid zu;have HD3:=hid hd3;clear hm0 zu hd3)
  have hm:=HM.out
  have hl3:=HL3.out
  have hd3:=HD3.out
  have CN:Sr.compact (Sr.gZ T9.iP) dk.toList=Sr.canon T9.iP ls:=Sr.kV T9.woL (by rw [← Ak];have:=SR.out.2.2.1;rw [SR.out.2.1];simpa using this) (by rw [← Ak];have:=SR.out.2.2.2;rw [SR.out.2.1];simpa using this)
  rw [CN] at hm hl3
  rw [hm] at hl3
  have xM:(Sr.canon T9.iP ls).length≤n:=by rw [HN.out];exact Sr.dF ls
  have mZ:dk3.size=ls.toArray.size:=by rw [hd3,HDS.out,HN.out];simp
  have HOG:=hid (show w1.ownsRow wB.heap.size 60 2 (.slice (some ⟨g,0,none⟩) n c2) n (ls.flatMap bf) by rw [← HG.out];exact HO.out)
  have FIN:vQ 60 2 ((Sr.canon T9.iP ls).flatMap bf) (Sr.canon T9.iP ls).length w (.returned (.slice (some ⟨g,0,none⟩) m c2)) w3:=by
   refine⟨some ⟨g,0,none⟩,c2,by rw [hm],by omega,.inr ⟨g,rfl,?_⟩,?_,B1.out.trans (qh hs3 (by have:=Af.out;have:=SB.out;omega) Af.out.2)⟩
   ·exact ed (Df hs3 RR.out mZ HOG.out hl3 xM) (by have:=SB.out;omega)
   ·exact oV hs3 RR.out mZ hl3 (SWK.lt hs3 Af.out.2)
  have HF:=hid FIN
  clear FIN hs3 hd3 hl3 CN xM mZ hm
  go_wp2
  go_ret
  exact HF.out
theorem Dw {A:Option Addr} {n c:Nat} {ls:List (aM)} {w:World} {B:Nat} {t:TypeId} (h:au w B t A (ls.flatMap az)) (hn:n=ls.length) (hs:n≤1000000) :
  Calls prog 45 #[.slice A n c,.func (.func 46) #[] #[]] w (vQ 63 7 ((Sr.canon iB ls).flatMap az) (Sr.canon iB ls).length w):=by
 have HL0:=hid (h.old (t':=0))
 have HN:=hid hn
 clear h hn
 obtain⟨wB,iU⟩:∃ u,w.alloc (.cells #[.func (.func 46) #[] #[]] 90)=u:=⟨_,rfl⟩
 have bB:Below w.heap.size w wB:=by rw [← iU];exact (Below.refl _ w).alloc (Nat.le_refl _) _
 have kB:wB.heap[w.heap.size]?=some (.cells #[.func (.func 46) #[] #[]] 90 (0,0)):=by rw [← iU];exact heap_alloc_new w _
 have sB:wB.heap.size=w.heap.size+1:=by rw [← iU];simp
 have BB:=hid bB
 have KB:=hid kB
 have SB:=hid sB
 have HL:=hid (HL0.out.below (Nat.le_refl _) bB)
 have hO:=ownM_c (c:=c) (n:=n) HL.out (by rw [HN.out];exact aN ls) (cB ls) (by omega)
 have HOW:=hid hO
 clear bB kB sB hO
 go_enter func45,ntmps45
 go_wp2_with (go_at_call 78;refine HOW.out.mono ?_;rintro e w1 ⟨A2,c2,rfl,hc2,ho,hb1⟩)
 have B1:=hid (BB.out.trans (hb1.mono (by have:=SB.out;omega)))
 have KB1:=hid ((hb1.block w.heap.size (by have:=SB.out;omega)).trans KB.out)
 have z1:=hb1.size
 have Z1:=hid z1
 have HO0:=hid ho
 clear hb1 ho z1
 by_cases h0:n=0
 ·subst h0
  have hnil:ls=[]:=List.length_eq_zero_iff.1 HN.out.symm
  have nS:=hid hnil
  clear hnil
  go_wp2_with (go_at_call 79;refine (zW _ _ _ _).mono ?_;rintro e w2 ⟨rfl,rfl⟩)
  go_wp2_with (go_at_call 81;refine (yw _ _ _ _).mono ?_;rintro e w2 ⟨rfl,rfl⟩)
  go_ret
  exact⟨A2,c2,by rw [nS.out];rfl,by rw [nS.out];exact Nat.zero_le _,by
   rcases HO0.out with q | ⟨g,e,o⟩
   ·exact .inl ⟨by rw [nS.out];rfl,q.2⟩
   ·refine .inr ⟨g,e,?_⟩
    rw [nS.out] at o ⊢
    exact ed o (by have:=SB.out;omega),by rw [nS.out];exact au.nil,B1.out⟩
 ·obtain⟨g,hg,hown⟩:=HO0.out.resolve_left (fun q=>h0 q.1)
  have HG:=hid hg
  have HO:=hid hown
  rw [hg] at hown
  have gl:=hown.lt g rfl
  have Af:=hid gl
  have R:RowK az 7 w1 g 0 ls.toArray:=tq (d:=ls.toArray) aT dK (by decide) rfl hown
  have S0:SWK az 7 w1 g 0 ls.toArray w1:=SWK.start R.hH
  have RR:=hid R
  have HS0:=hid S0
  have IY:w1.cell? ⟨w.heap.size,0,none⟩=some (.func (.func 46) #[] #[]):=cell_of_one KB1.out
  have bxl:w.heap.size<w1.heap.size:=lt_of_block KB1.out
  have bxn:w.heap.size≠g:=by have:=SB.out;omega
  have JH:=hid (sortM_c (cap:=c2) R S0 (fun args w=>Tryz.call80 args w) (laysM (size:=ls.toArray.size) IY bxn bxl) (by rw [Bc];exact woM) (by simp;have:=HN.out;omega) n (by simp;exact HN.out))
  clear hown R S0 gl
  rw [hg]
  clear hg
  have BX:=hid IY
  clear IY
  go_wp2_with (go_at_call 79;refine JH.out.mono ?_;rintro e w2 ⟨rfl,dk,W,hs2,hd2,hl2,hw2,EE,hst⟩)
  have S2:=hid hs2
  have SR:=hid (And.intro hd2 (And.intro hl2 (And.intro EE hst)))
  have hds:dk.size=n:=by rw [hd2];simp;exact HN.out.symm
  have CC:=FV cptK 7 isAgg63 sizeOf63 az (⟨⟨0,0,[],false,0,0,[]⟩,none,0⟩:aM) (fun w=>zeroValue63 w) rfl g 0 c2 ls.toArray dk w1 w2 RR.out (by rw [hd2]) hs2 (Sr.gZ iB) 82 #[.pointer (some ⟨w.heap.size,0,none⟩)] (fun args w=>Tryz.call82 args w) (eqsM BX.out bxn bxl) (by rw [hds];exact hc2) (by have:=(l_ HO.out);unfold maxLen at this;omega) (by omega)
  rw [hds] at CC
  have HCC:=hid CC
  have HDS:=hid hds
  clear hs2 hd2 hl2 hw2 EE hst CC hds
  go_wp2_with (go_at_call 81;refine HCC.out.mono ?_;rintro e w3 ⟨dk3,m,rfl,hs3,hd3,hm0,zu⟩;have HM:=hid hm0;have HL3:=hid zu;have HD3:=hid hd3;clear hm0 zu hd3)
  have hm:=HM.out
  have hl3:=HL3.out
  have hd3:=HD3.out
  have CN:Sr.compact (Sr.gZ iB) dk.toList=Sr.canon iB ls:=Sr.kV woM (by rw [← Bc];have:=SR.out.2.2.1;rw [SR.out.2.1];simpa using this) (by rw [← Bc];have:=SR.out.2.2.2;rw [SR.out.2.1];simpa using this)
  rw [CN] at hm hl3
  rw [hm] at hl3
  have xM:(Sr.canon iB ls).length≤n:=by rw [HN.out];exact Sr.dF ls
  have mZ:dk3.size=ls.toArray.size:=by rw [hd3,HDS.out,HN.out];simp
  have HOG:=hid (show w1.ownsRow wB.heap.size 63 7 (.slice (some ⟨g,0,none⟩) n c2) n (ls.flatMap az) by rw [← HG.out];exact HO.out)
  have FIN:vQ 63 7 ((Sr.canon iB ls).flatMap az) (Sr.canon iB ls).length w (.returned (.slice (some ⟨g,0,none⟩) m c2)) w3:=by
   refine⟨some ⟨g,0,none⟩,c2,by rw [hm],by omega,.inr ⟨g,rfl,?_⟩,?_,B1.out.trans (qh hs3 (by have:=Af.out;have:=SB.out;omega) Af.out.2)⟩
   ·exact ed (Df hs3 RR.out mZ HOG.out hl3 xM) (by have:=SB.out;omega)
   ·exact oV hs3 RR.out mZ hl3 (SWK.lt hs3 Af.out.2)
  have HF:=hid FIN
  clear FIN hs3 hd3 hl3 CN xM mZ hm
  go_wp2
  go_ret
  exact HF.out
theorem Dm {A:Option Addr} {n c:Nat} {ls:List (List UInt8)} {w:World} {B:Nat} {t:TypeId} (h:au w B t A (ls.map encS)) (hn:n=ls.length) (hs:n<20) :
  Calls prog 47 #[.slice A n c,.func (.func 48) #[] #[]] w (vQ 9 1 ((Sr.canon T9.dL ls).map encS) (Sr.canon T9.dL ls).length w):=by
 have HL0:=hid (h.old (t':=0))
 have HN:=hid hn
 clear h hn
 obtain⟨wB,iU⟩:∃ u,w.alloc (.cells #[.func (.func 48) #[] #[]] 92)=u:=⟨_,rfl⟩
 have bB:Below w.heap.size w wB:=by rw [← iU];exact (Below.refl _ w).alloc (Nat.le_refl _) _
 have kB:wB.heap[w.heap.size]?=some (.cells #[.func (.func 48) #[] #[]] 92 (0,0)):=by rw [← iU];exact heap_alloc_new w _
 have sB:wB.heap.size=w.heap.size+1:=by rw [← iU];simp
 have BB:=hid bB
 have KB:=hid kB
 have SB:=hid sB
 have HL:=hid (HL0.out.below (Nat.le_refl _) bB)
 have hO:=ownS_c (c:=c) (n:=n) HL.out (by rw [HN.out];exact by simp) (eT ls) (by omega)
 have HOW:=hid hO
 clear bB kB sB hO
 go_enter func47,ntmps47
 go_wp2_with (go_at_call 83;refine HOW.out.mono ?_;rintro e w1 ⟨A2,c2,rfl,hc2,ho,hb1⟩)
 have B1:=hid (BB.out.trans (hb1.mono (by have:=SB.out;omega)))
 have KB1:=hid ((hb1.block w.heap.size (by have:=SB.out;omega)).trans KB.out)
 have z1:=hb1.size
 have Z1:=hid z1
 have HO0:=hid ho
 clear hb1 ho z1
 by_cases h0:n=0
 ·subst h0
  have hnil:ls=[]:=List.length_eq_zero_iff.1 HN.out.symm
  have nS:=hid hnil
  clear hnil
  go_wp2_with (go_at_call 84;refine (Jc _ _ _ _).mono ?_;rintro e w2 ⟨rfl,rfl⟩)
  go_wp2_with (go_at_call 87;refine (yO _ _ _ _).mono ?_;rintro e w2 ⟨rfl,rfl⟩)
  go_ret
  exact⟨A2,c2,by rw [nS.out];rfl,by rw [nS.out];exact Nat.zero_le _,by
   rcases HO0.out with q | ⟨g,e,o⟩
   ·exact .inl ⟨by rw [nS.out];rfl,q.2⟩
   ·refine .inr ⟨g,e,?_⟩
    rw [nS.out] at o ⊢
    exact ed o (by have:=SB.out;omega),by rw [nS.out];exact au.nil,B1.out⟩
 ·obtain⟨g,hg,hown⟩:=HO0.out.resolve_left (fun q=>h0 q.1)
  have HG:=hid hg
  have HO:=hid hown
  rw [hg] at hown
  have gl:=hown.lt g rfl
  have Af:=hid gl
  have R:Row1 encS w1 g 0 ls.toArray:=Gy (d:=ls.toArray) (fun x=>rfl) rfl hown
  have S0:SW encS w1 g 0 ls.toArray w1:=SW.start R.hH
  have RR:=hid R
  have HS0:=hid S0
  have IY:w1.cell? ⟨w.heap.size,0,none⟩=some (.func (.func 48) #[] #[]):=cell_of_one KB1.out
  have bxl:w.heap.size<w1.heap.size:=lt_of_block KB1.out
  have bxn:w.heap.size≠g:=by have:=SB.out;omega
  have JH:=hid (sortS_c (cap:=c2) R S0 (fun args w=>Tryz.call85 args w) (laysS (size:=ls.toArray.size) IY bxn bxl) (by rw [Bw];exact T9.JN) (by simp;have:=HN.out;omega) n (by simp;exact HN.out))
  clear hown R S0 gl
  rw [hg]
  clear hg
  have BX:=hid IY
  clear IY
  go_wp2_with (go_at_call 84;refine JH.out.mono ?_;rintro e w2 ⟨rfl,dk,W,hs2,hd2,hl2,hw2,EE,hst⟩)
  have S2:=hid hs2
  have SR:=hid (And.intro hd2 (And.intro hl2 (And.intro EE hst)))
  have hds:dk.size=n:=by rw [hd2];simp;exact HN.out.symm
  have CC:=F5 cptS encS ([]:List UInt8) (fun w=>zeroValue9 w) g 0 c2 ls.toArray dk w1 w2 RR.out (by rw [hd2]) hs2 (Sr.gZ T9.dL) 88 #[.pointer (some ⟨w.heap.size,0,none⟩)] (fun args w=>Tryz.call88 args w) (eqsS BX.out bxn bxl) (by rw [hds];exact hc2) (by have:=(l_ HO.out);unfold maxLen at this;omega) (by omega)
  rw [hds] at CC
  have HCC:=hid CC
  have HDS:=hid hds
  clear hs2 hd2 hl2 hw2 EE hst CC hds
  go_wp2_with (go_at_call 87;refine HCC.out.mono ?_;rintro e w3 ⟨dk3,m,rfl,hs3,hd3,hm0,zu⟩;have HM:=hid hm0;have HL3:=hid zu;have HD3:=hid hd3;clear hm0 zu hd3)
  have hm:=HM.out
  have hl3:=HL3.out
  have hd3:=HD3.out
  have CN:Sr.compact (Sr.gZ T9.dL) dk.toList=Sr.canon T9.dL ls:=Sr.kV T9.JN (by rw [← Bw];have:=SR.out.2.2.1;rw [SR.out.2.1];simpa using this) (by rw [← Bw];have:=SR.out.2.2.2;rw [SR.out.2.1];simpa using this)
  rw [CN] at hm hl3
  rw [hm] at hl3
  have xM:(Sr.canon T9.dL ls).length≤n:=by rw [HN.out];exact Sr.dF ls
  have mZ:dk3.size=ls.toArray.size:=by rw [hd3,HDS.out,HN.out];simp
  have HOG:=hid (show w1.ownsRow wB.heap.size 9 1 (.slice (some ⟨g,0,none⟩) n c2) n (ls.map encS) by rw [← HG.out];exact HO.out)
  have FIN:vQ 9 1 ((Sr.canon T9.dL ls).map encS) (Sr.canon T9.dL ls).length w (.returned (.slice (some ⟨g,0,none⟩) m c2)) w3:=by
   refine⟨some ⟨g,0,none⟩,c2,by rw [hm],by omega,.inr ⟨g,rfl,?_⟩,?_,B1.out.trans (Il hs3 (by have:=Af.out;have:=SB.out;omega) Af.out.2)⟩
   ·exact ed (sw_own hs3 RR.out mZ HOG.out hl3 xM) (by have:=SB.out;omega)
   ·exact Di hs3 RR.out mZ hl3 (SW.lt hs3 Af.out.2)
  have HF:=hid FIN
  clear FIN hs3 hd3 hl3 CN xM mZ hm
  go_wp2
  go_ret
  exact HF.out
end
end
end Go.Proofs.YtdjiiknefhepdaaGreat
