import Derived.Test.YtcedlgedmkghgaaGreatZ11
import Derived.Test.YtcedlgedmkghgaaGreatZ8
import Derived.Test.YtcedlgedmkghgaaGreatZ14
namespace Go.Proofs.YtcedlgedmkghgaaGreat
set_option maxHeartbeats 16000000
open Go.Lib Go.Proofs.Tryz
set_option linter.unusedSimpArgs false
set_option maxRecDepth 100000
section
section
open Go.Shelf Go.RowKit Go.Lib Go.Sort
theorem cmpM_w {bx:Nat} (x y:aL) (W:World) (hb:W.cell? ⟨bx,0,none⟩=some (.func (.func 125) #[] #[])) (hlt:bx<W.heap.size) :
  Calls prog 177 #[.agg (az x).toArray,.agg (az y).toArray,.pointer (some ⟨bx,0,none⟩)] W fun e w'=>e=.returned (.int .i64 (cfM x y))∧∃ q os',w'=grow (W.drewN q) os':=by
 obtain⟨wB,iR⟩:∃ u,(W.alloc (.cells (az x).toArray 74)).alloc (.cells (az y).toArray 74)=u:=⟨_,rfl⟩
 have sB:wB.heap.size=W.heap.size+2:=by rw [← iR];simp
 have GB:Hid (∀ q os,grow (wB.drewN q) os=grow (W.drewN q) (#[.cells (az x).toArray 74,.cells (az y).toArray 74]++os)):=hid fun q os=>by rw [← iR];exact lX W _ _ q os
 have cb:∀ n os,(grow (wB.drewN n) os).cell? ⟨bx,0,none⟩=some (.func (.func 125) #[] #[]):=fun n os=>cell_grown (by show bx<wB.heap.size;omega) (by
  have b2:Below W.heap.size W wB:=by rw [← iR];exact ((Below.refl _ W).alloc (Nat.le_refl _) _).alloc (by simp) _
  exact (b2.cell (p:=⟨bx,0,none⟩) hlt).trans hb) n os
 have lx:∀ n os,∀ j (h:j<(az x).length),(grow (wB.drewN n) os).cell? ⟨W.heap.size,j,none⟩=some ((az x)[j]):=fun n os j h=>cell_grown (by show W.heap.size<wB.heap.size;omega) (by
  have k:wB.heap[W.heap.size]?=some (.cells (az x).toArray 74 (0,0)):=by rw [← iR];exact aY (heap_alloc_new W _) _
  rw [cell_of_row wB W.heap.size j _ _ _ k]
  simp [h]) n os
 have ly:∀ n os,∀ j (h:j<(az y).length),(grow (wB.drewN n) os).cell? ⟨W.heap.size+1,j,none⟩=some ((az y)[j]):=fun n os j h=>cell_grown (by show W.heap.size+1<wB.heap.size;omega) (by
  have k:wB.heap[W.heap.size+1]?=some (.cells (az y).toArray 74 (0,0)):=by
   rw [← iR]
   have:=heap_alloc_new (W.alloc (.cells (az x).toArray 74)) (.cells (az y).toArray 74)
   rwa [World.size_alloc] at this
  rw [cell_of_row wB (W.heap.size+1) j _ _ _ k]
  simp [h]) n os
 have x0:=fun n os=>lx n os 0 (by rw [aU];decide)
 have y0:=fun n os=>ly n os 0 (by rw [aU];decide)
 have x1:=fun n os=>lx n os 1 (by rw [aU];decide)
 have y1:=fun n os=>ly n os 1 (by rw [aU];decide)
 have x2:=fun n os=>lx n os 2 (by rw [aU];decide)
 have y2:=fun n os=>ly n os 2 (by rw [aU];decide)
 have x3:=fun n os=>lx n os 3 (by rw [aU];decide)
 have y3:=fun n os=>ly n os 3 (by rw [aU];decide)
 have x4:=fun n os=>lx n os 4 (by rw [aU];decide)
 have y4:=fun n os=>ly n os 4 (by rw [aU];decide)
 have x5:=fun n os=>lx n os 5 (by rw [aU];decide)
 have y5:=fun n os=>ly n os 5 (by rw [aU];decide)
 have x6:=fun n os=>lx n os 6 (by rw [aU];decide)
 have y6:=fun n os=>ly n os 6 (by rw [aU];decide)
 clear lx ly hb sB
 unfold az at x0 y0 x1 y1 x2 y2 x3 y3 x4 y4 x5 y5 x6 y6 iR ⊢
 simp only [List.getElem_cons_zero,List.getElem_cons_succ] at x0 y0 x1 y1 x2 y2 x3 y3 x4 y4 x5 y5 x6 y6
 go_enter func177,ntmps177
 go_wp2_with fail
 clear iR
 have mixed:=jd
 go_quiet_grown (first | (go_at_call 125;first | exact Calls.grown_of (wR x _) | exact Calls.grown_of (wR y _)) | (go_at_call 172;refine Calls.grown_of (oo (qf _ _ _))))
 go_wp2
 go_ret
 refine⟨rfl,nq,_,GB.out nq osq⟩
theorem eqM_w {bx:Nat} (x y:aL) (W:World) (hb:W.cell? ⟨bx,0,none⟩=some (.func (.func 125) #[] #[])) (hlt:bx<W.heap.size) :
  Calls prog 179 #[.agg (az x).toArray,.agg (az y).toArray,.pointer (some ⟨bx,0,none⟩)] W fun e w'=>e=.returned (.bool (Sr.gX iy x y))∧∃ q os',w'=grow (W.drewN q) os':=by
 obtain⟨wB,iR⟩:∃ u,(W.alloc (.cells (az x).toArray 74)).alloc (.cells (az y).toArray 74)=u:=⟨_,rfl⟩
 have sB:wB.heap.size=W.heap.size+2:=by rw [← iR];simp
 have GB:Hid (∀ q os,grow (wB.drewN q) os=grow (W.drewN q) (#[.cells (az x).toArray 74,.cells (az y).toArray 74]++os)):=hid fun q os=>by rw [← iR];exact lX W _ _ q os
 have cb:∀ n os,(grow (wB.drewN n) os).cell? ⟨bx,0,none⟩=some (.func (.func 125) #[] #[]):=fun n os=>cell_grown (by show bx<wB.heap.size;omega) (by
  have b2:Below W.heap.size W wB:=by rw [← iR];exact ((Below.refl _ W).alloc (Nat.le_refl _) _).alloc (by simp) _
  exact (b2.cell (p:=⟨bx,0,none⟩) hlt).trans hb) n os
 have lx:∀ n os,∀ j (h:j<(az x).length),(grow (wB.drewN n) os).cell? ⟨W.heap.size,j,none⟩=some ((az x)[j]):=fun n os j h=>cell_grown (by show W.heap.size<wB.heap.size;omega) (by
  have k:wB.heap[W.heap.size]?=some (.cells (az x).toArray 74 (0,0)):=by rw [← iR];exact aY (heap_alloc_new W _) _
  rw [cell_of_row wB W.heap.size j _ _ _ k]
  simp [h]) n os
 have ly:∀ n os,∀ j (h:j<(az y).length),(grow (wB.drewN n) os).cell? ⟨W.heap.size+1,j,none⟩=some ((az y)[j]):=fun n os j h=>cell_grown (by show W.heap.size+1<wB.heap.size;omega) (by
  have k:wB.heap[W.heap.size+1]?=some (.cells (az y).toArray 74 (0,0)):=by
   rw [← iR]
   have:=heap_alloc_new (W.alloc (.cells (az x).toArray 74)) (.cells (az y).toArray 74)
   rwa [World.size_alloc] at this
  rw [cell_of_row wB (W.heap.size+1) j _ _ _ k]
  simp [h]) n os
 have x0:=fun n os=>lx n os 0 (by rw [aU];decide)
 have y0:=fun n os=>ly n os 0 (by rw [aU];decide)
 have x1:=fun n os=>lx n os 1 (by rw [aU];decide)
 have y1:=fun n os=>ly n os 1 (by rw [aU];decide)
 have x2:=fun n os=>lx n os 2 (by rw [aU];decide)
 have y2:=fun n os=>ly n os 2 (by rw [aU];decide)
 have x3:=fun n os=>lx n os 3 (by rw [aU];decide)
 have y3:=fun n os=>ly n os 3 (by rw [aU];decide)
 have x4:=fun n os=>lx n os 4 (by rw [aU];decide)
 have y4:=fun n os=>ly n os 4 (by rw [aU];decide)
 have x5:=fun n os=>lx n os 5 (by rw [aU];decide)
 have y5:=fun n os=>ly n os 5 (by rw [aU];decide)
 have x6:=fun n os=>lx n os 6 (by rw [aU];decide)
 have y6:=fun n os=>ly n os 6 (by rw [aU];decide)
 clear lx ly hb sB
 unfold az at x0 y0 x1 y1 x2 y2 x3 y3 x4 y4 x5 y5 x6 y6 iR ⊢
 simp only [List.getElem_cons_zero,List.getElem_cons_succ] at x0 y0 x1 y1 x2 y2 x3 y3 x4 y4 x5 y5 x6 y6
 go_enter func179,ntmps179
 go_wp2_with fail
 clear iR
 have mixed:=jd
 go_quiet_grown (first | (go_at_call 125;first | exact Calls.grown_of (wR x _) | exact Calls.grown_of (wR y _)))
 go_wp2
 go_ret
 refine⟨aP (eqvM_id x y).symm,nq,_,GB.out nq osq⟩
theorem cmpS_w {bx:Nat} (x y:List UInt8) (W:World) (hb:W.cell? ⟨bx,0,none⟩=some (.func (.func 127) #[] #[])) (hlt:bx<W.heap.size) :
  Calls prog 182 #[encS x,encS y,.pointer (some ⟨bx,0,none⟩)] W fun e w'=>e=.returned (.int .i64 (nA x y))∧∃ q os',w'=grow (W.drewN q) os':=by
 have cb:∀ n os,(grow (W.drewN n) os).cell? ⟨bx,0,none⟩=some (.func (.func 127) #[] #[]):=fun n os=>cell_grown (by show bx<W.heap.size;omega) hb n os
 clear hb
 unfold encS
 go_enter func182,ntmps182
 go_wp2_with fail
 have mixed:=jd
 go_quiet_grown (first | (go_at_call 127;first | exact Calls.grown_of (wS x _) | exact Calls.grown_of (wS y _)) | (go_at_call 183;refine Calls.grown_of (oo (F8 _ _ _))))
 go_wp2
 go_ret
 exact⟨rfl,nq,osq,rfl⟩
theorem eqS_w {bx:Nat} (x y:List UInt8) (W:World) (hb:W.cell? ⟨bx,0,none⟩=some (.func (.func 127) #[] #[])) (hlt:bx<W.heap.size) :
  Calls prog 185 #[encS x,encS y,.pointer (some ⟨bx,0,none⟩)] W fun e w'=>e=.returned (.bool (Sr.gX T9.dL x y))∧∃ q os',w'=grow (W.drewN q) os':=by
 have cb:∀ n os,(grow (W.drewN n) os).cell? ⟨bx,0,none⟩=some (.func (.func 127) #[] #[]):=fun n os=>cell_grown (by show bx<W.heap.size;omega) hb n os
 clear hb
 unfold encS
 go_enter func185,ntmps185
 go_wp2_with fail
 have mixed:=jd
 go_quiet_grown (first | (go_at_call 127;first | exact Calls.grown_of (wS x _) | exact Calls.grown_of (wS y _)))
 go_wp2
 go_ret
 exact⟨aP (eqvS_eq x y).symm,nq,osq,rfl⟩
theorem srtL:vX true prog:=⟨jd,func266,func260,func244,func245,func218,Tryz.call266,Tryz.call260,Tryz.call244,Tryz.call245,underlying0,isAgg0,sizeOf0,zeroValue0,underlying3,isAgg3,sizeOf3,zeroValue3,underlying4,isAgg4,sizeOf4,zeroValue4,underlying134,isAgg134,sizeOf134,zeroValue134,underlying22,isAgg22,sizeOf22,zeroValue22,underlying199,isAgg199,sizeOf199,zeroValue199,rfl,rfl,rfl,rfl,rfl⟩
theorem cptL:CptL prog:=⟨jd,func173,underlying0,isAgg0,sizeOf0,zeroValue0,underlying3,isAgg3,sizeOf3,zeroValue3,underlying4,isAgg4,sizeOf4,zeroValue4,underlying22,isAgg22,sizeOf22,zeroValue22,underlying201,isAgg201,sizeOf201,zeroValue201⟩
theorem srtK:vX false prog:=⟨jd,func267,func261,func246,func247,func220,Tryz.call267,Tryz.call261,Tryz.call246,Tryz.call247,underlying0,isAgg0,sizeOf0,zeroValue0,underlying3,isAgg3,sizeOf3,zeroValue3,underlying4,isAgg4,sizeOf4,zeroValue4,underlying134,isAgg134,sizeOf134,zeroValue134,underlying23,isAgg23,sizeOf23,zeroValue23,underlying204,isAgg204,sizeOf204,zeroValue204,rfl,rfl,rfl,rfl,rfl⟩
theorem cptK:CptK prog:=⟨jd,func178,underlying0,isAgg0,sizeOf0,zeroValue0,underlying3,isAgg3,sizeOf3,zeroValue3,underlying4,isAgg4,sizeOf4,zeroValue4,underlying23,isAgg23,sizeOf23,zeroValue23,underlying127,isAgg127,sizeOf127,zeroValue127⟩
theorem srtS:SrtS prog:=⟨jd,func248,func221,Tryz.call248,underlying0,isAgg0,sizeOf0,zeroValue0,underlying3,isAgg3,sizeOf3,zeroValue3,underlying4,isAgg4,sizeOf4,zeroValue4,underlying134,isAgg134,sizeOf134,zeroValue134,underlying72,isAgg72,sizeOf72,zeroValue72,underlying9,isAgg9,sizeOf9,zeroValue9,underlying207,isAgg207,sizeOf207,zeroValue207⟩
theorem cptS:CptS prog:=⟨jd,func184,underlying0,isAgg0,sizeOf0,zeroValue0,underlying3,isAgg3,sizeOf3,zeroValue3,underlying4,isAgg4,sizeOf4,zeroValue4,underlying72,isAgg72,sizeOf72,zeroValue72,underlying9,isAgg9,sizeOf9,underlying209,isAgg209,sizeOf209,zeroValue209⟩
theorem laysL {blk bx:Nat} {size:Nat} {w:World} (hb:w.cell? ⟨bx,0,none⟩=some (.func (.func 123) #[] #[])) (hne:bx≠blk) (hlt:bx<w.heap.size):CmpLays prog 171 #[.pointer (some ⟨bx,0,none⟩)] bf 2 cfL blk 0 size w :=
 fun m os dk _ x y=>cmpL_w x y _ (ru hb hne hlt) (by unfold sortWorldK;rw [size_grow];have q:(putRowK bf 2 (Sort.ahead w m) blk 0 dk).heap.size=w.heap.size:=(by rw [size_putRowK];rfl);omega)
theorem eqsL {blk bx:Nat} {size:Nat} {w:World} (hb:w.cell? ⟨bx,0,none⟩=some (.func (.func 123) #[] #[])) (hne:bx≠blk) (hlt:bx<w.heap.size):EqL prog 174 #[.pointer (some ⟨bx,0,none⟩)] bf 2 (Sr.gX T9.iN) blk 0 size w :=
 fun m os dk _ x y=>eqL_w x y _ (ru hb hne hlt) (by unfold sortWorldK;rw [size_grow];have q:(putRowK bf 2 (Sort.ahead w m) blk 0 dk).heap.size=w.heap.size:=(by rw [size_putRowK];rfl);omega)
theorem laysM {blk bx:Nat} {size:Nat} {w:World} (hb:w.cell? ⟨bx,0,none⟩=some (.func (.func 125) #[] #[])) (hne:bx≠blk) (hlt:bx<w.heap.size):CmpLays prog 177 #[.pointer (some ⟨bx,0,none⟩)] az 7 cfM blk 0 size w :=
 fun m os dk _ x y=>cmpM_w x y _ (ru hb hne hlt) (by unfold sortWorldK;rw [size_grow];have q:(putRowK az 7 (Sort.ahead w m) blk 0 dk).heap.size=w.heap.size:=(by rw [size_putRowK];rfl);omega)
theorem eqsM {blk bx:Nat} {size:Nat} {w:World} (hb:w.cell? ⟨bx,0,none⟩=some (.func (.func 125) #[] #[])) (hne:bx≠blk) (hlt:bx<w.heap.size):EqK prog 179 #[.pointer (some ⟨bx,0,none⟩)] az 7 (Sr.gX iy) blk 0 size w :=
 fun m os dk _ x y=>eqM_w x y _ (ru hb hne hlt) (by unfold sortWorldK;rw [size_grow];have q:(putRowK az 7 (Sort.ahead w m) blk 0 dk).heap.size=w.heap.size:=(by rw [size_putRowK];rfl);omega)
theorem laysS {blk bx:Nat} {size:Nat} {w:World} (hb:w.cell? ⟨bx,0,none⟩=some (.func (.func 127) #[] #[])) (hne:bx≠blk) (hlt:bx<w.heap.size):CmpLays1 prog 182 #[.pointer (some ⟨bx,0,none⟩)] encS nA blk 0 size w :=
 fun m os dk _ x y=>cmpS_w x y _ (xS hb hne hlt) (by unfold sortWorld;rw [size_grow];have q:(putRow encS (Sort.ahead w m) blk 0 dk).heap.size=w.heap.size:=(by simp [putRow,mapBlock,Sort.ahead]);omega)
theorem eqsS {blk bx:Nat} {size:Nat} {w:World} (hb:w.cell? ⟨bx,0,none⟩=some (.func (.func 127) #[] #[])) (hne:bx≠blk) (hlt:bx<w.heap.size):EqS prog 185 #[.pointer (some ⟨bx,0,none⟩)] encS (Sr.gX T9.dL) blk 0 size w :=
 fun m os dk _ x y=>eqS_w x y _ (xS hb hne hlt) (by unfold sortWorld;rw [size_grow];have q:(putRow encS (Sort.ahead w m) blk 0 dk).heap.size=w.heap.size:=(by simp [putRow,mapBlock,Sort.ahead]);omega)
end
section
open Go.Shelf Go.RowKit Go.Lib Go.Sort
theorem Tryz.infoLi9:(prog.info? 71).map (fun i=>(i.zero,i.size,i.bytes))=some (some (.agg #[.int .u64 0,.string ⟨#[]⟩]),2,24):=by kernel_rfl
theorem Tryz.infoTk9:(prog.info? 74).map (fun i=>(i.zero,i.size,i.bytes))=some (some (.agg #[.int .u64 0,.int .u64 0,.string ⟨#[]⟩,.bool false,.float .f64 0,.float .f64 0,.slice none 0 0]),7,80):=by kernel_rfl
theorem Tryz.infoStr9:(prog.info? 9).map (fun i=>(i.zero,i.size,i.bytes))=some (some (.string ⟨#[]⟩),1,16):=by kernel_rfl
theorem gP {P:Program} (w:World) (t ty e:TypeId) (i:TypeInfo) (ht:P.underlying t=some (.slice e)) (hi:P.info? e=some i) (A A2:Option Addr) (n c c2:Nat) (hn:n≤c):(Builtin.append_ #[t,t] ty #[.slice A n c,.slice A2 0 c2]).run P w=.ok (.slice A n c) w:=by
 cases A2 <;> cases A <;> simp [Builtin.append_,run_underlying ht,sizeOf,typeInfo,hi,Builtin.lenOf,Builtin.firstCells,hn,storeCells,loadCells,loadCellsFrom]
def Ac (t:TypeId) (size:Nat) (cells:List Value) (n:Nat) (w:World) (e:Ending) (w':World):Prop :=
 ∃ A2 c2,e=.returned (.slice A2 n c2)∧n≤c2∧(n=0∧c2=0∨∃ g,A2=some ⟨g,0,none⟩∧w'.ownsRow w.heap.size t size (.slice A2 n c2) n cells)∧Below w.heap.size w w'
theorem bO {w:World} {B:Nat} {e:TypeId} {size:Nat} {A:Option Addr} {n c:Nat} {xs:List Value} (h:w.ownsRow B e size (.slice A n c) n xs) (hn:0<n):∃ g,A=some ⟨g,0,none⟩∧B≤g:=by
 rcases h.2 with⟨_,h0⟩ | ⟨g,cap,cur,hv,hB,_⟩
 ·omega
 ·injection hv with h1
  exact⟨g,h1,hB⟩
theorem lw {w:World} {B:Nat} {e:TypeId} {size:Nat} {A:Option Addr} {n c:Nat} {xs:List Value} (h:w.ownsRow B e size (.slice A n c) n xs):c≤maxLen:=by
 rcases h.2 with⟨hv,_⟩ | ⟨g,cap,cur,hv,_,_,_,hc,_⟩
 ·injection hv with _ _ h3;subst h3;exact Nat.zero_le _
 ·injection hv with _ _ h3;subst h3;exact hc
theorem ownL_c {A:Option Addr} {n c:Nat} {xs:List Value} {w:World} {B:Nat} {t:TypeId} (h:au w B t A xs) (hl:xs.length=n * 2) (h1:∀ u∈xs,u.oneCell'=true) (hs:n≤1000000000):Calls prog 169 #[.slice A n c] w (Ac 71 2 xs n w):=by
 obtain⟨i0,hi,hz0,hz1,hz2⟩:=info_parts Tryz.infoLi9
 have HL:=hid h
 have HX:=hid hl
 have H1:=hid h1
 clear h hl h1
 by_cases h0:n=0
 ·subst h0
  rcases A with _ | ad
  ·have hr:∀ ty,(Builtin.append_ #[22,22] ty #[.slice none 0 0,.slice none 0 c]).run prog w=.ok (.slice none 0 0) w:=fun ty=>gP w _ ty _ i0 underlying22 hi none none 0 0 c (Nat.le_refl _)
   go_enter func169,ntmps169
   go_wp2
   go_ret
   exact⟨_,0,rfl,Nat.le_refl _,.inl ⟨rfl,rfl⟩,Below.refl _ _⟩
  ·have hr:∀ ty,(Builtin.append_ #[22,22] ty #[.slice (some ad) 0 0,.slice (some ad) 0 c]).run prog w=.ok (.slice (some ad) 0 0) w:=fun ty=>gP w _ ty _ i0 underlying22 hi (some ad) (some ad) 0 0 c (Nat.le_refl _)
   go_enter func169,ntmps169
   go_wp2
   go_ret
   exact⟨_,0,rfl,Nat.le_refl _,.inl ⟨rfl,rfl⟩,Below.refl _ _⟩
 ·obtain⟨ad,rfl⟩:∃ ad,A=some ad:=by
   obtain⟨ad,e,_⟩:=HL.out (fun e=>by have:=HX.out;rw [e] at this;simp at this;omega)
   exact⟨ad,e⟩
  have hc:Hid (∀ j u,xs[j]?=some u→w.cell? (ad.add j)=some u):=hid fun j u hu=>by
   obtain⟨JB,e,_,hc⟩:=HL.out (fun e=>by rw [e] at hu;simp at hu)
   injection e with e
   subst e
   exact hc j u hu
  go_enter func169,ntmps169
  go_wp2_with (at_builtin;refine ji _ rfl _ _ 22 rfl w.heap.size 71 i0 _ 2 24 underlying22 hi hz0 hz1 hz2 rfl 0 0 (some ad) 0 [] rfl rfl au.nil (by simp) ad n c xs rfl HX.out hc.out H1.out (by omega) (by unfold maxLen;omega) (by omega) (Nat.le_refl _) ?_)
  intro v' w1 hown hgrow
  obtain⟨A2,c2,rfl⟩:=aA hown
  obtain⟨g,e,_⟩:=bO hown (by omega)
  have hr:=(aO hown).2
  have HO:=hid hown
  have HB:=hid (jT (World.ownsRow_nil w w.heap.size 71 2) hgrow (Nat.le_refl _))
  have HE:=hid e
  clear hown hgrow e
  go_wp2
  go_ret
  exact⟨A2,c2,rfl,hr,.inr ⟨g,HE.out,HO.out⟩,HB.out⟩
theorem ownM_c {A:Option Addr} {n c:Nat} {xs:List Value} {w:World} {B:Nat} {t:TypeId} (h:au w B t A xs) (hl:xs.length=n * 7) (h1:∀ u∈xs,u.oneCell'=true) (hs:n≤1000000000):Calls prog 175 #[.slice A n c] w (Ac 74 7 xs n w):=by
 obtain⟨i0,hi,hz0,hz1,hz2⟩:=info_parts Tryz.infoTk9
 have HL:=hid h
 have HX:=hid hl
 have H1:=hid h1
 clear h hl h1
 by_cases h0:n=0
 ·subst h0
  rcases A with _ | ad
  ·have hr:∀ ty,(Builtin.append_ #[23,23] ty #[.slice none 0 0,.slice none 0 c]).run prog w=.ok (.slice none 0 0) w:=fun ty=>gP w _ ty _ i0 underlying23 hi none none 0 0 c (Nat.le_refl _)
   go_enter func175,ntmps175
   go_wp2
   go_ret
   exact⟨_,0,rfl,Nat.le_refl _,.inl ⟨rfl,rfl⟩,Below.refl _ _⟩
  ·have hr:∀ ty,(Builtin.append_ #[23,23] ty #[.slice (some ad) 0 0,.slice (some ad) 0 c]).run prog w=.ok (.slice (some ad) 0 0) w:=fun ty=>gP w _ ty _ i0 underlying23 hi (some ad) (some ad) 0 0 c (Nat.le_refl _)
   go_enter func175,ntmps175
   go_wp2
   go_ret
   exact⟨_,0,rfl,Nat.le_refl _,.inl ⟨rfl,rfl⟩,Below.refl _ _⟩
 ·obtain⟨ad,rfl⟩:∃ ad,A=some ad:=by
   obtain⟨ad,e,_⟩:=HL.out (fun e=>by have:=HX.out;rw [e] at this;simp at this;omega)
   exact⟨ad,e⟩
  have hc:Hid (∀ j u,xs[j]?=some u→w.cell? (ad.add j)=some u):=hid fun j u hu=>by
   obtain⟨JB,e,_,hc⟩:=HL.out (fun e=>by rw [e] at hu;simp at hu)
   injection e with e
   subst e
   exact hc j u hu
  go_enter func175,ntmps175
  go_wp2_with (at_builtin;refine ji _ rfl _ _ 23 rfl w.heap.size 74 i0 _ 7 80 underlying23 hi hz0 hz1 hz2 rfl 0 0 (some ad) 0 [] rfl rfl au.nil (by simp) ad n c xs rfl HX.out hc.out H1.out (by omega) (by unfold maxLen;omega) (by omega) (Nat.le_refl _) ?_)
  intro v' w1 hown hgrow
  obtain⟨A2,c2,rfl⟩:=aA hown
  obtain⟨g,e,_⟩:=bO hown (by omega)
  have hr:=(aO hown).2
  have HO:=hid hown
  have HB:=hid (jT (World.ownsRow_nil w w.heap.size 74 7) hgrow (Nat.le_refl _))
  have HE:=hid e
  clear hown hgrow e
  go_wp2
  go_ret
  exact⟨A2,c2,rfl,hr,.inr ⟨g,HE.out,HO.out⟩,HB.out⟩
theorem ownS_c {A:Option Addr} {n c:Nat} {xs:List Value} {w:World} {B:Nat} {t:TypeId} (h:au w B t A xs) (hl:xs.length=n * 1) (h1:∀ u∈xs,u.oneCell'=true) (hs:n≤1000000000):Calls prog 180 #[.slice A n c] w (Ac 9 1 xs n w):=by
 obtain⟨i0,hi,hz0,hz1,hz2⟩:=info_parts Tryz.infoStr9
 have HL:=hid h
 have HX:=hid hl
 have H1:=hid h1
 clear h hl h1
 by_cases h0:n=0
 ·subst h0
  rcases A with _ | ad
  ·have hr:∀ ty,(Builtin.append_ #[72,72] ty #[.slice none 0 0,.slice none 0 c]).run prog w=.ok (.slice none 0 0) w:=fun ty=>gP w _ ty _ i0 underlying72 hi none none 0 0 c (Nat.le_refl _)
   go_enter func180,ntmps180
   go_wp2
   go_ret
   exact⟨_,0,rfl,Nat.le_refl _,.inl ⟨rfl,rfl⟩,Below.refl _ _⟩
  ·have hr:∀ ty,(Builtin.append_ #[72,72] ty #[.slice (some ad) 0 0,.slice (some ad) 0 c]).run prog w=.ok (.slice (some ad) 0 0) w:=fun ty=>gP w _ ty _ i0 underlying72 hi (some ad) (some ad) 0 0 c (Nat.le_refl _)
   go_enter func180,ntmps180
   go_wp2
   go_ret
   exact⟨_,0,rfl,Nat.le_refl _,.inl ⟨rfl,rfl⟩,Below.refl _ _⟩
 ·obtain⟨ad,rfl⟩:∃ ad,A=some ad:=by
   obtain⟨ad,e,_⟩:=HL.out (fun e=>by have:=HX.out;rw [e] at this;simp at this;omega)
   exact⟨ad,e⟩
  have hc:Hid (∀ j u,xs[j]?=some u→w.cell? (ad.add j)=some u):=hid fun j u hu=>by
   obtain⟨JB,e,_,hc⟩:=HL.out (fun e=>by rw [e] at hu;simp at hu)
   injection e with e
   subst e
   exact hc j u hu
  go_enter func180,ntmps180
  go_wp2_with (at_builtin;refine ji _ rfl _ _ 72 rfl w.heap.size 9 i0 _ 1 16 underlying72 hi hz0 hz1 hz2 rfl 0 0 (some ad) 0 [] rfl rfl au.nil (by simp) ad n c xs rfl HX.out hc.out H1.out (by omega) (by unfold maxLen;omega) (by omega) (Nat.le_refl _) ?_)
  intro v' w1 hown hgrow
  obtain⟨A2,c2,rfl⟩:=aA hown
  obtain⟨g,e,_⟩:=bO hown (by omega)
  have hr:=(aO hown).2
  have HO:=hid hown
  have HB:=hid (jT (World.ownsRow_nil w w.heap.size 9 1) hgrow (Nat.le_refl _))
  have HE:=hid e
  clear hown hgrow e
  go_wp2
  go_ret
  exact⟨A2,c2,rfl,hr,.inr ⟨g,HE.out,HO.out⟩,HB.out⟩
theorem Br (A:Option Addr) (c:Nat) (f:Value) (w:World):Calls prog 218 #[.slice A 0 c,.int .i64 0,f] w fun e w'=>e=.returned (.tuple #[])∧w=w':=by
 have hi:Calls prog 244 #[.slice A 0 c,.int .i64 0,.int .i64 0,f] w fun e w'=>e=.returned (.tuple #[])∧w=w':=by
  go_enter func244,ntmps244
  go_wp2_with fail
  go_loopw [8] (fun s8 wr=>s8=.int .i64 1∧wr=w) (fun _ _=>0)
  case atStart=>exact⟨rfl,rfl⟩
  case round =>
   obtain⟨rfl,rfl⟩:=hrel
   go_wp2
   go_end0
   exact⟨rfl,rfl⟩
 have HI:=hid hi
 clear hi
 go_enter func218,ntmps218
 go_wp2_with fail
 go_loopw [7,8] (fun s7 s8 wr=>s7=.int .i64 0∧s8=.int .i64 20∧wr=w) (fun _ _ _=>0)
 case atStart=>exact⟨rfl,rfl,rfl⟩
 case round =>
  obtain⟨rfl,rfl,rfl⟩:=hrel
  go_wp2_with (go_at_call 244;refine HI.out.mono ?_;rintro e w1 ⟨rfl,rfl⟩)
  go_loopw [6] (fun s6 wr2=>s6=.int .i64 20∧wr2=wr) (fun _ _=>0)
  case atStart=>exact⟨rfl,rfl⟩
  case round =>
   obtain⟨rfl,rfl⟩:=hrel
   go_wp2
   go_end0
   exact⟨rfl,rfl⟩
theorem Ja (A:Option Addr) (c:Nat) (f:Value) (w:World):Calls prog 170 #[.slice A 0 c,f] w fun e w'=>e=.returned (.tuple #[])∧w=w':=by
 go_enter func170,ntmps170
 go_wp2_with (go_at_call 218;refine (Br _ _ _ _).mono ?_;rintro e w1 ⟨rfl,rfl⟩)
 go_end0
 exact⟨rfl,rfl⟩
theorem sortL_c {blk cap:Nat} {d:Array T9.Li} {w:World} {g:Nat} {cb:Array Value} (R:RowK bf 2 w blk 0 d) (S:SWK bf 2 w blk 0 d w) (eg:∀ args w,(callFunc g args).run prog w=.ok (.enter g args) w) (hcmp:CmpLays prog g cb bf 2 cfL blk 0 d.size w) (ho:Sr.WO (ltOf cfL)) (hsz:d.size<4611686018427387904) (n:Nat) (hn:n=d.size) :
  Calls prog 170 #[.slice (some ⟨blk,0,none⟩) n cap,.func (.func g) #[] cb] w fun e w'=>e=.returned (.tuple #[])∧lN cfL bf 2 w blk 0 d [] d.toList [] w':=by
 have hc:=xB srtL 2 isAgg71 sizeOf71 bf blk 0 cap d d w w R rfl S cfL g cb eg hcmp ho n hn hsz;simp only [cond_true,cond_false] at hc
 rw [← hn] at hc
 have HC:=hid hc
 clear hc hcmp ho R S hn hsz
 go_enter func170,ntmps170
 go_wp2_with (go_at_call 218;refine HC.out.mono ?_;rintro e w1 ⟨rfl,hw1⟩)
 have H:=hid hw1
 clear hw1
 go_wp2
 go_end0
 exact⟨rfl,H.out⟩
theorem Bt (A:Option Addr) (c:Nat) (f:Value) (w:World):Calls prog 220 #[.slice A 0 c,.int .i64 0,f] w fun e w'=>e=.returned (.tuple #[])∧w=w':=by
 have hi:Calls prog 246 #[.slice A 0 c,.int .i64 0,.int .i64 0,f] w fun e w'=>e=.returned (.tuple #[])∧w=w':=by
  go_enter func246,ntmps246
  go_wp2_with fail
  go_loopw [8] (fun s8 wr=>s8=.int .i64 1∧wr=w) (fun _ _=>0)
  case atStart=>exact⟨rfl,rfl⟩
  case round =>
   obtain⟨rfl,rfl⟩:=hrel
   go_wp2
   go_end0
   exact⟨rfl,rfl⟩
 have HI:=hid hi
 clear hi
 go_enter func220,ntmps220
 go_wp2_with fail
 go_loopw [7,8] (fun s7 s8 wr=>s7=.int .i64 0∧s8=.int .i64 20∧wr=w) (fun _ _ _=>0)
 case atStart=>exact⟨rfl,rfl,rfl⟩
 case round =>
  obtain⟨rfl,rfl,rfl⟩:=hrel
  go_wp2_with (go_at_call 246;refine HI.out.mono ?_;rintro e w1 ⟨rfl,rfl⟩)
  go_loopw [6] (fun s6 wr2=>s6=.int .i64 20∧wr2=wr) (fun _ _=>0)
  case atStart=>exact⟨rfl,rfl⟩
  case round =>
   obtain⟨rfl,rfl⟩:=hrel
   go_wp2
   go_end0
   exact⟨rfl,rfl⟩
theorem zB (A:Option Addr) (c:Nat) (f:Value) (w:World):Calls prog 176 #[.slice A 0 c,f] w fun e w'=>e=.returned (.tuple #[])∧w=w':=by
 go_enter func176,ntmps176
 go_wp2_with (go_at_call 220;refine (Bt _ _ _ _).mono ?_;rintro e w1 ⟨rfl,rfl⟩)
 go_end0
 exact⟨rfl,rfl⟩
theorem sortM_c {blk cap:Nat} {d:Array aL} {w:World} {g:Nat} {cb:Array Value} (R:RowK az 7 w blk 0 d) (S:SWK az 7 w blk 0 d w) (eg:∀ args w,(callFunc g args).run prog w=.ok (.enter g args) w) (hcmp:CmpLays prog g cb az 7 cfM blk 0 d.size w) (ho:Sr.WO (ltOf cfM)) (hsz:d.size<4611686018427387904) (n:Nat) (hn:n=d.size) :
  Calls prog 176 #[.slice (some ⟨blk,0,none⟩) n cap,.func (.func g) #[] cb] w fun e w'=>e=.returned (.tuple #[])∧lN cfM az 7 w blk 0 d [] d.toList [] w':=by
 have hc:=xB srtK 7 isAgg74 sizeOf74 az blk 0 cap d d w w R rfl S cfM g cb eg hcmp ho n hn hsz;simp only [cond_true,cond_false] at hc
 rw [← hn] at hc
 have HC:=hid hc
 clear hc hcmp ho R S hn hsz
 go_enter func176,ntmps176
 go_wp2_with (go_at_call 220;refine HC.out.mono ?_;rintro e w1 ⟨rfl,hw1⟩)
 have H:=hid hw1
 clear hw1
 go_wp2
 go_end0
 exact⟨rfl,H.out⟩
theorem Bu (A:Option Addr) (c:Nat) (f:Value) (w:World):Calls prog 221 #[.slice A 0 c,.int .i64 0,f] w fun e w'=>e=.returned (.tuple #[])∧w=w':=by
 have hi:Calls prog 248 #[.slice A 0 c,.int .i64 0,.int .i64 0,f] w fun e w'=>e=.returned (.tuple #[])∧w=w':=by
  go_enter func248,ntmps248
  go_wp2_with fail
  go_loopw [8] (fun s8 wr=>s8=.int .i64 1∧wr=w) (fun _ _=>0)
  case atStart=>exact⟨rfl,rfl⟩
  case round =>
   obtain⟨rfl,rfl⟩:=hrel
   go_wp2
   go_end0
   exact⟨rfl,rfl⟩
 have HI:=hid hi
 clear hi
 go_enter func221,ntmps221
 go_wp2_with fail
 go_loopw [7,8] (fun s7 s8 wr=>s7=.int .i64 0∧s8=.int .i64 20∧wr=w) (fun _ _ _=>0)
 case atStart=>exact⟨rfl,rfl,rfl⟩
 case round =>
  obtain⟨rfl,rfl,rfl⟩:=hrel
  go_wp2_with (go_at_call 248;refine HI.out.mono ?_;rintro e w1 ⟨rfl,rfl⟩)
  go_loopw [6] (fun s6 wr2=>s6=.int .i64 20∧wr2=wr) (fun _ _=>0)
  case atStart=>exact⟨rfl,rfl⟩
  case round =>
   obtain⟨rfl,rfl⟩:=hrel
   go_wp2
   go_end0
   exact⟨rfl,rfl⟩
theorem Jb (A:Option Addr) (c:Nat) (f:Value) (w:World):Calls prog 181 #[.slice A 0 c,f] w fun e w'=>e=.returned (.tuple #[])∧w=w':=by
 go_enter func181,ntmps181
 go_wp2_with (go_at_call 221;refine (Bu _ _ _ _).mono ?_;rintro e w1 ⟨rfl,rfl⟩)
 go_end0
 exact⟨rfl,rfl⟩
theorem sortS_c {blk cap:Nat} {d:Array (List UInt8)} {w:World} {g:Nat} {cb:Array Value} (R:Row1 encS w blk 0 d) (S:SW encS w blk 0 d w) (eg:∀ args w,(callFunc g args).run prog w=.ok (.enter g args) w) (hcmp:CmpLays1 prog g cb encS nA blk 0 d.size w) (ho:Sr.WO (ltOf nA)) (hsz:d.size<20) (n:Nat) (hn:n=d.size) :
  Calls prog 181 #[.slice (some ⟨blk,0,none⟩) n cap,.func (.func g) #[] cb] w fun e w'=>e=.returned (.tuple #[])∧Ag nA encS w blk 0 d [] d.toList [] w':=by
 have hc:=stableS srtS encS blk 0 cap d d w w R rfl S nA g cb eg hcmp ho n hn hsz
 rw [← hn] at hc
 have HC:=hid hc
 clear hc hcmp ho R S hn hsz
 go_enter func181,ntmps181
 go_wp2_with (go_at_call 221;refine HC.out.mono ?_;rintro e w1 ⟨rfl,hw1⟩)
 have H:=hid hw1
 clear hw1
 go_wp2
 go_end0
 exact⟨rfl,H.out⟩
theorem x9 (A:Option Addr) (c:Nat) (f:Value) (w:World):Calls prog 173 #[.slice A 0 c,f] w fun e w'=>e=.returned (.slice A 0 c)∧w=w':=by
 go_enter func173,ntmps173
 go_wp2
 go_ret
 exact⟨rfl,rfl⟩
theorem x_ (A:Option Addr) (c:Nat) (f:Value) (w:World):Calls prog 178 #[.slice A 0 c,f] w fun e w'=>e=.returned (.slice A 0 c)∧w=w':=by
 go_enter func178,ntmps178
 go_wp2
 go_ret
 exact⟨rfl,rfl⟩
theorem yc (A:Option Addr) (c:Nat) (f:Value) (w:World):Calls prog 184 #[.slice A 0 c,f] w fun e w'=>e=.returned (.slice A 0 c)∧w=w':=by
 go_enter func184,ntmps184
 go_wp2
 go_ret
 exact⟨rfl,rfl⟩
def uN (t:TypeId) (size:Nat) (cells:List Value) (n:Nat) (w:World) (e:Ending) (w':World):Prop :=
 ∃ A2 c2,e=.returned (.slice A2 n c2)∧n≤c2∧(n=0∧c2=0∨∃ g,A2=some ⟨g,0,none⟩∧w'.ownsRow w.heap.size t size (.slice A2 n c2) n cells)∧au w' w'.heap.size 0 A2 cells∧Below w.heap.size w w'
theorem EA {A:Option Addr} {n c:Nat} {ls:List (T9.Li)} {w:World} {B:Nat} {t:TypeId} (h:au w B t A (ls.flatMap bf)) (hn:n=ls.length) (hs:n≤1000000) :
  Calls prog 122 #[.slice A n c,.func (.func 123) #[] #[]] w (uN 71 2 ((Sr.canon T9.iN ls).flatMap bf) (Sr.canon T9.iN ls).length w):=by
 have HL0:=hid (h.old (t':=0))
 have HN:=hid hn
 clear h hn
 obtain⟨wB,iR⟩:∃ u,w.alloc (.cells #[.func (.func 123) #[] #[]] 161)=u:=⟨_,rfl⟩
 have bB:Below w.heap.size w wB:=by rw [← iR];exact (Below.refl _ w).alloc (Nat.le_refl _) _
 have kB:wB.heap[w.heap.size]?=some (.cells #[.func (.func 123) #[] #[]] 161 (0,0)):=by rw [← iR];exact heap_alloc_new w _
 have sB:wB.heap.size=w.heap.size+1:=by rw [← iR];simp
 have BB:=hid bB
 have KB:=hid kB
 have SB:=hid sB
 have HL:=hid (HL0.out.below (Nat.le_refl _) bB)
 have hO:=ownL_c (c:=c) (n:=n) HL.out (by rw [HN.out];exact eU ls) (iD ls) (by omega)
 have HOW:=hid hO
 clear bB kB sB hO
 go_enter func122,ntmps122
 go_wp2_with (go_at_call 169;refine HOW.out.mono ?_;rintro e w1 ⟨A2,c2,rfl,hc2,ho,hb1⟩)
 have B1:=hid (BB.out.trans (hb1.mono (by have:=SB.out;omega)))
 have KB1:=hid ((hb1.block w.heap.size (by have:=SB.out;omega)).trans KB.out)
 have z1:=hb1.size
 have Z1:=hid z1
 have HO0:=hid ho
 clear hb1 ho z1
 by_cases h0:n=0
 ·subst h0
  have hnil:ls=[]:=List.length_eq_zero_iff.1 HN.out.symm
  have ny:=hid hnil
  clear hnil
  go_wp2_with (go_at_call 170;refine (Ja _ _ _ _).mono ?_;rintro e w2 ⟨rfl,rfl⟩)
  go_wp2_with (go_at_call 173;refine (x9 _ _ _ _).mono ?_;rintro e w2 ⟨rfl,rfl⟩)
  go_ret
  exact⟨A2,c2,by rw [ny.out];rfl,by rw [ny.out];exact Nat.zero_le _,by
   rcases HO0.out with q | ⟨g,e,o⟩
   ·exact .inl ⟨by rw [ny.out];rfl,q.2⟩
   ·refine .inr ⟨g,e,?_⟩
    rw [ny.out] at o ⊢
    exact eu o (by have:=SB.out;omega),by rw [ny.out];exact au.nil,B1.out⟩
 ·obtain⟨g,hg,hown⟩:=HO0.out.resolve_left (fun q=>h0 q.1)
  have HG:=hid hg
  have HO:=hid hown
  rw [hg] at hown
  have gl:=hown.lt g rfl
  have zO:=hid gl
  have R:RowK bf 2 w1 g 0 ls.toArray:=tQ (d:=ls.toArray) fJ kK (by decide) rfl hown
  have S0:SWK bf 2 w1 g 0 ls.toArray w1:=SWK.start R.hH
  have RR:=hid R
  have HS0:=hid S0
  have FQ:w1.cell? ⟨w.heap.size,0,none⟩=some (.func (.func 123) #[] #[]):=cell_of_one KB1.out
  have bxl:w.heap.size<w1.heap.size:=lt_of_block KB1.out
  have bxn:w.heap.size≠g:=by have:=SB.out;omega
  have Jv:=hid (sortL_c (cap:=c2) R S0 (fun args w=>Tryz.call171 args w) (laysL (size:=ls.toArray.size) FQ bxn bxl) (by rw [AZ];exact T9.woL) (by simp;have:=HN.out;omega) n (by simp;exact HN.out))
  clear hown R S0 gl
  rw [hg]
  clear hg
  have BX:=hid FQ
  clear FQ
  go_wp2_with (go_at_call 170;refine Jv.out.mono ?_;rintro e w2 ⟨rfl,dk,W,hs2,hd2,hl2,hw2,D_,hst⟩)
  have S2:=hid hs2
  have SR:=hid (And.intro hd2 (And.intro hl2 (And.intro D_ hst)))
  have hds:dk.size=n:=by rw [hd2];simp;exact HN.out.symm
  have CC:=F_ cptL 2 isAgg71 sizeOf71 bf (⟨0,[]⟩:T9.Li) (fun w=>zeroValue71 w) rfl g 0 c2 ls.toArray dk w1 w2 RR.out (by rw [hd2]) hs2 (Sr.gX T9.iN) 174 #[.pointer (some ⟨w.heap.size,0,none⟩)] (fun args w=>Tryz.call174 args w) (eqsL BX.out bxn bxl) (by rw [hds];exact hc2) (by have:=(lw HO.out);unfold maxLen at this;omega) (by omega)
  rw [hds] at CC
  have HCC:=hid CC
  have HDS:=hid hds
  clear hs2 hd2 hl2 hw2 D_ hst CC hds
  go_wp2_with (go_at_call 173;refine HCC.out.mono ?_;rintro e w3 ⟨dk3,m,rfl,hs3,hd3,hm0,yu⟩;have HM:=hid hm0;have HL3:=hid yu;have HD3:=hid hd3;clear hm0 yu hd3)
  have hm:=HM.out
  have hl3:=HL3.out
  have hd3:=HD3.out
  have CN:Sr.compact (Sr.gX T9.iN) dk.toList=Sr.canon T9.iN ls:=Sr.kI T9.woL (by rw [← AZ];have:=SR.out.2.2.1;rw [SR.out.2.1];simpa using this) (by rw [← AZ];have:=SR.out.2.2.2;rw [SR.out.2.1];simpa using this)
  rw [CN] at hm hl3
  rw [hm] at hl3
  have xL:(Sr.canon T9.iN ls).length≤n:=by rw [HN.out];exact Sr.dB ls
  have lY:dk3.size=ls.toArray.size:=by rw [hd3,HDS.out,HN.out];simp
  have HOG:=hid (show w1.ownsRow wB.heap.size 71 2 (.slice (some ⟨g,0,none⟩) n c2) n (ls.flatMap bf) by rw [← HG.out];exact HO.out)
  have FIN:uN 71 2 ((Sr.canon T9.iN ls).flatMap bf) (Sr.canon T9.iN ls).length w (.returned (.slice (some ⟨g,0,none⟩) m c2)) w3:=by
   refine⟨some ⟨g,0,none⟩,c2,by rw [hm],by omega,.inr ⟨g,rfl,?_⟩,?_,B1.out.trans (qB hs3 (by have:=zO.out;have:=SB.out;omega) zO.out.2)⟩
   ·exact eu (CX hs3 RR.out lY HOG.out hl3 xL) (by have:=SB.out;omega)
   ·exact pQ hs3 RR.out lY hl3 (SWK.lt hs3 zO.out.2)
  have HF:=hid FIN
  clear FIN hs3 hd3 hl3 CN xL lY hm
  go_wp2
  go_ret
  exact HF.out
theorem EB {A:Option Addr} {n c:Nat} {ls:List (aL)} {w:World} {B:Nat} {t:TypeId} (h:au w B t A (ls.flatMap az)) (hn:n=ls.length) (hs:n≤1000000) :
  Calls prog 124 #[.slice A n c,.func (.func 125) #[] #[]] w (uN 74 7 ((Sr.canon iy ls).flatMap az) (Sr.canon iy ls).length w):=by
 have HL0:=hid (h.old (t':=0))
 have HN:=hid hn
 clear h hn
 obtain⟨wB,iR⟩:∃ u,w.alloc (.cells #[.func (.func 125) #[] #[]] 163)=u:=⟨_,rfl⟩
 have bB:Below w.heap.size w wB:=by rw [← iR];exact (Below.refl _ w).alloc (Nat.le_refl _) _
 have kB:wB.heap[w.heap.size]?=some (.cells #[.func (.func 125) #[] #[]] 163 (0,0)):=by rw [← iR];exact heap_alloc_new w _
 have sB:wB.heap.size=w.heap.size+1:=by rw [← iR];simp
 have BB:=hid bB
 have KB:=hid kB
 have SB:=hid sB
 have HL:=hid (HL0.out.below (Nat.le_refl _) bB)
 have hO:=ownM_c (c:=c) (n:=n) HL.out (by rw [HN.out];exact aQ ls) (cB ls) (by omega)
 have HOW:=hid hO
 clear bB kB sB hO
 go_enter func124,ntmps124
 go_wp2_with (go_at_call 175;refine HOW.out.mono ?_;rintro e w1 ⟨A2,c2,rfl,hc2,ho,hb1⟩)
 have B1:=hid (BB.out.trans (hb1.mono (by have:=SB.out;omega)))
 have KB1:=hid ((hb1.block w.heap.size (by have:=SB.out;omega)).trans KB.out)
 have z1:=hb1.size
 have Z1:=hid z1
 have HO0:=hid ho
 clear hb1 ho z1
 by_cases h0:n=0
 ·subst h0
  have hnil:ls=[]:=List.length_eq_zero_iff.1 HN.out.symm
  have ny:=hid hnil
  clear hnil
  go_wp2_with (go_at_call 176;refine (zB _ _ _ _).mono ?_;rintro e w2 ⟨rfl,rfl⟩)
  go_wp2_with (go_at_call 178;refine (x_ _ _ _ _).mono ?_;rintro e w2 ⟨rfl,rfl⟩)
  go_ret
  exact⟨A2,c2,by rw [ny.out];rfl,by rw [ny.out];exact Nat.zero_le _,by
   rcases HO0.out with q | ⟨g,e,o⟩
   ·exact .inl ⟨by rw [ny.out];rfl,q.2⟩
   ·refine .inr ⟨g,e,?_⟩
    rw [ny.out] at o ⊢
    exact eu o (by have:=SB.out;omega),by rw [ny.out];exact au.nil,B1.out⟩
 ·obtain⟨g,hg,hown⟩:=HO0.out.resolve_left (fun q=>h0 q.1)
  have HG:=hid hg
  have HO:=hid hown
  rw [hg] at hown
  have gl:=hown.lt g rfl
  have zO:=hid gl
  have R:RowK az 7 w1 g 0 ls.toArray:=tQ (d:=ls.toArray) aU dI (by decide) rfl hown
  have S0:SWK az 7 w1 g 0 ls.toArray w1:=SWK.start R.hH
  have RR:=hid R
  have HS0:=hid S0
  have FQ:w1.cell? ⟨w.heap.size,0,none⟩=some (.func (.func 125) #[] #[]):=cell_of_one KB1.out
  have bxl:w.heap.size<w1.heap.size:=lt_of_block KB1.out
  have bxn:w.heap.size≠g:=by have:=SB.out;omega
  have Jv:=hid (sortM_c (cap:=c2) R S0 (fun args w=>Tryz.call177 args w) (laysM (size:=ls.toArray.size) FQ bxn bxl) (by rw [A_];exact woM) (by simp;have:=HN.out;omega) n (by simp;exact HN.out))
  clear hown R S0 gl
  rw [hg]
  clear hg
  have BX:=hid FQ
  clear FQ
  go_wp2_with (go_at_call 176;refine Jv.out.mono ?_;rintro e w2 ⟨rfl,dk,W,hs2,hd2,hl2,hw2,D_,hst⟩)
  have S2:=hid hs2
  have SR:=hid (And.intro hd2 (And.intro hl2 (And.intro D_ hst)))
  have hds:dk.size=n:=by rw [hd2];simp;exact HN.out.symm
  have CC:=F9 cptK 7 isAgg74 sizeOf74 az (⟨⟨0,0,[],false,0,0,[]⟩,none,0⟩:aL) (fun w=>zeroValue74 w) rfl g 0 c2 ls.toArray dk w1 w2 RR.out (by rw [hd2]) hs2 (Sr.gX iy) 179 #[.pointer (some ⟨w.heap.size,0,none⟩)] (fun args w=>Tryz.call179 args w) (eqsM BX.out bxn bxl) (by rw [hds];exact hc2) (by have:=(lw HO.out);unfold maxLen at this;omega) (by omega)
  rw [hds] at CC
  have HCC:=hid CC
  have HDS:=hid hds
  clear hs2 hd2 hl2 hw2 D_ hst CC hds
  go_wp2_with (go_at_call 178;refine HCC.out.mono ?_;rintro e w3 ⟨dk3,m,rfl,hs3,hd3,hm0,yu⟩;have HM:=hid hm0;have HL3:=hid yu;have HD3:=hid hd3;clear hm0 yu hd3)
  have hm:=HM.out
  have hl3:=HL3.out
  have hd3:=HD3.out
  have CN:Sr.compact (Sr.gX iy) dk.toList=Sr.canon iy ls:=Sr.kI woM (by rw [← A_];have:=SR.out.2.2.1;rw [SR.out.2.1];simpa using this) (by rw [← A_];have:=SR.out.2.2.2;rw [SR.out.2.1];simpa using this)
  rw [CN] at hm hl3
  rw [hm] at hl3
  have xL:(Sr.canon iy ls).length≤n:=by rw [HN.out];exact Sr.dB ls
  have lY:dk3.size=ls.toArray.size:=by rw [hd3,HDS.out,HN.out];simp
  have HOG:=hid (show w1.ownsRow wB.heap.size 74 7 (.slice (some ⟨g,0,none⟩) n c2) n (ls.flatMap az) by rw [← HG.out];exact HO.out)
  have FIN:uN 74 7 ((Sr.canon iy ls).flatMap az) (Sr.canon iy ls).length w (.returned (.slice (some ⟨g,0,none⟩) m c2)) w3:=by
   refine⟨some ⟨g,0,none⟩,c2,by rw [hm],by omega,.inr ⟨g,rfl,?_⟩,?_,B1.out.trans (qB hs3 (by have:=zO.out;have:=SB.out;omega) zO.out.2)⟩
   ·exact eu (CX hs3 RR.out lY HOG.out hl3 xL) (by have:=SB.out;omega)
   ·exact pQ hs3 RR.out lY hl3 (SWK.lt hs3 zO.out.2)
  have HF:=hid FIN
  clear FIN hs3 hd3 hl3 CN xL lY hm
  go_wp2
  go_ret
  exact HF.out
theorem ED {A:Option Addr} {n c:Nat} {ls:List (List UInt8)} {w:World} {B:Nat} {t:TypeId} (h:au w B t A (ls.map encS)) (hn:n=ls.length) (hs:n<20) :
  Calls prog 126 #[.slice A n c,.func (.func 127) #[] #[]] w (uN 9 1 ((Sr.canon T9.dL ls).map encS) (Sr.canon T9.dL ls).length w):=by
 have HL0:=hid (h.old (t':=0))
 have HN:=hid hn
 clear h hn
 obtain⟨wB,iR⟩:∃ u,w.alloc (.cells #[.func (.func 127) #[] #[]] 165)=u:=⟨_,rfl⟩
 have bB:Below w.heap.size w wB:=by rw [← iR];exact (Below.refl _ w).alloc (Nat.le_refl _) _
 have kB:wB.heap[w.heap.size]?=some (.cells #[.func (.func 127) #[] #[]] 165 (0,0)):=by rw [← iR];exact heap_alloc_new w _
 have sB:wB.heap.size=w.heap.size+1:=by rw [← iR];simp
 have BB:=hid bB
 have KB:=hid kB
 have SB:=hid sB
 have HL:=hid (HL0.out.below (Nat.le_refl _) bB)
 have hO:=ownS_c (c:=c) (n:=n) HL.out (by rw [HN.out];exact by simp) (eT ls) (by omega)
 have HOW:=hid hO
 clear bB kB sB hO
 go_enter func126,ntmps126
 go_wp2_with (go_at_call 180;refine HOW.out.mono ?_;rintro e w1 ⟨A2,c2,rfl,hc2,ho,hb1⟩)
 have B1:=hid (BB.out.trans (hb1.mono (by have:=SB.out;omega)))
 have KB1:=hid ((hb1.block w.heap.size (by have:=SB.out;omega)).trans KB.out)
 have z1:=hb1.size
 have Z1:=hid z1
 have HO0:=hid ho
 clear hb1 ho z1
 by_cases h0:n=0
 ·subst h0
  have hnil:ls=[]:=List.length_eq_zero_iff.1 HN.out.symm
  have ny:=hid hnil
  clear hnil
  go_wp2_with (go_at_call 181;refine (Jb _ _ _ _).mono ?_;rintro e w2 ⟨rfl,rfl⟩)
  go_wp2_with (go_at_call 184;refine (yc _ _ _ _).mono ?_;rintro e w2 ⟨rfl,rfl⟩)
  go_ret
  exact⟨A2,c2,by rw [ny.out];rfl,by rw [ny.out];exact Nat.zero_le _,by
   rcases HO0.out with q | ⟨g,e,o⟩
   ·exact .inl ⟨by rw [ny.out];rfl,q.2⟩
   ·refine .inr ⟨g,e,?_⟩
    rw [ny.out] at o ⊢
    exact eu o (by have:=SB.out;omega),by rw [ny.out];exact au.nil,B1.out⟩
 ·obtain⟨g,hg,hown⟩:=HO0.out.resolve_left (fun q=>h0 q.1)
  have HG:=hid hg
  have HO:=hid hown
  rw [hg] at hown
  have gl:=hown.lt g rfl
  have zO:=hid gl
  have R:Row1 encS w1 g 0 ls.toArray:=I7 (d:=ls.toArray) (fun x=>rfl) rfl hown
  have S0:SW encS w1 g 0 ls.toArray w1:=SW.start R.hH
  have RR:=hid R
  have HS0:=hid S0
  have FQ:w1.cell? ⟨w.heap.size,0,none⟩=some (.func (.func 127) #[] #[]):=cell_of_one KB1.out
  have bxl:w.heap.size<w1.heap.size:=lt_of_block KB1.out
  have bxn:w.heap.size≠g:=by have:=SB.out;omega
  have Jv:=hid (sortS_c (cap:=c2) R S0 (fun args w=>Tryz.call182 args w) (laysS (size:=ls.toArray.size) FQ bxn bxl) (by rw [Bc];exact T9.JH) (by simp;have:=HN.out;omega) n (by simp;exact HN.out))
  clear hown R S0 gl
  rw [hg]
  clear hg
  have BX:=hid FQ
  clear FQ
  go_wp2_with (go_at_call 181;refine Jv.out.mono ?_;rintro e w2 ⟨rfl,dk,W,hs2,hd2,hl2,hw2,D_,hst⟩)
  have S2:=hid hs2
  have SR:=hid (And.intro hd2 (And.intro hl2 (And.intro D_ hst)))
  have hds:dk.size=n:=by rw [hd2];simp;exact HN.out.symm
  have CC:=Ga cptS encS ([]:List UInt8) (fun w=>zeroValue9 w) g 0 c2 ls.toArray dk w1 w2 RR.out (by rw [hd2]) hs2 (Sr.gX T9.dL) 185 #[.pointer (some ⟨w.heap.size,0,none⟩)] (fun args w=>Tryz.call185 args w) (eqsS BX.out bxn bxl) (by rw [hds];exact hc2) (by have:=(lw HO.out);unfold maxLen at this;omega) (by omega)
  rw [hds] at CC
  have HCC:=hid CC
  have HDS:=hid hds
  clear hs2 hd2 hl2 hw2 D_ hst CC hds
  go_wp2_with (go_at_call 184;refine HCC.out.mono ?_;rintro e w3 ⟨dk3,m,rfl,hs3,hd3,hm0,yu⟩;have HM:=hid hm0;have HL3:=hid yu;have HD3:=hid hd3;clear hm0 yu hd3)
  have hm:=HM.out
  have hl3:=HL3.out
  have hd3:=HD3.out
  have CN:Sr.compact (Sr.gX T9.dL) dk.toList=Sr.canon T9.dL ls:=Sr.kI T9.JH (by rw [← Bc];have:=SR.out.2.2.1;rw [SR.out.2.1];simpa using this) (by rw [← Bc];have:=SR.out.2.2.2;rw [SR.out.2.1];simpa using this)
  rw [CN] at hm hl3
  rw [hm] at hl3
  have xL:(Sr.canon T9.dL ls).length≤n:=by rw [HN.out];exact Sr.dB ls
  have lY:dk3.size=ls.toArray.size:=by rw [hd3,HDS.out,HN.out];simp
  have HOG:=hid (show w1.ownsRow wB.heap.size 9 1 (.slice (some ⟨g,0,none⟩) n c2) n (ls.map encS) by rw [← HG.out];exact HO.out)
  have FIN:uN 9 1 ((Sr.canon T9.dL ls).map encS) (Sr.canon T9.dL ls).length w (.returned (.slice (some ⟨g,0,none⟩) m c2)) w3:=by
   refine⟨some ⟨g,0,none⟩,c2,by rw [hm],by omega,.inr ⟨g,rfl,?_⟩,?_,B1.out.trans (Jk hs3 (by have:=zO.out;have:=SB.out;omega) zO.out.2)⟩
   ·exact eu (sw_own hs3 RR.out lY HOG.out hl3 xL) (by have:=SB.out;omega)
   ·exact CV hs3 RR.out lY hl3 (SW.lt hs3 zO.out.2)
  have HF:=hid FIN
  clear FIN hs3 hd3 hl3 CN xL lY hm
  go_wp2
  go_ret
  exact HF.out
end
end
end Go.Proofs.YtcedlgedmkghgaaGreat
