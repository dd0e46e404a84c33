import Derived.Test.YtcedlgedmkghgaaZ39
import Derived.Test.YtcedlgedmkghgaaZ20
import Derived.Test.YtcedlgedmkghgaaZ24
namespace Go.Proofs.Ytcedlgedmkghgaa
set_option maxHeartbeats 16000000
set_option linter.unusedSimpArgs false
set_option maxRecDepth 100000
section
section
open Go.RowKit Go.Lib
namespace T9
def xsW (s:Option (List UInt8)) (j:Nat):List It:=(many (Cd.bL 60000) j (g6 s)).1.map fun b=>(gZ 60000 b).1
def lsW (s:Option (List UInt8)) (j:Nat):List La:=(many fH j (g8 s)).1
def okX (s:Option (List UInt8)) (j:Nat):Prop:=∀ b∈(many (Cd.bL 60000) j (g6 s)).1,(gZ 60000 b).2=0
theorem xsW_len (s:Option (List UInt8)) (j:Nat):(xsW s j).length=j:=by unfold xsW;rw [List.length_map,bD]
theorem lsW_len (s:Option (List UInt8)) (j:Nat):(lsW s j).length=j:=bD _ _ _
theorem x9 (s:Option (List UInt8)) (j:Nat):xsW s (j+1)=xsW s j++[(gZ 60000 (Cd.bL 60000 (many (Cd.bL 60000) j (g6 s)).2).1).1]:=by unfold xsW;rw [aY,List.map_append];rfl
theorem wD (s:Option (List UInt8)) (j:Nat):lsW s (j+1)=lsW s j++[(fH (many fH j (g8 s)).2).1]:=by unfold lsW;rw [aY]
theorem wY (s:Option (List UInt8)):okX s 0:=fun b hb=>by cases hb
theorem wX {s:Option (List UInt8)} {j:Nat} (h:okX s j) (k:(gZ 60000 (Cd.bL 60000 (many (Cd.bL 60000) j (g6 s)).2).1).2=0):okX s (j+1):=fun b hb=>by
 rw [aY] at hb
 rcases List.mem_append.1 hb with q | q
 ·exact h b q
 ·rw [List.mem_singleton] at q
  subst q
  exact k
theorem pG {α:Type} (f:Option (List UInt8)→α × Option (List UInt8)) (s:Option (List UInt8)):∀ (n j:Nat),j<n→(f (many f j s).2).1∈(many f n s).1
 | 0,_,h=>absurd h (Nat.not_lt_zero _)
 | n+1,j,h=>by
  rw [aY]
  by_cases q:j=n
  ·subst q;exact List.mem_append.2 (.inr (List.mem_singleton.2 rfl))
  ·exact List.mem_append.2 (.inl (pG f s n j (by omega)))
theorem wU {b:List UInt8} (h:Fr.only b=none):(ik b).2≠0:=by unfold ik;rw [h];decide
theorem kg {b c:List UInt8} (h:Fr.only b=some c) (k:¬ kQ (some c)):(ik b).2≠0:=by unfold ik;rw [h];dsimp only;rw [if_neg k];decide
theorem ofW_is {b c:List UInt8} (h:Fr.only b=some c) (k:kQ (some c)):ik b=(kW (dI (some c)),0):=by unfold ik;rw [h];dsimp only;rw [if_pos k]
theorem l9 {s:Option (List UInt8)} {j:Nat} (h:j<n1 s) (k:(gZ 60000 (Cd.bL 60000 (many (Cd.bL 60000) j (g6 s)).2).1).2≠0):¬ kQ s:=fun q=>by
 have q1:=q.1
 rw [List.all_eq_true] at q1
 have:=q1 _ (pG (Cd.bL 60000) (g6 s) (n1 s) j h)
 simp only [decide_eq_true_eq] at this
 exact k this
theorem good_of {s:Option (List UInt8)} (h:okX s (n1 s)) (k:(of (dI s).sb).2=0) (e:g10 s=some []) (c:bU (kW (dI s))=0):kQ s:=⟨by
 rw [List.all_eq_true]
 intro b hb
 simp only [decide_eq_true_eq]
 exact h b hb,k,e,c⟩
theorem mgOf_ok {s:Option (List UInt8)} (h:okX s (n1 s)) (k:(of (dI s).sb).2=0):(kW (dI s)).ok:=by
 refine⟨(Cd.b_ _ _).1,(Cd.b_ _ _).1,(Cd.b_ _ _).1,(Cd.b_ _ _).1,?_,?_,(wV k).2.1⟩
 ·intro x hx
  obtain⟨b,hb,rfl⟩:=List.mem_map.1 hx
  exact (pQ (h b hb)).2.1
 ·exact gH (P:=fun x:La=>x.ok) (fun s=>⟨(Cd.b_ _ _).1,(Cd.b_ _ _).1⟩) _ _
theorem x_ {s:Option (List UInt8)} {j:Nat} (h:okX s j):∀ x∈xsW s j,x.m.text.length≤200:=fun x hx=>by
 obtain⟨b,hb,rfl⟩:=List.mem_map.1 hx
 have:=bH (gp.1 (pQ (h b hb)).2.2).2.2
 omega
theorem rJ (s:Option (List UInt8)):St.jl s (g6 s):=(((((St.bI 8 s).trans (St.bI _ _)).trans (St.bI _ _)).trans (St.bI _ _)).trans (St.bI _ _)).trans (St.bI 8 _)
theorem oo:∀ (n:Nat) (s:Option (List UInt8)),St.jl s (many (Cd.bL 60000) n s).2
 | 0,_=>fun t ht=>⟨t,ht,Nat.le_refl _⟩
 | n+1,s=>(St.mX 60000 s).trans (oo n _)
theorem rM:∀ (n:Nat) (s:Option (List UInt8)),St.jl s (many fH n s).2
 | 0,_=>fun t ht=>⟨t,ht,Nat.le_refl _⟩
 | n+1,s=>((St.bI Cd.full s).trans (St.bI Cd.full _)).trans (rM n _)
theorem xH (s:Option (List UInt8)):St.jl s (g8 s):=((rJ s).trans (oo _ _)).trans (St.bI 2000 _)
theorem shr_g9 (s:Option (List UInt8)):St.jl s (g9 s):=(xH s).trans (rM _ _)
end T9
theorem Try.infoIt15:(Try.prog.info? 51).map (fun i=>(i.zero,i.size,i.bytes))=some (some (.agg #[.int .u64 0,.int .u64 0,.int .i64 0,.int .u64 0,.int .u64 0,.string ⟨#[]⟩,.float .f64 0,.bool false]),8,72):=by kernel_rfl
theorem Try.infoLa15:(Try.prog.info? 55).map (fun i=>(i.zero,i.size,i.bytes))=some (some (.agg #[.int .u64 0,.int .u64 0]),2,16):=by kernel_rfl
theorem kZ {w:World} {p:Nat} {t:TypeId} {z0 z1 z2 z3 z4 z5 z6 z7 z8:Value} (q:w.heap[p]?=some (.cells #[z0,z1,z2,z3,z4,z5,z6,z7,z8] t (0,0))) (a b c d e f g h i:Value):(((((((((w.setCell ⟨p,0,none⟩ a).setCell ⟨p,1,none⟩ b).setCell ⟨p,2,none⟩ c).setCell ⟨p,3,none⟩ d).setCell ⟨p,4,none⟩ e).setCell ⟨p,5,none⟩ f).setCell ⟨p,6,none⟩ g).setCell ⟨p,7,none⟩ h).setCell ⟨p,8,none⟩ i).heap[p]?=some (.cells #[a,b,c,d,e,f,g,h,i] t (0,0)):=by
 have h0:=q
 have h1:(w.setCell ⟨p,0,none⟩ a).heap[p]?=some (.cells #[a,z1,z2,z3,z4,z5,z6,z7,z8] t (0,0)):=(af h0 0 a).trans rfl
 have h2:((w.setCell ⟨p,0,none⟩ a).setCell ⟨p,1,none⟩ b).heap[p]?=some (.cells #[a,b,z2,z3,z4,z5,z6,z7,z8] t (0,0)):=(af h1 1 b).trans rfl
 have h3:(((w.setCell ⟨p,0,none⟩ a).setCell ⟨p,1,none⟩ b).setCell ⟨p,2,none⟩ c).heap[p]?=some (.cells #[a,b,c,z3,z4,z5,z6,z7,z8] t (0,0)):=(af h2 2 c).trans rfl
 have h4:((((w.setCell ⟨p,0,none⟩ a).setCell ⟨p,1,none⟩ b).setCell ⟨p,2,none⟩ c).setCell ⟨p,3,none⟩ d).heap[p]?=some (.cells #[a,b,c,d,z4,z5,z6,z7,z8] t (0,0)):=(af h3 3 d).trans rfl
 have h5:(((((w.setCell ⟨p,0,none⟩ a).setCell ⟨p,1,none⟩ b).setCell ⟨p,2,none⟩ c).setCell ⟨p,3,none⟩ d).setCell ⟨p,4,none⟩ e).heap[p]?=some (.cells #[a,b,c,d,e,z5,z6,z7,z8] t (0,0)):=(af h4 4 e).trans rfl
 have h6:((((((w.setCell ⟨p,0,none⟩ a).setCell ⟨p,1,none⟩ b).setCell ⟨p,2,none⟩ c).setCell ⟨p,3,none⟩ d).setCell ⟨p,4,none⟩ e).setCell ⟨p,5,none⟩ f).heap[p]?=some (.cells #[a,b,c,d,e,f,z6,z7,z8] t (0,0)):=(af h5 5 f).trans rfl
 have h7:(((((((w.setCell ⟨p,0,none⟩ a).setCell ⟨p,1,none⟩ b).setCell ⟨p,2,none⟩ c).setCell ⟨p,3,none⟩ d).setCell ⟨p,4,none⟩ e).setCell ⟨p,5,none⟩ f).setCell ⟨p,6,none⟩ g).heap[p]?=some (.cells #[a,b,c,d,e,f,g,z7,z8] t (0,0)):=(af h6 6 g).trans rfl
 have h8:((((((((w.setCell ⟨p,0,none⟩ a).setCell ⟨p,1,none⟩ b).setCell ⟨p,2,none⟩ c).setCell ⟨p,3,none⟩ d).setCell ⟨p,4,none⟩ e).setCell ⟨p,5,none⟩ f).setCell ⟨p,6,none⟩ g).setCell ⟨p,7,none⟩ h).heap[p]?=some (.cells #[a,b,c,d,e,f,g,h,z8] t (0,0)):=(af h7 7 h).trans rfl
 have h9:(((((((((w.setCell ⟨p,0,none⟩ a).setCell ⟨p,1,none⟩ b).setCell ⟨p,2,none⟩ c).setCell ⟨p,3,none⟩ d).setCell ⟨p,4,none⟩ e).setCell ⟨p,5,none⟩ f).setCell ⟨p,6,none⟩ g).setCell ⟨p,7,none⟩ h).setCell ⟨p,8,none⟩ i).heap[p]?=some (.cells #[a,b,c,d,e,f,g,h,i] t (0,0)):=(af h8 8 i).trans rfl
 exact h9
theorem lT {w:World} {p B:Nat} {t:TypeId} (y:Ty w p t) (hB:B≤p) (a b c d e f g h i:Value):ay B [t] w (((((((((w.setCell ⟨p,0,none⟩ a).setCell ⟨p,1,none⟩ b).setCell ⟨p,2,none⟩ c).setCell ⟨p,3,none⟩ d).setCell ⟨p,4,none⟩ e).setCell ⟨p,5,none⟩ f).setCell ⟨p,6,none⟩ g).setCell ⟨p,7,none⟩ h).setCell ⟨p,8,none⟩ i):=by
 have h0:=ay.refl B [t] w
 have y0:=y
 have h1:=h0.aW (p:=⟨p,0,none⟩) y0 (by simp) hB a
 have y1:=y0.set ⟨p,0,none⟩ a
 have h2:=h1.aW (p:=⟨p,1,none⟩) y1 (by simp) hB b
 have y2:=y1.set ⟨p,1,none⟩ b
 have h3:=h2.aW (p:=⟨p,2,none⟩) y2 (by simp) hB c
 have y3:=y2.set ⟨p,2,none⟩ c
 have h4:=h3.aW (p:=⟨p,3,none⟩) y3 (by simp) hB d
 have y4:=y3.set ⟨p,3,none⟩ d
 have h5:=h4.aW (p:=⟨p,4,none⟩) y4 (by simp) hB e
 have y5:=y4.set ⟨p,4,none⟩ e
 have h6:=h5.aW (p:=⟨p,5,none⟩) y5 (by simp) hB f
 have y6:=y5.set ⟨p,5,none⟩ f
 have h7:=h6.aW (p:=⟨p,6,none⟩) y6 (by simp) hB g
 have y7:=y6.set ⟨p,6,none⟩ g
 have h8:=h7.aW (p:=⟨p,7,none⟩) y7 (by simp) hB h
 have y8:=y7.set ⟨p,7,none⟩ h
 have h9:=h8.aW (p:=⟨p,8,none⟩) y8 (by simp) hB i
 exact h9
structure aD (rt:TypeId) (B p gb rb:Nat) (i0 i1 i2 i3 i4:Nat) (xs:List It) (A:Option Addr) (c:Nat) (las:List La) (A1:Option Addr) (c1:Nat) (s:Option (List UInt8)) (wz w:World):Prop where
 r:RS rt B 5 w p s
 i:w.ownsRow B 51 8 (.slice A xs.length c) xs.length (dR xs)
 a:w.ownsRow B 55 2 (.slice A1 las.length c1) las.length (eQ las)
 b:w.heap[gb]?=some (.cells #[.int .i64 (i0:Int),.int .u64 (i1:Int),.int .u64 (i2:Int),.int .u64 (i3:Int),.int .u64 (i4:Int),.slice A xs.length c,.slice A1 las.length c1,.slice none 0 0,.slice none 0 0] 30 (0,0))
 z:w.heap[rb]?=some (.cells #[.int .i64 0,.int .u64 0,.int .u64 0,.int .u64 0,.int .u64 0,.slice none 0 0,.slice none 0 0,.slice none 0 0,.slice none 0 0] 30 (0,0))
 d:Below wz.heap.size wz w
 o:wz.heap.size=rb∧rb+1≤B∧B≤gb
section
variable {rt : TypeId} {B p gb rb i0 i1 i2 i3 i4 c c1 : Nat} {xs : List It} {A A1 : Option Addr} {las : List La} {s s' : Option (List UInt8)} {wz w w' : World}
theorem aD.size (h:aD rt B p gb rb i0 i1 i2 i3 i4 xs A c las A1 c1 s wz w):B≤w.heap.size:=h.r.size
theorem aD.lt (h:aD rt B p gb rb i0 i1 i2 i3 i4 xs A c las A1 c1 s wz w):gb<w.heap.size:=lt_of_block h.b
theorem aD.dB (h:aD rt B p gb rb i0 i1 i2 i3 i4 xs A c las A1 c1 s wz w) {ts:List TypeId} (hT:ay B ts w w') (hr:RS rt B 5 w' p s') (h1:51 ∉ ts) (h2:55 ∉ ts) (h3:30 ∉ ts):aD rt B p gb rb i0 i1 i2 i3 i4 xs A c las A1 c1 s' wz w' :=
 ⟨hr,bi h.i hT h1,bi h.a hT h2,hT.blk h.b h3,hT.blk h.z h3,h.d.trans (hT.below.mono (by have:=h.o;omega)),h.o⟩
theorem aD.below (h:aD rt B p gb rb i0 i1 i2 i3 i4 xs A c las A1 c1 s wz w) (hb:Below w.heap.size w w'):aD rt B p gb rb i0 i1 i2 i3 i4 xs A c las A1 c1 s wz w' :=
 h.dB (ay.of_below hb h.size []) (h.r.below hb) (by simp) (by simp) (by simp)
theorem aD.cells (h:aD rt B p gb rb i0 i1 i2 i3 i4 xs A c las A1 c1 s wz w):w.cell? ⟨gb,0,none⟩=some (.int .i64 (i0:Int))∧w.cell? ⟨gb,1,none⟩=some (.int .u64 (i1:Int))∧w.cell? ⟨gb,2,none⟩=some (.int .u64 (i2:Int))∧w.cell? ⟨gb,3,none⟩=some (.int .u64 (i3:Int))∧w.cell? ⟨gb,4,none⟩=some (.int .u64 (i4:Int))∧w.cell? ⟨gb,5,none⟩=some (.slice A xs.length c)∧w.cell? ⟨gb,6,none⟩=some (.slice A1 las.length c1)∧w.cell? ⟨gb,7,none⟩=some (.slice none 0 0)∧w.cell? ⟨gb,8,none⟩=some (.slice none 0 0):=ai h.b
theorem aD.free (h:aD rt B p gb rb i0 i1 i2 i3 i4 xs A c las A1 c1 s wz w) (j:Nat):w.frozen? ⟨gb,j,none⟩=false:=aa h.b j
theorem aD.set (h:aD rt B p gb rb i0 i1 i2 i3 i4 xs A c las A1 c1 s wz w) (hm:rt≠30) (k:Nat) (v:Value):RS rt B 5 (w.setCell ⟨gb,k,none⟩ v) p s∧(w.setCell ⟨gb,k,none⟩ v).ownsRow B 51 8 (.slice A xs.length c) xs.length (dR xs)∧(w.setCell ⟨gb,k,none⟩ v).ownsRow B 55 2 (.slice A1 las.length c1) las.length (eQ las)∧(w.setCell ⟨gb,k,none⟩ v).heap[rb]?=some (.cells #[.int .i64 0,.int .u64 0,.int .u64 0,.int .u64 0,.int .u64 0,.slice none 0 0,.slice none 0 0,.slice none 0 0,.slice none 0 0] 30 (0,0))∧Below wz.heap.size wz (w.setCell ⟨gb,k,none⟩ v) :=
 ⟨h.r.dB ((ay.refl B [30] w).aW (p:=⟨gb,k,none⟩) ⟨_,_,h.b⟩ (by simp) h.o.2.2 v) (by simpa using hm) (by decide),dV h.i (p:=⟨gb,k,none⟩) h.b (by decide) v,dV h.a (p:=⟨gb,k,none⟩) h.b (by decide) v,aF h.z (p:=⟨gb,k,none⟩) (by have:=h.o;show rb≠gb;omega) v,h.d.setCell (by have:=h.o;show wz.heap.size≤gb;omega) v⟩
theorem aD.line (h:aD rt B p gb rb i0 i1 i2 i3 i4 xs A c las A1 c1 s wz w) (hm:rt≠30) (v:Nat):aD rt B p gb rb i0 v i2 i3 i4 xs A c las A1 c1 s wz (w.setCell ⟨gb,1,none⟩ (.int .u64 (v:Int))):=by
 obtain⟨q1,q2,q3,q4,q5⟩:=h.set hm 1 (.int .u64 (v:Int))
 exact⟨q1,q2,q3,(af h.b 1 _).trans rfl,q4,q5,h.o⟩
theorem aD.aQ (h:aD rt B p gb rb i0 i1 i2 i3 i4 xs A c las A1 c1 s wz w) (hm:rt≠30) (v:Nat):aD rt B p gb rb i0 i1 v i3 i4 xs A c las A1 c1 s wz (w.setCell ⟨gb,2,none⟩ (.int .u64 (v:Int))):=by
 obtain⟨q1,q2,q3,q4,q5⟩:=h.set hm 2 (.int .u64 (v:Int))
 exact⟨q1,q2,q3,(af h.b 2 _).trans rfl,q4,q5,h.o⟩
theorem aD.bZ (h:aD rt B p gb rb i0 i1 i2 i3 i4 xs A c las A1 c1 s wz w) (hm:rt≠30) (v:Nat):aD rt B p gb rb i0 i1 i2 v i4 xs A c las A1 c1 s wz (w.setCell ⟨gb,3,none⟩ (.int .u64 (v:Int))):=by
 obtain⟨q1,q2,q3,q4,q5⟩:=h.set hm 3 (.int .u64 (v:Int))
 exact⟨q1,q2,q3,(af h.b 3 _).trans rfl,q4,q5,h.o⟩
theorem aD.cu (h:aD rt B p gb rb i0 i1 i2 i3 i4 xs A c las A1 c1 s wz w) (hm:rt≠30) (v:Nat):aD rt B p gb rb i0 i1 i2 i3 v xs A c las A1 c1 s wz (w.setCell ⟨gb,4,none⟩ (.int .u64 (v:Int))):=by
 obtain⟨q1,q2,q3,q4,q5⟩:=h.set hm 4 (.int .u64 (v:Int))
 exact⟨q1,q2,q3,(af h.b 4 _).trans rfl,q4,q5,h.o⟩
theorem aD.sj (h:aD rt B p gb rb i0 i1 i2 i3 i4 xs A c las A1 c1 s wz w) (hm:rt≠51) (hg:w.grownBy w' (Value.slice A xs.length c).ownBlock):RS rt B 5 w' p s∧w'.ownsRow B 55 2 (.slice A1 las.length c1) las.length (eQ las)∧w'.heap[gb]?=some (.cells #[.int .i64 (i0:Int),.int .u64 (i1:Int),.int .u64 (i2:Int),.int .u64 (i3:Int),.int .u64 (i4:Int),.slice A xs.length c,.slice A1 las.length c1,.slice none 0 0,.slice none 0 0] 30 (0,0))∧w'.heap[rb]?=some (.cells #[.int .i64 0,.int .u64 0,.int .u64 0,.int .u64 0,.int .u64 0,.slice none 0 0,.slice none 0 0,.slice none 0 0,.slice none 0 0] 30 (0,0))∧Below wz.heap.size wz w':=by
 have T:=dx (B:=B) (ts:=[51]) h.i hg (Nat.le_refl _) h.size (by simp)
 exact⟨h.r.dB T (by simpa using hm) (by decide),bi h.a T (by decide),T.blk h.b (by decide),T.blk h.z (by decide),h.d.trans (T.below.mono (by have:=h.o;omega))⟩
theorem aD.si (h:aD rt B p gb rb i0 i1 i2 i3 i4 xs A c las A1 c1 s wz w) (hm:rt≠55) (hg:w.grownBy w' (Value.slice A1 las.length c1).ownBlock):RS rt B 5 w' p s∧w'.ownsRow B 51 8 (.slice A xs.length c) xs.length (dR xs)∧w'.heap[gb]?=some (.cells #[.int .i64 (i0:Int),.int .u64 (i1:Int),.int .u64 (i2:Int),.int .u64 (i3:Int),.int .u64 (i4:Int),.slice A xs.length c,.slice A1 las.length c1,.slice none 0 0,.slice none 0 0] 30 (0,0))∧w'.heap[rb]?=some (.cells #[.int .i64 0,.int .u64 0,.int .u64 0,.int .u64 0,.int .u64 0,.slice none 0 0,.slice none 0 0,.slice none 0 0,.slice none 0 0] 30 (0,0))∧Below wz.heap.size wz w':=by
 have T:=dx (B:=B) (ts:=[55]) h.a hg (Nat.le_refl _) h.size (by simp)
 exact⟨h.r.dB T (by simpa using hm) (by decide),bi h.i T (by decide),T.blk h.b (by decide),T.blk h.z (by decide),h.d.trans (T.below.mono (by have:=h.o;omega))⟩
theorem aD.item (h:aD rt B p gb rb i0 i1 i2 i3 i4 xs A c las A1 c1 s wz w) (hm:rt≠51) (hm2:rt≠30) (hg:w.grownBy w' (Value.slice A xs.length c).ownBlock) {A6:Option Addr} {k6:Nat} {x:It} (ho:w'.ownsRow B 51 8 (.slice A6 (xs.length+1) k6) (xs.length+1) (dR xs++encI x)):aD rt B p gb rb i0 i1 i2 i3 i4 (xs++[x]) A6 k6 las A1 c1 s wz (w'.setCell ⟨gb,5,none⟩ (.slice A6 (xs.length+1) k6)):=by
 obtain⟨q1,q2,q3,q4,q5⟩:=h.sj hm hg
 have e:(xs++[x]).length=xs.length+1:=by simp
 have o:=h.o
 exact⟨q1.dB ((ay.refl B [30] w').aW (p:=⟨gb,5,none⟩) ⟨_,_,q3⟩ (by simp) o.2.2 _) (by simpa using hm2) (by decide),by rw [e,nQ];exact dV ho (p:=⟨gb,5,none⟩) q3 (by decide) _,dV q2 (p:=⟨gb,5,none⟩) q3 (by decide) _,by rw [e];exact (af q3 5 _).trans rfl,aF q4 (p:=⟨gb,5,none⟩) (by show rb≠gb;omega) _,q5.setCell (by show wz.heap.size≤gb;omega) _,o⟩
theorem aD.last (h:aD rt B p gb rb i0 i1 i2 i3 i4 xs A c las A1 c1 s wz w) (hm:rt≠55) (hm2:rt≠30) (hg:w.grownBy w' (Value.slice A1 las.length c1).ownBlock) {A6:Option Addr} {k6:Nat} {x:La} (ho:w'.ownsRow B 55 2 (.slice A6 (las.length+1) k6) (las.length+1) (eQ las++iT x)):aD rt B p gb rb i0 i1 i2 i3 i4 xs A c (las++[x]) A6 k6 s wz (w'.setCell ⟨gb,6,none⟩ (.slice A6 (las.length+1) k6)):=by
 obtain⟨q1,q2,q3,q4,q5⟩:=h.si hm hg
 have e:(las++[x]).length=las.length+1:=by simp
 have o:=h.o
 exact⟨q1.dB ((ay.refl B [30] w').aW (p:=⟨gb,6,none⟩) ⟨_,_,q3⟩ (by simp) o.2.2 _) (by simpa using hm2) (by decide),dV q2 (p:=⟨gb,6,none⟩) q3 (by decide) _,by rw [e,oH];exact dV ho (p:=⟨gb,6,none⟩) q3 (by decide) _,by rw [e];exact (af q3 6 _).trans rfl,aF q4 (p:=⟨gb,6,none⟩) (by show rb≠gb;omega) _,q5.setCell (by show wz.heap.size≤gb;omega) _,o⟩
theorem aD.state (h:aD rt B p gb rb i0 i1 i2 i3 i4 xs A c las A1 c1 s wz w) {q:jk} (hq:uW q w):qA ⟨(i0:Int),i1,i2,i3,i4,xs,A,c,las,A1,c1,q⟩ ((w.setCell ⟨gb,7,none⟩ (.slice q.A q.ls.length q.c)).setCell ⟨gb,8,none⟩ (.slice q.A2 q.ms.length q.c2))∧nk ⟨(i0:Int),i1,i2,i3,i4,xs,A,c,las,A1,c1,q⟩ gb ((w.setCell ⟨gb,7,none⟩ (.slice q.A q.ls.length q.c)).setCell ⟨gb,8,none⟩ (.slice q.A2 q.ms.length q.c2))∧((w.setCell ⟨gb,7,none⟩ (.slice q.A q.ls.length q.c)).setCell ⟨gb,8,none⟩ (.slice q.A2 q.ms.length q.c2)).heap[rb]?=some (.cells #[.int .i64 0,.int .u64 0,.int .u64 0,.int .u64 0,.int .u64 0,.slice none 0 0,.slice none 0 0,.slice none 0 0,.slice none 0 0] 30 (0,0))∧Below wz.heap.size wz ((w.setCell ⟨gb,7,none⟩ (.slice q.A q.ls.length q.c)).setCell ⟨gb,8,none⟩ (.slice q.A2 q.ms.length q.c2))∧(rt≠30→RS rt B 5 ((w.setCell ⟨gb,7,none⟩ (.slice q.A q.ls.length q.c)).setCell ⟨gb,8,none⟩ (.slice q.A2 q.ms.length q.c2)) p s):=by
 have yy:Ty w gb 30:=⟨_,_,h.b⟩
 have T:ay B [30] w ((w.setCell ⟨gb,7,none⟩ (.slice q.A q.ls.length q.c)).setCell ⟨gb,8,none⟩ (.slice q.A2 q.ms.length q.c2)):=((ay.refl B _ w).aW (p:=⟨gb,7,none⟩) yy (by simp) h.o.2.2 _).aW (p:=⟨gb,8,none⟩) (yy.set _ _) (by simp) h.o.2.2 _
 have ne:rb≠gb:=by have:=h.o;omega
 refine⟨⟨eH (aB (B:=0) h.i) T (by decide),eH (aB (B:=0) h.a) T (by decide),hq.dB T (by decide) (by decide) (by decide),(aC h.i).2,(aC h.a).2⟩,(af (af h.b 7 _) 8 _).trans rfl,aF (aF h.z (p:=⟨gb,7,none⟩) ne _) (p:=⟨gb,8,none⟩) ne _,h.d.trans (T.below.mono (by have:=h.o;omega)),fun hm=>h.r.dB T (by simpa using hm) (by decide)⟩
end
theorem qJ (x:It) (w:World):(Instr.buildSlice 23 1 #[(0,.agg #[.int .u64 (x.who:Int),.int .u64 (x.id:Int),.int .i64 x.m.kind,.int .u64 (x.m.id:Int),.int .u64 (x.m.list:Int),.string (str x.m.text),.float .f64 x.m.f,.bool x.m.flag])]).run Try.prog w=.ok (.slice (some ⟨w.heap.size,0,none⟩) 1 1) (w.alloc (.cells (encI x).toArray 51)):=by
 obtain⟨i0,hi,hz0,hz1,hz2⟩:=info_parts Try.infoIt15
 exact bN w 23 51 (encI x).toArray i0 _ Try.underlying23 hi hz0 hz1 (by show 0<8;omega) (by show 8≤_;omega)
theorem qI (a b:Nat) (w:World):(Instr.buildSlice 24 1 #[(0,.agg #[.int .u64 (a:Int),.int .u64 (b:Int)])]).run Try.prog w=.ok (.slice (some ⟨w.heap.size,0,none⟩) 1 1) (w.alloc (.cells #[.int .u64 (a:Int),.int .u64 (b:Int)] 55)):=by
 obtain⟨i0,hi,hz0,hz1,hz2⟩:=info_parts Try.infoLa15
 exact bN w 24 55 #[.int .u64 (a:Int),.int .u64 (b:Int)] i0 _ Try.underlying24 hi hz0 hz1 (by show 0<2;omega) (by show 2≤_;omega)
@[go_sem] theorem buildLa15 (n : Int) (w : World) : (Instr.build 55 #[(0, .int .u64 n)]).run Try.prog w = .ok (.agg #[.int .u64 n, .int .u64 0]) w := run_build w 55 _ _ (by kernel_rfl)
@[go_sem] theorem buildMsg15 (n : Int) (w : World) : (Instr.build 30 #[(0, .int .i64 n)]).run Try.prog w = .ok (.agg #[.int .i64 n, .int .u64 0, .int .u64 0, .int .u64 0, .int .u64 0, .slice none 0 0, .slice none 0 0, .slice none 0 0, .slice none 0 0]) w := run_build w 30 _ _ (by kernel_rfl)
@[go_sem] theorem buildMsg15z (w : World) : (Instr.build 30 #[]).run Try.prog w = .ok (.agg #[.int .i64 0, .int .u64 0, .int .u64 0, .int .u64 0, .int .u64 0, .slice none 0 0, .slice none 0 0, .slice none 0 0, .slice none 0 0]) w := run_build w 30 _ _ (by kernel_rfl)
end
end
end Go.Proofs.Ytcedlgedmkghgaa
