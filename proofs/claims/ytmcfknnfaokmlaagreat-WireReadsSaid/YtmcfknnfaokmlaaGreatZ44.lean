import Derived.Test.YtmcfknnfaokmlaaGreatZ36
import Derived.Test.YtmcfknnfaokmlaaGreatZ20
import Derived.Test.YtmcfknnfaokmlaaGreatZ23
namespace Go.Proofs.YtmcfknnfaokmlaaGreat
set_option maxHeartbeats 16000000
open Go.Proofs.Tryz
set_option linter.unusedSimpArgs false
set_option maxRecDepth 100000
section
section
open Go.RowKit Go.Lib
namespace T9
def Bn (s:Option (List UInt8)) (j:Nat):List It:=(many (Cd.bQ 60000) j (g6 s)).1.map fun b=>(fB 60000 b).1
def Em (s:Option (List UInt8)) (j:Nat):List La:=(many eH j (g8 s)).1
def Bi (s:Option (List UInt8)) (j:Nat):Prop:=∀ b∈(many (Cd.bQ 60000) j (g6 s)).1,(fB 60000 b).2=0
theorem zC (s:Option (List UInt8)) (j:Nat):(Bn s j).length=j:=by unfold Bn;rw [List.length_map,bL]
theorem yT (s:Option (List UInt8)) (j:Nat):(Em s j).length=j:=bL _ _ _
theorem wS (s:Option (List UInt8)) (j:Nat):Bn s (j+1)=Bn s j++[(fB 60000 (Cd.bQ 60000 (many (Cd.bQ 60000) j (g6 s)).2).1).1]:=by unfold Bn;rw [aY,List.map_append];rfl
theorem vI (s:Option (List UInt8)) (j:Nat):Em s (j+1)=Em s j++[(eH (many eH j (g8 s)).2).1]:=by unfold Em;rw [aY]
theorem vO (s:Option (List UInt8)):Bi s 0:=fun b hb=>by cases hb
theorem vN {s:Option (List UInt8)} {j:Nat} (h:Bi s j) (k:(fB 60000 (Cd.bQ 60000 (many (Cd.bQ 60000) j (g6 s)).2).1).2=0):Bi s (j+1):=fun b hb=>by
 rw [aY] at hb
 rcases List.mem_append.1 hb with q | q
 ·exact h b q
 ·rw [List.mem_singleton] at q
  subst q
  exact k
theorem vK {α:Type} (f:Option (List UInt8)→α × Option (List UInt8)) (s:Option (List UInt8)):∀ (n j:Nat),j<n→(f (many f j s).2).1∈(many f n s).1
 | 0,_,h=>absurd h (Nat.not_lt_zero _)
 | n+1,j,h=>by
  rw [aY]
  by_cases q:j=n
  ·subst q;exact List.mem_append.2 (.inr (List.mem_singleton.2 rfl))
  ·exact List.mem_append.2 (.inl (vK f s n j (by omega)))
theorem pU {b:List UInt8} (h:Fr.only b=none):(fP b).2≠0:=by unfold fP;rw [h];decide
theorem iw {b c:List UInt8} (h:Fr.only b=some c) (k:¬ nO (some c)):(fP b).2≠0:=by unfold fP;rw [h];dsimp only;rw [if_neg k];decide
theorem Dn {b c:List UInt8} (h:Fr.only b=some c) (k:nO (some c)):fP b=(kR (bY (some c)),0):=by unfold fP;rw [h];dsimp only;rw [if_pos k]
theorem kI {s:Option (List UInt8)} {j:Nat} (h:j<n1 s) (k:(fB 60000 (Cd.bQ 60000 (many (Cd.bQ 60000) j (g6 s)).2).1).2≠0):¬ nO s:=fun q=>by
 have q1:=q.1
 rw [List.all_eq_true] at q1
 have:=q1 _ (vK (Cd.bQ 60000) (g6 s) (n1 s) j h)
 simp only [decide_eq_true_eq] at this
 exact k this
theorem yL {s:Option (List UInt8)} (h:Bi s (n1 s)) (k:(of (bY s).sb).2=0) (e:g10 s=some []) (c:bA (kR (bY s))=0):nO s:=⟨by
 rw [List.all_eq_true]
 intro b hb
 simp only [decide_eq_true_eq]
 exact h b hb,k,e,c⟩
theorem yV {s:Option (List UInt8)} (h:Bi s (n1 s)) (k:(of (bY s).sb).2=0):(kR (bY s)).ok:=by
 refine⟨(Cd.b_ _ _).1,(Cd.b_ _ _).1,(Cd.b_ _ _).1,(Cd.b_ _ _).1,?_,?_,(uh k).2.1⟩
 ·intro x hx
  obtain⟨b,hb,rfl⟩:=List.mem_map.1 hx
  exact (lZ (h b hb)).2.1
 ·exact jC (P:=fun x:La=>x.ok) (fun s=>⟨(Cd.b_ _ _).1,(Cd.b_ _ _).1⟩) _ _
theorem wT {s:Option (List UInt8)} {j:Nat} (h:Bi s j):∀ x∈Bn s j,x.m.text.length≤200:=fun x hx=>by
 obtain⟨b,hb,rfl⟩:=List.mem_map.1 hx
 have:=df (iY.1 (lZ (h b hb)).2.2).2.2
 omega
theorem qz (s:Option (List UInt8)):St.jO s (g6 s):=(((((St.bN 8 s).trans (St.bN _ _)).trans (St.bN _ _)).trans (St.bN _ _)).trans (St.bN _ _)).trans (St.bN 8 _)
theorem nD:∀ (n:Nat) (s:Option (List UInt8)),St.jO s (many (Cd.bQ 60000) n s).2
 | 0,_=>fun t ht=>⟨t,ht,Nat.le_refl _⟩
 | n+1,s=>(St.nX 60000 s).trans (nD n _)
theorem uC:∀ (n:Nat) (s:Option (List UInt8)),St.jO s (many eH n s).2
 | 0,_=>fun t ht=>⟨t,ht,Nat.le_refl _⟩
 | n+1,s=>((St.bN Cd.full s).trans (St.bN Cd.full _)).trans (uC n _)
theorem yn (s:Option (List UInt8)):St.jO s (g8 s):=((qz s).trans (nD _ _)).trans (St.bN 2000 _)
theorem DV (s:Option (List UInt8)):St.jO s (g9 s):=(yn s).trans (uC _ _)
end T9
theorem Tryz.infoIt15:(prog.info? 57).map (fun i=>(i.zero,i.size,i.bytes))=some (some (.agg #[.int .u64 0,.int .u64 0,.int .i64 0,.int .u64 0,.int .u64 0,.string ⟨#[]⟩,.float .f64 0,.bool false]),8,72):=by kernel_rfl
theorem eF {w:World} {p:Nat} {t:TypeId} {z0 z1 z2 z3 z4 z5 z6 z7 z8:Value} (q:w.heap[p]?=some (.cells #[z0,z1,z2,z3,z4,z5,z6,z7,z8] t (0,0))) (a b c d e f g h i:Value):(((((((((w.setCell ⟨p,0,none⟩ a).setCell ⟨p,1,none⟩ b).setCell ⟨p,2,none⟩ c).setCell ⟨p,3,none⟩ d).setCell ⟨p,4,none⟩ e).setCell ⟨p,5,none⟩ f).setCell ⟨p,6,none⟩ g).setCell ⟨p,7,none⟩ h).setCell ⟨p,8,none⟩ i).heap[p]?=some (.cells #[a,b,c,d,e,f,g,h,i] t (0,0)):=by
 have h0:=q
 have h1:(w.setCell ⟨p,0,none⟩ a).heap[p]?=some (.cells #[a,z1,z2,z3,z4,z5,z6,z7,z8] t (0,0)):=(ae h0 0 a).trans rfl
 have h2:((w.setCell ⟨p,0,none⟩ a).setCell ⟨p,1,none⟩ b).heap[p]?=some (.cells #[a,b,z2,z3,z4,z5,z6,z7,z8] t (0,0)):=(ae h1 1 b).trans rfl
 have h3:(((w.setCell ⟨p,0,none⟩ a).setCell ⟨p,1,none⟩ b).setCell ⟨p,2,none⟩ c).heap[p]?=some (.cells #[a,b,c,z3,z4,z5,z6,z7,z8] t (0,0)):=(ae h2 2 c).trans rfl
 have h4:((((w.setCell ⟨p,0,none⟩ a).setCell ⟨p,1,none⟩ b).setCell ⟨p,2,none⟩ c).setCell ⟨p,3,none⟩ d).heap[p]?=some (.cells #[a,b,c,d,z4,z5,z6,z7,z8] t (0,0)):=(ae h3 3 d).trans rfl
 have h5:(((((w.setCell ⟨p,0,none⟩ a).setCell ⟨p,1,none⟩ b).setCell ⟨p,2,none⟩ c).setCell ⟨p,3,none⟩ d).setCell ⟨p,4,none⟩ e).heap[p]?=some (.cells #[a,b,c,d,e,z5,z6,z7,z8] t (0,0)):=(ae h4 4 e).trans rfl
 have h6:((((((w.setCell ⟨p,0,none⟩ a).setCell ⟨p,1,none⟩ b).setCell ⟨p,2,none⟩ c).setCell ⟨p,3,none⟩ d).setCell ⟨p,4,none⟩ e).setCell ⟨p,5,none⟩ f).heap[p]?=some (.cells #[a,b,c,d,e,f,z6,z7,z8] t (0,0)):=(ae h5 5 f).trans rfl
 have h7:(((((((w.setCell ⟨p,0,none⟩ a).setCell ⟨p,1,none⟩ b).setCell ⟨p,2,none⟩ c).setCell ⟨p,3,none⟩ d).setCell ⟨p,4,none⟩ e).setCell ⟨p,5,none⟩ f).setCell ⟨p,6,none⟩ g).heap[p]?=some (.cells #[a,b,c,d,e,f,g,z7,z8] t (0,0)):=(ae h6 6 g).trans rfl
 have h8:((((((((w.setCell ⟨p,0,none⟩ a).setCell ⟨p,1,none⟩ b).setCell ⟨p,2,none⟩ c).setCell ⟨p,3,none⟩ d).setCell ⟨p,4,none⟩ e).setCell ⟨p,5,none⟩ f).setCell ⟨p,6,none⟩ g).setCell ⟨p,7,none⟩ h).heap[p]?=some (.cells #[a,b,c,d,e,f,g,h,z8] t (0,0)):=(ae h7 7 h).trans rfl
 have h9:(((((((((w.setCell ⟨p,0,none⟩ a).setCell ⟨p,1,none⟩ b).setCell ⟨p,2,none⟩ c).setCell ⟨p,3,none⟩ d).setCell ⟨p,4,none⟩ e).setCell ⟨p,5,none⟩ f).setCell ⟨p,6,none⟩ g).setCell ⟨p,7,none⟩ h).setCell ⟨p,8,none⟩ i).heap[p]?=some (.cells #[a,b,c,d,e,f,g,h,i] t (0,0)):=(ae h8 8 i).trans rfl
 exact h9
theorem eP {w:World} {p B:Nat} {t:TypeId} (y:Ty w p t) (hB:B≤p) (a b c d e f g h i:Value):aG B [t] w (((((((((w.setCell ⟨p,0,none⟩ a).setCell ⟨p,1,none⟩ b).setCell ⟨p,2,none⟩ c).setCell ⟨p,3,none⟩ d).setCell ⟨p,4,none⟩ e).setCell ⟨p,5,none⟩ f).setCell ⟨p,6,none⟩ g).setCell ⟨p,7,none⟩ h).setCell ⟨p,8,none⟩ i):=by
 have h0:=aG.refl B [t] w
 have y0:=y
 have h1:=h0.bB (p:=⟨p,0,none⟩) y0 (by simp) hB a
 have y1:=y0.set ⟨p,0,none⟩ a
 have h2:=h1.bB (p:=⟨p,1,none⟩) y1 (by simp) hB b
 have y2:=y1.set ⟨p,1,none⟩ b
 have h3:=h2.bB (p:=⟨p,2,none⟩) y2 (by simp) hB c
 have y3:=y2.set ⟨p,2,none⟩ c
 have h4:=h3.bB (p:=⟨p,3,none⟩) y3 (by simp) hB d
 have y4:=y3.set ⟨p,3,none⟩ d
 have h5:=h4.bB (p:=⟨p,4,none⟩) y4 (by simp) hB e
 have y5:=y4.set ⟨p,4,none⟩ e
 have h6:=h5.bB (p:=⟨p,5,none⟩) y5 (by simp) hB f
 have y6:=y5.set ⟨p,5,none⟩ f
 have h7:=h6.bB (p:=⟨p,6,none⟩) y6 (by simp) hB g
 have y7:=y6.set ⟨p,6,none⟩ g
 have h8:=h7.bB (p:=⟨p,7,none⟩) y7 (by simp) hB h
 have y8:=y7.set ⟨p,7,none⟩ h
 have h9:=h8.bB (p:=⟨p,8,none⟩) y8 (by simp) hB i
 exact h9
structure aN (rt:TypeId) (B p gb rb:Nat) (i0 i1 i2 i3 i4:Nat) (xs:List It) (A:Option Addr) (c:Nat) (las:List La) (A1:Option Addr) (c1:Nat) (s:Option (List UInt8)) (wz w:World):Prop where
 r:RS rt B 5 w p s
 i:w.ownsRow B 57 8 (.slice A xs.length c) xs.length (fA xs)
 a:w.ownsRow B 61 2 (.slice A1 las.length c1) las.length (gy las)
 b:w.heap[gb]?=some (.cells #[.int .i64 (i0:Int),.int .u64 (i1:Int),.int .u64 (i2:Int),.int .u64 (i3:Int),.int .u64 (i4:Int),.slice A xs.length c,.slice A1 las.length c1,.slice none 0 0,.slice none 0 0] 30 (0,0))
 z:w.heap[rb]?=some (.cells #[.int .i64 0,.int .u64 0,.int .u64 0,.int .u64 0,.int .u64 0,.slice none 0 0,.slice none 0 0,.slice none 0 0,.slice none 0 0] 30 (0,0))
 d:Below wz.heap.size wz w
 o:wz.heap.size=rb∧rb+1≤B∧B≤gb
section
variable {rt : TypeId} {B p gb rb i0 i1 i2 i3 i4 c c1 : Nat} {xs : List It} {A A1 : Option Addr} {las : List La} {s s' : Option (List UInt8)} {wz w w' : World}
theorem aN.size (h:aN rt B p gb rb i0 i1 i2 i3 i4 xs A c las A1 c1 s wz w):B≤w.heap.size:=h.r.size
theorem aN.lt (h:aN rt B p gb rb i0 i1 i2 i3 i4 xs A c las A1 c1 s wz w):gb<w.heap.size:=lt_of_block h.b
theorem aN.cZ (h:aN rt B p gb rb i0 i1 i2 i3 i4 xs A c las A1 c1 s wz w) {ts:List TypeId} (hT:aG B ts w w') (hr:RS rt B 5 w' p s') (h1:57 ∉ ts) (h2:61 ∉ ts) (h3:30 ∉ ts):aN rt B p gb rb i0 i1 i2 i3 i4 xs A c las A1 c1 s' wz w' :=
 ⟨hr,bu h.i hT h1,bu h.a hT h2,hT.blk h.b h3,hT.blk h.z h3,h.d.trans (hT.below.mono (by have:=h.o;omega)),h.o⟩
theorem aN.below (h:aN rt B p gb rb i0 i1 i2 i3 i4 xs A c las A1 c1 s wz w) (hb:Below w.heap.size w w'):aN rt B p gb rb i0 i1 i2 i3 i4 xs A c las A1 c1 s wz w' :=
 h.cZ (aG.of_below hb h.size []) (h.r.below hb) (by simp) (by simp) (by simp)
theorem aN.cells (h:aN rt B p gb rb i0 i1 i2 i3 i4 xs A c las A1 c1 s wz w):w.cell? ⟨gb,0,none⟩=some (.int .i64 (i0:Int))∧w.cell? ⟨gb,1,none⟩=some (.int .u64 (i1:Int))∧w.cell? ⟨gb,2,none⟩=some (.int .u64 (i2:Int))∧w.cell? ⟨gb,3,none⟩=some (.int .u64 (i3:Int))∧w.cell? ⟨gb,4,none⟩=some (.int .u64 (i4:Int))∧w.cell? ⟨gb,5,none⟩=some (.slice A xs.length c)∧w.cell? ⟨gb,6,none⟩=some (.slice A1 las.length c1)∧w.cell? ⟨gb,7,none⟩=some (.slice none 0 0)∧w.cell? ⟨gb,8,none⟩=some (.slice none 0 0):=ag h.b
theorem aN.free (h:aN rt B p gb rb i0 i1 i2 i3 i4 xs A c las A1 c1 s wz w) (j:Nat):w.frozen? ⟨gb,j,none⟩=false:=aa h.b j
theorem aN.set (h:aN rt B p gb rb i0 i1 i2 i3 i4 xs A c las A1 c1 s wz w) (hm:rt≠30) (k:Nat) (v:Value):RS rt B 5 (w.setCell ⟨gb,k,none⟩ v) p s∧(w.setCell ⟨gb,k,none⟩ v).ownsRow B 57 8 (.slice A xs.length c) xs.length (fA xs)∧(w.setCell ⟨gb,k,none⟩ v).ownsRow B 61 2 (.slice A1 las.length c1) las.length (gy las)∧(w.setCell ⟨gb,k,none⟩ v).heap[rb]?=some (.cells #[.int .i64 0,.int .u64 0,.int .u64 0,.int .u64 0,.int .u64 0,.slice none 0 0,.slice none 0 0,.slice none 0 0,.slice none 0 0] 30 (0,0))∧Below wz.heap.size wz (w.setCell ⟨gb,k,none⟩ v) :=
 ⟨h.r.cZ ((aG.refl B [30] w).bB (p:=⟨gb,k,none⟩) ⟨_,_,h.b⟩ (by simp) h.o.2.2 v) (by simpa using hm) (by decide),dY h.i (p:=⟨gb,k,none⟩) h.b (by decide) v,dY h.a (p:=⟨gb,k,none⟩) h.b (by decide) v,aI h.z (p:=⟨gb,k,none⟩) (by have:=h.o;show rb≠gb;omega) v,h.d.setCell (by have:=h.o;show wz.heap.size≤gb;omega) v⟩
theorem aN.line (h:aN rt B p gb rb i0 i1 i2 i3 i4 xs A c las A1 c1 s wz w) (hm:rt≠30) (v:Nat):aN rt B p gb rb i0 v i2 i3 i4 xs A c las A1 c1 s wz (w.setCell ⟨gb,1,none⟩ (.int .u64 (v:Int))):=by
 obtain⟨q1,q2,q3,q4,q5⟩:=h.set hm 1 (.int .u64 (v:Int))
 exact⟨q1,q2,q3,(ae h.b 1 _).trans rfl,q4,q5,h.o⟩
theorem aN.aK (h:aN rt B p gb rb i0 i1 i2 i3 i4 xs A c las A1 c1 s wz w) (hm:rt≠30) (v:Nat):aN rt B p gb rb i0 i1 v i3 i4 xs A c las A1 c1 s wz (w.setCell ⟨gb,2,none⟩ (.int .u64 (v:Int))):=by
 obtain⟨q1,q2,q3,q4,q5⟩:=h.set hm 2 (.int .u64 (v:Int))
 exact⟨q1,q2,q3,(ae h.b 2 _).trans rfl,q4,q5,h.o⟩
theorem aN.bE (h:aN rt B p gb rb i0 i1 i2 i3 i4 xs A c las A1 c1 s wz w) (hm:rt≠30) (v:Nat):aN rt B p gb rb i0 i1 i2 v i4 xs A c las A1 c1 s wz (w.setCell ⟨gb,3,none⟩ (.int .u64 (v:Int))):=by
 obtain⟨q1,q2,q3,q4,q5⟩:=h.set hm 3 (.int .u64 (v:Int))
 exact⟨q1,q2,q3,(ae h.b 3 _).trans rfl,q4,q5,h.o⟩
theorem aN.bI (h:aN rt B p gb rb i0 i1 i2 i3 i4 xs A c las A1 c1 s wz w) (hm:rt≠30) (v:Nat):aN rt B p gb rb i0 i1 i2 i3 v xs A c las A1 c1 s wz (w.setCell ⟨gb,4,none⟩ (.int .u64 (v:Int))):=by
 obtain⟨q1,q2,q3,q4,q5⟩:=h.set hm 4 (.int .u64 (v:Int))
 exact⟨q1,q2,q3,(ae h.b 4 _).trans rfl,q4,q5,h.o⟩
theorem aN.tH (h:aN rt B p gb rb i0 i1 i2 i3 i4 xs A c las A1 c1 s wz w) (hm:rt≠57) (hg:w.grownBy w' (Value.slice A xs.length c).ownBlock):RS rt B 5 w' p s∧w'.ownsRow B 61 2 (.slice A1 las.length c1) las.length (gy las)∧w'.heap[gb]?=some (.cells #[.int .i64 (i0:Int),.int .u64 (i1:Int),.int .u64 (i2:Int),.int .u64 (i3:Int),.int .u64 (i4:Int),.slice A xs.length c,.slice A1 las.length c1,.slice none 0 0,.slice none 0 0] 30 (0,0))∧w'.heap[rb]?=some (.cells #[.int .i64 0,.int .u64 0,.int .u64 0,.int .u64 0,.int .u64 0,.slice none 0 0,.slice none 0 0,.slice none 0 0,.slice none 0 0] 30 (0,0))∧Below wz.heap.size wz w':=by
 have T:=dB (B:=B) (ts:=[57]) h.i hg (Nat.le_refl _) h.size (by simp)
 exact⟨h.r.cZ T (by simpa using hm) (by decide),bu h.a T (by decide),T.blk h.b (by decide),T.blk h.z (by decide),h.d.trans (T.below.mono (by have:=h.o;omega))⟩
theorem aN.tF (h:aN rt B p gb rb i0 i1 i2 i3 i4 xs A c las A1 c1 s wz w) (hm:rt≠61) (hg:w.grownBy w' (Value.slice A1 las.length c1).ownBlock):RS rt B 5 w' p s∧w'.ownsRow B 57 8 (.slice A xs.length c) xs.length (fA xs)∧w'.heap[gb]?=some (.cells #[.int .i64 (i0:Int),.int .u64 (i1:Int),.int .u64 (i2:Int),.int .u64 (i3:Int),.int .u64 (i4:Int),.slice A xs.length c,.slice A1 las.length c1,.slice none 0 0,.slice none 0 0] 30 (0,0))∧w'.heap[rb]?=some (.cells #[.int .i64 0,.int .u64 0,.int .u64 0,.int .u64 0,.int .u64 0,.slice none 0 0,.slice none 0 0,.slice none 0 0,.slice none 0 0] 30 (0,0))∧Below wz.heap.size wz w':=by
 have T:=dB (B:=B) (ts:=[61]) h.a hg (Nat.le_refl _) h.size (by simp)
 exact⟨h.r.cZ T (by simpa using hm) (by decide),bu h.i T (by decide),T.blk h.b (by decide),T.blk h.z (by decide),h.d.trans (T.below.mono (by have:=h.o;omega))⟩
theorem aN.item (h:aN rt B p gb rb i0 i1 i2 i3 i4 xs A c las A1 c1 s wz w) (hm:rt≠57) (hm2:rt≠30) (hg:w.grownBy w' (Value.slice A xs.length c).ownBlock) {A6:Option Addr} {k6:Nat} {x:It} (ho:w'.ownsRow B 57 8 (.slice A6 (xs.length+1) k6) (xs.length+1) (fA xs++encI x)):aN rt B p gb rb i0 i1 i2 i3 i4 (xs++[x]) A6 k6 las A1 c1 s wz (w'.setCell ⟨gb,5,none⟩ (.slice A6 (xs.length+1) k6)):=by
 obtain⟨q1,q2,q3,q4,q5⟩:=h.tH hm hg
 have e:(xs++[x]).length=xs.length+1:=by simp
 have o:=h.o
 exact⟨q1.cZ ((aG.refl B [30] w').bB (p:=⟨gb,5,none⟩) ⟨_,_,q3⟩ (by simp) o.2.2 _) (by simpa using hm2) (by decide),by rw [e,tQ];exact dY ho (p:=⟨gb,5,none⟩) q3 (by decide) _,dY q2 (p:=⟨gb,5,none⟩) q3 (by decide) _,by rw [e];exact (ae q3 5 _).trans rfl,aI q4 (p:=⟨gb,5,none⟩) (by show rb≠gb;omega) _,q5.setCell (by show wz.heap.size≤gb;omega) _,o⟩
theorem aN.last (h:aN rt B p gb rb i0 i1 i2 i3 i4 xs A c las A1 c1 s wz w) (hm:rt≠61) (hm2:rt≠30) (hg:w.grownBy w' (Value.slice A1 las.length c1).ownBlock) {A6:Option Addr} {k6:Nat} {x:La} (ho:w'.ownsRow B 61 2 (.slice A6 (las.length+1) k6) (las.length+1) (gy las++ky x)):aN rt B p gb rb i0 i1 i2 i3 i4 xs A c (las++[x]) A6 k6 s wz (w'.setCell ⟨gb,6,none⟩ (.slice A6 (las.length+1) k6)):=by
 obtain⟨q1,q2,q3,q4,q5⟩:=h.tF hm hg
 have e:(las++[x]).length=las.length+1:=by simp
 have o:=h.o
 exact⟨q1.cZ ((aG.refl B [30] w').bB (p:=⟨gb,6,none⟩) ⟨_,_,q3⟩ (by simp) o.2.2 _) (by simpa using hm2) (by decide),dY q2 (p:=⟨gb,6,none⟩) q3 (by decide) _,by rw [e,uO];exact dY ho (p:=⟨gb,6,none⟩) q3 (by decide) _,by rw [e];exact (ae q3 6 _).trans rfl,aI q4 (p:=⟨gb,6,none⟩) (by show rb≠gb;omega) _,q5.setCell (by show wz.heap.size≤gb;omega) _,o⟩
theorem aN.state (h:aN rt B p gb rb i0 i1 i2 i3 i4 xs A c las A1 c1 s wz w) {q:ji} (hq:AZ q w):wV ⟨(i0:Int),i1,i2,i3,i4,xs,A,c,las,A1,c1,q⟩ ((w.setCell ⟨gb,7,none⟩ (.slice q.A q.ls.length q.c)).setCell ⟨gb,8,none⟩ (.slice q.A2 q.ms.length q.c2))∧sK ⟨(i0:Int),i1,i2,i3,i4,xs,A,c,las,A1,c1,q⟩ gb ((w.setCell ⟨gb,7,none⟩ (.slice q.A q.ls.length q.c)).setCell ⟨gb,8,none⟩ (.slice q.A2 q.ms.length q.c2))∧((w.setCell ⟨gb,7,none⟩ (.slice q.A q.ls.length q.c)).setCell ⟨gb,8,none⟩ (.slice q.A2 q.ms.length q.c2)).heap[rb]?=some (.cells #[.int .i64 0,.int .u64 0,.int .u64 0,.int .u64 0,.int .u64 0,.slice none 0 0,.slice none 0 0,.slice none 0 0,.slice none 0 0] 30 (0,0))∧Below wz.heap.size wz ((w.setCell ⟨gb,7,none⟩ (.slice q.A q.ls.length q.c)).setCell ⟨gb,8,none⟩ (.slice q.A2 q.ms.length q.c2))∧(rt≠30→RS rt B 5 ((w.setCell ⟨gb,7,none⟩ (.slice q.A q.ls.length q.c)).setCell ⟨gb,8,none⟩ (.slice q.A2 q.ms.length q.c2)) p s):=by
 have yy:Ty w gb 30:=⟨_,_,h.b⟩
 have T:aG B [30] w ((w.setCell ⟨gb,7,none⟩ (.slice q.A q.ls.length q.c)).setCell ⟨gb,8,none⟩ (.slice q.A2 q.ms.length q.c2)):=((aG.refl B _ w).bB (p:=⟨gb,7,none⟩) yy (by simp) h.o.2.2 _).bB (p:=⟨gb,8,none⟩) (yy.set _ _) (by simp) h.o.2.2 _
 have ne:rb≠gb:=by have:=h.o;omega
 refine⟨⟨gP (aD (B:=0) h.i) T (by decide),gP (aD (B:=0) h.a) T (by decide),hq.cZ T (by decide) (by decide) (by decide),(aA h.i).2,(aA h.a).2⟩,(ae (ae h.b 7 _) 8 _).trans rfl,aI (aI h.z (p:=⟨gb,7,none⟩) ne _) (p:=⟨gb,8,none⟩) ne _,h.d.trans (T.below.mono (by have:=h.o;omega)),fun hm=>h.r.cZ T (by simpa using hm) (by decide)⟩
end
theorem oV (x:It) (w:World):(Instr.buildSlice 23 1 #[(0,.agg #[.int .u64 (x.who:Int),.int .u64 (x.id:Int),.int .i64 x.m.kind,.int .u64 (x.m.id:Int),.int .u64 (x.m.list:Int),.string (str x.m.text),.float .f64 x.m.f,.bool x.m.flag])]).run prog w=.ok (.slice (some ⟨w.heap.size,0,none⟩) 1 1) (w.alloc (.cells (encI x).toArray 57)):=by
 obtain⟨i0,hi,hz0,hz1,hz2⟩:=info_parts Tryz.infoIt15
 exact dQ w 23 57 (encI x).toArray i0 _ underlying23 hi hz0 hz1 (by show 0<8;omega) (by show 8≤_;omega)
@[go_sem] theorem buildMsg15 (n : Int) (w : World) : (Instr.build 30 #[(0, .int .i64 n)]).run prog w = .ok (.agg #[.int .i64 n, .int .u64 0, .int .u64 0, .int .u64 0, .int .u64 0, .slice none 0 0, .slice none 0 0, .slice none 0 0, .slice none 0 0]) w := run_build w 30 _ _ (by kernel_rfl)
@[go_sem] theorem buildMsg15z (w : World) : (Instr.build 30 #[]).run prog w = .ok (.agg #[.int .i64 0, .int .u64 0, .int .u64 0, .int .u64 0, .int .u64 0, .slice none 0 0, .slice none 0 0, .slice none 0 0, .slice none 0 0]) w := run_build w 30 _ _ (by kernel_rfl)
end
end
end Go.Proofs.YtmcfknnfaokmlaaGreat
