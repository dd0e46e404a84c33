import Derived.Test.YtcedlgedmkghgaaGreatZ47
import Derived.Test.YtcedlgedmkghgaaGreatZ25
import Derived.Test.YtcedlgedmkghgaaGreatZ17
import Derived.Test.YtcedlgedmkghgaaGreatZ3
import Derived.RangeFuncNested
import Derived.RangeFuncBound
import Derived.RangeFuncCalls
import Derived.RangeFuncLeaves
import Derived.RangeFuncBox
import Derived.Shelf.Abstract
import Derived.OwnWalkIn
import Derived.TacticsInMore
import Derived.LoopNIn
import Derived.LoopIn
import Derived.OrdersHeld
import Derived.OrdersIn
import Derived.Deep.RegionHeld
import Derived.WalkMore
namespace Go.Proofs.YtcedlgedmkghgaaGreat
set_option maxHeartbeats 16000000
open Go.Lib Go.Proofs.Tryz
set_option linter.unusedSimpArgs false
set_option maxRecDepth 100000
section
set_option linter.unusedSimpArgs false
section
open Go.RowKit Go.Lib Go.Shelf
theorem Gq (l:List Int):∀ v∈l.map encZ,v.oneCell'=true:=fun v hv=>by
 obtain⟨x,_,rfl⟩:=List.mem_map.1 hv
 rfl
theorem qj {A:Option Addr} {l:List Int} {w:World} (h:au w w.heap.size 0 A (l.map encZ)) {k:Nat} (hk:k<l.length):∃ ad z,A=some ad∧l[k]?=some z∧w.cell? (ad.add k)=some (.int .i64 z):=by
 obtain⟨ad,e,hc⟩:=au.at_ h (k:=k) (by simpa using hk)
 refine⟨ad,l[k],e,List.getElem?_eq_getElem hk,?_⟩
 rw [hc]
 simp [encZ]
theorem xy {A A2:Option Addr} {n c c2:Nat} {l:List Int} {w:World} (h:au w w.heap.size 0 A (l.map encZ)) (h2:au w w.heap.size 0 A2 (l.map encZ)) (hn:n=l.length) (hs:n≤1000000) :
  Calls prog 11 #[.slice A n c,.slice A2 n c2] w fun e w'=>e=.returned (.bool true)∧∃ j,w'=w.drewN j:=by
 have H:=hid h
 have H2:=hid h2
 have HN:=hid hn
 clear h h2 hn
 have nn:((n:Int) != (n:Int))=false:=by simp
 go_enter func11,ntmps11
 go_wp2_with fail
 go_loopw [13] (fun i wr=>∃ k j:Nat,k≤n∧i=.int .i64 k∧wr=w.drewN j) (fun i _=>n - (intOf i).toNat)
 case atStart=>exact⟨0,0,Nat.zero_le _,rfl,rfl⟩
 case round =>
  obtain⟨k,j,hk,rfl,rfl⟩:=hrel
  by_cases hlt:k<n
  ·obtain⟨ad,z,rfl,hm,hc⟩:=qj H.out (k:=k) (by rw [← HN.out];exact hlt)
   obtain⟨ad2,z2,rfl,hm2,hc2⟩:=qj H2.out (k:=k) (by rw [← HN.out];exact hlt)
   obtain rfl:z=z2:=by rw [hm] at hm2;injection hm2
   have zz:(z != z)=false:=by simp
   have k0:0≤(k:Int):=by omega
   have k1:(k:Int)<(n:Int):=by omega
   clear hm hm2
   go_wp2_with fail
   go_region
   go_wp2
   go_roundw
   case rel=>exact⟨k+1,j+1,by omega,by go_num,rfl⟩
   case measure=>simp [intOf];omega
  ·obtain rfl:k=n:=by omega
   go_wp2
   go_ret
   exact⟨rfl,j,rfl⟩
end
end
section
open Go.Shelf Go.RowKit Go.Lib Go.Sort
theorem oq {P:Program} (w:World) (t e:TypeId) (cs ds:Array Value) (ie:TypeInfo) (z:Value) (hu:P.underlying t=some (.slice e)) (hie:P.info? e=some ie) (hz:ie.zero=some z) (hs:ie.size=cs.size) (hd:ie.size=ds.size) (h0:0<cs.size) (hm:cs.size≤1000) :
  (Instr.buildSlice t 2 #[(0,.agg cs),(1,.agg ds)]).run P w=.ok (.slice (some ⟨w.heap.size,0,none⟩) 2 2) (w.alloc (.cells (cs++ds) e)):=by
 refine run_buildSlice w t e 2 _ (cs++ds) ie z hu hie hz (by rw [hs];show ¬ 2 * cs.size > 16777216;omega) (by rw [hs];omega) ?_
 have q:=Great.fill_whole (s:=ie.size) (by rw [hs];exact h0) [Value.agg cs,Value.agg ds] ((Array.range (2 * ie.size)).map (z.cells[· % z.cells.size]!)) (fun v hv=>by
  rcases List.mem_cons.1 hv with rfl | hv
  ·exact hs.symm
  ·rw [List.mem_singleton] at hv;subst hv;exact hd.symm) (by simp)
 refine Eq.trans ?_ (congrArg some (show (cs.toList++ds.toList).toArray=cs++ds by apply Array.ext';simp))
 simpa [Value.cells] using q
@[go_sem] theorem buildL10 (w : World) : (Instr.build 71 #[(0, .int .u64 1), (1, .string ⟨#[108]⟩)]).run prog w = .ok (.agg #[.int .u64 1, .string ⟨#[108]⟩]) w := run_build w 71 _ _ (by kernel_rfl)
@[go_sem] theorem buildKa10 (w : World) : (Instr.build 74 #[(0, .int .u64 1), (1, .int .u64 1), (2, .string ⟨#[97]⟩), (4, .float .f64 4607182418800017408)]).run prog w = .ok (.agg #[.int .u64 1, .int .u64 1, .string ⟨#[97]⟩, .bool false, .float .f64 4607182418800017408, .float .f64 0, .slice none 0 0]) w := run_build w 74 _ _ (by kernel_rfl)
@[go_sem] theorem buildKb10 (w : World) : (Instr.build 74 #[(0, .int .u64 2), (1, .int .u64 1), (2, .string ⟨#[98]⟩), (4, .float .f64 4611686018427387904)]).run prog w = .ok (.agg #[.int .u64 2, .int .u64 1, .string ⟨#[98]⟩, .bool false, .float .f64 4611686018427387904, .float .f64 0, .slice none 0 0]) w := run_build w 74 _ _ (by kernel_rfl)
@[go_sem] theorem buildS10 (A A2 : Option Addr) (n c n2 c2 : Nat) (w : World) : (Instr.build 25 #[(0, .slice A n c), (1, .slice A2 n2 c2)]).run prog w = .ok (.agg #[.slice A n c, .slice A2 n2 c2]) w := run_build w 25 _ _ (by kernel_rfl)
end
section
set_option linter.unusedSimpArgs false
section
open Go.RowKit Go.Lib Go.Shelf
theorem g_ {B:Nat} {a w:World} (h:Below B a w) (j:Nat):Below B a (w.drewN j):=⟨h.os,h.tape,h.output,h.size,h.block⟩
theorem vk {xs:List It} (ko:∀ x∈xs,x.ok):∀ m∈dx xs,m.ok:=fun m hm=>by
 obtain⟨x,hx,rfl⟩:=List.mem_map.1 hm
 exact ko x hx
structure lJ (s:aW):Prop where
 sh:s.st.short
 cs:(T9.canon s.st).short
 n1:s.ls.length≤1000
 n2:s.ms.length≤1000
 n3:∀ t∈s.ms,t.t.tags.length<20
 ok:s.st.ok
theorem lJ.qM {s:aW} (h:s.st.qM) (ho:s.st.ok):lJ s :=
 ⟨h.short,(T9.xV h).short,Nat.le_trans h.nl (by decide),by rw [← aI];exact Nat.le_trans h.nt (by decide),fun t ht=>Nat.lt_of_le_of_lt (h.few t.t (List.mem_map.2 ⟨t,ht,rfl⟩)) (by decide),ho⟩
theorem lJ.sound {s:aW} (h:T9.fV s.st):lJ s:=by
 have d:=yg h.1 h.2
 exact⟨h.short,by rw [h.canon];exact h.short,d.n1,by rw [← aI];exact d.n2,fun t ht=>Nat.lt_of_le_of_lt ((T9.b_ ((T9.iK (T9.aD h.1).2.2.2).1 t.t (List.mem_map.2 ⟨t,ht,rfl⟩)).2.1).2.2.2.2.1) (by decide),h.2⟩
def AllF:Prop:=∀ (s:aW) (A:Option Addr) (n c:Nat) (xs:List It) (w:World),SM s w→lJ s→IL w A xs→n=xs.length→n≤1000000→(∀ x∈xs,x.m.ok∧x.m.text.length≤200) →
 Calls prog 27 #[s.val,.slice A n c] w (uK 50 (T9.dO s.st) (dx xs) w)
theorem vw {s:aW} {A:Option Addr} {n c:Nat} {xs:List It} {w:World} (hs:SM s w) (hf:lJ s) (h:IL w A xs) (hn:n=xs.length) (hx:n≤1000000) (km:∀ x∈xs,x.m.ok∧x.m.text.length≤200) :
  Calls prog 10 #[s.val,.slice A n c] w (uK 3 (T9.dO s.st) (dx xs) w):=IG hs hf.cs hf.n1 hf.n2 (fun t ht=>Nat.le_trans (Nat.le_of_lt (hf.n3 t ht)) (by decide)) hf.ok h hn hx km
def zT:It:=⟨0,0,⟨1,1,0,[108],0,false⟩⟩
def m14:aW:=⟨[],none,0,[],none,0⟩
theorem aw14:T9.cK (T9.dO ⟨[],[]⟩) [zT.m,zT.m]=⟨[⟨1,[108]⟩],[]⟩∧T9.dJ (T9.dO ⟨[],[]⟩) [zT.m,zT.m]=[0,92]:=by decide +kernel
theorem fit14_m:lJ m14:=⟨⟨by simp [m14,aW.st],by simp [m14,aW.st,ay],by decide,by decide⟩,by
 rw [show T9.canon m14.st=⟨[],[]⟩ from by decide +kernel]
 exact⟨by simp,by simp,by decide,by decide⟩,by decide,by decide,by simp [m14],⟨by simp [m14,aW.st],by simp [m14,aW.st,ay]⟩⟩
theorem bdM14 (w:World):(Instr.build 65 #[(0,.int .i64 1),(1,.int .u64 1),(3,.string ⟨#[108]⟩)]).run prog w=.ok (.agg #[.int .i64 1,.int .u64 1,.int .u64 0,.string ⟨#[108]⟩,.float .f64 0,.bool false]) w:=run_build w 65 _ _ (by kernel_rfl)
theorem bdI14 (w:World):(Instr.build 67 #[(2,.agg #[.int .i64 1,.int .u64 1,.int .u64 0,.string ⟨#[108]⟩,.float .f64 0,.bool false])]).run prog w=.ok (.agg #[.int .u64 0,.int .u64 0,.int .i64 1,.int .u64 1,.int .u64 0,.string ⟨#[108]⟩,.float .f64 0,.bool false]) w:=run_build w 67 _ _ (by kernel_rfl)
theorem Tryz.infoI14:(prog.info? 67).map (fun i=>(i.zero,i.size,i.bytes))=some (some (.agg #[.int .u64 0,.int .u64 0,.int .i64 0,.int .u64 0,.int .u64 0,.string ⟨#[]⟩,.float .f64 0,.bool false]),8,72):=by kernel_rfl
theorem bdL14 (w:World):(Instr.buildSlice 26 2 #[(0,.agg #[.int .u64 0,.int .u64 0,.int .i64 1,.int .u64 1,.int .u64 0,.string ⟨#[108]⟩,.float .f64 0,.bool false]),(1,.agg #[.int .u64 0,.int .u64 0,.int .i64 1,.int .u64 1,.int .u64 0,.string ⟨#[108]⟩,.float .f64 0,.bool false])]).run prog w=.ok (.slice (some ⟨w.heap.size,0,none⟩) 2 2) (w.alloc (.cells #[.int .u64 0,.int .u64 0,.int .i64 1,.int .u64 1,.int .u64 0,.string ⟨#[108]⟩,.float .f64 0,.bool false,.int .u64 0,.int .u64 0,.int .i64 1,.int .u64 1,.int .u64 0,.string ⟨#[108]⟩,.float .f64 0,.bool false] 67)):=by
 obtain⟨i0,hi,hz0,hz1,hz2⟩:=info_parts Tryz.infoI14
 exact oq w 26 67 (encI zT).toArray (encI zT).toArray i0 _ underlying26 hi hz0 hz1 hz1 (by show 0<8;omega) (by show 8≤_;omega)
theorem Dp (CF:AllF) (w:World):Calls prog 6 #[] w fun e w'=>e=.returned (.bool true)∧Below w.heap.size w w':=by
 have hb0:=jQ
 have hb1:=bdM14
 have hb2:=bdI14
 have hb3:=bdL14
 go_enter func6,ntmps6
 go_upto_region 2 with fail
 obtain⟨w0,hw0⟩:∃ u,w.alloc (.cells #[.int .u64 0,.int .u64 0,.int .i64 1,.int .u64 1,.int .u64 0,.string ⟨#[108]⟩,.float .f64 0,.bool false] 67)=u:=⟨_,rfl⟩
 try rw [hw0]
 obtain⟨lb,b0,z0⟩:=mV hw0
 obtain⟨l0,l1,l2,l3,l4,l5,l6,l7⟩:=kr lb
 obtain⟨w1,hw1⟩:∃ u,w0.alloc (.cells #[.int .u64 0,.int .u64 0,.int .i64 1,.int .u64 1,.int .u64 0,.string ⟨#[108]⟩,.float .f64 0,.bool false,.int .u64 0,.int .u64 0,.int .i64 1,.int .u64 1,.int .u64 0,.string ⟨#[108]⟩,.float .f64 0,.bool false] 67)=u:=⟨_,rfl⟩
 have tb:w1.heap[w0.heap.size]?=some (.cells (eH [zT,zT]).toArray 67 (0,0)):=by rw [← hw1];exact heap_alloc_new w0 _
 have b1:Below w0.heap.size w0 w1:=by rw [← hw1];exact (Below.refl _ w0).alloc (Nat.le_refl _) _
 have B1:Hid (Below w.heap.size w w1):=hid (b0.trans (b1.mono b0.size))
 have il:IL w1 (some ⟨w0.heap.size,0,none⟩) [zT,zT]:=au.old (au.gY (B:=0) tb)
 have CA:=hid (CF m14 (some ⟨w0.heap.size,0,none⟩) 2 2 [zT,zT] w1 ⟨LL.nil,KL.nil,Nat.le_refl _,Nat.le_refl _⟩ fit14_m il rfl (by decide) (by intro x hx;rw [List.mem_cons,List.mem_singleton,or_self] at hx;subst hx;exact⟨⟨by decide,by decide,by decide⟩,by decide⟩))
 rw [z0] at CA
 unfold uK aW.val m14 at CA
 dsimp only [List.length_nil] at CA
 rw [show dx [zT,zT]=[zT.m,zT.m] from rfl,show T9.dO (aW.st ⟨[],none,0,[],none,0⟩)=T9.dO ⟨[],[]⟩ from rfl,aw14.1,aw14.2] at CA
 clear lb b0 b1 tb il
 go_wp2_with fail
 refine CA.out.mono ?_
 rintro e wa ⟨q,A,c,rfl,hq,mO,how,ha⟩
 have e1:q.ls=[⟨1,[108]⟩]:=congrArg T9.St.lists mO
 have e2:q.ls.length=1:=by rw [e1];rfl
 rw [e2]
 obtain⟨w2,hw2⟩:∃ u,wa.alloc (.cells #[.slice q.A 1 q.c,.slice q.A2 q.ms.length q.c2] 25)=u:=⟨_,rfl⟩
 obtain⟨pb,b2,_⟩:=ak hw2
 obtain⟨p0,p1⟩:=aa pb
 have B2:Hid (Below w.heap.size w w2):=hid (B1.out.trans ((ha.trans (b2.mono ha.size)).mono B1.out.size))
 have how2:=own_below how b2
 obtain⟨g,rfl⟩:∃ g,A=some ⟨g,0,none⟩:=by
  rcases how2.2 with⟨_,h⟩ | ⟨g,cap,cur,h,_⟩
  ·cases h
  ·injection h with h _ _
   exact⟨g,h⟩
 have c0:w2.cell? ⟨g,0,none⟩=some (.int .i64 0):=how2.cellAt 0 (by decide)
 have c1:w2.cell? ⟨g,1,none⟩=some (.int .i64 92):=how2.cellAt 1 (by decide)
 clear how how2 hq mO e1 e2 ha pb b2
 go_wp2
 go_ret
 exact⟨rfl,B2.out⟩
end
end
section
section
open Go.RowKit Go.Shelf Go.Lib
variable {P : Program} {α : Type} {n : Nat}
def end14 (l D:Nat) (W0:World) (G Y:World→Prop):Exit→Act→World→Prop
 | .normal,_,W=>(W.heap[l]?=W0.heap[l]?∧W.heap[D]?=W0.heap[D]?)∧G W
 | .ret,_,W=>(W.heap[l]?=W0.heap[l]?∧W.heap[D]?=W0.heap[D]?)∧Y W
 | _,_,_=>False
def mid14 (l D:Nat) (W0:World) (G:Act→World→Prop) (a:Act) (W:World):Prop:=(W.heap[l]?=W0.heap[l]?∧W.heap[D]?=W0.heap[D]?)∧G a W
abbrev fK (fn:FuncId) (tm:Array Value) (ps:Array Tmp) (assign body:Code) (D:Nat) (st:LoopState) (pe:Option Code):Loop :=
 { state:=st,pending:=pe,fn:=fn,tmps:=tm,params:=ps,assign:=assign,body:=body,defers:=D }
theorem round14 {ps:Array Tmp} {assign body:Code} {tm xv:Array Value} {fn:FuncId} {l D:Nat} (hlD:D≠l) (hfn:Fence.wide.fn fn) (hxs:xv.size=ps.size) {W:World}
  (hl:W.heap[l]?=some (.loop (fK fn tm ps assign body D .ready none))) {M:Act→World→Prop} {G Y:World→Prop}
  (hassign:assign.wpIn (Fence.wide.inRound l) n P (Exit.then (mid14 l D W M) (fun _ _ _=>False)) { tmps:=(ps.zip xv).foldl (fun t (p,v)=>t.setIfInBounds p v) tm,defers:=[] } W)
  (hbody:∀ a1 W1,W1.heap[l]?=some (.loop (fK fn tm ps assign body D .ready none))→W1.heap[D]?=W.heap[D]?→M a1 W1 →
   body.wpIn (Fence.wide.inRound l) n P (end14 l D (W1.putObj l (.loop (fK fn tm ps assign body D .busy none))) G Y) a1 (W1.putObj l (.loop (fK fn tm ps assign body D .busy none)))) :
  YieldAt Fence.wide n P l xv W fun e W' =>
   (e=.returned (.bool true)∧∃ W3,G W3∧W'=W3.putObj l (.loop (fK fn tm ps assign body D .ready none))∧W3.heap[l]?=some (.loop (fK fn tm ps assign body D .busy none))∧W3.heap[D]?=W.heap[D]?) ∨
   (e=.returned (.bool false)∧∃ W3,Y W3∧W'=W3.putObj l (.loop (fK fn tm ps assign body D .done (some .ret)))∧W3.heap[l]?=some (.loop (fK fn tm ps assign body D .busy none))∧W3.heap[D]?=W.heap[D]?):=by
 refine⟨fn,_,assign,body,run_yield hl hxs,roundIn_of_wpIn hfn (wpIn_mono hassign ?_)⟩
 intro e a1 W1 hm
 cases e with
 | normal =>
  obtain⟨⟨h1,h2⟩,hM⟩:=hm
  have hl1:=h1.trans hl
  have hb:(W1.putObj l (.loop (fK fn tm ps assign body D .busy none))).heap[l]?=some (.loop (fK fn tm ps assign body D .busy none)):=World.putObj_heap_same (Array.getElem?_eq_some_iff.1 hl1).1
  have hd:(W1.putObj l (.loop (fK fn tm ps assign body D .busy none))).heap[D]?=W.heap[D]?:=(World.putObj_heap_other hlD).trans h2
  refine⟨_,run_beginRound hl1 rfl,wpIn_mono (hbody a1 W1 hl1 h2 hM) ?_⟩
  intro e a3 W3 hp
  cases e with
  | normal =>
   obtain⟨⟨g1,g2⟩,g3⟩:=hp
   have q:=g1.trans hb
   exact⟨_,_,run_endRound none q,.inl ⟨rfl,W3,g3,rfl,q,g2.trans hd⟩⟩
  | ret =>
   obtain⟨⟨g1,g2⟩,g3⟩:=hp
   have q:=g1.trans hb
   exact⟨_,_,run_endRound (some .ret) q,.inr ⟨rfl,W3,g3,rfl,q,g2.trans hd⟩⟩
  | _=>exact hp.elim
 | _=>exact hm.elim
theorem vL {B:Nat} {W:World} {l:Nat} {r:Loop} (o:Obj) (hl:W.heap[l]?=some (.loop r)) (hB:B≤l):aN B [] W (W.putObj l o) :=
 ⟨⟨rfl,rfl,rfl,by simp,fun k hk=>World.putObj_heap_other (by omega)⟩,fun k cs t fr hk _=>World.putObj_heap_other (fun e=>by subst e;rw [hl] at hk;cases hk)⟩
theorem uh {B:Nat} {W:World} {l:Nat} {r:Option (List Deferred)} (o:Obj) (hl:W.heap[l]?=some (.deferred r)) (hB:B≤l):aN B [] W (W.putObj l o) :=
 ⟨⟨rfl,rfl,rfl,by simp,fun k hk=>World.putObj_heap_other (by omega)⟩,fun k cs t fr hk _=>World.putObj_heap_other (fun e=>by subst e;rw [hl] at hk;cases hk)⟩
def xQ (n:Nat) (P:Program) (g:Nat) (lb:Array Value) (encs:α→Array Value) (St Kp Kx:Nat→World→World→Prop) (Pre:Nat→α→World→Prop) (S Sp:List α→Prop) (N:Nat) (W:World):Prop :=
 ∀ (l:Nat) (J Jx:List α→World→Prop),(∀ pre A A',J pre A→St W.heap.size A A'→J pre A')→(∀ pre A A',Jx pre A→St W.heap.size A A'→Jx pre A') →
  (∀ pre x W1,J pre W1→pre.length<N→Sp (pre++[x])→Pre W.heap.size x W1→W.heap.size≤W1.heap.size→YieldAt Fence.wide (n - 1) P l (encs x) W1 fun e W'=>(e=.returned (.bool true)∧J (pre++[x]) W'∧Kp W.heap.size W1 W')∨(e=.returned (.bool false)∧Jx (pre++[x]) W'∧Kx W.heap.size W1 W')) →
  J [] W →
  CallsIn Fence.wide n P g (#[.func (.yield l) #[] #[]]++lb) W fun e W'=>(∃ v,e=.returned v)∧((∃ xs,S xs∧J xs W')∨(∃ pre,Sp pre∧Jx pre W'))
theorem CJ {g:Operand} {ps:Array Tmp} {assign body:Code} {Q:Exit→Act→World→Prop} {a:Act} {w:World} (h1:1≤n)
  {gf:Nat} {lb:Array Value} (hg:a.eval g=.func (.func gf) #[] lb) (eg:∀ args w,(callFunc gf args).run P w=.ok (.enter gf args) w)
  {encs:α→Array Value} {St Kp Kx:Nat→World→World→Prop} {Pre:Nat→α→World→Prop} {S Sp:List α→Prop} {N:Nat}
  (hseq:∀ W,Below w.heap.size w W→W.heap.size=w.heap.size+2→xQ (n - 1) P gf lb encs St Kp Kx Pre S Sp N W) (hps:∀ x,(encs x).size=ps.size)
  (hSt:∀ {B:Nat} {A A':World},St B A A'→Below B A A')
  (hKt:∀ {A B C:World},Kp (w.heap.size+2) A B→Kp (w.heap.size+2) B C→Kp (w.heap.size+2) A C)
  (hKb:∀ {A:World} {r:Loop} (o:Obj),A.heap[w.heap.size+1]?=some (.loop r)→Kp (w.heap.size+2) A (A.putObj (w.heap.size+1) o))
  (hKx:∀ {A B C:World},Kp (w.heap.size+2) A B→Kx (w.heap.size+2) B C→Kx (w.heap.size+2) A C)
  (hKy:∀ {A B:World} {r:Loop} (o:Obj),Kx (w.heap.size+2) A B→B.heap[w.heap.size+1]?=some (.loop r)→Kx (w.heap.size+2) A (B.putObj (w.heap.size+1) o))
  (I X:List α→World→Prop) (hI:∀ pre A A',I pre A→aN w.heap.size [] A A'→I pre A') (hX:∀ pre A A',X pre A→aN w.heap.size [] A A'→X pre A')
  (hIs:∀ pre A A',I pre A→St (w.heap.size+2) A A'→I pre A') (hXs:∀ pre A A',X pre A→St (w.heap.size+2) A A'→X pre A')
  (h0:I [] w) (a₁:α→Nat→Act) (M:List α→α→Nat→World→Prop) (hM:∀ pre x b A A',M pre x b A→aN w.heap.size [] A A'→M pre x b A')
  (hassign:∀ (pre:List α) (x:α) (W:World),I pre W→Pre (w.heap.size+2) x W→pre.length<N→w.heap.size+1<W.heap.size →
   assign.wpIn (Fence.wide.inRound (w.heap.size+1)) (n - 1 - 1) P (Exit.then (mid14 (w.heap.size+1) w.heap.size W (fun a' W'=>Kp (w.heap.size+2) W W'∧∃ b,a'=a₁ x b∧M pre x b W')) (fun _ _ _=>False)) { tmps:=(ps.zip (encs x)).foldl (fun t (p,v)=>t.setIfInBounds p v) a.tmps,defers:=[] } W)
  (hbody:∀ (pre:List α) (x:α) (b:Nat) (W:World),M pre x b W→pre.length<N→Sp (pre++[x])→w.heap.size+1<W.heap.size→(∀ cs t fr,W.heap[w.heap.size]?≠some (.cells cs t fr))→(∀ cs t fr,W.heap[w.heap.size+1]?≠some (.cells cs t fr)) →
   body.wpIn (Fence.wide.inRound (w.heap.size+1)) (n - 1 - 1) P (end14 (w.heap.size+1) w.heap.size W (fun W'=>Kp (w.heap.size+2) W W'∧I (pre++[x]) W') (fun W'=>Kx (w.heap.size+2) W W'∧X (pre++[x]) W')) (a₁ x b) W)
  (hdone:∀ (xs:List α) (W:World),S xs→I xs W→W.heap[w.heap.size]?=some (.deferred (some []))→Q .normal { a with defers:={ target:=.collected w.heap.size,args:=#[] } :: a.defers } W)
  (hstop:∀ (pre:List α) (W:World),Sp pre→X pre W→W.heap[w.heap.size]?=some (.deferred (some []))→Code.ret.wpIn Fence.wide n P Q { a with defers:={ target:=.collected w.heap.size,args:=#[] } :: a.defers } W) :
  (Code.rangeFunc g ps assign body).wpIn Fence.wide n P Q a w:=by
 refine wpIn_rangeFunc fun fn hfn=>?_
 rw [show Fence.wide.round=none from rfl]
 obtain⟨l,hl⟩:∃ l,l=w.heap.size+1:=⟨_,rfl⟩
 obtain⟨W1,hW1⟩:∃ W1,(w.alloc (.deferred (some []))).alloc (.loop (fK fn a.tmps ps assign body w.heap.size .ready none))=W1:=⟨_,rfl⟩
 have b1:Below w.heap.size w W1:=by rw [← hW1];exact ((Below.refl _ w).alloc (Nat.le_refl _) _).alloc (by simp) _
 have z1:W1.heap.size=w.heap.size+2:=by rw [← hW1];simp
 have rl:W1.heap[l]?=some (.loop (fK fn a.tmps ps assign body w.heap.size .ready none)):=by
  rw [← hW1,hl]
  have:=World.alloc_heap_new (w.alloc (.deferred (some []))) (.loop (fK fn a.tmps ps assign body w.heap.size .ready none))
  rwa [World.size_alloc] at this
 have rd:W1.heap[w.heap.size]?=some (.deferred (some [])):=by
  rw [← hW1]
  exact (Below.heap_alloc _ _ _ (by simp)).trans (World.alloc_heap_new w _)
 refine⟨l,[{ target:=.collected w.heap.size,args:=#[] }],W1,{ target:=.fn (.func gf) lb,args:=#[.func (.yield l) #[] #[]] },W1,gf,#[.func (.yield l) #[] #[]]++lb,W1,?_,?_,?_,?_,fun _=>h1,?_⟩
 ·rw [hl,← hW1]
  exact run_enterLoop_outer _ _ _ _ _
 ·simp only [resolve,hg]
  simp [go_sem]
 ·intro f' _
  exact trivial
 ·simp [invoke,go_sem,eg]
 have put:∀ {A:World} {r:Loop} (o:Obj),A.heap[l]?=some (.loop r)→aN w.heap.size [] A (A.putObj l o):=fun o h=>vL o h (by omega)
 have hq:=hseq W1 b1 z1
 unfold xQ at hq
 rw [z1] at hq
 refine (hq l (fun pre W=>I pre W∧W.heap[l]?=some (.loop (fK fn a.tmps ps assign body w.heap.size .ready none))∧W.heap[w.heap.size]?=some (.deferred (some [])))
  (fun pre W=>X pre W∧W.heap[l]?=some (.loop (fK fn a.tmps ps assign body w.heap.size .done (some .ret)))∧W.heap[w.heap.size]?=some (.deferred (some []))) ?_ ?_ ?_ ⟨hI _ _ _ h0 (aN.of_below b1 (Nat.le_refl _) _),rl,rd⟩).mono ?_
 ·rintro pre A A' ⟨h2,h3,h4⟩ hs
  exact⟨hIs _ _ _ h2 hs,((hSt hs).block l (by omega)).trans h3,((hSt hs).block _ (by omega)).trans h4⟩
 ·rintro pre A A' ⟨h2,h3,h4⟩ hs
  exact⟨hXs _ _ _ h2 hs,((hSt hs).block l (by omega)).trans h3,((hSt hs).block _ (by omega)).trans h4⟩
 ·rintro pre x W ⟨h2,h3,h4⟩ hpn hsp hx hzW
  have s3:=(Array.getElem?_eq_some_iff.1 h3).1
  rw [hl] at h3
  have hR:=round14 (n:=n - 1 - 1) (P:=P) (xv:=encs x) (D:=w.heap.size) (by omega) hfn (hps x) h3 (M:=fun a' W'=>Kp (w.heap.size+2) W W'∧∃ b,a'=a₁ x b∧M pre x b W')
   (G:=fun W'=>Kp (w.heap.size+2) W W'∧I (pre++[x]) W') (Y:=fun W'=>Kx (w.heap.size+2) W W'∧X (pre++[x]) W') (hassign pre x W h2 hx hpn (by omega)) ?_
  ·obtain⟨fn',tm',as',bo',hy,hR'⟩:=hR
   rw [hl]
   refine⟨fn',tm',as',bo',hy,hR'.mono ?_⟩
   rw [hl] at put
   rintro e W' (⟨rfl,W3,⟨g1,g2⟩,rfl,g3,g4⟩ | ⟨rfl,W3,⟨g0,g1⟩,rfl,g3,g4⟩)
   ·have T3:=put (.loop (fK fn a.tmps ps assign body w.heap.size .ready none)) g3
    have s5:=(Array.getElem?_eq_some_iff.1 g3).1
    exact .inl ⟨rfl,⟨hI _ _ _ g2 T3,World.putObj_heap_same s5,(World.putObj_heap_other (by omega)).trans (g4.trans h4)⟩,hKt g1 (hKb _ g3)⟩
   ·have T3:=put (.loop (fK fn a.tmps ps assign body w.heap.size .done (some .ret))) g3
    have s5:=(Array.getElem?_eq_some_iff.1 g3).1
    exact .inr ⟨rfl,⟨hX _ _ _ g1 T3,World.putObj_heap_same s5,(World.putObj_heap_other (by omega)).trans (g4.trans h4)⟩,hKy _ g0 g3⟩
  ·rintro _ W' hl' hd' ⟨m1,b,rfl,m3⟩
   rw [hl] at put
   have T:=put (.loop (fK fn a.tmps ps assign body w.heap.size .busy none)) hl'
   have s5:=(Array.getElem?_eq_some_iff.1 hl').1
   have d2:(W'.putObj (w.heap.size+1) (.loop (fK fn a.tmps ps assign body w.heap.size .busy none))).heap[w.heap.size]?=some (.deferred (some [])):=(World.putObj_heap_other (by omega)).trans (hd'.trans h4)
   have d3:(W'.putObj (w.heap.size+1) (.loop (fK fn a.tmps ps assign body w.heap.size .busy none))).heap[w.heap.size+1]?=some (.loop (fK fn a.tmps ps assign body w.heap.size .busy none)):=World.putObj_heap_same s5
   refine wpIn_mono (hbody pre x b (W'.putObj (w.heap.size+1) (.loop (fK fn a.tmps ps assign body w.heap.size .busy none))) (hM _ _ _ _ _ m3 T) hpn hsp (by rw [World.putObj_size];omega) (fun cs t fr e=>by rw [d2] at e;cases e) (fun cs t fr e=>by rw [d3] at e;cases e)) ?_
   intro e a3 W3 hp
   cases e with
   | normal=>exact⟨hp.1,hKt m1 (hKt (hKb _ hl') hp.2.1),hp.2.2⟩
   | ret=>exact⟨hp.1,hKx m1 (hKx (hKb _ hl') hp.2.1),hp.2.2⟩
   | _=>exact hp.elim
 ·rintro e W2 ⟨⟨v,rfl⟩,(⟨xs,hs,hi,g3,g4⟩ | ⟨pre,hp,hx,g3,g4⟩)⟩
  ·have T3:=put (.loop (fK fn a.tmps ps assign body w.heap.size .exhausted none)) g3
   exact⟨none,_,run_endLoop g3 (by simp),hdone xs _ hs (hI _ _ _ hi T3) ((World.putObj_heap_other (by omega)).trans g4)⟩
  ·have T3:=put (.loop (fK fn a.tmps ps assign body w.heap.size .exhausted (some .ret))) g3
   exact⟨some .ret,_,run_endLoop g3 (by simp),hstop pre _ hp (hX _ _ _ hx T3) ((World.putObj_heap_other (by omega)).trans g4)⟩
end
section
open Go.RowKit Go.Lib
def je (ops:Array Oper):Bool:=ops.all fun o=>match o.op with | .defer _=>false | _=>true
theorem lh {ops:Array Oper} (h:je ops=true) {i:Nat} {o:Oper} (hi:ops[i]?=some o) (c:Call):o.op≠.defer c:=by
 intro e
 obtain⟨h1,h2⟩:=Array.getElem?_eq_some_iff.1 hi
 have q:=(Array.all_eq_true.1 h) i h1
 rw [h2,e] at q
 cases q
theorem xu {P:Program} {row:String} {args:Array Value} {w:World} {R:Value→World→Prop} {l n:Nat} (h:Rows P row args w R):RowsIn (Fence.wide.inRound l) n P row args w R:=fun c cs _=>by
 obtain⟨v,w',r,s⟩:=h c cs
 exact⟨v,w',r,stepsIn_wide.2 s⟩
theorem jX {P:Program} {o:Oper} {a:Act} {w:World} {K:Act→World→Prop} {Q:Exit→Act→World→Prop} {l n:Nat} (hd:∀ c,o.op≠.defer c) (h:o.wp P a w K Q):o.wpIn (Fence.wide.inRound l) n P a w K Q:=by
 refine⟨fun _ _=>trivial,?_⟩
 rw [Oper.semAt_eq _ _ _ hd]
 unfold Oper.wp at h
 generalize (execOp a.eval o).run P w=r at h ⊢
 cases r with
 | ok x w' =>
  cases x with
  | value v=>exact h
  | skip=>exact h
  | defer d=>exact h
  | enter f args=>exact⟨fun e=>(by cases e),CallsIn.inRound l (callsIn_wide.2 h)⟩
  | row row args=>exact⟨fun e=>(by cases e),xu h⟩
  | _=>exact h.elim
 | halt x w' =>
  cases x with
  | panic v=>exact h
  | _=>exact h.elim
def postM14 (P:Program) (fn:Func) (R:Ending→World→Prop):Exit→Act→World→Prop
 | .normal,a,w | .ret,a,w=>LeavesInM Fence.wide 9 P fn a.tmps R a.defers .returning w
 | _,_,_=>False
theorem iZ {P:Program} {f:FuncId} {fn:Func} {c:Code} {args:Array Value} {w:World} {R:Ending→World→Prop} (hf:P.funcs[f]?=some fn) (hb:fn.body=some c)
  (h:c.wp P (postM14 P fn R) { tmps:=args++Array.replicate (fn.ntmps - args.size) undef,defers:=[] } w):Calls P f args w R :=
 (callsIn_wide (n:=9)).1 (callsIn_of_wp_marks hf hb trivial (wpIn_wide.2 (wp_mono h fun e _ _ hq=>by
  cases e with
  | normal=>exact hq
  | ret=>exact hq
  | panic ch=>exact hq.elim
  | exit id=>exact hq.elim
  | goto l=>exact hq.elim
  | outgrown=>exact hq.elim)))
theorem iC {w:World} {g:Nat} {a:Value} {t:TypeId} {fr:Nat × Nat} (h:w.heap[g]?=some (.cells #[a] t fr)):w.cell? ⟨g,0,none⟩=some a:=by simp [World.cell?,h]
theorem AR {W W1:World} {o:Obj} {base:Nat} {e:TypeId} {size n:Nat} {v:Value} {xs:List Value} {k:Nat} (hnc:∀ cs t fr,W.heap[k]?≠some (.cells cs t fr)) (hk:k<W.heap.size) (hrow:W.ownsRow base e size v n xs) (hg:(W.alloc o).grownBy W1 v.ownBlock):W1.heap[k]?=W.heap[k]?:=by
 refine (hg.block k (by simp;omega) (fun q=>?_)).trans (Below.heap_alloc W o k hk)
 obtain⟨_,cs,fr,r⟩:=bM hrow k q.symm
 exact hnc _ _ _ r
end
end
end Go.Proofs.YtcedlgedmkghgaaGreat
