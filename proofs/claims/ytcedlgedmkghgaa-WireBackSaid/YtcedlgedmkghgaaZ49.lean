import Derived.Test.YtcedlgedmkghgaaZ48
import Derived.Recover
import Derived.Laws.Pointers
namespace Go.Proofs.Ytcedlgedmkghgaa
set_option maxHeartbeats 16000000
open Go.Lib
set_option linter.unusedSimpArgs false
set_option maxRecDepth 100000
section
section
open Go.RowKit Go.Lib
theorem aR {w w1 w2:World} {r:Option Nat} (h:w.grownBy w1 r) (k:w1.grownBy w2 r):w.grownBy w2 r :=
 ⟨k.os.trans h.os,k.tape.trans h.tape,k.output.trans h.output,Nat.le_trans h.size k.size,fun b hb hne=>(k.block b (Nat.lt_of_lt_of_le hb h.size) hne).trans (h.block b hb hne)⟩
theorem g_ {w w':World} {r:Option Nat} (h:Below w.heap.size w w'):w.grownBy w' r:=⟨h.os,h.tape,h.output,h.size,fun k hk _=>h.block k hk⟩
theorem bA (w:World) (p i:Nat) (v:Value):w.grownBy (w.setCell ⟨p,i,none⟩ v) (some p):=⟨rfl,rfl,rfl,by simp,fun k _ hk=>Below.heap_setCell w ⟨p,i,none⟩ v k (fun z=>hk (congrArg some z.symm).symm)⟩
theorem nN (w:World) (p:Nat) (a b c d e f g h i:Value):w.grownBy (((((((((w.setCell ⟨p,0,none⟩ (a)).setCell ⟨p,1,none⟩ (b)).setCell ⟨p,2,none⟩ (c)).setCell ⟨p,3,none⟩ (d)).setCell ⟨p,4,none⟩ (e)).setCell ⟨p,5,none⟩ (f)).setCell ⟨p,6,none⟩ (g)).setCell ⟨p,7,none⟩ (h)).setCell ⟨p,8,none⟩ (i)) (some p):=by
 have q0:=bA w p 0 a
 have q1:=aR q0 (bA (w.setCell ⟨p,0,none⟩ a) p 1 b)
 have q2:=aR q1 (bA ((w.setCell ⟨p,0,none⟩ a).setCell ⟨p,1,none⟩ b) p 2 c)
 have q3:=aR q2 (bA (((w.setCell ⟨p,0,none⟩ a).setCell ⟨p,1,none⟩ b).setCell ⟨p,2,none⟩ c) p 3 d)
 have q4:=aR q3 (bA ((((w.setCell ⟨p,0,none⟩ a).setCell ⟨p,1,none⟩ b).setCell ⟨p,2,none⟩ c).setCell ⟨p,3,none⟩ d) p 4 e)
 have q5:=aR q4 (bA (((((w.setCell ⟨p,0,none⟩ a).setCell ⟨p,1,none⟩ b).setCell ⟨p,2,none⟩ c).setCell ⟨p,3,none⟩ d).setCell ⟨p,4,none⟩ e) p 5 f)
 have q6:=aR q5 (bA ((((((w.setCell ⟨p,0,none⟩ a).setCell ⟨p,1,none⟩ b).setCell ⟨p,2,none⟩ c).setCell ⟨p,3,none⟩ d).setCell ⟨p,4,none⟩ e).setCell ⟨p,5,none⟩ f) p 6 g)
 have q7:=aR q6 (bA (((((((w.setCell ⟨p,0,none⟩ a).setCell ⟨p,1,none⟩ b).setCell ⟨p,2,none⟩ c).setCell ⟨p,3,none⟩ d).setCell ⟨p,4,none⟩ e).setCell ⟨p,5,none⟩ f).setCell ⟨p,6,none⟩ g) p 7 h)
 have q8:=aR q7 (bA ((((((((w.setCell ⟨p,0,none⟩ a).setCell ⟨p,1,none⟩ b).setCell ⟨p,2,none⟩ c).setCell ⟨p,3,none⟩ d).setCell ⟨p,4,none⟩ e).setCell ⟨p,5,none⟩ f).setCell ⟨p,6,none⟩ g).setCell ⟨p,7,none⟩ h) p 8 i)
 exact q8
theorem t_ (p:Addr) (x er:Int) (older:List PanicEntry) (w:World) (hc:w.cell? p=some (.int .i64 x)) (hz:w.frozen? p=false) :
  CallsD Try.prog 39 #[.pointer (some p)] (.panicking ({ v:=.iface 34 (.int .i64 er),recovered:=false } :: older)) w fun e u' w' =>
   e=.returned (.tuple #[])∧u'=.panicking ({ v:=.iface 34 (.int .i64 er),recovered:=true } :: older)∧w'=w.setCell p (.int .i64 er):=by
 refine callsD_of_wpS Try.func39 rfl fun c₀ cs hu=>?_
 apply wpS_seq
 apply wpS_region
 simp [wpOpsS,go_sem,recoverD,hu,Try.ntmps39,Exit.thenS]
 apply wpS_seq
 apply wpS_region
 simp [wpOpsS,go_sem,Exit.thenS,Array.replicate]
 refine wpS_cond (t:=true) (by simp [Act.eval]) ?_
 simp only [if_true]
 apply wpS_region
 have hta:(Instr.typeAssert (.iface 34 (.int .i64 er)) 20 34 false).run Try.prog w=.ok (.int .i64 er) w:=by kernel_rfl
 simp [wpOpsS,go_sem,hta,hc,hz,bodyPostS,results,Try.results39]
theorem tZ (p:Addr) (w:World) :
  CallsD Try.prog 39 #[.pointer (some p)] .returning w fun e u' w'=>e=.returned (.tuple #[])∧u'=.returning∧w'=w:=by
 refine callsD_of_wpS Try.func39 rfl fun c₀ cs hu=>?_
 apply wpS_seq
 apply wpS_region
 simp [wpOpsS,go_sem,recoverD,hu,Try.ntmps39,Exit.thenS]
 apply wpS_seq
 apply wpS_region
 simp [wpOpsS,go_sem,Exit.thenS,Array.replicate]
 refine wpS_cond (t:=false) (by simp [Act.eval]) ?_
 simp only [Bool.false_eq_true,if_false]
 refine wpS_of_wp (wp_skip ?_)
 cases c₀
 simp_all [bodyPostS]
 simp [results,Try.results39]
def ClOk15 (b:List UInt8) (g:Nat) (w:World) (e:Ending) (w':World):Prop :=
 w.grownBy w' (some g)∧((T9.ik b).2=0→∃ m:dL,e=.returned (.tuple #[])∧qA m w'∧m.mg=(T9.ik b).1∧nk m g w')∧((T9.ik b).2≠0→e=.panicked [{ v:=.iface 34 (.int .i64 150),recovered:=false }]∧w'.heap[g]?=w.heap[g]?)
theorem clo15_c {A:Option Addr} {n c b0 bm:Nat} {b:List UInt8} {w:World} {D:Nat} {td:TypeId} (h:ah w D td A (ae b)) (hn:n=b.length) (hc:n≤c) (hb:n≤1000000000) (hD:D≤w.heap.size) (h0:w.heap[b0]?=some (.cells #[.slice A n c] 33 (0,0))) (hm:w.heap[bm]?=some (.cells #[.int .i64 0,.int .u64 0,.int .u64 0,.int .u64 0,.int .u64 0,.slice none 0 0,.slice none 0 0,.slice none 0 0,.slice none 0 0] 30 (0,0))) :
  Calls Try.prog 19 #[.pointer (some ⟨b0,0,none⟩),.pointer (some ⟨bm,0,none⟩)] w (ClOk15 b bm w):=by
 have c0:=cell_of_one h0
 have RM:=hid (uL h hn hc hb hD)
 have HM:=hid hm
 clear h hn hc hb hD h0 hm
 go_enter Try.func19,Try.ntmps19
 go_wp2_with fail
 refine RM.out.mono ?_
 rintro e w1 ⟨hb1,hok,hbad⟩
 have mb:=ak HM.out hb1
 by_cases hz:(T9.ik b).2=0
 case neg =>
  have q:=hbad hz
  unfold kD at q
  subst q
  exact⟨rfl,g_ hb1,fun z=>absurd z hz,fun _=>⟨rfl,hb1.block _ (lt_of_block HM.out)⟩⟩
 obtain⟨m,rfl,hmt,uY⟩:=hok hz
 have HZ:=hid hz
 have HMT:=hid (And.intro hmt uY)
 obtain⟨m0,m1,m2,m3,m4,m5,m6,m7,m8⟩:=ai mb
 have f0:=aa mb 0
 have f1:=aa mb 1
 have f2:=aa mb 2
 have f3:=aa mb 3
 have f4:=aa mb 4
 have f5:=aa mb 5
 have f6:=aa mb 6
 have f7:=aa mb 7
 have f8:=aa mb 8
 have PN:=hid (kZ mb (.int .i64 m.kind) (.int .u64 (m.line:Int)) (.int .u64 (m.aQ:Int)) (.int .u64 (m.bZ:Int)) (.int .u64 (m.cu:Int)) (.slice m.A m.is.length m.c) (.slice m.A1 m.las.length m.c1) (.slice m.s.A m.s.ls.length m.s.c) (.slice m.s.A2 m.s.ms.length m.s.c2))
 have TN:=hid (lT (B:=0) (t:=30) ⟨_,_,mb⟩ (Nat.zero_le _) (.int .i64 m.kind) (.int .u64 (m.line:Int)) (.int .u64 (m.aQ:Int)) (.int .u64 (m.bZ:Int)) (.int .u64 (m.cu:Int)) (.slice m.A m.is.length m.c) (.slice m.A1 m.las.length m.c1) (.slice m.s.A m.s.ls.length m.s.c) (.slice m.s.A2 m.s.ms.length m.s.c2))
 have GN:=hid (aR (g_ (r:=some bm) hb1) (nN w1 bm (.int .i64 m.kind) (.int .u64 (m.line:Int)) (.int .u64 (m.aQ:Int)) (.int .u64 (m.bZ:Int)) (.int .u64 (m.cu:Int)) (.slice m.A m.is.length m.c) (.slice m.A1 m.las.length m.c1) (.slice m.s.A m.s.ls.length m.s.c) (.slice m.s.A2 m.s.ms.length m.s.c2)))
 unfold dL.val
 clear hok hbad hz hmt uY mb hb1
 go_wp2
 go_end0
 exact⟨GN.out,fun _=>⟨m,rfl,HMT.out.1.dB TN.out (by decide) (by decide) (by decide) (by decide) (by decide),HMT.out.2,PN.out⟩,fun z=>absurd HZ.out z⟩
def ni (b:List UInt8) (g:Nat) (w:World) (e:Ending) (w':World):Prop :=
 w.grownBy w' (some g)∧e=.returned (.int .i64 (T9.ik b).2)∧((T9.ik b).2=0→∃ m:dL,qA m w'∧m.mg=(T9.ik b).1∧nk m g w')∧((T9.ik b).2≠0→w'.heap[g]?=w.heap[g]?)
theorem qd {A:Option Addr} {n c b0 bm:Nat} {b:List UInt8} {w:World} {D:Nat} {td:TypeId} (h:ah w D td A (ae b)) (hn:n=b.length) (hc:n≤c) (hb:n≤1000000000) (hD:D≤w.heap.size) (h0:w.heap[b0]?=some (.cells #[.slice A n c] 33 (0,0))) (hm:w.heap[bm]?=some (.cells #[.int .i64 0,.int .u64 0,.int .u64 0,.int .u64 0,.int .u64 0,.slice none 0 0,.slice none 0 0,.slice none 0 0,.slice none 0 0] 30 (0,0))) :
  Calls Try.prog 18 #[.func (.func 19) #[] #[.pointer (some ⟨b0,0,none⟩),.pointer (some ⟨bm,0,none⟩)]] w (ni b bm w):=by
 have hmf:∀ (fn:Fn) (first cap:Array Value) (w:World),(Instr.makeFunc fn first cap).run Try.prog w=.ok (.func fn first cap) w:=fun _ _ _ _=>rfl
 have nb:bm<w.heap.size:=lt_of_block hm
 obtain⟨w1,hw1⟩:∃ v,w.alloc (.cells #[.int .i64 0] 34)=v:=⟨_,rfl⟩
 have b1:Below w.heap.size w w1:=by rw [← hw1];exact (Below.refl _ w).alloc (Nat.le_refl _) _
 have k1:w1.heap[w.heap.size]?=some (.cells #[.int .i64 0] 34 (0,0)):=by rw [← hw1];exact heap_alloc_new w _
 have z1:w1.heap.size=w.heap.size+1:=by rw [← hw1];simp
 have B1:=hid b1
 have K1:=hid k1
 have Z1:=hid z1
 have CL:=hid (clo15_c ((h.more hD).below (Nat.le_refl _) b1) hn hc hb (by omega) (ak h0 b1) (ak hm b1))
 clear h hn hc hb hD h0 hm b1 k1 z1
 go_enter_defers Try.func18,Try.ntmps18
 go_wp2_with fail
 refine CL.out.mono ?_
 rintro e w2 ⟨hg,hok,hbad⟩
 have HG:=hid hg
 have K2:Hid (w2.heap[w.heap.size]?=some (.cells #[.int .i64 0] 34 (0,0))):=hid ((hg.block w.heap.size (by have:=Z1.out;omega) (fun e=>by injection e with e;omega)).trans K1.out)
 have c2:=cell_of_one K2.out
 have f2:=aa K2.out 0
 have y2:Ty w2 w.heap.size 34:=⟨_,_,K2.out⟩
 have GW:∀ (v:Value),w.grownBy (w2.setCell ⟨w.heap.size,0,none⟩ v) (some bm):=fun v =>
  ⟨(eT w.heap.size [v] 0 w2).os.trans (HG.out.os.trans B1.out.os),(eT w.heap.size [v] 0 w2).tape.trans (HG.out.tape.trans B1.out.tape),(eT w.heap.size [v] 0 w2).output.trans (HG.out.output.trans B1.out.output),by have:=HG.out.size;have:=B1.out.size;simp;omega,fun k hk hne=>by
   rw [Below.heap_setCell _ ⟨w.heap.size,0,none⟩ _ k (by show k≠w.heap.size;omega),HG.out.block k (by have:=Z1.out;omega) hne,B1.out.block k hk]⟩
 have TW:∀ (v:Value),ay 0 [34] w2 (w2.setCell ⟨w.heap.size,0,none⟩ v):=fun v=>(ay.refl _ _ w2).aW (p:=⟨w.heap.size,0,none⟩) y2 (by simp) (Nat.zero_le _) v
 by_cases h0:(T9.ik b).2=0
 case neg =>
  obtain⟨rfl,hnb⟩:=hbad h0
  have NB:Hid (w2.heap[bm]?=w.heap[bm]?):=hid (hnb.trans (B1.out.block _ nb))
  have V0:(T9.ik b).2=150:=by rw [T9.sP h0]
  have GWH:=hid GW
  have H0:=hid h0
  have TWH:=hid TW
  have FIN:ni b bm w (.returned (.int .i64 150)) (w2.setCell ⟨w.heap.size,0,none⟩ (.int .i64 150)):=⟨GWH.out _,by rw [V0],fun z=>absurd z H0.out,fun _=>(Below.heap_setCell _ ⟨w.heap.size,0,none⟩ _ bm (by show bm≠w.heap.size;omega)).trans NB.out⟩
  have FH:=hid FIN
  clear GW TW hok hbad hg h0 hnb V0 FIN
  refine leaves_cons (f:=39) (args:=#[.pointer (some ⟨w.heap.size,0,none⟩)]) (by simp) (by simp [go_sem]) ?_
  refine (t_ ⟨w.heap.size,0,none⟩ 0 _ [] _ c2 f2).mono ?_
  rintro e u' w'' ⟨rfl,rfl,rfl⟩
  have c3:(w2.setCell ⟨w.heap.size,0,none⟩ (.int .i64 150)).cell? ⟨w.heap.size,0,none⟩=some (.int .i64 150):=cell_of_one ((af K2.out 0 _).trans rfl)
  simp [Leaves,settle,results,Try.results18,go_sem,c3]
  exact FH.out
 obtain⟨m,rfl,hq,hqs,hn⟩:=hok h0
 have GWH:=hid GW
 have TWH:=hid TW
 have H0:=hid h0
 have HQ:=hid (And.intro hq (And.intro hqs hn))
 have FIN:ni b bm w (.returned (.int .i64 0)) (w2.setCell ⟨w.heap.size,0,none⟩ (.int .i64 0)):=⟨GWH.out _,by rw [H0.out],fun _=>⟨m,HQ.out.1.dB (TWH.out _) (by decide) (by decide) (by decide) (by decide) (by decide),HQ.out.2.1,(TWH.out _).blk HQ.out.2.2 (by decide)⟩,fun z=>absurd H0.out z⟩
 have FH:=hid FIN
 clear GW TW hok hbad hg h0 hq hqs hn FIN
 go_wp2_with fail
 refine leaves_cons (f:=39) (args:=#[.pointer (some ⟨w.heap.size,0,none⟩)]) (by simp) (by simp [go_sem]) ?_
 refine (tZ ⟨w.heap.size,0,none⟩ _).mono ?_
 rintro e u' w'' ⟨rfl,rfl,rfl⟩
 have c3:(w2.setCell ⟨w.heap.size,0,none⟩ (.int .i64 0)).cell? ⟨w.heap.size,0,none⟩=some (.int .i64 0):=cell_of_one ((af K2.out 0 _).trans rfl)
 simp [Leaves,settle,results,Try.results18,go_sem,c3]
 exact FH.out
def WOfOk (b:List UInt8) (w:World) (e:Ending) (w':World):Prop:=∃ m:dL,e=.returned (.tuple #[m.val,.int .i64 (T9.ik b).2])∧qA m w'∧m.mg=(T9.ik b).1∧Below w.heap.size w w'
theorem xY {A:Option Addr} {n c:Nat} {b:List UInt8} {w:World} {D:Nat} {td:TypeId} (h:ah w D td A (ae b)) (hn:n=b.length) (hc:n≤c) (hb:n≤1000000000) (hD:D≤w.heap.size) :
  Calls Try.prog 7 #[.slice A n c] w (WOfOk b w):=by
 have hmf:∀ (fn:Fn) (first cap:Array Value) (w:World),(Instr.makeFunc fn first cap).run Try.prog w=.ok (.func fn first cap) w:=fun _ _ _ _=>rfl
 obtain⟨w1,hw1⟩:∃ v,w.alloc (.cells #[.slice A n c] 33)=v:=⟨_,rfl⟩
 obtain⟨w2,hw2⟩:∃ v,w1.alloc (.cells #[.int .i64 0,.int .u64 0,.int .u64 0,.int .u64 0,.int .u64 0,.slice none 0 0,.slice none 0 0,.slice none 0 0,.slice none 0 0] 30)=v:=⟨_,rfl⟩
 obtain⟨w3,hw3⟩:∃ v,w2.alloc (.cells #[.int .i64 0,.int .u64 0,.int .u64 0,.int .u64 0,.int .u64 0,.slice none 0 0,.slice none 0 0,.slice none 0 0,.slice none 0 0] 30)=v:=⟨_,rfl⟩
 have p1:w1.heap[w.heap.size]?=some (.cells #[.slice A n c] 33 (0,0)):=by rw [← hw1];exact heap_alloc_new w _
 have b1:Below w.heap.size w w1:=by rw [← hw1];exact (Below.refl _ w).alloc (Nat.le_refl _) _
 have z1:w1.heap.size=w.heap.size+1:=by rw [← hw1];simp
 obtain⟨p2,b2,z2⟩:=bF hw2
 obtain⟨p3,b3,z3⟩:=bF hw3
 rw [z1] at p2 z2
 rw [z2] at p3 z3
 have B2:=b1.trans (b2.mono (by omega))
 have B3:=hid (B2.trans (b3.mono (by omega)))
 have P2:=hid (ak p2 b3)
 have P3:=hid p3
 have Z3:=hid z3
 have RF:=hid (qd (b0:=w.heap.size) (bm:=w.heap.size+1+1) ((h.more hD).below (Nat.le_refl _) B3.out) hn hc hb (by have:=B3.out.size;omega) (ak (ak p1 b2) b3) p3)
 have HZ1:=hid z1
 clear h hn hc hb hD p1 b1 p2 b2 p3 b3 B2 z3
 go_enter Try.func7,Try.ntmps7
 go_wp2_with fail
 refine RF.out.mono ?_
 rintro e w4 ⟨hg,rfl,hok,hbad⟩
 have rb:w4.heap[w.heap.size+1]?=some (.cells #[.int .i64 0,.int .u64 0,.int .u64 0,.int .u64 0,.int .u64 0,.slice none 0 0,.slice none 0 0,.slice none 0 0,.slice none 0 0] 30 (0,0)):=(hg.block _ (lt_of_block P2.out) (fun e=>by injection e with e;omega)).trans P2.out
 have B4:Hid (Below w.heap.size w w4):=hid (B3.out.grown hg B3.out.size (fun k e=>by injection e with e;omega))
 obtain⟨m,hm,hms,hmb⟩:∃ m:dL,qA m w4∧m.mg=(T9.ik b).1∧nk m (w.heap.size+1+1) w4:=by
  by_cases h0:(T9.ik b).2=0
  ·exact hok h0
  ·exact⟨dL.no,dL.no_wmt _,by rw [T9.sP h0];rfl,(hbad h0).trans P3.out⟩
 have HM:=hid (And.intro hm hms)
 obtain⟨n0,n1,n2,n3,n4,n5,n6,n7,n8⟩:=hmb.cells
 obtain⟨v0,v1,v2,v3,v4,v5,v6,v7,v8⟩:=ai rb
 have f0:=aa rb 0
 have f1:=aa rb 1
 have f2:=aa rb 2
 have f3:=aa rb 3
 have f4:=aa rb 4
 have f5:=aa rb 5
 have f6:=aa rb 6
 have f7:=aa rb 7
 have f8:=aa rb 8
 have PN:=hid (kZ rb (.int .i64 m.kind) (.int .u64 (m.line:Int)) (.int .u64 (m.aQ:Int)) (.int .u64 (m.bZ:Int)) (.int .u64 (m.cu:Int)) (.slice m.A m.is.length m.c) (.slice m.A1 m.las.length m.c1) (.slice m.s.A m.s.ls.length m.s.c) (.slice m.s.A2 m.s.ms.length m.s.c2))
 have TN:=hid (lT (B:=w.heap.size) (t:=30) ⟨_,_,rb⟩ (Nat.le_add_right _ _) (.int .i64 m.kind) (.int .u64 (m.line:Int)) (.int .u64 (m.aQ:Int)) (.int .u64 (m.bZ:Int)) (.int .u64 (m.cu:Int)) (.slice m.A m.is.length m.c) (.slice m.A1 m.las.length m.c1) (.slice m.s.A m.s.ls.length m.s.c) (.slice m.s.A2 m.s.ms.length m.s.c2))
 obtain⟨x0,x1,x2,x3,x4,x5,x6,x7,x8⟩:=ai PN.out
 obtain⟨er,her⟩:∃ r,(T9.ik b).2=r:=⟨_,rfl⟩
 have HER:=hid her
 rw [her]
 clear hm hms hmb hg hok hbad her rb
 go_wp2
 refine bodyPost_ret (v:=.tuple #[.agg #[.int .i64 m.kind,.int .u64 (m.line:Int),.int .u64 (m.aQ:Int),.int .u64 (m.bZ:Int),.int .u64 (m.cu:Int),.slice m.A m.is.length m.c,.slice m.A1 m.las.length m.c1,.slice m.s.A m.s.ls.length m.s.c,.slice m.s.A2 m.s.ms.length m.s.c2],.int .i64 er]) (by simp [results,Try.results7,go_sem,x0,x1,x2,x3,x4,x5,x6,x7,x8]) rfl ?_
 exact⟨m,by rw [HER.out];rfl,HM.out.1.dB TN.out (by decide) (by decide) (by decide) (by decide) (by decide),HM.out.2,B4.out.trans TN.out.below⟩
end
end
end Go.Proofs.Ytcedlgedmkghgaa
