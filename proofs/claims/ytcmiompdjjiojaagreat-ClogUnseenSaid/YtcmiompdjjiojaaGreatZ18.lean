import Derived.Test.YtcmiompdjjiojaaGreatZ17
namespace Go.Proofs.YtcmiompdjjiojaaGreat
set_option maxHeartbeats 16000000
open Go.Lib Go.Proofs.Tryz
set_option linter.unusedSimpArgs false
set_option maxRecDepth 100000
section
section
open Go.RowKit Go.Lib
structure OS (s:aQ) (B:Nat) (w:World):Prop where
 l:dZ w B 61 2 s.A s.ls.length s.c (aL s.ls)
 k:dZ w B 64 7 s.A2 s.ms.length s.c2 (ai s.ms)
 t:bI w B s.ms
theorem dZ.room {w:World} {B:Nat} {t:TypeId} {k n c:Nat} {A:Option Addr} {xs:List Value} (h:dZ w B t k A n c xs):n≤c:=by
 rcases h with⟨q,r⟩ | ⟨g,e,q⟩
 ·omega
 ·exact (aO q).2
theorem OS.MM {s:aQ} {B:Nat} {w:World} (h:OS s B w):kR s w :=
 ⟨h.l.lies (eY _),h.k.lies (aP _),fun x hx=>⟨(h.t.1 x hx).lies (by rw [dE,Nat.mul_one]),(h.t.1 x hx).room⟩,h.l.room,h.k.room⟩
theorem OS.sm {s:aQ} {B:Nat} {w:World} (h:OS s B w):SM s w:=h.MM.sm
theorem OS.bE {s:aQ} {B B':Nat} {w w':World} {ts:List TypeId} (h:OS s B w) (hT:aM B' ts w w') (h1:61 ∉ ts) (h2:64 ∉ ts) (h3:9 ∉ ts):OS s B w':=⟨h.l.bE hT h1,h.k.bE hT h2,h.t.bE hT h3⟩
theorem OS.stay {s:aQ} {B:Nat} {w w':World} (h:OS s B w) (hb:Below w.heap.size w w'):OS s B w':=h.bE (aM.of_below hb (Nat.le_refl _) []) (by simp) (by simp) (by simp)
structure CF (s:aQ) (m:T9.Mu) (B b:Nat) (w:World):Prop where
 st:w.heap[b]?=some (.cells #[.slice s.A s.ls.length s.c,.slice s.A2 s.ms.length s.c2] 26 (0,0))
 mu:kP m (b+1) w
 rv:w.heap[b+2]?=some (.cells #[.slice none 0 0,.slice none 0 0] 26 (0,0))
theorem CF.stay {s:aQ} {m:T9.Mu} {B b:Nat} {w w':World} (h:CF s m B b w) (hb:Below w.heap.size w w'):CF s m B b w':=⟨ae h.st hb,h.mu.stay hb,ae h.rv hb⟩
theorem CF.bE {s:aQ} {m:T9.Mu} {B b B':Nat} {w w':World} {ts:List TypeId} (h:CF s m B b w) (hT:aM B' ts w w') (h1:26 ∉ ts) (h2:57 ∉ ts):CF s m B b w':=⟨hT.blk h.st h1,hT.blk h.mu h2,hT.blk h.rv h1⟩
theorem CF.start {s:aQ} {m:T9.Mu} {B:Nat} {w w1 w2 w3:World} (h1:w.alloc (.cells #[.slice s.A s.ls.length s.c,.slice s.A2 s.ms.length s.c2] 26)=w1) (h2:w1.alloc (.cells #[.int .i64 m.kind,.int .u64 (m.id:Int),.int .u64 (m.list:Int),.string (str m.text),.float .f64 m.f,.bool m.flag] 57)=w2) (h3:w2.alloc (.cells #[.slice none 0 0,.slice none 0 0] 26)=w3) :
  CF s m B w.heap.size w3∧Below w.heap.size w w3∧w1.heap.size=w.heap.size+1∧w2.heap.size=w.heap.size+2:=by
 obtain⟨a1,b1,z1⟩:=aj h1
 obtain⟨a2,b2,z2⟩:=bn h2
 obtain⟨a3,b3,z3⟩:=aj h3
 rw [z1] at a2
 rw [z2,z1] at a3
 exact⟨⟨ae (ae a1 b2) b3,kP.stay (m:=m) a2 b3,a3⟩,b1.trans ((b2.mono (by omega)).trans (b3.mono (by omega))),z1,by omega⟩
theorem CF.turn {s q:aQ} {m:T9.Mu} {B b:Nat} {w:World} (h:CF s m B b w) :
  CF q m B b ((w.setCell ⟨b,0,none⟩ (.slice q.A q.ls.length q.c)).setCell ⟨b,1,none⟩ (.slice q.A2 q.ms.length q.c2))∧aM b [26] w ((w.setCell ⟨b,0,none⟩ (.slice q.A q.ls.length q.c)).setCell ⟨b,1,none⟩ (.slice q.A2 q.ms.length q.c2)):=by
 have y:Ty w b 26:=⟨_,_,h.st⟩
 refine⟨⟨(ah (ah h.st 0 _) 1 _).trans rfl,?_,?_⟩,((aM.refl _ _ w).aB (p:=⟨b,0,none⟩) y (by simp) (Nat.le_refl _) _).aB (p:=⟨b,1,none⟩) (y.set _ _) (by simp) (Nat.le_refl _) _⟩
 ·exact az (az h.mu (p:=⟨b,0,none⟩) (by show b+1≠b;omega) _) (p:=⟨b,1,none⟩) (by show b+1≠b;omega) _
 ·exact az (az h.rv (p:=⟨b,0,none⟩) (by show b+2≠b;omega) _) (p:=⟨b,1,none⟩) (by show b+2≠b;omega) _
theorem CF.turnL {s:aQ} {m:T9.Mu} {B b:Nat} {w:World} (h:CF s m B b w) (A:Option Addr) (ls:List T9.Li) (c:Nat) :
  CF { s with A:=A,ls:=ls,c:=c } m B b (w.setCell ⟨b,0,none⟩ (.slice A ls.length c))∧aM b [26] w (w.setCell ⟨b,0,none⟩ (.slice A ls.length c)):=by
 have y:Ty w b 26:=⟨_,_,h.st⟩
 exact⟨⟨(ah h.st 0 _).trans rfl,az h.mu (p:=⟨b,0,none⟩) (by show b+1≠b;omega) _,az h.rv (p:=⟨b,0,none⟩) (by show b+2≠b;omega) _⟩,(aM.refl _ _ w).aB (p:=⟨b,0,none⟩) y (by simp) (Nat.le_refl _) _⟩
theorem CF.F6 {s:aQ} {m:T9.Mu} {B b:Nat} {w:World} (h:CF s m B b w) (A:Option Addr) (ms:List aN) (c:Nat) :
  CF { s with A2:=A,ms:=ms,c2:=c } m B b (w.setCell ⟨b,1,none⟩ (.slice A ms.length c))∧aM b [26] w (w.setCell ⟨b,1,none⟩ (.slice A ms.length c)):=by
 have y:Ty w b 26:=⟨_,_,h.st⟩
 exact⟨⟨(ah h.st 1 _).trans rfl,az h.mu (p:=⟨b,1,none⟩) (by show b+1≠b;omega) _,az h.rv (p:=⟨b,1,none⟩) (by show b+2≠b;omega) _⟩,(aM.refl _ _ w).aB (p:=⟨b,1,none⟩) y (by simp) (Nat.le_refl _) _⟩
theorem CF.fin {s:aQ} {m:T9.Mu} {B b:Nat} {w w':World} (h:CF s m B b w) (q:kR s w) (hw:(w.setCell ⟨b+2,0,none⟩ (.slice s.A s.ls.length s.c)).setCell ⟨b+2,1,none⟩ (.slice s.A2 s.ms.length s.c2)=w') :
  kR s w'∧Below b w w'∧w'.cell? ⟨b+2,0,none⟩=some (.slice s.A s.ls.length s.c)∧w'.cell? ⟨b+2,1,none⟩=some (.slice s.A2 s.ms.length s.c2):=by
 subst hw
 have y:Ty w (b+2) 26:=⟨_,_,h.rv⟩
 have T:aM b [26] w ((w.setCell ⟨b+2,0,none⟩ (.slice s.A s.ls.length s.c)).setCell ⟨b+2,1,none⟩ (.slice s.A2 s.ms.length s.c2)):=((aM.refl _ _ w).aB (p:=⟨b+2,0,none⟩) y (by simp) (Nat.le_add_right _ _) _).aB (p:=⟨b+2,1,none⟩) (y.set _ _) (by simp) (Nat.le_add_right _ _) _
 have z:=(ah (ah h.rv 0 (.slice s.A s.ls.length s.c)) 1 (.slice s.A2 s.ms.length s.c2)).trans rfl
 exact⟨q.bE T (by decide) (by decide) (by decide),T.below,(aa z).1,(aa z).2⟩
def dO (r:Int × T9.St) (B:Nat) (w:World) (e:Ending) (w':World):Prop :=
 Below B w w'∧(r.1=0→∃ q:aQ,e=.returned q.val∧kR q w'∧q.st=r.2)∧(r.1≠0→e=.panicked [{ v:=.iface 92 (.int .i64 r.1),recovered:=false }])
theorem dO.bad {r:Int × T9.St} {B:Nat} {w w':World} (hb:Below B w w') (h:r.1≠0):dO r B w (.panicked [{ v:=.iface 92 (.int .i64 r.1),recovered:=false }]) w':=⟨hb,fun z=>absurd z h,fun _=>rfl⟩
theorem dO.good {r:Int × T9.St} {B:Nat} {w w':World} {q:aQ} (hb:Below B w w') (hq:kR q w') (hr:r=(0,q.st)):dO r B w (.returned q.val) w':=⟨hb,fun _=>⟨q,rfl,hq,by rw [hr]⟩,fun z=>absurd (by rw [hr]) z⟩
theorem iU {s:T9.St} (h:T9.aJ s=0):s.lists.Pairwise fun x y=>x.id<y.id:=((T9.iM.1 (T9.aF h).2.2.1).2).imp fun q=>of_decide_eq_true q
theorem iT {s:T9.St} (h:T9.aJ s=0):s.tasks.Pairwise fun x y=>x.id<y.id:=((T9.cz.1 (T9.aF h).2.2.2).2).imp fun q=>of_decide_eq_true q
theorem insL_at {ls:List T9.Li} {x:T9.Li} (h:T9.bC ls x.id=false):Sr.ins T9.iY x ls=ls.take (T9.iX ls x.id)++x :: ls.drop (T9.iX ls x.id):=by
 refine Sr.tV fun y hy=>?_
 unfold T9.bC at h
 rw [List.any_eq_false] at h
 have ne:=h y hy
 simp only [beq_iff_eq] at ne
 unfold T9.iY
 rw [decide_eq_true_eq,decide_eq_true_eq]
 omega
theorem insK_at {ls:List T9.Tk} {x:T9.Tk} (h:T9.eB ls x.id=false):Sr.ins T9.jg x ls=ls.take (T9.dW ls x.id)++x :: ls.drop (T9.dW ls x.id):=by
 refine Sr.tV fun y hy=>?_
 unfold T9.eB at h
 rw [List.any_eq_false] at h
 have ne:=h y hy
 simp only [beq_iff_eq] at ne
 unfold T9.jg
 rw [decide_eq_true_eq,decide_eq_true_eq]
 omega
namespace T9
theorem JB {s:St} {id list f:Nat} {text:List UInt8} {flag:Bool} (h:bC s.lists id=true):eD s ⟨1,id,list,text,f,flag⟩=(92,s):=by unfold eD;dsimp only;rw [if_pos rfl,if_pos h]
theorem JE {s:St} {id list f:Nat} {text:List UInt8} {flag:Bool} (h:bC s.lists id=false) (h2:20≤s.lists.length):eD s ⟨1,id,list,text,f,flag⟩=(95,s):=by unfold eD;dsimp only;rw [if_pos rfl,if_neg (by rw [h];decide),if_pos h2]
theorem DD {s:St} {id list f:Nat} {text:List UInt8} {flag:Bool} (h:bC s.lists id=false) (h2:¬ 20≤s.lists.length):eD s ⟨1,id,list,text,f,flag⟩=(0,⟨Sr.ins iY ⟨id,text⟩ s.lists,s.tasks⟩):=by unfold eD;dsimp only;rw [if_pos rfl,if_neg (by rw [h];decide),if_neg h2]
theorem JF {s:St} {id list f:Nat} {text:List UInt8} {flag:Bool} (h:bC s.lists id=false):eD s ⟨2,id,list,text,f,flag⟩=(91,s):=by unfold eD;dsimp only;rw [if_neg (by decide),if_pos rfl,if_pos h]
theorem DI {s:St} {id list f:Nat} {text:List UInt8} {flag:Bool} (h:bC s.lists id=true):eD s ⟨2,id,list,text,f,flag⟩=(0,⟨s.lists.filter fun l=>!(l.id==id),wo s.tasks id false 0⟩):=by unfold eD;dsimp only;rw [if_neg (by decide),if_pos rfl,if_neg (by rw [h];decide)]
theorem E_ {s:St} {id list f:Nat} {text:List UInt8} {flag:Bool} (h:bC s.lists list=false):eD s ⟨12,id,list,text,f,flag⟩=(91,s):=by unfold eD;dsimp only;rw [if_neg (by decide),if_neg (by decide),if_pos rfl,if_pos h]
theorem yG {s:St} {id list f:Nat} {text:List UInt8} {flag:Bool} (h:bC s.lists list=true):eD s ⟨12,id,list,text,f,flag⟩=(0,⟨s.lists,wo s.tasks list true 0⟩):=by unfold eD;dsimp only;rw [if_neg (by decide),if_neg (by decide),if_pos rfl,if_neg (by rw [h];decide)]
theorem Fa {s:St} {id list f:Nat} {text:List UInt8} {flag:Bool} (h:bC s.lists list=false):eD s ⟨13,id,list,text,f,flag⟩=(91,s):=by unfold eD;dsimp only;rw [if_neg (by decide),if_neg (by decide),if_neg (by decide),if_pos rfl,if_pos h]
theorem yH {s:St} {id list f:Nat} {text:List UInt8} {flag:Bool} (h:bC s.lists list=true):eD s ⟨13,id,list,text,f,flag⟩=(0,⟨s.lists,s.tasks.map (oP (lw s.tasks list))⟩):=by unfold eD;dsimp only;rw [if_neg (by decide),if_neg (by decide),if_neg (by decide),if_pos rfl,if_neg (by rw [h];decide)]
theorem JG {s:St} {id list f:Nat} {text:List UInt8} {flag:Bool} (h:eB s.tasks id=true):eD s ⟨3,id,list,text,f,flag⟩=(92,s):=by unfold eD;dsimp only;rw [if_neg (by decide),if_neg (by decide),if_neg (by decide),if_neg (by decide),if_pos rfl,if_pos h]
theorem JH {s:St} {id list f:Nat} {text:List UInt8} {flag:Bool} (h:eB s.tasks id=false) (h2:bC s.lists list=false):eD s ⟨3,id,list,text,f,flag⟩=(91,s):=by unfold eD;dsimp only;rw [if_neg (by decide),if_neg (by decide),if_neg (by decide),if_neg (by decide),if_pos rfl,if_neg (by rw [h];decide),if_pos h2]
theorem JI {s:St} {id list f:Nat} {text:List UInt8} {flag:Bool} (h:eB s.tasks id=false) (h2:bC s.lists list=true) (h3:60≤s.tasks.length):eD s ⟨3,id,list,text,f,flag⟩=(95,s):=by unfold eD;dsimp only;rw [if_neg (by decide),if_neg (by decide),if_neg (by decide),if_neg (by decide),if_pos rfl,if_neg (by rw [h];decide),if_neg (by rw [h2];decide),if_pos h3]
theorem JJ {s:St} {id list f:Nat} {text:List UInt8} {flag:Bool} (h:eB s.tasks id=false) (h2:bC s.lists list=true) (h3:¬ 60≤s.tasks.length):eD s ⟨3,id,list,text,f,flag⟩=(0,⟨s.lists,Sr.ins jg ⟨id,list,text,false,f,Fl.iF,[]⟩ s.tasks⟩):=by unfold eD;dsimp only;rw [if_neg (by decide),if_neg (by decide),if_neg (by decide),if_neg (by decide),if_pos rfl,if_neg (by rw [h];decide),if_neg (by rw [h2];decide),if_neg h3]
theorem mU {s:St} {k:Int} {id list f:Nat} {text:List UInt8} {flag:Bool} (hk:k=4∨k=5∨k=6∨k=7∨k=8∨k=9∨k=10∨k=11) (h:eB s.tasks id=false):eD s ⟨k,id,list,text,f,flag⟩=(93,s):=by unfold eD;dsimp only;rw [if_neg (by omega),if_neg (by omega),if_neg (by omega),if_neg (by omega),if_neg (by omega),if_pos h]
theorem mV {s:St} {k:Int} {id list f:Nat} {text:List UInt8} {flag:Bool} (hk:k=4∨k=5∨k=6∨k=7∨k=8∨k=9∨k=10) (h:eB s.tasks id=true):eD s ⟨k,id,list,text,f,flag⟩=((pX (bC s.lists list) ⟨k,id,list,text,f,flag⟩ (dJ s.tasks id).1).1,⟨s.lists,Sr.ins jg (pX (bC s.lists list) ⟨k,id,list,text,f,flag⟩ (dJ s.tasks id).1).2 (wo s.tasks 0 false id)⟩):=by unfold eD;dsimp only;rw [if_neg (by omega),if_neg (by omega),if_neg (by omega),if_neg (by omega),if_neg (by omega),if_neg (by rw [h];decide),if_neg (by omega)]
theorem yF {s:St} {id list f:Nat} {text:List UInt8} {flag:Bool} (h:eB s.tasks id=true):eD s ⟨11,id,list,text,f,flag⟩=(0,⟨s.lists,wo s.tasks 0 false id⟩):=by unfold eD;dsimp only;rw [if_neg (by decide),if_neg (by decide),if_neg (by decide),if_neg (by decide),if_neg (by decide),if_neg (by rw [h];decide),if_pos rfl]
end T9
theorem bs11L (a b:Value) (w:World):(Instr.buildSlice 23 1 #[(0,.agg #[a,b])]).run prog w=.ok (.slice (some ⟨w.heap.size,0,none⟩) 1 1) (w.alloc (.cells #[a,b] 61)):=by
 obtain⟨i0,hi,hz0,hz1,hz2⟩:=info_parts Tryz.infoLi9
 exact dH w 23 61 #[a,b] i0 _ underlying23 hi hz0 hz1 (by simp) (by simp)
theorem bl11L (a:Int) (b:ByteArray) (w:World):(Instr.build 61 #[(0,.int .u64 a),(1,.string b)]).run prog w=.ok (.agg #[.int .u64 a,.string b]) w:=run_build w 61 _ _ (by kernel_rfl)
theorem chg1_c {s:aQ} {u:T9.Mu} {B:Nat} {w:World} (h:OS s B w) (hB:B≤w.heap.size) (hr:T9.aJ s.st=0) (hk:u.kind=1) :
  Calls prog 79 #[s.val,u.val] w (dO (T9.eD s.st u) B w):=by
 obtain⟨kd,id,list,text,f,flag⟩:=u
 obtain rfl:kd=1:=hk
 obtain⟨w1,hw1⟩:=nm (w.alloc (.cells #[.slice s.A s.ls.length s.c,.slice s.A2 s.ms.length s.c2] 26))
 obtain⟨w2,hw2⟩:=nm (w1.alloc (.cells #[.int .i64 1,.int .u64 (id:Int),.int .u64 (list:Int),.string (str text),.float .f64 f,.bool flag] 57))
 obtain⟨w3,hw3⟩:=nm (w2.alloc (.cells #[.slice none 0 0,.slice none 0 0] 26))
 obtain⟨cf,b3,z1,z2⟩:=CF.start (s:=s) (m:=⟨1,id,list,text,f,flag⟩) (B:=B) hw1 hw2 hw3
 have C3:=hid cf
 have B3:=hid b3
 have O3:=hid (h.stay b3)
 have HB:=hid hB
 have O0:=hid h
 have UL:=hid (iU hr)
 have UK:=hid (iT hr)
 obtain⟨s0,s1⟩:=aa cf.st
 obtain⟨m0,m1,m2,m3,m4,m5⟩:=ag cf.mu
 have nl:s.ls.length≤20:=(T9.aF hr).1
 have nk:s.ms.length≤60:=by have:=(T9.aF hr).2.1;simpa [aQ.st,ay] using this
 obtain⟨R,hR⟩:=nm (T9.eD s.st ⟨1,id,list,text,f,flag⟩)
 rw [hR]
 have HR:=hid hR
 have Gd:=hid hr
 unfold aQ.val T9.Mu.val
 dsimp only
 clear h hB hr cf b3 hR
 have LC:=hid (uZ (id:=id) O3.out.sm (by omega) UL.out)
 obtain⟨hh,gU⟩:=nm (T9.bC s.ls id)
 obtain⟨pp,gy⟩:=nm (T9.iX s.ls id)
 rw [gU,gy] at LC
 have HH:=hid gU
 have HP:=hid gy
 unfold aQ.val at LC
 clear gU gy
 go_enter func79,ntmps79
 go_wp2_with fail
 refine LC.out.mono ?_
 rintro e w4 ⟨rfl,h4⟩
 have C4:=hid (C3.out.stay h4)
 have O4:=hid (O3.out.stay h4)
 have B4:=hid (B3.out.trans (h4.mono B3.out.size))
 clear h4 s0 s1 m0 m1 m2 m3 m4 m5
 obtain⟨s0,s1⟩:=aa C4.out.st
 obtain⟨m0,m1,m2,m3,m4,m5⟩:=ag C4.out.mu
 cases hh with
 | true =>
  go_wp2_with (go_at_call 95;refine (eZ _ _).mono ?_;rintro e w' ⟨rfl,rfl⟩)
  have e:R=(92,s.st):=HR.out.symm.trans (T9.JB HH.out)
  subst e
  exact⟨rfl,dO.bad (B4.out.mono HB.out) (show (92:Int)≠0 by decide)⟩
 | false =>
  by_cases h20:20≤s.ls.length
  ·have h20z:(20:Int)≤(s.ls.length:Int):=by omega
   have h20d:decide ((20:Int)≤(s.ls.length:Int))=true:=decide_eq_true h20z
   have h20n:decide (20≤s.ls.length)=true:=decide_eq_true h20
   go_wp2_with (first | (go_at_call 95;(with_reducible refine (fD 92 _).mono ?_);rintro e w' ⟨rfl,rfl⟩) | (go_at_call 95;refine (eZ _ _).mono ?_;rintro e w' ⟨rfl,rfl⟩))
   have e:R=(95,s.st):=HR.out.symm.trans (T9.JE HH.out h20)
   subst e
   exact⟨rfl,dO.bad (B4.out.mono HB.out) (show (95:Int)≠0 by decide)⟩
  ·have h20z:¬ ((20:Int)≤(s.ls.length:Int)):=by omega
   have h20d:decide ((20:Int)≤(s.ls.length:Int))=false:=decide_eq_false h20z
   have h20n:decide (20≤s.ls.length)=false:=decide_eq_false h20
   have hbl:=bl11L (id:Int) (str text)
   have hbs:=bs11L (.int .u64 (id:Int)) (.string (str text))
   obtain⟨w5,fV⟩:=nm (w4.alloc (.cells #[.int .u64 (id:Int),.string (str text)] 61))
   obtain⟨lb,b5,z5⟩:=aj fV
   have PP:pp≤s.ls.length:=by rw [← HP.out];exact Sr.pO
   have C5:=hid (C4.out.stay b5)
   have O5:=hid (O4.out.stay b5)
   have B5:=hid (B4.out.trans (b5.mono B4.out.size))
   have NE:Hid (oJ s.A s.c≠some w4.heap.size):=hid fun e=>by
    rcases O4.out.l.parts with⟨_,q⟩ | ⟨g,e2,c0,q⟩
    ·rw [show oJ s.A s.c=none by unfold oJ;rw [if_pos q]] at e;cases e
    ·rw [e2,aY c0] at e
     injection e with e
     have:=(q.lt g rfl).2
     omega
   have IC:=hid (GM (p:=pp) (v:=a_ ⟨id,text⟩) O5.out.l (eY _) (iL _) lb rfl (lD _) PP NE.out (by omega) (Nat.le_trans HB.out B5.out.size))
   obtain⟨t0,t1⟩:=aa C5.out.st
   clear lb b5 z5
   go_wp2_with (go_at_call 95;refine (fD _ _).mono ?_;rintro e w' ⟨rfl,rfl⟩)
   refine IC.out.mono ?_
   rintro e w6 ⟨A',c',rfl,ho,hg,hb⟩
   have T6:=hid (O5.out.l.nQ hg (Nat.le_trans HB.out B5.out.size))
   have LN:Hid ((s.ls.take pp++(⟨id,text⟩:T9.Li) :: s.ls.drop pp).length=s.ls.length+1):=hid (by rw [List.length_append,List.length_cons,List.length_take,List.length_drop];omega)
   have O6:Hid (OS { s with A:=A',ls:=s.ls.take pp++(⟨id,text⟩:T9.Li) :: s.ls.drop pp,c:=c' } B w6):=hid ⟨by
    show dZ w6 B _ 2 A' (s.ls.take pp++(⟨id,text⟩:T9.Li) :: s.ls.drop pp).length c' _
    rw [LN.out]
    rw [kW,kV] at ho
    have e:aL (s.ls.take pp++(⟨id,text⟩:T9.Li) :: s.ls.drop pp)=aL (s.ls.take pp)++a_ ⟨id,text⟩++aL (s.ls.drop pp):=by simp [aL]
    rw [e]
    exact ho,O5.out.k.bE T6.out (by decide),O5.out.t.bE T6.out (by decide)⟩
   have C6:=hid (C5.out.bE T6.out (by decide) (by decide))
   have ER:Hid (R=(0,⟨s.ls.take pp++(⟨id,text⟩:T9.Li) :: s.ls.drop pp,ay s.ms⟩)):=hid (by
    refine HR.out.symm.trans ((T9.DD HH.out h20).trans ?_)
    show (0,T9.St.mk (Sr.ins T9.iY ⟨id,text⟩ s.ls) (ay s.ms))=_
    rw [insL_at (x:=⟨id,text⟩) HH.out,HP.out])
   clear ho hg hb t0 t1 s0 s1
   obtain⟨t0,t1⟩:=aa C6.out.st
   have f0:=af C6.out.st 0
   have TL:=C6.out.turnL A' (s.ls.take pp++(⟨id,text⟩:T9.Li) :: s.ls.drop pp) c'
   rw [LN.out] at TL
   obtain⟨w7,hw7⟩:=nm (w6.setCell ⟨w.heap.size,0,none⟩ (.slice A' (s.ls.length+1) c'))
   rw [hw7] at TL
   have C7:=hid TL.1
   have T7:=hid TL.2
   have O7:=hid (O6.out.bE T7.out (by decide) (by decide) (by decide))
   clear TL
   obtain⟨wz,hwz⟩:=nm ((w7.setCell ⟨w.heap.size+2,0,none⟩ (Value.slice A' (s.ls.length+1) c')).setCell ⟨w.heap.size+2,1,none⟩ (Value.slice s.A2 s.ms.length s.c2))
   have FN:=hid (C7.out.fin (w':=wz) O7.out.MM (by dsimp only;rw [LN.out];exact hwz))
   have g0:=af C7.out.rv 0
   have g1:=af C7.out.rv 1
   obtain⟨u0,u1⟩:=aa C7.out.st
   obtain⟨v0,v1⟩:=aa C7.out.rv
   have y0:=FN.out.2.2.1
   have y1:=FN.out.2.2.2
   dsimp only at u0 u1 y0 y1
   try rw [LN.out] at u0
   try rw [LN.out] at u1
   try rw [LN.out] at y0
   try rw [LN.out] at y1
   go_wp2
   refine bodyPost_ret (v:=.agg #[Value.slice A' (s.ls.length+1) c',Value.slice s.A2 s.ms.length s.c2]) (by simp [results,results79,go_sem,y0,y1]) rfl ?_
   have G:=dO.good (r:=R) (B:=B) (w:=w) ((((B5.out.mono HB.out).trans T6.out.below).trans (T7.out.below.mono HB.out)).trans (FN.out.2.1.mono HB.out)) FN.out.1 ER.out
   unfold aQ.val at G
   dsimp only at G
   rw [LN.out] at G
   exact G
end
section
open Go.RowKit Go.Lib
theorem bI.filter {w:World} {B:Nat} {ms:List aN} (h:bI w B ms) (p:aN→Bool):bI w B (ms.filter p):=⟨fun m hm=>h.1 m (List.mem_filter.1 hm).1,List.Pairwise.filter _ h.2⟩
theorem wF (p:T9.Tk→Bool) (ms:List aN):ay (ms.filter fun m=>!p m.t)=(ay ms).filter fun t=>!p t:=by
 unfold ay
 rw [List.filter_map]
 rfl
theorem Ak {A:Option Addr} {n c p B:Nat} {xs:List Value} {w:World} (h:dZ w B 61 2 A n c xs) (h1:∀ u∈xs,u.oneCell'=true) (hp:p<n) (hs:n≤1001) :
  Calls prog 104 #[.slice A n c,.int .i64 (p:Int),.int .i64 ((p:Int)+1)] w (pE 61 2 A c (xs.take (p * 2)++xs.drop ((p+1) * 2)) (n - 1) B w):=by
 obtain⟨g,rfl,c0,own⟩:=h.parts.resolve_left (fun q=>by omega)
 obtain⟨m,rfl⟩:∃ m,n=m+1:=⟨n - 1,by omega⟩
 rw [Nat.add_sub_cancel]
 exact Gv own h1 (by omega) (by omega)
theorem Aj {A:Option Addr} {n c p B:Nat} {xs:List Value} {w:World} (h:dZ w B 64 7 A n c xs) (h1:∀ u∈xs,u.oneCell'=true) (hp:p<n) (hs:n≤1001) :
  Calls prog 112 #[.slice A n c,.int .i64 (p:Int),.int .i64 ((p:Int)+1)] w (pE 64 7 A c (xs.take (p * 7)++xs.drop ((p+1) * 7)) (n - 1) B w):=by
 obtain⟨g,rfl,c0,own⟩:=h.parts.resolve_left (fun q=>by omega)
 obtain⟨m,rfl⟩:∃ m,n=m+1:=⟨n - 1,by omega⟩
 rw [Nat.add_sub_cancel]
 exact Gu own h1 (by omega) (by omega)
theorem bI.sub {w:World} {B:Nat} {ms ns:List aN} (h:bI w B ms) (hs:ns.Sublist ms):bI w B ns:=⟨fun m hm=>h.1 m (hs.subset hm),h.2.sublist hs⟩
theorem cut_sub {α:Type} (l:List α) (p:Nat):(l.take p++l.drop (p+1)).Sublist l:=by
 conv=>rhs;rw [← List.take_append_drop p l]
 refine List.Sublist.append_left ?_ _
 have q:=List.drop_sublist 1 (l.drop p)
 rw [List.drop_drop] at q
 exact q
namespace T9
theorem Fb {l:List Tk} {id:Nat} (hu:l.Pairwise fun x y=>x.id<y.id) (h:eB l id=true):wo l 0 false id=l.take (dW l id)++l.drop (dW l id+1):=by
 have e:wo l 0 false id=l.filter fun y=>!(y.id==id):=by
  unfold wo
  refine List.filter_congr fun t _=>?_
  simp
 rw [e]
 obtain⟨y,hy,rfl⟩:=(lW hu).1 h
 obtain⟨hp,ey⟩:=List.getElem?_eq_some_iff.1 hy
 conv=>lhs;rw [← List.take_append_drop (dW l y.id) l]
 rw [List.filter_append,List.drop_eq_getElem_cons hp,ey,List.filter_cons,if_neg (by simp)]
 congr 1
 ·rw [List.filter_eq_self]
  intro z hz
  obtain⟨i,hi,rfl⟩:=List.mem_iff_getElem.1 hz
  rw [List.length_take] at hi
  have:=List.pairwise_iff_getElem.1 hu i (dW l y.id) (by omega) hp (by omega)
  rw [ey] at this
  rw [List.getElem_take]
  have ne:¬ l[i].id=y.id:=by omega
  simp [ne]
 ·rw [List.filter_eq_self]
  intro z hz
  obtain⟨i,hi,rfl⟩:=List.mem_iff_getElem.1 hz
  rw [List.length_drop] at hi
  have:=List.pairwise_iff_getElem.1 hu (dW l y.id) (dW l y.id+1+i) hp (by omega) (by omega)
  rw [ey] at this
  rw [List.getElem_drop]
  have ne:¬ l[dW l y.id+1+i].id=y.id:=by omega
  simp [ne]
theorem Fg {l:List Tk} {id:Nat} {t:Tk} (hu:l.Pairwise fun x y=>x.id<y.id) (h:eB l id=true) (ht:t.id=id):Sr.ins jg t (wo l 0 false id)=l.set (dW l id) t:=by
 rw [Fb hu h]
 obtain⟨y,hy,ey⟩:=(lW hu).1 h
 have hp:=(List.getElem?_eq_some_iff.1 hy).1
 have tl:(l.take (dW l id)).length=dW l id:=by rw [List.length_take];omega
 have t1:(l.take (dW l id)++l.drop (dW l id+1)).take (dW l id)=l.take (dW l id):=List.take_left' tl
 have d1:(l.take (dW l id)++l.drop (dW l id+1)).drop (dW l id)=l.drop (dW l id+1):=List.drop_left' tl
 rw [Sr.gV (i:=dW l id) (fun z hz=>?_) (fun z hz=>?_),t1,d1,List.set_eq_take_append_cons_drop,if_pos hp]
 ·rw [t1] at hz
  obtain⟨i,hi,rfl⟩:=List.mem_iff_getElem.1 hz
  rw [List.length_take] at hi
  rw [List.getElem_take]
  unfold jg
  rw [decide_eq_true_eq,ht]
  exact (Bv hu (List.getElem?_eq_getElem (by omega))).1 (by omega)
 ·rw [List.getElem?_append_right (by rw [tl];exact Nat.le_refl _),tl,Nat.sub_self,List.getElem?_drop,Nat.add_zero] at hz
  have q:=(List.getElem?_eq_some_iff.1 hz).1
  have:=List.pairwise_iff_getElem.1 hu (dW l id) (dW l id+1) hp q (by omega)
  rw [(List.getElem?_eq_some_iff.1 hz).2,(List.getElem?_eq_some_iff.1 hy).2,ey] at this
  unfold jg
  rw [decide_eq_false_iff_not,decide_eq_true_eq,ht]
  omega
theorem Ao {l:List Tk} {id:Nat} (hu:l.Pairwise fun x y=>x.id<y.id) (h:eB l id=true):l[dW l id]?=some (dJ l id).1∧(dJ l id).1.id=id:=by
 obtain⟨y,hy,ey⟩:=(lW hu).1 h
 have q:=Gy (hu.imp fun h=>by omega) (List.mem_of_getElem? hy)
 rw [ey] at q
 rw [q]
 exact⟨hy,ey⟩
theorem filL_at {l:List Li} {id:Nat} (hu:l.Pairwise fun x y=>x.id<y.id) (h:bC l id=true):(l.filter fun y=>!(y.id==id))=l.take (iX l id)++l.drop (iX l id+1):=by
 obtain⟨y,hy,rfl⟩:=(qF hu).1 h
 obtain⟨hp,ey⟩:=List.getElem?_eq_some_iff.1 hy
 conv=>lhs;rw [← List.take_append_drop (iX l y.id) l]
 rw [List.filter_append,List.drop_eq_getElem_cons hp,ey,List.filter_cons,if_neg (by simp)]
 congr 1
 ·rw [List.filter_eq_self]
  intro z hz
  obtain⟨i,hi,rfl⟩:=List.mem_iff_getElem.1 hz
  rw [List.length_take] at hi
  have:=List.pairwise_iff_getElem.1 hu i (iX l y.id) (by omega) hp (by omega)
  rw [ey] at this
  rw [List.getElem_take]
  have ne:¬ l[i].id=y.id:=by omega
  simp [ne]
 ·rw [List.filter_eq_self]
  intro z hz
  obtain⟨i,hi,rfl⟩:=List.mem_iff_getElem.1 hz
  rw [List.length_drop] at hi
  have:=List.pairwise_iff_getElem.1 hu (iX l y.id) (iX l y.id+1+i) hp (by omega) (by omega)
  rw [ey] at this
  rw [List.getElem_drop]
  have ne:¬ l[iX l y.id+1+i].id=y.id:=by omega
  simp [ne]
theorem wo_drop {s:St} {id:Nat} (h:aJ s=0) (hh:bC s.lists id=true):wo s.tasks id false 0=s.tasks.filter fun t=>!(t.list==id):=by
 obtain⟨h1,h2,h3,h4⟩:=aF h
 obtain⟨l,hl,e⟩:=lG.1 hh
 have p:=((iM.1 h3).1 l hl).1
 unfold wo
 refine List.filter_congr fun t ht=>?_
 have q:=((cz.1 h4).1 t ht).1
 have a:(t.id==0)=false:=by rw [beq_eq_false_iff_ne];omega
 have b:(id==0)=false:=by rw [beq_eq_false_iff_ne];omega
 rw [a,b]
 simp
theorem Mw {s:St} {id:Nat} (h:aJ s=0) (hh:bC s.lists id=true):wo s.tasks id true 0=s.tasks.filter fun t=>!(t.list==id && t.done):=by
 obtain⟨h1,h2,h3,h4⟩:=aF h
 obtain⟨l,hl,e⟩:=lG.1 hh
 have p:=((iM.1 h3).1 l hl).1
 unfold wo
 refine List.filter_congr fun t ht=>?_
 have q:=((cz.1 h4).1 t ht).1
 have a:(t.id==0)=false:=by rw [beq_eq_false_iff_ne];omega
 have b:(id==0)=false:=by rw [beq_eq_false_iff_ne];omega
 rw [a,b]
 simp
end T9
theorem chg12_c {s:aQ} {u:T9.Mu} {B:Nat} {w:World} (h:OS s B w) (hB:B≤w.heap.size) (hr:T9.aJ s.st=0) (hk:u.kind=12) :
  Calls prog 79 #[s.val,u.val] w (dO (T9.eD s.st u) B w):=by
 obtain⟨kd,id,list,text,f,flag⟩:=u
 obtain rfl:kd=12:=hk
 obtain⟨w1,hw1⟩:=nm (w.alloc (.cells #[.slice s.A s.ls.length s.c,.slice s.A2 s.ms.length s.c2] 26))
 obtain⟨w2,hw2⟩:=nm (w1.alloc (.cells #[.int .i64 12,.int .u64 (id:Int),.int .u64 (list:Int),.string (str text),.float .f64 f,.bool flag] 57))
 obtain⟨w3,hw3⟩:=nm (w2.alloc (.cells #[.slice none 0 0,.slice none 0 0] 26))
 obtain⟨cf,b3,z1,z2⟩:=CF.start (s:=s) (m:=⟨12,id,list,text,f,flag⟩) (B:=B) hw1 hw2 hw3
 have C3:=hid cf
 have B3:=hid b3
 have O3:=hid (h.stay b3)
 have HB:=hid hB
 have O0:=hid h
 have UL:=hid (iU hr)
 have UK:=hid (iT hr)
 obtain⟨s0,s1⟩:=aa cf.st
 obtain⟨m0,m1,m2,m3,m4,m5⟩:=ag cf.mu
 have nl:s.ls.length≤20:=(T9.aF hr).1
 have nk:s.ms.length≤60:=by have:=(T9.aF hr).2.1;simpa [aQ.st,ay] using this
 obtain⟨R,hR⟩:=nm (T9.eD s.st ⟨12,id,list,text,f,flag⟩)
 rw [hR]
 have HR:=hid hR
 have Gd:=hid hr
 unfold aQ.val T9.Mu.val
 dsimp only
 clear h hB hr cf b3 hR
 obtain⟨pp,gy⟩:=nm (T9.iX (s.ls) list)
 have HP:=hid gy
 cases gU:T9.bC (s.ls) list with
 | false =>
  have LC:=hid (jI (id:=list) O3.out.sm (by omega) UL.out gU)
  have e:R=(91,s.st):=HR.out.symm.trans (T9.E_  gU)
  have E:=hid e
  unfold aQ.val at LC
  clear gy gU e
  go_enter func79,ntmps79
  go_wp2_with fail
  refine LC.out.mono ?_
  rintro e w4 ⟨rfl,h4⟩
  have B4:=hid (B3.out.trans (h4.mono B3.out.size))
  rw [E.out]
  exact⟨rfl,dO.bad (B4.out.mono HB.out) (show (91:Int)≠0 by decide)⟩
 | true =>
  have LC:=hid (je (id:=list) O3.out.sm (by omega) UL.out gU)
  rw [gy] at LC
  have HH:=hid gU
  have PP:pp<s.ls.length:=by
   obtain⟨y,hy,_⟩:=(T9.qF UL.out).1 gU
   have z:T9.iX (s.ls) list<(s.ls).length:=(List.getElem?_eq_some_iff.1 hy).1
   rw [gy] at z
   exact z
  unfold aQ.val at LC
  clear gy gU
  go_enter func79,ntmps79
  go_wp2_with fail
  refine LC.out.mono ?_
  rintro e w4 ⟨rfl,h4⟩
  have C4:=hid (C3.out.stay h4)
  have O4:=hid (O3.out.stay h4)
  have B4:=hid (B3.out.trans (h4.mono B3.out.size))
  have D4:=hid (B4.out.mono HB.out)
  clear h4
  clear s0 s1 m0 m1 m2 m3 m4 m5
  obtain⟨s0,s1⟩:=aa C4.out.st
  obtain⟨m0,m1,m2,m3,m4,m5⟩:=ag C4.out.mu
  have hmf:∀ (fn:Fn) (first cap:Array Value) (w:World),(Instr.makeFunc fn first cap).run prog w=.ok (.func fn first cap) w:=fun _ _ _ _=>rfl
  have DF0:=xA (p:=(fun t:T9.Tk=>t.list==list && t.done)) O4.out.k rfl (fun m hm=>(O4.out.MM.t m hm).fine) C4.out.mu (show s.ms.length≤1000 by omega) (fun args w=>Tryz.call107 args w) (fun m W hm=>goneD_c m W hm)
  obtain⟨ns,hns⟩:=nm ((s.ms.filter fun m=>!(fun t:T9.Tk=>t.list==list && t.done) m.t))
  rw [hns] at DF0
  have DF:=hid DF0
  have MG:=hid hns
  clear DF0 hns
  go_wp2_with fail
  refine DF.out.mono ?_
  rintro e w5 ⟨A9,c9,rfl,ho,hg,hb⟩
  have T5:=hid (O4.out.k.nQ hg (Nat.le_trans HB.out D4.out.size))
  have O5:Hid (OS { s with A2:=A9,ms:=ns,c2:=c9 } B w5):=hid ⟨O4.out.l.bE T5.out (by decide),ho,by have q:=(O4.out.t.bE T5.out (by decide)).filter (fun m=>!(fun t:T9.Tk=>t.list==list && t.done) m.t);rw [MG.out] at q;exact q⟩
  have C5:=hid (C4.out.bE T5.out (by decide) (by decide))
  have D5:Hid (Below B w w5):=hid (D4.out.trans T5.out.below)
  clear ho hg hb s0 s1
  obtain⟨s0,s1⟩:=aa C5.out.st
  have f1:=af C5.out.st 1
  have TK:=C5.out.F6 A9 ns c9
  obtain⟨w6,xI⟩:=nm (w5.setCell ⟨w.heap.size,1,none⟩ (.slice A9 ns.length c9))
  rw [xI] at TK
  have C6:=hid TK.1
  have T6:=hid TK.2
  have D6:Hid (Below B w w6):=hid (D5.out.trans (T6.out.below.mono HB.out))
  have O6:=hid (O5.out.bE T6.out (by decide) (by decide) (by decide))
  clear TK
  have ER:Hid (R=(0,⟨s.ls,ay ns⟩)):=hid (by
   refine HR.out.symm.trans ((T9.yG HH.out).trans ?_)
   rw [T9.Mw Gd.out HH.out,← MG.out,wF (fun t=>t.list==list && t.done)]
   rfl)
  obtain⟨wz,hwz⟩:=nm ((w6.setCell ⟨w.heap.size+2,0,none⟩ (Value.slice s.A s.ls.length s.c)).setCell ⟨w.heap.size+2,1,none⟩ (Value.slice A9 ns.length c9))
  have FN:=hid (C6.out.fin (w':=wz) O6.out.MM (by dsimp only;exact hwz))
  have g0:=af C6.out.rv 0
  have g1:=af C6.out.rv 1
  obtain⟨u0,u1⟩:=aa C6.out.st
  obtain⟨v0,v1⟩:=aa C6.out.rv
  have y0:=FN.out.2.2.1
  have y1:=FN.out.2.2.2
  dsimp only at u0 u1 y0 y1
  skip
  go_wp2
  refine bodyPost_ret (v:=.agg #[Value.slice s.A s.ls.length s.c,Value.slice A9 ns.length c9]) (by simp [results,results79,go_sem,y0,y1]) rfl ?_
  have G:=dO.good (r:=R) (B:=B) (w:=w) ((D6.out).trans (FN.out.2.1.mono HB.out)) FN.out.1 ER.out
  unfold aQ.val at G
  dsimp only at G
  skip
  exact G
theorem chg2_c {s:aQ} {u:T9.Mu} {B:Nat} {w:World} (h:OS s B w) (hB:B≤w.heap.size) (hr:T9.aJ s.st=0) (hk:u.kind=2) :
  Calls prog 79 #[s.val,u.val] w (dO (T9.eD s.st u) B w):=by
 obtain⟨kd,id,list,text,f,flag⟩:=u
 obtain rfl:kd=2:=hk
 obtain⟨w1,hw1⟩:=nm (w.alloc (.cells #[.slice s.A s.ls.length s.c,.slice s.A2 s.ms.length s.c2] 26))
 obtain⟨w2,hw2⟩:=nm (w1.alloc (.cells #[.int .i64 2,.int .u64 (id:Int),.int .u64 (list:Int),.string (str text),.float .f64 f,.bool flag] 57))
 obtain⟨w3,hw3⟩:=nm (w2.alloc (.cells #[.slice none 0 0,.slice none 0 0] 26))
 obtain⟨cf,b3,z1,z2⟩:=CF.start (s:=s) (m:=⟨2,id,list,text,f,flag⟩) (B:=B) hw1 hw2 hw3
 have C3:=hid cf
 have B3:=hid b3
 have O3:=hid (h.stay b3)
 have HB:=hid hB
 have O0:=hid h
 have UL:=hid (iU hr)
 have UK:=hid (iT hr)
 obtain⟨s0,s1⟩:=aa cf.st
 obtain⟨m0,m1,m2,m3,m4,m5⟩:=ag cf.mu
 have nl:s.ls.length≤20:=(T9.aF hr).1
 have nk:s.ms.length≤60:=by have:=(T9.aF hr).2.1;simpa [aQ.st,ay] using this
 obtain⟨R,hR⟩:=nm (T9.eD s.st ⟨2,id,list,text,f,flag⟩)
 rw [hR]
 have HR:=hid hR
 have Gd:=hid hr
 unfold aQ.val T9.Mu.val
 dsimp only
 clear h hB hr cf b3 hR
 obtain⟨pp,gy⟩:=nm (T9.iX (s.ls) id)
 have HP:=hid gy
 cases gU:T9.bC (s.ls) id with
 | false =>
  have LC:=hid (jI (id:=id) O3.out.sm (by omega) UL.out gU)
  have e:R=(91,s.st):=HR.out.symm.trans (T9.JF  gU)
  have E:=hid e
  unfold aQ.val at LC
  clear gy gU e
  go_enter func79,ntmps79
  go_wp2_with fail
  refine LC.out.mono ?_
  rintro e w4 ⟨rfl,h4⟩
  have B4:=hid (B3.out.trans (h4.mono B3.out.size))
  rw [E.out]
  exact⟨rfl,dO.bad (B4.out.mono HB.out) (show (91:Int)≠0 by decide)⟩
 | true =>
  have LC:=hid (je (id:=id) O3.out.sm (by omega) UL.out gU)
  rw [gy] at LC
  have HH:=hid gU
  have PP:pp<s.ls.length:=by
   obtain⟨y,hy,_⟩:=(T9.qF UL.out).1 gU
   have z:T9.iX (s.ls) id<(s.ls).length:=(List.getElem?_eq_some_iff.1 hy).1
   rw [gy] at z
   exact z
  unfold aQ.val at LC
  clear gy gU
  go_enter func79,ntmps79
  go_wp2_with fail
  refine LC.out.mono ?_
  rintro e w4 ⟨rfl,h4⟩
  have C4:=hid (C3.out.stay h4)
  have O4:=hid (O3.out.stay h4)
  have B4:=hid (B3.out.trans (h4.mono B3.out.size))
  have D4:=hid (B4.out.mono HB.out)
  clear h4
  clear s0 s1 m0 m1 m2 m3 m4 m5
  obtain⟨s0,s1⟩:=aa C4.out.st
  obtain⟨m0,m1,m2,m3,m4,m5⟩:=ag C4.out.mu
  have kQ:IntKind.i64.wrap ((pp:Int)+1)=(pp:Int)+1:=by rw [IntKind.wrap_i64];omega
  obtain⟨Cw,hnls⟩:=nm (s.ls.take pp++s.ls.drop (pp+1))
  have oC:=hid hnls
  have LN:Cw.length=s.ls.length - 1:=by rw [← hnls,List.length_append,List.length_take,List.length_drop];omega
  have DL0:=Ak (p:=pp) O4.out.l (iL _) PP (by omega)
  rw [← LN,kW,kV] at DL0
  have DL:=hid DL0
  clear DL0 LN hnls
  go_wp2_with fail
  refine DL.out.mono ?_
  rintro e w5 ⟨A',c',rfl,ho,hg,hb⟩
  have T5:=hid (O4.out.l.nQ hg (Nat.le_trans HB.out D4.out.size))
  have O5:Hid (OS { s with A:=A',ls:=Cw,c:=c' } B w5):=hid ⟨by
   have e:aL Cw=aL (s.ls.take pp)++aL (s.ls.drop (pp+1)):=by rw [← oC.out];simp [aL]
   show dZ w5 B _ 2 A' Cw.length c' (aL Cw)
   rw [e]
   exact ho,O4.out.k.bE T5.out (by decide),O4.out.t.bE T5.out (by decide)⟩
  have C5:=hid (C4.out.bE T5.out (by decide) (by decide))
  have D5:Hid (Below B w w5):=hid (D4.out.trans T5.out.below)
  clear ho hg hb s0 s1 m0 m1 m2 m3 m4 m5
  obtain⟨s0,s1⟩:=aa C5.out.st
  have f0:=af C5.out.st 0
  have TL:=C5.out.turnL A' Cw c'
  obtain⟨w6,xI⟩:=nm (w5.setCell ⟨w.heap.size,0,none⟩ (.slice A' Cw.length c'))
  rw [xI] at TL
  have C6:=hid TL.1
  have T6:=hid TL.2
  have O6:=hid (O5.out.bE T6.out (by decide) (by decide) (by decide))
  have D6:Hid (Below B w w6):=hid (D5.out.trans (T6.out.below.mono HB.out))
  obtain⟨u0,u1⟩:=aa C6.out.st
  dsimp only at u0 u1
  clear TL
  have hmf:∀ (fn:Fn) (first cap:Array Value) (w:World),(Instr.makeFunc fn first cap).run prog w=.ok (.func fn first cap) w:=fun _ _ _ _=>rfl
  have DF0:=xA (p:=(fun t:T9.Tk=>t.list==id)) O6.out.k rfl (fun m hm=>(O6.out.MM.t m hm).fine) C6.out.mu (show s.ms.length≤1000 by omega) (fun args w=>Tryz.call106 args w) (fun m W hm=>goneL_c m W hm)
  obtain⟨ns,hns⟩:=nm ((s.ms.filter fun m=>!(fun t:T9.Tk=>t.list==id) m.t))
  rw [hns] at DF0
  have DF:=hid DF0
  have MG:=hid hns
  clear DF0 hns
  go_wp2_with fail
  refine DF.out.mono ?_
  rintro e w7 ⟨A9,c9,rfl,ho,hg,hb⟩
  have T7:=hid (O6.out.k.nQ hg (Nat.le_trans HB.out D6.out.size))
  have O7:Hid (OS { s with A:=A',ls:=Cw,c:=c',A2:=A9,ms:=ns,c2:=c9 } B w7):=hid ⟨O6.out.l.bE T7.out (by decide),ho,by have q:=(O6.out.t.bE T7.out (by decide)).filter (fun m=>!(fun t:T9.Tk=>t.list==id) m.t);rw [MG.out] at q;exact q⟩
  have C7:=hid (C6.out.bE T7.out (by decide) (by decide))
  have D7:Hid (Below B w w7):=hid (D6.out.trans T7.out.below)
  clear ho hg hb s0 s1 u0 u1
  obtain⟨s0,s1⟩:=aa C7.out.st
  have f1:=af C7.out.st 1
  have TK:=C7.out.F6 A9 ns c9
  obtain⟨w8,hw8⟩:=nm (w7.setCell ⟨w.heap.size,1,none⟩ (.slice A9 ns.length c9))
  rw [hw8] at TK
  have C8:=hid TK.1
  have T8:=hid TK.2
  have D8:Hid (Below B w w8):=hid (D7.out.trans (T8.out.below.mono HB.out))
  have O8:=hid (O7.out.bE T8.out (by decide) (by decide) (by decide))
  clear TK
  have ER:Hid (R=(0,⟨Cw,ay ns⟩)):=hid (by
   refine HR.out.symm.trans ((T9.DI HH.out).trans ?_)
   rw [T9.wo_drop Gd.out HH.out,← MG.out,wF (fun t=>t.list==id),← oC.out]
   refine congrArg (fun z=>((0:Int),T9.St.mk z _)) ?_
   have q:=T9.filL_at (id:=id) UL.out HH.out
   rw [show T9.iX s.st.lists id=pp from HP.out] at q
   exact q)
  obtain⟨wz,hwz⟩:=nm ((w8.setCell ⟨w.heap.size+2,0,none⟩ (Value.slice A' Cw.length c')).setCell ⟨w.heap.size+2,1,none⟩ (Value.slice A9 ns.length c9))
  have FN:=hid (C8.out.fin (w':=wz) O8.out.MM (by dsimp only;exact hwz))
  have g0:=af C8.out.rv 0
  have g1:=af C8.out.rv 1
  obtain⟨u0,u1⟩:=aa C8.out.st
  obtain⟨v0,v1⟩:=aa C8.out.rv
  have y0:=FN.out.2.2.1
  have y1:=FN.out.2.2.2
  dsimp only at u0 u1 y0 y1
  skip
  go_wp2
  refine bodyPost_ret (v:=.agg #[Value.slice A' Cw.length c',Value.slice A9 ns.length c9]) (by simp [results,results79,go_sem,y0,y1]) rfl ?_
  have G:=dO.good (r:=R) (B:=B) (w:=w) ((D8.out).trans (FN.out.2.1.mono HB.out)) FN.out.1 ER.out
  unfold aQ.val at G
  dsimp only at G
  skip
  exact G
end
end
end Go.Proofs.YtcmiompdjjiojaaGreat
