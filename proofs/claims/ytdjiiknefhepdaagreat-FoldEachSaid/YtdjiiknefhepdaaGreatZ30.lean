import Derived.Test.YtdjiiknefhepdaaGreatZ29
import Derived.Test.YtdjiiknefhepdaaGreatZ24
namespace Go.Proofs.YtdjiiknefhepdaaGreat
set_option maxHeartbeats 16000000
open Go.Lib Go.Proofs.Tryz
set_option linter.unusedSimpArgs false
set_option maxRecDepth 100000
section
section
open Go.RowKit Go.Lib
structure OS (s:aW) (B:Nat) (w:World):Prop where
 l:dY w B 60 2 s.A s.ls.length s.c (aL s.ls)
 k:dY w B 63 7 s.A2 s.ms.length s.c2 (ai s.ms)
 t:bG w B s.ms
theorem dY.room {w:World} {B:Nat} {t:TypeId} {k n c:Nat} {A:Option Addr} {xs:List Value} (h:dY w B t k A n c xs):n≤c:=by
 rcases h with⟨q,r⟩ | ⟨g,e,q⟩
 ·omega
 ·exact (aQ q).2
theorem OS.JO {s:aW} {B:Nat} {w:World} (h:OS s B w):kY s w :=
 ⟨h.l.lies (eQ _),h.k.lies (aN _),fun x hx=>⟨(h.t.1 x hx).lies (by rw [dD,Nat.mul_one]),(h.t.1 x hx).room⟩,h.l.room,h.k.room⟩
theorem OS.sm {s:aW} {B:Nat} {w:World} (h:OS s B w):SM s w:=h.JO.sm
theorem OS.bM {s:aW} {B B':Nat} {w w':World} {ts:List TypeId} (h:OS s B w) (hT:aY B' ts w w') (h1:60 ∉ ts) (h2:63 ∉ ts) (h3:9 ∉ ts):OS s B w':=⟨h.l.bM hT h1,h.k.bM hT h2,h.t.bM hT h3⟩
theorem OS.stay {s:aW} {B:Nat} {w w':World} (h:OS s B w) (hb:Below w.heap.size w w'):OS s B w':=h.bM (aY.of_below hb (Nat.le_refl _) []) (by simp) (by simp) (by simp)
structure CF (s:aW) (m:T9.Mu) (B b:Nat) (w:World):Prop where
 st:w.heap[b]?=some (.cells #[.slice s.A s.ls.length s.c,.slice s.A2 s.ms.length s.c2] 25 (0,0))
 mu:kC m (b+1) w
 rv:w.heap[b+2]?=some (.cells #[.slice none 0 0,.slice none 0 0] 25 (0,0))
theorem CF.stay {s:aW} {m:T9.Mu} {B b:Nat} {w w':World} (h:CF s m B b w) (hb:Below w.heap.size w w'):CF s m B b w':=⟨ae h.st hb,h.mu.stay hb,ae h.rv hb⟩
theorem CF.bM {s:aW} {m:T9.Mu} {B b B':Nat} {w w':World} {ts:List TypeId} (h:CF s m B b w) (hT:aY B' ts w w') (h1:25 ∉ ts) (h2:56 ∉ ts):CF s m B b w':=⟨hT.blk h.st h1,hT.blk h.mu h2,hT.blk h.rv h1⟩
theorem CF.start {s:aW} {m:T9.Mu} {B:Nat} {w w1 w2 w3:World} (h1:w.alloc (.cells #[.slice s.A s.ls.length s.c,.slice s.A2 s.ms.length s.c2] 25)=w1) (h2:w1.alloc (.cells #[.int .i64 m.kind,.int .u64 (m.id:Int),.int .u64 (m.list:Int),.string (str m.text),.float .f64 m.f,.bool m.flag] 56)=w2) (h3:w2.alloc (.cells #[.slice none 0 0,.slice none 0 0] 25)=w3) :
  CF s m B w.heap.size w3∧Below w.heap.size w w3∧w1.heap.size=w.heap.size+1∧w2.heap.size=w.heap.size+2:=by
 obtain⟨a1,b1,z1⟩:=ak h1
 obtain⟨a2,b2,z2⟩:=bu h2
 obtain⟨a3,b3,z3⟩:=ak h3
 rw [z1] at a2
 rw [z2,z1] at a3
 exact⟨⟨ae (ae a1 b2) b3,kC.stay (m:=m) a2 b3,a3⟩,b1.trans ((b2.mono (by omega)).trans (b3.mono (by omega))),z1,by omega⟩
theorem CF.turn {s q:aW} {m:T9.Mu} {B b:Nat} {w:World} (h:CF s m B b w) :
  CF q m B b ((w.setCell ⟨b,0,none⟩ (.slice q.A q.ls.length q.c)).setCell ⟨b,1,none⟩ (.slice q.A2 q.ms.length q.c2))∧aY b [25] w ((w.setCell ⟨b,0,none⟩ (.slice q.A q.ls.length q.c)).setCell ⟨b,1,none⟩ (.slice q.A2 q.ms.length q.c2)):=by
 have y:Ty w b 25:=⟨_,_,h.st⟩
 refine⟨⟨(ah (ah h.st 0 _) 1 _).trans rfl,?_,?_⟩,((aY.refl _ _ w).aB (p:=⟨b,0,none⟩) y (by simp) (Nat.le_refl _) _).aB (p:=⟨b,1,none⟩) (y.set _ _) (by simp) (Nat.le_refl _) _⟩
 ·exact ax (ax h.mu (p:=⟨b,0,none⟩) (by show b+1≠b;omega) _) (p:=⟨b,1,none⟩) (by show b+1≠b;omega) _
 ·exact ax (ax h.rv (p:=⟨b,0,none⟩) (by show b+2≠b;omega) _) (p:=⟨b,1,none⟩) (by show b+2≠b;omega) _
theorem CF.turnL {s:aW} {m:T9.Mu} {B b:Nat} {w:World} (h:CF s m B b w) (A:Option Addr) (ls:List T9.Li) (c:Nat) :
  CF { s with A:=A,ls:=ls,c:=c } m B b (w.setCell ⟨b,0,none⟩ (.slice A ls.length c))∧aY b [25] w (w.setCell ⟨b,0,none⟩ (.slice A ls.length c)):=by
 have y:Ty w b 25:=⟨_,_,h.st⟩
 exact⟨⟨(ah h.st 0 _).trans rfl,ax h.mu (p:=⟨b,0,none⟩) (by show b+1≠b;omega) _,ax h.rv (p:=⟨b,0,none⟩) (by show b+2≠b;omega) _⟩,(aY.refl _ _ w).aB (p:=⟨b,0,none⟩) y (by simp) (Nat.le_refl _) _⟩
theorem CF.CQ {s:aW} {m:T9.Mu} {B b:Nat} {w:World} (h:CF s m B b w) (A:Option Addr) (ms:List aM) (c:Nat) :
  CF { s with A2:=A,ms:=ms,c2:=c } m B b (w.setCell ⟨b,1,none⟩ (.slice A ms.length c))∧aY b [25] w (w.setCell ⟨b,1,none⟩ (.slice A ms.length c)):=by
 have y:Ty w b 25:=⟨_,_,h.st⟩
 exact⟨⟨(ah h.st 1 _).trans rfl,ax h.mu (p:=⟨b,1,none⟩) (by show b+1≠b;omega) _,ax h.rv (p:=⟨b,1,none⟩) (by show b+2≠b;omega) _⟩,(aY.refl _ _ w).aB (p:=⟨b,1,none⟩) y (by simp) (Nat.le_refl _) _⟩
theorem CF.fin {s:aW} {m:T9.Mu} {B b:Nat} {w w':World} (h:CF s m B b w) (q:kY s w) (hw:(w.setCell ⟨b+2,0,none⟩ (.slice s.A s.ls.length s.c)).setCell ⟨b+2,1,none⟩ (.slice s.A2 s.ms.length s.c2)=w') :
  kY s w'∧Below b w w'∧w'.cell? ⟨b+2,0,none⟩=some (.slice s.A s.ls.length s.c)∧w'.cell? ⟨b+2,1,none⟩=some (.slice s.A2 s.ms.length s.c2):=by
 subst hw
 have y:Ty w (b+2) 25:=⟨_,_,h.rv⟩
 have T:aY b [25] w ((w.setCell ⟨b+2,0,none⟩ (.slice s.A s.ls.length s.c)).setCell ⟨b+2,1,none⟩ (.slice s.A2 s.ms.length s.c2)):=((aY.refl _ _ w).aB (p:=⟨b+2,0,none⟩) y (by simp) (Nat.le_add_right _ _) _).aB (p:=⟨b+2,1,none⟩) (y.set _ _) (by simp) (Nat.le_add_right _ _) _
 have z:=(ah (ah h.rv 0 (.slice s.A s.ls.length s.c)) 1 (.slice s.A2 s.ms.length s.c2)).trans rfl
 exact⟨q.bM T (by decide) (by decide) (by decide),T.below,(aa z).1,(aa z).2⟩
def dN (r:Int × T9.St) (B:Nat) (w:World) (e:Ending) (w':World):Prop :=
 Below B w w'∧(r.1=0→∃ q:aW,e=.returned q.val∧kY q w'∧q.st=r.2)∧(r.1≠0→e=.panicked [{ v:=.iface 39 (.int .i64 r.1),recovered:=false }])
theorem dN.bad {r:Int × T9.St} {B:Nat} {w w':World} (hb:Below B w w') (h:r.1≠0):dN r B w (.panicked [{ v:=.iface 39 (.int .i64 r.1),recovered:=false }]) w':=⟨hb,fun z=>absurd z h,fun _=>rfl⟩
theorem dN.good {r:Int × T9.St} {B:Nat} {w w':World} {q:aW} (hb:Below B w w') (hq:kY q w') (hr:r=(0,q.st)):dN r B w (.returned q.val) w':=⟨hb,fun _=>⟨q,rfl,hq,by rw [hr]⟩,fun z=>absurd (by rw [hr]) z⟩
theorem iK {s:T9.St} (h:T9.aH s=0):s.lists.Pairwise fun x y=>x.id<y.id:=((T9.iE.1 (T9.aD h).2.2.1).2).imp fun q=>of_decide_eq_true q
theorem iL {s:T9.St} (h:T9.aH s=0):s.tasks.Pairwise fun x y=>x.id<y.id:=((T9.cu.1 (T9.aD h).2.2.2).2).imp fun q=>of_decide_eq_true q
theorem insL_at {ls:List T9.Li} {x:T9.Li} (h:T9.bD ls x.id=false):Sr.ins T9.iP x ls=ls.take (T9.iN ls x.id)++x :: ls.drop (T9.iN ls x.id):=by
 refine Sr.rW fun y hy=>?_
 unfold T9.bD at h
 rw [List.any_eq_false] at h
 have ne:=h y hy
 simp only [beq_iff_eq] at ne
 unfold T9.iP
 rw [decide_eq_true_eq,decide_eq_true_eq]
 omega
theorem insK_at {ls:List T9.Tk} {x:T9.Tk} (h:T9.eB ls x.id=false):Sr.ins T9.iW x ls=ls.take (T9.dS ls x.id)++x :: ls.drop (T9.dS ls x.id):=by
 refine Sr.rW fun y hy=>?_
 unfold T9.eB at h
 rw [List.any_eq_false] at h
 have ne:=h y hy
 simp only [beq_iff_eq] at ne
 unfold T9.iW
 rw [decide_eq_true_eq,decide_eq_true_eq]
 omega
namespace T9
theorem Jz {s:St} {id list f:Nat} {text:List UInt8} {flag:Bool} (h:bD s.lists id=true):eF s ⟨1,id,list,text,f,flag⟩=(92,s):=by unfold eF;dsimp only;rw [if_pos rfl,if_pos h]
theorem IA {s:St} {id list f:Nat} {text:List UInt8} {flag:Bool} (h:bD s.lists id=false) (h2:20≤s.lists.length):eF s ⟨1,id,list,text,f,flag⟩=(95,s):=by unfold eF;dsimp only;rw [if_pos rfl,if_neg (by rw [h];decide),if_pos h2]
theorem AJ {s:St} {id list f:Nat} {text:List UInt8} {flag:Bool} (h:bD s.lists id=false) (h2:¬ 20≤s.lists.length):eF s ⟨1,id,list,text,f,flag⟩=(0,⟨Sr.ins iP ⟨id,text⟩ s.lists,s.tasks⟩):=by unfold eF;dsimp only;rw [if_pos rfl,if_neg (by rw [h];decide),if_neg h2]
theorem Gq {s:St} {id list f:Nat} {text:List UInt8} {flag:Bool} (h:bD s.lists id=false):eF s ⟨2,id,list,text,f,flag⟩=(91,s):=by unfold eF;dsimp only;rw [if_neg (by decide),if_pos rfl,if_pos h]
theorem AB {s:St} {id list f:Nat} {text:List UInt8} {flag:Bool} (h:bD s.lists id=true):eF s ⟨2,id,list,text,f,flag⟩=(0,⟨s.lists.filter fun l=>!(l.id==id),wo s.tasks id false 0⟩):=by unfold eF;dsimp only;rw [if_neg (by decide),if_pos rfl,if_neg (by rw [h];decide)]
theorem CO {s:St} {id list f:Nat} {text:List UInt8} {flag:Bool} (h:bD s.lists list=false):eF s ⟨12,id,list,text,f,flag⟩=(91,s):=by unfold eF;dsimp only;rw [if_neg (by decide),if_neg (by decide),if_pos rfl,if_pos h]
theorem w_ {s:St} {id list f:Nat} {text:List UInt8} {flag:Bool} (h:bD s.lists list=true):eF s ⟨12,id,list,text,f,flag⟩=(0,⟨s.lists,wo s.tasks list true 0⟩):=by unfold eF;dsimp only;rw [if_neg (by decide),if_neg (by decide),if_pos rfl,if_neg (by rw [h];decide)]
theorem Dj {s:St} {id list f:Nat} {text:List UInt8} {flag:Bool} (h:bD s.lists list=false):eF s ⟨13,id,list,text,f,flag⟩=(91,s):=by unfold eF;dsimp only;rw [if_neg (by decide),if_neg (by decide),if_neg (by decide),if_pos rfl,if_pos h]
theorem wP {s:St} {id list f:Nat} {text:List UInt8} {flag:Bool} (h:bD s.lists list=true):eF s ⟨13,id,list,text,f,flag⟩=(0,⟨s.lists,s.tasks.map (nT (kX s.tasks list))⟩):=by unfold eF;dsimp only;rw [if_neg (by decide),if_neg (by decide),if_neg (by decide),if_pos rfl,if_neg (by rw [h];decide)]
theorem Gx {s:St} {id list f:Nat} {text:List UInt8} {flag:Bool} (h:eB s.tasks id=true):eF s ⟨3,id,list,text,f,flag⟩=(92,s):=by unfold eF;dsimp only;rw [if_neg (by decide),if_neg (by decide),if_neg (by decide),if_neg (by decide),if_pos rfl,if_pos h]
theorem Gp {s:St} {id list f:Nat} {text:List UInt8} {flag:Bool} (h:eB s.tasks id=false) (h2:bD s.lists list=false):eF s ⟨3,id,list,text,f,flag⟩=(91,s):=by unfold eF;dsimp only;rw [if_neg (by decide),if_neg (by decide),if_neg (by decide),if_neg (by decide),if_pos rfl,if_neg (by rw [h];decide),if_pos h2]
theorem Ia {s:St} {id list f:Nat} {text:List UInt8} {flag:Bool} (h:eB s.tasks id=false) (h2:bD s.lists list=true) (h3:60≤s.tasks.length):eF s ⟨3,id,list,text,f,flag⟩=(95,s):=by unfold eF;dsimp only;rw [if_neg (by decide),if_neg (by decide),if_neg (by decide),if_neg (by decide),if_pos rfl,if_neg (by rw [h];decide),if_neg (by rw [h2];decide),if_pos h3]
theorem I9 {s:St} {id list f:Nat} {text:List UInt8} {flag:Bool} (h:eB s.tasks id=false) (h2:bD s.lists list=true) (h3:¬ 60≤s.tasks.length):eF s ⟨3,id,list,text,f,flag⟩=(0,⟨s.lists,Sr.ins iW ⟨id,list,text,false,f,Fl.h_,[]⟩ s.tasks⟩):=by unfold eF;dsimp only;rw [if_neg (by decide),if_neg (by decide),if_neg (by decide),if_neg (by decide),if_pos rfl,if_neg (by rw [h];decide),if_neg (by rw [h2];decide),if_neg h3]
theorem mR {s:St} {k:Int} {id list f:Nat} {text:List UInt8} {flag:Bool} (hk:k=4∨k=5∨k=6∨k=7∨k=8∨k=9∨k=10∨k=11) (h:eB s.tasks id=false):eF s ⟨k,id,list,text,f,flag⟩=(93,s):=by unfold eF;dsimp only;rw [if_neg (by omega),if_neg (by omega),if_neg (by omega),if_neg (by omega),if_neg (by omega),if_pos h]
theorem mQ {s:St} {k:Int} {id list f:Nat} {text:List UInt8} {flag:Bool} (hk:k=4∨k=5∨k=6∨k=7∨k=8∨k=9∨k=10) (h:eB s.tasks id=true):eF s ⟨k,id,list,text,f,flag⟩=((oN (bD s.lists list) ⟨k,id,list,text,f,flag⟩ (dH s.tasks id).1).1,⟨s.lists,Sr.ins iW (oN (bD s.lists list) ⟨k,id,list,text,f,flag⟩ (dH s.tasks id).1).2 (wo s.tasks 0 false id)⟩):=by unfold eF;dsimp only;rw [if_neg (by omega),if_neg (by omega),if_neg (by omega),if_neg (by omega),if_neg (by omega),if_neg (by rw [h];decide),if_neg (by omega)]
theorem wX {s:St} {id list f:Nat} {text:List UInt8} {flag:Bool} (h:eB s.tasks id=true):eF s ⟨11,id,list,text,f,flag⟩=(0,⟨s.lists,wo s.tasks 0 false id⟩):=by unfold eF;dsimp only;rw [if_neg (by decide),if_neg (by decide),if_neg (by decide),if_neg (by decide),if_neg (by decide),if_neg (by rw [h];decide),if_pos rfl]
end T9
theorem bs11L (a b:Value) (w:World):(Instr.buildSlice 22 1 #[(0,.agg #[a,b])]).run prog w=.ok (.slice (some ⟨w.heap.size,0,none⟩) 1 1) (w.alloc (.cells #[a,b] 60)):=by
 obtain⟨i0,hi,hz0,hz1,hz2⟩:=info_parts Tryz.infoLi9
 exact fM w 22 60 #[a,b] i0 _ underlying22 hi hz0 hz1 (by simp) (by simp)
theorem bl11L (a:Int) (b:ByteArray) (w:World):(Instr.build 60 #[(0,.int .u64 a),(1,.string b)]).run prog w=.ok (.agg #[.int .u64 a,.string b]) w:=run_build w 60 _ _ (by kernel_rfl)
theorem chg1_c {s:aW} {u:T9.Mu} {B:Nat} {w:World} (h:OS s B w) (hB:B≤w.heap.size) (hr:T9.aH s.st=0) (hk:u.kind=1) :
  Calls prog 56 #[s.val,u.val] w (dN (T9.eF s.st u) B w):=by
 obtain⟨kd,id,list,text,f,flag⟩:=u
 obtain rfl:kd=1:=hk
 obtain⟨w1,hw1⟩:∃ v,w.alloc (.cells #[.slice s.A s.ls.length s.c,.slice s.A2 s.ms.length s.c2] 25)=v:=⟨_,rfl⟩
 obtain⟨w2,hw2⟩:∃ v,w1.alloc (.cells #[.int .i64 1,.int .u64 (id:Int),.int .u64 (list:Int),.string (str text),.float .f64 f,.bool flag] 56)=v:=⟨_,rfl⟩
 obtain⟨w3,hw3⟩:∃ v,w2.alloc (.cells #[.slice none 0 0,.slice none 0 0] 25)=v:=⟨_,rfl⟩
 obtain⟨cf,b3,z1,z2⟩:=CF.start (s:=s) (m:=⟨1,id,list,text,f,flag⟩) (B:=B) hw1 hw2 hw3
 have C3:=hid cf
 have B3:=hid b3
 have O3:=hid (h.stay b3)
 have HB:=hid hB
 have O0:=hid h
 have UL:=hid (iK hr)
 have UK:=hid (iL hr)
 obtain⟨s0,s1⟩:=aa cf.st
 obtain⟨m0,m1,m2,m3,m4,m5⟩:=ag cf.mu
 have nl:s.ls.length≤20:=(T9.aD hr).1
 have nk:s.ms.length≤60:=by have:=(T9.aD hr).2.1;simpa [aW.st,ay] using this
 obtain⟨R,hR⟩:∃ r,T9.eF s.st ⟨1,id,list,text,f,flag⟩=r:=⟨_,rfl⟩
 rw [hR]
 have HR:=hid hR
 have DV:=hid hr
 unfold aW.val T9.Mu.val
 dsimp only
 clear h hB hr cf b3 hR
 have LC:=hid (tH (id:=id) O3.out.sm (by omega) UL.out)
 obtain⟨hh,gN⟩:∃ b,T9.bD s.ls id=b:=⟨_,rfl⟩
 obtain⟨pp,gp⟩:∃ b,T9.iN s.ls id=b:=⟨_,rfl⟩
 rw [gN,gp] at LC
 have HH:=hid gN
 have HP:=hid gp
 unfold aW.val at LC
 clear gN gp
 go_enter func56,ntmps56
 go_wp2_with fail
 refine LC.out.mono ?_
 rintro e w4 ⟨rfl,h4⟩
 have C4:=hid (C3.out.stay h4)
 have O4:=hid (O3.out.stay h4)
 have B4:=hid (B3.out.trans (h4.mono B3.out.size))
 clear h4 s0 s1 m0 m1 m2 m3 m4 m5
 obtain⟨s0,s1⟩:=aa C4.out.st
 obtain⟨m0,m1,m2,m3,m4,m5⟩:=ag C4.out.mu
 cases hh with
 | true =>
  go_wp2_with (go_at_call 95;refine (eX _ _).mono ?_;rintro e w' ⟨rfl,rfl⟩)
  have e:R=(92,s.st):=HR.out.symm.trans (T9.Jz HH.out)
  subst e
  exact⟨rfl,dN.bad (B4.out.mono HB.out) (show (92:Int)≠0 by decide)⟩
 | false =>
  by_cases h20:20≤s.ls.length
  ·have h20z:(20:Int)≤(s.ls.length:Int):=by omega
   have h20d:decide ((20:Int)≤(s.ls.length:Int))=true:=decide_eq_true h20z
   have h20n:decide (20≤s.ls.length)=true:=decide_eq_true h20
   go_wp2_with (first | (go_at_call 95;(with_reducible refine (fD 92 _).mono ?_);rintro e w' ⟨rfl,rfl⟩) | (go_at_call 95;refine (eX _ _).mono ?_;rintro e w' ⟨rfl,rfl⟩))
   have e:R=(95,s.st):=HR.out.symm.trans (T9.IA HH.out h20)
   subst e
   exact⟨rfl,dN.bad (B4.out.mono HB.out) (show (95:Int)≠0 by decide)⟩
  ·have h20z:¬ ((20:Int)≤(s.ls.length:Int)):=by omega
   have h20d:decide ((20:Int)≤(s.ls.length:Int))=false:=decide_eq_false h20z
   have h20n:decide (20≤s.ls.length)=false:=decide_eq_false h20
   have hbl:=bl11L (id:Int) (str text)
   have hbs:=bs11L (.int .u64 (id:Int)) (.string (str text))
   obtain⟨w5,fU⟩:∃ v,w4.alloc (.cells #[.int .u64 (id:Int),.string (str text)] 60)=v:=⟨_,rfl⟩
   obtain⟨lb,b5,z5⟩:=ak fU
   have PP:pp≤s.ls.length:=by rw [← HP.out];exact Sr.oz
   have C5:=hid (C4.out.stay b5)
   have O5:=hid (O4.out.stay b5)
   have B5:=hid (B4.out.trans (b5.mono B4.out.size))
   have NE:Hid (nV s.A s.c≠some w4.heap.size):=hid fun e=>by
    rcases O4.out.l.parts with⟨_,q⟩ | ⟨g,e2,c0,q⟩
    ·rw [show nV s.A s.c=none by unfold nV;rw [if_pos q]] at e;cases e
    ·rw [e2,aX c0] at e
     injection e with e
     have:=(q.lt g rfl).2
     omega
   have IC:=hid (Dx (p:=pp) (v:=bf ⟨id,text⟩) O5.out.l (eQ _) (iF _) lb rfl (lD _) PP NE.out (by omega) (Nat.le_trans HB.out B5.out.size))
   obtain⟨t0,t1⟩:=aa C5.out.st
   clear lb b5 z5
   go_wp2_with (go_at_call 95;refine (fD _ _).mono ?_;rintro e w' ⟨rfl,rfl⟩)
   refine IC.out.mono ?_
   rintro e w6 ⟨A',c',rfl,ho,hg,hb⟩
   have T6:=hid (O5.out.l.mI hg (Nat.le_trans HB.out B5.out.size))
   have LN:Hid ((s.ls.take pp++(⟨id,text⟩:T9.Li) :: s.ls.drop pp).length=s.ls.length+1):=hid (by rw [List.length_append,List.length_cons,List.length_take,List.length_drop];omega)
   have O6:Hid (OS { s with A:=A',ls:=s.ls.take pp++(⟨id,text⟩:T9.Li) :: s.ls.drop pp,c:=c' } B w6):=hid ⟨by
    show dY w6 B _ 2 A' (s.ls.take pp++(⟨id,text⟩:T9.Li) :: s.ls.drop pp).length c' _
    rw [LN.out]
    rw [kT,kU] at ho
    have e:aL (s.ls.take pp++(⟨id,text⟩:T9.Li) :: s.ls.drop pp)=aL (s.ls.take pp)++bf ⟨id,text⟩++aL (s.ls.drop pp):=by simp [aL]
    rw [e]
    exact ho,O5.out.k.bM T6.out (by decide),O5.out.t.bM T6.out (by decide)⟩
   have C6:=hid (C5.out.bM T6.out (by decide) (by decide))
   have ER:Hid (R=(0,⟨s.ls.take pp++(⟨id,text⟩:T9.Li) :: s.ls.drop pp,ay s.ms⟩)):=hid (by
    refine HR.out.symm.trans ((T9.AJ HH.out h20).trans ?_)
    show (0,T9.St.mk (Sr.ins T9.iP ⟨id,text⟩ s.ls) (ay s.ms))=_
    rw [insL_at (x:=⟨id,text⟩) HH.out,HP.out])
   clear ho hg hb t0 t1 s0 s1
   obtain⟨t0,t1⟩:=aa C6.out.st
   have f0:=af C6.out.st 0
   have TL:=C6.out.turnL A' (s.ls.take pp++(⟨id,text⟩:T9.Li) :: s.ls.drop pp) c'
   rw [LN.out] at TL
   obtain⟨w7,hw7⟩:∃ v,w6.setCell ⟨w.heap.size,0,none⟩ (.slice A' (s.ls.length+1) c')=v:=⟨_,rfl⟩
   rw [hw7] at TL
   have C7:=hid TL.1
   have T7:=hid TL.2
   have O7:=hid (O6.out.bM T7.out (by decide) (by decide) (by decide))
   clear TL
   obtain⟨wz,hwz⟩:∃ v,(w7.setCell ⟨w.heap.size+2,0,none⟩ (Value.slice A' (s.ls.length+1) c')).setCell ⟨w.heap.size+2,1,none⟩ (Value.slice s.A2 s.ms.length s.c2)=v:=⟨_,rfl⟩
   have FN:=hid (C7.out.fin (w':=wz) O7.out.JO (by dsimp only;rw [LN.out];exact hwz))
   have g0:=af C7.out.rv 0
   have g1:=af C7.out.rv 1
   obtain⟨u0,u1⟩:=aa C7.out.st
   obtain⟨v0,v1⟩:=aa C7.out.rv
   have y0:=FN.out.2.2.1
   have y1:=FN.out.2.2.2
   dsimp only at u0 u1 y0 y1
   try rw [LN.out] at u0
   try rw [LN.out] at u1
   try rw [LN.out] at y0
   try rw [LN.out] at y1
   go_wp2
   refine bodyPost_ret (v:=.agg #[Value.slice A' (s.ls.length+1) c',Value.slice s.A2 s.ms.length s.c2]) (by simp [results,results56,go_sem,y0,y1]) rfl ?_
   have G:=dN.good (r:=R) (B:=B) (w:=w) ((((B5.out.mono HB.out).trans T6.out.below).trans (T7.out.below.mono HB.out)).trans (FN.out.2.1.mono HB.out)) FN.out.1 ER.out
   unfold aW.val at G
   dsimp only at G
   rw [LN.out] at G
   exact G
end
section
open Go.RowKit Go.Lib
theorem bG.filter {w:World} {B:Nat} {ms:List aM} (h:bG w B ms) (p:aM→Bool):bG w B (ms.filter p):=⟨fun m hm=>h.1 m (List.mem_filter.1 hm).1,List.Pairwise.filter _ h.2⟩
theorem sO (p:T9.Tk→Bool) (ms:List aM):ay (ms.filter fun m=>!p m.t)=(ay ms).filter fun t=>!p t:=by
 unfold ay
 rw [List.filter_map]
 rfl
theorem zA {A:Option Addr} {n c p B:Nat} {xs:List Value} {w:World} (h:dY w B 60 2 A n c xs) (h1:∀ u∈xs,u.oneCell'=true) (hp:p<n) (hs:n≤1001) :
  Calls prog 103 #[.slice A n c,.int .i64 (p:Int),.int .i64 ((p:Int)+1)] w (oI 60 2 A c (xs.take (p * 2)++xs.drop ((p+1) * 2)) (n - 1) B w):=by
 obtain⟨g,rfl,c0,own⟩:=h.parts.resolve_left (fun q=>by omega)
 obtain⟨m,rfl⟩:∃ m,n=m+1:=⟨n - 1,by omega⟩
 rw [Nat.add_sub_cancel]
 exact Er own h1 (by omega) (by omega)
theorem yj {A:Option Addr} {n c p B:Nat} {xs:List Value} {w:World} (h:dY w B 63 7 A n c xs) (h1:∀ u∈xs,u.oneCell'=true) (hp:p<n) (hs:n≤1001) :
  Calls prog 112 #[.slice A n c,.int .i64 (p:Int),.int .i64 ((p:Int)+1)] w (oI 63 7 A c (xs.take (p * 7)++xs.drop ((p+1) * 7)) (n - 1) B w):=by
 obtain⟨g,rfl,c0,own⟩:=h.parts.resolve_left (fun q=>by omega)
 obtain⟨m,rfl⟩:∃ m,n=m+1:=⟨n - 1,by omega⟩
 rw [Nat.add_sub_cancel]
 exact EH own h1 (by omega) (by omega)
theorem bG.sub {w:World} {B:Nat} {ms ns:List aM} (h:bG w B ms) (hs:ns.Sublist ms):bG w B ns:=⟨fun m hm=>h.1 m (hs.subset hm),h.2.sublist hs⟩
theorem cut_sub {α:Type} (l:List α) (p:Nat):(l.take p++l.drop (p+1)).Sublist l:=by
 conv=>rhs;rw [← List.take_append_drop p l]
 refine List.Sublist.append_left ?_ _
 have q:=List.drop_sublist 1 (l.drop p)
 rw [List.drop_drop] at q
 exact q
namespace T9
theorem Db {l:List Tk} {id:Nat} (hu:l.Pairwise fun x y=>x.id<y.id) (h:eB l id=true):wo l 0 false id=l.take (dS l id)++l.drop (dS l id+1):=by
 have e:wo l 0 false id=l.filter fun y=>!(y.id==id):=by
  unfold wo
  refine List.filter_congr fun t _=>?_
  simp
 rw [e]
 obtain⟨y,hy,rfl⟩:=(lZ hu).1 h
 obtain⟨hp,ey⟩:=List.getElem?_eq_some_iff.1 hy
 conv=>lhs;rw [← List.take_append_drop (dS l y.id) l]
 rw [List.filter_append,List.drop_eq_getElem_cons hp,ey,List.filter_cons,if_neg (by simp)]
 congr 1
 ·rw [List.filter_eq_self]
  intro z hz
  obtain⟨i,hi,rfl⟩:=List.mem_iff_getElem.1 hz
  rw [List.length_take] at hi
  have:=List.pairwise_iff_getElem.1 hu i (dS l y.id) (by omega) hp (by omega)
  rw [ey] at this
  rw [List.getElem_take]
  have ne:¬ l[i].id=y.id:=by omega
  simp [ne]
 ·rw [List.filter_eq_self]
  intro z hz
  obtain⟨i,hi,rfl⟩:=List.mem_iff_getElem.1 hz
  rw [List.length_drop] at hi
  have:=List.pairwise_iff_getElem.1 hu (dS l y.id) (dS l y.id+1+i) hp (by omega) (by omega)
  rw [ey] at this
  rw [List.getElem_drop]
  have ne:¬ l[dS l y.id+1+i].id=y.id:=by omega
  simp [ne]
theorem Cs {l:List Tk} {id:Nat} {t:Tk} (hu:l.Pairwise fun x y=>x.id<y.id) (h:eB l id=true) (ht:t.id=id):Sr.ins iW t (wo l 0 false id)=l.set (dS l id) t:=by
 rw [Db hu h]
 obtain⟨y,hy,ey⟩:=(lZ hu).1 h
 have hp:=(List.getElem?_eq_some_iff.1 hy).1
 have tl:(l.take (dS l id)).length=dS l id:=by rw [List.length_take];omega
 have t1:(l.take (dS l id)++l.drop (dS l id+1)).take (dS l id)=l.take (dS l id):=List.take_left' tl
 have d1:(l.take (dS l id)++l.drop (dS l id+1)).drop (dS l id)=l.drop (dS l id+1):=List.drop_left' tl
 rw [Sr.gJ (i:=dS l id) (fun z hz=>?_) (fun z hz=>?_),t1,d1,List.set_eq_take_append_cons_drop,if_pos hp]
 ·rw [t1] at hz
  obtain⟨i,hi,rfl⟩:=List.mem_iff_getElem.1 hz
  rw [List.length_take] at hi
  rw [List.getElem_take]
  unfold iW
  rw [decide_eq_true_eq,ht]
  exact (zb hu (List.getElem?_eq_getElem (by omega))).1 (by omega)
 ·rw [List.getElem?_append_right (by rw [tl];exact Nat.le_refl _),tl,Nat.sub_self,List.getElem?_drop,Nat.add_zero] at hz
  have q:=(List.getElem?_eq_some_iff.1 hz).1
  have:=List.pairwise_iff_getElem.1 hu (dS l id) (dS l id+1) hp q (by omega)
  rw [(List.getElem?_eq_some_iff.1 hz).2,(List.getElem?_eq_some_iff.1 hy).2,ey] at this
  unfold iW
  rw [decide_eq_false_iff_not,decide_eq_true_eq,ht]
  omega
theorem yP {l:List Tk} {id:Nat} (hu:l.Pairwise fun x y=>x.id<y.id) (h:eB l id=true):l[dS l id]?=some (dH l id).1∧(dH l id).1.id=id:=by
 obtain⟨y,hy,ey⟩:=(lZ hu).1 h
 have q:=Ez (hu.imp fun h=>by omega) (List.mem_of_getElem? hy)
 rw [ey] at q
 rw [q]
 exact⟨hy,ey⟩
theorem filL_at {l:List Li} {id:Nat} (hu:l.Pairwise fun x y=>x.id<y.id) (h:bD l id=true):(l.filter fun y=>!(y.id==id))=l.take (iN l id)++l.drop (iN l id+1):=by
 obtain⟨y,hy,rfl⟩:=(p_ hu).1 h
 obtain⟨hp,ey⟩:=List.getElem?_eq_some_iff.1 hy
 conv=>lhs;rw [← List.take_append_drop (iN l y.id) l]
 rw [List.filter_append,List.drop_eq_getElem_cons hp,ey,List.filter_cons,if_neg (by simp)]
 congr 1
 ·rw [List.filter_eq_self]
  intro z hz
  obtain⟨i,hi,rfl⟩:=List.mem_iff_getElem.1 hz
  rw [List.length_take] at hi
  have:=List.pairwise_iff_getElem.1 hu i (iN l y.id) (by omega) hp (by omega)
  rw [ey] at this
  rw [List.getElem_take]
  have ne:¬ l[i].id=y.id:=by omega
  simp [ne]
 ·rw [List.filter_eq_self]
  intro z hz
  obtain⟨i,hi,rfl⟩:=List.mem_iff_getElem.1 hz
  rw [List.length_drop] at hi
  have:=List.pairwise_iff_getElem.1 hu (iN l y.id) (iN l y.id+1+i) hp (by omega) (by omega)
  rw [ey] at this
  rw [List.getElem_drop]
  have ne:¬ l[iN l y.id+1+i].id=y.id:=by omega
  simp [ne]
theorem wo_drop {s:St} {id:Nat} (h:aH s=0) (hh:bD s.lists id=true):wo s.tasks id false 0=s.tasks.filter fun t=>!(t.list==id):=by
 obtain⟨h1,h2,h3,h4⟩:=aD h
 obtain⟨l,hl,e⟩:=lH.1 hh
 have p:=((iE.1 h3).1 l hl).1
 unfold wo
 refine List.filter_congr fun t ht=>?_
 have q:=((cu.1 h4).1 t ht).1
 have a:(t.id==0)=false:=by rw [beq_eq_false_iff_ne];omega
 have b:(id==0)=false:=by rw [beq_eq_false_iff_ne];omega
 rw [a,b]
 simp
theorem Hz {s:St} {id:Nat} (h:aH s=0) (hh:bD s.lists id=true):wo s.tasks id true 0=s.tasks.filter fun t=>!(t.list==id && t.done):=by
 obtain⟨h1,h2,h3,h4⟩:=aD h
 obtain⟨l,hl,e⟩:=lH.1 hh
 have p:=((iE.1 h3).1 l hl).1
 unfold wo
 refine List.filter_congr fun t ht=>?_
 have q:=((cu.1 h4).1 t ht).1
 have a:(t.id==0)=false:=by rw [beq_eq_false_iff_ne];omega
 have b:(id==0)=false:=by rw [beq_eq_false_iff_ne];omega
 rw [a,b]
 simp
end T9
theorem chg12_c {s:aW} {u:T9.Mu} {B:Nat} {w:World} (h:OS s B w) (hB:B≤w.heap.size) (hr:T9.aH s.st=0) (hk:u.kind=12) :
  Calls prog 56 #[s.val,u.val] w (dN (T9.eF s.st u) B w):=by
 obtain⟨kd,id,list,text,f,flag⟩:=u
 obtain rfl:kd=12:=hk
 obtain⟨w1,hw1⟩:∃ v,w.alloc (.cells #[.slice s.A s.ls.length s.c,.slice s.A2 s.ms.length s.c2] 25)=v:=⟨_,rfl⟩
 obtain⟨w2,hw2⟩:∃ v,w1.alloc (.cells #[.int .i64 12,.int .u64 (id:Int),.int .u64 (list:Int),.string (str text),.float .f64 f,.bool flag] 56)=v:=⟨_,rfl⟩
 obtain⟨w3,hw3⟩:∃ v,w2.alloc (.cells #[.slice none 0 0,.slice none 0 0] 25)=v:=⟨_,rfl⟩
 obtain⟨cf,b3,z1,z2⟩:=CF.start (s:=s) (m:=⟨12,id,list,text,f,flag⟩) (B:=B) hw1 hw2 hw3
 have C3:=hid cf
 have B3:=hid b3
 have O3:=hid (h.stay b3)
 have HB:=hid hB
 have O0:=hid h
 have UL:=hid (iK hr)
 have UK:=hid (iL hr)
 obtain⟨s0,s1⟩:=aa cf.st
 obtain⟨m0,m1,m2,m3,m4,m5⟩:=ag cf.mu
 have nl:s.ls.length≤20:=(T9.aD hr).1
 have nk:s.ms.length≤60:=by have:=(T9.aD hr).2.1;simpa [aW.st,ay] using this
 obtain⟨R,hR⟩:∃ r,T9.eF s.st ⟨12,id,list,text,f,flag⟩=r:=⟨_,rfl⟩
 rw [hR]
 have HR:=hid hR
 have DV:=hid hr
 unfold aW.val T9.Mu.val
 dsimp only
 clear h hB hr cf b3 hR
 obtain⟨pp,gp⟩:∃ b,T9.iN (s.ls) list=b:=⟨_,rfl⟩
 have HP:=hid gp
 cases gN:T9.bD (s.ls) list with
 | false =>
  have LC:=hid (jk (id:=list) O3.out.sm (by omega) UL.out gN)
  have e:R=(91,s.st):=HR.out.symm.trans (T9.CO  gN)
  have E:=hid e
  unfold aW.val at LC
  clear gp gN e
  go_enter func56,ntmps56
  go_wp2_with fail
  refine LC.out.mono ?_
  rintro e w4 ⟨rfl,h4⟩
  have B4:=hid (B3.out.trans (h4.mono B3.out.size))
  rw [E.out]
  exact⟨rfl,dN.bad (B4.out.mono HB.out) (show (91:Int)≠0 by decide)⟩
 | true =>
  have LC:=hid (iQ (id:=list) O3.out.sm (by omega) UL.out gN)
  rw [gp] at LC
  have HH:=hid gN
  have PP:pp<s.ls.length:=by
   obtain⟨y,hy,_⟩:=(T9.p_ UL.out).1 gN
   have z:T9.iN (s.ls) list<(s.ls).length:=(List.getElem?_eq_some_iff.1 hy).1
   rw [gp] at z
   exact z
  unfold aW.val at LC
  clear gp gN
  go_enter func56,ntmps56
  go_wp2_with fail
  refine LC.out.mono ?_
  rintro e w4 ⟨rfl,h4⟩
  have C4:=hid (C3.out.stay h4)
  have O4:=hid (O3.out.stay h4)
  have B4:=hid (B3.out.trans (h4.mono B3.out.size))
  have D4:=hid (B4.out.mono HB.out)
  clear h4
  clear s0 s1 m0 m1 m2 m3 m4 m5
  obtain⟨s0,s1⟩:=aa C4.out.st
  obtain⟨m0,m1,m2,m3,m4,m5⟩:=ag C4.out.mu
  have hmf:∀ (fn:Fn) (first cap:Array Value) (w:World),(Instr.makeFunc fn first cap).run prog w=.ok (.func fn first cap) w:=fun _ _ _ _=>rfl
  have DF0:=vW (p:=(fun t:T9.Tk=>t.list==list && t.done)) O4.out.k rfl (fun m hm=>(O4.out.JO.t m hm).fine) C4.out.mu (show s.ms.length≤1000 by omega) (fun args w=>Tryz.call106 args w) (fun m W hm=>goneD_c m W hm)
  obtain⟨ns,hns⟩:∃ l,(s.ms.filter fun m=>!(fun t:T9.Tk=>t.list==list && t.done) m.t)=l:=⟨_,rfl⟩
  rw [hns] at DF0
  have DF:=hid DF0
  have JI:=hid hns
  clear DF0 hns
  go_wp2_with fail
  refine DF.out.mono ?_
  rintro e w5 ⟨A9,c9,rfl,ho,hg,hb⟩
  have T5:=hid (O4.out.k.mI hg (Nat.le_trans HB.out D4.out.size))
  have O5:Hid (OS { s with A2:=A9,ms:=ns,c2:=c9 } B w5):=hid ⟨O4.out.l.bM T5.out (by decide),ho,by have q:=(O4.out.t.bM T5.out (by decide)).filter (fun m=>!(fun t:T9.Tk=>t.list==list && t.done) m.t);rw [JI.out] at q;exact q⟩
  have C5:=hid (C4.out.bM T5.out (by decide) (by decide))
  have D5:Hid (Below B w w5):=hid (D4.out.trans T5.out.below)
  clear ho hg hb s0 s1
  obtain⟨s0,s1⟩:=aa C5.out.st
  have f1:=af C5.out.st 1
  have TK:=C5.out.CQ A9 ns c9
  obtain⟨w6,vU⟩:∃ v,w5.setCell ⟨w.heap.size,1,none⟩ (.slice A9 ns.length c9)=v:=⟨_,rfl⟩
  rw [vU] at TK
  have C6:=hid TK.1
  have T6:=hid TK.2
  have D6:Hid (Below B w w6):=hid (D5.out.trans (T6.out.below.mono HB.out))
  have O6:=hid (O5.out.bM T6.out (by decide) (by decide) (by decide))
  clear TK
  have ER:Hid (R=(0,⟨s.ls,ay ns⟩)):=hid (by
   refine HR.out.symm.trans ((T9.w_ HH.out).trans ?_)
   rw [T9.Hz DV.out HH.out,← JI.out,sO (fun t=>t.list==list && t.done)]
   rfl)
  obtain⟨wz,hwz⟩:∃ v,(w6.setCell ⟨w.heap.size+2,0,none⟩ (Value.slice s.A s.ls.length s.c)).setCell ⟨w.heap.size+2,1,none⟩ (Value.slice A9 ns.length c9)=v:=⟨_,rfl⟩
  have FN:=hid (C6.out.fin (w':=wz) O6.out.JO (by dsimp only;exact hwz))
  have g0:=af C6.out.rv 0
  have g1:=af C6.out.rv 1
  obtain⟨u0,u1⟩:=aa C6.out.st
  obtain⟨v0,v1⟩:=aa C6.out.rv
  have y0:=FN.out.2.2.1
  have y1:=FN.out.2.2.2
  dsimp only at u0 u1 y0 y1
  skip
  go_wp2
  refine bodyPost_ret (v:=.agg #[Value.slice s.A s.ls.length s.c,Value.slice A9 ns.length c9]) (by simp [results,results56,go_sem,y0,y1]) rfl ?_
  have G:=dN.good (r:=R) (B:=B) (w:=w) ((D6.out).trans (FN.out.2.1.mono HB.out)) FN.out.1 ER.out
  unfold aW.val at G
  dsimp only at G
  skip
  exact G
theorem chg2_c {s:aW} {u:T9.Mu} {B:Nat} {w:World} (h:OS s B w) (hB:B≤w.heap.size) (hr:T9.aH s.st=0) (hk:u.kind=2) :
  Calls prog 56 #[s.val,u.val] w (dN (T9.eF s.st u) B w):=by
 obtain⟨kd,id,list,text,f,flag⟩:=u
 obtain rfl:kd=2:=hk
 obtain⟨w1,hw1⟩:∃ v,w.alloc (.cells #[.slice s.A s.ls.length s.c,.slice s.A2 s.ms.length s.c2] 25)=v:=⟨_,rfl⟩
 obtain⟨w2,hw2⟩:∃ v,w1.alloc (.cells #[.int .i64 2,.int .u64 (id:Int),.int .u64 (list:Int),.string (str text),.float .f64 f,.bool flag] 56)=v:=⟨_,rfl⟩
 obtain⟨w3,hw3⟩:∃ v,w2.alloc (.cells #[.slice none 0 0,.slice none 0 0] 25)=v:=⟨_,rfl⟩
 obtain⟨cf,b3,z1,z2⟩:=CF.start (s:=s) (m:=⟨2,id,list,text,f,flag⟩) (B:=B) hw1 hw2 hw3
 have C3:=hid cf
 have B3:=hid b3
 have O3:=hid (h.stay b3)
 have HB:=hid hB
 have O0:=hid h
 have UL:=hid (iK hr)
 have UK:=hid (iL hr)
 obtain⟨s0,s1⟩:=aa cf.st
 obtain⟨m0,m1,m2,m3,m4,m5⟩:=ag cf.mu
 have nl:s.ls.length≤20:=(T9.aD hr).1
 have nk:s.ms.length≤60:=by have:=(T9.aD hr).2.1;simpa [aW.st,ay] using this
 obtain⟨R,hR⟩:∃ r,T9.eF s.st ⟨2,id,list,text,f,flag⟩=r:=⟨_,rfl⟩
 rw [hR]
 have HR:=hid hR
 have DV:=hid hr
 unfold aW.val T9.Mu.val
 dsimp only
 clear h hB hr cf b3 hR
 obtain⟨pp,gp⟩:∃ b,T9.iN (s.ls) id=b:=⟨_,rfl⟩
 have HP:=hid gp
 cases gN:T9.bD (s.ls) id with
 | false =>
  have LC:=hid (jk (id:=id) O3.out.sm (by omega) UL.out gN)
  have e:R=(91,s.st):=HR.out.symm.trans (T9.Gq  gN)
  have E:=hid e
  unfold aW.val at LC
  clear gp gN e
  go_enter func56,ntmps56
  go_wp2_with fail
  refine LC.out.mono ?_
  rintro e w4 ⟨rfl,h4⟩
  have B4:=hid (B3.out.trans (h4.mono B3.out.size))
  rw [E.out]
  exact⟨rfl,dN.bad (B4.out.mono HB.out) (show (91:Int)≠0 by decide)⟩
 | true =>
  have LC:=hid (iQ (id:=id) O3.out.sm (by omega) UL.out gN)
  rw [gp] at LC
  have HH:=hid gN
  have PP:pp<s.ls.length:=by
   obtain⟨y,hy,_⟩:=(T9.p_ UL.out).1 gN
   have z:T9.iN (s.ls) id<(s.ls).length:=(List.getElem?_eq_some_iff.1 hy).1
   rw [gp] at z
   exact z
  unfold aW.val at LC
  clear gp gN
  go_enter func56,ntmps56
  go_wp2_with fail
  refine LC.out.mono ?_
  rintro e w4 ⟨rfl,h4⟩
  have C4:=hid (C3.out.stay h4)
  have O4:=hid (O3.out.stay h4)
  have B4:=hid (B3.out.trans (h4.mono B3.out.size))
  have D4:=hid (B4.out.mono HB.out)
  clear h4
  clear s0 s1 m0 m1 m2 m3 m4 m5
  obtain⟨s0,s1⟩:=aa C4.out.st
  obtain⟨m0,m1,m2,m3,m4,m5⟩:=ag C4.out.mu
  have jw:IntKind.i64.wrap ((pp:Int)+1)=(pp:Int)+1:=by rw [IntKind.wrap_i64];omega
  obtain⟨Ae,hnls⟩:∃ l,s.ls.take pp++s.ls.drop (pp+1)=l:=⟨_,rfl⟩
  have nS:=hid hnls
  have LN:Ae.length=s.ls.length - 1:=by rw [← hnls,List.length_append,List.length_take,List.length_drop];omega
  have DL0:=zA (p:=pp) O4.out.l (iF _) PP (by omega)
  rw [← LN,kT,kU] at DL0
  have DL:=hid DL0
  clear DL0 LN hnls
  go_wp2_with fail
  refine DL.out.mono ?_
  rintro e w5 ⟨A',c',rfl,ho,hg,hb⟩
  have T5:=hid (O4.out.l.mI hg (Nat.le_trans HB.out D4.out.size))
  have O5:Hid (OS { s with A:=A',ls:=Ae,c:=c' } B w5):=hid ⟨by
   have e:aL Ae=aL (s.ls.take pp)++aL (s.ls.drop (pp+1)):=by rw [← nS.out];simp [aL]
   show dY w5 B _ 2 A' Ae.length c' (aL Ae)
   rw [e]
   exact ho,O4.out.k.bM T5.out (by decide),O4.out.t.bM T5.out (by decide)⟩
  have C5:=hid (C4.out.bM T5.out (by decide) (by decide))
  have D5:Hid (Below B w w5):=hid (D4.out.trans T5.out.below)
  clear ho hg hb s0 s1 m0 m1 m2 m3 m4 m5
  obtain⟨s0,s1⟩:=aa C5.out.st
  have f0:=af C5.out.st 0
  have TL:=C5.out.turnL A' Ae c'
  obtain⟨w6,vU⟩:∃ v,w5.setCell ⟨w.heap.size,0,none⟩ (.slice A' Ae.length c')=v:=⟨_,rfl⟩
  rw [vU] at TL
  have C6:=hid TL.1
  have T6:=hid TL.2
  have O6:=hid (O5.out.bM T6.out (by decide) (by decide) (by decide))
  have D6:Hid (Below B w w6):=hid (D5.out.trans (T6.out.below.mono HB.out))
  obtain⟨u0,u1⟩:=aa C6.out.st
  dsimp only at u0 u1
  clear TL
  have hmf:∀ (fn:Fn) (first cap:Array Value) (w:World),(Instr.makeFunc fn first cap).run prog w=.ok (.func fn first cap) w:=fun _ _ _ _=>rfl
  have DF0:=vW (p:=(fun t:T9.Tk=>t.list==id)) O6.out.k rfl (fun m hm=>(O6.out.JO.t m hm).fine) C6.out.mu (show s.ms.length≤1000 by omega) (fun args w=>Tryz.call105 args w) (fun m W hm=>goneL_c m W hm)
  obtain⟨ns,hns⟩:∃ l,(s.ms.filter fun m=>!(fun t:T9.Tk=>t.list==id) m.t)=l:=⟨_,rfl⟩
  rw [hns] at DF0
  have DF:=hid DF0
  have JI:=hid hns
  clear DF0 hns
  go_wp2_with fail
  refine DF.out.mono ?_
  rintro e w7 ⟨A9,c9,rfl,ho,hg,hb⟩
  have T7:=hid (O6.out.k.mI hg (Nat.le_trans HB.out D6.out.size))
  have O7:Hid (OS { s with A:=A',ls:=Ae,c:=c',A2:=A9,ms:=ns,c2:=c9 } B w7):=hid ⟨O6.out.l.bM T7.out (by decide),ho,by have q:=(O6.out.t.bM T7.out (by decide)).filter (fun m=>!(fun t:T9.Tk=>t.list==id) m.t);rw [JI.out] at q;exact q⟩
  have C7:=hid (C6.out.bM T7.out (by decide) (by decide))
  have D7:Hid (Below B w w7):=hid (D6.out.trans T7.out.below)
  clear ho hg hb s0 s1 u0 u1
  obtain⟨s0,s1⟩:=aa C7.out.st
  have f1:=af C7.out.st 1
  have TK:=C7.out.CQ A9 ns c9
  obtain⟨w8,hw8⟩:∃ v,w7.setCell ⟨w.heap.size,1,none⟩ (.slice A9 ns.length c9)=v:=⟨_,rfl⟩
  rw [hw8] at TK
  have C8:=hid TK.1
  have T8:=hid TK.2
  have D8:Hid (Below B w w8):=hid (D7.out.trans (T8.out.below.mono HB.out))
  have O8:=hid (O7.out.bM T8.out (by decide) (by decide) (by decide))
  clear TK
  have ER:Hid (R=(0,⟨Ae,ay ns⟩)):=hid (by
   refine HR.out.symm.trans ((T9.AB HH.out).trans ?_)
   rw [T9.wo_drop DV.out HH.out,← JI.out,sO (fun t=>t.list==id),← nS.out]
   refine congrArg (fun z=>((0:Int),T9.St.mk z _)) ?_
   have q:=T9.filL_at (id:=id) UL.out HH.out
   rw [show T9.iN s.st.lists id=pp from HP.out] at q
   exact q)
  obtain⟨wz,hwz⟩:∃ v,(w8.setCell ⟨w.heap.size+2,0,none⟩ (Value.slice A' Ae.length c')).setCell ⟨w.heap.size+2,1,none⟩ (Value.slice A9 ns.length c9)=v:=⟨_,rfl⟩
  have FN:=hid (C8.out.fin (w':=wz) O8.out.JO (by dsimp only;exact hwz))
  have g0:=af C8.out.rv 0
  have g1:=af C8.out.rv 1
  obtain⟨u0,u1⟩:=aa C8.out.st
  obtain⟨v0,v1⟩:=aa C8.out.rv
  have y0:=FN.out.2.2.1
  have y1:=FN.out.2.2.2
  dsimp only at u0 u1 y0 y1
  skip
  go_wp2
  refine bodyPost_ret (v:=.agg #[Value.slice A' Ae.length c',Value.slice A9 ns.length c9]) (by simp [results,results56,go_sem,y0,y1]) rfl ?_
  have G:=dN.good (r:=R) (B:=B) (w:=w) ((D8.out).trans (FN.out.2.1.mono HB.out)) FN.out.1 ER.out
  unfold aW.val at G
  dsimp only at G
  skip
  exact G
end
end
end Go.Proofs.YtdjiiknefhepdaaGreat
