import Derived.Test.YtcedlgedmkghgaaGreatZ30
import Derived.Test.YtcedlgedmkghgaaGreatZ25
namespace Go.Proofs.YtcedlgedmkghgaaGreat
set_option maxHeartbeats 16000000
open Go.Lib Go.Proofs.Tryz
set_option linter.unusedSimpArgs false
set_option maxRecDepth 100000
section
section
open Go.RowKit Go.Lib
structure OS (s:aW) (B:Nat) (w:World):Prop where
 l:dX w B 71 2 s.A s.ls.length s.c (aJ s.ls)
 k:dX w B 74 7 s.A2 s.ms.length s.c2 (ai s.ms)
 t:bI w B s.ms
theorem dX.room {w:World} {B:Nat} {t:TypeId} {k n c:Nat} {A:Option Addr} {xs:List Value} (h:dX w B t k A n c xs):n≤c:=by
 rcases h with⟨q,r⟩ | ⟨g,e,q⟩
 ·omega
 ·exact (aO q).2
theorem OS.JG {s:aW} {B:Nat} {w:World} (h:OS s B w):j_ s w :=
 ⟨h.l.lies (eU _),h.k.lies (aQ _),fun x hx=>⟨(h.t.1 x hx).lies (by rw [dC,Nat.mul_one]),(h.t.1 x hx).room⟩,h.l.room,h.k.room⟩
theorem OS.sm {s:aW} {B:Nat} {w:World} (h:OS s B w):SM s w:=h.JG.sm
theorem OS.bH {s:aW} {B B':Nat} {w w':World} {ts:List TypeId} (h:OS s B w) (hT:aN B' ts w w') (h1:71 ∉ ts) (h2:74 ∉ ts) (h3:9 ∉ ts):OS s B w':=⟨h.l.bH hT h1,h.k.bH hT h2,h.t.bH hT h3⟩
theorem OS.stay {s:aW} {B:Nat} {w w':World} (h:OS s B w) (hb:Below w.heap.size w w'):OS s B w':=h.bH (aN.of_below hb (Nat.le_refl _) []) (by simp) (by simp) (by simp)
structure CF (s:aW) (m:T9.Mu) (B b:Nat) (w:World):Prop where
 st:w.heap[b]?=some (.cells #[.slice s.A s.ls.length s.c,.slice s.A2 s.ms.length s.c2] 25 (0,0))
 mu:j6 m (b+1) w
 rv:w.heap[b+2]?=some (.cells #[.slice none 0 0,.slice none 0 0] 25 (0,0))
theorem CF.stay {s:aW} {m:T9.Mu} {B b:Nat} {w w':World} (h:CF s m B b w) (hb:Below w.heap.size w w'):CF s m B b w':=⟨ae h.st hb,h.mu.stay hb,ae h.rv hb⟩
theorem CF.bH {s:aW} {m:T9.Mu} {B b B':Nat} {w w':World} {ts:List TypeId} (h:CF s m B b w) (hT:aN B' ts w w') (h1:25 ∉ ts) (h2:65 ∉ ts):CF s m B b w':=⟨hT.blk h.st h1,hT.blk h.mu h2,hT.blk h.rv h1⟩
theorem CF.start {s:aW} {m:T9.Mu} {B:Nat} {w w1 w2 w3:World} (h1:w.alloc (.cells #[.slice s.A s.ls.length s.c,.slice s.A2 s.ms.length s.c2] 25)=w1) (h2:w1.alloc (.cells #[.int .i64 m.kind,.int .u64 (m.id:Int),.int .u64 (m.list:Int),.string (str m.text),.float .f64 m.f,.bool m.flag] 65)=w2) (h3:w2.alloc (.cells #[.slice none 0 0,.slice none 0 0] 25)=w3) :
  CF s m B w.heap.size w3∧Below w.heap.size w w3∧w1.heap.size=w.heap.size+1∧w2.heap.size=w.heap.size+2:=by
 obtain⟨a1,b1,z1⟩:=ak h1
 obtain⟨a2,b2,z2⟩:=bu h2
 obtain⟨a3,b3,z3⟩:=ak h3
 rw [z1] at a2
 rw [z2,z1] at a3
 exact⟨⟨ae (ae a1 b2) b3,j6.stay (m:=m) a2 b3,a3⟩,b1.trans ((b2.mono (by omega)).trans (b3.mono (by omega))),z1,by omega⟩
theorem CF.turn {s q:aW} {m:T9.Mu} {B b:Nat} {w:World} (h:CF s m B b w) :
  CF q m B b ((w.setCell ⟨b,0,none⟩ (.slice q.A q.ls.length q.c)).setCell ⟨b,1,none⟩ (.slice q.A2 q.ms.length q.c2))∧aN b [25] w ((w.setCell ⟨b,0,none⟩ (.slice q.A q.ls.length q.c)).setCell ⟨b,1,none⟩ (.slice q.A2 q.ms.length q.c2)):=by
 have y:Ty w b 25:=⟨_,_,h.st⟩
 refine⟨⟨(ah (ah h.st 0 _) 1 _).trans rfl,?_,?_⟩,((aN.refl _ _ w).aC (p:=⟨b,0,none⟩) y (by simp) (Nat.le_refl _) _).aC (p:=⟨b,1,none⟩) (y.set _ _) (by simp) (Nat.le_refl _) _⟩
 ·exact av (av h.mu (p:=⟨b,0,none⟩) (by show b+1≠b;omega) _) (p:=⟨b,1,none⟩) (by show b+1≠b;omega) _
 ·exact av (av h.rv (p:=⟨b,0,none⟩) (by show b+2≠b;omega) _) (p:=⟨b,1,none⟩) (by show b+2≠b;omega) _
theorem CF.turnL {s:aW} {m:T9.Mu} {B b:Nat} {w:World} (h:CF s m B b w) (A:Option Addr) (ls:List T9.Li) (c:Nat) :
  CF { s with A:=A,ls:=ls,c:=c } m B b (w.setCell ⟨b,0,none⟩ (.slice A ls.length c))∧aN b [25] w (w.setCell ⟨b,0,none⟩ (.slice A ls.length c)):=by
 have y:Ty w b 25:=⟨_,_,h.st⟩
 exact⟨⟨(ah h.st 0 _).trans rfl,av h.mu (p:=⟨b,0,none⟩) (by show b+1≠b;omega) _,av h.rv (p:=⟨b,0,none⟩) (by show b+2≠b;omega) _⟩,(aN.refl _ _ w).aC (p:=⟨b,0,none⟩) y (by simp) (Nat.le_refl _) _⟩
theorem CF.C_ {s:aW} {m:T9.Mu} {B b:Nat} {w:World} (h:CF s m B b w) (A:Option Addr) (ms:List aL) (c:Nat) :
  CF { s with A2:=A,ms:=ms,c2:=c } m B b (w.setCell ⟨b,1,none⟩ (.slice A ms.length c))∧aN b [25] w (w.setCell ⟨b,1,none⟩ (.slice A ms.length c)):=by
 have y:Ty w b 25:=⟨_,_,h.st⟩
 exact⟨⟨(ah h.st 1 _).trans rfl,av h.mu (p:=⟨b,1,none⟩) (by show b+1≠b;omega) _,av h.rv (p:=⟨b,1,none⟩) (by show b+2≠b;omega) _⟩,(aN.refl _ _ w).aC (p:=⟨b,1,none⟩) y (by simp) (Nat.le_refl _) _⟩
theorem CF.fin {s:aW} {m:T9.Mu} {B b:Nat} {w w':World} (h:CF s m B b w) (q:j_ s w) (hw:(w.setCell ⟨b+2,0,none⟩ (.slice s.A s.ls.length s.c)).setCell ⟨b+2,1,none⟩ (.slice s.A2 s.ms.length s.c2)=w') :
  j_ s w'∧Below b w w'∧w'.cell? ⟨b+2,0,none⟩=some (.slice s.A s.ls.length s.c)∧w'.cell? ⟨b+2,1,none⟩=some (.slice s.A2 s.ms.length s.c2):=by
 subst hw
 have y:Ty w (b+2) 25:=⟨_,_,h.rv⟩
 have T:aN b [25] w ((w.setCell ⟨b+2,0,none⟩ (.slice s.A s.ls.length s.c)).setCell ⟨b+2,1,none⟩ (.slice s.A2 s.ms.length s.c2)):=((aN.refl _ _ w).aC (p:=⟨b+2,0,none⟩) y (by simp) (Nat.le_add_right _ _) _).aC (p:=⟨b+2,1,none⟩) (y.set _ _) (by simp) (Nat.le_add_right _ _) _
 have z:=(ah (ah h.rv 0 (.slice s.A s.ls.length s.c)) 1 (.slice s.A2 s.ms.length s.c2)).trans rfl
 exact⟨q.bH T (by decide) (by decide) (by decide),T.below,(aa z).1,(aa z).2⟩
def dM (r:Int × T9.St) (B:Nat) (w:World) (e:Ending) (w':World):Prop :=
 Below B w w'∧(r.1=0→∃ q:aW,e=.returned q.val∧j_ q w'∧q.st=r.2)∧(r.1≠0→e=.panicked [{ v:=.iface 50 (.int .i64 r.1),recovered:=false }])
theorem dM.bad {r:Int × T9.St} {B:Nat} {w w':World} (hb:Below B w w') (h:r.1≠0):dM r B w (.panicked [{ v:=.iface 50 (.int .i64 r.1),recovered:=false }]) w':=⟨hb,fun z=>absurd z h,fun _=>rfl⟩
theorem dM.good {r:Int × T9.St} {B:Nat} {w w':World} {q:aW} (hb:Below B w w') (hq:j_ q w') (hr:r=(0,q.st)):dM r B w (.returned q.val) w':=⟨hb,fun _=>⟨q,rfl,hq,by rw [hr]⟩,fun z=>absurd (by rw [hr]) z⟩
theorem iJ {s:T9.St} (h:T9.aH s=0):s.lists.Pairwise fun x y=>x.id<y.id:=((T9.iE.1 (T9.aD h).2.2.1).2).imp fun q=>of_decide_eq_true q
theorem iI {s:T9.St} (h:T9.aH s=0):s.tasks.Pairwise fun x y=>x.id<y.id:=((T9.cu.1 (T9.aD h).2.2.2).2).imp fun q=>of_decide_eq_true q
theorem insL_at {ls:List T9.Li} {x:T9.Li} (h:T9.bC ls x.id=false):Sr.ins T9.iN x ls=ls.take (T9.iM ls x.id)++x :: ls.drop (T9.iM ls x.id):=by
 refine Sr.rC fun y hy=>?_
 unfold T9.bC at h
 rw [List.any_eq_false] at h
 have ne:=h y hy
 simp only [beq_iff_eq] at ne
 unfold T9.iN
 rw [decide_eq_true_eq,decide_eq_true_eq]
 omega
theorem insK_at {ls:List T9.Tk} {x:T9.Tk} (h:T9.d_ ls x.id=false):Sr.ins T9.iT x ls=ls.take (T9.dV ls x.id)++x :: ls.drop (T9.dV ls x.id):=by
 refine Sr.rC fun y hy=>?_
 unfold T9.d_ at h
 rw [List.any_eq_false] at h
 have ne:=h y hy
 simp only [beq_iff_eq] at ne
 unfold T9.iT
 rw [decide_eq_true_eq,decide_eq_true_eq]
 omega
namespace T9
theorem Gb {s:St} {id list f:Nat} {text:List UInt8} {flag:Bool} (h:bC s.lists id=true):eB s ⟨1,id,list,text,f,flag⟩=(92,s):=by unfold eB;dsimp only;rw [if_pos rfl,if_pos h]
theorem Gc {s:St} {id list f:Nat} {text:List UInt8} {flag:Bool} (h:bC s.lists id=false) (h2:20≤s.lists.length):eB s ⟨1,id,list,text,f,flag⟩=(95,s):=by unfold eB;dsimp only;rw [if_pos rfl,if_neg (by rw [h];decide),if_pos h2]
theorem AJ {s:St} {id list f:Nat} {text:List UInt8} {flag:Bool} (h:bC s.lists id=false) (h2:¬ 20≤s.lists.length):eB s ⟨1,id,list,text,f,flag⟩=(0,⟨Sr.ins iN ⟨id,text⟩ s.lists,s.tasks⟩):=by unfold eB;dsimp only;rw [if_pos rfl,if_neg (by rw [h];decide),if_neg h2]
theorem Gd {s:St} {id list f:Nat} {text:List UInt8} {flag:Bool} (h:bC s.lists id=false):eB s ⟨2,id,list,text,f,flag⟩=(91,s):=by unfold eB;dsimp only;rw [if_neg (by decide),if_pos rfl,if_pos h]
theorem AL {s:St} {id list f:Nat} {text:List UInt8} {flag:Bool} (h:bC s.lists id=true):eB s ⟨2,id,list,text,f,flag⟩=(0,⟨s.lists.filter fun l=>!(l.id==id),wo s.tasks id false 0⟩):=by unfold eB;dsimp only;rw [if_neg (by decide),if_pos rfl,if_neg (by rw [h];decide)]
theorem Cg {s:St} {id list f:Nat} {text:List UInt8} {flag:Bool} (h:bC s.lists list=false):eB s ⟨12,id,list,text,f,flag⟩=(91,s):=by unfold eB;dsimp only;rw [if_neg (by decide),if_neg (by decide),if_pos rfl,if_pos h]
theorem wH {s:St} {id list f:Nat} {text:List UInt8} {flag:Bool} (h:bC s.lists list=true):eB s ⟨12,id,list,text,f,flag⟩=(0,⟨s.lists,wo s.tasks list true 0⟩):=by unfold eB;dsimp only;rw [if_neg (by decide),if_neg (by decide),if_pos rfl,if_neg (by rw [h];decide)]
theorem Ch {s:St} {id list f:Nat} {text:List UInt8} {flag:Bool} (h:bC s.lists list=false):eB s ⟨13,id,list,text,f,flag⟩=(91,s):=by unfold eB;dsimp only;rw [if_neg (by decide),if_neg (by decide),if_neg (by decide),if_pos rfl,if_pos h]
theorem wI {s:St} {id list f:Nat} {text:List UInt8} {flag:Bool} (h:bC s.lists list=true):eB s ⟨13,id,list,text,f,flag⟩=(0,⟨s.lists,s.tasks.map (nN (kJ s.tasks list))⟩):=by unfold eB;dsimp only;rw [if_neg (by decide),if_neg (by decide),if_neg (by decide),if_pos rfl,if_neg (by rw [h];decide)]
theorem Gf {s:St} {id list f:Nat} {text:List UInt8} {flag:Bool} (h:d_ s.tasks id=true):eB s ⟨3,id,list,text,f,flag⟩=(92,s):=by unfold eB;dsimp only;rw [if_neg (by decide),if_neg (by decide),if_neg (by decide),if_neg (by decide),if_pos rfl,if_pos h]
theorem Gg {s:St} {id list f:Nat} {text:List UInt8} {flag:Bool} (h:d_ s.tasks id=false) (h2:bC s.lists list=false):eB s ⟨3,id,list,text,f,flag⟩=(91,s):=by unfold eB;dsimp only;rw [if_neg (by decide),if_neg (by decide),if_neg (by decide),if_neg (by decide),if_pos rfl,if_neg (by rw [h];decide),if_pos h2]
theorem Gh {s:St} {id list f:Nat} {text:List UInt8} {flag:Bool} (h:d_ s.tasks id=false) (h2:bC s.lists list=true) (h3:60≤s.tasks.length):eB s ⟨3,id,list,text,f,flag⟩=(95,s):=by unfold eB;dsimp only;rw [if_neg (by decide),if_neg (by decide),if_neg (by decide),if_neg (by decide),if_pos rfl,if_neg (by rw [h];decide),if_neg (by rw [h2];decide),if_pos h3]
theorem Gi {s:St} {id list f:Nat} {text:List UInt8} {flag:Bool} (h:d_ s.tasks id=false) (h2:bC s.lists list=true) (h3:¬ 60≤s.tasks.length):eB s ⟨3,id,list,text,f,flag⟩=(0,⟨s.lists,Sr.ins iT ⟨id,list,text,false,f,Fl.ig,[]⟩ s.tasks⟩):=by unfold eB;dsimp only;rw [if_neg (by decide),if_neg (by decide),if_neg (by decide),if_neg (by decide),if_pos rfl,if_neg (by rw [h];decide),if_neg (by rw [h2];decide),if_neg h3]
theorem lV {s:St} {k:Int} {id list f:Nat} {text:List UInt8} {flag:Bool} (hk:k=4∨k=5∨k=6∨k=7∨k=8∨k=9∨k=10∨k=11) (h:d_ s.tasks id=false):eB s ⟨k,id,list,text,f,flag⟩=(93,s):=by unfold eB;dsimp only;rw [if_neg (by omega),if_neg (by omega),if_neg (by omega),if_neg (by omega),if_neg (by omega),if_pos h]
theorem lW {s:St} {k:Int} {id list f:Nat} {text:List UInt8} {flag:Bool} (hk:k=4∨k=5∨k=6∨k=7∨k=8∨k=9∨k=10) (h:d_ s.tasks id=true):eB s ⟨k,id,list,text,f,flag⟩=((oD (bC s.lists list) ⟨k,id,list,text,f,flag⟩ (dH s.tasks id).1).1,⟨s.lists,Sr.ins iT (oD (bC s.lists list) ⟨k,id,list,text,f,flag⟩ (dH s.tasks id).1).2 (wo s.tasks 0 false id)⟩):=by unfold eB;dsimp only;rw [if_neg (by omega),if_neg (by omega),if_neg (by omega),if_neg (by omega),if_neg (by omega),if_neg (by rw [h];decide),if_neg (by omega)]
theorem wG {s:St} {id list f:Nat} {text:List UInt8} {flag:Bool} (h:d_ s.tasks id=true):eB s ⟨11,id,list,text,f,flag⟩=(0,⟨s.lists,wo s.tasks 0 false id⟩):=by unfold eB;dsimp only;rw [if_neg (by decide),if_neg (by decide),if_neg (by decide),if_neg (by decide),if_neg (by decide),if_neg (by rw [h];decide),if_pos rfl]
end T9
theorem bs11L (a b:Value) (w:World):(Instr.buildSlice 22 1 #[(0,.agg #[a,b])]).run prog w=.ok (.slice (some ⟨w.heap.size,0,none⟩) 1 1) (w.alloc (.cells #[a,b] 71)):=by
 obtain⟨i0,hi,hz0,hz1,hz2⟩:=info_parts Tryz.infoLi9
 exact dF w 22 71 #[a,b] i0 _ underlying22 hi hz0 hz1 (by simp) (by simp)
theorem bl11L (a:Int) (b:ByteArray) (w:World):(Instr.build 71 #[(0,.int .u64 a),(1,.string b)]).run prog w=.ok (.agg #[.int .u64 a,.string b]) w:=run_build w 71 _ _ (by kernel_rfl)
theorem chg1_c {s:aW} {u:T9.Mu} {B:Nat} {w:World} (h:OS s B w) (hB:B≤w.heap.size) (hr:T9.aH s.st=0) (hk:u.kind=1) :
  Calls prog 142 #[s.val,u.val] w (dM (T9.eB s.st u) B w):=by
 obtain⟨kd,id,list,text,f,flag⟩:=u
 obtain rfl:kd=1:=hk
 obtain⟨w1,hw1⟩:∃ v,w.alloc (.cells #[.slice s.A s.ls.length s.c,.slice s.A2 s.ms.length s.c2] 25)=v:=⟨_,rfl⟩
 obtain⟨w2,hw2⟩:∃ v,w1.alloc (.cells #[.int .i64 1,.int .u64 (id:Int),.int .u64 (list:Int),.string (str text),.float .f64 f,.bool flag] 65)=v:=⟨_,rfl⟩
 obtain⟨w3,hw3⟩:∃ v,w2.alloc (.cells #[.slice none 0 0,.slice none 0 0] 25)=v:=⟨_,rfl⟩
 obtain⟨cf,b3,z1,z2⟩:=CF.start (s:=s) (m:=⟨1,id,list,text,f,flag⟩) (B:=B) hw1 hw2 hw3
 have C3:=hid cf
 have B3:=hid b3
 have O3:=hid (h.stay b3)
 have HB:=hid hB
 have O0:=hid h
 have UL:=hid (iJ hr)
 have UK:=hid (iI hr)
 obtain⟨s0,s1⟩:=aa cf.st
 obtain⟨m0,m1,m2,m3,m4,m5⟩:=ag cf.mu
 have nl:s.ls.length≤20:=(T9.aD hr).1
 have nk:s.ms.length≤60:=by have:=(T9.aD hr).2.1;simpa [aW.st,ay] using this
 obtain⟨R,hR⟩:∃ r,T9.eB s.st ⟨1,id,list,text,f,flag⟩=r:=⟨_,rfl⟩
 rw [hR]
 have HR:=hid hR
 have Dh:=hid hr
 unfold aW.val T9.Mu.val
 dsimp only
 clear h hB hr cf b3 hR
 have LC:=hid (sU (id:=id) O3.out.sm (by omega) UL.out)
 obtain⟨hh,gK⟩:∃ b,T9.bC s.ls id=b:=⟨_,rfl⟩
 obtain⟨pp,fP⟩:∃ b,T9.iM s.ls id=b:=⟨_,rfl⟩
 rw [gK,fP] at LC
 have HH:=hid gK
 have HP:=hid fP
 unfold aW.val at LC
 clear gK fP
 go_enter func142,ntmps142
 go_wp2_with fail
 refine LC.out.mono ?_
 rintro e w4 ⟨rfl,h4⟩
 have C4:=hid (C3.out.stay h4)
 have O4:=hid (O3.out.stay h4)
 have B4:=hid (B3.out.trans (h4.mono B3.out.size))
 clear h4 s0 s1 m0 m1 m2 m3 m4 m5
 obtain⟨s0,s1⟩:=aa C4.out.st
 obtain⟨m0,m1,m2,m3,m4,m5⟩:=ag C4.out.mu
 cases hh with
 | true =>
  go_wp2_with (go_at_call 192;refine (eX _ _).mono ?_;rintro e w' ⟨rfl,rfl⟩)
  have e:R=(92,s.st):=HR.out.symm.trans (T9.Gb HH.out)
  subst e
  exact⟨rfl,dM.bad (B4.out.mono HB.out) (show (92:Int)≠0 by decide)⟩
 | false =>
  by_cases h20:20≤s.ls.length
  ·have h20z:(20:Int)≤(s.ls.length:Int):=by omega
   have h20d:decide ((20:Int)≤(s.ls.length:Int))=true:=decide_eq_true h20z
   have h20n:decide (20≤s.ls.length)=true:=decide_eq_true h20
   go_wp2_with (first | (go_at_call 192;(with_reducible refine (fq 92 _).mono ?_);rintro e w' ⟨rfl,rfl⟩) | (go_at_call 192;refine (eX _ _).mono ?_;rintro e w' ⟨rfl,rfl⟩))
   have e:R=(95,s.st):=HR.out.symm.trans (T9.Gc HH.out h20)
   subst e
   exact⟨rfl,dM.bad (B4.out.mono HB.out) (show (95:Int)≠0 by decide)⟩
  ·have h20z:¬ ((20:Int)≤(s.ls.length:Int)):=by omega
   have h20d:decide ((20:Int)≤(s.ls.length:Int))=false:=decide_eq_false h20z
   have h20n:decide (20≤s.ls.length)=false:=decide_eq_false h20
   have hbl:=bl11L (id:Int) (str text)
   have hbs:=bs11L (.int .u64 (id:Int)) (.string (str text))
   obtain⟨w5,fQ⟩:∃ v,w4.alloc (.cells #[.int .u64 (id:Int),.string (str text)] 71)=v:=⟨_,rfl⟩
   obtain⟨lb,b5,z5⟩:=ak fQ
   have PP:pp≤s.ls.length:=by rw [← HP.out];exact Sr.om
   have C5:=hid (C4.out.stay b5)
   have O5:=hid (O4.out.stay b5)
   have B5:=hid (B4.out.trans (b5.mono B4.out.size))
   have NE:Hid (nG s.A s.c≠some w4.heap.size):=hid fun e=>by
    rcases O4.out.l.parts with⟨_,q⟩ | ⟨g,e2,c0,q⟩
    ·rw [show nG s.A s.c=none by unfold nG;rw [if_pos q]] at e;cases e
    ·rw [e2,aZ c0] at e
     injection e with e
     have:=(q.lt g rfl).2
     omega
   have IC:=hid (Eb (p:=pp) (v:=bf ⟨id,text⟩) O5.out.l (eU _) (iD _) lb rfl (kK _) PP NE.out (by omega) (Nat.le_trans HB.out B5.out.size))
   obtain⟨t0,t1⟩:=aa C5.out.st
   clear lb b5 z5
   go_wp2_with (go_at_call 192;refine (fq _ _).mono ?_;rintro e w' ⟨rfl,rfl⟩)
   refine IC.out.mono ?_
   rintro e w6 ⟨A',c',rfl,ho,hg,hb⟩
   have T6:=hid (O5.out.l.mH hg (Nat.le_trans HB.out B5.out.size))
   have LN:Hid ((s.ls.take pp++(⟨id,text⟩:T9.Li) :: s.ls.drop pp).length=s.ls.length+1):=hid (by rw [List.length_append,List.length_cons,List.length_take,List.length_drop];omega)
   have O6:Hid (OS { s with A:=A',ls:=s.ls.take pp++(⟨id,text⟩:T9.Li) :: s.ls.drop pp,c:=c' } B w6):=hid ⟨by
    show dX w6 B _ 2 A' (s.ls.take pp++(⟨id,text⟩:T9.Li) :: s.ls.drop pp).length c' _
    rw [LN.out]
    rw [kC,kw] at ho
    have e:aJ (s.ls.take pp++(⟨id,text⟩:T9.Li) :: s.ls.drop pp)=aJ (s.ls.take pp)++bf ⟨id,text⟩++aJ (s.ls.drop pp):=by simp [aJ]
    rw [e]
    exact ho,O5.out.k.bH T6.out (by decide),O5.out.t.bH T6.out (by decide)⟩
   have C6:=hid (C5.out.bH T6.out (by decide) (by decide))
   have ER:Hid (R=(0,⟨s.ls.take pp++(⟨id,text⟩:T9.Li) :: s.ls.drop pp,ay s.ms⟩)):=hid (by
    refine HR.out.symm.trans ((T9.AJ HH.out h20).trans ?_)
    show (0,T9.St.mk (Sr.ins T9.iN ⟨id,text⟩ s.ls) (ay s.ms))=_
    rw [insL_at (x:=⟨id,text⟩) HH.out,HP.out])
   clear ho hg hb t0 t1 s0 s1
   obtain⟨t0,t1⟩:=aa C6.out.st
   have f0:=af C6.out.st 0
   have TL:=C6.out.turnL A' (s.ls.take pp++(⟨id,text⟩:T9.Li) :: s.ls.drop pp) c'
   rw [LN.out] at TL
   obtain⟨w7,hw7⟩:∃ v,w6.setCell ⟨w.heap.size,0,none⟩ (.slice A' (s.ls.length+1) c')=v:=⟨_,rfl⟩
   rw [hw7] at TL
   have C7:=hid TL.1
   have T7:=hid TL.2
   have O7:=hid (O6.out.bH T7.out (by decide) (by decide) (by decide))
   clear TL
   obtain⟨wz,hwz⟩:∃ v,(w7.setCell ⟨w.heap.size+2,0,none⟩ (Value.slice A' (s.ls.length+1) c')).setCell ⟨w.heap.size+2,1,none⟩ (Value.slice s.A2 s.ms.length s.c2)=v:=⟨_,rfl⟩
   have FN:=hid (C7.out.fin (w':=wz) O7.out.JG (by dsimp only;rw [LN.out];exact hwz))
   have g0:=af C7.out.rv 0
   have g1:=af C7.out.rv 1
   obtain⟨u0,u1⟩:=aa C7.out.st
   obtain⟨v0,v1⟩:=aa C7.out.rv
   have y0:=FN.out.2.2.1
   have y1:=FN.out.2.2.2
   dsimp only at u0 u1 y0 y1
   try rw [LN.out] at u0
   try rw [LN.out] at u1
   try rw [LN.out] at y0
   try rw [LN.out] at y1
   go_wp2
   refine bodyPost_ret (v:=.agg #[Value.slice A' (s.ls.length+1) c',Value.slice s.A2 s.ms.length s.c2]) (by simp [results,results142,go_sem,y0,y1]) rfl ?_
   have G:=dM.good (r:=R) (B:=B) (w:=w) ((((B5.out.mono HB.out).trans T6.out.below).trans (T7.out.below.mono HB.out)).trans (FN.out.2.1.mono HB.out)) FN.out.1 ER.out
   unfold aW.val at G
   dsimp only at G
   rw [LN.out] at G
   exact G
end
section
open Go.RowKit Go.Lib
theorem bI.filter {w:World} {B:Nat} {ms:List aL} (h:bI w B ms) (p:aL→Bool):bI w B (ms.filter p):=⟨fun m hm=>h.1 m (List.mem_filter.1 hm).1,List.Pairwise.filter _ h.2⟩
theorem uj (p:T9.Tk→Bool) (ms:List aL):ay (ms.filter fun m=>!p m.t)=(ay ms).filter fun t=>!p t:=by
 unfold ay
 rw [List.filter_map]
 rfl
theorem yj {A:Option Addr} {n c p B:Nat} {xs:List Value} {w:World} (h:dX w B 71 2 A n c xs) (h1:∀ u∈xs,u.oneCell'=true) (hp:p<n) (hs:n≤1001) :
  Calls prog 200 #[.slice A n c,.int .i64 (p:Int),.int .i64 ((p:Int)+1)] w (nW 71 2 A c (xs.take (p * 2)++xs.drop ((p+1) * 2)) (n - 1) B w):=by
 obtain⟨g,rfl,c0,own⟩:=h.parts.resolve_left (fun q=>by omega)
 obtain⟨m,rfl⟩:∃ m,n=m+1:=⟨n - 1,by omega⟩
 rw [Nat.add_sub_cancel]
 exact DK own h1 (by omega) (by omega)
theorem yh {A:Option Addr} {n c p B:Nat} {xs:List Value} {w:World} (h:dX w B 74 7 A n c xs) (h1:∀ u∈xs,u.oneCell'=true) (hp:p<n) (hs:n≤1001) :
  Calls prog 208 #[.slice A n c,.int .i64 (p:Int),.int .i64 ((p:Int)+1)] w (nW 74 7 A c (xs.take (p * 7)++xs.drop ((p+1) * 7)) (n - 1) B w):=by
 obtain⟨g,rfl,c0,own⟩:=h.parts.resolve_left (fun q=>by omega)
 obtain⟨m,rfl⟩:∃ m,n=m+1:=⟨n - 1,by omega⟩
 rw [Nat.add_sub_cancel]
 exact DI own h1 (by omega) (by omega)
theorem bI.sub {w:World} {B:Nat} {ms ns:List aL} (h:bI w B ms) (hs:ns.Sublist ms):bI w B ns:=⟨fun m hm=>h.1 m (hs.subset hm),h.2.sublist hs⟩
theorem cut_sub {α:Type} (l:List α) (p:Nat):(l.take p++l.drop (p+1)).Sublist l:=by
 conv=>rhs;rw [← List.take_append_drop p l]
 refine List.Sublist.append_left ?_ _
 have q:=List.drop_sublist 1 (l.drop p)
 rw [List.drop_drop] at q
 exact q
namespace T9
theorem Cj {l:List Tk} {id:Nat} (hu:l.Pairwise fun x y=>x.id<y.id) (h:d_ l id=true):wo l 0 false id=l.take (dV l id)++l.drop (dV l id+1):=by
 have e:wo l 0 false id=l.filter fun y=>!(y.id==id):=by
  unfold wo
  refine List.filter_congr fun t _=>?_
  simp
 rw [e]
 obtain⟨y,hy,rfl⟩:=(kY hu).1 h
 obtain⟨hp,ey⟩:=List.getElem?_eq_some_iff.1 hy
 conv=>lhs;rw [← List.take_append_drop (dV l y.id) l]
 rw [List.filter_append,List.drop_eq_getElem_cons hp,ey,List.filter_cons,if_neg (by simp)]
 congr 1
 ·rw [List.filter_eq_self]
  intro z hz
  obtain⟨i,hi,rfl⟩:=List.mem_iff_getElem.1 hz
  rw [List.length_take] at hi
  have:=List.pairwise_iff_getElem.1 hu i (dV l y.id) (by omega) hp (by omega)
  rw [ey] at this
  rw [List.getElem_take]
  have ne:¬ l[i].id=y.id:=by omega
  simp [ne]
 ·rw [List.filter_eq_self]
  intro z hz
  obtain⟨i,hi,rfl⟩:=List.mem_iff_getElem.1 hz
  rw [List.length_drop] at hi
  have:=List.pairwise_iff_getElem.1 hu (dV l y.id) (dV l y.id+1+i) hp (by omega) (by omega)
  rw [ey] at this
  rw [List.getElem_drop]
  have ne:¬ l[dV l y.id+1+i].id=y.id:=by omega
  simp [ne]
theorem Ck {l:List Tk} {id:Nat} {t:Tk} (hu:l.Pairwise fun x y=>x.id<y.id) (h:d_ l id=true) (ht:t.id=id):Sr.ins iT t (wo l 0 false id)=l.set (dV l id) t:=by
 rw [Cj hu h]
 obtain⟨y,hy,ey⟩:=(kY hu).1 h
 have hp:=(List.getElem?_eq_some_iff.1 hy).1
 have tl:(l.take (dV l id)).length=dV l id:=by rw [List.length_take];omega
 have t1:(l.take (dV l id)++l.drop (dV l id+1)).take (dV l id)=l.take (dV l id):=List.take_left' tl
 have d1:(l.take (dV l id)++l.drop (dV l id+1)).drop (dV l id)=l.drop (dV l id+1):=List.drop_left' tl
 rw [Sr.gL (i:=dV l id) (fun z hz=>?_) (fun z hz=>?_),t1,d1,List.set_eq_take_append_cons_drop,if_pos hp]
 ·rw [t1] at hz
  obtain⟨i,hi,rfl⟩:=List.mem_iff_getElem.1 hz
  rw [List.length_take] at hi
  rw [List.getElem_take]
  unfold iT
  rw [decide_eq_true_eq,ht]
  exact (y_ hu (List.getElem?_eq_getElem (by omega))).1 (by omega)
 ·rw [List.getElem?_append_right (by rw [tl];exact Nat.le_refl _),tl,Nat.sub_self,List.getElem?_drop,Nat.add_zero] at hz
  have q:=(List.getElem?_eq_some_iff.1 hz).1
  have:=List.pairwise_iff_getElem.1 hu (dV l id) (dV l id+1) hp q (by omega)
  rw [(List.getElem?_eq_some_iff.1 hz).2,(List.getElem?_eq_some_iff.1 hy).2,ey] at this
  unfold iT
  rw [decide_eq_false_iff_not,decide_eq_true_eq,ht]
  omega
theorem ym {l:List Tk} {id:Nat} (hu:l.Pairwise fun x y=>x.id<y.id) (h:d_ l id=true):l[dV l id]?=some (dH l id).1∧(dH l id).1.id=id:=by
 obtain⟨y,hy,ey⟩:=(kY hu).1 h
 have q:=DT (hu.imp fun h=>by omega) (List.mem_of_getElem? hy)
 rw [ey] at q
 rw [q]
 exact⟨hy,ey⟩
theorem filL_at {l:List Li} {id:Nat} (hu:l.Pairwise fun x y=>x.id<y.id) (h:bC l id=true):(l.filter fun y=>!(y.id==id))=l.take (iM l id)++l.drop (iM l id+1):=by
 obtain⟨y,hy,rfl⟩:=(oU hu).1 h
 obtain⟨hp,ey⟩:=List.getElem?_eq_some_iff.1 hy
 conv=>lhs;rw [← List.take_append_drop (iM l y.id) l]
 rw [List.filter_append,List.drop_eq_getElem_cons hp,ey,List.filter_cons,if_neg (by simp)]
 congr 1
 ·rw [List.filter_eq_self]
  intro z hz
  obtain⟨i,hi,rfl⟩:=List.mem_iff_getElem.1 hz
  rw [List.length_take] at hi
  have:=List.pairwise_iff_getElem.1 hu i (iM l y.id) (by omega) hp (by omega)
  rw [ey] at this
  rw [List.getElem_take]
  have ne:¬ l[i].id=y.id:=by omega
  simp [ne]
 ·rw [List.filter_eq_self]
  intro z hz
  obtain⟨i,hi,rfl⟩:=List.mem_iff_getElem.1 hz
  rw [List.length_drop] at hi
  have:=List.pairwise_iff_getElem.1 hu (iM l y.id) (iM l y.id+1+i) hp (by omega) (by omega)
  rw [ey] at this
  rw [List.getElem_drop]
  have ne:¬ l[iM l y.id+1+i].id=y.id:=by omega
  simp [ne]
theorem wo_drop {s:St} {id:Nat} (h:aH s=0) (hh:bC s.lists id=true):wo s.tasks id false 0=s.tasks.filter fun t=>!(t.list==id):=by
 obtain⟨h1,h2,h3,h4⟩:=aD h
 obtain⟨l,hl,e⟩:=kN.1 hh
 have p:=((iE.1 h3).1 l hl).1
 unfold wo
 refine List.filter_congr fun t ht=>?_
 have q:=((cu.1 h4).1 t ht).1
 have a:(t.id==0)=false:=by rw [beq_eq_false_iff_ne];omega
 have b:(id==0)=false:=by rw [beq_eq_false_iff_ne];omega
 rw [a,b]
 simp
theorem Jt {s:St} {id:Nat} (h:aH s=0) (hh:bC s.lists id=true):wo s.tasks id true 0=s.tasks.filter fun t=>!(t.list==id && t.done):=by
 obtain⟨h1,h2,h3,h4⟩:=aD h
 obtain⟨l,hl,e⟩:=kN.1 hh
 have p:=((iE.1 h3).1 l hl).1
 unfold wo
 refine List.filter_congr fun t ht=>?_
 have q:=((cu.1 h4).1 t ht).1
 have a:(t.id==0)=false:=by rw [beq_eq_false_iff_ne];omega
 have b:(id==0)=false:=by rw [beq_eq_false_iff_ne];omega
 rw [a,b]
 simp
end T9
theorem chg12_c {s:aW} {u:T9.Mu} {B:Nat} {w:World} (h:OS s B w) (hB:B≤w.heap.size) (hr:T9.aH s.st=0) (hk:u.kind=12) :
  Calls prog 142 #[s.val,u.val] w (dM (T9.eB s.st u) B w):=by
 obtain⟨kd,id,list,text,f,flag⟩:=u
 obtain rfl:kd=12:=hk
 obtain⟨w1,hw1⟩:∃ v,w.alloc (.cells #[.slice s.A s.ls.length s.c,.slice s.A2 s.ms.length s.c2] 25)=v:=⟨_,rfl⟩
 obtain⟨w2,hw2⟩:∃ v,w1.alloc (.cells #[.int .i64 12,.int .u64 (id:Int),.int .u64 (list:Int),.string (str text),.float .f64 f,.bool flag] 65)=v:=⟨_,rfl⟩
 obtain⟨w3,hw3⟩:∃ v,w2.alloc (.cells #[.slice none 0 0,.slice none 0 0] 25)=v:=⟨_,rfl⟩
 obtain⟨cf,b3,z1,z2⟩:=CF.start (s:=s) (m:=⟨12,id,list,text,f,flag⟩) (B:=B) hw1 hw2 hw3
 have C3:=hid cf
 have B3:=hid b3
 have O3:=hid (h.stay b3)
 have HB:=hid hB
 have O0:=hid h
 have UL:=hid (iJ hr)
 have UK:=hid (iI hr)
 obtain⟨s0,s1⟩:=aa cf.st
 obtain⟨m0,m1,m2,m3,m4,m5⟩:=ag cf.mu
 have nl:s.ls.length≤20:=(T9.aD hr).1
 have nk:s.ms.length≤60:=by have:=(T9.aD hr).2.1;simpa [aW.st,ay] using this
 obtain⟨R,hR⟩:∃ r,T9.eB s.st ⟨12,id,list,text,f,flag⟩=r:=⟨_,rfl⟩
 rw [hR]
 have HR:=hid hR
 have Dh:=hid hr
 unfold aW.val T9.Mu.val
 dsimp only
 clear h hB hr cf b3 hR
 obtain⟨pp,fP⟩:∃ b,T9.iM (s.ls) list=b:=⟨_,rfl⟩
 have HP:=hid fP
 cases gK:T9.bC (s.ls) list with
 | false =>
  have LC:=hid (jr (id:=list) O3.out.sm (by omega) UL.out gK)
  have e:R=(91,s.st):=HR.out.symm.trans (T9.Cg  gK)
  have E:=hid e
  unfold aW.val at LC
  clear fP gK e
  go_enter func142,ntmps142
  go_wp2_with fail
  refine LC.out.mono ?_
  rintro e w4 ⟨rfl,h4⟩
  have B4:=hid (B3.out.trans (h4.mono B3.out.size))
  rw [E.out]
  exact⟨rfl,dM.bad (B4.out.mono HB.out) (show (91:Int)≠0 by decide)⟩
 | true =>
  have LC:=hid (iQ (id:=list) O3.out.sm (by omega) UL.out gK)
  rw [fP] at LC
  have HH:=hid gK
  have PP:pp<s.ls.length:=by
   obtain⟨y,hy,_⟩:=(T9.oU UL.out).1 gK
   have z:T9.iM (s.ls) list<(s.ls).length:=(List.getElem?_eq_some_iff.1 hy).1
   rw [fP] at z
   exact z
  unfold aW.val at LC
  clear fP gK
  go_enter func142,ntmps142
  go_wp2_with fail
  refine LC.out.mono ?_
  rintro e w4 ⟨rfl,h4⟩
  have C4:=hid (C3.out.stay h4)
  have O4:=hid (O3.out.stay h4)
  have B4:=hid (B3.out.trans (h4.mono B3.out.size))
  have D4:=hid (B4.out.mono HB.out)
  clear h4
  clear s0 s1 m0 m1 m2 m3 m4 m5
  obtain⟨s0,s1⟩:=aa C4.out.st
  obtain⟨m0,m1,m2,m3,m4,m5⟩:=ag C4.out.mu
  have hmf:∀ (fn:Fn) (first cap:Array Value) (w:World),(Instr.makeFunc fn first cap).run prog w=.ok (.func fn first cap) w:=fun _ _ _ _=>rfl
  have DF0:=uT (p:=(fun t:T9.Tk=>t.list==list && t.done)) O4.out.k rfl (fun m hm=>(O4.out.JG.t m hm).fine) C4.out.mu (show s.ms.length≤1000 by omega) (fun args w=>Tryz.call203 args w) (fun m W hm=>goneD_c m W hm)
  obtain⟨ns,hns⟩:∃ l,(s.ms.filter fun m=>!(fun t:T9.Tk=>t.list==list && t.done) m.t)=l:=⟨_,rfl⟩
  rw [hns] at DF0
  have DF:=hid DF0
  have Jz:=hid hns
  clear DF0 hns
  go_wp2_with fail
  refine DF.out.mono ?_
  rintro e w5 ⟨A9,c9,rfl,ho,hg,hb⟩
  have T5:=hid (O4.out.k.mH hg (Nat.le_trans HB.out D4.out.size))
  have O5:Hid (OS { s with A2:=A9,ms:=ns,c2:=c9 } B w5):=hid ⟨O4.out.l.bH T5.out (by decide),ho,by have q:=(O4.out.t.bH T5.out (by decide)).filter (fun m=>!(fun t:T9.Tk=>t.list==list && t.done) m.t);rw [Jz.out] at q;exact q⟩
  have C5:=hid (C4.out.bH T5.out (by decide) (by decide))
  have D5:Hid (Below B w w5):=hid (D4.out.trans T5.out.below)
  clear ho hg hb s0 s1
  obtain⟨s0,s1⟩:=aa C5.out.st
  have f1:=af C5.out.st 1
  have TK:=C5.out.C_ A9 ns c9
  obtain⟨w6,uX⟩:∃ v,w5.setCell ⟨w.heap.size,1,none⟩ (.slice A9 ns.length c9)=v:=⟨_,rfl⟩
  rw [uX] at TK
  have C6:=hid TK.1
  have T6:=hid TK.2
  have D6:Hid (Below B w w6):=hid (D5.out.trans (T6.out.below.mono HB.out))
  have O6:=hid (O5.out.bH T6.out (by decide) (by decide) (by decide))
  clear TK
  have ER:Hid (R=(0,⟨s.ls,ay ns⟩)):=hid (by
   refine HR.out.symm.trans ((T9.wH HH.out).trans ?_)
   rw [T9.Jt Dh.out HH.out,← Jz.out,uj (fun t=>t.list==list && t.done)]
   rfl)
  obtain⟨wz,hwz⟩:∃ v,(w6.setCell ⟨w.heap.size+2,0,none⟩ (Value.slice s.A s.ls.length s.c)).setCell ⟨w.heap.size+2,1,none⟩ (Value.slice A9 ns.length c9)=v:=⟨_,rfl⟩
  have FN:=hid (C6.out.fin (w':=wz) O6.out.JG (by dsimp only;exact hwz))
  have g0:=af C6.out.rv 0
  have g1:=af C6.out.rv 1
  obtain⟨u0,u1⟩:=aa C6.out.st
  obtain⟨v0,v1⟩:=aa C6.out.rv
  have y0:=FN.out.2.2.1
  have y1:=FN.out.2.2.2
  dsimp only at u0 u1 y0 y1
  skip
  go_wp2
  refine bodyPost_ret (v:=.agg #[Value.slice s.A s.ls.length s.c,Value.slice A9 ns.length c9]) (by simp [results,results142,go_sem,y0,y1]) rfl ?_
  have G:=dM.good (r:=R) (B:=B) (w:=w) ((D6.out).trans (FN.out.2.1.mono HB.out)) FN.out.1 ER.out
  unfold aW.val at G
  dsimp only at G
  skip
  exact G
theorem chg2_c {s:aW} {u:T9.Mu} {B:Nat} {w:World} (h:OS s B w) (hB:B≤w.heap.size) (hr:T9.aH s.st=0) (hk:u.kind=2) :
  Calls prog 142 #[s.val,u.val] w (dM (T9.eB s.st u) B w):=by
 obtain⟨kd,id,list,text,f,flag⟩:=u
 obtain rfl:kd=2:=hk
 obtain⟨w1,hw1⟩:∃ v,w.alloc (.cells #[.slice s.A s.ls.length s.c,.slice s.A2 s.ms.length s.c2] 25)=v:=⟨_,rfl⟩
 obtain⟨w2,hw2⟩:∃ v,w1.alloc (.cells #[.int .i64 2,.int .u64 (id:Int),.int .u64 (list:Int),.string (str text),.float .f64 f,.bool flag] 65)=v:=⟨_,rfl⟩
 obtain⟨w3,hw3⟩:∃ v,w2.alloc (.cells #[.slice none 0 0,.slice none 0 0] 25)=v:=⟨_,rfl⟩
 obtain⟨cf,b3,z1,z2⟩:=CF.start (s:=s) (m:=⟨2,id,list,text,f,flag⟩) (B:=B) hw1 hw2 hw3
 have C3:=hid cf
 have B3:=hid b3
 have O3:=hid (h.stay b3)
 have HB:=hid hB
 have O0:=hid h
 have UL:=hid (iJ hr)
 have UK:=hid (iI hr)
 obtain⟨s0,s1⟩:=aa cf.st
 obtain⟨m0,m1,m2,m3,m4,m5⟩:=ag cf.mu
 have nl:s.ls.length≤20:=(T9.aD hr).1
 have nk:s.ms.length≤60:=by have:=(T9.aD hr).2.1;simpa [aW.st,ay] using this
 obtain⟨R,hR⟩:∃ r,T9.eB s.st ⟨2,id,list,text,f,flag⟩=r:=⟨_,rfl⟩
 rw [hR]
 have HR:=hid hR
 have Dh:=hid hr
 unfold aW.val T9.Mu.val
 dsimp only
 clear h hB hr cf b3 hR
 obtain⟨pp,fP⟩:∃ b,T9.iM (s.ls) id=b:=⟨_,rfl⟩
 have HP:=hid fP
 cases gK:T9.bC (s.ls) id with
 | false =>
  have LC:=hid (jr (id:=id) O3.out.sm (by omega) UL.out gK)
  have e:R=(91,s.st):=HR.out.symm.trans (T9.Gd  gK)
  have E:=hid e
  unfold aW.val at LC
  clear fP gK e
  go_enter func142,ntmps142
  go_wp2_with fail
  refine LC.out.mono ?_
  rintro e w4 ⟨rfl,h4⟩
  have B4:=hid (B3.out.trans (h4.mono B3.out.size))
  rw [E.out]
  exact⟨rfl,dM.bad (B4.out.mono HB.out) (show (91:Int)≠0 by decide)⟩
 | true =>
  have LC:=hid (iQ (id:=id) O3.out.sm (by omega) UL.out gK)
  rw [fP] at LC
  have HH:=hid gK
  have PP:pp<s.ls.length:=by
   obtain⟨y,hy,_⟩:=(T9.oU UL.out).1 gK
   have z:T9.iM (s.ls) id<(s.ls).length:=(List.getElem?_eq_some_iff.1 hy).1
   rw [fP] at z
   exact z
  unfold aW.val at LC
  clear fP gK
  go_enter func142,ntmps142
  go_wp2_with fail
  refine LC.out.mono ?_
  rintro e w4 ⟨rfl,h4⟩
  have C4:=hid (C3.out.stay h4)
  have O4:=hid (O3.out.stay h4)
  have B4:=hid (B3.out.trans (h4.mono B3.out.size))
  have D4:=hid (B4.out.mono HB.out)
  clear h4
  clear s0 s1 m0 m1 m2 m3 m4 m5
  obtain⟨s0,s1⟩:=aa C4.out.st
  obtain⟨m0,m1,m2,m3,m4,m5⟩:=ag C4.out.mu
  have jD:IntKind.i64.wrap ((pp:Int)+1)=(pp:Int)+1:=by rw [IntKind.wrap_i64];omega
  obtain⟨zR,hnls⟩:∃ l,s.ls.take pp++s.ls.drop (pp+1)=l:=⟨_,rfl⟩
  have ny:=hid hnls
  have LN:zR.length=s.ls.length - 1:=by rw [← hnls,List.length_append,List.length_take,List.length_drop];omega
  have DL0:=yj (p:=pp) O4.out.l (iD _) PP (by omega)
  rw [← LN,kC,kw] at DL0
  have DL:=hid DL0
  clear DL0 LN hnls
  go_wp2_with fail
  refine DL.out.mono ?_
  rintro e w5 ⟨A',c',rfl,ho,hg,hb⟩
  have T5:=hid (O4.out.l.mH hg (Nat.le_trans HB.out D4.out.size))
  have O5:Hid (OS { s with A:=A',ls:=zR,c:=c' } B w5):=hid ⟨by
   have e:aJ zR=aJ (s.ls.take pp)++aJ (s.ls.drop (pp+1)):=by rw [← ny.out];simp [aJ]
   show dX w5 B _ 2 A' zR.length c' (aJ zR)
   rw [e]
   exact ho,O4.out.k.bH T5.out (by decide),O4.out.t.bH T5.out (by decide)⟩
  have C5:=hid (C4.out.bH T5.out (by decide) (by decide))
  have D5:Hid (Below B w w5):=hid (D4.out.trans T5.out.below)
  clear ho hg hb s0 s1 m0 m1 m2 m3 m4 m5
  obtain⟨s0,s1⟩:=aa C5.out.st
  have f0:=af C5.out.st 0
  have TL:=C5.out.turnL A' zR c'
  obtain⟨w6,uX⟩:∃ v,w5.setCell ⟨w.heap.size,0,none⟩ (.slice A' zR.length c')=v:=⟨_,rfl⟩
  rw [uX] at TL
  have C6:=hid TL.1
  have T6:=hid TL.2
  have O6:=hid (O5.out.bH T6.out (by decide) (by decide) (by decide))
  have D6:Hid (Below B w w6):=hid (D5.out.trans (T6.out.below.mono HB.out))
  obtain⟨u0,u1⟩:=aa C6.out.st
  dsimp only at u0 u1
  clear TL
  have hmf:∀ (fn:Fn) (first cap:Array Value) (w:World),(Instr.makeFunc fn first cap).run prog w=.ok (.func fn first cap) w:=fun _ _ _ _=>rfl
  have DF0:=uT (p:=(fun t:T9.Tk=>t.list==id)) O6.out.k rfl (fun m hm=>(O6.out.JG.t m hm).fine) C6.out.mu (show s.ms.length≤1000 by omega) (fun args w=>Tryz.call202 args w) (fun m W hm=>goneL_c m W hm)
  obtain⟨ns,hns⟩:∃ l,(s.ms.filter fun m=>!(fun t:T9.Tk=>t.list==id) m.t)=l:=⟨_,rfl⟩
  rw [hns] at DF0
  have DF:=hid DF0
  have Jz:=hid hns
  clear DF0 hns
  go_wp2_with fail
  refine DF.out.mono ?_
  rintro e w7 ⟨A9,c9,rfl,ho,hg,hb⟩
  have T7:=hid (O6.out.k.mH hg (Nat.le_trans HB.out D6.out.size))
  have O7:Hid (OS { s with A:=A',ls:=zR,c:=c',A2:=A9,ms:=ns,c2:=c9 } B w7):=hid ⟨O6.out.l.bH T7.out (by decide),ho,by have q:=(O6.out.t.bH T7.out (by decide)).filter (fun m=>!(fun t:T9.Tk=>t.list==id) m.t);rw [Jz.out] at q;exact q⟩
  have C7:=hid (C6.out.bH T7.out (by decide) (by decide))
  have D7:Hid (Below B w w7):=hid (D6.out.trans T7.out.below)
  clear ho hg hb s0 s1 u0 u1
  obtain⟨s0,s1⟩:=aa C7.out.st
  have f1:=af C7.out.st 1
  have TK:=C7.out.C_ A9 ns c9
  obtain⟨w8,hw8⟩:∃ v,w7.setCell ⟨w.heap.size,1,none⟩ (.slice A9 ns.length c9)=v:=⟨_,rfl⟩
  rw [hw8] at TK
  have C8:=hid TK.1
  have T8:=hid TK.2
  have D8:Hid (Below B w w8):=hid (D7.out.trans (T8.out.below.mono HB.out))
  have O8:=hid (O7.out.bH T8.out (by decide) (by decide) (by decide))
  clear TK
  have ER:Hid (R=(0,⟨zR,ay ns⟩)):=hid (by
   refine HR.out.symm.trans ((T9.AL HH.out).trans ?_)
   rw [T9.wo_drop Dh.out HH.out,← Jz.out,uj (fun t=>t.list==id),← ny.out]
   refine congrArg (fun z=>((0:Int),T9.St.mk z _)) ?_
   have q:=T9.filL_at (id:=id) UL.out HH.out
   rw [show T9.iM s.st.lists id=pp from HP.out] at q
   exact q)
  obtain⟨wz,hwz⟩:∃ v,(w8.setCell ⟨w.heap.size+2,0,none⟩ (Value.slice A' zR.length c')).setCell ⟨w.heap.size+2,1,none⟩ (Value.slice A9 ns.length c9)=v:=⟨_,rfl⟩
  have FN:=hid (C8.out.fin (w':=wz) O8.out.JG (by dsimp only;exact hwz))
  have g0:=af C8.out.rv 0
  have g1:=af C8.out.rv 1
  obtain⟨u0,u1⟩:=aa C8.out.st
  obtain⟨v0,v1⟩:=aa C8.out.rv
  have y0:=FN.out.2.2.1
  have y1:=FN.out.2.2.2
  dsimp only at u0 u1 y0 y1
  skip
  go_wp2
  refine bodyPost_ret (v:=.agg #[Value.slice A' zR.length c',Value.slice A9 ns.length c9]) (by simp [results,results142,go_sem,y0,y1]) rfl ?_
  have G:=dM.good (r:=R) (B:=B) (w:=w) ((D8.out).trans (FN.out.2.1.mono HB.out)) FN.out.1 ER.out
  unfold aW.val at G
  dsimp only at G
  skip
  exact G
end
end
end Go.Proofs.YtcedlgedmkghgaaGreat
