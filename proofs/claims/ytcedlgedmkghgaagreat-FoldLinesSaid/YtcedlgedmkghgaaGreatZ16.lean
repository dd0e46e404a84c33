import Derived.Test.YtcedlgedmkghgaaGreatZ13
import Derived.Test.YtcedlgedmkghgaaGreatZ15
namespace Go.Proofs.YtcedlgedmkghgaaGreat
set_option maxHeartbeats 16000000
open Go.Lib Go.Proofs.Tryz
set_option linter.unusedSimpArgs false
set_option maxRecDepth 100000
section
open Go.RowKit Go.Lib
namespace T9
def aX (ls:List Li) (id:Nat):Li × Bool:=match ls.find? (fun l=>l.id==id) with | some l=>(l,true) | none=>(⟨0,[]⟩,false)
def dH (ts:List Tk) (id:Nat):Tk × Bool:=match ts.find? (fun t=>t.id==id) with | some t=>(t,true) | none=>(⟨0,0,[],false,0,0,[]⟩,false)
end T9
theorem yn {α:Type} {ls:List α} {p:α→Bool} {k:Nat} {l:α} (h:(ls.take k).find? p=none) (hl:ls[k]?=some l) (hp:p l=true):ls.find? p=some l:=by
 obtain⟨q1,q2⟩:=List.getElem?_eq_some_iff.1 hl
 rw [← List.take_append_drop k ls,List.find?_append,h,List.drop_eq_getElem_cons q1,q2,List.find?_cons_of_pos hp]
 rfl
theorem uV {α:Type} {ls:List α} {p:α→Bool} {k:Nat} {l:α} (h:(ls.take k).find? p=none) (hl:ls[k]?=some l) (hp:p l=false):(ls.take (k+1)).find? p=none:=by
 rw [bL hl,List.find?_append,h]
 simp [hp]
@[go_sem] theorem buildL9 (w : World) : (Instr.build 71 #[]).run prog w = .ok (.agg #[.int .u64 0, .string ⟨#[]⟩]) w := run_build w 71 _ _ (by kernel_rfl)
@[go_sem] theorem buildK9 (w : World) : (Instr.build 74 #[]).run prog w = .ok (.agg #[.int .u64 0, .int .u64 0, .string ⟨#[]⟩, .bool false, .float .f64 0, .float .f64 0, .slice none 0 0]) w := run_build w 74 _ _ (by kernel_rfl)
def FLOk (ls:List T9.Li) (id:Nat) (w:World) (e:Ending) (w':World):Prop:=e=.returned (.tuple #[.agg (bf (T9.aX ls id).1).toArray,.bool (T9.aX ls id).2])∧Below w.heap.size w w'
theorem bv {A A2:Option Addr} {n1 n2 c c2:Nat} {ls:List T9.Li} {w:World} (hl:LL w A ls) (e1:n1=ls.length) (hs:n1≤1000000) (id:Nat) :
  Calls prog 103 #[.agg #[.slice A n1 c,.slice A2 n2 c2],.int .u64 (id:Int)] w (FLOk ls id w):=by
 have E1:=hid e1
 obtain⟨w0,hw0⟩:∃ u,w.alloc (.cells #[.slice A n1 c,.slice A2 n2 c2] 25)=u:=⟨_,rfl⟩
 obtain⟨pb0,b0,z0⟩:=ak hw0
 obtain⟨w1,hw1⟩:∃ u,w0.alloc (.cells #[.int .u64 0,.string ⟨#[]⟩] 71)=u:=⟨_,rfl⟩
 obtain⟨JF,b1,z1⟩:=ak hw1
 have z1':w1.heap.size=w.heap.size+2:=by omega
 have pb:=(b1.block w.heap.size (by omega)).trans pb0
 have PB:=hid pb
 rw [z0] at JF
 have PR:=hid JF
 have B1:Hid (Below w.heap.size w w1):=hid (b0.trans (b1.mono (by omega)))
 have HL:=hid (hl.stay B1.out)
 have Z0:=hid z0
 have Z1:=hid z1'
 obtain⟨p0,p1⟩:=aa pb
 clear hl e1 pb0 b0 JF b1 z1 z1' pb
 go_enter func103,ntmps103
 go_wp2
 go_loopw [11] (fun s11 wr=>∃ i:Nat,s11=.int .i64 i∧i≤n1∧Hid ((ls.take i).find? (fun l=>l.id==id)=none)∧Aside (Below w1.heap.size w1 wr)) (fun s11 _=>n1 - (intOf s11).toNat)
 case atStart=>exact⟨0,rfl,Nat.zero_le _,hid rfl,Below.refl _ _⟩
 case round =>
  obtain⟨i,rfl,hi,HU,hB⟩:=hrel
  have BR:=hid hB.out
  clear hB
  have zS:=(BR.out.block (w.heap.size+1) (by have:=Z1.out;omega)).trans PR.out
  have RB:=hid zS
  by_cases hlt:i<n1
  ·have hltz:(i:Int)<(n1:Int):=by omega
   obtain⟨ad,l,hA,hx,q0,q1⟩:=(HL.out.stay BR.out).at_ (k:=i) (by have:=E1.out;omega)
   subst hA
   have X:=hid hx
   obtain⟨w2,hw2⟩:∃ u,wr.alloc (.cells #[.int .u64 (l.id:Int),.string (str l.name)] 71)=u:=⟨_,rfl⟩
   obtain⟨lb,b2,z2⟩:=ak hw2
   have B2:Hid (Below w1.heap.size w1 w2):=hid (BR.out.trans (b2.mono BR.out.size))
   obtain⟨l0,l1⟩:=aa lb
   have uy:=(b2.block (w.heap.size+1) (by have:=lt_of_block RB.out;omega)).trans RB.out
   have Dl:=hid uy
   obtain⟨r0,r1⟩:=aa uy
   have jC:=af uy 0
   have jl:=af uy 1
   clear hx lb b2 z2 zS uy
   by_cases he:l.id=id
   ·have uD:((l.id:Int)==(id:Int))=true:=by simp [he]
    have F:Hid (T9.aX ls id=(l,true)):=hid (by unfold T9.aX;rw [yn HU.out X.out (by simp [he])])
    clear he
    rw [Z0.out] at *
    have uM:Hid (((w2.setCell ⟨w.heap.size+1,0,none⟩ (.int .u64 (l.id:Int))).setCell ⟨w.heap.size+1,1,none⟩ (.string (str l.name))).heap[w.heap.size+1]?=some (.cells #[.int .u64 (l.id:Int),.string (str l.name)] 71 (0,0))):=hid ((ah (ah Dl.out 0 (.int .u64 (l.id:Int))) 1 (.string (str l.name))).trans rfl)
    have kf0:=(aa uM.out).1
    have kf1:=(aa uM.out).2
    go_wp2
    refine bodyPost_ret (v:=.tuple #[.agg #[.int .u64 (l.id:Int),.string (str l.name)],.bool true]) (by simp [results,results103,go_sem,kf0,kf1]) rfl ?_
    refine⟨by rw [F.out];rfl,?_⟩
    exact ((B1.out.trans (B2.out.mono B1.out.size)).setCell (by simp) _).setCell (by simp) _
   ·have uD:((l.id:Int)==(id:Int))=false:=by simp;omega
    have F:Hid ((ls.take (i+1)).find? (fun l=>l.id==id)=none):=hid (uV HU.out X.out (by simp [he]))
    clear he
    go_wp2
    go_roundw
    case rel=>exact⟨i+1,by go_num,by omega,F,B2.out⟩
    case measure=>simp [intOf];omega
  ·obtain rfl:i=n1:=by omega
   have hltz:¬ ((i:Int)<(i:Int)):=by omega
   have F:Hid (T9.aX ls id=(⟨0,[]⟩,false)):=hid (by
    have:=HU.out
    rw [E1.out,List.take_length] at this
    unfold T9.aX;rw [this])
   obtain⟨r0,r1⟩:=aa zS
   have jC:=af zS 0
   have jl:=af zS 1
   have uM:Hid (((wr.setCell ⟨w.heap.size+1,0,none⟩ (.int .u64 0)).setCell ⟨w.heap.size+1,1,none⟩ (.string ⟨#[]⟩)).heap[w.heap.size+1]?=some (.cells #[.int .u64 0,.string ⟨#[]⟩] 71 (0,0))):=hid ((ah (ah RB.out 0 (.int .u64 0)) 1 (.string ⟨#[]⟩)).trans rfl)
   have kf0:=(aa uM.out).1
   have kf1:=(aa uM.out).2
   go_wp2
   refine bodyPost_ret (v:=.tuple #[.agg #[.int .u64 0,.string ⟨#[]⟩],.bool false]) (by simp [results,results103,go_sem,kf0,kf1]) rfl ?_
   refine⟨by rw [F.out];rfl,?_⟩
   exact ((B1.out.trans (BR.out.mono B1.out.size)).setCell (by simp) _).setCell (by simp) _
theorem zL {ms:List aL} {id:Nat}:(ay ms).find? (fun t=>t.id==id)=(ms.find? (fun m=>m.t.id==id)).map (·.t):=by
 unfold ay
 rw [List.find?_map]
 rfl
end
section
section
namespace T9
structure Mu where
 kind:Int
 id:Nat
 list:Nat
 text:List UInt8
 f:Nat
 flag:Bool
def Mu.ok (m:Mu):Prop:=m.id<18446744073709551616∧m.list<18446744073709551616∧m.f<18446744073709551616
def nId (k:Int):Bool:=decide (1≤k∧k≤11)
def nT (k:Int):Bool:=decide (k=3∨k=6∨k=12∨k=13)
def o_ (k:Int):Bool:=decide (k=1∨k=3∨k=4∨k=9∨k=10)
def nF (k:Int):Bool:=decide (k=3∨k=6∨k=7∨k=8)
def tq (k:Int):Bool:=decide (k=5)
def ofL (k:Int):Bool:=decide (k=1∨k=2)
def qw (k:Int):Bool:=decide (k=9∨k=10)
def extra (m:Mu):Bool:=!mR m.f || !nId m.kind && !(m.id==0) || !nT m.kind && !(m.list==0) || !o_ m.kind && !decide (m.text=[]) || !tq m.kind && m.flag || !nF m.kind && !Fl.nO m.f 0
def bN (m:Mu):Int :=
 if ¬ (1≤m.kind∧m.kind≤13) then 110 else
 if extra m=true then 110 else
 if (nT m.kind && m.list==0 || ofL m.kind && m.id==0)=true then 91 else
 if (nId m.kind && m.id==0)=true then 93 else
 if (qw m.kind && !tag m.text || !qw m.kind && o_ m.kind && !title m.text)=true then 94 else
 if (nF m.kind && Fl.dw m.f && !decide (m.kind=8))=true then 100 else 0
def wo (l:List Tk) (list:Nat) (done:Bool) (id:Nat):List Tk:=l.filter fun t=>!(t.id==id || (!(list==0) && t.list==list && (t.done || !done)))
def dW (l:List (List UInt8)) (m:Mu):Int × List (List UInt8) :=
 if m.kind=10 then (if (l.filter fun x=>!decide (x=m.text)).length<l.length then (0,l.filter fun x=>!decide (x=m.text)) else (3,l)) else
 if (l.filter fun x=>!decide (x=m.text)).length<l.length then (92,l) else
 if 4≤l.length then (95,l) else (0,Sr.canon dL ((l.filter fun x=>!decide (x=m.text))++[m.text]))
def oD (home:Bool) (m:Mu) (t:Tk):Int × Tk :=
 if m.kind=4 then (0,{ t with title:=m.text }) else
 if m.kind=5 then (0,{ t with done:=m.flag }) else
 if m.kind=6 then (if home=true then 0 else 91,{ t with list:=m.list,rank:=m.f }) else
 if m.kind=7 then (0,{ t with rank:=m.f }) else
 if m.kind=8 then (0,{ t with est:=m.f }) else
 ((dW t.tags m).1,{ t with tags:=(dW t.tags m).2 })
def kJ (ts:List Tk) (list:Nat):List Tk:=Sr.canon kT (fH ts list)
def bC (ls:List Li) (id:Nat):Bool:=ls.any fun l=>l.id==id
def d_ (ts:List Tk) (id:Nat):Bool:=ts.any fun t=>t.id==id
def eB (s:St) (m:Mu):Int × St :=
 if m.kind=1 then (if bC s.lists m.id=true then (92,s) else if 20≤s.lists.length then (95,s) else (0,⟨Sr.ins iN ⟨m.id,m.text⟩ s.lists,s.tasks⟩)) else
 if m.kind=2 then (if bC s.lists m.id=false then (91,s) else (0,⟨s.lists.filter fun l=>!(l.id==m.id),wo s.tasks m.id false 0⟩)) else
 if m.kind=12 then (if bC s.lists m.list=false then (91,s) else (0,⟨s.lists,wo s.tasks m.list true 0⟩)) else
 if m.kind=13 then (if bC s.lists m.list=false then (91,s) else (0,⟨s.lists,s.tasks.map (nN (kJ s.tasks m.list))⟩)) else
 if m.kind=3 then (if d_ s.tasks m.id=true then (92,s) else if bC s.lists m.list=false then (91,s) else if 60≤s.tasks.length then (95,s) else (0,⟨s.lists,Sr.ins iT ⟨m.id,m.list,m.text,false,m.f,Fl.ig,[]⟩ s.tasks⟩)) else
 if d_ s.tasks m.id=false then (93,s) else
 if m.kind=11 then (0,⟨s.lists,wo s.tasks 0 false m.id⟩) else
 ((oD (bC s.lists m.list) m (dH s.tasks m.id).1).1,⟨s.lists,Sr.ins iT (oD (bC s.lists m.list) m (dH s.tasks m.id).1).2 (wo s.tasks 0 false m.id)⟩)
def bA (s:St) (m:Mu):St × Int :=
 if aH s≠0 then (⟨[],[]⟩,aH s) else
 if bN m≠0 then (⟨[],[]⟩,bN m) else
 if (eB s m).1≠0 then (⟨[],[]⟩,(eB s m).1) else ((eB s m).2,0)
theorem iE {ls:List Li} {a:Nat}:bJ a ls=0↔(∀ l∈ls,a<l.id∧title l.name=true)∧Sr.Str iN ls:=by
 induction ls generalizing a with
 | nil=>simp [bJ,Sr.Str]
 | cons l r ih =>
  unfold bJ
  by_cases h1:l.id≤a
  ·rw [if_pos h1]
   refine⟨fun h=>(by cases h),fun h=>?_⟩
   have:=(h.1 l List.mem_cons_self).1
   omega
  rw [if_neg h1]
  by_cases h2:title l.name=false
  ·rw [if_pos h2]
   refine⟨fun h=>(by cases h),fun h=>?_⟩
   have:=(h.1 l List.mem_cons_self).2
   rw [h2] at this;cases this
  rw [if_neg h2,ih]
  have h2':title l.name=true:=by simpa using h2
  unfold Sr.Str
  rw [List.pairwise_cons]
  constructor
  ·rintro⟨q1,q2⟩
   refine⟨fun x hx=>?_,fun x hx=>decide_eq_true (q1 x hx).1,q2⟩
   rcases List.mem_cons.1 hx with rfl | hx
   ·exact⟨by omega,h2'⟩
   ·have:=q1 x hx;exact⟨by omega,this.2⟩
  ·rintro⟨q1,q2,q3⟩
   exact⟨fun x hx=>⟨of_decide_eq_true (q2 x hx),(q1 x (List.mem_cons_of_mem _ hx)).2⟩,q3⟩
theorem cu {ls:List Li} {ts:List Tk} {a:Nat}:bK ls a ts=0↔(∀ t∈ts,a<t.id∧aT t=0∧(ls.any fun l=>l.id==t.list)=true)∧Sr.Str iT ts:=by
 refine⟨fun h=>⟨(iK h).1,CU (iK h).2⟩,?_⟩
 induction ts generalizing a with
 | nil=>intro _;rfl
 | cons t r ih =>
  rintro⟨h1,h2⟩
  have h:=h1 t List.mem_cons_self
  have p:=List.pairwise_cons.1 h2
  unfold bK
  rw [if_neg (by omega),if_neg (by rw [h.2.2];decide),if_neg (fun q=>q h.2.1)]
  exact ih ⟨fun x hx=>⟨of_decide_eq_true (p.1 x hx),(h1 x (List.mem_cons_of_mem _ hx)).2⟩,p.2⟩
end T9
namespace Sr
section
variable {α : Type} {lt : α → α → Bool}
theorem Cx {x y:α}:∀ {l:List α},y∈l→y∈ins lt x l
 | z :: l,h=>by
  unfold ins
  split
  ·rcases List.mem_cons.1 h with rfl | h
   ·exact List.mem_cons_self
   ·exact List.mem_cons_of_mem _ (Cx h)
  ·split
   ·exact List.mem_cons_of_mem _ h
   ·exact h
end
end Sr
namespace T9
theorem ordK_of {ts r:List Tk} {list:Nat} (h:uz ts list r) (u:rq ts):r=kJ ts list:=by
 have c:=Sr.gp EO (fH ts list)
 exact Sr.pO EO (h.str u) c.1 fun k=>by rw [Sr.gG.first h.2 k];exact (c.2 k).symm
theorem Ik {ts:List Tk} {list:Nat} {t:Tk} (h:t∈kJ ts list):t∈ts∧t.list=list:=by
 have q:=List.mem_filter.1 (Sr.gJ h)
 exact⟨q.1,by simpa using q.2⟩
theorem xI {l:List Tk} {list id:Nat} {done:Bool} {t:Tk}:t∈wo l list done id↔t∈l∧t.id≠id∧¬ (list≠0∧t.list=list∧(t.done=true∨done=false)):=by
 unfold wo
 rw [List.mem_filter]
 refine and_congr Iff.rfl ?_
 by_cases h1:list=0 <;> by_cases h2:t.list=list <;> cases done <;> cases t.done <;> simp [h1,h2]
theorem kN {ls:List Li} {id:Nat}:bC ls id=true↔∃ l∈ls,l.id=id:=by
 unfold bC
 rw [List.any_eq_true]
 exact exists_congr fun l=>and_congr_right fun _=>by simp
theorem sI {ts:List Tk} {id:Nat}:d_ ts id=true↔∃ t∈ts,t.id=id:=by
 unfold d_
 rw [List.any_eq_true]
 simp
theorem kM {ts:List Tk} {id:Nat} (h:d_ ts id=true):(dH ts id).1∈ts∧(dH ts id).1.id=id∧(dH ts id).2=true:=by
 obtain⟨t,ht,e⟩:=sI.1 h
 unfold dH
 cases q:ts.find? (fun t=>t.id==id) with
 | none =>
  have:=List.find?_eq_none.1 q t ht
  simp [e] at this
 | some u=>exact⟨List.mem_of_find?_eq_some q,by simpa using List.find?_some q,rfl⟩
theorem DT {ts:List Tk} (u:rq ts) {t:Tk} (ht:t∈ts):dH ts t.id=(t,true):=by
 have h:d_ ts t.id=true:=sI.2 ⟨t,ht,rfl⟩
 obtain⟨q1,q2,q3⟩:=kM h
 have e:(dH ts t.id).1=t:=by
  obtain⟨i,hi,ei⟩:=List.mem_iff_getElem.1 q1
  obtain⟨j,hj,ej⟩:=List.mem_iff_getElem.1 ht
  rcases Nat.lt_trichotomy i j with r | r | r
  ·have:=List.pairwise_iff_getElem.1 u i j hi hj r
   rw [ei,ej,q2] at this;exact absurd rfl this
  ·subst r;rw [← ei,ej]
  ·have:=List.pairwise_iff_getElem.1 u j i hj hi r
   rw [ei,ej,q2] at this;exact absurd rfl this
 exact Prod.ext e q3
theorem Jh {ts:List Tk} (h:Sr.Str iT ts):rq ts:=h.imp fun q=>by have:=of_decide_eq_true q;omega
end T9
end
section
namespace T9
theorem mP {c:Prop} [Decidable c] {a b:Int} (ha:a≠0) (h:(if c then a else b)=0):¬ c∧b=0:=by
 by_cases q:c
 ·rw [if_pos q] at h;exact absurd h ha
 ·rw [if_neg q] at h;exact⟨q,h⟩
theorem kW {m:Mu} (h:bN m=0):(1≤m.kind∧m.kind≤13)∧mR m.f=true∧(nT m.kind=true→m.list≠0)∧(nId m.kind=true→m.id≠0)∧(qw m.kind=true→tag m.text=true)∧(qw m.kind=false→o_ m.kind=true→title m.text=true)∧(nF m.kind=true→m.kind≠8→Fl.dw m.f=false)∧(nT m.kind=false→m.list=0):=by
 unfold bN at h
 obtain⟨h1,h⟩:=mP (by decide) h
 obtain⟨h2,h⟩:=mP (by decide) h
 obtain⟨h3,h⟩:=mP (by decide) h
 obtain⟨h4,h⟩:=mP (by decide) h
 obtain⟨h5,h⟩:=mP (by decide) h
 obtain⟨h6,h⟩:=mP (by decide) h
 unfold extra at h2
 simp only [Bool.not_eq_true,Bool.or_eq_false_iff,Bool.and_eq_false_iff,Bool.not_eq_false',beq_eq_false_iff_ne,Decidable.not_not,beq_iff_eq,decide_eq_true_eq] at h1 h2 h3 h4 h5 h6
 refine⟨h1,h2.1.1.1.1.1,fun q=>?_,fun q=>?_,fun q=>?_,fun q r=>?_,fun q r=>?_,fun q=>?_⟩
 ·rcases h3.1 with k | k
  ·rw [k] at q;cases q
  ·exact k
 ·rcases h4 with k | k
  ·rw [k] at q;cases q
  ·exact k
 ·rcases h5.1 with k | k
  ·rw [k] at q;cases q
  ·exact k
 ·rcases h5.2 with (k | k) | k
  ·rw [q] at k;cases k
  ·rw [k] at r;cases r
  ·exact k
 ·rcases h6 with (k | k) | k
  ·rw [k] at q;cases q
  ·exact k
  ·exact absurd k r
 ·rcases h2.1.1.1.2 with k | k
  ·rw [q] at k;cases k
  ·exact k
theorem BM {l:List Tk} {list id:Nat} {done:Bool}:(wo l list done id).length≤l.length:=List.length_filter_le _ _
theorem wo_less {l:List Tk} {id:Nat} (h:d_ l id=true):(wo l 0 false id).length<l.length:=by
 obtain⟨t,ht,e⟩:=sI.1 h
 unfold wo
 rw [List.length_filter_lt_length_iff_exists]
 exact⟨t,ht,by simp [e]⟩
theorem xD {l:List Tk} (h:Sr.Str iT l) (list id:Nat) (done:Bool):Sr.Str iT (wo l list done id):=List.Pairwise.filter _ h
theorem nan_ok:mR Fl.ig=true:=by decide +kernel
theorem qC:∀ {l:List (List UInt8)} {a:List UInt8},(∀ x∈l,tag x=true∧dL a x=true)→Sr.Str dL l→bV a l=true
 | [],_,_,_=>rfl
 | t :: l,a,h,s=>by
  have p:=List.pairwise_cons.1 s
  have q:=h t List.mem_cons_self
  unfold bV
  rw [q.1,q.2,qC (fun x hx=>⟨(h x (List.mem_cons_of_mem _ hx)).1,p.1 x hx⟩) p.2]
  rfl
theorem oz:∀ {l:List (List UInt8)} {a:List UInt8},bV a l=true→∀ x∈l,tag x=true
 | [],_,_=>by simp
 | t :: l,a,h=>by
  unfold bV at h
  rw [Bool.and_eq_true,Bool.and_eq_true] at h
  intro x hx
  rcases List.mem_cons.1 hx with rfl | hx
  ·exact h.1.1
  ·exact oz h.2 x hx
theorem Jp {x:List UInt8} (h:tag x=true):dL [] x=true:=by
 unfold tag at h
 rw [Bool.and_eq_true,decide_eq_true_eq] at h
 unfold dL
 rw [decide_eq_true_eq]
 cases x with
 | nil=>simp at h
 | cons a x=>exact List.nil_lt_cons a x
theorem Bz {l:List (List UInt8)} {m:Mu} (c:qw m.kind=true→tag m.text=true) (k:qw m.kind=true) (h:l.length≤4) (u:bV [] l=true) (e:(dW l m).1=0):(dW l m).2.length≤4∧bV [] (dW l m).2=true:=by
 have sl:=(lD u).2
 have fl:Sr.Str dL (l.filter fun x=>!decide (x=m.text)):=List.Pairwise.filter _ sl
 have ft:∀ x∈l.filter fun x=>!decide (x=m.text),tag x=true:=fun x hx=>oz u x (List.mem_filter.1 hx).1
 have fn:(l.filter fun x=>!decide (x=m.text)).length≤l.length:=List.length_filter_le _ _
 unfold dW at e ⊢
 by_cases h1:m.kind=10
 ·rw [if_pos h1] at e ⊢
  by_cases h2:(l.filter fun x=>!decide (x=m.text)).length<l.length
  ·rw [if_pos h2] at e ⊢
   exact⟨by show (l.filter _).length≤4;omega,qC (fun x hx=>⟨ft x hx,Jp (ft x hx)⟩) fl⟩
  ·rw [if_neg h2] at e;cases e
 rw [if_neg h1] at e ⊢
 by_cases h2:(l.filter fun x=>!decide (x=m.text)).length<l.length
 ·rw [if_pos h2] at e;cases e
 rw [if_neg h2] at e ⊢
 by_cases h3:4≤l.length
 ·rw [if_pos h3] at e;cases e
 rw [if_neg h3] at e ⊢
 have cl:=Sr.dB (lt:=dL) ((l.filter fun x=>!decide (x=m.text))++[m.text])
 rw [List.length_append] at cl
 have ct:∀ x∈Sr.canon dL ((l.filter fun x=>!decide (x=m.text))++[m.text]),tag x=true:=fun x hx=>by
  rcases List.mem_append.1 (Sr.gJ hx) with q | q
  ·exact ft x q
  ·rw [List.mem_singleton] at q;rw [q];exact c k
 exact⟨by show (Sr.canon _ _).length≤4;simp at cl;omega,qC (fun x hx=>⟨ct x hx,Jp (ct x hx)⟩) (Sr.gp JH _).1⟩
theorem AY {ls:List Li} {x:Li} {id:Nat} (h:bC ls id=true):bC (Sr.ins iN x ls) id=true:=by
 obtain⟨l,hl,e⟩:=kN.1 h
 exact kN.2 ⟨l,Sr.Cx hl,e⟩
theorem Dw {s:St} {m:Mu} {t:Tk} (c:bN m=0) (k4:4≤m.kind∧m.kind≤10) (f:aT t=0) (hl:bC s.lists t.list=true) (e:(oD (bC s.lists m.list) m t).1=0) :
  (oD (bC s.lists m.list) m t).2.id=t.id∧aT (oD (bC s.lists m.list) m t).2=0∧bC s.lists (oD (bC s.lists m.list) m t).2.list=true:=by
 obtain⟨_,hc,_,_,ht,hx,hf,_⟩:=kW c
 obtain⟨f1,f2,f3,f4,f5,f6⟩:=b_ f
 unfold oD at e ⊢
 by_cases h4:m.kind=4
 ·rw [if_pos h4] at e ⊢
  exact⟨rfl,gu (hx (by rw [h4];decide) (by rw [h4];decide)) f2 f3 f4 f5 f6,hl⟩
 rw [if_neg h4] at e ⊢
 by_cases h5:m.kind=5
 ·rw [if_pos h5] at e ⊢
  exact⟨rfl,gu f1 f2 f3 f4 f5 f6,hl⟩
 rw [if_neg h5] at e ⊢
 by_cases h6:m.kind=6
 ·rw [if_pos h6] at e ⊢
  have hh:bC s.lists m.list=true:=by
   cases q:bC s.lists m.list with
   | true=>rfl
   | false=>rw [q] at e;simp at e
  exact⟨rfl,gu f1 (hf (by rw [h6];decide) (by rw [h6];decide)) hc f4 f5 f6,hh⟩
 rw [if_neg h6] at e ⊢
 by_cases h7:m.kind=7
 ·rw [if_pos h7] at e ⊢
  exact⟨rfl,gu f1 (hf (by rw [h7];decide) (by rw [h7];decide)) hc f4 f5 f6,hl⟩
 rw [if_neg h7] at e ⊢
 by_cases h8:m.kind=8
 ·rw [if_pos h8] at e ⊢
  exact⟨rfl,gu f1 f2 f3 hc f5 f6,hl⟩
 rw [if_neg h8] at e ⊢
 have kt:qw m.kind=true:=decide_eq_true (by omega)
 obtain⟨g1,g2⟩:=Bz ht kt f5 f6 e
 exact⟨rfl,gu f1 f2 f3 f4 g1 g2,hl⟩
theorem DR {s:St} {m:Mu} (h:aH s=0) (c:bN m=0) (e:(eB s m).1=0):aH (eB s m).2=0:=by
 obtain⟨h1,h2,h3,h4⟩:=aD h
 obtain⟨l1,l2⟩:=iE.1 h3
 obtain⟨t1,t2⟩:=cu.1 h4
 obtain⟨hk,hc,hlist,hidz,ht,hx,hf,_⟩:=kW c
 unfold eB at e ⊢
 by_cases k1:m.kind=1
 ·rw [if_pos k1] at e ⊢
  by_cases a1:bC s.lists m.id=true
  ·rw [if_pos a1] at e;cases e
  rw [if_neg a1] at e ⊢
  by_cases a2:20≤s.lists.length
  ·rw [if_pos a2] at e;cases e
  rw [if_neg a2] at e ⊢
  refine jh (Nat.le_trans (Sr.mQ _ _) (by omega)) h2 (iE.2 ⟨fun l hl=>?_,Sr.pM woL l2⟩) (cu.2 ⟨fun t ht=>⟨(t1 t ht).1,(t1 t ht).2.1,AY (t1 t ht).2.2⟩,t2⟩)
  rcases Sr.kv hl with rfl | q
  ·exact⟨Nat.pos_of_ne_zero (hidz (by rw [k1];decide)),hx (by rw [k1];decide) (by rw [k1];decide)⟩
  ·exact l1 l q
 rw [if_neg k1] at e ⊢
 by_cases k2:m.kind=2
 ·rw [if_pos k2] at e ⊢
  by_cases a1:bC s.lists m.id=false
  ·rw [if_pos a1] at e;cases e
  rw [if_neg a1] at e ⊢
  refine jh (Nat.le_trans (List.length_filter_le _ _) h1) (Nat.le_trans BM h2) (iE.2 ⟨fun l hl=>l1 l (List.mem_filter.1 hl).1,List.Pairwise.filter _ l2⟩) (cu.2 ⟨fun t ht=>?_,xD t2 _ _ _⟩)
  obtain⟨q1,q2,q3⟩:=xI.1 ht
  refine⟨(t1 t q1).1,(t1 t q1).2.1,?_⟩
  obtain⟨l,hl,el⟩:=kN.1 (t1 t q1).2.2
  refine kN.2 ⟨l,List.mem_filter.2 ⟨hl,?_⟩,el⟩
  have:l.id≠m.id:=fun z=>q3 ⟨hidz (by rw [k2];decide),by rw [← el,z],.inr rfl⟩
  simp [this]
 rw [if_neg k2] at e ⊢
 by_cases k12:m.kind=12
 ·rw [if_pos k12] at e ⊢
  by_cases a1:bC s.lists m.list=false
  ·rw [if_pos a1] at e;cases e
  rw [if_neg a1] at e ⊢
  exact jh h1 (Nat.le_trans BM h2) h3 (cu.2 ⟨fun t ht=>t1 t (xI.1 ht).1,xD t2 _ _ _⟩)
 rw [if_neg k12] at e ⊢
 by_cases k13:m.kind=13
 ·rw [if_pos k13] at e ⊢
  by_cases a1:bC s.lists m.list=false
  ·rw [if_pos a1] at e;cases e
  rw [if_neg a1] at e ⊢
  refine xA h ?_
  exact Nat.le_trans (Sr.dB _) (Nat.le_trans (List.length_filter_le _ _) h2)
 rw [if_neg k13] at e ⊢
 by_cases k3:m.kind=3
 ·rw [if_pos k3] at e ⊢
  by_cases a1:d_ s.tasks m.id=true
  ·rw [if_pos a1] at e;cases e
  rw [if_neg a1] at e ⊢
  by_cases a2:bC s.lists m.list=false
  ·rw [if_pos a2] at e;cases e
  rw [if_neg a2] at e ⊢
  by_cases a3:60≤s.tasks.length
  ·rw [if_pos a3] at e;cases e
  rw [if_neg a3] at e ⊢
  refine jh h1 (Nat.le_trans (Sr.mQ _ _) (by omega)) h3 (cu.2 ⟨fun t ht=>?_,Sr.pM woK t2⟩)
  rcases Sr.kv ht with rfl | q
  ·exact⟨Nat.pos_of_ne_zero (hidz (by rw [k3];decide)),gu (hx (by rw [k3];decide) (by rw [k3];decide)) (hf (by rw [k3];decide) (by rw [k3];decide)) hc nan_ok (Nat.zero_le _) rfl,(by cases z:bC s.lists m.list with | true=>rfl | false=>exact absurd z a2:bC s.lists m.list=true)⟩
  ·exact t1 t q
 rw [if_neg k3] at e ⊢
 by_cases a1:d_ s.tasks m.id=false
 ·rw [if_pos a1] at e;cases e
 rw [if_neg a1] at e ⊢
 have a1':d_ s.tasks m.id=true:=by simpa using a1
 by_cases k11:m.kind=11
 ·rw [if_pos k11] at e ⊢
  exact jh h1 (Nat.le_trans BM h2) h3 (cu.2 ⟨fun t ht=>t1 t (xI.1 ht).1,xD t2 _ _ _⟩)
 rw [if_neg k11] at e ⊢
 obtain⟨q1,q2,_⟩:=kM a1'
 obtain⟨g1,g2,g3⟩:=Dw (s:=s) c (by omega) (t1 _ q1).2.1 (t1 _ q1).2.2 e
 refine jh h1 (Nat.le_trans (Sr.mQ _ _) (by have:=wo_less a1';omega)) h3 (cu.2 ⟨fun t ht=>?_,Sr.pM woK (xD t2 _ _ _)⟩)
 rcases Sr.kv ht with rfl | q
 ·exact⟨by rw [g1,q2];exact Nat.pos_of_ne_zero (hidz (decide_eq_true (by omega))),g2,g3⟩
 ·exact t1 t (xI.1 q).1
end T9
end
end
end Go.Proofs.YtcedlgedmkghgaaGreat
