import Derived.Test.YtdjiiknefhepdaaGreatZ12
import Derived.Test.YtdjiiknefhepdaaGreatZ14
namespace Go.Proofs.YtdjiiknefhepdaaGreat
set_option maxHeartbeats 16000000
open Go.Lib Go.Proofs.Tryz
set_option linter.unusedSimpArgs false
set_option maxRecDepth 100000
section
open Go.RowKit Go.Lib
namespace T9
def aV (ls:List Li) (id:Nat):Li × Bool:=match ls.find? (fun l=>l.id==id) with | some l=>(l,true) | none=>(⟨0,[]⟩,false)
def dH (ts:List Tk) (id:Nat):Tk × Bool:=match ts.find? (fun t=>t.id==id) with | some t=>(t,true) | none=>(⟨0,0,[],false,0,0,[]⟩,false)
end T9
theorem xS {α:Type} {ls:List α} {p:α→Bool} {k:Nat} {l:α} (h:(ls.take k).find? p=none) (hl:ls[k]?=some l) (hp:p l=true):ls.find? p=some l:=by
 obtain⟨q1,q2⟩:=List.getElem?_eq_some_iff.1 hl
 rw [← List.take_append_drop k ls,List.find?_append,h,List.drop_eq_getElem_cons q1,q2,List.find?_cons_of_pos hp]
 rfl
theorem v_ {α:Type} {ls:List α} {p:α→Bool} {k:Nat} {l:α} (h:(ls.take k).find? p=none) (hl:ls[k]?=some l) (hp:p l=false):(ls.take (k+1)).find? p=none:=by
 rw [bJ hl,List.find?_append,h]
 simp [hp]
@[go_sem] theorem buildL9 (w : World) : (Instr.build 60 #[]).run prog w = .ok (.agg #[.int .u64 0, .string ⟨#[]⟩]) w := run_build w 60 _ _ (by kernel_rfl)
@[go_sem] theorem buildK9 (w : World) : (Instr.build 63 #[]).run prog w = .ok (.agg #[.int .u64 0, .int .u64 0, .string ⟨#[]⟩, .bool false, .float .f64 0, .float .f64 0, .slice none 0 0]) w := run_build w 63 _ _ (by kernel_rfl)
def FLOk (ls:List T9.Li) (id:Nat) (w:World) (e:Ending) (w':World):Prop:=e=.returned (.tuple #[.agg (bf (T9.aV ls id).1).toArray,.bool (T9.aV ls id).2])∧Below w.heap.size w w'
theorem bv {A A2:Option Addr} {n1 n2 c c2:Nat} {ls:List T9.Li} {w:World} (hl:LL w A ls) (e1:n1=ls.length) (hs:n1≤1000000) (id:Nat) :
  Calls prog 62 #[.agg #[.slice A n1 c,.slice A2 n2 c2],.int .u64 (id:Int)] w (FLOk ls id w):=by
 have E1:=hid e1
 obtain⟨w0,hw0⟩:∃ u,w.alloc (.cells #[.slice A n1 c,.slice A2 n2 c2] 25)=u:=⟨_,rfl⟩
 obtain⟨pb0,b0,z0⟩:=ak hw0
 obtain⟨w1,hw1⟩:∃ u,w0.alloc (.cells #[.int .u64 0,.string ⟨#[]⟩] 60)=u:=⟨_,rfl⟩
 obtain⟨JG,b1,z1⟩:=ak hw1
 have z1':w1.heap.size=w.heap.size+2:=by omega
 have pb:=(b1.block w.heap.size (by omega)).trans pb0
 have PB:=hid pb
 rw [z0] at JG
 have PR:=hid JG
 have B1:Hid (Below w.heap.size w w1):=hid (b0.trans (b1.mono (by omega)))
 have HL:=hid (hl.stay B1.out)
 have Z0:=hid z0
 have Z1:=hid z1'
 obtain⟨p0,p1⟩:=aa pb
 clear hl e1 pb0 b0 JG b1 z1 z1' pb
 go_enter func62,ntmps62
 go_wp2
 go_loopw [11] (fun s11 wr=>∃ i:Nat,s11=.int .i64 i∧i≤n1∧Hid ((ls.take i).find? (fun l=>l.id==id)=none)∧Aside (Below w1.heap.size w1 wr)) (fun s11 _=>n1 - (intOf s11).toNat)
 case atStart=>exact⟨0,rfl,Nat.zero_le _,hid rfl,Below.refl _ _⟩
 case round =>
  obtain⟨i,rfl,hi,HU,hB⟩:=hrel
  have BR:=hid hB.out
  clear hB
  have Ab:=(BR.out.block (w.heap.size+1) (by have:=Z1.out;omega)).trans PR.out
  have RB:=hid Ab
  by_cases hlt:i<n1
  ·have hltz:(i:Int)<(n1:Int):=by omega
   obtain⟨ad,l,hA,hx,q0,q1⟩:=(HL.out.stay BR.out).at_ (k:=i) (by have:=E1.out;omega)
   subst hA
   have X:=hid hx
   obtain⟨w2,hw2⟩:∃ u,wr.alloc (.cells #[.int .u64 (l.id:Int),.string (str l.name)] 60)=u:=⟨_,rfl⟩
   obtain⟨lb,b2,z2⟩:=ak hw2
   have B2:Hid (Below w1.heap.size w1 w2):=hid (BR.out.trans (b2.mono BR.out.size))
   obtain⟨l0,l1⟩:=aa lb
   have uU:=(b2.block (w.heap.size+1) (by have:=lt_of_block RB.out;omega)).trans RB.out
   have ED:=hid uU
   obtain⟨r0,r1⟩:=aa uU
   have jv:=af uU 0
   have jh:=af uU 1
   clear hx lb b2 z2 Ab uU
   by_cases he:l.id=id
   ·have vo:((l.id:Int)==(id:Int))=true:=by simp [he]
    have F:Hid (T9.aV ls id=(l,true)):=hid (by unfold T9.aV;rw [xS HU.out X.out (by simp [he])])
    clear he
    rw [Z0.out] at *
    have vI:Hid (((w2.setCell ⟨w.heap.size+1,0,none⟩ (.int .u64 (l.id:Int))).setCell ⟨w.heap.size+1,1,none⟩ (.string (str l.name))).heap[w.heap.size+1]?=some (.cells #[.int .u64 (l.id:Int),.string (str l.name)] 60 (0,0))):=hid ((ah (ah ED.out 0 (.int .u64 (l.id:Int))) 1 (.string (str l.name))).trans rfl)
    have kf0:=(aa vI.out).1
    have kf1:=(aa vI.out).2
    go_wp2
    refine bodyPost_ret (v:=.tuple #[.agg #[.int .u64 (l.id:Int),.string (str l.name)],.bool true]) (by simp [results,results62,go_sem,kf0,kf1]) rfl ?_
    refine⟨by rw [F.out];rfl,?_⟩
    exact ((B1.out.trans (B2.out.mono B1.out.size)).setCell (by simp) _).setCell (by simp) _
   ·have vo:((l.id:Int)==(id:Int))=false:=by simp;omega
    have F:Hid ((ls.take (i+1)).find? (fun l=>l.id==id)=none):=hid (v_ HU.out X.out (by simp [he]))
    clear he
    go_wp2
    go_roundw
    case rel=>exact⟨i+1,by go_num,by omega,F,B2.out⟩
    case measure=>simp [intOf];omega
  ·obtain rfl:i=n1:=by omega
   have hltz:¬ ((i:Int)<(i:Int)):=by omega
   have F:Hid (T9.aV ls id=(⟨0,[]⟩,false)):=hid (by
    have:=HU.out
    rw [E1.out,List.take_length] at this
    unfold T9.aV;rw [this])
   obtain⟨r0,r1⟩:=aa Ab
   have jv:=af Ab 0
   have jh:=af Ab 1
   have vI:Hid (((wr.setCell ⟨w.heap.size+1,0,none⟩ (.int .u64 0)).setCell ⟨w.heap.size+1,1,none⟩ (.string ⟨#[]⟩)).heap[w.heap.size+1]?=some (.cells #[.int .u64 0,.string ⟨#[]⟩] 60 (0,0))):=hid ((ah (ah RB.out 0 (.int .u64 0)) 1 (.string ⟨#[]⟩)).trans rfl)
   have kf0:=(aa vI.out).1
   have kf1:=(aa vI.out).2
   go_wp2
   refine bodyPost_ret (v:=.tuple #[.agg #[.int .u64 0,.string ⟨#[]⟩],.bool false]) (by simp [results,results62,go_sem,kf0,kf1]) rfl ?_
   refine⟨by rw [F.out];rfl,?_⟩
   exact ((B1.out.trans (BR.out.mono B1.out.size)).setCell (by simp) _).setCell (by simp) _
theorem zN {ms:List aM} {id:Nat}:(ay ms).find? (fun t=>t.id==id)=(ms.find? (fun m=>m.t.id==id)).map (·.t):=by
 unfold ay
 rw [List.find?_map]
 rfl
end
section
section
namespace T9
structure Mu where
 kind:Int
 id:Nat
 list:Nat
 text:List UInt8
 f:Nat
 flag:Bool
def Mu.ok (m:Mu):Prop:=m.id<18446744073709551616∧m.list<18446744073709551616∧m.f<18446744073709551616
def nId (k:Int):Bool:=decide (1≤k∧k≤11)
def og (k:Int):Bool:=decide (k=3∨k=6∨k=12∨k=13)
def p9 (k:Int):Bool:=decide (k=1∨k=3∨k=4∨k=9∨k=10)
def nF (k:Int):Bool:=decide (k=3∨k=6∨k=7∨k=8)
def um (k:Int):Bool:=decide (k=5)
def ofL (k:Int):Bool:=decide (k=1∨k=2)
def qK (k:Int):Bool:=decide (k=9∨k=10)
def extra (m:Mu):Bool:=!nC m.f || !nId m.kind && !(m.id==0) || !og m.kind && !(m.list==0) || !p9 m.kind && !decide (m.text=[]) || !um m.kind && m.flag || !nF m.kind && !Fl.om m.f 0
def bL (m:Mu):Int :=
 if ¬ (1≤m.kind∧m.kind≤13) then 110 else
 if extra m=true then 110 else
 if (og m.kind && m.list==0 || ofL m.kind && m.id==0)=true then 91 else
 if (nId m.kind && m.id==0)=true then 93 else
 if (qK m.kind && !tag m.text || !qK m.kind && p9 m.kind && !title m.text)=true then 94 else
 if (nF m.kind && Fl.dx m.f && !decide (m.kind=8))=true then 100 else 0
def wo (l:List Tk) (list:Nat) (done:Bool) (id:Nat):List Tk:=l.filter fun t=>!(t.id==id || (!(list==0) && t.list==list && (t.done || !done)))
def dX (l:List (List UInt8)) (m:Mu):Int × List (List UInt8) :=
 if m.kind=10 then (if (l.filter fun x=>!decide (x=m.text)).length<l.length then (0,l.filter fun x=>!decide (x=m.text)) else (3,l)) else
 if (l.filter fun x=>!decide (x=m.text)).length<l.length then (92,l) else
 if 4≤l.length then (95,l) else (0,Sr.canon dL ((l.filter fun x=>!decide (x=m.text))++[m.text]))
def oN (home:Bool) (m:Mu) (t:Tk):Int × Tk :=
 if m.kind=4 then (0,{ t with title:=m.text }) else
 if m.kind=5 then (0,{ t with done:=m.flag }) else
 if m.kind=6 then (if home=true then 0 else 91,{ t with list:=m.list,rank:=m.f }) else
 if m.kind=7 then (0,{ t with rank:=m.f }) else
 if m.kind=8 then (0,{ t with est:=m.f }) else
 ((dX t.tags m).1,{ t with tags:=(dX t.tags m).2 })
def kX (ts:List Tk) (list:Nat):List Tk:=Sr.canon lM (fH ts list)
def bD (ls:List Li) (id:Nat):Bool:=ls.any fun l=>l.id==id
def eB (ts:List Tk) (id:Nat):Bool:=ts.any fun t=>t.id==id
def eF (s:St) (m:Mu):Int × St :=
 if m.kind=1 then (if bD s.lists m.id=true then (92,s) else if 20≤s.lists.length then (95,s) else (0,⟨Sr.ins iP ⟨m.id,m.text⟩ s.lists,s.tasks⟩)) else
 if m.kind=2 then (if bD s.lists m.id=false then (91,s) else (0,⟨s.lists.filter fun l=>!(l.id==m.id),wo s.tasks m.id false 0⟩)) else
 if m.kind=12 then (if bD s.lists m.list=false then (91,s) else (0,⟨s.lists,wo s.tasks m.list true 0⟩)) else
 if m.kind=13 then (if bD s.lists m.list=false then (91,s) else (0,⟨s.lists,s.tasks.map (nT (kX s.tasks m.list))⟩)) else
 if m.kind=3 then (if eB s.tasks m.id=true then (92,s) else if bD s.lists m.list=false then (91,s) else if 60≤s.tasks.length then (95,s) else (0,⟨s.lists,Sr.ins iW ⟨m.id,m.list,m.text,false,m.f,Fl.h_,[]⟩ s.tasks⟩)) else
 if eB s.tasks m.id=false then (93,s) else
 if m.kind=11 then (0,⟨s.lists,wo s.tasks 0 false m.id⟩) else
 ((oN (bD s.lists m.list) m (dH s.tasks m.id).1).1,⟨s.lists,Sr.ins iW (oN (bD s.lists m.list) m (dH s.tasks m.id).1).2 (wo s.tasks 0 false m.id)⟩)
def bA (s:St) (m:Mu):St × Int :=
 if aH s≠0 then (⟨[],[]⟩,aH s) else
 if bL m≠0 then (⟨[],[]⟩,bL m) else
 if (eF s m).1≠0 then (⟨[],[]⟩,(eF s m).1) else ((eF s m).2,0)
theorem iE {ls:List Li} {a:Nat}:bH a ls=0↔(∀ l∈ls,a<l.id∧title l.name=true)∧Sr.Str iP ls:=by
 induction ls generalizing a with
 | nil=>simp [bH,Sr.Str]
 | cons l r ih =>
  unfold bH
  by_cases h1:l.id≤a
  ·rw [if_pos h1]
   refine⟨fun h=>(by cases h),fun h=>?_⟩
   have:=(h.1 l List.mem_cons_self).1
   omega
  rw [if_neg h1]
  by_cases h2:title l.name=false
  ·rw [if_pos h2]
   refine⟨fun h=>(by cases h),fun h=>?_⟩
   have:=(h.1 l List.mem_cons_self).2
   rw [h2] at this;cases this
  rw [if_neg h2,ih]
  have h2':title l.name=true:=by simpa using h2
  unfold Sr.Str
  rw [List.pairwise_cons]
  constructor
  ·rintro⟨q1,q2⟩
   refine⟨fun x hx=>?_,fun x hx=>decide_eq_true (q1 x hx).1,q2⟩
   rcases List.mem_cons.1 hx with rfl | hx
   ·exact⟨by omega,h2'⟩
   ·have:=q1 x hx;exact⟨by omega,this.2⟩
  ·rintro⟨q1,q2,q3⟩
   exact⟨fun x hx=>⟨of_decide_eq_true (q2 x hx),(q1 x (List.mem_cons_of_mem _ hx)).2⟩,q3⟩
theorem cu {ls:List Li} {ts:List Tk} {a:Nat}:bI ls a ts=0↔(∀ t∈ts,a<t.id∧aR t=0∧(ls.any fun l=>l.id==t.list)=true)∧Sr.Str iW ts:=by
 refine⟨fun h=>⟨(iI h).1,Cn (iI h).2⟩,?_⟩
 induction ts generalizing a with
 | nil=>intro _;rfl
 | cons t r ih =>
  rintro⟨h1,h2⟩
  have h:=h1 t List.mem_cons_self
  have p:=List.pairwise_cons.1 h2
  unfold bI
  rw [if_neg (by omega),if_neg (by rw [h.2.2];decide),if_neg (fun q=>q h.2.1)]
  exact ih ⟨fun x hx=>⟨of_decide_eq_true (p.1 x hx),(h1 x (List.mem_cons_of_mem _ hx)).2⟩,p.2⟩
end T9
namespace Sr
section
variable {α : Type} {lt : α → α → Bool}
theorem Cv {x y:α}:∀ {l:List α},y∈l→y∈ins lt x l
 | z :: l,h=>by
  unfold ins
  split
  ·rcases List.mem_cons.1 h with rfl | h
   ·exact List.mem_cons_self
   ·exact List.mem_cons_of_mem _ (Cv h)
  ·split
   ·exact List.mem_cons_of_mem _ h
   ·exact h
end
end Sr
namespace T9
theorem ordK_of {ts r:List Tk} {list:Nat} (h:uX ts list r) (u:r_ ts):r=kX ts list:=by
 have c:=Sr.gH EP (fH ts list)
 exact Sr.pM EP (h.str u) c.1 fun k=>by rw [Sr.d_.first h.2 k];exact (c.2 k).symm
theorem Hm {ts:List Tk} {list:Nat} {t:Tk} (h:t∈kX ts list):t∈ts∧t.list=list:=by
 have q:=List.mem_filter.1 (Sr.gQ h)
 exact⟨q.1,by simpa using q.2⟩
theorem xm {l:List Tk} {list id:Nat} {done:Bool} {t:Tk}:t∈wo l list done id↔t∈l∧t.id≠id∧¬ (list≠0∧t.list=list∧(t.done=true∨done=false)):=by
 unfold wo
 rw [List.mem_filter]
 refine and_congr Iff.rfl ?_
 by_cases h1:list=0 <;> by_cases h2:t.list=list <;> cases done <;> cases t.done <;> simp [h1,h2]
theorem lH {ls:List Li} {id:Nat}:bD ls id=true↔∃ l∈ls,l.id=id:=by
 unfold bD
 rw [List.any_eq_true]
 exact exists_congr fun l=>and_congr_right fun _=>by simp
theorem tL {ts:List Tk} {id:Nat}:eB ts id=true↔∃ t∈ts,t.id=id:=by
 unfold eB
 rw [List.any_eq_true]
 simp
theorem lq {ts:List Tk} {id:Nat} (h:eB ts id=true):(dH ts id).1∈ts∧(dH ts id).1.id=id∧(dH ts id).2=true:=by
 obtain⟨t,ht,e⟩:=tL.1 h
 unfold dH
 cases q:ts.find? (fun t=>t.id==id) with
 | none =>
  have:=List.find?_eq_none.1 q t ht
  simp [e] at this
 | some u=>exact⟨List.mem_of_find?_eq_some q,by simpa using List.find?_some q,rfl⟩
theorem Ez {ts:List Tk} (u:r_ ts) {t:Tk} (ht:t∈ts):dH ts t.id=(t,true):=by
 have h:eB ts t.id=true:=tL.2 ⟨t,ht,rfl⟩
 obtain⟨q1,q2,q3⟩:=lq h
 have e:(dH ts t.id).1=t:=by
  obtain⟨i,hi,ei⟩:=List.mem_iff_getElem.1 q1
  obtain⟨j,hj,ej⟩:=List.mem_iff_getElem.1 ht
  rcases Nat.lt_trichotomy i j with r | r | r
  ·have:=List.pairwise_iff_getElem.1 u i j hi hj r
   rw [ei,ej,q2] at this;exact absurd rfl this
  ·subst r;rw [← ei,ej]
  ·have:=List.pairwise_iff_getElem.1 u j i hj hi r
   rw [ei,ej,q2] at this;exact absurd rfl this
 exact Prod.ext e q3
theorem F8 {ts:List Tk} (h:Sr.Str iW ts):r_ ts:=h.imp fun q=>by have:=of_decide_eq_true q;omega
end T9
end
section
namespace T9
theorem nK {c:Prop} [Decidable c] {a b:Int} (ha:a≠0) (h:(if c then a else b)=0):¬ c∧b=0:=by
 by_cases q:c
 ·rw [if_pos q] at h;exact absurd h ha
 ·rw [if_neg q] at h;exact⟨q,h⟩
theorem lU {m:Mu} (h:bL m=0):(1≤m.kind∧m.kind≤13)∧nC m.f=true∧(og m.kind=true→m.list≠0)∧(nId m.kind=true→m.id≠0)∧(qK m.kind=true→tag m.text=true)∧(qK m.kind=false→p9 m.kind=true→title m.text=true)∧(nF m.kind=true→m.kind≠8→Fl.dx m.f=false)∧(og m.kind=false→m.list=0):=by
 unfold bL at h
 obtain⟨h1,h⟩:=nK (by decide) h
 obtain⟨h2,h⟩:=nK (by decide) h
 obtain⟨h3,h⟩:=nK (by decide) h
 obtain⟨h4,h⟩:=nK (by decide) h
 obtain⟨h5,h⟩:=nK (by decide) h
 obtain⟨h6,h⟩:=nK (by decide) h
 unfold extra at h2
 simp only [Bool.not_eq_true,Bool.or_eq_false_iff,Bool.and_eq_false_iff,Bool.not_eq_false',beq_eq_false_iff_ne,Decidable.not_not,beq_iff_eq,decide_eq_true_eq] at h1 h2 h3 h4 h5 h6
 refine⟨h1,h2.1.1.1.1.1,fun q=>?_,fun q=>?_,fun q=>?_,fun q r=>?_,fun q r=>?_,fun q=>?_⟩
 ·rcases h3.1 with k | k
  ·rw [k] at q;cases q
  ·exact k
 ·rcases h4 with k | k
  ·rw [k] at q;cases q
  ·exact k
 ·rcases h5.1 with k | k
  ·rw [k] at q;cases q
  ·exact k
 ·rcases h5.2 with (k | k) | k
  ·rw [q] at k;cases k
  ·rw [k] at r;cases r
  ·exact k
 ·rcases h6 with (k | k) | k
  ·rw [k] at q;cases q
  ·exact k
  ·exact absurd k r
 ·rcases h2.1.1.1.2 with k | k
  ·rw [q] at k;cases k
  ·exact k
theorem Bq {l:List Tk} {list id:Nat} {done:Bool}:(wo l list done id).length≤l.length:=List.length_filter_le _ _
theorem wo_less {l:List Tk} {id:Nat} (h:eB l id=true):(wo l 0 false id).length<l.length:=by
 obtain⟨t,ht,e⟩:=tL.1 h
 unfold wo
 rw [List.length_filter_lt_length_iff_exists]
 exact⟨t,ht,by simp [e]⟩
theorem wU {l:List Tk} (h:Sr.Str iW l) (list id:Nat) (done:Bool):Sr.Str iW (wo l list done id):=List.Pairwise.filter _ h
theorem nan_ok:nC Fl.h_=true:=by decide +kernel
theorem qV:∀ {l:List (List UInt8)} {a:List UInt8},(∀ x∈l,tag x=true∧dL a x=true)→Sr.Str dL l→bT a l=true
 | [],_,_,_=>rfl
 | t :: l,a,h,s=>by
  have p:=List.pairwise_cons.1 s
  have q:=h t List.mem_cons_self
  unfold bT
  rw [q.1,q.2,qV (fun x hx=>⟨(h x (List.mem_cons_of_mem _ hx)).1,p.1 x hx⟩) p.2]
  rfl
theorem oD:∀ {l:List (List UInt8)} {a:List UInt8},bT a l=true→∀ x∈l,tag x=true
 | [],_,_=>by simp
 | t :: l,a,h=>by
  unfold bT at h
  rw [Bool.and_eq_true,Bool.and_eq_true] at h
  intro x hx
  rcases List.mem_cons.1 hx with rfl | hx
  ·exact h.1.1
  ·exact oD h.2 x hx
theorem Jk {x:List UInt8} (h:tag x=true):dL [] x=true:=by
 unfold tag at h
 rw [Bool.and_eq_true,decide_eq_true_eq] at h
 unfold dL
 rw [decide_eq_true_eq]
 cases x with
 | nil=>simp at h
 | cons a x=>exact List.nil_lt_cons a x
theorem Av {l:List (List UInt8)} {m:Mu} (c:qK m.kind=true→tag m.text=true) (k:qK m.kind=true) (h:l.length≤4) (u:bT [] l=true) (e:(dX l m).1=0):(dX l m).2.length≤4∧bT [] (dX l m).2=true:=by
 have sl:=(lX u).2
 have fl:Sr.Str dL (l.filter fun x=>!decide (x=m.text)):=List.Pairwise.filter _ sl
 have ft:∀ x∈l.filter fun x=>!decide (x=m.text),tag x=true:=fun x hx=>oD u x (List.mem_filter.1 hx).1
 have fn:(l.filter fun x=>!decide (x=m.text)).length≤l.length:=List.length_filter_le _ _
 unfold dX at e ⊢
 by_cases h1:m.kind=10
 ·rw [if_pos h1] at e ⊢
  by_cases h2:(l.filter fun x=>!decide (x=m.text)).length<l.length
  ·rw [if_pos h2] at e ⊢
   exact⟨by show (l.filter _).length≤4;omega,qV (fun x hx=>⟨ft x hx,Jk (ft x hx)⟩) fl⟩
  ·rw [if_neg h2] at e;cases e
 rw [if_neg h1] at e ⊢
 by_cases h2:(l.filter fun x=>!decide (x=m.text)).length<l.length
 ·rw [if_pos h2] at e;cases e
 rw [if_neg h2] at e ⊢
 by_cases h3:4≤l.length
 ·rw [if_pos h3] at e;cases e
 rw [if_neg h3] at e ⊢
 have cl:=Sr.dF (lt:=dL) ((l.filter fun x=>!decide (x=m.text))++[m.text])
 rw [List.length_append] at cl
 have ct:∀ x∈Sr.canon dL ((l.filter fun x=>!decide (x=m.text))++[m.text]),tag x=true:=fun x hx=>by
  rcases List.mem_append.1 (Sr.gQ hx) with q | q
  ·exact ft x q
  ·rw [List.mem_singleton] at q;rw [q];exact c k
 exact⟨by show (Sr.canon _ _).length≤4;simp at cl;omega,qV (fun x hx=>⟨ct x hx,Jk (ct x hx)⟩) (Sr.gH JN _).1⟩
theorem Bv {ls:List Li} {x:Li} {id:Nat} (h:bD ls id=true):bD (Sr.ins iP x ls) id=true:=by
 obtain⟨l,hl,e⟩:=lH.1 h
 exact lH.2 ⟨l,Sr.Cv hl,e⟩
theorem Et {s:St} {m:Mu} {t:Tk} (c:bL m=0) (k4:4≤m.kind∧m.kind≤10) (f:aR t=0) (hl:bD s.lists t.list=true) (e:(oN (bD s.lists m.list) m t).1=0) :
  (oN (bD s.lists m.list) m t).2.id=t.id∧aR (oN (bD s.lists m.list) m t).2=0∧bD s.lists (oN (bD s.lists m.list) m t).2.list=true:=by
 obtain⟨_,hc,_,_,ht,hx,hf,_⟩:=lU c
 obtain⟨f1,f2,f3,f4,f5,f6⟩:=b_ f
 unfold oN at e ⊢
 by_cases h4:m.kind=4
 ·rw [if_pos h4] at e ⊢
  exact⟨rfl,gG (hx (by rw [h4];decide) (by rw [h4];decide)) f2 f3 f4 f5 f6,hl⟩
 rw [if_neg h4] at e ⊢
 by_cases h5:m.kind=5
 ·rw [if_pos h5] at e ⊢
  exact⟨rfl,gG f1 f2 f3 f4 f5 f6,hl⟩
 rw [if_neg h5] at e ⊢
 by_cases h6:m.kind=6
 ·rw [if_pos h6] at e ⊢
  have hh:bD s.lists m.list=true:=by
   cases q:bD s.lists m.list with
   | true=>rfl
   | false=>rw [q] at e;simp at e
  exact⟨rfl,gG f1 (hf (by rw [h6];decide) (by rw [h6];decide)) hc f4 f5 f6,hh⟩
 rw [if_neg h6] at e ⊢
 by_cases h7:m.kind=7
 ·rw [if_pos h7] at e ⊢
  exact⟨rfl,gG f1 (hf (by rw [h7];decide) (by rw [h7];decide)) hc f4 f5 f6,hl⟩
 rw [if_neg h7] at e ⊢
 by_cases h8:m.kind=8
 ·rw [if_pos h8] at e ⊢
  exact⟨rfl,gG f1 f2 f3 hc f5 f6,hl⟩
 rw [if_neg h8] at e ⊢
 have kt:qK m.kind=true:=decide_eq_true (by omega)
 obtain⟨g1,g2⟩:=Av ht kt f5 f6 e
 exact⟨rfl,gG f1 f2 f3 f4 g1 g2,hl⟩
theorem Ef {s:St} {m:Mu} (h:aH s=0) (c:bL m=0) (e:(eF s m).1=0):aH (eF s m).2=0:=by
 obtain⟨h1,h2,h3,h4⟩:=aD h
 obtain⟨l1,l2⟩:=iE.1 h3
 obtain⟨t1,t2⟩:=cu.1 h4
 obtain⟨hk,hc,hlist,hidz,ht,hx,hf,_⟩:=lU c
 unfold eF at e ⊢
 by_cases k1:m.kind=1
 ·rw [if_pos k1] at e ⊢
  by_cases a1:bD s.lists m.id=true
  ·rw [if_pos a1] at e;cases e
  rw [if_neg a1] at e ⊢
  by_cases a2:20≤s.lists.length
  ·rw [if_pos a2] at e;cases e
  rw [if_neg a2] at e ⊢
  refine jc (Nat.le_trans (Sr.nO _ _) (by omega)) h2 (iE.2 ⟨fun l hl=>?_,Sr.pW woL l2⟩) (cu.2 ⟨fun t ht=>⟨(t1 t ht).1,(t1 t ht).2.1,Bv (t1 t ht).2.2⟩,t2⟩)
  rcases Sr.kQ hl with rfl | q
  ·exact⟨Nat.pos_of_ne_zero (hidz (by rw [k1];decide)),hx (by rw [k1];decide) (by rw [k1];decide)⟩
  ·exact l1 l q
 rw [if_neg k1] at e ⊢
 by_cases k2:m.kind=2
 ·rw [if_pos k2] at e ⊢
  by_cases a1:bD s.lists m.id=false
  ·rw [if_pos a1] at e;cases e
  rw [if_neg a1] at e ⊢
  refine jc (Nat.le_trans (List.length_filter_le _ _) h1) (Nat.le_trans Bq h2) (iE.2 ⟨fun l hl=>l1 l (List.mem_filter.1 hl).1,List.Pairwise.filter _ l2⟩) (cu.2 ⟨fun t ht=>?_,wU t2 _ _ _⟩)
  obtain⟨q1,q2,q3⟩:=xm.1 ht
  refine⟨(t1 t q1).1,(t1 t q1).2.1,?_⟩
  obtain⟨l,hl,el⟩:=lH.1 (t1 t q1).2.2
  refine lH.2 ⟨l,List.mem_filter.2 ⟨hl,?_⟩,el⟩
  have:l.id≠m.id:=fun z=>q3 ⟨hidz (by rw [k2];decide),by rw [← el,z],.inr rfl⟩
  simp [this]
 rw [if_neg k2] at e ⊢
 by_cases k12:m.kind=12
 ·rw [if_pos k12] at e ⊢
  by_cases a1:bD s.lists m.list=false
  ·rw [if_pos a1] at e;cases e
  rw [if_neg a1] at e ⊢
  exact jc h1 (Nat.le_trans Bq h2) h3 (cu.2 ⟨fun t ht=>t1 t (xm.1 ht).1,wU t2 _ _ _⟩)
 rw [if_neg k12] at e ⊢
 by_cases k13:m.kind=13
 ·rw [if_pos k13] at e ⊢
  by_cases a1:bD s.lists m.list=false
  ·rw [if_pos a1] at e;cases e
  rw [if_neg a1] at e ⊢
  refine wZ h ?_
  exact Nat.le_trans (Sr.dF _) (Nat.le_trans (List.length_filter_le _ _) h2)
 rw [if_neg k13] at e ⊢
 by_cases k3:m.kind=3
 ·rw [if_pos k3] at e ⊢
  by_cases a1:eB s.tasks m.id=true
  ·rw [if_pos a1] at e;cases e
  rw [if_neg a1] at e ⊢
  by_cases a2:bD s.lists m.list=false
  ·rw [if_pos a2] at e;cases e
  rw [if_neg a2] at e ⊢
  by_cases a3:60≤s.tasks.length
  ·rw [if_pos a3] at e;cases e
  rw [if_neg a3] at e ⊢
  refine jc h1 (Nat.le_trans (Sr.nO _ _) (by omega)) h3 (cu.2 ⟨fun t ht=>?_,Sr.pW woK t2⟩)
  rcases Sr.kQ ht with rfl | q
  ·exact⟨Nat.pos_of_ne_zero (hidz (by rw [k3];decide)),gG (hx (by rw [k3];decide) (by rw [k3];decide)) (hf (by rw [k3];decide) (by rw [k3];decide)) hc nan_ok (Nat.zero_le _) rfl,(by cases z:bD s.lists m.list with | true=>rfl | false=>exact absurd z a2:bD s.lists m.list=true)⟩
  ·exact t1 t q
 rw [if_neg k3] at e ⊢
 by_cases a1:eB s.tasks m.id=false
 ·rw [if_pos a1] at e;cases e
 rw [if_neg a1] at e ⊢
 have a1':eB s.tasks m.id=true:=by simpa using a1
 by_cases k11:m.kind=11
 ·rw [if_pos k11] at e ⊢
  exact jc h1 (Nat.le_trans Bq h2) h3 (cu.2 ⟨fun t ht=>t1 t (xm.1 ht).1,wU t2 _ _ _⟩)
 rw [if_neg k11] at e ⊢
 obtain⟨q1,q2,_⟩:=lq a1'
 obtain⟨g1,g2,g3⟩:=Et (s:=s) c (by omega) (t1 _ q1).2.1 (t1 _ q1).2.2 e
 refine jc h1 (Nat.le_trans (Sr.nO _ _) (by have:=wo_less a1';omega)) h3 (cu.2 ⟨fun t ht=>?_,Sr.pW woK (wU t2 _ _ _)⟩)
 rcases Sr.kQ ht with rfl | q
 ·exact⟨by rw [g1,q2];exact Nat.pos_of_ne_zero (hidz (decide_eq_true (by omega))),g2,g3⟩
 ·exact t1 t (xm.1 q).1
end T9
end
end
end Go.Proofs.YtdjiiknefhepdaaGreat
