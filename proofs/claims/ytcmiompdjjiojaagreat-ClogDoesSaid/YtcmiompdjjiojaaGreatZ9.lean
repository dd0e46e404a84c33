import Derived.Test.YtcmiompdjjiojaaGreatZ8
import Derived.Deep.RegionHeld3
import Derived.Lib.QuietBelow
namespace Go.Proofs.YtcmiompdjjiojaaGreat
set_option maxHeartbeats 16000000
open Go.Lib Go.Proofs.Tryz
set_option linter.unusedSimpArgs false
set_option maxRecDepth 100000
section
open Go.RowKit Go.Lib
namespace T9
def aW (ls:List Li) (id:Nat):Li × Bool:=match ls.find? (fun l=>l.id==id) with | some l=>(l,true) | none=>(⟨0,[]⟩,false)
def dJ (ts:List Tk) (id:Nat):Tk × Bool:=match ts.find? (fun t=>t.id==id) with | some t=>(t,true) | none=>(⟨0,0,[],false,0,0,[]⟩,false)
end T9
theorem Ap {α:Type} {ls:List α} {p:α→Bool} {k:Nat} {l:α} (h:(ls.take k).find? p=none) (hl:ls[k]?=some l) (hp:p l=true):ls.find? p=some l:=by
 obtain⟨q1,q2⟩:=List.getElem?_eq_some_iff.1 hl
 rw [← List.take_append_drop k ls,List.find?_append,h,List.drop_eq_getElem_cons q1,q2,List.find?_cons_of_pos hp]
 rfl
theorem xC {α:Type} {ls:List α} {p:α→Bool} {k:Nat} {l:α} (h:(ls.take k).find? p=none) (hl:ls[k]?=some l) (hp:p l=false):(ls.take (k+1)).find? p=none:=by
 rw [bH hl,List.find?_append,h]
 simp [hp]
@[go_sem] theorem buildL9 (w : World) : (Instr.build 61 #[]).run prog w = .ok (.agg #[.int .u64 0, .string ⟨#[]⟩]) w := run_build w 61 _ _ (by kernel_rfl)
@[go_sem] theorem buildK9 (w : World) : (Instr.build 64 #[]).run prog w = .ok (.agg #[.int .u64 0, .int .u64 0, .string ⟨#[]⟩, .bool false, .float .f64 0, .float .f64 0, .slice none 0 0]) w := run_build w 64 _ _ (by kernel_rfl)
def FLOk (ls:List T9.Li) (id:Nat) (w:World) (e:Ending) (w':World):Prop:=e=.returned (.tuple #[.agg (a_ (T9.aW ls id).1).toArray,.bool (T9.aW ls id).2])∧Below w.heap.size w w'
theorem bv {A A2:Option Addr} {n1 n2 c c2:Nat} {ls:List T9.Li} {w:World} (hl:LL w A ls) (e1:n1=ls.length) (hs:n1≤1000000) (id:Nat) :
  Calls prog 59 #[.agg #[.slice A n1 c,.slice A2 n2 c2],.int .u64 (id:Int)] w (FLOk ls id w):=by
 have E1:=hid e1
 obtain⟨w0,hw0⟩:=nm (w.alloc (.cells #[.slice A n1 c,.slice A2 n2 c2] 26))
 obtain⟨pb0,b0,z0⟩:=aj hw0
 obtain⟨w1,hw1⟩:=nm (w0.alloc (.cells #[.int .u64 0,.string ⟨#[]⟩] 61))
 obtain⟨MJ,b1,z1⟩:=aj hw1
 have z1':w1.heap.size=w.heap.size+2:=by omega
 have pb:=(b1.block w.heap.size (by omega)).trans pb0
 have PB:=hid pb
 rw [z0] at MJ
 have PR:=hid MJ
 have B1:Hid (Below w.heap.size w w1):=hid (b0.trans (b1.mono (by omega)))
 have HL:=hid (hl.stay B1.out)
 have Z0:=hid z0
 have Z1:=hid z1'
 obtain⟨p0,p1⟩:=aa pb
 clear hl e1 pb0 b0 MJ b1 z1 z1' pb
 go_enter func59,ntmps59
 go_wp2
 go_loopw [11] (fun s11 wr=>∃ i:Nat,s11=.int .i64 i∧i≤n1∧Hid ((ls.take i).find? (fun l=>l.id==id)=none)∧Aside (Below w1.heap.size w1 wr)) (fun s11 _=>n1 - (intOf s11).toNat)
 case atStart=>exact⟨0,rfl,Nat.zero_le _,hid rfl,Below.refl _ _⟩
 case round =>
  obtain⟨i,rfl,hi,HU,hB⟩:=hrel
  have BR:=hid hB.out
  clear hB
  have Cx:=(BR.out.block (w.heap.size+1) (by have:=Z1.out;omega)).trans PR.out
  have RB:=hid Cx
  by_cases hlt:i<n1
  ·have hltz:(i:Int)<(n1:Int):=by omega
   obtain⟨ad,l,hA,hx,q0,q1⟩:=(HL.out.stay BR.out).at_ (k:=i) (by have:=E1.out;omega)
   subst hA
   have X:=hid hx
   obtain⟨w2,hw2⟩:=nm (wr.alloc (.cells #[.int .u64 (l.id:Int),.string (str l.name)] 61))
   obtain⟨lb,b2,z2⟩:=aj hw2
   have B2:Hid (Below w1.heap.size w1 w2):=hid (BR.out.trans (b2.mono BR.out.size))
   obtain⟨l0,l1⟩:=aa lb
   have wM:=(b2.block (w.heap.size+1) (by have:=lt_of_block RB.out;omega)).trans RB.out
   have zV:=hid wM
   obtain⟨r0,r1⟩:=aa wM
   have jO:=af wM 0
   have jB:=af wM 1
   clear hx lb b2 z2 Cx wM
   by_cases he:l.id=id
   ·have wT:((l.id:Int)==(id:Int))=true:=by simp [he]
    have F:Hid (T9.aW ls id=(l,true)):=hid (by unfold T9.aW;rw [Ap HU.out X.out (by simp [he])])
    clear he
    rw [Z0.out] at *
    have xh:Hid (((w2.setCell ⟨w.heap.size+1,0,none⟩ (.int .u64 (l.id:Int))).setCell ⟨w.heap.size+1,1,none⟩ (.string (str l.name))).heap[w.heap.size+1]?=some (.cells #[.int .u64 (l.id:Int),.string (str l.name)] 61 (0,0))):=hid ((ah (ah zV.out 0 (.int .u64 (l.id:Int))) 1 (.string (str l.name))).trans rfl)
    have kf0:=(aa xh.out).1
    have kf1:=(aa xh.out).2
    go_wp2
    refine bodyPost_ret (v:=.tuple #[.agg #[.int .u64 (l.id:Int),.string (str l.name)],.bool true]) (by simp [results,results59,go_sem,kf0,kf1]) rfl ?_
    refine⟨by rw [F.out];rfl,?_⟩
    exact ((B1.out.trans (B2.out.mono B1.out.size)).setCell (by simp) _).setCell (by simp) _
   ·have wT:((l.id:Int)==(id:Int))=false:=by simp;omega
    have F:Hid ((ls.take (i+1)).find? (fun l=>l.id==id)=none):=hid (xC HU.out X.out (by simp [he]))
    clear he
    go_wp2
    go_roundw
    case rel=>exact⟨i+1,by go_num,by omega,F,B2.out⟩
    case measure=>simp [intOf];omega
  ·obtain rfl:i=n1:=by omega
   have hltz:¬ ((i:Int)<(i:Int)):=by omega
   have F:Hid (T9.aW ls id=(⟨0,[]⟩,false)):=hid (by
    have:=HU.out
    rw [E1.out,List.take_length] at this
    unfold T9.aW;rw [this])
   obtain⟨r0,r1⟩:=aa Cx
   have jO:=af Cx 0
   have jB:=af Cx 1
   have xh:Hid (((wr.setCell ⟨w.heap.size+1,0,none⟩ (.int .u64 0)).setCell ⟨w.heap.size+1,1,none⟩ (.string ⟨#[]⟩)).heap[w.heap.size+1]?=some (.cells #[.int .u64 0,.string ⟨#[]⟩] 61 (0,0))):=hid ((ah (ah RB.out 0 (.int .u64 0)) 1 (.string ⟨#[]⟩)).trans rfl)
   have kf0:=(aa xh.out).1
   have kf1:=(aa xh.out).2
   go_wp2
   refine bodyPost_ret (v:=.tuple #[.agg #[.int .u64 0,.string ⟨#[]⟩],.bool false]) (by simp [results,results59,go_sem,kf0,kf1]) rfl ?_
   refine⟨by rw [F.out];rfl,?_⟩
   exact ((B1.out.trans (BR.out.mono B1.out.size)).setCell (by simp) _).setCell (by simp) _
theorem Cq {ms:List aN} {id:Nat}:(ay ms).find? (fun t=>t.id==id)=(ms.find? (fun m=>m.t.id==id)).map (·.t):=by
 unfold ay
 rw [List.find?_map]
 rfl
end
section
section
namespace T9
structure Mu where
 kind:Int
 id:Nat
 list:Nat
 text:List UInt8
 f:Nat
 flag:Bool
def Mu.ok (m:Mu):Prop:=m.id<18446744073709551616∧m.list<18446744073709551616∧m.f<18446744073709551616
def nId (k:Int):Bool:=decide (1≤k∧k≤11)
def o9 (k:Int):Bool:=decide (k=3∨k=6∨k=12∨k=13)
def qM (k:Int):Bool:=decide (k=1∨k=3∨k=4∨k=9∨k=10)
def nF (k:Int):Bool:=decide (k=3∨k=6∨k=7∨k=8)
def vo (k:Int):Bool:=decide (k=5)
def ofL (k:Int):Bool:=decide (k=1∨k=2)
def sw (k:Int):Bool:=decide (k=9∨k=10)
def extra (m:Mu):Bool:=!n_ m.f || !nId m.kind && !(m.id==0) || !o9 m.kind && !(m.list==0) || !qM m.kind && !decide (m.text=[]) || !vo m.kind && m.flag || !nF m.kind && !Fl.oU m.f 0
def bN (m:Mu):Int :=
 if ¬ (1≤m.kind∧m.kind≤13) then 110 else
 if extra m=true then 110 else
 if (o9 m.kind && m.list==0 || ofL m.kind && m.id==0)=true then 91 else
 if (nId m.kind && m.id==0)=true then 93 else
 if (sw m.kind && !tag m.text || !sw m.kind && qM m.kind && !title m.text)=true then 94 else
 if (nF m.kind && Fl.dz m.f && !decide (m.kind=8))=true then 100 else 0
def wo (l:List Tk) (list:Nat) (done:Bool) (id:Nat):List Tk:=l.filter fun t=>!(t.id==id || (!(list==0) && t.list==list && (t.done || !done)))
def dY (l:List (List UInt8)) (m:Mu):Int × List (List UInt8) :=
 if m.kind=10 then (if (l.filter fun x=>!decide (x=m.text)).length<l.length then (0,l.filter fun x=>!decide (x=m.text)) else (3,l)) else
 if (l.filter fun x=>!decide (x=m.text)).length<l.length then (92,l) else
 if 4≤l.length then (95,l) else (0,Sr.canon dN ((l.filter fun x=>!decide (x=m.text))++[m.text]))
def pX (home:Bool) (m:Mu) (t:Tk):Int × Tk :=
 if m.kind=4 then (0,{ t with title:=m.text }) else
 if m.kind=5 then (0,{ t with done:=m.flag }) else
 if m.kind=6 then (if home=true then 0 else 91,{ t with list:=m.list,rank:=m.f }) else
 if m.kind=7 then (0,{ t with rank:=m.f }) else
 if m.kind=8 then (0,{ t with est:=m.f }) else
 ((dY t.tags m).1,{ t with tags:=(dY t.tags m).2 })
def lw (ts:List Tk) (list:Nat):List Tk:=Sr.canon lM (fM ts list)
def bC (ls:List Li) (id:Nat):Bool:=ls.any fun l=>l.id==id
def eB (ts:List Tk) (id:Nat):Bool:=ts.any fun t=>t.id==id
def eD (s:St) (m:Mu):Int × St :=
 if m.kind=1 then (if bC s.lists m.id=true then (92,s) else if 20≤s.lists.length then (95,s) else (0,⟨Sr.ins iY ⟨m.id,m.text⟩ s.lists,s.tasks⟩)) else
 if m.kind=2 then (if bC s.lists m.id=false then (91,s) else (0,⟨s.lists.filter fun l=>!(l.id==m.id),wo s.tasks m.id false 0⟩)) else
 if m.kind=12 then (if bC s.lists m.list=false then (91,s) else (0,⟨s.lists,wo s.tasks m.list true 0⟩)) else
 if m.kind=13 then (if bC s.lists m.list=false then (91,s) else (0,⟨s.lists,s.tasks.map (oP (lw s.tasks m.list))⟩)) else
 if m.kind=3 then (if eB s.tasks m.id=true then (92,s) else if bC s.lists m.list=false then (91,s) else if 60≤s.tasks.length then (95,s) else (0,⟨s.lists,Sr.ins jg ⟨m.id,m.list,m.text,false,m.f,Fl.iF,[]⟩ s.tasks⟩)) else
 if eB s.tasks m.id=false then (93,s) else
 if m.kind=11 then (0,⟨s.lists,wo s.tasks 0 false m.id⟩) else
 ((pX (bC s.lists m.list) m (dJ s.tasks m.id).1).1,⟨s.lists,Sr.ins jg (pX (bC s.lists m.list) m (dJ s.tasks m.id).1).2 (wo s.tasks 0 false m.id)⟩)
def bA (s:St) (m:Mu):St × Int :=
 if aJ s≠0 then (⟨[],[]⟩,aJ s) else
 if bN m≠0 then (⟨[],[]⟩,bN m) else
 if (eD s m).1≠0 then (⟨[],[]⟩,(eD s m).1) else ((eD s m).2,0)
theorem iM {ls:List Li} {a:Nat}:bJ a ls=0↔(∀ l∈ls,a<l.id∧title l.name=true)∧Sr.Str iY ls:=by
 induction ls generalizing a with
 | nil=>simp [bJ,Sr.Str]
 | cons l r ih =>
  unfold bJ
  by_cases h1:l.id≤a
  ·rw [if_pos h1]
   refine⟨fun h=>(by cases h),fun h=>?_⟩
   have:=(h.1 l List.mem_cons_self).1
   omega
  rw [if_neg h1]
  by_cases h2:title l.name=false
  ·rw [if_pos h2]
   refine⟨fun h=>(by cases h),fun h=>?_⟩
   have:=(h.1 l List.mem_cons_self).2
   rw [h2] at this;cases this
  rw [if_neg h2,ih]
  have h2':title l.name=true:=by simpa using h2
  unfold Sr.Str
  rw [List.pairwise_cons]
  constructor
  ·rintro⟨q1,q2⟩
   refine⟨fun x hx=>?_,fun x hx=>decide_eq_true (q1 x hx).1,q2⟩
   rcases List.mem_cons.1 hx with rfl | hx
   ·exact⟨by omega,h2'⟩
   ·have:=q1 x hx;exact⟨by omega,this.2⟩
  ·rintro⟨q1,q2,q3⟩
   exact⟨fun x hx=>⟨of_decide_eq_true (q2 x hx),(q1 x (List.mem_cons_of_mem _ hx)).2⟩,q3⟩
theorem cz {ls:List Li} {ts:List Tk} {a:Nat}:bK ls a ts=0↔(∀ t∈ts,a<t.id∧aT t=0∧(ls.any fun l=>l.id==t.list)=true)∧Sr.Str jg ts:=by
 refine⟨fun h=>⟨(iV h).1,FM (iV h).2⟩,?_⟩
 induction ts generalizing a with
 | nil=>intro _;rfl
 | cons t r ih =>
  rintro⟨h1,h2⟩
  have h:=h1 t List.mem_cons_self
  have p:=List.pairwise_cons.1 h2
  unfold bK
  rw [if_neg (by omega),if_neg (by rw [h.2.2];decide),if_neg (fun q=>q h.2.1)]
  exact ih ⟨fun x hx=>⟨of_decide_eq_true (p.1 x hx),(h1 x (List.mem_cons_of_mem _ hx)).2⟩,p.2⟩
end T9
namespace Sr
section
variable {α : Type} {lt : α → α → Bool}
theorem Fz {x y:α}:∀ {l:List α},y∈l→y∈ins lt x l
 | z :: l,h=>by
  unfold ins
  split
  ·rcases List.mem_cons.1 h with rfl | h
   ·exact List.mem_cons_self
   ·exact List.mem_cons_of_mem _ (Fz h)
  ·split
   ·exact List.mem_cons_of_mem _ h
   ·exact h
end
end Sr
namespace T9
theorem ordK_of {ts r:List Tk} {list:Nat} (h:wN ts list r) (u:tK ts):r=lw ts list:=by
 have c:=Sr.gF Iu (fM ts list)
 exact Sr.qY Iu (h.str u) c.1 fun k=>by rw [Sr.gM.first h.2 k];exact (c.2 k).symm
theorem KT {ts:List Tk} {list:Nat} {t:Tk} (h:t∈lw ts list):t∈ts∧t.list=list:=by
 have q:=List.mem_filter.1 (Sr.gT h)
 exact⟨q.1,by simpa using q.2⟩
theorem zK {l:List Tk} {list id:Nat} {done:Bool} {t:Tk}:t∈wo l list done id↔t∈l∧t.id≠id∧¬ (list≠0∧t.list=list∧(t.done=true∨done=false)):=by
 unfold wo
 rw [List.mem_filter]
 refine and_congr Iff.rfl ?_
 by_cases h1:list=0 <;> by_cases h2:t.list=list <;> cases done <;> cases t.done <;> simp [h1,h2]
theorem lG {ls:List Li} {id:Nat}:bC ls id=true↔∃ l∈ls,l.id=id:=by
 unfold bC
 rw [List.any_eq_true]
 exact exists_congr fun l=>and_congr_right fun _=>by simp
theorem uO {ts:List Tk} {id:Nat}:eB ts id=true↔∃ t∈ts,t.id=id:=by
 unfold eB
 rw [List.any_eq_true]
 simp
theorem lF {ts:List Tk} {id:Nat} (h:eB ts id=true):(dJ ts id).1∈ts∧(dJ ts id).1.id=id∧(dJ ts id).2=true:=by
 obtain⟨t,ht,e⟩:=uO.1 h
 unfold dJ
 cases q:ts.find? (fun t=>t.id==id) with
 | none =>
  have:=List.find?_eq_none.1 q t ht
  simp [e] at this
 | some u=>exact⟨List.mem_of_find?_eq_some q,by simpa using List.find?_some q,rfl⟩
theorem Gy {ts:List Tk} (u:tK ts) {t:Tk} (ht:t∈ts):dJ ts t.id=(t,true):=by
 have h:eB ts t.id=true:=uO.2 ⟨t,ht,rfl⟩
 obtain⟨q1,q2,q3⟩:=lF h
 have e:(dJ ts t.id).1=t:=by
  obtain⟨i,hi,ei⟩:=List.mem_iff_getElem.1 q1
  obtain⟨j,hj,ej⟩:=List.mem_iff_getElem.1 ht
  rcases Nat.lt_trichotomy i j with r | r | r
  ·have:=List.pairwise_iff_getElem.1 u i j hi hj r
   rw [ei,ej,q2] at this;exact absurd rfl this
  ·subst r;rw [← ei,ej]
  ·have:=List.pairwise_iff_getElem.1 u j i hj hi r
   rw [ei,ej,q2] at this;exact absurd rfl this
 exact Prod.ext e q3
theorem Mh {ts:List Tk} (h:Sr.Str jg ts):tK ts:=h.imp fun q=>by have:=of_decide_eq_true q;omega
end T9
end
section
namespace T9
theorem nY {c:Prop} [Decidable c] {a b:Int} (ha:a≠0) (h:(if c then a else b)=0):¬ c∧b=0:=by
 by_cases q:c
 ·rw [if_pos q] at h;exact absurd h ha
 ·rw [if_neg q] at h;exact⟨q,h⟩
theorem lU {m:Mu} (h:bN m=0):(1≤m.kind∧m.kind≤13)∧n_ m.f=true∧(o9 m.kind=true→m.list≠0)∧(nId m.kind=true→m.id≠0)∧(sw m.kind=true→tag m.text=true)∧(sw m.kind=false→qM m.kind=true→title m.text=true)∧(nF m.kind=true→m.kind≠8→Fl.dz m.f=false)∧(o9 m.kind=false→m.list=0):=by
 unfold bN at h
 obtain⟨h1,h⟩:=nY (by decide) h
 obtain⟨h2,h⟩:=nY (by decide) h
 obtain⟨h3,h⟩:=nY (by decide) h
 obtain⟨h4,h⟩:=nY (by decide) h
 obtain⟨h5,h⟩:=nY (by decide) h
 obtain⟨h6,h⟩:=nY (by decide) h
 unfold extra at h2
 simp only [Bool.not_eq_true,Bool.or_eq_false_iff,Bool.and_eq_false_iff,Bool.not_eq_false',beq_eq_false_iff_ne,Decidable.not_not,beq_iff_eq,decide_eq_true_eq] at h1 h2 h3 h4 h5 h6
 refine⟨h1,h2.1.1.1.1.1,fun q=>?_,fun q=>?_,fun q=>?_,fun q r=>?_,fun q r=>?_,fun q=>?_⟩
 ·rcases h3.1 with k | k
  ·rw [k] at q;cases q
  ·exact k
 ·rcases h4 with k | k
  ·rw [k] at q;cases q
  ·exact k
 ·rcases h5.1 with k | k
  ·rw [k] at q;cases q
  ·exact k
 ·rcases h5.2 with (k | k) | k
  ·rw [q] at k;cases k
  ·rw [k] at r;cases r
  ·exact k
 ·rcases h6 with (k | k) | k
  ·rw [k] at q;cases q
  ·exact k
  ·exact absurd k r
 ·rcases h2.1.1.1.2 with k | k
  ·rw [q] at k;cases k
  ·exact k
theorem EM {l:List Tk} {list id:Nat} {done:Bool}:(wo l list done id).length≤l.length:=List.length_filter_le _ _
theorem wo_less {l:List Tk} {id:Nat} (h:eB l id=true):(wo l 0 false id).length<l.length:=by
 obtain⟨t,ht,e⟩:=uO.1 h
 unfold wo
 rw [List.length_filter_lt_length_iff_exists]
 exact⟨t,ht,by simp [e]⟩
theorem zG {l:List Tk} (h:Sr.Str jg l) (list id:Nat) (done:Bool):Sr.Str jg (wo l list done id):=List.Pairwise.filter _ h
theorem nan_ok:n_ Fl.iF=true:=by decide +kernel
theorem sG:∀ {l:List (List UInt8)} {a:List UInt8},(∀ x∈l,tag x=true∧dN a x=true)→Sr.Str dN l→bT a l=true
 | [],_,_,_=>rfl
 | t :: l,a,h,s=>by
  have p:=List.pairwise_cons.1 s
  have q:=h t List.mem_cons_self
  unfold bT
  rw [q.1,q.2,sG (fun x hx=>⟨(h x (List.mem_cons_of_mem _ hx)).1,p.1 x hx⟩) p.2]
  rfl
theorem pV:∀ {l:List (List UInt8)} {a:List UInt8},bT a l=true→∀ x∈l,tag x=true
 | [],_,_=>by simp
 | t :: l,a,h=>by
  unfold bT at h
  rw [Bool.and_eq_true,Bool.and_eq_true] at h
  intro x hx
  rcases List.mem_cons.1 hx with rfl | hx
  ·exact h.1.1
  ·exact pV h.2 x hx
theorem Mr {x:List UInt8} (h:tag x=true):dN [] x=true:=by
 unfold tag at h
 rw [Bool.and_eq_true,decide_eq_true_eq] at h
 unfold dN
 rw [decide_eq_true_eq]
 cases x with
 | nil=>simp at h
 | cons a x=>exact List.nil_lt_cons a x
theorem EG {l:List (List UInt8)} {m:Mu} (c:sw m.kind=true→tag m.text=true) (k:sw m.kind=true) (h:l.length≤4) (u:bT [] l=true) (e:(dY l m).1=0):(dY l m).2.length≤4∧bT [] (dY l m).2=true:=by
 have sl:=(mq u).2
 have fl:Sr.Str dN (l.filter fun x=>!decide (x=m.text)):=List.Pairwise.filter _ sl
 have ft:∀ x∈l.filter fun x=>!decide (x=m.text),tag x=true:=fun x hx=>pV u x (List.mem_filter.1 hx).1
 have fn:(l.filter fun x=>!decide (x=m.text)).length≤l.length:=List.length_filter_le _ _
 unfold dY at e ⊢
 by_cases h1:m.kind=10
 ·rw [if_pos h1] at e ⊢
  by_cases h2:(l.filter fun x=>!decide (x=m.text)).length<l.length
  ·rw [if_pos h2] at e ⊢
   exact⟨by show (l.filter _).length≤4;omega,sG (fun x hx=>⟨ft x hx,Mr (ft x hx)⟩) fl⟩
  ·rw [if_neg h2] at e;cases e
 rw [if_neg h1] at e ⊢
 by_cases h2:(l.filter fun x=>!decide (x=m.text)).length<l.length
 ·rw [if_pos h2] at e;cases e
 rw [if_neg h2] at e ⊢
 by_cases h3:4≤l.length
 ·rw [if_pos h3] at e;cases e
 rw [if_neg h3] at e ⊢
 have cl:=Sr.dD (lt:=dN) ((l.filter fun x=>!decide (x=m.text))++[m.text])
 rw [List.length_append] at cl
 have ct:∀ x∈Sr.canon dN ((l.filter fun x=>!decide (x=m.text))++[m.text]),tag x=true:=fun x hx=>by
  rcases List.mem_append.1 (Sr.gT hx) with q | q
  ·exact ft x q
  ·rw [List.mem_singleton] at q;rw [q];exact c k
 exact⟨by show (Sr.canon _ _).length≤4;simp at cl;omega,sG (fun x hx=>⟨ct x hx,Mr (ct x hx)⟩) (Sr.gF MO _).1⟩
theorem Eb {ls:List Li} {x:Li} {id:Nat} (h:bC ls id=true):bC (Sr.ins iY x ls) id=true:=by
 obtain⟨l,hl,e⟩:=lG.1 h
 exact lG.2 ⟨l,Sr.Fz hl,e⟩
theorem Gp {s:St} {m:Mu} {t:Tk} (c:bN m=0) (k4:4≤m.kind∧m.kind≤10) (f:aT t=0) (hl:bC s.lists t.list=true) (e:(pX (bC s.lists m.list) m t).1=0) :
  (pX (bC s.lists m.list) m t).2.id=t.id∧aT (pX (bC s.lists m.list) m t).2=0∧bC s.lists (pX (bC s.lists m.list) m t).2.list=true:=by
 obtain⟨_,hc,_,_,ht,hx,hf,_⟩:=lU c
 obtain⟨f1,f2,f3,f4,f5,f6⟩:=cu f
 unfold pX at e ⊢
 by_cases h4:m.kind=4
 ·rw [if_pos h4] at e ⊢
  exact⟨rfl,gG (hx (by rw [h4];decide) (by rw [h4];decide)) f2 f3 f4 f5 f6,hl⟩
 rw [if_neg h4] at e ⊢
 by_cases h5:m.kind=5
 ·rw [if_pos h5] at e ⊢
  exact⟨rfl,gG f1 f2 f3 f4 f5 f6,hl⟩
 rw [if_neg h5] at e ⊢
 by_cases h6:m.kind=6
 ·rw [if_pos h6] at e ⊢
  have hh:bC s.lists m.list=true:=by
   cases q:bC s.lists m.list with
   | true=>rfl
   | false=>rw [q] at e;simp at e
  exact⟨rfl,gG f1 (hf (by rw [h6];decide) (by rw [h6];decide)) hc f4 f5 f6,hh⟩
 rw [if_neg h6] at e ⊢
 by_cases h7:m.kind=7
 ·rw [if_pos h7] at e ⊢
  exact⟨rfl,gG f1 (hf (by rw [h7];decide) (by rw [h7];decide)) hc f4 f5 f6,hl⟩
 rw [if_neg h7] at e ⊢
 by_cases h8:m.kind=8
 ·rw [if_pos h8] at e ⊢
  exact⟨rfl,gG f1 f2 f3 hc f5 f6,hl⟩
 rw [if_neg h8] at e ⊢
 have kt:sw m.kind=true:=decide_eq_true (by omega)
 obtain⟨g1,g2⟩:=EG ht kt f5 f6 e
 exact⟨rfl,gG f1 f2 f3 f4 g1 g2,hl⟩
theorem Gx {s:St} {m:Mu} (h:aJ s=0) (c:bN m=0) (e:(eD s m).1=0):aJ (eD s m).2=0:=by
 obtain⟨h1,h2,h3,h4⟩:=aF h
 obtain⟨l1,l2⟩:=iM.1 h3
 obtain⟨t1,t2⟩:=cz.1 h4
 obtain⟨hk,hc,hlist,hidz,ht,hx,hf,_⟩:=lU c
 unfold eD at e ⊢
 by_cases k1:m.kind=1
 ·rw [if_pos k1] at e ⊢
  by_cases a1:bC s.lists m.id=true
  ·rw [if_pos a1] at e;cases e
  rw [if_neg a1] at e ⊢
  by_cases a2:20≤s.lists.length
  ·rw [if_pos a2] at e;cases e
  rw [if_neg a2] at e ⊢
  refine jw (Nat.le_trans (Sr.nZ _ _) (by omega)) h2 (iM.2 ⟨fun l hl=>?_,Sr.qX woL l2⟩) (cz.2 ⟨fun t ht=>⟨(t1 t ht).1,(t1 t ht).2.1,Eb (t1 t ht).2.2⟩,t2⟩)
  rcases Sr.kU hl with rfl | q
  ·exact⟨Nat.pos_of_ne_zero (hidz (by rw [k1];decide)),hx (by rw [k1];decide) (by rw [k1];decide)⟩
  ·exact l1 l q
 rw [if_neg k1] at e ⊢
 by_cases k2:m.kind=2
 ·rw [if_pos k2] at e ⊢
  by_cases a1:bC s.lists m.id=false
  ·rw [if_pos a1] at e;cases e
  rw [if_neg a1] at e ⊢
  refine jw (Nat.le_trans (List.length_filter_le _ _) h1) (Nat.le_trans EM h2) (iM.2 ⟨fun l hl=>l1 l (List.mem_filter.1 hl).1,List.Pairwise.filter _ l2⟩) (cz.2 ⟨fun t ht=>?_,zG t2 _ _ _⟩)
  obtain⟨q1,q2,q3⟩:=zK.1 ht
  refine⟨(t1 t q1).1,(t1 t q1).2.1,?_⟩
  obtain⟨l,hl,el⟩:=lG.1 (t1 t q1).2.2
  refine lG.2 ⟨l,List.mem_filter.2 ⟨hl,?_⟩,el⟩
  have:l.id≠m.id:=fun z=>q3 ⟨hidz (by rw [k2];decide),by rw [← el,z],.inr rfl⟩
  simp [this]
 rw [if_neg k2] at e ⊢
 by_cases k12:m.kind=12
 ·rw [if_pos k12] at e ⊢
  by_cases a1:bC s.lists m.list=false
  ·rw [if_pos a1] at e;cases e
  rw [if_neg a1] at e ⊢
  exact jw h1 (Nat.le_trans EM h2) h3 (cz.2 ⟨fun t ht=>t1 t (zK.1 ht).1,zG t2 _ _ _⟩)
 rw [if_neg k12] at e ⊢
 by_cases k13:m.kind=13
 ·rw [if_pos k13] at e ⊢
  by_cases a1:bC s.lists m.list=false
  ·rw [if_pos a1] at e;cases e
  rw [if_neg a1] at e ⊢
  refine zC h ?_
  exact Nat.le_trans (Sr.dD _) (Nat.le_trans (List.length_filter_le _ _) h2)
 rw [if_neg k13] at e ⊢
 by_cases k3:m.kind=3
 ·rw [if_pos k3] at e ⊢
  by_cases a1:eB s.tasks m.id=true
  ·rw [if_pos a1] at e;cases e
  rw [if_neg a1] at e ⊢
  by_cases a2:bC s.lists m.list=false
  ·rw [if_pos a2] at e;cases e
  rw [if_neg a2] at e ⊢
  by_cases a3:60≤s.tasks.length
  ·rw [if_pos a3] at e;cases e
  rw [if_neg a3] at e ⊢
  refine jw h1 (Nat.le_trans (Sr.nZ _ _) (by omega)) h3 (cz.2 ⟨fun t ht=>?_,Sr.qX woK t2⟩)
  rcases Sr.kU ht with rfl | q
  ·exact⟨Nat.pos_of_ne_zero (hidz (by rw [k3];decide)),gG (hx (by rw [k3];decide) (by rw [k3];decide)) (hf (by rw [k3];decide) (by rw [k3];decide)) hc nan_ok (Nat.zero_le _) rfl,(by cases z:bC s.lists m.list with | true=>rfl | false=>exact absurd z a2:bC s.lists m.list=true)⟩
  ·exact t1 t q
 rw [if_neg k3] at e ⊢
 by_cases a1:eB s.tasks m.id=false
 ·rw [if_pos a1] at e;cases e
 rw [if_neg a1] at e ⊢
 have a1':eB s.tasks m.id=true:=by simpa using a1
 by_cases k11:m.kind=11
 ·rw [if_pos k11] at e ⊢
  exact jw h1 (Nat.le_trans EM h2) h3 (cz.2 ⟨fun t ht=>t1 t (zK.1 ht).1,zG t2 _ _ _⟩)
 rw [if_neg k11] at e ⊢
 obtain⟨q1,q2,_⟩:=lF a1'
 obtain⟨g1,g2,g3⟩:=Gp (s:=s) c (by omega) (t1 _ q1).2.1 (t1 _ q1).2.2 e
 refine jw h1 (Nat.le_trans (Sr.nZ _ _) (by have:=wo_less a1';omega)) h3 (cz.2 ⟨fun t ht=>?_,Sr.qX woK (zG t2 _ _ _)⟩)
 rcases Sr.kU ht with rfl | q
 ·exact⟨by rw [g1,q2];exact Nat.pos_of_ne_zero (hidz (decide_eq_true (by omega))),g2,g3⟩
 ·exact t1 t (zK.1 q).1
end T9
end
end
section
section
open Go.RowKit Go.Lib
namespace T9
structure St.nC (s:St):Prop where
 nl:s.lists.length≤25
 nt:s.tasks.length≤70
 name:∀ l∈s.lists,l.name.length≤100
 title:∀ t∈s.tasks,t.title.length≤100
 few:∀ t∈s.tasks,t.tags.length≤8
 tag:∀ t∈s.tasks,∀ x∈t.tags,x.length≤100
theorem St.nC.short {s:St} (h:s.nC):s.short:=⟨fun l hl=>by have:=h.name l hl;omega,fun t ht=>⟨by have:=h.title t ht;omega,fun x hx=>by have:=h.tag t ht x hx;omega,by have:=h.few t ht;omega⟩,by have:=h.nl;omega,by have:=h.nt;omega⟩
end T9
end
section
section
open Go.RowKit Go.Lib
def I7 (ts:List (List UInt8)) (w:World) (e:Ending) (w':World):Prop:=∃ b,e=.returned (.bool b)∧(b=true→ts.length≤8∧∀ x∈ts,x.length≤100)∧w=w'
def IX (s:T9.St) (w:World) (e:Ending) (w':World):Prop:=∃ b,e=.returned (.bool b)∧(b=true→s.nC)∧Below w.heap.size w w'
theorem Ms {A:Option Addr} {n c:Nat} {ts:List (List UInt8)} {w:World} (h:GL w A ts) (hn:n=ts.length) (hs:n≤maxLen) :
  Calls prog 23 #[.slice A n c] w (I7 ts w):=by
 have H:=hid h
 have HN:=hid hn
 have hs:n≤9223372036854775807:=by unfold maxLen at hs;omega
 clear h hn
 go_enter func23,ntmps23
 go_wp2
 go_loopw [7] (fun s7 wr=>∃ i:Nat,s7=.int .i64 i∧i≤n∧Hid (∀ x∈ts.take i,x.length≤100)∧w=wr) (fun s7 _=>n - (intOf s7).toNat)
 case atStart=>exact⟨0,rfl,Nat.zero_le _,hid (by simp),rfl⟩
 case round =>
  obtain⟨i,rfl,hi,HU,rfl⟩:=hrel
  by_cases hlt:i<n
  ·have hltz:(i:Int)<(n:Int):=by omega
   obtain⟨ad,x,hA,hx,hc⟩:=H.out.at_ (k:=i) (by rw [← HN.out];exact hlt)
   subst hA
   have X:=hid hx
   have sz:(str x).size=x.length:=rfl
   clear hx
   by_cases hl:100<x.length
   ·have hlz:(100:Int)<((str x).size:Int):=by rw [sz];omega
    clear sz
    go_wp2
    go_ret
    exact⟨false,rfl,by simp,rfl⟩
   ·have hlz:¬ ((100:Int)<((str x).size:Int)):=by rw [sz];omega
    have U:Hid (∀ y∈ts.take (i+1),y.length≤100):=hid fun y hy=>by
     rw [bH X.out] at hy
     rcases List.mem_append.1 hy with q | q
     ·exact HU.out y q
     ·simp at q;subst q;omega
    clear sz
    go_wp2
    go_roundw
    case rel=>exact⟨i+1,by go_num,by omega,U,by simp⟩
    case measure=>simp [intOf];omega
  ·obtain rfl:i=n:=by omega
   have hltz:¬ ((i:Int)<(i:Int)):=by omega
   have U:=hid HU.out
   by_cases h8:i≤8
   ·have hz:(i:Int)≤8:=by omega
    go_wp2
    go_ret
    exact⟨true,aI (by simp),fun _=>⟨by rw [← HN.out];exact h8,by have:=U.out;rwa [HN.out,List.take_length] at this⟩,rfl⟩
   ·have hz:¬ ((i:Int)≤8):=by omega
    go_wp2
    go_ret
    exact⟨false,aI (by simp),by simp,rfl⟩
theorem uY {A A2:Option Addr} {n1 n2 c c2:Nat} {ls:List T9.Li} {ms:List aN} {w:World} (hl:LL w A ls) (hk:KL w A2 ms) (e1:n1=ls.length) (e2:n2=ms.length) (hs:∀ m∈ms,m.t.tags.length≤maxLen) :
  Calls prog 7 #[.agg #[.slice A n1 c,.slice A2 n2 c2]] w (IX ⟨ls,ay ms⟩ w):=by
 have E1:=hid e1
 have E2:=hid e2
 have HS:=hid hs
 obtain⟨w1,hw1⟩:=nm (w.alloc (.cells #[.slice A n1 c,.slice A2 n2 c2] 26))
 obtain⟨pb,b1,z1⟩:=aj hw1
 have PB:=hid pb
 have B1:=hid b1
 have HL:=hid (hl.stay b1)
 have HK:=hid (hk.stay b1)
 have Z1:=hid z1
 obtain⟨p0,p1⟩:=aa pb
 clear hl hk e1 e2 hs pb b1 z1
 by_cases hm1:25<n1
 ·have hmz:(25:Int)<(n1:Int):=by omega
  go_enter func7,ntmps7
  go_wp2
  go_ret
  exact⟨false,rfl,by simp,B1.out⟩
 have hmz:¬ ((25:Int)<(n1:Int)):=by omega
 by_cases hm2:70<n2
 ·have J7:(70:Int)<(n2:Int):=by omega
  go_enter func7,ntmps7
  go_wp2
  go_ret
  exact⟨false,rfl,by simp,B1.out⟩
 have J7:¬ ((70:Int)<(n2:Int)):=by omega
 have m1:n1≤25:=by omega
 have m2:n2≤70:=by omega
 clear hm1 hm2
 go_enter func7,ntmps7
 go_wp2
 go_loopw [20] (fun s20 wr=>∃ i:Nat,s20=.int .i64 i∧i≤n1∧Hid (∀ l∈ls.take i,l.name.length≤100)∧Aside (Below w1.heap.size w1 wr)) (fun s20 _=>n1 - (intOf s20).toNat)
 case atStart=>exact⟨0,rfl,Nat.zero_le _,hid (by simp),Below.refl _ _⟩
 case round =>
  obtain⟨i,rfl,hi,HU,hB⟩:=hrel
  have BR:=hid hB.out
  clear hB
  by_cases hlt:i<n1
  ·have hltz:(i:Int)<(n1:Int):=by omega
   obtain⟨ad,l,hA,hx,q0,q1⟩:=(HL.out.stay BR.out).at_ (k:=i) (by have:=E1.out;omega)
   subst hA
   have X:=hid hx
   obtain⟨w2,hw2⟩:=nm (wr.alloc (.cells #[.int .u64 (l.id:Int),.string (str l.name)] 61))
   obtain⟨lb,b2,z2⟩:=aj hw2
   have B2:Hid (Below w1.heap.size w1 w2):=hid (BR.out.trans (b2.mono BR.out.size))
   obtain⟨l0,l1⟩:=aa lb
   have sz:(str l.name).size=l.name.length:=rfl
   clear hx lb b2 z2
   by_cases hl:100<l.name.length
   ·have hlz:(100:Int)<((str l.name).size:Int):=by rw [sz];omega
    clear sz
    go_wp2
    go_ret
    exact⟨false,rfl,by simp,B1.out.trans (B2.out.mono B1.out.size)⟩
   ·have hlz:¬ ((100:Int)<((str l.name).size:Int)):=by rw [sz];omega
    have U:Hid (∀ y∈ls.take (i+1),y.name.length≤100):=hid fun y hy=>by
     rw [bH X.out] at hy
     rcases List.mem_append.1 hy with q | q
     ·exact HU.out y q
     ·simp at q;subst q;omega
    clear sz
    go_wp2
    go_roundw
    case rel=>exact⟨i+1,by go_num,by omega,U,B2.out⟩
    case measure=>simp [intOf];omega
  ·obtain rfl:i=n1:=by omega
   have hltz:¬ ((i:Int)<(i:Int)):=by omega
   have UL1:Hid (∀ l∈ls,l.name.length≤100):=hid (by have:=HU.out;rwa [E1.out,List.take_length] at this)
   have pbr:=(BR.out.block w.heap.size (by have:=Z1.out;omega)).trans PB.out
   obtain⟨s0,s1⟩:=aa pbr
   have HK2:=hid (HK.out.stay BR.out)
   have B0:=hid (B1.out.trans (BR.out.mono B1.out.size))
   obtain⟨wo,hwo⟩:∃ u,u=wr:=⟨_,rfl⟩
   subst hwo
   clear p0 p1 pbr
   go_wp2
   go_loopw [32] (fun s32 wr=>∃ j:Nat,s32=.int .i64 j∧j≤n2∧Hid (∀ m∈ms.take j,m.t.title.length≤100∧m.t.tags.length≤8∧∀ x∈m.t.tags,x.length≤100)∧Aside (Below wo.heap.size wo wr)) (fun s32 _=>n2 - (intOf s32).toNat)
   case atStart=>exact⟨0,rfl,Nat.zero_le _,hid (by simp),Below.refl _ _⟩
   case round =>
    obtain⟨j,rfl,hj,HV,hB⟩:=hrel
    have CR:=hid hB.out
    clear hB
    by_cases hlt2:j<n2
    ·have uP:(j:Int)<(n2:Int):=by omega
     obtain⟨ad2,⟨tk,A3,c3⟩,hA,hx,hf,r0,r1,r2,r3,r4,r5,r6⟩:=(HK2.out.stay CR.out).at_ (k:=j) (by have:=E2.out;omega)
     subst hA
     have X:=hid hx
     have FI:=hid hf
     dsimp only at r0 r1 r2 r3 r4 r5 r6
     obtain⟨w3,hw3⟩:=nm (wr.alloc (.cells #[.int .u64 (tk.id:Int),.int .u64 (tk.list:Int),.string (str tk.title),.bool tk.done,.float .f64 tk.rank,.float .f64 tk.est,.slice A3 tk.tags.length c3] 64))
     obtain⟨tb,b3,z3⟩:=bf hw3
     have B3:Hid (Below wo.heap.size wo w3):=hid (CR.out.trans (b3.mono CR.out.size))
     have TX:=hid (Ms (c:=c3) (FI.out.stay b3).gl rfl (HS.out _ (List.mem_of_getElem? X.out)))
     obtain⟨t0,t1,t2,t3,t4,t5,t6⟩:=ak tb
     have sz:(str tk.title).size=tk.title.length:=rfl
     clear hx hf tb b3 z3
     by_cases hl:100<tk.title.length
     ·have hlz:(100:Int)<((str tk.title).size:Int):=by rw [sz];omega
      clear sz
      go_wp2
      go_ret
      exact⟨false,rfl,by simp,B0.out.trans (B3.out.mono B0.out.size)⟩
     ·have hlz:¬ ((100:Int)<((str tk.title).size:Int)):=by rw [sz];omega
      clear sz
      go_wp2_with fail
      refine TX.out.mono ?_
      rintro e w4 ⟨b,rfl,hb,rfl⟩
      cases b with
      | false =>
       go_wp2
       go_ret
       exact⟨false,rfl,by simp,B0.out.trans (B3.out.mono B0.out.size)⟩
      | true =>
       have HB:=hb rfl
       have U:Hid (∀ m∈ms.take (j+1),m.t.title.length≤100∧m.t.tags.length≤8∧∀ x∈m.t.tags,x.length≤100):=hid fun y hy=>by
        rw [bH X.out] at hy
        rcases List.mem_append.1 hy with q | q
        ·exact HV.out y q
        ·simp only [List.mem_cons,List.not_mem_nil,or_false] at q
         subst q
         exact⟨by show tk.title.length≤100;omega,HB⟩
       clear hb HB
       go_wp2
       go_roundw
       case rel=>exact⟨j+1,by go_num,by omega,U,B3.out⟩
       case measure=>simp [intOf];omega
    ·obtain rfl:j=n2:=by omega
     have uP:¬ ((j:Int)<(j:Int)):=by omega
     have UV:Hid (∀ m∈ms,m.t.title.length≤100∧m.t.tags.length≤8∧∀ x∈m.t.tags,x.length≤100):=hid (by have:=HV.out;rwa [E2.out,List.take_length] at this)
     go_wp2
     go_ret
     refine⟨true,rfl,fun _=>?_,B0.out.trans (CR.out.mono B0.out.size)⟩
     have each:∀ t∈ay ms,t.title.length≤100∧t.tags.length≤8∧∀ x∈t.tags,x.length≤100:=fun t ht=>by
      obtain⟨m,hm,rfl⟩:=List.mem_map.1 ht
      exact UV.out m hm
     exact⟨by have:=E1.out;show ls.length≤25;omega,by have:=E2.out;show (ay ms).length≤70;rw [aK];omega,UL1.out,fun t ht=>(each t ht).1,fun t ht=>(each t ht).2.1,fun t ht=>(each t ht).2.2⟩
end
section
open Go.RowKit Go.Lib
@[go_sem] theorem buildK9a (w : World) : (Instr.build 64 #[(0, .int .u64 1), (1, .int .u64 2), (2, .string ⟨#[116]⟩)]).run prog w = .ok (.agg #[.int .u64 1, .int .u64 2, .string ⟨#[116]⟩, .bool false, .float .f64 0, .float .f64 0, .slice none 0 0]) w := run_build w 64 _ _ (by kernel_rfl)
@[go_sem] theorem buildS9a (A : Option Addr) (n c : Nat) (w : World) : (Instr.build 26 #[(1, .slice A n c)]).run prog w = .ok (.agg #[.slice none 0 0, .slice A n c]) w := run_build w 26 _ _ (by kernel_rfl)
@[go_sem] theorem buildS9b (w : World) : (Instr.build 26 #[]).run prog w = .ok (.agg #[.slice none 0 0, .slice none 0 0]) w := run_build w 26 _ _ (by kernel_rfl)
end
end
section
open Go.RowKit Go.Lib Go.Sort
theorem F7 {l:T9.Li}:(.agg (a_ l).toArray:Value)=.agg #[.int .u64 (l.id:Int),.string (str l.name)]:=rfl
structure SBox (m:aQ) (g:Nat) (w:World):Prop where
 b:w.heap[g]?=some (.cells #[.slice m.A m.ls.length m.c,.slice m.A2 m.ms.length m.c2] 26 (0,0))
 s:SM m w
theorem SBox.cells {m:aQ} {g:Nat} {w:World} (h:SBox m g w):w.cell? ⟨g,0,none⟩=some (.slice m.A m.ls.length m.c)∧w.cell? ⟨g,1,none⟩=some (.slice m.A2 m.ms.length m.c2):=aa h.b
def aQ.far (m:aQ):Prop:=∀ t∈m.ms,t.t.tags.length≤maxLen
end
end
section
open Go.ChangeShapes Go.WideShapes Go.ChangeAt Go.RowKit Go.Deep
theorem ou (s:ByteArray):str s.data.toList=s:=by
 obtain⟨d⟩:=s
 simp [str]
section
variable {H : Type} {enc : TypeId × Value → H} {w : World} {base : Nat}
theorem Tryz.twoLi9:prog.cellsOf 61=2:=by kernel_rfl
theorem Tryz.sevenTk9:prog.cellsOf 64=7:=by kernel_rfl
theorem Tryz.twoSt9:prog.cellsOf 26=2:=by kernel_rfl
theorem Tryz.one9s:prog.cellsOf 9=1:=by kernel_rfl
theorem Tryz.one9b:prog.cellsOf 4=1:=by kernel_rfl
theorem Tryz.one9f:prog.cellsOf 55=1:=by kernel_rfl
theorem Tryz.one9g:prog.cellsOf 62=1:=by kernel_rfl
theorem Tryz.one9l:prog.cellsOf 23=1:=by kernel_rfl
theorem Tryz.one9k:prog.cellsOf 24=1:=by kernel_rfl
theorem nS {P:Program} {b0:Nat} {spare:Nat→Bool} {held:Bool} {fuel:Nat} {t:TypeId} {k:FloatKind} {cs:List Value} {x:DataW H × List MemPlace} (ht:P.underlying t=some (.float k)) (h:DataW.trod enc P w b0 spare held fuel t cs=some x):∃ n,cs=[.float k n]∧x=(.lit (.float k n),[])∧(Lit.float k n).wf=true:=by
 cases fuel with
 | zero=>simp [DataW.trod] at h
 | succ n =>
  unfold DataW.trod at h
  rw [ht] at h
  split at h <;> simp_all
theorem Mv {b:Nat} (h:(Lit.float .f64 b).wf=true):b<18446744073709551616:=of_decide_eq_true h
theorem Gz (ts:List (List UInt8)):(ts.flatMap fun x=>[encS x])=aC ts:=by
 induction ts with
 | nil=>rfl
 | cons t ts ih=>rw [List.flatMap_cons,ih];rfl
theorem Ad {fuel:Nat} {v:Value} {x:DataW H × List MemPlace} (hf:DataW.trod enc prog w 0 (fun _=>true) true fuel 62 [v]=some x) :
  ∃ (A:Option Addr) (c:Nat) (ts:List (List UInt8)),v=.slice A ts.length c∧ts.length≤c∧c≤maxLen∧GL w A ts:=by
 rcases open_slice underlying62 hf with⟨hcs,_⟩ | ⟨a,len,cap,m,n,D,Pl,hcs,_,hl,hm,hmm,_,hi⟩
 ·simp at hcs
  subst hcs
  exact⟨none,0,[],rfl,Nat.le_refl _,Nat.zero_le _,GL.nil⟩
 ·simp at hcs
  subst hcs
  simp only [if_true] at hmm
  subst hmm
  rw [Tryz.one9s] at hi
  obtain⟨ts,h1,h2,_⟩:=l8 (w:=w) (E:=fun x=>[encS x]) (k:=1) (by omega) (fun _=>rfl) (p:=fun _=>True) (a:=a) (len:=len) (fun i hlt=>by
   obtain⟨cs',hc,ht⟩:=hi i (by omega)
   obtain⟨hsz,hcl,hat⟩:=World.cells?_some hc
   obtain⟨sb,e0,_,w0⟩:=DataW.trod_string underlying9 ht
   subst e0
   refine⟨sb.data.toList,fun j u hu=>?_,trivial⟩
   have hj:j<1:=by
    rcases Nat.lt_or_ge j 1 with z | z
    ·exact z
    ·rw [List.getElem?_eq_none (by simpa using z)] at hu;cases hu
   obtain rfl:j=0:=by omega
   have q:=hat 0 (by omega)
   rw [addr_add] at q
   rw [q]
   simp only [List.getElem?_cons_zero,Option.some.injEq] at hu ⊢
   rw [← hu]
   show _=Value.string (str sb.data.toList)
   rw [ou])
  rw [Gz] at h2
  exact⟨some a,m,ts,by rw [h1],by omega,hm,h2⟩
theorem Ab {fuel:Nat} {cs:List Value} {x:DataW H × List MemPlace} (h:DataW.trod enc prog w 0 (fun _=>true) true fuel 61 cs=some x) :
  ∃ l:T9.Li,cs=a_ l∧l.ok:=by
 obtain⟨xs,n,_,_,hlen,hxl,hf⟩:=DataW.trod_struct underlying61 h
 rw [Tryz.twoLi9] at hlen
 match cs,hlen with
 | [c0,c1],_ =>
  match xs,hxl with
  | [y0,y1],_ =>
   have h0:DataW.trod enc prog w 0 (fun _=>true) true n 22 (([c0,c1].drop 0).take (prog.cellsOf 22))=some y0:=hf 0 _ rfl
   rw [Tryz.one9u] at h0
   have h1:DataW.trod enc prog w 0 (fun _=>true) true n 9 (([c0,c1].drop 1).take (prog.cellsOf 9))=some y1:=hf 1 _ rfl
   rw [Tryz.one9s] at h1
   obtain⟨k,e0,_,w0⟩:=DataW.trod_int underlying22 (h0:DataW.trod enc prog w 0 (fun _=>true) true n 22 [c0]=some y0)
   obtain⟨sb,e1,_,_⟩:=DataW.trod_string underlying9 (h1:DataW.trod enc prog w 0 (fun _=>true) true n 9 [c1]=some y1)
   have b:=wf_u64 w0
   obtain⟨i,hi⟩:=Int.eq_ofNat_of_zero_le b.1
   have g0:c0=_:=List.head_eq_of_cons_eq e0
   have g1:c1=.string (str sb.data.toList):=(List.head_eq_of_cons_eq e1).trans (by rw [ou])
   subst g0;subst g1;subst hi
   exact⟨⟨i,sb.data.toList⟩,rfl,by show i<_;omega⟩
theorem Ae {fuel:Nat} {cs:List Value} {x:DataW H × List MemPlace} (h:DataW.trod enc prog w 0 (fun _=>true) true fuel 64 cs=some x) :
  ∃ m:aN,cs=aA m∧m.t.ok∧m.fine w∧m.t.tags.length≤maxLen:=by
 obtain⟨xs,n,_,_,hlen,hxl,hf⟩:=DataW.trod_struct underlying64 h
 rw [Tryz.sevenTk9] at hlen
 match cs,hlen with
 | [c0,c1,c2,c3,c4,c5,c6],_ =>
  match xs,hxl with
  | [y0,y1,y2,y3,y4,y5,y6],_ =>
   have h0:DataW.trod enc prog w 0 (fun _=>true) true n 22 (([c0,c1,c2,c3,c4,c5,c6].drop 0).take (prog.cellsOf 22))=some y0:=hf 0 _ rfl
   rw [Tryz.one9u] at h0
   have h1:DataW.trod enc prog w 0 (fun _=>true) true n 22 (([c0,c1,c2,c3,c4,c5,c6].drop 1).take (prog.cellsOf 22))=some y1:=hf 1 _ rfl
   rw [Tryz.one9u] at h1
   have h2:DataW.trod enc prog w 0 (fun _=>true) true n 9 (([c0,c1,c2,c3,c4,c5,c6].drop 2).take (prog.cellsOf 9))=some y2:=hf 2 _ rfl
   rw [Tryz.one9s] at h2
   have h3:DataW.trod enc prog w 0 (fun _=>true) true n 4 (([c0,c1,c2,c3,c4,c5,c6].drop 3).take (prog.cellsOf 4))=some y3:=hf 3 _ rfl
   rw [Tryz.one9b] at h3
   have h4:DataW.trod enc prog w 0 (fun _=>true) true n 55 (([c0,c1,c2,c3,c4,c5,c6].drop 4).take (prog.cellsOf 55))=some y4:=hf 4 _ rfl
   rw [Tryz.one9f] at h4
   have h5:DataW.trod enc prog w 0 (fun _=>true) true n 55 (([c0,c1,c2,c3,c4,c5,c6].drop 5).take (prog.cellsOf 55))=some y5:=hf 5 _ rfl
   rw [Tryz.one9f] at h5
   have h6:DataW.trod enc prog w 0 (fun _=>true) true n 62 (([c0,c1,c2,c3,c4,c5,c6].drop 6).take (prog.cellsOf 62))=some y6:=hf 6 _ rfl
   rw [Tryz.one9g] at h6
   obtain⟨k0,e0,_,w0⟩:=DataW.trod_int underlying22 (h0:DataW.trod enc prog w 0 (fun _=>true) true n 22 [c0]=some y0)
   have g0:c0=_:=List.head_eq_of_cons_eq e0
   obtain⟨i0,q0⟩:=Int.eq_ofNat_of_zero_le (wf_u64 w0).1
   have b0:=(wf_u64 w0).2
   subst g0;subst q0
   obtain⟨k1,e1,_,w1⟩:=DataW.trod_int underlying22 (h1:DataW.trod enc prog w 0 (fun _=>true) true n 22 [c1]=some y1)
   have g1:c1=_:=List.head_eq_of_cons_eq e1
   obtain⟨i1,q1⟩:=Int.eq_ofNat_of_zero_le (wf_u64 w1).1
   have b1:=(wf_u64 w1).2
   subst g1;subst q1
   obtain⟨sb,e2,_,_⟩:=DataW.trod_string underlying9 (h2:DataW.trod enc prog w 0 (fun _=>true) true n 9 [c2]=some y2)
   have g2:c2=.string (str sb.data.toList):=(List.head_eq_of_cons_eq e2).trans (by rw [ou])
   subst g2
   obtain⟨i3,e3,_⟩:=DataW.trod_bool underlying4 (h3:DataW.trod enc prog w 0 (fun _=>true) true n 4 [c3]=some y3)
   have g3:c3=_:=List.head_eq_of_cons_eq e3
   subst g3
   obtain⟨i4,e4,_,w4⟩:=nS underlying55 (h4:DataW.trod enc prog w 0 (fun _=>true) true n 55 [c4]=some y4)
   have g4:c4=_:=List.head_eq_of_cons_eq e4
   have b4:=Mv w4
   subst g4
   obtain⟨i5,e5,_,w5⟩:=nS underlying55 (h5:DataW.trod enc prog w 0 (fun _=>true) true n 55 [c5]=some y5)
   have g5:c5=_:=List.head_eq_of_cons_eq e5
   have b5:=Mv w5
   subst g5
   obtain⟨A,c,ts,e6,hc,hm,hL⟩:=Ad (h6:DataW.trod enc prog w 0 (fun _=>true) true n 62 [c6]=some y6)
   subst e6
   exact⟨⟨⟨i0,i1,sb.data.toList,i3,i4,i5,ts⟩,A,c⟩,rfl,⟨by show i0<_;omega,by show i1<_;omega,b4,b5⟩,⟨hL,hc⟩,Nat.le_trans hc hm⟩
theorem yw {fuel:Nat} {v:Value} {x:DataW H × List MemPlace} (hf:DataW.trod enc prog w 0 (fun _=>true) true fuel 23 [v]=some x) :
  ∃ (A:Option Addr) (c:Nat) (ls:List (T9.Li)),v=.slice A ls.length c∧ls.length≤c∧au w w.heap.size 0 A (ls.flatMap a_)∧∀ q∈ls,q.ok:=by
 rcases open_slice underlying23 hf with⟨hcs,_⟩ | ⟨a,len,cap,m,n,D,Pl,hcs,_,hl,hm,hmm,_,hi⟩
 ·simp at hcs
  subst hcs
  exact⟨none,0,[],rfl,Nat.le_refl _,au.nil,by simp⟩
 ·simp at hcs
  subst hcs
  simp only [if_true] at hmm
  subst hmm
  rw [Tryz.twoLi9] at hi
  obtain⟨ls,h1,h2,h3⟩:=l8 (w:=w) (E:=a_) (k:=2) (by omega) (fun x=>fT x) (p:=fun q=>q.ok) (a:=a) (len:=len) (fun i hlt=>by
   obtain⟨cs',hc,ht⟩:=hi i (by omega)
   obtain⟨q,rfl,hok⟩:=Ab ht
   obtain⟨_,hcl,hat⟩:=World.cells?_some hc
   refine⟨q,fun j u hu=>?_,hok⟩
   have hj:j<2:=by
    rcases Nat.lt_or_ge j (a_ q).length with z | z
    ·exact z
    ·rw [List.getElem?_eq_none z] at hu;cases hu
   have:=hat j hj
   rw [addr_add] at this
   rw [this];exact hu)
  exact⟨some a,m,ls,by rw [h1],by omega,h2,h3⟩
theorem yz {fuel:Nat} {v:Value} {x:DataW H × List MemPlace} (hf:DataW.trod enc prog w 0 (fun _=>true) true fuel 24 [v]=some x) :
  ∃ (A:Option Addr) (c:Nat) (ls:List (aN)),v=.slice A ls.length c∧ls.length≤c∧au w w.heap.size 0 A (ls.flatMap aA)∧∀ q∈ls,q.t.ok∧q.fine w∧q.t.tags.length≤maxLen:=by
 rcases open_slice underlying24 hf with⟨hcs,_⟩ | ⟨a,len,cap,m,n,D,Pl,hcs,_,hl,hm,hmm,_,hi⟩
 ·simp at hcs
  subst hcs
  exact⟨none,0,[],rfl,Nat.le_refl _,au.nil,by simp⟩
 ·simp at hcs
  subst hcs
  simp only [if_true] at hmm
  subst hmm
  rw [Tryz.sevenTk9] at hi
  obtain⟨ls,h1,h2,h3⟩:=l8 (w:=w) (E:=aA) (k:=7) (by omega) (fun x=>aU x) (p:=fun q=>q.t.ok∧q.fine w∧q.t.tags.length≤maxLen) (a:=a) (len:=len) (fun i hlt=>by
   obtain⟨cs',hc,ht⟩:=hi i (by omega)
   obtain⟨q,rfl,hok⟩:=Ae ht
   obtain⟨_,hcl,hat⟩:=World.cells?_some hc
   refine⟨q,fun j u hu=>?_,hok⟩
   have hj:j<7:=by
    rcases Nat.lt_or_ge j (aA q).length with z | z
    ·exact z
    ·rw [List.getElem?_eq_none z] at hu;cases hu
   have:=hat j hj
   rw [addr_add] at this
   rw [this];exact hu)
  exact⟨some a,m,ls,by rw [h1],by omega,h2,h3⟩
theorem nI {v:Value} {d:DataW H} {ps:List MemPlace} (hval:Value.okWide prog w .any base 26 v) (h:DataW.Trod enc prog w 0 (fun _=>true) true 26 v d ps) :
  ∃ m:aQ,v=m.val∧SM m w∧m.st.ok∧m.far:=by
 obtain⟨cs,rfl,hsz⟩:=okWide_struct underlying26 hval
 rw [Tryz.twoSt9] at hsz
 obtain⟨c0,c1,rfl⟩:∃ c0 c1,cs=#[c0,c1]:=by
  obtain⟨l⟩:=cs
  match l,hsz with
  | [a,b],_=>exact⟨a,b,rfl⟩
 obtain⟨fuel,hf⟩:=h
 obtain⟨xs,n,_,_,_,hxl,hf2⟩:=DataW.trod_struct underlying26 hf
 match xs,hxl with
 | [y0,y1],_ =>
  have h0:DataW.trod enc prog w 0 (fun _=>true) true n 23 (((Value.agg #[c0,c1]).cells.toList.drop 0).take (prog.cellsOf 23))=some y0:=hf2 0 _ rfl
  have h1:DataW.trod enc prog w 0 (fun _=>true) true n 24 (((Value.agg #[c0,c1]).cells.toList.drop 1).take (prog.cellsOf 24))=some y1:=hf2 1 _ rfl
  rw [Tryz.one9l] at h0
  rw [Tryz.one9k] at h1
  obtain⟨A,c,ls,e0,hc,hL,hp⟩:=yw (v:=c0) h0
  obtain⟨A2,c2,ms,e1,hc2,hK,hq⟩:=yz (v:=c1) h1
  subst e0;subst e1
  refine⟨⟨ls,A,c,ms,A2,c2⟩,rfl,⟨hL,⟨hK,fun m hm=>(hq m hm).2.1⟩,hc,hc2⟩,⟨hp,fun t ht=>?_⟩,fun m hm=>(hq m hm).2.2⟩
  obtain⟨m,hm,rfl⟩:=List.mem_map.1 ht
  exact (hq m hm).1
end
end
section
open Go.ChangeShapes Go.WideShapes Go.ChangeAt Go.RowKit Go.Deep Go.Lib
def encMu (m:T9.Mu):List Value:=[.int .i64 m.kind,.int .u64 (m.id:Int),.int .u64 (m.list:Int),.string (str m.text),.float .f64 m.f,.bool m.flag]
def T9.Mu.val (m:T9.Mu):Value:=.agg #[.int .i64 m.kind,.int .u64 (m.id:Int),.int .u64 (m.list:Int),.string (str m.text),.float .f64 m.f,.bool m.flag]
theorem bn {w:World} {a b c d e f:Value} {t:TypeId} {u:World} (h:w.alloc (.cells #[a,b,c,d,e,f] t)=u):u.heap[w.heap.size]?=some (.cells #[a,b,c,d,e,f] t (0,0))∧Below w.heap.size w u∧u.heap.size=w.heap.size+1:=by
 rw [← h]
 exact⟨heap_alloc_new w _,(Below.refl _ w).alloc (Nat.le_refl _) _,by simp⟩
theorem ag {w:World} {p:Nat} {t:TypeId} {a b c d e f:Value} {fr:Nat × Nat} (h:w.heap[p]?=some (.cells #[a,b,c,d,e,f] t fr)):w.cell? ⟨p,0,none⟩=some a∧w.cell? ⟨p,1,none⟩=some b∧w.cell? ⟨p,2,none⟩=some c∧w.cell? ⟨p,3,none⟩=some d∧w.cell? ⟨p,4,none⟩=some e∧w.cell? ⟨p,5,none⟩=some f:=by
 simp [World.cell?,h]
def kP (m:T9.Mu) (g:Nat) (w:World):Prop:=w.heap[g]?=some (.cells #[.int .i64 m.kind,.int .u64 (m.id:Int),.int .u64 (m.list:Int),.string (str m.text),.float .f64 m.f,.bool m.flag] 57 (0,0))
theorem kP.stay {m:T9.Mu} {g:Nat} {w w':World} (h:kP m g w) (hb:Below w.heap.size w w'):kP m g w':=(hb.block g (lt_of_block h)).trans h
theorem Cn {l:List UInt8} (h:T9.title l=true):l.length≤60:=by
 unfold T9.title at h
 rw [Bool.and_eq_true,decide_eq_true_eq] at h
 exact h.1.2
theorem Mq {l:List UInt8} (h:T9.tag l=true):l.length≤16:=by
 unfold T9.tag at h
 rw [Bool.and_eq_true,decide_eq_true_eq] at h
 exact h.1.2
theorem BU {s:T9.St} (h:T9.aJ s=0):s.short:=by
 obtain⟨h1,h2,h3,h4⟩:=T9.aF h
 have l:=(T9.iM.1 h3).1
 have t:=(T9.cz.1 h4).1
 refine⟨fun x hx=>by have:=Cn (l x hx).2;omega,fun x hx=>?_,by omega,by omega⟩
 obtain⟨f1,_,_,_,f5,f6⟩:=T9.cu (t x hx).2.1
 exact⟨by have:=Cn f1;omega,fun y hy=>by have:=Mq (T9.pV f6 y hy);omega,by omega⟩
theorem Gj {s:T9.St} {m:T9.Mu} (h:(T9.bA s m).2=0):T9.aJ s=0∧T9.bN m=0∧(T9.eD s m).1=0∧(T9.bA s m).1=(T9.eD s m).2:=by
 unfold T9.bA at h ⊢
 by_cases a:T9.aJ s≠0
 ·rw [if_pos a] at h;exact absurd h a
 rw [if_neg a] at h ⊢
 by_cases b:T9.bN m≠0
 ·rw [if_pos b] at h;exact absurd h b
 rw [if_neg b] at h ⊢
 by_cases c:(T9.eD s m).1≠0
 ·rw [if_pos c] at h;exact absurd h c
 rw [if_neg c]
 exact⟨by omega,by omega,by omega,rfl⟩
theorem Dc {s:T9.St} {m:T9.Mu} (h:(T9.bA s m).2≠0):(T9.bA s m).1=⟨[],[]⟩:=by
 unfold T9.bA at h ⊢
 split
 ·rfl
 ·split
  ·rfl
  ·split
   ·rfl
   ·rename_i a b c
    rw [if_neg a,if_neg b,if_neg c] at h
    exact absurd rfl h
theorem Tryz.one11i:prog.cellsOf 3=1:=by kernel_rfl
section
variable {H : Type} {enc : TypeId × Value → H} {w : World} {base : Nat}
end
end
section
open Go.Shelf Go.RowKit Go.Lib Go.Sort
def B_ (n:Nat):Nat:=n % 18446744073709551616
theorem LJ (n:Nat):B_ n<18446744073709551616:=Nat.mod_lt _ (by decide)
theorem rkw_id {n:Nat} (h:n<18446744073709551616):B_ n=n:=Nat.mod_eq_of_lt h
def rkM (m:aN):aN:=⟨{ m.t with rank:=B_ m.t.rank },m.A,m.c⟩
theorem rkM_id {m:aN} (h:m.t.rank<18446744073709551616):rkM m=m:=by
 unfold rkM
 rw [rkw_id h]
def encR (m:aN):List Value:=aA (rkM m)
theorem JN (m:aN):(encR m).length=7:=rfl
theorem JO (m:aN):∀ v∈encR m,v.oneCell'=true:=dL _
def Jr (x y:aN):Int:=if Fl.lt (B_ x.t.rank) (B_ y.t.rank)=true then -1 else if Fl.lt (B_ y.t.rank) (B_ x.t.rank)=true then 1 else iD x.t.id y.t.id
theorem Lf (n:Nat):Fl.pl (B_ n)=Fl.pl n:=by
 have h1:B_ n % Fl.two63=n % Fl.two63:=by unfold B_;rw [Fl.kM];omega
 have h2:B_ n / Fl.two63 % 2=n / Fl.two63 % 2:=by unfold B_;rw [Fl.kM];omega
 have e:Fl.dz (B_ n)=Fl.dz n:=by unfold Fl.dz;rw [h1]
 unfold Fl.pl
 rw [e]
 unfold Fl.sv
 rw [h1,h2]
theorem Ku (a b:Nat):Fl.lt (B_ a) (B_ b)=Fl.lt a b:=by
 rw [Bool.eq_iff_iff,Fl.tY,Fl.tY,Lf,Lf]
theorem Ee:ltOf Jr=fun x y=>T9.lM x.t y.t:=by
 funext x y
 show decide (Jr x y<0)=T9.lM x.t y.t
 unfold Jr T9.lM
 rw [Ku,Ku]
 cases h:Fl.lt x.t.rank y.t.rank
 ·cases k:Fl.lt y.t.rank x.t.rank
  ·rw [if_neg (by decide),if_neg (by decide),uF];simp
  ·rw [if_neg (by decide),if_pos rfl];rfl
 ·rw [if_pos rfl];rfl
theorem woRM:Sr.WO (ltOf Jr):=by
 rw [Ee]
 exact⟨fun a=>T9.Iu.irr _,fun a b c=>T9.Iu.tr _ _ _,fun a b c=>T9.Iu.ng _ _ _⟩
theorem cmpR_w (x y:aN) (W:World) :
  Calls prog 161 #[.agg (encR x).toArray,.agg (encR y).toArray] W fun e w'=>e=.returned (.int .i64 (Jr x y))∧∃ q os',w'=grow (W.drewN q) os':=by
 obtain⟨wB,jf⟩:=nm ((W.alloc (.cells (encR x).toArray 64)).alloc (.cells (encR y).toArray 64))
 have GB:Hid (∀ q os,grow (wB.drewN q) os=grow (W.drewN q) (#[.cells (encR x).toArray 64,.cells (encR y).toArray 64]++os)):=hid fun q os=>by rw [← jf];exact mW W _ _ q os
 have kx:wB.heap[W.heap.size]?=some (.cells (encR x).toArray 64 (0,0)):=by rw [← jf];exact bu (heap_alloc_new W _) _
 have ky:wB.heap[W.heap.size+1]?=some (.cells (encR y).toArray 64 (0,0)):=by
  rw [← jf]
  have:=heap_alloc_new (W.alloc (.cells (encR x).toArray 64)) (.cells (encR y).toArray 64)
  rwa [World.size_alloc] at this
 have rx:=LJ x.t.rank
 have ry:=LJ y.t.rank
 unfold encR aA rkM at kx ky jf ⊢
 dsimp only at kx ky jf ⊢
 unfold Jr
 generalize B_ x.t.rank=a at *
 generalize B_ y.t.rank=b at *
 obtain⟨x0,x1,x2,x3,x4,x5,x6⟩:=ak kx
 obtain⟨y0,y1,y2,y3,y4,y5,y6⟩:=ak ky
 clear kx ky
 have FIN:Hid (∃ q os',wB=grow (W.drewN q) os'):=hid ⟨0,_,(show wB=grow (wB.drewN 0) #[] by rw [drewN_zero,grow_empty]).trans (GB.out 0 #[])⟩
 cases h:Fl.lt a b
 ·cases k:Fl.lt b a
  ·rw [if_neg (by decide),if_neg (by decide)]
   go_enter func161,ntmps161
   go_wp2_with (first | (go_at_call 162;refine (D_ _ _ _ (by assumption) (by assumption)).mono ?_;rintro e w' ⟨rfl,rfl⟩) | (go_at_call 117;refine (rU _ _ _).mono ?_;rintro e w' ⟨rfl,rfl⟩))
   go_ret
   exact⟨rfl,FIN.out⟩
  ·rw [if_neg (by decide),if_pos rfl]
   go_enter func161,ntmps161
   go_wp2_with (go_at_call 162;refine (D_ _ _ _ (by assumption) (by assumption)).mono ?_;rintro e w' ⟨rfl,rfl⟩)
   go_ret
   exact⟨rfl,FIN.out⟩
 ·rw [if_pos rfl]
  go_enter func161,ntmps161
  go_wp2_with (go_at_call 162;refine (D_ _ _ _ (by assumption) (by assumption)).mono ?_;rintro e w' ⟨rfl,rfl⟩)
  go_ret
  exact⟨rfl,FIN.out⟩
theorem sortR_c {blk cap:Nat} {d:Array aN} {w:World} {g:Nat} {cb:Array Value} (R:RowK encR 7 w blk 0 d) (S:SWK encR 7 w blk 0 d w) (eg:∀ args w,(callFunc g args).run prog w=.ok (.enter g args) w) (hcmp:CmpLays prog g cb encR 7 Jr blk 0 d.size w) (hsz:d.size<4611686018427387904) (n:Nat) (hn:n=d.size) :
  Calls prog 121 #[.slice (some ⟨blk,0,none⟩) n cap,.func (.func g) #[] cb] w fun e w'=>e=.returned (.tuple #[])∧mK Jr encR 7 w blk 0 d [] d.toList [] w':=by
 have hc:=zD srtK 7 isAgg64 sizeOf64 encR blk 0 cap d d w w R rfl S Jr g cb eg hcmp woRM n hn hsz;simp only [cond_true,cond_false] at hc
 rw [← hn] at hc
 have HC:=hid hc
 clear hc hcmp R S hn hsz
 go_enter func121,ntmps121
 go_wp2_with (go_at_call 154;refine HC.out.mono ?_;rintro e w1 ⟨rfl,hw1⟩)
 have H:=hid hw1
 clear hw1
 go_wp2
 go_end0
 exact⟨rfl,H.out⟩
def CE (ts:List (List UInt8)) (w:World) (e:Ending) (w':World):Prop:=∃ A2 c2,e=.returned (.slice A2 ts.length c2)∧au w' 0 9 A2 (aC ts)∧ts.length≤c2∧Below w.heap.size w w'
theorem Du {A:Option Addr} {n c:Nat} {ts:List (List UInt8)} {w:World} (h:GL w A ts) (hn:n=ts.length) (hs:n≤1000000000):Calls prog 160 #[.slice A n c] w (CE ts w):=by
 obtain⟨i0,hi,hz0,hz1,hz2⟩:=info_parts Tryz.infoStr9
 have q:=fun (w:World) a n c n' c'=>Lib.run_eql_slice_nil (P:=prog) w 62 9 a n c n' c' underlying62
 have HL:=hid h
 have HN:=hid hn
 clear h hn
 rcases A with _ | ad
 ·have h0:n=0:=by
   rcases Nat.eq_zero_or_pos n with q | q
   ·exact q
   ·obtain⟨ad,_,e,_⟩:=HL.out.at_ (k:=0) (by have:=HN.out;omega)
    cases e
  subst h0
  have e:ts=[]:=List.length_eq_zero_iff.1 HN.out.symm
  subst e
  go_enter func160,ntmps160
  go_wp2
  go_ret
  exact⟨_,0,rfl,au.nil,Nat.le_refl _,Below.refl _ _⟩
 ·have ho:(w.alloc (.cells #[] 9)).ownsRow w.heap.size 9 1 (.slice (some ⟨w.heap.size,0,none⟩) 0 0) 0 []:=World.ownsRow_made w #[] 0 (Nat.le_refl _) (by unfold maxLen;omega) rfl
  have HO:=hid ho
  clear ho
  go_enter func160,ntmps160
  go_wp2_with (at_builtin;refine bL _ rfl _ _ 62 rfl w.heap.size 9 i0 _ 1 16 underlying62 hi hz0 hz1 hz2 rfl (by decide) _ 0 [] rfl HO.out (w.alloc (.cells #[] 9)).heap.size _ n c (aC ts) 0 rfl (by rw [dE,HN.out];omega) (au.stay HL.out ((Below.refl _ _).alloc (Nat.le_refl _) _)) (eX _) (by unfold maxLen;omega) (by omega) (by simp) ?_)
  intro v' w1 hown' hgrow _
  obtain⟨A2,k2,rfl⟩:=aD hown'
  have T1:=rG HO.out hgrow
  have ho2:w1.ownsRow w.heap.size 9 1 (.slice A2 n k2) n (aC ts):=by simpa using hown'
  have HO2:=hid ho2
  have HT:=hid T1
  clear hown' ho2 T1 hgrow
  go_wp2
  go_ret
  refine⟨A2,k2,by rw [← HN.out];simp,aH HO2.out,by rw [← HN.out];exact (aO HO2.out).2,HT.out⟩
end
section
open Go.Shelf Go.RowKit Go.Lib Go.Sort
def OrdOk (ts:List T9.Tk) (list:Nat) (w:World) (e:Ending) (w':World):Prop :=
 ∃ A c ms,e=.returned (.slice A ms.length c)∧KL w' A ms∧ms.length≤c∧T9.wN ts list (ay ms)∧Below w.heap.size w w'∧(ms=[]∨∃ g,A=some ⟨g,0,none⟩∧w.heap.size≤g)∧∀ m∈ms,m.jk w'
theorem eu (m:aN) (w:World):(Instr.buildSlice 24 1 #[(0,.agg (aA m).toArray)]).run prog w=.ok (.slice (some ⟨w.heap.size,0,none⟩) 1 1) (w.alloc (.cells (aA m).toArray 64)):=by
 obtain⟨i0,hi,hz0,hz1,hz2⟩:=info_parts Tryz.infoTk9
 exact dH w 24 64 (aA m).toArray i0 _ underlying24 hi hz0 hz1 (by show 0<7;omega) (by show 7≤_;omega)
theorem xY {ms:List aN} (h:∀ m∈ms,m.t.rank<18446744073709551616):ms.flatMap encR=ai ms:=by
 unfold ai
 induction ms with
 | nil=>rfl
 | cons m ms ih =>
  rw [List.flatMap_cons,List.flatMap_cons,ih fun x hx=>h x (List.mem_cons_of_mem _ hx)]
  unfold encR
  rw [rkM_id (h m List.mem_cons_self)]
theorem tks_srt {W:List aN} (h:Sr.gu (ltOf Jr) W):Sr.gu T9.lM (ay W):=by
 rw [Ee] at h
 exact List.pairwise_map.2 h
theorem tks_stb {D W:List aN} (h:Sr.gM (ltOf Jr) D W):Sr.gM T9.lM (ay D) (ay W):=fun k=>by
 rw [Ee] at h
 have q:=congrArg (List.map (·.t)) (h ⟨k,none,0⟩)
 have e:∀ l:List aN,(ay l).filter (Sr.iq T9.lM k)=(l.filter (Sr.iq (fun x y:aN=>T9.lM x.t y.t) ⟨k,none,0⟩)).map (·.t):=fun l=>by
  unfold ay
  rw [List.filter_map]
  rfl
 rw [e,e]
 exact q
theorem order_c {A A2:Option Addr} {n1 n2 c c2:Nat} {ms:List aN} {w:World} (hk:KL w A2 ms) (e2:n2=ms.length) (hs:n2≤1000000) (hsh:∀ m∈ms,m.t.tags.length≤1000000) (hr:∀ m∈ms,m.t.rank<18446744073709551616) (list:Nat) :
  Calls prog 143 #[.agg #[.slice A n1 c,.slice A2 n2 c2],.int .u64 (list:Int)] w (OrdOk (ay ms) list w):=by
 have E2:=hid e2
 have SH:=hid hsh
 have HR:=hid hr
 obtain⟨w1,hw1⟩:=nm (w.alloc (.cells #[.slice A n1 c,.slice A2 n2 c2] 26))
 obtain⟨pb,b1,z1⟩:=aj hw1
 have B1:=hid b1
 have HK:=hid (hk.stay b1)
 have Z1:=hid z1
 obtain⟨p0,p1⟩:=aa pb
 clear hk e2 hsh hr pb b1 z1
 go_enter func143,ntmps143
 go_wp2_with fail
 go_loopw [5,11] (fun s5 s11 wr=>∃ (i k:Nat) (A3:Option Addr) (c3:Nat) (xs:List aN),s11=.int .i64 i∧i≤n2∧s5=.slice A3 k c3∧k≤i∧Aside (wr.ownsRow w1.heap.size 64 7 (.slice A3 k c3) k (ai xs))∧Aside (Below w1.heap.size w1 wr)∧Hid (xs.length=k∧ay xs=T9.fM (ay (ms.take i)) list∧(∀ m∈xs,m.jk wr)∧(∀ m∈xs,m.t.rank<18446744073709551616))) (fun _ s11 _=>n2 - (intOf s11).toNat)
 case atStart=>exact⟨0,0,none,0,[],rfl,Nat.zero_le _,rfl,Nat.le_refl _,World.ownsRow_nil _ _ _ _,Below.refl _ _,hid ⟨rfl,rfl,by simp,by simp⟩⟩
 case round =>
  obtain⟨i,k,A3,c3,xs,rfl,hi,rfl,hki,hO,hB,HI⟩:=hrel
  have OW:=hid hO.out
  have BR:=hid hB.out
  clear hO hB
  by_cases hlt:i<n2
  ·have hltz:(i:Int)<(n2:Int):=by omega
   obtain⟨ad,⟨tk,A4,c4⟩,hA,hx,hf,r0,r1,r2,r3,r4,r5,r6⟩:=(HK.out.stay BR.out).at_ (k:=i) (by have:=E2.out;omega)
   subst hA
   have X:=hid hx
   have FI:=hid hf
   dsimp only at r0 r1 r2 r3 r4 r5 r6
   obtain⟨w2,hw2⟩:=nm (wr.alloc (.cells #[.int .u64 (tk.id:Int),.int .u64 (tk.list:Int),.string (str tk.title),.bool tk.done,.float .f64 tk.rank,.float .f64 tk.est,.slice A4 tk.tags.length c4] 64))
   obtain⟨lb,b2,z2⟩:=bf hw2
   have B2:=hid b2
   have Z2:=hid z2
   have LB:=hid lb
   obtain⟨l0,l1,l2,l3,l4,l5,l6⟩:=ak lb
   have wO:Hid (ay (ms.take (i+1))=ay (ms.take i)++[tk]):=hid (by rw [bH X.out,fG])
   clear hx hf lb b2 z2
   by_cases he:tk.list=list
   ·have wT:((tk.list:Int)==(list:Int))=true:=by simp [he]
    have FL:Hid (T9.fM (ay (ms.take (i+1))) list=T9.fM (ay (ms.take i)) list++[tk]):=hid (by
     rw [wO.out]
     unfold T9.fM
     rw [List.filter_append]
     simp [he])
    have RK:Hid (tk.rank<18446744073709551616):=hid (HR.out _ (List.mem_of_getElem? X.out))
    have CL:=hid (Du (c:=c4) (FI.out.stay B2.out).gl rfl (by have:=SH.out _ (List.mem_of_getElem? X.out);simp at this;show tk.tags.length≤1000000000;omega))
    clear he
    dsimp only at CL
    go_wp2_with fail
    refine CL.out.mono ?_
    rintro e w3 ⟨A5,c5,rfl,hl5,IG,hb3⟩
    have HL5:=hid hl5
    have HC5:=hid IG
    have HB3:=hid hb3
    have lb3:=(hb3.block wr.heap.size (by have:=Z2.out;omega)).trans LB.out
    have g6:=(ak lb3).2.2.2.2.2.2
    have gf6:=af lb3 6
    have lb4:=(ah lb3 6 (.slice A5 tk.tags.length c5)).trans (show _=some (.cells #[.int .u64 (tk.id:Int),.int .u64 (tk.list:Int),.string (str tk.title),.bool tk.done,.float .f64 tk.rank,.float .f64 tk.est,.slice A5 tk.tags.length c5] 64 (0,0)) from rfl)
    have Y3:Hid (Ty w3 wr.heap.size 64):=hid ⟨_,_,lb3⟩
    obtain⟨w4,hw4⟩:=nm (w3.setCell ⟨wr.heap.size,6,none⟩ (.slice A5 tk.tags.length c5))
    rw [hw4] at lb4
    have B4:Hid (Below wr.heap.size wr w4):=hid (by
     rw [← hw4]
     exact (B2.out.trans (HB3.out.mono (by have:=Z2.out;omega))).setCell (Nat.le_refl _) _)
    have L5:Hid (au w4 0 9 A5 (aC tk.tags)):=hid (by
     rw [← hw4]
     exact HL5.out.bE (ts:=[64]) ((aM.refl 0 _ w3).aB (p:=⟨wr.heap.size,6,none⟩) Y3.out (by simp) (Nat.zero_le _) _) (by decide))
    obtain⟨l0,l1,l2,l3,l4,l5,l6⟩:=ak lb4
    have hbs:=eu ⟨tk,A5,c5⟩ w4
    unfold aA at hbs
    dsimp only at hbs
    have Gh:=hid (own_below OW.out B4.out)
    have mG:=hid (Gh.out.alloc (.cells #[.int .u64 (tk.id:Int),.int .u64 (tk.list:Int),.string (str tk.title),.bool tk.done,.float .f64 tk.rank,.float .f64 tk.est,.slice A5 tk.tags.length c5] 64))
    have LE:Hid (au (w4.alloc (.cells #[.int .u64 (tk.id:Int),.int .u64 (tk.list:Int),.string (str tk.title),.bool tk.done,.float .f64 tk.rank,.float .f64 tk.est,.slice A5 tk.tags.length c5] 64)) 0 64 (some ⟨w4.heap.size,0,none⟩) (aA ⟨tk,A5,c5⟩)):=hid (au.iy (heap_alloc_new w4 _))
    have zz:w1.heap.size≤w4.heap.size:=Nat.le_trans BR.out.size B4.out.size
    have ZZ:=hid zz
    obtain⟨xX,xW,x8,x9,x_⟩:=info_parts Tryz.infoTk9
    clear hl5 IG hb3 lb3 lb4
    go_wp2_with (at_builtin;refine bL _ rfl _ _ 24 rfl w1.heap.size 64 xX _ 7 80 underlying24 xW x8 x9 x_ rfl (by decide) _ k (ai xs) rfl mG.out 0 _ 1 1 (aA ⟨tk,A5,c5⟩) 64 rfl rfl LE.out (dL _) (by unfold maxLen;omega) (by omega) (by simp;omega) ?_)
    intro v6 w6 hown6 aX fA
    obtain⟨A6,k6,rfl⟩:=aD hown6
    have T6:Hid (aM w1.heap.size [64] w4 w6):=hid (((aM.refl w1.heap.size [64] w4).alloc ZZ.out (.cells #[.int .u64 (tk.id:Int),.int .u64 (tk.list:Int),.string (str tk.title),.bool tk.done,.float .f64 tk.rank,.float .f64 tk.est,.slice A5 tk.tags.length c5] 64)).trans (ed (B:=w1.heap.size) (ts:=[64]) mG.out aX (Nat.le_refl _) (by have:=ZZ.out;simp;omega) (by simp)))
    have Gc:=hid hown6
    clear hown6 aX fA hbs l0 l1 l2 l3 l4 l5 l6 zz
    go_wp2
    go_roundw
    case rel =>
     refine⟨i+1,k+1,A6,k6,xs++[⟨tk,A5,c5⟩],by go_num,by omega,rfl,by omega,?_,(BR.out.trans (B4.out.mono BR.out.size)).trans T6.out.below,hid ⟨by rw [List.length_append,HI.out.1];rfl,by rw [fG,HI.out.2.1,FL.out],fun m hm=>?_,fun m hm=>?_⟩⟩
     ·rw [g_];exact Gc.out
     ·rcases List.mem_append.1 hm with q | q
      ·exact ((HI.out.2.2.1 m q).stay B4.out).bE T6.out (by decide)
      ·simp only [List.mem_cons,List.not_mem_nil,or_false] at q
       subst q
       exact aN.jk.bE (m:=⟨tk,A5,c5⟩) ⟨L5.out,HC5.out⟩ T6.out (by decide)
     ·rcases List.mem_append.1 hm with q | q
      ·exact HI.out.2.2.2 m q
      ·simp only [List.mem_cons,List.not_mem_nil,or_false] at q
       subst q
       exact RK.out
    case measure=>simp [intOf];omega
   ·have wT:((tk.list:Int)==(list:Int))=false:=by simp;omega
    have FL:Hid (T9.fM (ay (ms.take (i+1))) list=T9.fM (ay (ms.take i)) list):=hid (by
     rw [wO.out]
     unfold T9.fM
     rw [List.filter_append]
     simp [he])
    clear he
    go_wp2
    go_roundw
    case rel=>exact⟨i+1,k,A3,c3,xs,by go_num,by omega,rfl,by omega,own_below OW.out B2.out,BR.out.trans (B2.out.mono BR.out.size),hid ⟨HI.out.1,by rw [HI.out.2.1,FL.out],fun m hm=>(HI.out.2.2.1 m hm).stay B2.out,HI.out.2.2.2⟩⟩
    case measure=>simp [intOf];omega
  ·obtain rfl:i=n2:=by omega
   have hltz:¬ ((i:Int)<(i:Int)):=by omega
   have XT:Hid (ay xs=T9.fM (ay ms) list):=hid (by rw [HI.out.2.1,E2.out,List.take_length])
   have BW:Hid (Below w.heap.size w wr):=hid (B1.out.trans (BR.out.mono B1.out.size))
   by_cases h0:k=0
   ·subst h0
    have hnil:xs=[]:=List.length_eq_zero_iff.1 HI.out.1
    have HN:=hid hnil
    clear hnil
    go_wp2_with (go_at_call 121;refine (Ce _ _ _ _).mono ?_;rintro e w2 ⟨rfl,rfl⟩)
    go_wp2
    go_ret
    exact⟨A3,c3,[],rfl,KL.nil,Nat.zero_le _,⟨Sr.gu.nil,by rw [← XT.out,HN.out];exact Sr.gM.refl _⟩,BW.out,.inl rfl,by simp⟩
   ·obtain⟨g,hg,hBg⟩:=bO OW.out (by omega)
    subst hg
    have hown:=OW.out
    have gl:=hown.lt g rfl
    have Cu:=hid gl
    obtain⟨_,gcs,gfr,hgb⟩:=bM hown g rfl
    have GB:=hid hgb
    have HR5:=HI.out.2.2.2
    have hown2:wr.ownsRow w1.heap.size 64 7 (.slice (some ⟨g,0,none⟩) k c3) k (xs.toArray.toList.flatMap encR):=by
     rw [xY HR5]
     exact hown
    have R:RowK encR 7 wr g 0 xs.toArray:=vS (d:=xs.toArray) JN JO (by decide) rfl hown2
    have S0:SWK encR 7 wr g 0 xs.toArray wr:=SWK.start R.hH
    have RR:=hid R
    have MC:=hid (sortR_c (cap:=c3) R S0 (fun args w=>Tryz.call161 args w) (cb:=#[]) (fun m os dk _ x y=>cmpR_w x y _) (by simp;have:=HI.out.1;omega) k (by simp;exact HI.out.1.symm))
    clear hown hown2 R S0 gl hBg hgb HR5
    go_wp2_with (go_at_call 121;refine MC.out.mono ?_;rintro e w2 ⟨rfl,dk,W,hs2,hd2,hl2,hw2,GI,hst⟩)
    have S2:=hid hs2
    have SR:=hid (And.intro hd2 (And.intro hl2 (And.intro hw2 (And.intro GI hst))))
    clear hs2 hd2 hl2 hw2 GI hst
    go_wp2
    go_ret
    obtain⟨hd2,hl2,hw2,GI,hst⟩:=SR.out
    have hWl:W.length=k:=by rw [hw2];exact HI.out.1
    have hWm:∀ m∈W,m∈xs:=fun m hm=>Sr.gM.mem woRM hst hm
    have hlw:dk.toList=W:=by rw [hl2];simp
    have fin:∀ m∈W,m.jk w2:=fun m hm=>by
     have f:=HI.out.2.2.1 m (hWm m hm)
     refine⟨f.1.keep fun b hb=>?_,f.2⟩
     rcases hb with q | ⟨cs,fr,q⟩
     ·omega
     ·exact Cg S2.out b (lt_of_block q) (Jm q GB.out (by decide))
    refine⟨some ⟨g,0,none⟩,c3,W,(by rw [hWl];rfl),⟨?_,fun m hm=>(fin m hm).fine⟩,by rw [hWl];exact (aO OW.out).2,⟨tks_srt GI,?_⟩,?_,.inr ⟨g,rfl,by have:=Cu.out.1;have:=B1.out.size;omega⟩,fin⟩
    ·rw [← xY (fun m hm=>HI.out.2.2.2 m (hWm m hm))]
     exact qZ S2.out RR.out hd2 (by rw [hlw,List.take_length]) (SWK.lt S2.out Cu.out.2)
    ·rw [← XT.out]
     exact tks_stb hst
    ·exact BW.out.trans (sF S2.out (by have:=Cu.out.1;have:=BW.out.size;have:=B1.out.size;omega) Cu.out.2)
end
section
section
section
namespace T9
def many {α:Type} (f:Option (List UInt8)→α × Option (List UInt8)):Nat→Option (List UInt8)→List α × Option (List UInt8)
 | 0,s=>([],s)
 | n+1,s=>((f s).1 :: (many f n (f s).2).1,(many f n (f s).2).2)
def rdLi (s:Option (List UInt8)):Li × Option (List UInt8) :=
 (⟨(Cd.Em Cd.full s).1,(Cd.rdB 60 (Cd.Em Cd.full s).2).1⟩,(Cd.rdB 60 (Cd.Em Cd.full s).2).2)
def s1 (s:Option (List UInt8)):=(Cd.Em Cd.full s).2
def s2 (s:Option (List UInt8)):=(Cd.Em Cd.full (s1 s)).2
def s3 (s:Option (List UInt8)):=(Cd.rdB 60 (s2 s)).2
def s4 (s:Option (List UInt8)):=(Cd.rdG (s3 s)).2
def s5 (s:Option (List UInt8)):=(Cd.rdF (s4 s)).2
def s6 (s:Option (List UInt8)):=(Cd.rdF (s5 s)).2
def s7 (s:Option (List UInt8)):=(Cd.Em 60 (s6 s)).2
def tagsN (s:Option (List UInt8)):=(Cd.Em 60 (s6 s)).1
def rdTk (s:Option (List UInt8)):Tk × Option (List UInt8) :=
 (⟨(Cd.Em Cd.full s).1,(Cd.Em Cd.full (s1 s)).1,(Cd.rdB 60 (s2 s)).1,(Cd.rdG (s3 s)).1,(Cd.rdF (s4 s)).1,(Cd.rdF (s5 s)).1,(many (Cd.rdB 60) (tagsN s) (s7 s)).1⟩,(many (Cd.rdB 60) (tagsN s) (s7 s)).2)
def rdSt (s:Option (List UInt8)):St × Option (List UInt8) :=
 let a:=Cd.Em 60 s
 let ls:=many rdLi a.1 a.2
 let b:=Cd.Em 60 ls.2
 let ts:=many rdTk b.1 b.2
 (⟨ls.1,ts.1⟩,ts.2)
def of (b:List UInt8):St × Int:=if (rdSt (some b)).2=some []∧aJ (rdSt (some b)).1=0 then ((rdSt (some b)).1,0) else (⟨[],[]⟩,90)
end T9
end
section
namespace T9
end T9
end
end
section
open Go.RowKit Go.Lib
@[go_sem] theorem buildK9n (n : Int) (w : World) : (Instr.build 64 #[(0, .int .u64 n)]).run prog w = .ok (.agg #[.int .u64 n, .int .u64 0, .string ⟨#[]⟩, .bool false, .float .f64 0, .float .f64 0, .slice none 0 0]) w := run_build w 64 _ _ (by kernel_rfl)
theorem aM.zero {B:Nat} {ts:List TypeId} {w w':World} (h:aM B ts w w'):aM 0 ts w w':=⟨h.below.mono (Nat.zero_le _),h.typed⟩
end
section
open Go.RowKit Go.Lib
@[go_sem] theorem buildL9n (n : Int) (w : World) : (Instr.build 61 #[(0, .int .u64 n)]).run prog w = .ok (.agg #[.int .u64 n, .string ⟨#[]⟩]) w := run_build w 61 _ _ (by kernel_rfl)
theorem rM (l:T9.Li) (w:World):(Instr.buildSlice 23 1 #[(0,.agg #[.int .u64 (l.id:Int),.string (str l.name)])]).run prog w=.ok (.slice (some ⟨w.heap.size,0,none⟩) 1 1) (w.alloc (.cells #[.int .u64 (l.id:Int),.string (str l.name)] 61)):=by
 obtain⟨i0,hi,hz0,hz1,hz2⟩:=info_parts Tryz.infoLi9
 exact dH w 23 61 #[.int .u64 (l.id:Int),.string (str l.name)] i0 _ underlying23 hi hz0 hz1 (by show 0<2;omega) (by show 2≤_;omega)
theorem rJ (m:aN) (w:World):(Instr.buildSlice 24 1 #[(0,.agg (aA m).toArray)]).run prog w=.ok (.slice (some ⟨w.heap.size,0,none⟩) 1 1) (w.alloc (.cells (aA m).toArray 64)):=by
 obtain⟨i0,hi,hz0,hz1,hz2⟩:=info_parts Tryz.infoTk9
 exact dH w 24 64 (aA m).toArray i0 _ underlying24 hi hz0 hz1 (by show 0<7;omega) (by show 7≤_;omega)
end
section
open Go.RowKit Go.Lib Go.Sort
section
variable {P : Program} {ops : Array Oper} {Q : Exit → Act → World → Prop} {md : Region.Mode} {S S' : World → Prop}
theorem anyH_one9 {i:Nat} {oi:Oper} {f:Nat} {ls:Array Bool} {a:Act} {w:World} (hr:Region.ready md ops ls=[i]) (hi:ops[i]?=some oi)
  (h:∀ K:Act→World→Prop,(∀ b u,S u→wpAnyH P md ops Q S f (ls.setIfInBounds i true) b u→K b u)→if Region.wanted oi (yielded ops a.tmps)=true then Oper.wp P oi a w K Q else K (a.put oi.dst undef) w):wpAnyH P md ops Q S (f+1) ls a w:=by
 refine⟨fun e=>absurd e (by rw [hr];simp),fun j hj=>?_⟩
 rw [hr,List.mem_singleton] at hj
 subst hj
 exact wpOp_step hi (fun K hK=>h K (fun b u q1 q2=>hK b u ⟨q1,q2⟩))
end
theorem lL (l o:List UInt8):(str l==str o)=decide (l=o):=by
 by_cases h:l=o
 ·subst h
  rw [decide_eq_true rfl]
  exact (Go.MapKept.bytes_beq _ _).2 rfl
 ·rw [decide_eq_false h]
  cases q:str l==str o with
  | false=>rfl
  | true=>exact absurd (by have z:=(Go.MapKept.bytes_beq _ _).1 q;have z2:=congrArg (fun b=>b.data.toList) z;simpa [str] using z2) h
end
end
end Go.Proofs.YtcmiompdjjiojaaGreat
