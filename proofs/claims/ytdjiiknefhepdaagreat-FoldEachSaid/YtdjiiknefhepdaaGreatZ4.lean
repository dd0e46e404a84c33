import Derived.Test.YtdjiiknefhepdaaGreatZ2
import Derived.Test.YtdjiiknefhepdaaGreatZ3
import Derived.Test.YtdjiiknefhepdaaGreatZ1
import Derived.Deep.Slices
import Derived.Laws.ShiftsVarLaws
import Derived.Sort.KeysCollected
import Derived.Test.YtdjiiknefhepdaaGreatRows
import Derived.Laws.MakeOwn
import Derived.Lib.SliceRun
import Derived.RegionTactic
import Derived.Deep.MidRow
import Derived.Deep.WholeRow
import Derived.Maps.RangeWalk
import Derived.Maps.Ext
import Derived.Laws.CopyOwn
import Derived.Great.BuildSlice
namespace Go.Proofs.YtdjiiknefhepdaaGreat
set_option maxHeartbeats 16000000
set_option linter.unusedSimpArgs false
set_option maxRecDepth 100000
section
namespace Cd
def rdW (k:Nat):Option (List UInt8)→Nat × Option (List UInt8)
 | none=>(0,none)
 | some l=>if k≤l.length then (val (l.take k),some (l.drop k)) else (0,none)
def BU (most:Nat):Option (List UInt8)→Nat × Option (List UInt8)
 | none=>(0,none)
 | some []=>(0,none)
 | some (h :: t) =>
  if h.toNat<128 then (if h.toNat≤most then (h.toNat,some t) else (0,none))
  else if h.toNat - 128≤t.length∧128≤val (t.take (h.toNat - 128))∧wid (val (t.take (h.toNat - 128)))=h.toNat - 128∧val (t.take (h.toNat - 128))≤most
   then (val (t.take (h.toNat - 128)),some (t.drop (h.toNat - 128))) else (0,none)
@[irreducible] def full : Nat := 18446744073709551615
def rdF (s:Option (List UInt8)):Nat × Option (List UInt8) :=
 match (rdW 8 s).2 with
 | none=>(0,none)
 | some t=>if Fl.fit (rdW 8 s).1=true then (Fl.wd (rdW 8 s).1,some t) else (0,none)
def rdB (most:Nat) (s:Option (List UInt8)):List UInt8 × Option (List UInt8) :=
 match (BU most s).2 with
 | none=>([],none)
 | some t=>if (BU most s).1≤t.length then (t.take (BU most s).1,some (t.drop (BU most s).1)) else ([],none)
def rdG:Option (List UInt8)→Bool × Option (List UInt8)
 | none=>(false,none)
 | some []=>(false,none)
 | some (h :: t)=>if h.toNat≤1 then (h.toNat==1,some t) else (false,none)
structure Pt where
 kind:Int
 n:Int
 i:Int
 f:Nat
 b:List UInt8
 is:Bool
end Cd
open Go.RowKit
def hd (n:Nat):Nat:=if n<128 then n else 128+Cd.wid n
end
section
namespace St
end St
end
section
section
open Go.RowKit
section
variable {w : World} {B : Nat} {A : Option Addr}
theorem au.old {t t':TypeId} {xs:List Value} (h:au w B t A xs):au w w.heap.size t' A xs:=fun q=>by
 obtain⟨ad,e,hb,hc⟩:=h q
 refine⟨ad,e,.inl ?_,hc⟩
 obtain⟨u,hu⟩:∃ u,xs[0]?=some u:=by
  cases xs with
  | nil=>exact absurd rfl q
  | cons x xs=>exact⟨x,rfl⟩
 have:=World.block_lt_of_cell? _ _ (hc 0 u hu)
 rwa [lV] at this
end
theorem aG {w:World} {B base:Nat} {t:TypeId} {A:Option Addr} {size m n c:Nat} {xs:List Value} (h:w.ownsRow base t size (.slice A m c) n xs):au w B t A xs:=by
 obtain⟨rfl,_⟩:=aQ h
 exact au.Bd h
def Iq (B:Nat) (l:List UInt8) (w:World) (e:Ending) (w':World):Prop :=
 ∃ A n c,e=.returned (.slice A n c)∧w'.ownsRow B 5 1 (.slice A n c) l.length (ni l)∧aY B [5] w w'
theorem Iq.then {B:Nat} {l:List UInt8} {w w1 w':World} {e:Ending} (h:Iq B l w1 e w') (t:aY B [5] w w1):Iq B l w e w':=by
 obtain⟨A,n,c,h1,h2,h3⟩:=h
 exact⟨A,n,c,h1,h2,t.trans h3⟩
end
section
open Go.RowKit
structure FD where
 b:List UInt8
 A:Option Addr
 c:Nat
def FD.cell (m:FD):Value:=.slice m.A m.b.length m.c
def oq (ms:List FD):List Value:=ms.map FD.cell
def FD.fine (m:FD) (w:World) (B:Nat) (tb:TypeId):Prop:=au w B tb m.A (ni m.b)∧m.b.length≤m.c
def TL (w:World) (B:Nat) (tt tb:TypeId) (A:Option Addr) (ms:List FD):Prop:=au w B tt A (oq ms)∧∀ m∈ms,m.fine w B tb
theorem below_drewN {B:Nat} {w w':World} (h:Below B w w') (n:Nat):Below B w (w'.drewN n):=⟨h.os,h.tape,h.output,h.size,h.block⟩
theorem Bu (ms:List FD):(oq ms).length=ms.length:=by simp [oq]
theorem zT (ms:List FD) (k:Nat):(oq ms).take k=oq (ms.take k):=by simp [oq]
section
variable {w w' : World} {B B' : Nat} {tt tb tt' tb' : TypeId} {A : Option Addr} {ms : List FD}
theorem TL.nil:TL w B tt tb A []:=⟨au.nil,by simp⟩
theorem TL.take (h:TL w B tt tb A ms) (k:Nat):TL w B tt tb A (ms.take k):=⟨by have:=h.1.take k;rwa [zT] at this,fun m hm=>h.2 m (List.mem_of_mem_take hm)⟩
theorem TL.at_ (h:TL w B tt tb A ms) {k:Nat} (hk:k<ms.length):∃ ad m,A=some ad∧ms[k]?=some m∧m.fine w B tb∧w.cell? (ad.add k)=some (.slice m.A m.b.length m.c):=by
 have hx:ms[k]?=some ms[k]:=List.getElem?_eq_getElem hk
 obtain⟨ad,e,hc⟩:=h.1.at_ (k:=k) (by rw [Bu];exact hk)
 refine⟨ad,ms[k],e,hx,h.2 _ (List.getElem_mem hk),?_⟩
 rw [hc]
 simp [oq,FD.cell]
end
end
end
section
open Go.RowKit
section
variable {α : Type} {f : α → List Value} {size : Nat}
theorem jS:∀ {l:List α},(∀ x∈l,(f x).length=size)→(l.flatMap f).length=l.length * size
 | [],_=>by simp
 | x :: l,h=>by
  rw [List.flatMap_cons,List.length_append,jS (fun y hy=>h y (List.mem_cons_of_mem _ hy)),h x (List.mem_cons_self ..),List.length_cons,Nat.add_mul,Nat.one_mul,Nat.add_comm]
theorem iR:∀ {l:List α},(∀ x∈l,(f x).length=size)→∀ {k:Nat} {x:α},l[k]?=some x→∀ {j:Nat},j<size→(l.flatMap f)[k * size+j]?=(f x)[j]?
 | [],_,k,x,h,_,_=>by simp at h
 | y :: l,hf,0,x,h,j,hj=>by
  simp only [List.getElem?_cons_zero,Option.some.injEq] at h
  subst h
  rw [List.flatMap_cons,Nat.zero_mul,Nat.zero_add,List.getElem?_append_left (by rw [hf y (List.mem_cons_self ..)];exact hj)]
 | y :: l,hf,k+1,x,h,j,hj=>by
  simp only [List.getElem?_cons_succ] at h
  have hy:=hf y (List.mem_cons_self ..)
  rw [List.flatMap_cons,List.getElem?_append_right (by rw [hy,Nat.add_mul];omega),hy,show (k+1) * size+j - size=k * size+j by rw [Nat.add_mul];omega]
  exact iR (fun z hz=>hf z (List.mem_cons_of_mem _ hz)) h hj
theorem uw:∀ {l:List α},(∀ x∈l,(f x).length=size)→∀ {k:Nat},k<l.length→∀ {x:α},(f x).length=size→(l.set k x).flatMap f=splice (l.flatMap f) (k * size) (f x)
 | [],_,k,h,_,_=>by simp at h
 | y :: l,hf,0,_,x,hx=>by
  rw [List.set_cons_zero,List.flatMap_cons,List.flatMap_cons]
  unfold splice
  rw [Nat.zero_mul,List.take_zero,List.nil_append,Nat.zero_add,hx,← hf y (List.mem_cons_self ..),List.drop_left]
 | y :: l,hf,k+1,h,x,hx=>by
  have hy:=hf y (List.mem_cons_self ..)
  have ih:=uw (fun z hz=>hf z (List.mem_cons_of_mem _ hz)) (Nat.lt_of_succ_lt_succ h) hx
  rw [List.set_cons_succ,List.flatMap_cons,List.flatMap_cons,ih]
  unfold splice
  rw [show (k+1) * size=(f y).length+k * size by rw [hy,Nat.add_mul,Nat.one_mul,Nat.add_comm],List.take_length_add_append,Nat.add_assoc,List.drop_length_add_append,List.append_assoc]
end
section
variable {w : World}
theorem heap_setCells_other {b k:Nat} (h:k≠b):∀ (vs:List Value) (o:Nat) (w:World),(w.setCells b o vs).heap[k]?=w.heap[k]?
 | [],_,_=>rfl
 | v :: r,o,w=>by
  rw [World.setCells,heap_setCells_other h r]
  exact Below.heap_setCell _ _ _ _ h
theorem kr {b:Nat} {t:TypeId} {fr:Nat × Nat}:∀ (vs:List Value) (o:Nat) (w:World) (cur:Array Value),w.heap[b]?=some (.cells cur t fr)→∃ cur',(w.setCells b o vs).heap[b]?=some (.cells cur' t fr)∧cur'.size=cur.size
 | [],_,_,cur,h=>⟨cur,h,rfl⟩
 | v :: r,o,w,cur,h=>by
  obtain⟨cur',h1,h2⟩:=kr r (o+1) _ _ (ah h o v)
  exact⟨cur',h1,by rw [h2];simp⟩
theorem iy (b:Nat):∀ (vs:List Value) (o:Nat) (w:World),(w.setCells b o vs).os=w.os∧(w.setCells b o vs).tape=w.tape∧(w.setCells b o vs).output=w.output∧(w.setCells b o vs).heap.size=w.heap.size
 | [],_,_=>⟨rfl,rfl,rfl,rfl⟩
 | v :: r,o,w=>by
  obtain⟨h1,h2,h3,h4⟩:=iy b r (o+1) (w.setCell ⟨b,o,none⟩ v)
  exact⟨h1,h2,h3,by rw [World.setCells,h4];simp [World.setCell]⟩
theorem aO (b:Nat) (vs:List Value) (o:Nat) (w:World):w.grownBy (w.setCells b o vs) (some b):=by
 obtain⟨h1,h2,h3,h4⟩:=iy b vs o w
 exact⟨h1,h2,h3,by omega,fun k _ hk=>heap_setCells_other (fun e=>hk (by rw [e])) vs o w⟩
variable {base : Nat} {e : TypeId} {size n c g : Nat} {xs : List Value}
theorem cZ (h:w.ownsRow base e size (.slice (some ⟨g,0,none⟩) n c) n xs) {j:Nat} {v:Value} (hv:xs[j]?=some v):w.cell? ⟨g,j,none⟩=some v:=by
 have:=h.cells (g:=g) rfl j v hv
 rwa [dM] at this
theorem lJ (h:w.ownsRow base e size (.slice (some ⟨g,0,none⟩) n c) n xs) {o m:Nat} (hm:o+m≤xs.length):w.there g o m:=fun j hj=>by
 have hx:xs[o+j]?=some (xs[o+j]'(by omega)):=List.getElem?_eq_getElem (by omega)
 refine⟨by rw [cZ h hx];rfl,?_⟩
 rcases h.2 with⟨hn,_⟩ | ⟨g',cap,cur,hv,_,hh,_⟩
 ·cases hn
 ·injection hv with q
  injection q with q
  injection q with q
  subst q
  exact af hh _
theorem aU {o:Nat} {vs:List Value} (h:w.ownsRow base e size (.slice (some ⟨g,0,none⟩) n c) n xs) (hf:o+vs.length≤xs.length):(w.setCells g o vs).ownsRow base e size (.slice (some ⟨g,0,none⟩) n c) n (splice xs o vs):=by
 have hl:=length_splice xs o vs hf
 refine⟨hl.trans h.1,?_⟩
 have hthere:=lJ h (o:=o) (m:=vs.length) hf
 have hcells:∀ j v,xs[j]?=some v→w.cell? ⟨g,j,none⟩=some v:=fun j v hv=>cZ h hv
 rcases h.2 with⟨hn,_⟩ | ⟨g',cap,cur,hv,hb,hh,hnc,hcm,hcs,ht⟩
 ·cases hn
 ·injection hv with q1 _ q2
  injection q1 with q
  injection q with q
  subst q
  obtain⟨cur',h1,h2⟩:=kr vs o w cur hh
  refine .inr ⟨g,cap,cur',by rw [q2],hb,h1,hnc,hcm,by rw [h2];exact hcs,?_⟩
  have hcur:∀ j:Nat,cur'[j]?=(w.setCells g o vs).cell? ⟨g,j,none⟩:=fun j=>(cell_of_row _ g j cur' e (0,0) h1).symm
  have hxl:n * size≤cur.size:=by rw [hcs];exact Nat.mul_le_mul_right _ hnc
  apply List.ext_getElem?
  intro j
  rw [List.getElem?_take]
  by_cases hj:j<n * size
  ·rw [if_pos hj,Array.getElem?_toList,hcur]
   have hx:xs[j]?=some (xs[j]'(by rw [h.1];exact hj)):=List.getElem?_eq_getElem _
   unfold splice
   rw [List.getElem?_append]
   by_cases h0:j<o
   ·rw [World.cell?_setCells_out g vs o w _ (fun _ _=>.inl h0),hcells j _ hx,if_pos (by rw [List.length_take];omega),List.getElem?_take,if_pos h0,hx]
   ·rw [if_neg (by rw [List.length_take];omega),List.length_take,Nat.min_eq_left (by omega),List.getElem?_append]
    by_cases h1':j - o<vs.length
    ·rw [if_pos h1',show (⟨g,j,none⟩:Addr)=⟨g,o+(j - o),none⟩ by rw [show o+(j - o)=j by omega],
      World.cell?_setCells_in g vs o w (fun i hi=>(hthere i hi).1) (j - o) h1',List.getElem?_eq_getElem h1']
    ·rw [if_neg h1',World.cell?_setCells_out g vs o w _ (fun _ _=>.inr (show o+vs.length≤j by omega)),hcells j _ hx,List.getElem?_drop,show o+vs.length+(j - o - vs.length)=j by omega,hx]
  ·rw [if_neg hj,List.getElem?_eq_none (by rw [hl,h.1];omega)]
end
def key (i:Int):Lit:=.int .i64 i
def at_ (D:DataW Value) (i:Int):DataW Value:=D.atKey (key i) (.held (.slice none 0 0))
section
variable {P : Program} {w : World} {t k e : TypeId} {b n : Nat} {D : DataW Value}
end
theorem dE {P:Program} {w w':World} {ops:Array Oper} {rest:List Oper} {o:Oper} {a:Act} {Q:Exit→Act→World→Prop} (hg:o.guard=none) (m:Operand) (t:TypeId) (hop:o.op=Op.call { callee:=Callee.builtin Builtin.clear,args:=#[m],argTypes:=#[t] })
  (v:Value) (hm:a.eval m=v) (hrun:(Builtin.clear_ #[t] o.type #[v]).run P w=.ok (.tuple #[]) w') (hK:wpList P ops Q rest (a.put o.dst (.tuple #[])) w'):wpList P ops Q (o :: rest) a w:=by
 refine wpList_plain hg fun K' hK'=>?_
 unfold Oper.wp
 simp [execOp,hop,resolve,invoke,builtin,hm,hrun,Result.andThen]
 exact hK' _ _ hK
section
variable {P : Program} {w w' : World} {ops : Array Oper} {rest : List Oper} {o : Oper} {a : Act} {K : Act → World → Prop} {Q : Exit → Act → World → Prop} {E : Prop}
theorem fM (w:World) (t e:TypeId) (cs:Array Value) (ie:TypeInfo) (z:Value) (hu:P.underlying t=some (.slice e)) (hie:P.info? e=some ie) (hz:ie.zero=some z) (hs:ie.size=cs.size) (h0:0<cs.size) (hm:cs.size≤16777216) :
  (Instr.buildSlice t 1 #[(0,.agg cs)]).run P w=.ok (.slice (some ⟨w.heap.size,0,none⟩) 1 1) (w.alloc (.cells cs e)):=by
 refine run_buildSlice w t e 1 _ cs ie z hu hie hz (by rw [hs,Nat.one_mul];show ¬ cs.size > 16777216;omega) (by rw [hs,Nat.one_mul];omega) ?_
 have q:=Great.fill_whole (s:=ie.size) (by rw [hs];exact h0) [Value.agg cs] ((Array.range (1 * ie.size)).map (z.cells[· % z.cells.size]!)) (fun v hv=>by rw [List.mem_singleton] at hv;subst hv;exact hs.symm) (by simp)
 simpa [Value.cells] using q
end
end
section
open Go.RowKit
namespace T9
structure Li where
 id:Nat
 name:List UInt8
structure Tk where
 id:Nat
 list:Nat
 title:List UInt8
 done:Bool
 rank:Nat
 est:Nat
 tags:List (List UInt8)
structure St where
 lists:List Li
 tasks:List Tk
instance:Inhabited Li:=⟨⟨0,[]⟩⟩
instance:Inhabited Tk:=⟨⟨0,0,[],false,0,0,[]⟩⟩
instance:Inhabited St:=⟨⟨[],[]⟩⟩
theorem Li.lL {a b:Li}:a=b↔a.id=b.id∧a.name=b.name:=by
 cases a;cases b;simp
instance:DecidableEq Li:=fun _ _=>decidable_of_iff _ Li.lL.symm
theorem Tk.lL {a b:Tk}:a=b↔a.id=b.id∧a.list=b.list∧a.title=b.title∧a.done=b.done∧a.rank=b.rank∧a.est=b.est∧a.tags=b.tags:=by
 cases a;cases b;simp
instance:DecidableEq Tk:=fun _ _=>decidable_of_iff _ Tk.lL.symm
theorem St.lL {a b:St}:a=b↔a.lists=b.lists∧a.tasks=b.tasks:=by
 cases a;cases b;simp
instance:DecidableEq St:=fun _ _=>decidable_of_iff _ St.lL.symm
def Tk.ok (t:Tk):Prop:=t.id<18446744073709551616∧t.list<18446744073709551616∧t.rank<18446744073709551616∧t.est<18446744073709551616
def Li.ok (l:Li):Prop:=l.id<18446744073709551616
def St.ok (s:St):Prop:=(∀ l∈s.lists,l.ok)∧∀ t∈s.tasks,t.ok
def iP (a b:Li):Bool:=decide (a.id<b.id)
def iW (a b:Tk):Bool:=decide (a.id<b.id)
def dL (a b:List UInt8):Bool:=decide (a<b)
theorem woL:Sr.WO iP:=⟨fun a=>by simp [iP],fun a b c h k=>by simp [iP] at *;omega,fun a b c h=>by simp [iP] at *;omega⟩
theorem woK:Sr.WO iW:=⟨fun a=>by simp [iW],fun a b c h k=>by simp [iW] at *;omega,fun a b c h=>by simp [iW] at *;omega⟩
theorem JN:Sr.WO dL:=⟨fun a=>by simp [dL],fun a b c h k=>by
  simp only [dL,decide_eq_true_eq] at *
  exact List.lt_trans h k,fun a b c h=>by
  simp only [dL,decide_eq_true_eq] at *
  by_cases q:a<b
  ·exact .inl q
  ·right
   rcases List.le_iff_lt_or_eq.1 (List.not_lt.1 q) with r | r
   ·exact List.lt_trans r h
   ·subst r;exact h⟩
def norm (t:Tk):Tk:={ t with rank:=Fl.canon t.rank,est:=Fl.canon t.est,tags:=Sr.canon dL t.tags }
def canon (s:St):St:=⟨Sr.canon iP s.lists,(Sr.canon iW s.tasks).map norm⟩
def gX (a b:Tk):Bool:=a.id==b.id && a.list==b.list && decide (a.title=b.title) && a.done==b.done && Fl.same a.rank b.rank && Fl.same a.est b.est && decide (a.tags=b.tags)
def gW:List Tk→List Tk→Bool
 | [],[]=>true
 | a :: l,b :: m=>gX a b && gW l m
 | _,_=>false
def same (a b:St):Bool:=decide (a.lists=b.lists) && gW a.tasks b.tasks
theorem AP (a:Tk):gX a a=true:=by simp [gX,Fl.same]
theorem uf:∀ l:List Tk,gW l l=true
 | []=>rfl
 | a :: l=>by simp [gW,AP,uf l]
theorem nH (s:St):same s s=true:=by simp [same,uf]
theorem vB:∀ {l m:List Tk},gW l m=true→l.length=m.length
 | [],[],_=>rfl
 | a :: l,b :: m,h=>by
  simp only [gW,Bool.and_eq_true] at h
  rw [List.length_cons,List.length_cons,vB h.2]
 | [],_ :: _,h=>by simp [gW] at h
 | _ :: _,[],h=>by simp [gW] at h
theorem AL {l m:List Tk} (hl:l.length=m.length) (a b:Tk):gW (l++[a]) (m++[b])=(gW l m && gX a b):=by
 induction l generalizing m with
 | nil =>
  cases m with
  | nil=>simp [gW]
  | cons b m=>simp at hl
 | cons x l ih =>
  cases m with
  | nil=>simp at hl
  | cons y m =>
   simp only [List.length_cons,Nat.add_right_cancel_iff] at hl
   simp [gW,ih hl,Bool.and_assoc]
end T9
section
structure aM where
 t:T9.Tk
 A:Option Addr
 c:Nat
instance:Inhabited aM:=⟨⟨default,none,0⟩⟩
def bf (l:T9.Li):List Value:=[.int .u64 (l.id:Int),.string (str l.name)]
def encS (s:List UInt8):Value:=.string (str s)
def az (m:aM):List Value:=[.int .u64 (m.t.id:Int),.int .u64 (m.t.list:Int),.string (str m.t.title),.bool m.t.done,.float .f64 m.t.rank,.float .f64 m.t.est,.slice m.A m.t.tags.length m.c]
def iB (a b:aM):Bool:=T9.iW a.t b.t
theorem woM:Sr.WO iB:=⟨fun a=>T9.woK.irr a.t,fun a b c=>T9.woK.tr a.t b.t c.t,fun a b c=>T9.woK.ng a.t b.t c.t⟩
theorem fO (l:T9.Li):(bf l).length=2:=rfl
theorem aT (m:aM):(az m).length=7:=rfl
theorem lD (l:T9.Li):∀ v∈bf l,v.oneCell'=true:=by
 intro v hv
 simp only [bf,List.mem_cons,List.not_mem_nil,or_false] at hv
 rcases hv with rfl | rfl <;> rfl
theorem dK (m:aM):∀ v∈az m,v.oneCell'=true:=by
 intro v hv
 simp only [az,List.mem_cons,List.not_mem_nil,or_false] at hv
 rcases hv with rfl | rfl | rfl | rfl | rfl | rfl | rfl <;> rfl
def aL (ls:List T9.Li):List Value:=ls.flatMap bf
def ai (ms:List aM):List Value:=ms.flatMap az
def aC (ts:List (List UInt8)):List Value:=ts.map encS
theorem eQ (ls:List T9.Li):(aL ls).length=ls.length * 2:=jS fun l _=>fO l
theorem aN (ms:List aM):(ai ms).length=ms.length * 7:=jS fun m _=>aT m
theorem dD (ts:List (List UInt8)):(aC ts).length=ts.length:=by simp [aC]
theorem iF (ls:List T9.Li):∀ v∈aL ls,v.oneCell'=true:=fun v hv=>by
 obtain⟨l,_,h⟩:=List.mem_flatMap.1 hv
 exact lD l v h
theorem cB (ms:List aM):∀ v∈ai ms,v.oneCell'=true:=fun v hv=>by
 obtain⟨l,_,h⟩:=List.mem_flatMap.1 hv
 exact dK l v h
theorem eT (ts:List (List UInt8)):∀ v∈aC ts,v.oneCell'=true:=fun v hv=>by
 obtain⟨l,_,rfl⟩:=List.mem_map.1 hv
 rfl
theorem xX (ls:List T9.Li) (l:T9.Li):aL (ls++[l])=aL ls++bf l:=by simp [aL]
theorem gP (ms:List aM) (m:aM):ai (ms++[m])=ai ms++az m:=by simp [ai]
theorem qY (ts:List (List UInt8)) (t:List UInt8):aC (ts++[t])=aC ts++[encS t]:=by simp [aC]
def aM.fine (m:aM) (w:World):Prop:=au w w.heap.size 0 m.A (aC m.t.tags)∧m.t.tags.length≤m.c
def KL (w:World) (A:Option Addr) (ms:List aM):Prop:=au w w.heap.size 0 A (ai ms)∧∀ m∈ms,m.fine w
def LL (w:World) (A:Option Addr) (ls:List T9.Li):Prop:=au w w.heap.size 0 A (aL ls)
def GL (w:World) (A:Option Addr) (ts:List (List UInt8)):Prop:=au w w.heap.size 0 A (aC ts)
def ay (ms:List aM):List T9.Tk:=ms.map (·.t)
theorem aJ (ms:List aM):(ay ms).length=ms.length:=by simp [ay]
theorem eY (ms:List aM) (m:aM):ay (ms++[m])=ay ms++[m.t]:=by simp [ay]
section
variable {w w' : World} {A : Option Addr} {ls : List T9.Li} {ms : List aM} {ts : List (List UInt8)}
theorem au.stay {xs:List Value} (h:au w w.heap.size 0 A xs) (hb:Below w.heap.size w w'):au w' w'.heap.size 0 A xs:=(h.below (Nat.le_refl _) hb).more hb.size
theorem LL.stay (h:LL w A ls) (hb:Below w.heap.size w w'):LL w' A ls:=au.stay h hb
theorem GL.stay (h:GL w A ts) (hb:Below w.heap.size w w'):GL w' A ts:=au.stay h hb
theorem aM.fine.stay {m:aM} (h:m.fine w) (hb:Below w.heap.size w w'):m.fine w':=⟨au.stay h.1 hb,h.2⟩
theorem KL.stay (h:KL w A ms) (hb:Below w.heap.size w w'):KL w' A ms:=⟨au.stay h.1 hb,fun m hm=>(h.2 m hm).stay hb⟩
theorem LL.nil:LL w A []:=au.nil
theorem GL.nil:GL w A []:=au.nil
theorem KL.nil:KL w A []:=⟨au.nil,by simp⟩
theorem LL.at_ (h:LL w A ls) {k:Nat} (hk:k<ls.length):∃ ad l,A=some ad∧ls[k]?=some l∧w.cell? (ad.add (k * 2))=some (.int .u64 (l.id:Int))∧w.cell? ⟨(ad.add (k * 2)).block,(ad.add (k * 2)).off+1,none⟩=some (.string (str l.name)):=by
 have hx:ls[k]?=some ls[k]:=List.getElem?_eq_getElem hk
 obtain⟨ad,e,_,hc⟩:=h (fun q=>by have:=eQ ls;rw [q] at this;simp at this;omega)
 have c:∀ j u,j<2→(bf ls[k])[j]?=some u→w.cell? ((ad.add (k * 2)).add j)=some u:=fun j u hj hu=>by
  rw [addr_add]
  exact hc _ _ ((iR (f:=bf) (size:=2) (fun l _=>fO l) hx hj).trans hu)
 exact⟨ad,ls[k],e,hx,c 0 _ (by omega) rfl,c 1 _ (by omega) rfl⟩
theorem GL.at_ (h:GL w A ts) {k:Nat} (hk:k<ts.length):∃ ad t,A=some ad∧ts[k]?=some t∧w.cell? (ad.add k)=some (.string (str t)):=by
 have hx:ts[k]?=some ts[k]:=List.getElem?_eq_getElem hk
 obtain⟨ad,e,hc⟩:=au.at_ h (k:=k) (by rw [dD];exact hk)
 refine⟨ad,ts[k],e,hx,?_⟩
 rw [hc]
 simp [aC,encS]
theorem KL.at_ (h:KL w A ms) {k:Nat} (hk:k<ms.length):∃ ad m,A=some ad∧ms[k]?=some m∧m.fine w∧w.cell? (ad.add (k * 7))=some (.int .u64 (m.t.id:Int))∧w.cell? ⟨(ad.add (k * 7)).block,(ad.add (k * 7)).off+1,none⟩=some (.int .u64 (m.t.list:Int)) ∧
  w.cell? ⟨(ad.add (k * 7)).block,(ad.add (k * 7)).off+2,none⟩=some (.string (str m.t.title))∧w.cell? ⟨(ad.add (k * 7)).block,(ad.add (k * 7)).off+3,none⟩=some (.bool m.t.done)∧w.cell? ⟨(ad.add (k * 7)).block,(ad.add (k * 7)).off+4,none⟩=some (.float .f64 m.t.rank) ∧
  w.cell? ⟨(ad.add (k * 7)).block,(ad.add (k * 7)).off+5,none⟩=some (.float .f64 m.t.est)∧w.cell? ⟨(ad.add (k * 7)).block,(ad.add (k * 7)).off+6,none⟩=some (.slice m.A m.t.tags.length m.c):=by
 have hx:ms[k]?=some ms[k]:=List.getElem?_eq_getElem hk
 obtain⟨ad,e,_,hc⟩:=h.1 (fun q=>by have:=aN ms;rw [q] at this;simp at this;omega)
 have c:∀ j u,j<7→(az ms[k])[j]?=some u→w.cell? ((ad.add (k * 7)).add j)=some u:=fun j u hj hu=>by
  rw [addr_add]
  exact hc _ _ ((iR (f:=az) (size:=7) (fun l _=>aT l) hx hj).trans hu)
 exact⟨ad,ms[k],e,hx,h.2 _ (List.getElem_mem hk),c 0 _ (by omega) rfl,c 1 _ (by omega) rfl,c 2 _ (by omega) rfl,c 3 _ (by omega) rfl,c 4 _ (by omega) rfl,c 5 _ (by omega) rfl,c 6 _ (by omega) rfl⟩
theorem aM.fine.gl {m:aM} (h:m.fine w):GL w m.A m.t.tags:=h.1
end
theorem aa {w:World} {g:Nat} {a b:Value} {t:TypeId} {fr:Nat × Nat} (h:w.heap[g]?=some (.cells #[a,b] t fr)):w.cell? ⟨g,0,none⟩=some a∧w.cell? ⟨g,1,none⟩=some b:=⟨by simp [World.cell?,h],by simp [World.cell?,h]⟩
theorem aj {w:World} {p:Nat} {t:TypeId} {a b c d e f g:Value} {fr:Nat × Nat} (h:w.heap[p]?=some (.cells #[a,b,c,d,e,f,g] t fr)):w.cell? ⟨p,0,none⟩=some a∧w.cell? ⟨p,1,none⟩=some b∧w.cell? ⟨p,2,none⟩=some c∧w.cell? ⟨p,3,none⟩=some d∧w.cell? ⟨p,4,none⟩=some e∧w.cell? ⟨p,5,none⟩=some f∧w.cell? ⟨p,6,none⟩=some g:=by
 simp [World.cell?,h]
structure aW where
 ls:List T9.Li
 A:Option Addr
 c:Nat
 ms:List aM
 A2:Option Addr
 c2:Nat
def aW.val (m:aW):Value:=.agg #[.slice m.A m.ls.length m.c,.slice m.A2 m.ms.length m.c2]
def aW.st (m:aW):T9.St:=⟨m.ls,ay m.ms⟩
structure SM (m:aW) (w:World):Prop where
 l:LL w m.A m.ls
 k:KL w m.A2 m.ms
 lc:m.ls.length≤m.c
 kc:m.ms.length≤m.c2
theorem SM.stay {m:aW} {w w':World} (h:SM m w) (hb:Below w.heap.size w w'):SM m w':=⟨h.l.stay hb,h.k.stay hb,h.lc,h.kc⟩
end
end
section
namespace Sr
section
variable {α : Type} {lt : α → α → Bool}
theorem Jh [DecidableEq α] (h:WO lt) {l r:List α} (s:d_ lt l r):r.Perm l:=by
 rw [List.perm_iff_count]
 intro a
 have e:=congrArg (List.count a) (s a)
 rw [List.count_filter (j3 h a),List.count_filter (j3 h a)] at e
 exact e
theorem srt_str {r:List α} (hs:dV lt r) (hd:r.Pairwise fun a b=>gZ lt a b=false):Str lt r:=by
 unfold Str dV at *
 refine (hs.and hd).imp fun {a b} hk=>?_
 obtain⟨h,k⟩:=hk
 unfold gZ at k
 rw [h] at k
 simpa using k
theorem vP (h:WO lt):∀ {l r:List α},Str lt l→Str lt r→l.Perm r→l=r
 | [],r,_,_,p=>(List.nil_perm.1 p).symm
 | x :: l,[],_,_,p=>absurd (List.perm_nil.1 p) (by simp)
 | x :: l,y :: r,hl,hr,p=>by
  have hl':=List.pairwise_cons.1 hl
  have hr':=List.pairwise_cons.1 hr
  have hx:x∈y :: r:=p.mem_iff.1 List.mem_cons_self
  have hy:y∈x :: l:=p.mem_iff.2 List.mem_cons_self
  have e:x=y:=by
   rcases List.mem_cons.1 hx with q | q
   ·exact q
   ·rcases List.mem_cons.1 hy with q2 | q2
    ·exact q2.symm
    ·have a:=hr'.1 x q
     have b:=hl'.1 y q2
     rw [h.asym a] at b
     cases b
  subst e
  rw [vP h hl'.2 hr'.2 (List.Perm.cons_inv p)]
end
end Sr
namespace Fl
def xN (k:Nat):Nat:=FloatKind.f64.nearest (k:Int)
theorem Jm:∀ k,k≤80→xN k<18446744073709551616∧dx (xN k)=false∧(I (xN k)==I (canon (xN k)))=true∧xN k<9223372036854775808:=by
 intro k hk
 have q:∀ k:Fin 81,xN k.1<18446744073709551616∧dx (xN k.1)=false∧(I (xN k.1)==I (canon (xN k.1)))=true∧xN k.1<9223372036854775808:=by decide +kernel
 exact q ⟨k,by omega⟩
end Fl
namespace T9
def lM (a b:Tk):Bool:=Fl.lt a.rank b.rank || (!Fl.lt b.rank a.rank && decide (a.id<b.id))
theorem nL {a b:Tk}:lM a b=true↔Fl.pl a.rank<Fl.pl b.rank∨(Fl.pl a.rank=Fl.pl b.rank∧a.id<b.id):=by
 unfold lM
 rw [Bool.or_eq_true,Bool.and_eq_true,Fl.rY,Bool.not_eq_true',Fl.Jv,decide_eq_true_iff]
 omega
theorem sj {a b:Tk}:lM a b=false↔Fl.pl b.rank<Fl.pl a.rank∨(Fl.pl a.rank=Fl.pl b.rank∧b.id≤a.id):=by
 rw [← Bool.not_eq_true,nL]
 omega
theorem EP:Sr.WO lM:=⟨fun a=>by rw [sj];exact .inr ⟨rfl,Nat.le_refl _⟩,fun a b c h k=>by rw [nL] at *;omega,fun a b c h=>by rw [nL,nL] at *;omega⟩
theorem eqvR {a b:Tk} (h:a.id≠b.id):Sr.gZ lM a b=false:=by
 cases e:Sr.gZ lM a b with
 | false=>rfl
 | true =>
  unfold Sr.gZ at e
  rw [Bool.and_eq_true,Bool.not_eq_true',Bool.not_eq_true',sj,sj] at e
  omega
def fH (ts:List Tk) (list:Nat):List Tk:=ts.filter fun t=>t.list==list
def uX (ts:List Tk) (list:Nat) (r:List Tk):Prop:=Sr.dV lM r∧Sr.d_ lM (fH ts list) r
theorem uX.perm {ts r:List Tk} {list:Nat} (h:uX ts list r):r.Perm (fH ts list):=Sr.Jh EP h.2
def r_ (ts:List Tk):Prop:=ts.Pairwise fun a b=>a.id≠b.id
theorem r_.filter {ts:List Tk} (h:r_ ts) (p:Tk→Bool):r_ (ts.filter p):=List.Pairwise.filter p h
theorem r_.perm {l r:List Tk} (h:r_ l) (p:r.Perm l):r_ r:=(p.pairwise_iff (fun q=>Ne.symm q)).2 h
theorem r_.str {r:List Tk} (h:r_ r) (hs:Sr.dV lM r):Sr.Str lM r:=Sr.srt_str hs (h.imp fun q=>eqvR q)
theorem uX.str {ts r:List Tk} {list:Nat} (h:uX ts list r) (u:r_ ts):Sr.Str lM r:=((u.filter _).perm h.perm).str h.1
theorem uX.is {ts r x:List Tk} {list:Nat} (h:uX ts list r) (u:r_ ts) (hx:Sr.Str lM x) (p:x.Perm (fH ts list)):r=x:=Sr.vP EP (h.str u) hx (h.perm.trans p.symm)
def xO (l:List Tk) (id:Nat):Option Nat:=l.findIdx? fun t=>t.id==id
end T9
end
end Go.Proofs.YtdjiiknefhepdaaGreat
