import Derived.Test.YtcedlgedmkghgaaGreatZ2
import Derived.Test.YtcedlgedmkghgaaGreatZ3
import Derived.Test.YtcedlgedmkghgaaGreatZ1
import Derived.Deep.Slices
import Derived.Laws.ShiftsVarLaws
import Derived.Sort.KeysCollected
import Derived.Test.YtcedlgedmkghgaaGreatRows
import Derived.Laws.MakeOwn
import Derived.Lib.SliceRun
import Derived.RegionTactic
import Derived.Deep.MidRow
import Derived.Deep.WholeRow
import Derived.Maps.RangeWalk
import Derived.Maps.Ext
import Derived.Laws.CopyOwn
import Derived.Great.BuildSlice
namespace Go.Proofs.YtcedlgedmkghgaaGreat
set_option maxHeartbeats 16000000
open Go.Proofs.Tryz
set_option linter.unusedSimpArgs false
set_option maxRecDepth 100000
section
namespace Cd
def rdW (k:Nat):Option (List UInt8)→Nat × Option (List UInt8)
 | none=>(0,none)
 | some l=>if k≤l.length then (val (l.take k),some (l.drop k)) else (0,none)
def Bg (most:Nat):Option (List UInt8)→Nat × Option (List UInt8)
 | none=>(0,none)
 | some []=>(0,none)
 | some (h :: t) =>
  if h.toNat<128 then (if h.toNat≤most then (h.toNat,some t) else (0,none))
  else if h.toNat - 128≤t.length∧128≤val (t.take (h.toNat - 128))∧wid (val (t.take (h.toNat - 128)))=h.toNat - 128∧val (t.take (h.toNat - 128))≤most
   then (val (t.take (h.toNat - 128)),some (t.drop (h.toNat - 128))) else (0,none)
@[irreducible] def full : Nat := 18446744073709551615
def rdF (s:Option (List UInt8)):Nat × Option (List UInt8) :=
 match (rdW 8 s).2 with
 | none=>(0,none)
 | some t=>if Fl.fit (rdW 8 s).1=true then (Fl.wd (rdW 8 s).1,some t) else (0,none)
def rdB (most:Nat) (s:Option (List UInt8)):List UInt8 × Option (List UInt8) :=
 match (Bg most s).2 with
 | none=>([],none)
 | some t=>if (Bg most s).1≤t.length then (t.take (Bg most s).1,some (t.drop (Bg most s).1)) else ([],none)
def rdG:Option (List UInt8)→Bool × Option (List UInt8)
 | none=>(false,none)
 | some []=>(false,none)
 | some (h :: t)=>if h.toNat≤1 then (h.toNat==1,some t) else (false,none)
structure Pt where
 kind:Int
 n:Int
 i:Int
 f:Nat
 b:List UInt8
 is:Bool
end Cd
open Go.RowKit
def hd (n:Nat):Nat:=if n<128 then n else 128+Cd.wid n
end
section
namespace St
end St
end
section
section
open Go.RowKit
theorem Tryz.infoU8:(prog.info? 5).map (fun i=>(i.zero,i.size,i.bytes))=some (some (.int .u8 0),1,1):=by kernel_rfl
section
variable {w : World} {B : Nat} {A : Option Addr}
theorem au.old {t t':TypeId} {xs:List Value} (h:au w B t A xs):au w w.heap.size t' A xs:=fun q=>by
 obtain⟨ad,e,hb,hc⟩:=h q
 refine⟨ad,e,.inl ?_,hc⟩
 obtain⟨u,hu⟩:∃ u,xs[0]?=some u:=by
  cases xs with
  | nil=>exact absurd rfl q
  | cons x xs=>exact⟨x,rfl⟩
 have:=World.block_lt_of_cell? _ _ (hc 0 u hu)
 rwa [iY] at this
end
theorem aG {w:World} {B base:Nat} {t:TypeId} {A:Option Addr} {size m n c:Nat} {xs:List Value} (h:w.ownsRow base t size (.slice A m c) n xs):au w B t A xs:=by
 obtain⟨rfl,_⟩:=aO h
 exact au.Ig h
def E_ (B:Nat) (l:List UInt8) (w:World) (e:Ending) (w':World):Prop :=
 ∃ A n c,e=.returned (.slice A n c)∧w'.ownsRow B 5 1 (.slice A n c) l.length (fZ l)∧aN B [5] w w'
theorem E_.then {B:Nat} {l:List UInt8} {w w1 w':World} {e:Ending} (h:E_ B l w1 e w') (t:aN B [5] w w1):E_ B l w e w':=by
 obtain⟨A,n,c,h1,h2,h3⟩:=h
 exact⟨A,n,c,h1,h2,t.trans h3⟩
end
section
open Go.RowKit
structure Aa where
 b:List UInt8
 A:Option Addr
 c:Nat
def Aa.cell (m:Aa):Value:=.slice m.A m.b.length m.c
def oC (ms:List Aa):List Value:=ms.map Aa.cell
def Aa.fine (m:Aa) (w:World) (B:Nat) (tb:TypeId):Prop:=au w B tb m.A (fZ m.b)∧m.b.length≤m.c
def TL (w:World) (B:Nat) (tt tb:TypeId) (A:Option Addr) (ms:List Aa):Prop:=au w B tt A (oC ms)∧∀ m∈ms,m.fine w B tb
theorem below_drewN {B:Nat} {w w':World} (h:Below B w w') (n:Nat):Below B w (w'.drewN n):=⟨h.os,h.tape,h.output,h.size,h.block⟩
theorem BH (ms:List Aa):(oC ms).length=ms.length:=by simp [oC]
theorem zH (ms:List Aa) (k:Nat):(oC ms).take k=oC (ms.take k):=by simp [oC]
section
variable {w w' : World} {B B' : Nat} {tt tb tt' tb' : TypeId} {A : Option Addr} {ms : List Aa}
theorem TL.nil:TL w B tt tb A []:=⟨au.nil,by simp⟩
theorem Aa.fine.bH {m:Aa} (h:m.fine w B tb) {ts:List TypeId} (hT:aN B ts w w') (h2:tb ∉ ts):m.fine w' B tb:=⟨h.1.bH hT h2,h.2⟩
theorem Aa.fine.below {m:Aa} (h:m.fine w B tb) (hB:B≤w.heap.size) (hT:Below w.heap.size w w'):m.fine w' B tb:=⟨h.1.below hB hT,h.2⟩
theorem TL.bH (h:TL w B tt tb A ms) {ts:List TypeId} (hT:aN B ts w w') (h1:tt ∉ ts) (h2:tb ∉ ts):TL w' B tt tb A ms:=⟨h.1.bH hT h1,fun m hm=>(h.2 m hm).bH hT h2⟩
theorem TL.below (h:TL w B tt tb A ms) (hB:B≤w.heap.size) (hT:Below w.heap.size w w'):TL w' B tt tb A ms:=h.bH (aN.of_below hT hB []) (by simp) (by simp)
theorem TL.take (h:TL w B tt tb A ms) (k:Nat):TL w B tt tb A (ms.take k):=⟨by have:=h.1.take k;rwa [zH] at this,fun m hm=>h.2 m (List.mem_of_mem_take hm)⟩
theorem TL.at_ (h:TL w B tt tb A ms) {k:Nat} (hk:k<ms.length):∃ ad m,A=some ad∧ms[k]?=some m∧m.fine w B tb∧w.cell? (ad.add k)=some (.slice m.A m.b.length m.c):=by
 have hx:ms[k]?=some ms[k]:=List.getElem?_eq_getElem hk
 obtain⟨ad,e,hc⟩:=h.1.at_ (k:=k) (by rw [BH];exact hk)
 refine⟨ad,ms[k],e,hx,h.2 _ (List.getElem_mem hk),?_⟩
 rw [hc]
 simp [oC,Aa.cell]
end
end
end
section
open Go.RowKit
section
variable {α : Type} {f : α → List Value} {size : Nat}
theorem jk:∀ {l:List α},(∀ x∈l,(f x).length=size)→(l.flatMap f).length=l.length * size
 | [],_=>by simp
 | x :: l,h=>by
  rw [List.flatMap_cons,List.length_append,jk (fun y hy=>h y (List.mem_cons_of_mem _ hy)),h x (List.mem_cons_self ..),List.length_cons,Nat.add_mul,Nat.one_mul,Nat.add_comm]
theorem iB:∀ {l:List α},(∀ x∈l,(f x).length=size)→∀ {k:Nat} {x:α},l[k]?=some x→∀ {j:Nat},j<size→(l.flatMap f)[k * size+j]?=(f x)[j]?
 | [],_,k,x,h,_,_=>by simp at h
 | y :: l,hf,0,x,h,j,hj=>by
  simp only [List.getElem?_cons_zero,Option.some.injEq] at h
  subst h
  rw [List.flatMap_cons,Nat.zero_mul,Nat.zero_add,List.getElem?_append_left (by rw [hf y (List.mem_cons_self ..)];exact hj)]
 | y :: l,hf,k+1,x,h,j,hj=>by
  simp only [List.getElem?_cons_succ] at h
  have hy:=hf y (List.mem_cons_self ..)
  rw [List.flatMap_cons,List.getElem?_append_right (by rw [hy,Nat.add_mul];omega),hy,show (k+1) * size+j - size=k * size+j by rw [Nat.add_mul];omega]
  exact iB (fun z hz=>hf z (List.mem_cons_of_mem _ hz)) h hj
theorem rZ:∀ {l:List α},(∀ x∈l,(f x).length=size)→∀ {k:Nat},k<l.length→∀ {x:α},(f x).length=size→(l.set k x).flatMap f=splice (l.flatMap f) (k * size) (f x)
 | [],_,k,h,_,_=>by simp at h
 | y :: l,hf,0,_,x,hx=>by
  rw [List.set_cons_zero,List.flatMap_cons,List.flatMap_cons]
  unfold splice
  rw [Nat.zero_mul,List.take_zero,List.nil_append,Nat.zero_add,hx,← hf y (List.mem_cons_self ..),List.drop_left]
 | y :: l,hf,k+1,h,x,hx=>by
  have hy:=hf y (List.mem_cons_self ..)
  have ih:=rZ (fun z hz=>hf z (List.mem_cons_of_mem _ hz)) (Nat.lt_of_succ_lt_succ h) hx
  rw [List.set_cons_succ,List.flatMap_cons,List.flatMap_cons,ih]
  unfold splice
  rw [show (k+1) * size=(f y).length+k * size by rw [hy,Nat.add_mul,Nat.one_mul,Nat.add_comm],List.take_length_add_append,Nat.add_assoc,List.drop_length_add_append,List.append_assoc]
end
section
variable {w : World}
theorem heap_setCells_other {b k:Nat} (h:k≠b):∀ (vs:List Value) (o:Nat) (w:World),(w.setCells b o vs).heap[k]?=w.heap[k]?
 | [],_,_=>rfl
 | v :: r,o,w=>by
  rw [World.setCells,heap_setCells_other h r]
  exact Below.heap_setCell _ _ _ _ h
theorem jW {b:Nat} {t:TypeId} {fr:Nat × Nat}:∀ (vs:List Value) (o:Nat) (w:World) (cur:Array Value),w.heap[b]?=some (.cells cur t fr)→∃ cur',(w.setCells b o vs).heap[b]?=some (.cells cur' t fr)∧cur'.size=cur.size
 | [],_,_,cur,h=>⟨cur,h,rfl⟩
 | v :: r,o,w,cur,h=>by
  obtain⟨cur',h1,h2⟩:=jW r (o+1) _ _ (ah h o v)
  exact⟨cur',h1,by rw [h2];simp⟩
theorem iq (b:Nat):∀ (vs:List Value) (o:Nat) (w:World),(w.setCells b o vs).os=w.os∧(w.setCells b o vs).tape=w.tape∧(w.setCells b o vs).output=w.output∧(w.setCells b o vs).heap.size=w.heap.size
 | [],_,_=>⟨rfl,rfl,rfl,rfl⟩
 | v :: r,o,w=>by
  obtain⟨h1,h2,h3,h4⟩:=iq b r (o+1) (w.setCell ⟨b,o,none⟩ v)
  exact⟨h1,h2,h3,by rw [World.setCells,h4];simp [World.setCell]⟩
theorem aR (b:Nat) (vs:List Value) (o:Nat) (w:World):w.grownBy (w.setCells b o vs) (some b):=by
 obtain⟨h1,h2,h3,h4⟩:=iq b vs o w
 exact⟨h1,h2,h3,by omega,fun k _ hk=>heap_setCells_other (fun e=>hk (by rw [e])) vs o w⟩
variable {base : Nat} {e : TypeId} {size n c g : Nat} {xs : List Value}
theorem cZ (h:w.ownsRow base e size (.slice (some ⟨g,0,none⟩) n c) n xs) {j:Nat} {v:Value} (hv:xs[j]?=some v):w.cell? ⟨g,j,none⟩=some v:=by
 have:=h.cells (g:=g) rfl j v hv
 rwa [dN] at this
theorem kR (h:w.ownsRow base e size (.slice (some ⟨g,0,none⟩) n c) n xs) {o m:Nat} (hm:o+m≤xs.length):w.there g o m:=fun j hj=>by
 have hx:xs[o+j]?=some (xs[o+j]'(by omega)):=List.getElem?_eq_getElem (by omega)
 refine⟨by rw [cZ h hx];rfl,?_⟩
 rcases h.2 with⟨hn,_⟩ | ⟨g',cap,cur,hv,_,hh,_⟩
 ·cases hn
 ·injection hv with q
  injection q with q
  injection q with q
  subst q
  exact af hh _
theorem aV {o:Nat} {vs:List Value} (h:w.ownsRow base e size (.slice (some ⟨g,0,none⟩) n c) n xs) (hf:o+vs.length≤xs.length):(w.setCells g o vs).ownsRow base e size (.slice (some ⟨g,0,none⟩) n c) n (splice xs o vs):=by
 have hl:=length_splice xs o vs hf
 refine⟨hl.trans h.1,?_⟩
 have hthere:=kR h (o:=o) (m:=vs.length) hf
 have hcells:∀ j v,xs[j]?=some v→w.cell? ⟨g,j,none⟩=some v:=fun j v hv=>cZ h hv
 rcases h.2 with⟨hn,_⟩ | ⟨g',cap,cur,hv,hb,hh,hnc,hcm,hcs,ht⟩
 ·cases hn
 ·injection hv with q1 _ q2
  injection q1 with q
  injection q with q
  subst q
  obtain⟨cur',h1,h2⟩:=jW vs o w cur hh
  refine .inr ⟨g,cap,cur',by rw [q2],hb,h1,hnc,hcm,by rw [h2];exact hcs,?_⟩
  have hcur:∀ j:Nat,cur'[j]?=(w.setCells g o vs).cell? ⟨g,j,none⟩:=fun j=>(cell_of_row _ g j cur' e (0,0) h1).symm
  have hxl:n * size≤cur.size:=by rw [hcs];exact Nat.mul_le_mul_right _ hnc
  apply List.ext_getElem?
  intro j
  rw [List.getElem?_take]
  by_cases hj:j<n * size
  ·rw [if_pos hj,Array.getElem?_toList,hcur]
   have hx:xs[j]?=some (xs[j]'(by rw [h.1];exact hj)):=List.getElem?_eq_getElem _
   unfold splice
   rw [List.getElem?_append]
   by_cases h0:j<o
   ·rw [World.cell?_setCells_out g vs o w _ (fun _ _=>.inl h0),hcells j _ hx,if_pos (by rw [List.length_take];omega),List.getElem?_take,if_pos h0,hx]
   ·rw [if_neg (by rw [List.length_take];omega),List.length_take,Nat.min_eq_left (by omega),List.getElem?_append]
    by_cases h1':j - o<vs.length
    ·rw [if_pos h1',show (⟨g,j,none⟩:Addr)=⟨g,o+(j - o),none⟩ by rw [show o+(j - o)=j by omega],
      World.cell?_setCells_in g vs o w (fun i hi=>(hthere i hi).1) (j - o) h1',List.getElem?_eq_getElem h1']
    ·rw [if_neg h1',World.cell?_setCells_out g vs o w _ (fun _ _=>.inr (show o+vs.length≤j by omega)),hcells j _ hx,List.getElem?_drop,show o+vs.length+(j - o - vs.length)=j by omega,hx]
  ·rw [if_neg hj,List.getElem?_eq_none (by rw [hl,h.1];omega)]
end
def key (i:Int):Lit:=.int .i64 i
def at_ (D:DataW Value) (i:Int):DataW Value:=D.atKey (key i) (.held (.slice none 0 0))
section
variable {P : Program} {w : World} {t k e : TypeId} {b n : Nat} {D : DataW Value}
end
theorem dG {P:Program} {w w':World} {ops:Array Oper} {rest:List Oper} {o:Oper} {a:Act} {Q:Exit→Act→World→Prop} (hg:o.guard=none) (m:Operand) (t:TypeId) (hop:o.op=Op.call { callee:=Callee.builtin Builtin.clear,args:=#[m],argTypes:=#[t] })
  (v:Value) (hm:a.eval m=v) (hrun:(Builtin.clear_ #[t] o.type #[v]).run P w=.ok (.tuple #[]) w') (hK:wpList P ops Q rest (a.put o.dst (.tuple #[])) w'):wpList P ops Q (o :: rest) a w:=by
 refine wpList_plain hg fun K' hK'=>?_
 unfold Oper.wp
 simp [execOp,hop,resolve,invoke,builtin,hm,hrun,Result.andThen]
 exact hK' _ _ hK
section
variable {P : Program} {w w' : World} {ops : Array Oper} {rest : List Oper} {o : Oper} {a : Act} {K : Act → World → Prop} {Q : Exit → Act → World → Prop} {E : Prop}
theorem dF (w:World) (t e:TypeId) (cs:Array Value) (ie:TypeInfo) (z:Value) (hu:P.underlying t=some (.slice e)) (hie:P.info? e=some ie) (hz:ie.zero=some z) (hs:ie.size=cs.size) (h0:0<cs.size) (hm:cs.size≤16777216) :
  (Instr.buildSlice t 1 #[(0,.agg cs)]).run P w=.ok (.slice (some ⟨w.heap.size,0,none⟩) 1 1) (w.alloc (.cells cs e)):=by
 refine run_buildSlice w t e 1 _ cs ie z hu hie hz (by rw [hs,Nat.one_mul];show ¬ cs.size > 16777216;omega) (by rw [hs,Nat.one_mul];omega) ?_
 have q:=Great.fill_whole (s:=ie.size) (by rw [hs];exact h0) [Value.agg cs] ((Array.range (1 * ie.size)).map (z.cells[· % z.cells.size]!)) (fun v hv=>by rw [List.mem_singleton] at hv;subst hv;exact hs.symm) (by simp)
 simpa [Value.cells] using q
end
end
section
open Go.RowKit
namespace T9
structure Li where
 id:Nat
 name:List UInt8
structure Tk where
 id:Nat
 list:Nat
 title:List UInt8
 done:Bool
 rank:Nat
 est:Nat
 tags:List (List UInt8)
structure St where
 lists:List Li
 tasks:List Tk
instance:Inhabited Li:=⟨⟨0,[]⟩⟩
instance:Inhabited Tk:=⟨⟨0,0,[],false,0,0,[]⟩⟩
instance:Inhabited St:=⟨⟨[],[]⟩⟩
theorem Li.kL {a b:Li}:a=b↔a.id=b.id∧a.name=b.name:=by
 cases a;cases b;simp
instance:DecidableEq Li:=fun _ _=>decidable_of_iff _ Li.kL.symm
theorem Tk.kL {a b:Tk}:a=b↔a.id=b.id∧a.list=b.list∧a.title=b.title∧a.done=b.done∧a.rank=b.rank∧a.est=b.est∧a.tags=b.tags:=by
 cases a;cases b;simp
instance:DecidableEq Tk:=fun _ _=>decidable_of_iff _ Tk.kL.symm
theorem St.kL {a b:St}:a=b↔a.lists=b.lists∧a.tasks=b.tasks:=by
 cases a;cases b;simp
instance:DecidableEq St:=fun _ _=>decidable_of_iff _ St.kL.symm
def Tk.ok (t:Tk):Prop:=t.id<18446744073709551616∧t.list<18446744073709551616∧t.rank<18446744073709551616∧t.est<18446744073709551616
def Li.ok (l:Li):Prop:=l.id<18446744073709551616
def St.ok (s:St):Prop:=(∀ l∈s.lists,l.ok)∧∀ t∈s.tasks,t.ok
def iN (a b:Li):Bool:=decide (a.id<b.id)
def iT (a b:Tk):Bool:=decide (a.id<b.id)
def dL (a b:List UInt8):Bool:=decide (a<b)
theorem woL:Sr.WO iN:=⟨fun a=>by simp [iN],fun a b c h k=>by simp [iN] at *;omega,fun a b c h=>by simp [iN] at *;omega⟩
theorem woK:Sr.WO iT:=⟨fun a=>by simp [iT],fun a b c h k=>by simp [iT] at *;omega,fun a b c h=>by simp [iT] at *;omega⟩
theorem JH:Sr.WO dL:=⟨fun a=>by simp [dL],fun a b c h k=>by
  simp only [dL,decide_eq_true_eq] at *
  exact List.lt_trans h k,fun a b c h=>by
  simp only [dL,decide_eq_true_eq] at *
  by_cases q:a<b
  ·exact .inl q
  ·right
   rcases List.le_iff_lt_or_eq.1 (List.not_lt.1 q) with r | r
   ·exact List.lt_trans r h
   ·subst r;exact h⟩
def norm (t:Tk):Tk:={ t with rank:=Fl.canon t.rank,est:=Fl.canon t.est,tags:=Sr.canon dL t.tags }
def canon (s:St):St:=⟨Sr.canon iN s.lists,(Sr.canon iT s.tasks).map norm⟩
def gU (a b:Tk):Bool:=a.id==b.id && a.list==b.list && decide (a.title=b.title) && a.done==b.done && Fl.same a.rank b.rank && Fl.same a.est b.est && decide (a.tags=b.tags)
def gV:List Tk→List Tk→Bool
 | [],[]=>true
 | a :: l,b :: m=>gU a b && gV l m
 | _,_=>false
def same (a b:St):Bool:=decide (a.lists=b.lists) && gV a.tasks b.tasks
theorem Bo (a:Tk):gU a a=true:=by simp [gU,Fl.same]
theorem tV:∀ l:List Tk,gV l l=true
 | []=>rfl
 | a :: l=>by simp [gV,Bo,tV l]
theorem qy (s:St):same s s=true:=by simp [same,tV]
theorem vB:∀ {l m:List Tk},gV l m=true→l.length=m.length
 | [],[],_=>rfl
 | a :: l,b :: m,h=>by
  simp only [gV,Bool.and_eq_true] at h
  rw [List.length_cons,List.length_cons,vB h.2]
 | [],_ :: _,h=>by simp [gV] at h
 | _ :: _,[],h=>by simp [gV] at h
theorem Bp {l m:List Tk} (hl:l.length=m.length) (a b:Tk):gV (l++[a]) (m++[b])=(gV l m && gU a b):=by
 induction l generalizing m with
 | nil =>
  cases m with
  | nil=>simp [gV]
  | cons b m=>simp at hl
 | cons x l ih =>
  cases m with
  | nil=>simp at hl
  | cons y m =>
   simp only [List.length_cons,Nat.add_right_cancel_iff] at hl
   simp [gV,ih hl,Bool.and_assoc]
end T9
section
structure aL where
 t:T9.Tk
 A:Option Addr
 c:Nat
instance:Inhabited aL:=⟨⟨default,none,0⟩⟩
def bf (l:T9.Li):List Value:=[.int .u64 (l.id:Int),.string (str l.name)]
def encS (s:List UInt8):Value:=.string (str s)
def az (m:aL):List Value:=[.int .u64 (m.t.id:Int),.int .u64 (m.t.list:Int),.string (str m.t.title),.bool m.t.done,.float .f64 m.t.rank,.float .f64 m.t.est,.slice m.A m.t.tags.length m.c]
def iy (a b:aL):Bool:=T9.iT a.t b.t
theorem woM:Sr.WO iy:=⟨fun a=>T9.woK.irr a.t,fun a b c=>T9.woK.tr a.t b.t c.t,fun a b c=>T9.woK.ng a.t b.t c.t⟩
theorem fJ (l:T9.Li):(bf l).length=2:=rfl
theorem aU (m:aL):(az m).length=7:=rfl
theorem kK (l:T9.Li):∀ v∈bf l,v.oneCell'=true:=by
 intro v hv
 simp only [bf,List.mem_cons,List.not_mem_nil,or_false] at hv
 rcases hv with rfl | rfl <;> rfl
theorem dI (m:aL):∀ v∈az m,v.oneCell'=true:=by
 intro v hv
 simp only [az,List.mem_cons,List.not_mem_nil,or_false] at hv
 rcases hv with rfl | rfl | rfl | rfl | rfl | rfl | rfl <;> rfl
def aJ (ls:List T9.Li):List Value:=ls.flatMap bf
def ai (ms:List aL):List Value:=ms.flatMap az
def aB (ts:List (List UInt8)):List Value:=ts.map encS
theorem eU (ls:List T9.Li):(aJ ls).length=ls.length * 2:=jk fun l _=>fJ l
theorem aQ (ms:List aL):(ai ms).length=ms.length * 7:=jk fun m _=>aU m
theorem dC (ts:List (List UInt8)):(aB ts).length=ts.length:=by simp [aB]
theorem iD (ls:List T9.Li):∀ v∈aJ ls,v.oneCell'=true:=fun v hv=>by
 obtain⟨l,_,h⟩:=List.mem_flatMap.1 hv
 exact kK l v h
theorem cB (ms:List aL):∀ v∈ai ms,v.oneCell'=true:=fun v hv=>by
 obtain⟨l,_,h⟩:=List.mem_flatMap.1 hv
 exact dI l v h
theorem eT (ts:List (List UInt8)):∀ v∈aB ts,v.oneCell'=true:=fun v hv=>by
 obtain⟨l,_,rfl⟩:=List.mem_map.1 hv
 rfl
theorem yN (ls:List T9.Li) (l:T9.Li):aJ (ls++[l])=aJ ls++bf l:=by simp [aJ]
theorem gQ (ms:List aL) (m:aL):ai (ms++[m])=ai ms++az m:=by simp [ai]
theorem qI (ts:List (List UInt8)) (t:List UInt8):aB (ts++[t])=aB ts++[encS t]:=by simp [aB]
def aL.fine (m:aL) (w:World):Prop:=au w w.heap.size 0 m.A (aB m.t.tags)∧m.t.tags.length≤m.c
def KL (w:World) (A:Option Addr) (ms:List aL):Prop:=au w w.heap.size 0 A (ai ms)∧∀ m∈ms,m.fine w
def LL (w:World) (A:Option Addr) (ls:List T9.Li):Prop:=au w w.heap.size 0 A (aJ ls)
def GL (w:World) (A:Option Addr) (ts:List (List UInt8)):Prop:=au w w.heap.size 0 A (aB ts)
def ay (ms:List aL):List T9.Tk:=ms.map (·.t)
theorem aI (ms:List aL):(ay ms).length=ms.length:=by simp [ay]
theorem fC (ms:List aL) (m:aL):ay (ms++[m])=ay ms++[m.t]:=by simp [ay]
section
variable {w w' : World} {A : Option Addr} {ls : List T9.Li} {ms : List aL} {ts : List (List UInt8)}
theorem au.stay {xs:List Value} (h:au w w.heap.size 0 A xs) (hb:Below w.heap.size w w'):au w' w'.heap.size 0 A xs:=(h.below (Nat.le_refl _) hb).more hb.size
theorem LL.stay (h:LL w A ls) (hb:Below w.heap.size w w'):LL w' A ls:=au.stay h hb
theorem GL.stay (h:GL w A ts) (hb:Below w.heap.size w w'):GL w' A ts:=au.stay h hb
theorem aL.fine.stay {m:aL} (h:m.fine w) (hb:Below w.heap.size w w'):m.fine w':=⟨au.stay h.1 hb,h.2⟩
theorem KL.stay (h:KL w A ms) (hb:Below w.heap.size w w'):KL w' A ms:=⟨au.stay h.1 hb,fun m hm=>(h.2 m hm).stay hb⟩
theorem LL.nil:LL w A []:=au.nil
theorem GL.nil:GL w A []:=au.nil
theorem KL.nil:KL w A []:=⟨au.nil,by simp⟩
theorem LL.at_ (h:LL w A ls) {k:Nat} (hk:k<ls.length):∃ ad l,A=some ad∧ls[k]?=some l∧w.cell? (ad.add (k * 2))=some (.int .u64 (l.id:Int))∧w.cell? ⟨(ad.add (k * 2)).block,(ad.add (k * 2)).off+1,none⟩=some (.string (str l.name)):=by
 have hx:ls[k]?=some ls[k]:=List.getElem?_eq_getElem hk
 obtain⟨ad,e,_,hc⟩:=h (fun q=>by have:=eU ls;rw [q] at this;simp at this;omega)
 have c:∀ j u,j<2→(bf ls[k])[j]?=some u→w.cell? ((ad.add (k * 2)).add j)=some u:=fun j u hj hu=>by
  rw [addr_add]
  exact hc _ _ ((iB (f:=bf) (size:=2) (fun l _=>fJ l) hx hj).trans hu)
 exact⟨ad,ls[k],e,hx,c 0 _ (by omega) rfl,c 1 _ (by omega) rfl⟩
theorem GL.at_ (h:GL w A ts) {k:Nat} (hk:k<ts.length):∃ ad t,A=some ad∧ts[k]?=some t∧w.cell? (ad.add k)=some (.string (str t)):=by
 have hx:ts[k]?=some ts[k]:=List.getElem?_eq_getElem hk
 obtain⟨ad,e,hc⟩:=au.at_ h (k:=k) (by rw [dC];exact hk)
 refine⟨ad,ts[k],e,hx,?_⟩
 rw [hc]
 simp [aB,encS]
theorem KL.at_ (h:KL w A ms) {k:Nat} (hk:k<ms.length):∃ ad m,A=some ad∧ms[k]?=some m∧m.fine w∧w.cell? (ad.add (k * 7))=some (.int .u64 (m.t.id:Int))∧w.cell? ⟨(ad.add (k * 7)).block,(ad.add (k * 7)).off+1,none⟩=some (.int .u64 (m.t.list:Int)) ∧
  w.cell? ⟨(ad.add (k * 7)).block,(ad.add (k * 7)).off+2,none⟩=some (.string (str m.t.title))∧w.cell? ⟨(ad.add (k * 7)).block,(ad.add (k * 7)).off+3,none⟩=some (.bool m.t.done)∧w.cell? ⟨(ad.add (k * 7)).block,(ad.add (k * 7)).off+4,none⟩=some (.float .f64 m.t.rank) ∧
  w.cell? ⟨(ad.add (k * 7)).block,(ad.add (k * 7)).off+5,none⟩=some (.float .f64 m.t.est)∧w.cell? ⟨(ad.add (k * 7)).block,(ad.add (k * 7)).off+6,none⟩=some (.slice m.A m.t.tags.length m.c):=by
 have hx:ms[k]?=some ms[k]:=List.getElem?_eq_getElem hk
 obtain⟨ad,e,_,hc⟩:=h.1 (fun q=>by have:=aQ ms;rw [q] at this;simp at this;omega)
 have c:∀ j u,j<7→(az ms[k])[j]?=some u→w.cell? ((ad.add (k * 7)).add j)=some u:=fun j u hj hu=>by
  rw [addr_add]
  exact hc _ _ ((iB (f:=az) (size:=7) (fun l _=>aU l) hx hj).trans hu)
 exact⟨ad,ms[k],e,hx,h.2 _ (List.getElem_mem hk),c 0 _ (by omega) rfl,c 1 _ (by omega) rfl,c 2 _ (by omega) rfl,c 3 _ (by omega) rfl,c 4 _ (by omega) rfl,c 5 _ (by omega) rfl,c 6 _ (by omega) rfl⟩
theorem aL.fine.gl {m:aL} (h:m.fine w):GL w m.A m.t.tags:=h.1
end
theorem aa {w:World} {g:Nat} {a b:Value} {t:TypeId} {fr:Nat × Nat} (h:w.heap[g]?=some (.cells #[a,b] t fr)):w.cell? ⟨g,0,none⟩=some a∧w.cell? ⟨g,1,none⟩=some b:=⟨by simp [World.cell?,h],by simp [World.cell?,h]⟩
theorem aj {w:World} {p:Nat} {t:TypeId} {a b c d e f g:Value} {fr:Nat × Nat} (h:w.heap[p]?=some (.cells #[a,b,c,d,e,f,g] t fr)):w.cell? ⟨p,0,none⟩=some a∧w.cell? ⟨p,1,none⟩=some b∧w.cell? ⟨p,2,none⟩=some c∧w.cell? ⟨p,3,none⟩=some d∧w.cell? ⟨p,4,none⟩=some e∧w.cell? ⟨p,5,none⟩=some f∧w.cell? ⟨p,6,none⟩=some g:=by
 simp [World.cell?,h]
structure aW where
 ls:List T9.Li
 A:Option Addr
 c:Nat
 ms:List aL
 A2:Option Addr
 c2:Nat
def aW.val (m:aW):Value:=.agg #[.slice m.A m.ls.length m.c,.slice m.A2 m.ms.length m.c2]
def aW.st (m:aW):T9.St:=⟨m.ls,ay m.ms⟩
structure SM (m:aW) (w:World):Prop where
 l:LL w m.A m.ls
 k:KL w m.A2 m.ms
 lc:m.ls.length≤m.c
 kc:m.ms.length≤m.c2
theorem SM.stay {m:aW} {w w':World} (h:SM m w) (hb:Below w.heap.size w w'):SM m w':=⟨h.l.stay hb,h.k.stay hb,h.lc,h.kc⟩
theorem dD {w w':World} {B:Nat} {t:TypeId} {A:Option Addr} {xs:List Value} {ts:List TypeId} (h:au w 0 t A xs) (hT:aN B ts w w') (ht:t ∉ ts):au w' 0 t A xs :=
 h.keep fun b hb=>by
  rcases hb with q | ⟨cs,fr,q⟩
  ·omega
  ·rw [hT.blk q ht,q]
def aL.iW (m:aL) (w:World):Prop:=au w 0 9 m.A (aB m.t.tags)∧m.t.tags.length≤m.c
theorem aL.iW.fine {m:aL} {w:World} (h:m.iW w):m.fine w:=⟨h.1.old,h.2⟩
theorem aL.iW.stay {m:aL} {w w':World} (h:m.iW w) (hb:Below w.heap.size w w'):m.iW w':=⟨h.1.below (Nat.zero_le _) hb,h.2⟩
theorem aL.iW.bH {m:aL} {w w':World} {B:Nat} {ts:List TypeId} (h:m.iW w) (hT:aN B ts w w') (hs:9 ∉ ts):m.iW w' :=
 ⟨h.1.keep fun b hb=>by
  rcases hb with q | ⟨cs,fr,q⟩
  ·omega
  ·rw [hT.blk q hs,q],h.2⟩
structure j_ (m:aW) (w:World):Prop where
 l:au w 0 71 m.A (aJ m.ls)
 k:au w 0 74 m.A2 (ai m.ms)
 t:∀ x∈m.ms,x.iW w
 lc:m.ls.length≤m.c
 kc:m.ms.length≤m.c2
theorem j_.sm {m:aW} {w:World} (h:j_ m w):SM m w:=⟨h.l.old,⟨h.k.old,fun x hx=>(h.t x hx).fine⟩,h.lc,h.kc⟩
theorem j_.bH {m:aW} {w w':World} {B:Nat} {ts:List TypeId} (h:j_ m w) (hT:aN B ts w w') (h1:71 ∉ ts) (h2:74 ∉ ts) (h3:9 ∉ ts):j_ m w':=⟨dD h.l hT h1,dD h.k hT h2,fun x hx=>(h.t x hx).bH hT h3,h.lc,h.kc⟩
theorem j_.stay {m:aW} {w w':World} (h:j_ m w) (hb:Below w.heap.size w w'):j_ m w':=h.bH (aN.of_below hb (Nat.le_refl _) []) (by simp) (by simp) (by simp)
end
end
section
namespace Sr
section
variable {α : Type} {lt : α → α → Bool}
theorem Jg [DecidableEq α] (h:WO lt) {l r:List α} (s:gG lt l r):r.Perm l:=by
 rw [List.perm_iff_count]
 intro a
 have e:=congrArg (List.count a) (s a)
 rw [List.count_filter (jV h a),List.count_filter (jV h a)] at e
 exact e
theorem srt_str {r:List α} (hs:fO lt r) (hd:r.Pairwise fun a b=>gX lt a b=false):Str lt r:=by
 unfold Str fO at *
 refine (hs.and hd).imp fun {a b} hk=>?_
 obtain⟨h,k⟩:=hk
 unfold gX at k
 rw [h] at k
 simpa using k
theorem vv (h:WO lt):∀ {l r:List α},Str lt l→Str lt r→l.Perm r→l=r
 | [],r,_,_,p=>(List.nil_perm.1 p).symm
 | x :: l,[],_,_,p=>absurd (List.perm_nil.1 p) (by simp)
 | x :: l,y :: r,hl,hr,p=>by
  have hl':=List.pairwise_cons.1 hl
  have hr':=List.pairwise_cons.1 hr
  have hx:x∈y :: r:=p.mem_iff.1 List.mem_cons_self
  have hy:y∈x :: l:=p.mem_iff.2 List.mem_cons_self
  have e:x=y:=by
   rcases List.mem_cons.1 hx with q | q
   ·exact q
   ·rcases List.mem_cons.1 hy with q2 | q2
    ·exact q2.symm
    ·have a:=hr'.1 x q
     have b:=hl'.1 y q2
     rw [h.asym a] at b
     cases b
  subst e
  rw [vv h hl'.2 hr'.2 (List.Perm.cons_inv p)]
end
end Sr
namespace Fl
def xK (k:Nat):Nat:=FloatKind.f64.nearest (k:Int)
theorem Gu:∀ k,k≤80→xK k<18446744073709551616∧dw (xK k)=false∧(I (xK k)==I (canon (xK k)))=true∧xK k<9223372036854775808:=by
 intro k hk
 have q:∀ k:Fin 81,xK k.1<18446744073709551616∧dw (xK k.1)=false∧(I (xK k.1)==I (canon (xK k.1)))=true∧xK k.1<9223372036854775808:=by decide +kernel
 exact q ⟨k,by omega⟩
end Fl
namespace T9
def kT (a b:Tk):Bool:=Fl.lt a.rank b.rank || (!Fl.lt b.rank a.rank && decide (a.id<b.id))
theorem mU {a b:Tk}:kT a b=true↔Fl.pl a.rank<Fl.pl b.rank∨(Fl.pl a.rank=Fl.pl b.rank∧a.id<b.id):=by
 unfold kT
 rw [Bool.or_eq_true,Bool.and_eq_true,Fl.rE,Bool.not_eq_true',Fl.Ht,decide_eq_true_iff]
 omega
theorem rD {a b:Tk}:kT a b=false↔Fl.pl b.rank<Fl.pl a.rank∨(Fl.pl a.rank=Fl.pl b.rank∧b.id≤a.id):=by
 rw [← Bool.not_eq_true,mU]
 omega
theorem EO:Sr.WO kT:=⟨fun a=>by rw [rD];exact .inr ⟨rfl,Nat.le_refl _⟩,fun a b c h k=>by rw [mU] at *;omega,fun a b c h=>by rw [mU,mU] at *;omega⟩
theorem eqvR {a b:Tk} (h:a.id≠b.id):Sr.gX kT a b=false:=by
 cases e:Sr.gX kT a b with
 | false=>rfl
 | true =>
  unfold Sr.gX at e
  rw [Bool.and_eq_true,Bool.not_eq_true',Bool.not_eq_true',rD,rD] at e
  omega
def fH (ts:List Tk) (list:Nat):List Tk:=ts.filter fun t=>t.list==list
def uz (ts:List Tk) (list:Nat) (r:List Tk):Prop:=Sr.fO kT r∧Sr.gG kT (fH ts list) r
theorem uz.perm {ts r:List Tk} {list:Nat} (h:uz ts list r):r.Perm (fH ts list):=Sr.Jg EO h.2
def rq (ts:List Tk):Prop:=ts.Pairwise fun a b=>a.id≠b.id
theorem rq.filter {ts:List Tk} (h:rq ts) (p:Tk→Bool):rq (ts.filter p):=List.Pairwise.filter p h
theorem rq.perm {l r:List Tk} (h:rq l) (p:r.Perm l):rq r:=(p.pairwise_iff (fun q=>Ne.symm q)).2 h
theorem rq.str {r:List Tk} (h:rq r) (hs:Sr.fO kT r):Sr.Str kT r:=Sr.srt_str hs (h.imp fun q=>eqvR q)
theorem uz.str {ts r:List Tk} {list:Nat} (h:uz ts list r) (u:rq ts):Sr.Str kT r:=((u.filter _).perm h.perm).str h.1
theorem uz.is {ts r x:List Tk} {list:Nat} (h:uz ts list r) (u:rq ts) (hx:Sr.Str kT x) (p:x.Perm (fH ts list)):r=x:=Sr.vv EO (h.str u) hx (h.perm.trans p.symm)
def xM (l:List Tk) (id:Nat):Option Nat:=l.findIdx? fun t=>t.id==id
end T9
end
end Go.Proofs.YtcedlgedmkghgaaGreat
