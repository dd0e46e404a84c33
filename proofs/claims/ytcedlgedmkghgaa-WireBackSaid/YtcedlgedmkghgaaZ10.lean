import Derived.Test.YtcedlgedmkghgaaZ1
import Derived.Test.YtcedlgedmkghgaaZ7
import Derived.Test.YtcedlgedmkghgaaZ4
import Derived.Test.YtcedlgedmkghgaaZ8
import Derived.Test.YtcedlgedmkghgaaZ9
namespace Go.Proofs.Ytcedlgedmkghgaa
set_option maxHeartbeats 16000000
set_option linter.unusedSimpArgs false
set_option maxRecDepth 100000
section
open Go.RowKit
namespace T9
structure Li where
 id:Nat
 name:List UInt8
structure Tk where
 id:Nat
 list:Nat
 title:List UInt8
 done:Bool
 rank:Nat
 est:Nat
 tags:List (List UInt8)
structure St where
 lists:List Li
 tasks:List Tk
instance:Inhabited Li:=⟨⟨0,[]⟩⟩
instance:Inhabited Tk:=⟨⟨0,0,[],false,0,0,[]⟩⟩
instance:Inhabited St:=⟨⟨[],[]⟩⟩
theorem Li.dF {a b:Li}:a=b↔a.id=b.id∧a.name=b.name:=by
 cases a;cases b;simp
instance:DecidableEq Li:=fun _ _=>decidable_of_iff _ Li.dF.symm
theorem Tk.dF {a b:Tk}:a=b↔a.id=b.id∧a.list=b.list∧a.title=b.title∧a.done=b.done∧a.rank=b.rank∧a.est=b.est∧a.tags=b.tags:=by
 cases a;cases b;simp
instance:DecidableEq Tk:=fun _ _=>decidable_of_iff _ Tk.dF.symm
theorem St.dF {a b:St}:a=b↔a.lists=b.lists∧a.tasks=b.tasks:=by
 cases a;cases b;simp
instance:DecidableEq St:=fun _ _=>decidable_of_iff _ St.dF.symm
def Tk.ok (t:Tk):Prop:=t.id<18446744073709551616∧t.list<18446744073709551616∧t.rank<18446744073709551616∧t.est<18446744073709551616
def Li.ok (l:Li):Prop:=l.id<18446744073709551616
def St.ok (s:St):Prop:=(∀ l∈s.lists,l.ok)∧∀ t∈s.tasks,t.ok
def ltL (a b:Li):Bool:=decide (a.id<b.id)
def ltK (a b:Tk):Bool:=decide (a.id<b.id)
def ltS (a b:List UInt8):Bool:=decide (a<b)
def norm (t:Tk):Tk:={ t with rank:=Fl.canon t.rank,est:=Fl.canon t.est,tags:=Sr.canon ltS t.tags }
def canon (s:St):St:=⟨Sr.canon ltL s.lists,(Sr.canon ltK s.tasks).map norm⟩
def bX (a b:Tk):Bool:=a.id==b.id && a.list==b.list && decide (a.title=b.title) && a.done==b.done && Fl.same a.rank b.rank && Fl.same a.est b.est && decide (a.tags=b.tags)
def bY:List Tk→List Tk→Bool
 | [],[]=>true
 | a :: l,b :: m=>bX a b && bY l m
 | _,_=>false
def same (a b:St):Bool:=decide (a.lists=b.lists) && bY a.tasks b.tasks
theorem rC (a:Tk):bX a a=true:=by simp [bX,Fl.same]
theorem lJ:∀ l:List Tk,bY l l=true
 | []=>rfl
 | a :: l=>by simp [bY,rC,lJ l]
theorem uP (s:St):same s s=true:=by simp [same,lJ]
theorem mV:∀ {l m:List Tk},bY l m=true→l.length=m.length
 | [],[],_=>rfl
 | a :: l,b :: m,h=>by
  simp only [bY,Bool.and_eq_true] at h
  rw [List.length_cons,List.length_cons,mV h.2]
 | [],_ :: _,h=>by simp [bY] at h
 | _ :: _,[],h=>by simp [bY] at h
theorem rG {l m:List Tk} (hl:l.length=m.length) (a b:Tk):bY (l++[a]) (m++[b])=(bY l m && bX a b):=by
 induction l generalizing m with
 | nil =>
  cases m with
  | nil=>simp [bY]
  | cons b m=>simp at hl
 | cons x l ih =>
  cases m with
  | nil=>simp at hl
  | cons y m =>
   simp only [List.length_cons,Nat.add_right_cancel_iff] at hl
   simp [bY,ih hl,Bool.and_assoc]
end T9
section
structure fe where
 t:T9.Tk
 A:Option Addr
 c:Nat
instance:Inhabited fe:=⟨⟨default,none,0⟩⟩
def jr (l:T9.Li):List Value:=[.int .u64 (l.id:Int),.string (str l.name)]
def encS (s:List UInt8):Value:=.string (str s)
def dm (m:fe):List Value:=[.int .u64 (m.t.id:Int),.int .u64 (m.t.list:Int),.string (str m.t.title),.bool m.t.done,.float .f64 m.t.rank,.float .f64 m.t.est,.slice m.A m.t.tags.length m.c]
theorem kN (l:T9.Li):(jr l).length=2:=rfl
theorem kM (m:fe):(dm m).length=7:=rfl
theorem vQ (l:T9.Li):∀ v∈jr l,v.oneCell'=true:=by
 intro v hv
 simp only [jr,List.mem_cons,List.not_mem_nil,or_false] at hv
 rcases hv with rfl | rfl <;> rfl
theorem vP (m:fe):∀ v∈dm m,v.oneCell'=true:=by
 intro v hv
 simp only [dm,List.mem_cons,List.not_mem_nil,or_false] at hv
 rcases hv with rfl | rfl | rfl | rfl | rfl | rfl | rfl <;> rfl
def dY (ls:List T9.Li):List Value:=ls.flatMap jr
def fE (ms:List fe):List Value:=ms.flatMap dm
def dn (ts:List (List UInt8)):List Value:=ts.map encS
theorem qX (ls:List T9.Li):(dY ls).length=ls.length * 2:=gN fun l _=>kN l
theorem qw (ms:List fe):(fE ms).length=ms.length * 7:=gN fun m _=>kM m
theorem qR (ts:List (List UInt8)):(dn ts).length=ts.length:=by simp [dn]
theorem pz (ls:List T9.Li) (l:T9.Li):dY (ls++[l])=dY ls++jr l:=by simp [dY]
theorem oC (ms:List fe) (m:fe):fE (ms++[m])=fE ms++dm m:=by simp [fE]
theorem oW (ts:List (List UInt8)) (t:List UInt8):dn (ts++[t])=dn ts++[encS t]:=by simp [dn]
def fe.fine (m:fe) (w:World):Prop:=ah w w.heap.size 0 m.A (dn m.t.tags)∧m.t.tags.length≤m.c
def KL (w:World) (A:Option Addr) (ms:List fe):Prop:=ah w w.heap.size 0 A (fE ms)∧∀ m∈ms,m.fine w
def LL (w:World) (A:Option Addr) (ls:List T9.Li):Prop:=ah w w.heap.size 0 A (dY ls)
def GL (w:World) (A:Option Addr) (ts:List (List UInt8)):Prop:=ah w w.heap.size 0 A (dn ts)
def bS (ms:List fe):List T9.Tk:=ms.map (·.t)
theorem bO (ms:List fe):(bS ms).length=ms.length:=by simp [bS]
theorem je (ms:List fe) (m:fe):bS (ms++[m])=bS ms++[m.t]:=by simp [bS]
section
variable {w w' : World} {A : Option Addr} {ls : List T9.Li} {ms : List fe} {ts : List (List UInt8)}
theorem ah.stay {xs:List Value} (h:ah w w.heap.size 0 A xs) (hb:Below w.heap.size w w'):ah w' w'.heap.size 0 A xs:=(h.below (Nat.le_refl _) hb).more hb.size
theorem LL.stay (h:LL w A ls) (hb:Below w.heap.size w w'):LL w' A ls:=ah.stay h hb
theorem GL.stay (h:GL w A ts) (hb:Below w.heap.size w w'):GL w' A ts:=ah.stay h hb
theorem fe.fine.stay {m:fe} (h:m.fine w) (hb:Below w.heap.size w w'):m.fine w':=⟨ah.stay h.1 hb,h.2⟩
theorem KL.stay (h:KL w A ms) (hb:Below w.heap.size w w'):KL w' A ms:=⟨ah.stay h.1 hb,fun m hm=>(h.2 m hm).stay hb⟩
theorem LL.nil:LL w A []:=ah.nil
theorem GL.nil:GL w A []:=ah.nil
theorem KL.nil:KL w A []:=⟨ah.nil,by simp⟩
theorem LL.at_ (h:LL w A ls) {k:Nat} (hk:k<ls.length):∃ ad l,A=some ad∧ls[k]?=some l∧w.cell? (ad.add (k * 2))=some (.int .u64 (l.id:Int))∧w.cell? ⟨(ad.add (k * 2)).block,(ad.add (k * 2)).off+1,none⟩=some (.string (str l.name)):=by
 have hx:ls[k]?=some ls[k]:=List.getElem?_eq_getElem hk
 obtain⟨ad,e,_,hc⟩:=h (fun q=>by have:=qX ls;rw [q] at this;simp at this;omega)
 have c:∀ j u,j<2→(jr ls[k])[j]?=some u→w.cell? ((ad.add (k * 2)).add j)=some u:=fun j u hj hu=>by
  rw [addr_add]
  exact hc _ _ ((jq (f:=jr) (size:=2) (fun l _=>kN l) hx hj).trans hu)
 exact⟨ad,ls[k],e,hx,c 0 _ (by omega) rfl,c 1 _ (by omega) rfl⟩
theorem GL.at_ (h:GL w A ts) {k:Nat} (hk:k<ts.length):∃ ad t,A=some ad∧ts[k]?=some t∧w.cell? (ad.add k)=some (.string (str t)):=by
 have hx:ts[k]?=some ts[k]:=List.getElem?_eq_getElem hk
 obtain⟨ad,e,hc⟩:=ah.at_ h (k:=k) (by rw [qR];exact hk)
 refine⟨ad,ts[k],e,hx,?_⟩
 rw [hc]
 simp [dn,encS]
theorem KL.at_ (h:KL w A ms) {k:Nat} (hk:k<ms.length):∃ ad m,A=some ad∧ms[k]?=some m∧m.fine w∧w.cell? (ad.add (k * 7))=some (.int .u64 (m.t.id:Int))∧w.cell? ⟨(ad.add (k * 7)).block,(ad.add (k * 7)).off+1,none⟩=some (.int .u64 (m.t.list:Int)) ∧
  w.cell? ⟨(ad.add (k * 7)).block,(ad.add (k * 7)).off+2,none⟩=some (.string (str m.t.title))∧w.cell? ⟨(ad.add (k * 7)).block,(ad.add (k * 7)).off+3,none⟩=some (.bool m.t.done)∧w.cell? ⟨(ad.add (k * 7)).block,(ad.add (k * 7)).off+4,none⟩=some (.float .f64 m.t.rank) ∧
  w.cell? ⟨(ad.add (k * 7)).block,(ad.add (k * 7)).off+5,none⟩=some (.float .f64 m.t.est)∧w.cell? ⟨(ad.add (k * 7)).block,(ad.add (k * 7)).off+6,none⟩=some (.slice m.A m.t.tags.length m.c):=by
 have hx:ms[k]?=some ms[k]:=List.getElem?_eq_getElem hk
 obtain⟨ad,e,_,hc⟩:=h.1 (fun q=>by have:=qw ms;rw [q] at this;simp at this;omega)
 have c:∀ j u,j<7→(dm ms[k])[j]?=some u→w.cell? ((ad.add (k * 7)).add j)=some u:=fun j u hj hu=>by
  rw [addr_add]
  exact hc _ _ ((jq (f:=dm) (size:=7) (fun l _=>kM l) hx hj).trans hu)
 exact⟨ad,ms[k],e,hx,h.2 _ (List.getElem_mem hk),c 0 _ (by omega) rfl,c 1 _ (by omega) rfl,c 2 _ (by omega) rfl,c 3 _ (by omega) rfl,c 4 _ (by omega) rfl,c 5 _ (by omega) rfl,c 6 _ (by omega) rfl⟩
theorem fe.fine.gl {m:fe} (h:m.fine w):GL w m.A m.t.tags:=h.1
end
theorem aj {w:World} {g:Nat} {a b:Value} {t:TypeId} {fr:Nat × Nat} (h:w.heap[g]?=some (.cells #[a,b] t fr)):w.cell? ⟨g,0,none⟩=some a∧w.cell? ⟨g,1,none⟩=some b:=⟨by simp [World.cell?,h],by simp [World.cell?,h]⟩
theorem ax {w:World} {p:Nat} {t:TypeId} {a b c d e f g:Value} {fr:Nat × Nat} (h:w.heap[p]?=some (.cells #[a,b,c,d,e,f,g] t fr)):w.cell? ⟨p,0,none⟩=some a∧w.cell? ⟨p,1,none⟩=some b∧w.cell? ⟨p,2,none⟩=some c∧w.cell? ⟨p,3,none⟩=some d∧w.cell? ⟨p,4,none⟩=some e∧w.cell? ⟨p,5,none⟩=some f∧w.cell? ⟨p,6,none⟩=some g:=by
 simp [World.cell?,h]
structure jk where
 ls:List T9.Li
 A:Option Addr
 c:Nat
 ms:List fe
 A2:Option Addr
 c2:Nat
def jk.val (m:jk):Value:=.agg #[.slice m.A m.ls.length m.c,.slice m.A2 m.ms.length m.c2]
def jk.st (m:jk):T9.St:=⟨m.ls,bS m.ms⟩
structure SM (m:jk) (w:World):Prop where
 l:LL w m.A m.ls
 k:KL w m.A2 m.ms
 lc:m.ls.length≤m.c
 kc:m.ms.length≤m.c2
theorem SM.stay {m:jk} {w w':World} (h:SM m w) (hb:Below w.heap.size w w'):SM m w':=⟨h.l.stay hb,h.k.stay hb,h.lc,h.kc⟩
theorem eH {w w':World} {B:Nat} {t:TypeId} {A:Option Addr} {xs:List Value} {ts:List TypeId} (h:ah w 0 t A xs) (hT:ay B ts w w') (ht:t ∉ ts):ah w' 0 t A xs :=
 h.keep fun b hb=>by
  rcases hb with q | ⟨cs,fr,q⟩
  ·omega
  ·rw [hT.blk q ht,q]
def fe.mP (m:fe) (w:World):Prop:=ah w 0 9 m.A (dn m.t.tags)∧m.t.tags.length≤m.c
theorem fe.mP.fine {m:fe} {w:World} (h:m.mP w):m.fine w:=⟨h.1.old,h.2⟩
theorem fe.mP.dB {m:fe} {w w':World} {B:Nat} {ts:List TypeId} (h:m.mP w) (hT:ay B ts w w') (hs:9 ∉ ts):m.mP w' :=
 ⟨h.1.keep fun b hb=>by
  rcases hb with q | ⟨cs,fr,q⟩
  ·omega
  ·rw [hT.blk q hs,q],h.2⟩
structure uW (m:jk) (w:World):Prop where
 l:ah w 0 66 m.A (dY m.ls)
 k:ah w 0 69 m.A2 (fE m.ms)
 t:∀ x∈m.ms,x.mP w
 lc:m.ls.length≤m.c
 kc:m.ms.length≤m.c2
theorem uW.sm {m:jk} {w:World} (h:uW m w):SM m w:=⟨h.l.old,⟨h.k.old,fun x hx=>(h.t x hx).fine⟩,h.lc,h.kc⟩
theorem uW.dB {m:jk} {w w':World} {B:Nat} {ts:List TypeId} (h:uW m w) (hT:ay B ts w w') (h1:66 ∉ ts) (h2:69 ∉ ts) (h3:9 ∉ ts):uW m w':=⟨eH h.l hT h1,eH h.k hT h2,fun x hx=>(h.t x hx).dB hT h3,h.lc,h.kc⟩
theorem uW.stay {m:jk} {w w':World} (h:uW m w) (hb:Below w.heap.size w w'):uW m w':=h.dB (ay.of_below hb (Nat.le_refl _) []) (by simp) (by simp) (by simp)
end
end
end Go.Proofs.Ytcedlgedmkghgaa
