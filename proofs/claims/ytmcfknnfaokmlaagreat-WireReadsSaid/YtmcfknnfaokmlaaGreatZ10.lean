import Derived.Test.YtmcfknnfaokmlaaGreatZ5
import Derived.Test.YtmcfknnfaokmlaaGreatZ9
import Derived.Test.YtmcfknnfaokmlaaGreatZ7
import Derived.Test.YtmcfknnfaokmlaaGreatZ3
import Derived.Test.YtmcfknnfaokmlaaGreatZ2
namespace Go.Proofs.YtmcfknnfaokmlaaGreat
set_option maxHeartbeats 16000000
set_option linter.unusedSimpArgs false
set_option maxRecDepth 100000
section
open Go.RowKit
namespace T9
structure Li where
 id:Nat
 name:List UInt8
structure Tk where
 id:Nat
 list:Nat
 title:List UInt8
 done:Bool
 rank:Nat
 est:Nat
 tags:List (List UInt8)
structure St where
 lists:List Li
 tasks:List Tk
instance:Inhabited Li:=⟨⟨0,[]⟩⟩
instance:Inhabited Tk:=⟨⟨0,0,[],false,0,0,[]⟩⟩
instance:Inhabited St:=⟨⟨[],[]⟩⟩
theorem Li.fu {a b:Li}:a=b↔a.id=b.id∧a.name=b.name:=by
 cases a;cases b;simp
instance:DecidableEq Li:=fun _ _=>decidable_of_iff _ Li.fu.symm
theorem Tk.fu {a b:Tk}:a=b↔a.id=b.id∧a.list=b.list∧a.title=b.title∧a.done=b.done∧a.rank=b.rank∧a.est=b.est∧a.tags=b.tags:=by
 cases a;cases b;simp
instance:DecidableEq Tk:=fun _ _=>decidable_of_iff _ Tk.fu.symm
theorem St.fu {a b:St}:a=b↔a.lists=b.lists∧a.tasks=b.tasks:=by
 cases a;cases b;simp
instance:DecidableEq St:=fun _ _=>decidable_of_iff _ St.fu.symm
def Tk.ok (t:Tk):Prop:=t.id<18446744073709551616∧t.list<18446744073709551616∧t.rank<18446744073709551616∧t.est<18446744073709551616
def Li.ok (l:Li):Prop:=l.id<18446744073709551616
def St.ok (s:St):Prop:=(∀ l∈s.lists,l.ok)∧∀ t∈s.tasks,t.ok
def ltL (a b:Li):Bool:=decide (a.id<b.id)
def ltK (a b:Tk):Bool:=decide (a.id<b.id)
def uI (a b:List UInt8):Bool:=decide (a<b)
def norm (t:Tk):Tk:={ t with rank:=Fl.canon t.rank,est:=Fl.canon t.est,tags:=Sr.canon uI t.tags }
def canon (s:St):St:=⟨Sr.canon ltL s.lists,(Sr.canon ltK s.tasks).map norm⟩
def bM (a b:Tk):Bool:=a.id==b.id && a.list==b.list && decide (a.title=b.title) && a.done==b.done && Fl.same a.rank b.rank && Fl.same a.est b.est && decide (a.tags=b.tags)
def dn:List Tk→List Tk→Bool
 | [],[]=>true
 | a :: l,b :: m=>bM a b && dn l m
 | _,_=>false
def same (a b:St):Bool:=decide (a.lists=b.lists) && dn a.tasks b.tasks
theorem yg (a:Tk):bM a a=true:=by simp [bM,Fl.same]
theorem qx:∀ l:List Tk,dn l l=true
 | []=>rfl
 | a :: l=>by simp [dn,yg,qx l]
theorem AB (s:St):same s s=true:=by simp [same,qx]
theorem nz:∀ {l m:List Tk},dn l m=true→l.length=m.length
 | [],[],_=>rfl
 | a :: l,b :: m,h=>by
  simp only [dn,Bool.and_eq_true] at h
  rw [List.length_cons,List.length_cons,nz h.2]
 | [],_ :: _,h=>by simp [dn] at h
 | _ :: _,[],h=>by simp [dn] at h
theorem qy {l m:List Tk} (hl:l.length=m.length) (a b:Tk):dn (l++[a]) (m++[b])=(dn l m && bM a b):=by
 induction l generalizing m with
 | nil =>
  cases m with
  | nil=>simp [dn]
  | cons b m=>simp at hl
 | cons x l ih =>
  cases m with
  | nil=>simp at hl
  | cons y m =>
   simp only [List.length_cons,Nat.add_right_cancel_iff] at hl
   simp [dn,ih hl,Bool.and_assoc]
end T9
section
structure fJ where
 t:T9.Tk
 A:Option Addr
 c:Nat
instance:Inhabited fJ:=⟨⟨default,none,0⟩⟩
def jm (l:T9.Li):List Value:=[.int .u64 (l.id:Int),.string (str l.name)]
def encS (s:List UInt8):Value:=.string (str s)
def dO (m:fJ):List Value:=[.int .u64 (m.t.id:Int),.int .u64 (m.t.list:Int),.string (str m.t.title),.bool m.t.done,.float .f64 m.t.rank,.float .f64 m.t.est,.slice m.A m.t.tags.length m.c]
theorem pg (l:T9.Li):(jm l).length=2:=rfl
theorem o_ (m:fJ):(dO m).length=7:=rfl
theorem u_ (l:T9.Li):∀ v∈jm l,v.oneCell'=true:=by
 intro v hv
 simp only [jm,List.mem_cons,List.not_mem_nil,or_false] at hv
 rcases hv with rfl | rfl <;> rfl
theorem uZ (m:fJ):∀ v∈dO m,v.oneCell'=true:=by
 intro v hv
 simp only [dO,List.mem_cons,List.not_mem_nil,or_false] at hv
 rcases hv with rfl | rfl | rfl | rfl | rfl | rfl | rfl <;> rfl
def dV (ls:List T9.Li):List Value:=ls.flatMap jm
def f_ (ms:List fJ):List Value:=ms.flatMap dO
def dA (ts:List (List UInt8)):List Value:=ts.map encS
theorem xQ (ls:List T9.Li):(dV ls).length=ls.length * 2:=jS fun l _=>pg l
theorem wN (ms:List fJ):(f_ ms).length=ms.length * 7:=jS fun m _=>o_ m
theorem xM (ts:List (List UInt8)):(dA ts).length=ts.length:=by simp [dA]
theorem nR (ls:List T9.Li) (l:T9.Li):dV (ls++[l])=dV ls++jm l:=by simp [dV]
theorem mF (ms:List fJ) (m:fJ):f_ (ms++[m])=f_ ms++dO m:=by simp [f_]
theorem nN (ts:List (List UInt8)) (t:List UInt8):dA (ts++[t])=dA ts++[encS t]:=by simp [dA]
def fJ.fine (m:fJ) (w:World):Prop:=av w w.heap.size 0 m.A (dA m.t.tags)∧m.t.tags.length≤m.c
def KL (w:World) (A:Option Addr) (ms:List fJ):Prop:=av w w.heap.size 0 A (f_ ms)∧∀ m∈ms,m.fine w
def LL (w:World) (A:Option Addr) (ls:List T9.Li):Prop:=av w w.heap.size 0 A (dV ls)
def GL (w:World) (A:Option Addr) (ts:List (List UInt8)):Prop:=av w w.heap.size 0 A (dA ts)
def bg (ms:List fJ):List T9.Tk:=ms.map (·.t)
theorem bv (ms:List fJ):(bg ms).length=ms.length:=by simp [bg]
theorem gq (ms:List fJ) (m:fJ):bg (ms++[m])=bg ms++[m.t]:=by simp [bg]
section
variable {w w' : World} {A : Option Addr} {ls : List T9.Li} {ms : List fJ} {ts : List (List UInt8)}
theorem LL.stay (h:LL w A ls) (hb:Below w.heap.size w w'):LL w' A ls:=av.stay h hb
theorem GL.stay (h:GL w A ts) (hb:Below w.heap.size w w'):GL w' A ts:=av.stay h hb
theorem fJ.fine.stay {m:fJ} (h:m.fine w) (hb:Below w.heap.size w w'):m.fine w':=⟨av.stay h.1 hb,h.2⟩
theorem KL.stay (h:KL w A ms) (hb:Below w.heap.size w w'):KL w' A ms:=⟨av.stay h.1 hb,fun m hm=>(h.2 m hm).stay hb⟩
theorem LL.nil:LL w A []:=av.nil
theorem GL.nil:GL w A []:=av.nil
theorem KL.nil:KL w A []:=⟨av.nil,by simp⟩
theorem LL.at_ (h:LL w A ls) {k:Nat} (hk:k<ls.length):∃ ad l,A=some ad∧ls[k]?=some l∧w.cell? (ad.add (k * 2))=some (.int .u64 (l.id:Int))∧w.cell? ⟨(ad.add (k * 2)).block,(ad.add (k * 2)).off+1,none⟩=some (.string (str l.name)):=by
 have hx:ls[k]?=some ls[k]:=List.getElem?_eq_getElem hk
 obtain⟨ad,e,_,hc⟩:=h (fun q=>by have:=xQ ls;rw [q] at this;simp at this;omega)
 have c:∀ j u,j<2→(jm ls[k])[j]?=some u→w.cell? ((ad.add (k * 2)).add j)=some u:=fun j u hj hu=>by
  rw [addr_add]
  exact hc _ _ ((mR (f:=jm) (size:=2) (fun l _=>pg l) hx hj).trans hu)
 exact⟨ad,ls[k],e,hx,c 0 _ (by omega) rfl,c 1 _ (by omega) rfl⟩
theorem GL.at_ (h:GL w A ts) {k:Nat} (hk:k<ts.length):∃ ad t,A=some ad∧ts[k]?=some t∧w.cell? (ad.add k)=some (.string (str t)):=by
 have hx:ts[k]?=some ts[k]:=List.getElem?_eq_getElem hk
 obtain⟨ad,e,hc⟩:=av.at_ h (k:=k) (by rw [xM];exact hk)
 refine⟨ad,ts[k],e,hx,?_⟩
 rw [hc]
 simp [dA,encS]
theorem KL.at_ (h:KL w A ms) {k:Nat} (hk:k<ms.length):∃ ad m,A=some ad∧ms[k]?=some m∧m.fine w∧w.cell? (ad.add (k * 7))=some (.int .u64 (m.t.id:Int))∧w.cell? ⟨(ad.add (k * 7)).block,(ad.add (k * 7)).off+1,none⟩=some (.int .u64 (m.t.list:Int)) ∧
  w.cell? ⟨(ad.add (k * 7)).block,(ad.add (k * 7)).off+2,none⟩=some (.string (str m.t.title))∧w.cell? ⟨(ad.add (k * 7)).block,(ad.add (k * 7)).off+3,none⟩=some (.bool m.t.done)∧w.cell? ⟨(ad.add (k * 7)).block,(ad.add (k * 7)).off+4,none⟩=some (.float .f64 m.t.rank) ∧
  w.cell? ⟨(ad.add (k * 7)).block,(ad.add (k * 7)).off+5,none⟩=some (.float .f64 m.t.est)∧w.cell? ⟨(ad.add (k * 7)).block,(ad.add (k * 7)).off+6,none⟩=some (.slice m.A m.t.tags.length m.c):=by
 have hx:ms[k]?=some ms[k]:=List.getElem?_eq_getElem hk
 obtain⟨ad,e,_,hc⟩:=h.1 (fun q=>by have:=wN ms;rw [q] at this;simp at this;omega)
 have c:∀ j u,j<7→(dO ms[k])[j]?=some u→w.cell? ((ad.add (k * 7)).add j)=some u:=fun j u hj hu=>by
  rw [addr_add]
  exact hc _ _ ((mR (f:=dO) (size:=7) (fun l _=>o_ l) hx hj).trans hu)
 exact⟨ad,ms[k],e,hx,h.2 _ (List.getElem_mem hk),c 0 _ (by omega) rfl,c 1 _ (by omega) rfl,c 2 _ (by omega) rfl,c 3 _ (by omega) rfl,c 4 _ (by omega) rfl,c 5 _ (by omega) rfl,c 6 _ (by omega) rfl⟩
theorem fJ.fine.gl {m:fJ} (h:m.fine w):GL w m.A m.t.tags:=h.1
end
theorem ak {w:World} {p:Nat} {t:TypeId} {a b c d e f g:Value} {fr:Nat × Nat} (h:w.heap[p]?=some (.cells #[a,b,c,d,e,f,g] t fr)):w.cell? ⟨p,0,none⟩=some a∧w.cell? ⟨p,1,none⟩=some b∧w.cell? ⟨p,2,none⟩=some c∧w.cell? ⟨p,3,none⟩=some d∧w.cell? ⟨p,4,none⟩=some e∧w.cell? ⟨p,5,none⟩=some f∧w.cell? ⟨p,6,none⟩=some g:=by
 simp [World.cell?,h]
structure ji where
 ls:List T9.Li
 A:Option Addr
 c:Nat
 ms:List fJ
 A2:Option Addr
 c2:Nat
def ji.val (m:ji):Value:=.agg #[.slice m.A m.ls.length m.c,.slice m.A2 m.ms.length m.c2]
def ji.st (m:ji):T9.St:=⟨m.ls,bg m.ms⟩
structure SM (m:ji) (w:World):Prop where
 l:LL w m.A m.ls
 k:KL w m.A2 m.ms
 lc:m.ls.length≤m.c
 kc:m.ms.length≤m.c2
theorem SM.stay {m:ji} {w w':World} (h:SM m w) (hb:Below w.heap.size w w'):SM m w':=⟨h.l.stay hb,h.k.stay hb,h.lc,h.kc⟩
theorem gP {w w':World} {B:Nat} {t:TypeId} {A:Option Addr} {xs:List Value} {ts:List TypeId} (h:av w 0 t A xs) (hT:aG B ts w w') (ht:t ∉ ts):av w' 0 t A xs :=
 h.keep fun b hb=>by
  rcases hb with q | ⟨cs,fr,q⟩
  ·omega
  ·rw [hT.blk q ht,q]
def fJ.rU (m:fJ) (w:World):Prop:=av w 0 9 m.A (dA m.t.tags)∧m.t.tags.length≤m.c
theorem fJ.rU.fine {m:fJ} {w:World} (h:m.rU w):m.fine w:=⟨h.1.old,h.2⟩
theorem fJ.rU.cZ {m:fJ} {w w':World} {B:Nat} {ts:List TypeId} (h:m.rU w) (hT:aG B ts w w') (hs:9 ∉ ts):m.rU w' :=
 ⟨h.1.keep fun b hb=>by
  rcases hb with q | ⟨cs,fr,q⟩
  ·omega
  ·rw [hT.blk q hs,q],h.2⟩
structure AZ (m:ji) (w:World):Prop where
 l:av w 0 94 m.A (dV m.ls)
 k:av w 0 97 m.A2 (f_ m.ms)
 t:∀ x∈m.ms,x.rU w
 lc:m.ls.length≤m.c
 kc:m.ms.length≤m.c2
theorem AZ.sm {m:ji} {w:World} (h:AZ m w):SM m w:=⟨h.l.old,⟨h.k.old,fun x hx=>(h.t x hx).fine⟩,h.lc,h.kc⟩
theorem AZ.cZ {m:ji} {w w':World} {B:Nat} {ts:List TypeId} (h:AZ m w) (hT:aG B ts w w') (h1:94 ∉ ts) (h2:97 ∉ ts) (h3:9 ∉ ts):AZ m w':=⟨gP h.l hT h1,gP h.k hT h2,fun x hx=>(h.t x hx).cZ hT h3,h.lc,h.kc⟩
theorem AZ.stay {m:ji} {w w':World} (h:AZ m w) (hb:Below w.heap.size w w'):AZ m w':=h.cZ (aG.of_below hb (Nat.le_refl _) []) (by simp) (by simp) (by simp)
end
end
end Go.Proofs.YtmcfknnfaokmlaaGreat
