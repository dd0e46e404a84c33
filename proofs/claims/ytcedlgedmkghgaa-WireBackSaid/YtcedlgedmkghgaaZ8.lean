import Derived.Test.YtcedlgedmkghgaaZ2
import Derived.Test.YtcedlgedmkghgaaZ5
import Derived.Test.YtcedlgedmkghgaaRows
import Derived.Deep.Slices
import Derived.Laws.MakeOwn
import Derived.Laws.ShiftsVarLaws
import Derived.Lib.SliceRun
import Derived.RegionTactic
namespace Go.Proofs.Ytcedlgedmkghgaa
set_option maxHeartbeats 16000000
set_option linter.unusedSimpArgs false
set_option maxRecDepth 100000
section
section
open Go.RowKit
theorem Try.infoU8:(Try.prog.info? 5).map (fun i=>(i.zero,i.size,i.bytes))=some (some (.int .u8 0),1,1):=by kernel_rfl
section
variable {w : World} {B : Nat} {A : Option Addr}
theorem ah.old {t t':TypeId} {xs:List Value} (h:ah w B t A xs):ah w w.heap.size t' A xs:=fun q=>by
 obtain⟨ad,e,hb,hc⟩:=h q
 refine⟨ad,e,.inl ?_,hc⟩
 obtain⟨u,hu⟩:∃ u,xs[0]?=some u:=by
  cases xs with
  | nil=>exact absurd rfl q
  | cons x xs=>exact⟨x,rfl⟩
 have:=World.block_lt_of_cell? _ _ (hc 0 u hu)
 rwa [dM] at this
end
theorem aB {w:World} {B base:Nat} {t:TypeId} {A:Option Addr} {size m n c:Nat} {xs:List Value} (h:w.ownsRow base t size (.slice A m c) n xs):ah w B t A xs:=by
 obtain⟨rfl,_⟩:=aC h
 exact ah.wW h
theorem gP {w:World} {B:Nat} {tb:TypeId} {A:Option Addr} {n c:Nat} {l:List UInt8} (hL:ah w B tb A (ae l)) (hn:n=l.length) :
  (convert 33 9 (.slice A n c)).run Try.prog w=.ok (.string (str l)) w :=
 xD w _ _ 5 Try.underlying33 Try.underlying5 Try.underlying9 (B:=B) (t:=tb) A n c l hn hL
theorem rX {n:Int} (h:0≤n) (j:Nat):n / 2 ^ (8 * j) % 256=((Cd.gY n.toNat j).toNat:Int):=by
 obtain⟨m,rfl⟩:∃ m:Nat,n=(m:Int):=⟨n.toNat,by omega⟩
 rw [Int.toNat_natCast,Cd.dE,Int.pow_mul]
 simp
def rU (B:Nat) (l:List UInt8) (w:World) (e:Ending) (w':World):Prop :=
 ∃ A n c,e=.returned (.slice A n c)∧w'.ownsRow B 5 1 (.slice A n c) l.length (ae l)∧Below B w w'
def fF (B:Nat) (er:Int) (l:List UInt8) (w:World) (e:Ending) (w':World):Prop :=
 ∃ A n c,e=.returned (.tuple #[.slice A n c,.int .i64 er])∧n=l.length∧n≤c∧w'.ownsRow B 5 1 (.slice A n c) n (ae l)∧Below B w w'
theorem fF.bad {w w':World} {er:Int} (h:Below w.heap.size w w'):fF w.heap.size er [] w (.returned (.tuple #[.slice none 0 0,.int .i64 er])) w' :=
 ⟨none,0,0,rfl,rfl,Nat.le_refl _,World.ownsRow_nil _ _ _ _,h⟩
def u7 (B:Nat) (l:List UInt8) (w:World) (e:Ending) (w':World):Prop :=
 ∃ A n c,e=.returned (.slice A n c)∧w'.ownsRow B 5 1 (.slice A n c) l.length (ae l)∧ay B [5] w w'
theorem u7.then {B:Nat} {l:List UInt8} {w w1 w':World} {e:Ending} (h:u7 B l w1 e w') (t:ay B [5] w w1):u7 B l w e w':=by
 obtain⟨A,n,c,h1,h2,h3⟩:=h
 exact⟨A,n,c,h1,h2,t.trans h3⟩
theorem lies1 {w:World} {b:UInt8} {x:Int} (hx:x=(b.toNat:Int)) {g:Nat} (hg:g=w.heap.size):ah (w.alloc (.cells #[.int .u8 x] 5)) 0 5 (some ⟨g,0,none⟩) (ae [b]):=by
 subst hx;subst hg
 exact ah.dG (heap_alloc_new w _)
theorem iO {B:Nat} {w w1:World} {v:Value} {n:Nat} {xs:List Value} (h:w.ownsRow B 5 1 v n xs) (hg:w.grownBy w1 v.ownBlock) (hB:B≤w.heap.size):ay B [5] w w1 :=
 dx h hg (Nat.le_refl _) hB (by decide)
end
section
open Go.RowKit
structure yc where
 b:List UInt8
 A:Option Addr
 c:Nat
def yc.cell (m:yc):Value:=.slice m.A m.b.length m.c
def oz (ms:List yc):List Value:=ms.map yc.cell
def yc.fine (m:yc) (w:World) (B:Nat) (tb:TypeId):Prop:=ah w B tb m.A (ae m.b)∧m.b.length≤m.c
def TL (w:World) (B:Nat) (tt tb:TypeId) (A:Option Addr) (ms:List yc):Prop:=ah w B tt A (oz ms)∧∀ m∈ms,m.fine w B tb
theorem below_drewN {B:Nat} {w w':World} (h:Below B w w') (n:Nat):Below B w (w'.drewN n):=⟨h.os,h.tape,h.output,h.size,h.block⟩
theorem rQ (ms:List yc):(oz ms).length=ms.length:=by simp [oz]
section
variable {w w' : World} {B B' : Nat} {tt tb tt' tb' : TypeId} {A : Option Addr} {ms : List yc}
theorem TL.nil:TL w B tt tb A []:=⟨ah.nil,by simp⟩
theorem TL.at_ (h:TL w B tt tb A ms) {k:Nat} (hk:k<ms.length):∃ ad m,A=some ad∧ms[k]?=some m∧m.fine w B tb∧w.cell? (ad.add k)=some (.slice m.A m.b.length m.c):=by
 have hx:ms[k]?=some ms[k]:=List.getElem?_eq_getElem hk
 obtain⟨ad,e,hc⟩:=h.1.at_ (k:=k) (by rw [rQ];exact hk)
 refine⟨ad,ms[k],e,hx,h.2 _ (List.getElem_mem hk),?_⟩
 rw [hc]
 simp [oz,yc.cell]
end
end
end
end Go.Proofs.Ytcedlgedmkghgaa
