import Derived.Test.YtcedlgedmkghgaaGreatZ4
import Derived.Test.YtcedlgedmkghgaaGreatZ3
import Derived.Test.YtcedlgedmkghgaaGreatZ16
import Derived.Test.YtcedlgedmkghgaaGreatZ2
import Derived.Lib.SliceRun
import Derived.Laws.IdiomStrings
import Derived.Laws.BitsAllLaws
import Derived.Lib.QuietBelow
import Derived.Test.YtcedlgedmkghgaaGreatRows
import Derived.WideKeyArgs
import Derived.Deep.Slices
import Derived.Laws.Cover2
import Derived.WalkSmall
import Derived.Deep.Fields
import Derived.Carry
namespace Go.Proofs.YtcedlgedmkghgaaGreat
set_option maxHeartbeats 16000000
open Go.Lib Go.Proofs.Tryz
set_option linter.unusedSimpArgs false
set_option maxRecDepth 100000
section
section
open Go.RowKit
def WS (B:Nat) (w:World) (p:Nat) (l:List UInt8):Prop :=
 B≤p∧∃ A c,w.heap[p]?=some (.cells #[.slice A l.length c] 91 (0,0))∧w.ownsRow B 5 1 (.slice A l.length c) l.length (fZ l)
section
variable {B : Nat} {w w' : World} {p : Nat} {l : List UInt8}
theorem WS.bH (h:WS B w p l) {B':Nat} {ts:List TypeId} (hT:aN B' ts w w') (h1:91 ∉ ts) (h2:5 ∉ ts):WS B w' p l:=by
 obtain⟨hB,A,c,hp,ho⟩:=h
 exact⟨hB,A,c,hT.blk hp h1,bP ho hT h2⟩
theorem WS.below (h:WS B w p l) (hT:Below w.heap.size w w'):WS B w' p l:=h.bH (aN.of_below hT (Nat.le_refl _) []) (by simp) (by simp)
theorem WS.alloc (h:WS B w p l) (o:Obj):WS B (w.alloc o) p l:=h.below ((Below.refl _ _).alloc (Nat.le_refl _) o)
theorem WS.size (h:WS B w p l):B≤w.heap.size:=by
 obtain⟨hB,_,_,hp,_⟩:=h
 have:=lt_of_block hp
 omega
end
end
section
open Go.RowKit
structure Cb where
 pt:Cd.Pt
 A:Option Addr
 c:Nat
def Cb.cells (m:Cb):List Value:=[.int .i64 m.pt.kind,.int .u64 m.pt.n,.int .i64 m.pt.i,.float .f64 m.pt.f,.slice m.A m.pt.b.length m.c,.bool m.pt.is]
def flat (ms:List Cb):List Value:=ms.flatMap Cb.cells
def Cb.fine (m:Cb) (w:World) (B:Nat) (tb:TypeId):Prop:=au w B tb m.A (fZ m.pt.b)∧m.pt.b.length≤m.c
def PL (w:World) (B:Nat) (tp tb:TypeId) (A:Option Addr) (ms:List Cb):Prop:=au w B tp A (flat ms)∧∀ m∈ms,m.fine w B tb
theorem Gt (ms:List Cb):(flat ms).length=ms.length * 6:=by
 induction ms with
 | nil=>rfl
 | cons m ms ih=>simp only [flat,List.flatMap_cons,List.length_append,List.length_cons] at ih ⊢;rw [ih];simp [Cb.cells];omega
theorem flat_at {ms:List Cb} {k:Nat} {m:Cb} (h:ms[k]?=some m) {j:Nat} (hj:j<6):(flat ms)[k * 6+j]?=m.cells[j]?:=by
 induction ms generalizing k with
 | nil=>simp at h
 | cons q ms ih =>
  have hq:q.cells.length=6:=rfl
  cases k with
  | zero =>
   simp only [List.getElem?_cons_zero,Option.some.injEq] at h
   subst h
   simp only [flat,List.flatMap_cons,Nat.zero_mul,Nat.zero_add]
   rw [List.getElem?_append_left (by omega)]
  | succ k =>
   simp only [List.getElem?_cons_succ] at h
   have:=ih h
   simp only [flat,List.flatMap_cons] at this ⊢
   rw [List.getElem?_append_right (by omega),hq,show (k+1) * 6+j - 6=k * 6+j by omega]
   exact this
theorem PL.nil {w:World} {B:Nat} {tp tb:TypeId} {A:Option Addr}:PL w B tp tb A []:=⟨au.nil,by simp⟩
section
variable {w w' : World} {B B' : Nat} {tp tb tp' tb' : TypeId} {A : Option Addr} {ms : List Cb}
theorem Cb.fine.bH {m:Cb} (h:m.fine w B tb) {ts:List TypeId} (hT:aN B ts w w') (h2:tb ∉ ts):m.fine w' B tb:=⟨h.1.bH hT h2,h.2⟩
theorem PL.bH (h:PL w B tp tb A ms) {ts:List TypeId} (hT:aN B ts w w') (h1:tp ∉ ts) (h2:tb ∉ ts):PL w' B tp tb A ms:=⟨h.1.bH hT h1,fun m hm=>(h.2 m hm).bH hT h2⟩
theorem PL.below (h:PL w B tp tb A ms) (hB:B≤w.heap.size) (hT:Below w.heap.size w w'):PL w' B tp tb A ms:=h.bH (aN.of_below hT hB []) (by simp) (by simp)
theorem PL.at_ (h:PL w B tp tb A ms) {k:Nat} (hk:k<ms.length):∃ ad m,A=some ad∧ms[k]?=some m∧m.fine w B tb ∧
  w.cell? (ad.add (k * 6))=some (.int .i64 m.pt.kind)∧w.cell? ⟨(ad.add (k * 6)).block,(ad.add (k * 6)).off+1,none⟩=some (.int .u64 m.pt.n) ∧
  w.cell? ⟨(ad.add (k * 6)).block,(ad.add (k * 6)).off+2,none⟩=some (.int .i64 m.pt.i)∧w.cell? ⟨(ad.add (k * 6)).block,(ad.add (k * 6)).off+3,none⟩=some (.float .f64 m.pt.f) ∧
  w.cell? ⟨(ad.add (k * 6)).block,(ad.add (k * 6)).off+4,none⟩=some (.slice m.A m.pt.b.length m.c)∧w.cell? ⟨(ad.add (k * 6)).block,(ad.add (k * 6)).off+5,none⟩=some (.bool m.pt.is):=by
 have hx:ms[k]?=some ms[k]:=List.getElem?_eq_getElem hk
 obtain⟨ad,e,_,hc⟩:=h.1 (fun q=>by
  have:=Gt ms
  rw [q] at this
  simp at this
  omega)
 have c:∀ j u,j<6→(ms[k]).cells[j]?=some u→w.cell? ((ad.add (k * 6)).add j)=some u:=fun j u hj hu=>by
  rw [addr_add]
  exact hc _ _ ((flat_at hx hj).trans hu)
 refine⟨ad,ms[k],e,hx,h.2 _ (List.getElem_mem hk),?_,?_,?_,?_,?_,?_⟩
 ·exact c 0 _ (by omega) rfl
 ·exact c 1 _ (by omega) rfl
 ·exact c 2 _ (by omega) rfl
 ·exact c 3 _ (by omega) rfl
 ·exact c 4 _ (by omega) rfl
 ·exact c 5 _ (by omega) rfl
end
end
section
open Go.RowKit
end
end
section
section
section
open Go.RowKit
def WG (g:Nat) (B:Nat) (w:World) (p:Nat) (l:List UInt8):Prop :=
 B≤p∧∃ A c,w.heap[p]?=some (.cells #[.slice A l.length c] 91 (0,0))∧w.ownsRow B 5 1 (.slice A l.length c) l.length (fZ l)∧∀ k,(Value.slice A l.length c).ownBlock=some k→k≠g
section
variable {g B p : Nat} {w w' : World} {l : List UInt8}
theorem WG.alloc (h:WG g B w p l) (o:Obj):WG g B (w.alloc o) p l:=by
 obtain⟨hB,A,c,hp,ho,hg⟩:=h
 exact⟨hB,A,c,aY hp o,ho.alloc o,hg⟩
end
end
end
section
open Go.RowKit
end
end
section
section
open Go.RowKit
def RS (t:TypeId) (B:Nat) (tb:TypeId) (w:World) (p:Nat) (s:Option (List UInt8)):Prop :=
 B≤p∧match s with
 | none=>w.heap[p]?=some (.cells #[.slice none 0 0,.bool true] t (0,0))
 | some l=>∃ A c,l.length≤c∧w.heap[p]?=some (.cells #[.slice A l.length c,.bool false] t (0,0))∧au w B tb A (fZ l)
section
variable {t tb : TypeId} {B p : Nat} {w w' : World} {s : Option (List UInt8)}
theorem RS.bH (h:RS t B tb w p s) {ts:List TypeId} (hT:aN B ts w w') (h1:t ∉ ts) (h2:tb ∉ ts):RS t B tb w' p s:=by
 refine⟨h.1,?_⟩
 cases s with
 | none=>exact hT.blk h.2 h1
 | some l =>
  obtain⟨_,A,c,hc,hp,hL⟩:=h
  exact⟨A,c,hc,hT.blk hp h1,hL.bH hT h2⟩
theorem RS.size (h:RS t B tb w p s):B≤w.heap.size:=by
 obtain⟨hB,h⟩:=h
 cases s with
 | none=>have:=lt_of_block h;omega
 | some l =>
  obtain⟨A,c,_,hp,_⟩:=h
  have:=lt_of_block hp
  omega
theorem RS.below (h:RS t B tb w p s) (hT:Below w.heap.size w w'):RS t B tb w' p s:=h.bH (aN.of_below hT h.size []) (by simp) (by simp)
theorem RS.alloc (h:RS t B tb w p s) (o:Obj):RS t B tb (w.alloc o) p s:=h.below ((Below.refl _ _).alloc (Nat.le_refl _) o)
end
def tk (n:Nat):Option (List UInt8)→List UInt8
 | none=>[]
 | some l=>if n≤l.length then l.take n else []
end
section
open Go.RowKit
def B_ (l:List UInt8) (w:World) (e:Ending) (w':World):Prop :=
 ∃ A n c,e=.returned (.slice A n c)∧w'.ownsRow w.heap.size 5 1 (.slice A n c) l.length (fZ l)∧Below w.heap.size w w'
theorem clone_c {A:Option Addr} {n c:Nat} {l:List UInt8} {w:World} {B:Nat} {tb:TypeId} (hL:au w B tb A (fZ l)) (hB:B≤w.heap.size) (hn:n=l.length) (hs:l.length≤1099511627776) :
  Calls prog 86 #[.slice A n c] w (B_ l w):=by
 subst hn
 have HL:=hid hL
 clear hL
 obtain⟨i0,hi,hz0,hz1,hz2⟩:=info_parts Tryz.infoU8
 have q:=fun (w:World) a n c n' c'=>Lib.run_eql_slice_nil (P:=prog) w 49 5 a n c n' c' underlying49
 cases A with
 | none =>
  have e:l=[]:=by
   rcases l with _ | ⟨x,l⟩
   ·rfl
   ·obtain⟨ad,q,_⟩:=HL.out (by simp [fZ])
    cases q
  subst e
  go_enter func86,ntmps86
  go_wp2
  go_ret
  exact⟨none,0,0,rfl,World.ownsRow_nil _ _ _ _,Below.refl _ _⟩
 | some ad =>
  have ho:(w.alloc (.cells #[] 5)).ownsRow w.heap.size 5 1 (.slice (some ⟨w.heap.size,0,none⟩) 0 0) 0 []:=World.ownsRow_made w #[] 0 (Nat.le_refl _) (by unfold maxLen;omega) rfl
  have HO:=hid ho
  clear ho
  go_enter func86,ntmps86
  go_wp2_with (at_builtin;refine bE _ rfl _ _ 49 rfl w.heap.size 5 i0 (.int .u8 0) 1 1 underlying49 hi hz0 hz1 hz2 rfl (by decide) _ 0 [] rfl HO.out B _ l.length c (fZ l) tb rfl (by rw [rQ];omega) (HL.out.alloc hB _) (Ak _) (by unfold maxLen;omega) (by omega) (by simp) ?_)
  intro v' w1 hown' hgrow _
  obtain⟨A2,k2,rfl⟩:=aA hown'
  have T1:=pX HO.out hgrow
  have ho2:w1.ownsRow w.heap.size 5 1 (.slice A2 l.length k2) l.length (fZ l):=by simpa using hown'
  have HO2:=hid ho2
  have HT:=hid T1
  clear hown' ho2 T1 hgrow
  go_wp2
  go_ret
  exact⟨A2,_,k2,rfl,HO2.out,HT.out⟩
end
end
section
section
open Go.RowKit Go.Lib
namespace T9
structure St.qM (s:St):Prop where
 nl:s.lists.length≤25
 nt:s.tasks.length≤70
 name:∀ l∈s.lists,l.name.length≤100
 title:∀ t∈s.tasks,t.title.length≤100
 few:∀ t∈s.tasks,t.tags.length≤8
 tag:∀ t∈s.tasks,∀ x∈t.tags,x.length≤100
theorem St.qM.short {s:St} (h:s.qM):s.short:=⟨fun l hl=>by have:=h.name l hl;omega,fun t ht=>⟨by have:=h.title t ht;omega,fun x hx=>by have:=h.tag t ht x hx;omega,by have:=h.few t ht;omega⟩,by have:=h.nl;omega,by have:=h.nt;omega⟩
end T9
theorem wBytes9_c {B p:Nat} {l:List UInt8} {w:World} (h:WS B w p l) (hs:l.length≤1099511627776) :
  Calls prog 45 #[.pointer (some ⟨p,0,none⟩)] w (B_ l w):=by
 obtain⟨_,A,c,hp,ho⟩:=h
 have c0:w.cell? ⟨p,0,none⟩=some (.slice A l.length c):=by simp [World.cell?,hp]
 have HO:=hid ho
 clear hp ho
 go_enter func45,ntmps45
 go_wp2_with fail
 refine (clone_c (aG (B:=0) HO.out) (Nat.zero_le _) rfl hs).mono ?_
 rintro e w' ⟨A2,n2,c2,rfl,ho,hb⟩
 have HO2:=hid ho
 have HB:=hid hb
 clear ho hb
 go_wp2
 go_ret
 exact⟨A2,n2,c2,rfl,HO2.out,HB.out⟩
end
section
section
open Go.RowKit Go.Lib
def Fs (ts:List (List UInt8)) (w:World) (e:Ending) (w':World):Prop:=∃ b,e=.returned (.bool b)∧(b=true→ts.length≤8∧∀ x∈ts,x.length≤100)∧w=w'
def Fg (s:T9.St) (w:World) (e:Ending) (w':World):Prop:=∃ b,e=.returned (.bool b)∧(b=true→s.qM)∧Below w.heap.size w w'
theorem Jq {A:Option Addr} {n c:Nat} {ts:List (List UInt8)} {w:World} (h:GL w A ts) (hn:n=ts.length) (hs:n≤maxLen) :
  Calls prog 28 #[.slice A n c] w (Fs ts w):=by
 have H:=hid h
 have HN:=hid hn
 have hs:n≤9223372036854775807:=by unfold maxLen at hs;omega
 clear h hn
 go_enter func28,ntmps28
 go_wp2
 go_loopw [7] (fun s7 wr=>∃ i:Nat,s7=.int .i64 i∧i≤n∧Hid (∀ x∈ts.take i,x.length≤100)∧w=wr) (fun s7 _=>n - (intOf s7).toNat)
 case atStart=>exact⟨0,rfl,Nat.zero_le _,hid (by simp),rfl⟩
 case round =>
  obtain⟨i,rfl,hi,HU,rfl⟩:=hrel
  by_cases hlt:i<n
  ·have hltz:(i:Int)<(n:Int):=by omega
   obtain⟨ad,x,hA,hx,hc⟩:=H.out.at_ (k:=i) (by rw [← HN.out];exact hlt)
   subst hA
   have X:=hid hx
   have sz:(str x).size=x.length:=rfl
   clear hx
   by_cases hl:100<x.length
   ·have hlz:(100:Int)<((str x).size:Int):=by rw [sz];omega
    clear sz
    go_wp2
    go_ret
    exact⟨false,rfl,by simp,rfl⟩
   ·have hlz:¬ ((100:Int)<((str x).size:Int)):=by rw [sz];omega
    have U:Hid (∀ y∈ts.take (i+1),y.length≤100):=hid fun y hy=>by
     rw [bL X.out] at hy
     rcases List.mem_append.1 hy with q | q
     ·exact HU.out y q
     ·simp at q;subst q;omega
    clear sz
    go_wp2
    go_roundw
    case rel=>exact⟨i+1,by go_num,by omega,U,by simp⟩
    case measure=>simp [intOf];omega
  ·obtain rfl:i=n:=by omega
   have hltz:¬ ((i:Int)<(i:Int)):=by omega
   have U:=hid HU.out
   by_cases h8:i≤8
   ·have hz:(i:Int)≤8:=by omega
    go_wp2
    go_ret
    exact⟨true,aP (by simp),fun _=>⟨by rw [← HN.out];exact h8,by have:=U.out;rwa [HN.out,List.take_length] at this⟩,rfl⟩
   ·have hz:¬ ((i:Int)≤8):=by omega
    go_wp2
    go_ret
    exact⟨false,aP (by simp),by simp,rfl⟩
theorem Hr {A A2:Option Addr} {n1 n2 c c2:Nat} {ls:List T9.Li} {ms:List aL} {w:World} (hl:LL w A ls) (hk:KL w A2 ms) (e1:n1=ls.length) (e2:n2=ms.length) (hs:∀ m∈ms,m.t.tags.length≤maxLen) :
  Calls prog 7 #[.agg #[.slice A n1 c,.slice A2 n2 c2]] w (Fg ⟨ls,ay ms⟩ w):=by
 have E1:=hid e1
 have E2:=hid e2
 have HS:=hid hs
 obtain⟨w1,hw1⟩:∃ u,w.alloc (.cells #[.slice A n1 c,.slice A2 n2 c2] 25)=u:=⟨_,rfl⟩
 obtain⟨pb,b1,z1⟩:=ak hw1
 have PB:=hid pb
 have B1:=hid b1
 have HL:=hid (hl.stay b1)
 have HK:=hid (hk.stay b1)
 have Z1:=hid z1
 obtain⟨p0,p1⟩:=aa pb
 clear hl hk e1 e2 hs pb b1 z1
 by_cases hm1:25<n1
 ·have hmz:(25:Int)<(n1:Int):=by omega
  go_enter func7,ntmps7
  go_wp2
  go_ret
  exact⟨false,rfl,by simp,B1.out⟩
 have hmz:¬ ((25:Int)<(n1:Int)):=by omega
 by_cases hm2:70<n2
 ·have GJ:(70:Int)<(n2:Int):=by omega
  go_enter func7,ntmps7
  go_wp2
  go_ret
  exact⟨false,rfl,by simp,B1.out⟩
 have GJ:¬ ((70:Int)<(n2:Int)):=by omega
 have m1:n1≤25:=by omega
 have m2:n2≤70:=by omega
 clear hm1 hm2
 go_enter func7,ntmps7
 go_wp2
 go_loopw [20] (fun s20 wr=>∃ i:Nat,s20=.int .i64 i∧i≤n1∧Hid (∀ l∈ls.take i,l.name.length≤100)∧Aside (Below w1.heap.size w1 wr)) (fun s20 _=>n1 - (intOf s20).toNat)
 case atStart=>exact⟨0,rfl,Nat.zero_le _,hid (by simp),Below.refl _ _⟩
 case round =>
  obtain⟨i,rfl,hi,HU,hB⟩:=hrel
  have BR:=hid hB.out
  clear hB
  by_cases hlt:i<n1
  ·have hltz:(i:Int)<(n1:Int):=by omega
   obtain⟨ad,l,hA,hx,q0,q1⟩:=(HL.out.stay BR.out).at_ (k:=i) (by have:=E1.out;omega)
   subst hA
   have X:=hid hx
   obtain⟨w2,hw2⟩:∃ u,wr.alloc (.cells #[.int .u64 (l.id:Int),.string (str l.name)] 71)=u:=⟨_,rfl⟩
   obtain⟨lb,b2,z2⟩:=ak hw2
   have B2:Hid (Below w1.heap.size w1 w2):=hid (BR.out.trans (b2.mono BR.out.size))
   obtain⟨l0,l1⟩:=aa lb
   have sz:(str l.name).size=l.name.length:=rfl
   clear hx lb b2 z2
   by_cases hl:100<l.name.length
   ·have hlz:(100:Int)<((str l.name).size:Int):=by rw [sz];omega
    clear sz
    go_wp2
    go_ret
    exact⟨false,rfl,by simp,B1.out.trans (B2.out.mono B1.out.size)⟩
   ·have hlz:¬ ((100:Int)<((str l.name).size:Int)):=by rw [sz];omega
    have U:Hid (∀ y∈ls.take (i+1),y.name.length≤100):=hid fun y hy=>by
     rw [bL X.out] at hy
     rcases List.mem_append.1 hy with q | q
     ·exact HU.out y q
     ·simp at q;subst q;omega
    clear sz
    go_wp2
    go_roundw
    case rel=>exact⟨i+1,by go_num,by omega,U,B2.out⟩
    case measure=>simp [intOf];omega
  ·obtain rfl:i=n1:=by omega
   have hltz:¬ ((i:Int)<(i:Int)):=by omega
   have UL1:Hid (∀ l∈ls,l.name.length≤100):=hid (by have:=HU.out;rwa [E1.out,List.take_length] at this)
   have pbr:=(BR.out.block w.heap.size (by have:=Z1.out;omega)).trans PB.out
   obtain⟨s0,s1⟩:=aa pbr
   have HK2:=hid (HK.out.stay BR.out)
   have B0:=hid (B1.out.trans (BR.out.mono B1.out.size))
   obtain⟨wo,hwo⟩:∃ u,u=wr:=⟨_,rfl⟩
   subst hwo
   clear p0 p1 pbr
   go_wp2
   go_loopw [32] (fun s32 wr=>∃ j:Nat,s32=.int .i64 j∧j≤n2∧Hid (∀ m∈ms.take j,m.t.title.length≤100∧m.t.tags.length≤8∧∀ x∈m.t.tags,x.length≤100)∧Aside (Below wo.heap.size wo wr)) (fun s32 _=>n2 - (intOf s32).toNat)
   case atStart=>exact⟨0,rfl,Nat.zero_le _,hid (by simp),Below.refl _ _⟩
   case round =>
    obtain⟨j,rfl,hj,HV,hB⟩:=hrel
    have CR:=hid hB.out
    clear hB
    by_cases hlt2:j<n2
    ·have sJ:(j:Int)<(n2:Int):=by omega
     obtain⟨ad2,⟨tk,A3,c3⟩,hA,hx,hf,r0,r1,r2,r3,r4,r5,r6⟩:=(HK2.out.stay CR.out).at_ (k:=j) (by have:=E2.out;omega)
     subst hA
     have X:=hid hx
     have FI:=hid hf
     dsimp only at r0 r1 r2 r3 r4 r5 r6
     obtain⟨w3,hw3⟩:∃ u,wr.alloc (.cells #[.int .u64 (tk.id:Int),.int .u64 (tk.list:Int),.string (str tk.title),.bool tk.done,.float .f64 tk.rank,.float .f64 tk.est,.slice A3 tk.tags.length c3] 74)=u:=⟨_,rfl⟩
     obtain⟨tb,b3,z3⟩:=bn hw3
     have B3:Hid (Below wo.heap.size wo w3):=hid (CR.out.trans (b3.mono CR.out.size))
     have TX:=hid (Jq (c:=c3) (FI.out.stay b3).gl rfl (HS.out _ (List.mem_of_getElem? X.out)))
     obtain⟨t0,t1,t2,t3,t4,t5,t6⟩:=aj tb
     have sz:(str tk.title).size=tk.title.length:=rfl
     clear hx hf tb b3 z3
     by_cases hl:100<tk.title.length
     ·have hlz:(100:Int)<((str tk.title).size:Int):=by rw [sz];omega
      clear sz
      go_wp2
      go_ret
      exact⟨false,rfl,by simp,B0.out.trans (B3.out.mono B0.out.size)⟩
     ·have hlz:¬ ((100:Int)<((str tk.title).size:Int)):=by rw [sz];omega
      clear sz
      go_wp2_with fail
      refine TX.out.mono ?_
      rintro e w4 ⟨b,rfl,hb,rfl⟩
      cases b with
      | false =>
       go_wp2
       go_ret
       exact⟨false,rfl,by simp,B0.out.trans (B3.out.mono B0.out.size)⟩
      | true =>
       have HB:=hb rfl
       have U:Hid (∀ m∈ms.take (j+1),m.t.title.length≤100∧m.t.tags.length≤8∧∀ x∈m.t.tags,x.length≤100):=hid fun y hy=>by
        rw [bL X.out] at hy
        rcases List.mem_append.1 hy with q | q
        ·exact HV.out y q
        ·simp only [List.mem_cons,List.not_mem_nil,or_false] at q
         subst q
         exact⟨by show tk.title.length≤100;omega,HB⟩
       clear hb HB
       go_wp2
       go_roundw
       case rel=>exact⟨j+1,by go_num,by omega,U,B3.out⟩
       case measure=>simp [intOf];omega
    ·obtain rfl:j=n2:=by omega
     have sJ:¬ ((j:Int)<(j:Int)):=by omega
     have UV:Hid (∀ m∈ms,m.t.title.length≤100∧m.t.tags.length≤8∧∀ x∈m.t.tags,x.length≤100):=hid (by have:=HV.out;rwa [E2.out,List.take_length] at this)
     go_wp2
     go_ret
     refine⟨true,rfl,fun _=>?_,B0.out.trans (CR.out.mono B0.out.size)⟩
     have each:∀ t∈ay ms,t.title.length≤100∧t.tags.length≤8∧∀ x∈t.tags,x.length≤100:=fun t ht=>by
      obtain⟨m,hm,rfl⟩:=List.mem_map.1 ht
      exact UV.out m hm
     exact⟨by have:=E1.out;show ls.length≤25;omega,by have:=E2.out;show (ay ms).length≤70;rw [aI];omega,UL1.out,fun t ht=>(each t ht).1,fun t ht=>(each t ht).2.1,fun t ht=>(each t ht).2.2⟩
end
section
open Go.RowKit Go.Lib
@[go_sem] theorem buildK9a (w : World) : (Instr.build 74 #[(0, .int .u64 1), (1, .int .u64 2), (2, .string ⟨#[116]⟩)]).run prog w = .ok (.agg #[.int .u64 1, .int .u64 2, .string ⟨#[116]⟩, .bool false, .float .f64 0, .float .f64 0, .slice none 0 0]) w := run_build w 74 _ _ (by kernel_rfl)
@[go_sem] theorem buildS9a (A : Option Addr) (n c : Nat) (w : World) : (Instr.build 25 #[(1, .slice A n c)]).run prog w = .ok (.agg #[.slice none 0 0, .slice A n c]) w := run_build w 25 _ _ (by kernel_rfl)
@[go_sem] theorem buildS9b (w : World) : (Instr.build 25 #[]).run prog w = .ok (.agg #[.slice none 0 0, .slice none 0 0]) w := run_build w 25 _ _ (by kernel_rfl)
end
end
section
open Go.RowKit Go.Lib Go.Sort
theorem Da {l:T9.Li}:(.agg (bf l).toArray:Value)=.agg #[.int .u64 (l.id:Int),.string (str l.name)]:=rfl
theorem ae {w w':World} {g:Nat} {o:Obj} (hb:w.heap[g]?=some o) (h:Below w.heap.size w w'):w'.heap[g]?=some o:=(h.block g (lt_of_block hb)).trans hb
structure SBox (m:aW) (g:Nat) (w:World):Prop where
 b:w.heap[g]?=some (.cells #[.slice m.A m.ls.length m.c,.slice m.A2 m.ms.length m.c2] 25 (0,0))
 s:SM m w
theorem SBox.cells {m:aW} {g:Nat} {w:World} (h:SBox m g w):w.cell? ⟨g,0,none⟩=some (.slice m.A m.ls.length m.c)∧w.cell? ⟨g,1,none⟩=some (.slice m.A2 m.ms.length m.c2):=aa h.b
def aW.far (m:aW):Prop:=∀ t∈m.ms,t.t.tags.length≤maxLen
end
end
section
open Go.ChangeShapes Go.WideShapes Go.ChangeAt Go.RowKit Go.Deep
section
variable {H : Type} {enc : TypeId × Value → H} {P : Program}
theorem mI (laid:laidOutB P=true) {W W':World} (old:Below W.heap.size W W') {sp:Nat→Bool} :
  ∀ {ts:List TypeId} {vs:List Value} {ds:List (DataW H)} {ps:List MemPlace},(∀ t∈ts,P.readableRec t=true∧t<P.types.size)→(∀ x∈ps,x.block<W.heap.size)→(∀ x∈ps,sp x.block=true) →
   DataW.TrodAll enc P W 0 (fun _=>true) true ts vs ds ps→DataW.TrodAll enc P W' 0 sp true ts vs ds ps
 | [],_,_,_,_,_,_,h=>by
  obtain⟨rfl,rfl,rfl⟩:=trodAll_nil h
  rfl
 | t :: ts,_,_,_,ok,low,mark,h=>by
  obtain⟨v,vs,d,ds,p,q,rfl,rfl,rfl,h1,h2⟩:=trodAll_cons h
  refine⟨p,q,?_,?_,rfl⟩
  ·exact WideElems.Trod_stays laid (ok t (by simp)).1 (ok t (by simp)).2 h1 (fun x m=>old.same (low x (by simp [m]))) (fun x m=>mark x (by simp [m]))
  ·exact mI laid old (fun u m=>ok u (by simp [m])) (fun x m=>low x (by simp [m])) (fun x m=>mark x (by simp [m])) h2
theorem IE {f:Func} {s:ChangeSpec} {apart fresh handsOn again:Bool} {W W':World} {args:Array Value} {ds gs:List (DataW H)} {before:List MemPlace} {tb:TypeId}
  (laid:laidOutB P=true) (ok:∀ t∈f.params.toList,P.readableRec t=true∧t<P.types.size) (nv:s.vars=[]) (rt:f.resultTypes=#[tb]) (ut:P.underlying tb=some .bool)
  (whole:DataW.Whole enc P f.params.toList s.vars apart W args.toList ds gs before) (old:Below W.heap.size W W')
  (yes:(s.fn H (ds++gs)).results=[.lit (.bool true)]) (same:(s.fn H (ds++gs)).args=ds) (vars:(s.fn H (ds++gs)).vars=[]) :
  s.post enc P f apart fresh handsOn again W args (.bool true) W':=by
 have low:∀ x∈before,x.block<W.heap.size:=fun x m=>whole.lt x m
 obtain⟨p,q,hA,hV,hb,_,_⟩:=id whole
 have hV':DataW.TrodVars enc P W (fun _=>true) [] gs q:=by rw [← nv];exact hV
 obtain⟨rfl,rfl⟩:=trodVars_none hV'
 rw [List.append_nil] at hb
 subst hb
 refine zb (pa:=before) (pv:=[]) whole (by simp) old (fun _ _ _=>?_) (fun sp mark=>?_) (fun sp _=>?_) ?_
 ·rw [yes,rt]
  exact trodAll_mk1 (shut_bool ut _)
 ·rw [same]
  exact mI laid old ok low mark hA
 ·rw [vars,nv]
  rfl
 ·exact ok_one rt rfl (okWide_bool_mk ut _)
end
open Go.ChangeShapes Go.WideShapes Go.ChangeAt Go.RowKit Go.Deep
theorem wf_u64 {k:Int} (h:(Lit.int .u64 k).wf=true):0≤k∧k<18446744073709551616:=by
 unfold Lit.wf at h
 simp only [Bool.and_eq_true,decide_eq_true_eq] at h
 have a:IntKind.u64.min=0:=by decide +kernel
 have b:IntKind.u64.max=18446744073709551615:=by decide +kernel
 rw [a,b] at h;omega
section
variable {H : Type} {enc : TypeId × Value → H} {P : Program} {w : World} {base : Nat} {sp : Nat → Bool} {held : Bool}
theorem Au {t e:TypeId} {kd:IntKind} {fuel:Nat} {v:Value} {x:DataW H × List MemPlace} (ht:P.underlying t=some (.slice e)) (he:P.underlying e=some (.int kd)) (hc:P.cellsOf e=1)
  (h:DataW.trod enc P w base sp held fuel t [v]=some x):∃ (A:Option Addr) (c:Nat) (ns:List Int),v=.slice A ns.length c∧ns.length≤c∧c≤maxLen∧(∀ n∈ns,(Lit.int kd n).wf=true)∧au w w.heap.size 0 A (ns.map (Value.int kd)):=by
 rcases open_ints ht he hc h with⟨hcs,_⟩ | ⟨a,len,cap,zs,hcs,_,hl,hm,hz,_,hcell,hwf⟩
 ·simp at hcs
  subst hcs
  exact⟨none,0,[],rfl,Nat.le_refl _,Nat.zero_le _,by simp,au.nil⟩
 ·simp at hcs
  subst hcs
  have hlen:len≤zs.length:=by rw [hz];split <;> omega
  have e1:(zs.take len).length=len:=by rw [List.length_take];omega
  refine⟨some a,cap,zs.take len,by rw [e1],by omega,hm,fun n hn=>hwf n (List.mem_of_mem_take hn),fun hne=>?_⟩
  have cells:∀ j u,((zs.take len).map (Value.int kd))[j]?=some u→w.cell? (a.add j)=some u:=by
   intro j u hu
   rw [List.getElem?_map,List.getElem?_take] at hu
   split at hu
   ·rename_i hj
    rw [hcell j (by omega)]
    rw [List.getElem?_eq_getElem (by omega)] at hu
    simp only [Option.map_some,Option.some.injEq] at hu
    rw [← hu,List.getD_eq_getElem?_getD,List.getElem?_eq_getElem (by omega)]
    rfl
   ·simp at hu
  refine⟨a,rfl,.inl ?_,cells⟩
  obtain⟨u,hu⟩:∃ u,((zs.take len).map (Value.int kd))[0]?=some u:=by
   cases hq:(zs.take len).map (Value.int kd) with
   | nil=>exact absurd hq hne
   | cons u _=>exact⟨u,rfl⟩
  have:=World.block_lt_of_cell? _ _ (cells 0 u hu)
  rwa [iY] at this
end
section
variable {H : Type} {enc : TypeId × Value → H} {w : World} {base : Nat}
theorem Tryz.oneInt:prog.cellsOf 3=1:=by kernel_rfl
theorem Ep {v:Value} {d:DataW H} {ps:List MemPlace} (hval:Value.okWide prog w .any base 27 v) (h:DataW.Trod enc prog w 0 (fun _=>true) true 27 v d ps) :
  ∃ (A:Option Addr) (c:Nat) (ks:List Int),v=.slice A ks.length c∧ks.length≤c∧c≤maxLen∧au w w.heap.size 0 A (ks.map (Value.int .i64)):=by
 obtain⟨a,len,cap,rfl⟩:=okWide_slice underlying27 hval
 obtain⟨fuel,hf⟩:=h
 obtain⟨A,c,ns,hv,h1,h2,_,hL⟩:=Au underlying27 underlying3 Tryz.oneInt hf
 exact⟨A,c,ns,hv,h1,h2,hL⟩
end
open Go.ChangeShapes Go.WideShapes Go.ChangeAt Go.RowKit
theorem Tryz.laidOut2:laidOutB prog=true:=by kernel_rfl
theorem Tryz.own2:ownKnob prog.godebug=none:=by kernel_rfl
theorem xH {H:Type} {enc:TypeId × Value→H} {P:Program} {w:World} {base:Nat} {sp:Nat→Bool} {held:Bool} {t0 t1 t2 t3 t4:TypeId} {args:Array Value} {ds:List (DataW H)} {ps:List MemPlace}
  (h:DataW.TrodAll enc P w base sp held [t0,t1,t2,t3,t4] args.toList ds ps) :
  ∃ v0 v1 v2 v3 v4 d0 d1 d2 d3 d4 p0 p1 p2 p3 p4,args=#[v0,v1,v2,v3,v4]∧ds=[d0,d1,d2,d3,d4]∧ps=p0++(p1++p2++p3++p4) ∧
   DataW.Trod enc P w base sp held t0 v0 d0 p0∧DataW.Trod enc P w base sp held t1 v1 d1 p1∧DataW.Trod enc P w base sp held t2 v2 d2 p2∧DataW.Trod enc P w base sp held t3 v3 d3 p3∧DataW.Trod enc P w base sp held t4 v4 d4 p4:=by
 obtain⟨v0,vs,d0,ds1,p0,q0,ha,rfl,rfl,h0,hr⟩:=trodAll_cons h
 obtain⟨v1,v2,v3,v4,d1,d2,d3,d4,p1,p2,p3,p4,e,rfl,rfl,h1,h2,h3,h4⟩:=trodAll_four (args:=vs.toArray) (by simpa using hr)
 have e2:vs=[v1,v2,v3,v4]:=by simpa using congrArg Array.toList e
 subst e2
 exact⟨v0,v1,v2,v3,v4,d0,d1,d2,d3,d4,p0,p1,p2,p3,p4,by cases args;simp_all,rfl,rfl,h0,h1,h2,h3,h4⟩
open Go.ChangeShapes Go.WideShapes Go.ChangeAt Go.RowKit Go.Deep
section
variable {H : Type} {enc : TypeId × Value → H} {P : Program} {w : World} {base : Nat} {sp : Nat → Bool} {held : Bool}
end
section
variable {H : Type} {enc : TypeId × Value → H} {w : World} {base : Nat}
end
end
end Go.Proofs.YtcedlgedmkghgaaGreat
