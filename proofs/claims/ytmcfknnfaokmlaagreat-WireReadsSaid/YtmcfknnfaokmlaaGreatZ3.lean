import Derived.Test.YtmcfknnfaokmlaaGreatZ2
import Derived.Test.YtmcfknnfaokmlaaGreatZ1
import Derived.Test.YtmcfknnfaokmlaaGreatRows
import Derived.Deep.Slices
import Derived.Laws.MakeOwn
import Derived.Laws.ShiftsVarLaws
import Derived.Lib.SliceRun
import Derived.RegionTactic
namespace Go.Proofs.YtmcfknnfaokmlaaGreat
set_option maxHeartbeats 16000000
open Go.Lib Go.Proofs.Tryz
set_option linter.unusedSimpArgs false
set_option maxRecDepth 100000
section
section
open Go.RowKit
theorem Tryz.infoU8:(prog.info? 5).map (fun i=>(i.zero,i.size,i.bytes))=some (some (.int .u8 0),1,1):=by kernel_rfl
section
variable {w : World} {B : Nat} {A : Option Addr}
theorem av.old {t t':TypeId} {xs:List Value} (h:av w B t A xs):av w w.heap.size t' A xs:=fun q=>by
 obtain⟨ad,e,hb,hc⟩:=h q
 refine⟨ad,e,.inl ?_,hc⟩
 obtain⟨u,hu⟩:∃ u,xs[0]?=some u:=by
  cases xs with
  | nil=>exact absurd rfl q
  | cons x xs=>exact⟨x,rfl⟩
 have:=World.block_lt_of_cell? _ _ (hc 0 u hu)
 rwa [dM] at this
end
theorem aD {w:World} {B base:Nat} {t:TypeId} {A:Option Addr} {size m n c:Nat} {xs:List Value} (h:w.ownsRow base t size (.slice A m c) n xs):av w B t A xs:=by
 obtain⟨rfl,_⟩:=aA h
 exact av.Dp h
theorem bR {w:World} {B:Nat} {tb:TypeId} {A:Option Addr} {n c:Nat} {l:List UInt8} (hL:av w B tb A (af l)) (hn:n=l.length) :
  (convert 33 9 (.slice A n c)).run prog w=.ok (.string (str l)) w :=
 DR w _ _ 5 underlying33 underlying5 underlying9 (B:=B) (t:=tb) A n c l hn hL
theorem oz {n:Int} (h:0≤n) (j:Nat):n / 2 ^ (8 * j) % 256=((Cd.iP n.toNat j).toNat:Int):=by
 obtain⟨m,rfl⟩:∃ m:Nat,n=(m:Int):=⟨n.toNat,by omega⟩
 rw [Int.toNat_natCast,Cd.fq,Int.pow_mul]
 simp
def sF (B:Nat) (l:List UInt8) (w:World) (e:Ending) (w':World):Prop :=
 ∃ A n c,e=.returned (.slice A n c)∧w'.ownsRow B 5 1 (.slice A n c) l.length (af l)∧Below B w w'
def gQ (B:Nat) (er:Int) (l:List UInt8) (w:World) (e:Ending) (w':World):Prop :=
 ∃ A n c,e=.returned (.tuple #[.slice A n c,.int .i64 er])∧n=l.length∧n≤c∧w'.ownsRow B 5 1 (.slice A n c) n (af l)∧Below B w w'
theorem gQ.bad {w w':World} {er:Int} (h:Below w.heap.size w w'):gQ w.heap.size er [] w (.returned (.tuple #[.slice none 0 0,.int .i64 er])) w' :=
 ⟨none,0,0,rfl,rfl,Nat.le_refl _,World.ownsRow_nil _ _ _ _,h⟩
def nK (B:Nat) (l:List UInt8) (w:World) (e:Ending) (w':World):Prop :=
 ∃ A n c,e=.returned (.slice A n c)∧w'.ownsRow B 5 1 (.slice A n c) l.length (af l)∧aG B [5] w w'
theorem nK.then {B:Nat} {l:List UInt8} {w w1 w':World} {e:Ending} (h:nK B l w1 e w') (t:aG B [5] w w1):nK B l w e w':=by
 obtain⟨A,n,c,h1,h2,h3⟩:=h
 exact⟨A,n,c,h1,h2,t.trans h3⟩
theorem lS {w:World} {b:UInt8} {x:Int} (hx:x=(b.toNat:Int)) {g:Nat} (hg:g=w.heap.size):av (w.alloc (.cells #[.int .u8 x] 5)) 0 5 (some ⟨g,0,none⟩) (af [b]):=by
 subst hx;subst hg
 exact av.dD (heap_alloc_new w _)
theorem cB {B:Nat} {w w1:World} {v:Value} {n:Nat} {xs:List Value} (h:w.ownsRow B 5 1 v n xs) (hg:w.grownBy w1 v.ownBlock) (hB:B≤w.heap.size):aG B [5] w w1 :=
 dB h hg (Nat.le_refl _) hB (by decide)
theorem oD {B:Nat} {l:List UInt8} {A:Option Addr} {c m:Nat} {n z:Int} {k:Nat} {w:World} (hz:z=(k:Int)) (h:w.ownsRow B 5 1 (.slice A m c) l.length (af l)) (hB:B≤w.heap.size)
  (h0:0≤n) (h1:n<18446744073709551616) (hk:k≤8) (hs:l.length+8≤1099511627776) :
  Calls prog 62 #[.slice A m c,.int .u64 n,.int .i64 z] w (nK B (l++Cd.fix n.toNat k) w):=by
 have H1:=hid h1
 have HW:=hid h
 obtain⟨rfl,_⟩:=aA h
 clear h1 h
 subst hz
 obtain⟨i0,hi,hz0,hz1,hz2⟩:=info_parts Tryz.infoU8
 go_enter func62,ntmps62
 go_wp2_with fail
 go_loopw [0,7] (fun b i wr=>∃ (j:Nat) (d:List UInt8) (A1:Option Addr) (c1:Nat),j≤k∧i=.int .i64 ((j:Int) - 1)∧b=.slice A1 (l.length+d.length) c1∧d++Cd.fix n.toNat j=Cd.fix n.toNat k∧wr.ownsRow B 5 1 (.slice A1 (l.length+d.length) c1) (l.length+d.length) (af (l++d))∧aG B [5] w wr) (fun _ i _=>(intOf i+1).toNat)
 case atStart=>exact⟨k,[],A,c,Nat.le_refl _,rfl,by simp,rfl,by simpa using HW.out,aG.refl _ _ _⟩
 case round =>
  obtain⟨j,d,A1,c1,hj,rfl,rfl,hd,ho,ht⟩:=hrel
  have HD:=hid hd
  have dl:d.length+j=k:=by have:=congrArg List.length hd;simpa [Cd.aC] using this
  have dk:d.length≤8:=by omega
  have DL:=hid dl
  have HO:=hid ho
  have hB2:=ht.size
  have HT:=hid ht
  clear hd dl ho ht
  by_cases hz:0<j
  ·obtain⟨j,rfl⟩:∃ i,j=i+1:=⟨j - 1,by omega⟩
   go_wp2_with (at_builtin;refine aO _ rfl _ _ 33 rfl B 5 i0 (.int .u8 0) 1 1 underlying33 hi hz0 hz1 hz2 rfl (by decide) _ (l.length+d.length) (af (l++d)) rfl (HO.out.alloc _) 0 _ 1 1 (af [Cd.iP n.toNat j]) 5 rfl rfl (lS (oz h0 j) rfl) (aX _) (by unfold maxLen;omega) (by omega) (by simp;omega) ?_)
   intro v' w1 hown' hgrow _
   obtain⟨A2,k2,rfl⟩:=aL hown'
   have T1:=cB (HO.out.alloc _) hgrow (by simp;omega)
   have HT1:=hid (HT.out.trans (((aG.refl B _ wr).alloc (by omega) _).trans T1))
   have oH:=hid hown'
   clear hown' hgrow T1
   go_wp2
   go_roundw
   case rel=>exact⟨j,d++[Cd.iP n.toNat j],A2,k2,by omega,by go_num,by simp [Nat.add_assoc],by rw [← HD.out,Cd.fix];simp,by rw [← List.append_assoc,bF (l++d)];simpa [Nat.add_assoc] using oH.out,HT1.out⟩
   case measure=>simp [intOf] <;> omega
  ·obtain rfl:j=0:=by omega
   go_wp2
   go_ret
   have e:d=Cd.fix n.toNat k:=by simpa [Cd.fix] using HD.out
   subst e
   exact⟨A1,_,c1,rfl,by rw [List.length_append];exact HO.out,HT.out⟩
end
section
open Go.RowKit
structure Ej where
 b:List UInt8
 A:Option Addr
 c:Nat
def Ej.cell (m:Ej):Value:=.slice m.A m.b.length m.c
def uE (ms:List Ej):List Value:=ms.map Ej.cell
def Ej.fine (m:Ej) (w:World) (B:Nat) (tb:TypeId):Prop:=av w B tb m.A (af m.b)∧m.b.length≤m.c
def TL (w:World) (B:Nat) (tt tb:TypeId) (A:Option Addr) (ms:List Ej):Prop:=av w B tt A (uE ms)∧∀ m∈ms,m.fine w B tb
theorem below_drewN {B:Nat} {w w':World} (h:Below B w w') (n:Nat):Below B w (w'.drewN n):=⟨h.os,h.tape,h.output,h.size,h.block⟩
theorem yx (ms:List Ej):(uE ms).length=ms.length:=by simp [uE]
section
variable {w w' : World} {B B' : Nat} {tt tb tt' tb' : TypeId} {A : Option Addr} {ms : List Ej}
theorem TL.nil:TL w B tt tb A []:=⟨av.nil,by simp⟩
theorem TL.at_ (h:TL w B tt tb A ms) {k:Nat} (hk:k<ms.length):∃ ad m,A=some ad∧ms[k]?=some m∧m.fine w B tb∧w.cell? (ad.add k)=some (.slice m.A m.b.length m.c):=by
 have hx:ms[k]?=some ms[k]:=List.getElem?_eq_getElem hk
 obtain⟨ad,e,hc⟩:=h.1.at_ (k:=k) (by rw [yx];exact hk)
 refine⟨ad,ms[k],e,hx,h.2 _ (List.getElem_mem hk),?_⟩
 rw [hc]
 simp [uE,Ej.cell]
end
end
end
end Go.Proofs.YtmcfknnfaokmlaaGreat
