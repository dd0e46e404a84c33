import Derived.Test.YtcedlgedmkghgaaGreatZ2
import Derived.Test.YtcedlgedmkghgaaGreatRows
import Derived.WalkKit
import Derived.WalkSpells
import Derived.WalkLawsBesides
import Derived.Lib.Hide
import Derived.LoopN
import Derived.Below
import Derived.Laws.OwnMore
import Derived.Deep.AppendLies
import Derived.Deep.Draws
import Derived.Laws.Rows
import Derived.Laws.BytesArg
import Derived.OwnWalk
import Derived.OneCell
import Derived.Tactics
import Derived.Laws.Entries
namespace Go.Proofs.YtcedlgedmkghgaaGreat
set_option maxHeartbeats 16000000
open Go.Lib Go.Proofs.Tryz
set_option linter.unusedSimpArgs false
set_option maxRecDepth 100000
section
section
open Go.RowKit
@[go_sem] theorem callBits (b : Nat) (w : World) : (callFunc 210 #[.float .f64 b]).run prog w = .ok (.value (.int .u64 (Fl.I b))) w := by
 rw [run_callFunc_extern func210 (by kernel_rfl) (by kernel_rfl) (by kernel_rfl) (by kernel_rfl) (e:=Extern.MathFloatBits.float64bits)];rfl
@[go_sem] theorem callFrom (n : Int) (w : World) : (callFunc 187 #[.int .u64 n]).run prog w = .ok (.value (.float .f64 (Fl.W n))) w := by
 rw [run_callFunc_extern func187 (by kernel_rfl) (by kernel_rfl) (by kernel_rfl) (by kernel_rfl) (e:=Extern.MathFloatBits.float64frombits)];rfl
@[go_sem] theorem E5 (k : FloatKind) (b : Nat) : Op.unary .neg (.float k b) = pure (.float k (Op.negFloat k b)) := rfl
@[go_sem] theorem ord_lt (a b : Nat) : (FloatKind.f64.format.order a b == some .lt) = Fl.sV a b := Fl.Im a b
@[go_sem] theorem ord_eq (a b : Nat) : (FloatKind.f64.format.order a b == some .eq) = Fl.nO a b := Fl.yV a b
@[go_sem] theorem ord_ne (a b : Nat) : (FloatKind.f64.format.order a b != some .eq) = !Fl.nO a b := Fl.Io a b
@[go_sem] theorem ord_gt (a b : Nat) : (FloatKind.f64.format.order a b == some .gt) = Fl.sV b a := Fl.Il a b
@[go_sem] theorem eq_self (a : Nat) : Fl.nO a a = !Fl.dw a := Fl.Gr a
theorem Co (b:Nat) (w:World) :
  Calls prog 223 #[.float .f64 b] w fun e w'=>e=.returned (.bool (Fl.dw b))∧w=w':=by
 go_enter func223,ntmps223
 go_wp2
 go_ret
 exact⟨aP (by simp),rfl⟩
theorem Al (b:Nat) (w:World) :
  Calls prog 155 #[.float .f64 b] w fun e w'=>e=.returned (.int .u64 (Fl.I b))∧w=w':=by
 go_enter func155,ntmps155
 go_wp2
 go_ret
 exact⟨rfl,rfl⟩
theorem Hf (b:Nat) (w:World) :
  Calls prog 224 #[.float .f64 b,.int .i64 1] w fun e w'=>e=.returned (.bool (Fl.yB b))∧w=w':=by
 go_enter func224,ntmps224
 go_wp2
 go_ret
 exact⟨aP (Fl.Cv b),rfl⟩
theorem He (b:Nat) (w:World) :
  Calls prog 224 #[.float .f64 b,.int .i64 (-1)] w fun e w'=>e=.returned (.bool (Fl.uE b))∧w=w':=by
 go_enter func224,ntmps224
 go_wp2
 go_ret
 exact⟨aP (Fl.yP b),rfl⟩
@[go_sem] theorem lt_low (b : Nat) : Fl.sV b 18442240474082181119 = Fl.uE b := Fl.ltB_low b
@[go_sem] theorem lt_max (b : Nat) : Fl.sV 9218868437227405311 b = Fl.yB b := Fl.Cv b
@[go_sem] theorem cls_zero (b : Nat) : (Fl.uB b == 0) = Fl.dw b := Fl.oL b
theorem fG (b:Nat) (w:World) :
  Calls prog 186 #[.float .f64 b] w fun e w'=>e=.returned (.int .i64 (Fl.uB b))∧w=w':=by
 by_cases h1:Fl.dw b=true
 ·go_enter func186,ntmps186
  go_wp2_with (go_at_call 223;refine (Co _ _).mono ?_;rintro e w' ⟨rfl,rfl⟩)
  go_ret
  exact⟨a_ (Fl.cls_nan h1).symm,rfl⟩
 ·have h1:Fl.dw b=false:=by simpa using h1
  have bd:=hid (Fl.gB h1)
  go_enter func186,ntmps186
  go_wp2_with (go_at_call 223;refine (Co _ _).mono ?_;rintro e w' ⟨rfl,rfl⟩)
  refine (He _ _).mono ?_
  rintro e w' ⟨rfl,rfl⟩
  go_wp2_with fail
  ·go_ret
   exact⟨a_ (Fl.Dy (by assumption)).symm,rfl⟩
  ·refine (Hf _ _).mono ?_
   rintro e w' ⟨rfl,rfl⟩
   go_wp2_with fail
   ·go_ret;exact⟨a_ (Fl.Dx (by assumption)).symm,rfl⟩
   ·go_ret;exact⟨a_ (Fl.Dz h1 (by assumption) (by assumption)).symm,rfl⟩
   ·go_ret;exact⟨a_ (Fl.F6 h1 (by assumption) (Fl.pos_of h1 (by assumption))).symm,rfl⟩
   ·go_ret;exact⟨a_ (Fl.Ay h1 (by assumption) (by assumption)).symm,rfl⟩
theorem mK (b:Nat) (w:World) :
  Calls prog 128 #[.float .f64 b] w fun e w'=>e=.returned (.float .f64 (Fl.canon b))∧w=w':=by
 by_cases h1:Fl.dw b=true
 ·go_enter func128,ntmps128
  go_wp2_with (go_at_call 186;refine (fG _ _).mono ?_;rintro e w' ⟨rfl,rfl⟩)
  go_ret
  exact⟨mY (by rw [Fl.p_ h1];rfl),rfl⟩
 ·have h1:Fl.dw b=false:=by simpa using h1
  by_cases h2:Fl.sv b=0
  ·have h3:(Fl.uB b==3)=true:=by rw [Fl.uR h1];simp [h2]
   have h2':=hid h2;clear h2
   go_enter func128,ntmps128
   go_wp2_with (go_at_call 186;refine (fG _ _).mono ?_;rintro e w' ⟨rfl,rfl⟩)
   go_ret
   exact⟨mY (by rw [Fl.nY h1 h2'.out]),rfl⟩
  ·have h3:(Fl.uB b==3)=false:=by rw [Fl.uR h1];simp [h2]
   have h2':=hid h2;clear h2
   go_enter func128,ntmps128
   go_wp2_with (go_at_call 186;refine (fG _ _).mono ?_;rintro e w' ⟨rfl,rfl⟩)
   go_ret
   exact⟨mY (by rw [Fl.kV h1 h2'.out]),rfl⟩
theorem iG (b:Nat) (w:World) :
  Calls prog 130 #[.float .f64 b] w fun e w'=>e=.returned (.float .f64 (Fl.canon b))∧w=w':=by
 by_cases h1:Fl.dw b=true
 ·go_enter func130,ntmps130
  go_wp2_with fail
  go_ret
  exact⟨mY (by rw [Fl.p_ h1];rfl),rfl⟩
 ·have h1:Fl.dw b=false:=by simpa using h1
  by_cases h2:Fl.sv b=0
  ·have h3:Fl.nO b 0=true:=by rw [Fl.yl h1];simp [h2]
   have h2':=hid h2;clear h2
   go_enter func130,ntmps130
   go_wp2_with fail
   go_ret
   exact⟨mY (by rw [Fl.nY h1 h2'.out]),rfl⟩
  ·have h3:Fl.nO b 0=false:=by rw [Fl.yl h1];simp [h2]
   have h2':=hid h2;clear h2
   go_enter func130,ntmps130
   go_wp2_with fail
   go_ret
   exact⟨mY (by rw [Fl.kV h1 h2'.out]),rfl⟩
theorem Ed (b:Nat) (w:World) :
  Calls prog 100 #[.float .f64 b] w fun e w'=>e=.returned (.bool (Fl.I b==Fl.I (Fl.canon b)))∧w=w':=by
 go_enter func100,ntmps100
 go_wp2_with (first | (go_at_call 155;refine (Al _ _).mono ?_;rintro e w' ⟨rfl,rfl⟩) | (go_at_call 130;refine (iG _ _).mono ?_;rintro e w' ⟨rfl,rfl⟩))
 go_ret
 exact⟨rfl,rfl⟩
namespace Fl
end Fl
theorem key_c (b:Nat) (w:World) (hb:b<18446744073709551616) :
  Calls prog 146 #[.float .f64 b] w fun e w'=>e=.returned (.int .u64 (Fl.key b))∧w=w':=by
 by_cases h1:Fl.dw b=true
 ·go_enter func146,ntmps146
  go_wp2_with (go_at_call 186;refine (fG _ _).mono ?_;rintro e w' ⟨rfl,rfl⟩)
  go_ret
  exact⟨mZ (Fl.wU h1).symm,rfl⟩
 ·have h1:Fl.dw b=false:=by simpa using h1
  by_cases h2:0≤Fl.sv b
  ·have c1:=Fl.Du hb h1 h2
   have c2:=hid (Fl.sS hb h1 h2)
   clear h2 hb
   go_enter func146,ntmps146
   go_wp2_with (first | (go_at_call 186;refine (fG _ _).mono ?_;rintro e w' ⟨rfl,rfl⟩) | (go_at_call 128;refine (mK _ _).mono ?_;rintro e w' ⟨rfl,rfl⟩))
   go_ret
   exact⟨mZ c2.out,rfl⟩
  ·have c1:=Fl.Ao hb h1 h2
   have c2:=hid (Fl.qL hb h1 h2)
   clear h2 hb
   go_enter func146,ntmps146
   go_wp2_with (first | (go_at_call 186;refine (fG _ _).mono ?_;rintro e w' ⟨rfl,rfl⟩) | (go_at_call 128;refine (mK _ _).mono ?_;rintro e w' ⟨rfl,rfl⟩))
   go_ret
   exact⟨mZ c2.out,rfl⟩
theorem zh (b:Nat) (w:World) (hb:b<18446744073709551616) :
  Calls prog 149 #[.float .f64 b] w fun e w'=>e=.returned (.int .u64 (Fl.key b))∧w=w':=by
 by_cases h1:Fl.dw b=true
 ·go_enter func149,ntmps149
  go_wp2_with fail
  go_ret
  exact⟨mZ (Fl.wU h1).symm,rfl⟩
 ·have h1:Fl.dw b=false:=by simpa using h1
  by_cases h2:0≤Fl.sv b
  ·have c1:=Fl.Ap hb h1 h2
   have c2:=hid (Fl.sS hb h1 h2)
   clear h2 hb
   go_enter func149,ntmps149
   go_wp2_with (first | (go_at_call 155;refine (Al _ _).mono ?_;rintro e w' ⟨rfl,rfl⟩) | (go_at_call 130;refine (iG _ _).mono ?_;rintro e w' ⟨rfl,rfl⟩))
   go_ret
   exact⟨mZ c2.out,rfl⟩
  ·have c1:=Fl.xU hb h1 h2
   have c2:=hid (Fl.qL hb h1 h2)
   clear h2 hb
   go_enter func149,ntmps149
   go_wp2_with (first | (go_at_call 155;refine (Al _ _).mono ?_;rintro e w' ⟨rfl,rfl⟩) | (go_at_call 130;refine (iG _ _).mono ?_;rintro e w' ⟨rfl,rfl⟩))
   go_ret
   exact⟨mZ c2.out,rfl⟩
theorem AX (a b:Nat) (w:World) (ha:a<18446744073709551616) (hb:b<18446744073709551616) :
  Calls prog 254 #[.float .f64 a,.float .f64 b] w fun e w'=>e=.returned (.bool (Fl.lt a b))∧w=w':=by
 go_enter func254,ntmps254
 go_wp2_with (go_at_call 146;refine (key_c _ _ (by assumption)).mono ?_;rintro e w' ⟨rfl,rfl⟩)
 go_ret
 exact⟨rfl,rfl⟩
theorem Ex (a b:Nat) (w:World) (ha:a<18446744073709551616) (hb:b<18446744073709551616) :
  Calls prog 225 #[.float .f64 a,.float .f64 b] w fun e w'=>e=.returned (.bool (Fl.lt a b))∧w=w':=by
 go_enter func225,ntmps225
 go_wp2_with (go_at_call 149;refine (zh _ _ (by assumption)).mono ?_;rintro e w' ⟨rfl,rfl⟩)
 go_ret
 exact⟨rfl,rfl⟩
theorem iH (a b:Nat) (w:World) (ha:a<18446744073709551616) (hb:b<18446744073709551616) :
  Calls prog 143 #[.float .f64 a,.float .f64 b] w fun e w'=>e=.returned (.bool (Fl.same a b))∧w=w':=by
 go_enter func143,ntmps143
 go_wp2_with (go_at_call 149;refine (zh _ _ (by assumption)).mono ?_;rintro e w' ⟨rfl,rfl⟩)
 go_ret
 exact⟨rfl,rfl⟩
end
section
open Go.RowKit
namespace Fl
def cand (k:Int):Int:=if k<9223372036854775808 then 18446744073709551615 - k else k - 9223372036854775808
def fit (k:Int):Bool:=key (W (cand k))==k
def wd (k:Int):Nat:=if fit k=true then canon (W (cand k)) else 0
end Fl
open Go.ChangeShapes Go.WideShapes Go.ChangeAt Go.RowKit
namespace Fl
end Fl
end
end
section
open Go.RowKit
theorem dN (g i:Nat):(⟨g,0,none⟩:Addr).add i=⟨g,i,none⟩:=by
 unfold Addr.add;split <;> simp_all
theorem iY (a:Addr) (i:Nat):(a.add i).block=a.block:=by unfold Addr.add;split <;> rfl
theorem addr_add (a:Addr) (i j:Nat):(a.add i).add j=a.add (i+j):=by
 unfold Addr.add
 by_cases p:i=0
 ·subst p;simp
 ·by_cases q:j=0
  ·subst q;simp [p]
  ·simp [p,q,Nat.add_assoc]
structure aN (B:Nat) (ts:List TypeId) (w w':World):Prop where
 below:Below B w w'
 typed:∀ (k:Nat) (cs:Array Value) (t:TypeId) (fr:Nat × Nat),w.heap[k]?=some (.cells cs t fr)→t ∉ ts→w'.heap[k]?=w.heap[k]?
section
variable {B B' : Nat} {ts ts' : List TypeId} {w w' w'' : World}
theorem aN.refl (B:Nat) (ts:List TypeId) (w:World):aN B ts w w:=⟨Below.refl _ _,fun _ _ _ _ _ _=>rfl⟩
theorem aN.trans (h:aN B ts w w') (k:aN B ts w' w''):aN B ts w w'' :=
 ⟨h.below.trans k.below,fun b cs t fr hb ht=>by
  have e:=h.typed b cs t fr hb ht
  exact (k.typed b cs t fr (e.trans hb) ht).trans e⟩
theorem aN.mono (h:aN B ts w w') (hB:B'≤B):aN B' ts w w':=⟨h.below.mono hB,h.typed⟩
theorem aN.more (h:aN B ts w w') (hs:∀ t∈ts,t∈ts'):aN B ts' w w':=⟨h.below,fun b cs t fr hb ht=>h.typed b cs t fr hb (fun m=>ht (hs t m))⟩
theorem aN.of_below (h:Below w.heap.size w w') (hB:B≤w.heap.size) (ts:List TypeId):aN B ts w w' :=
 ⟨h.mono hB,fun b _ _ _ hb _=>h.block b (lt_of_block hb)⟩
theorem aN.drewN (h:aN B ts w w') (n:Nat):aN B ts w (w'.drewN n):=⟨⟨h.below.os,h.below.tape,h.below.output,h.below.size,h.below.block⟩,h.typed⟩
theorem aN.drew (h:aN B ts w w'):aN B ts w w'.drew:=⟨h.below.drew,h.typed⟩
theorem aN.alloc (h:aN B ts w w') (hB:B≤w'.heap.size) (o:Obj):aN B ts w (w'.alloc o) :=
 h.trans ⟨(Below.refl _ _).alloc hB o,fun _ _ _ _ hb _=>Below.heap_alloc _ _ _ (lt_of_block hb)⟩
theorem aN.setCell (h:aN B ts w w') {p:Addr} {cs:Array Value} {t:TypeId} {fr:Nat × Nat} (hp:w'.heap[p.block]?=some (.cells cs t fr)) (ht:t∈ts) (hB:B≤p.block) (u:Value):aN B ts w (w'.setCell p u) :=
 h.trans ⟨(Below.refl _ _).setCell hB u,fun b cs' t' fr' hb ht'=>Below.heap_setCell _ _ _ _ (fun e=>by
  subst e
  rw [hp] at hb
  injection hb with hb
  injection hb with _ e2
  subst e2
  exact ht' ht)⟩
theorem aN.grown (h:aN B ts w w') {row:Option Nat} (hg:w'.grownBy w'' row) (hB:B≤w'.heap.size)
  (hr:∀ k,row=some k→B≤k∧∃ cs t fr,w'.heap[k]?=some (.cells cs t fr)∧t∈ts):aN B ts w w'' :=
 h.trans ⟨(Below.refl _ _).grown hg hB (fun k e=>(hr k e).1),fun b cs t fr hb ht=>hg.block b (lt_of_block hb) (fun e=>by
  obtain⟨_,cs',t',fr',hb',ht'⟩:=hr b e.symm
  rw [hb] at hb'
  injection hb' with hb'
  injection hb' with _ e2
  subst e2
  exact ht ht')⟩
theorem aN.blk (h:aN B ts w w') {g:Nat} {cs:Array Value} {t:TypeId} {fr:Nat × Nat} (hg:w.heap[g]?=some (.cells cs t fr)) (ht:t ∉ ts):w'.heap[g]?=some (.cells cs t fr) :=
 (h.typed g cs t fr hg ht).trans hg
theorem aN.size (h:aN B ts w w'):w.heap.size≤w'.heap.size:=h.below.size
end
def au (w:World) (B:Nat) (t:TypeId) (A:Option Addr) (xs:List Value):Prop :=
 xs≠[]→∃ ad,A=some ad∧(ad.block<B∨∃ cs fr,w.heap[ad.block]?=some (.cells cs t fr))∧∀ j u,xs[j]?=some u→w.cell? (ad.add j)=some u
section
variable {w w' : World} {B B' : Nat} {t : TypeId} {A : Option Addr} {xs : List Value}
theorem au.nil:au w B t A []:=fun h=>absurd rfl h
theorem au.at_ (h:au w B t A xs) {k:Nat} (hk:k<xs.length):∃ ad,A=some ad∧w.cell? (ad.add k)=some xs[k]:=by
 obtain⟨ad,e,_,hc⟩:=h (fun e=>by rw [e] at hk;simp at hk)
 exact⟨ad,e,hc k _ (List.getElem?_eq_getElem hk)⟩
theorem au.more (h:au w B t A xs) (hB:B≤B'):au w B' t A xs:=fun hx=>by
 obtain⟨ad,e,hb,hc⟩:=h hx
 exact⟨ad,e,hb.imp (fun q=>Nat.lt_of_lt_of_le q hB) id,hc⟩
theorem au.keep (h:au w B t A xs) (hk:∀ b,(b<B∨∃ cs fr,w.heap[b]?=some (.cells cs t fr))→w'.heap[b]?=w.heap[b]?):au w' B t A xs:=fun hx=>by
 obtain⟨ad,e,hb,hc⟩:=h hx
 have q:=hk ad.block hb
 refine⟨ad,e,hb.imp id (fun ⟨cs,fr,r⟩=>⟨cs,fr,q.trans r⟩),fun j u hu=>?_⟩
 exact (World.cell?_of_block (by rw [iY];exact q)).trans (hc j u hu)
theorem au.bH (h:au w B t A xs) {ts:List TypeId} (hT:aN B ts w w') (ht:t ∉ ts):au w' B t A xs :=
 h.keep fun b hb=>hb.elim (fun q=>hT.below.block b q) (fun ⟨cs,fr,r⟩=>hT.typed b cs t fr r ht)
theorem au.below (h:au w B t A xs) (hB:B≤w.heap.size) (hT:Below w.heap.size w w'):au w' B t A xs:=h.keep fun b hb=>hT.block b (hb.elim (fun q=>by omega) (fun ⟨_,_,r⟩=>lt_of_block r))
theorem au.drew (h:au w B t A xs):au w.drew B t A xs:=h
theorem au.alloc (h:au w B t A xs) (hB:B≤w.heap.size) (o:Obj):au (w.alloc o) B t A xs:=h.below hB ((Below.refl _ _).alloc (Nat.le_refl _) o)
theorem au.take (h:au w B t A xs) (k:Nat):au w B t A (xs.take k):=fun hx=>by
 obtain⟨ad,e,hb,hc⟩:=h (fun e=>hx (by rw [e];simp))
 refine⟨ad,e,hb,fun j u hu=>hc j u ?_⟩
 rw [List.getElem?_take] at hu
 split at hu
 ·exact hu
 ·cases hu
theorem au.cut (h:au w B t A xs) (k c:Nat) (hc:xs.length≤c):au w B t (if c=k then A else A.map (·.add k)) (xs.drop k):=fun hx=>by
 have hl:k<xs.length:=by
  rcases Nat.lt_or_ge k xs.length with q | q
  ·exact q
  ·exact absurd (List.drop_eq_nil_of_le q) hx
 obtain⟨ad,rfl,hb,hcell⟩:=h (fun e=>by rw [e] at hl;simp at hl)
 rw [if_neg (by omega)]
 refine⟨ad.add k,rfl,by rw [iY];exact hb,fun j u hu=>?_⟩
 rw [addr_add]
 exact hcell _ u (by rw [← hu,List.getElem?_drop])
theorem au.gY {g:Nat} {cs:Array Value} {fr:Nat × Nat} (hg:w.heap[g]?=some (.cells cs t fr)):au w B t (some ⟨g,0,none⟩) cs.toList:=fun _=>by
 refine⟨_,rfl,.inr ⟨cs,fr,hg⟩,fun j u hu=>?_⟩
 rw [dN,cell_of_row w g j cs t fr hg]
 simpa using hu
theorem au.Ig {base:Nat} {size n:Nat} {c:Nat} (h:w.ownsRow base t size (.slice A n c) n xs):au w B t A xs:=fun hx=>by
 rcases h.2 with⟨_,hn⟩ | ⟨g,cap,cur,hv,_,hh,_,_,_,ht⟩
 ·exact absurd (List.eq_nil_of_length_eq_zero (by rw [h.1,hn,Nat.zero_mul])) hx
 ·have hA:A=some ⟨g,0,none⟩:=by injection hv
  subst hA
  refine⟨_,rfl,.inr ⟨cur,(0,0),hh⟩,fun j u hu=>?_⟩
  exact h.cells (g:=g) rfl j u hu
end
section
variable {w w' : World} {base : Nat} {e : TypeId} {size : Nat} {v : Value} {n : Nat} {xs : List Value}
theorem aA (h:w.ownsRow base e size v n xs):∃ A c,v=.slice A n c:=by
 rcases h.2 with⟨rfl,rfl⟩ | ⟨g,cap,_,rfl,_⟩
 ·exact⟨_,_,rfl⟩
 ·exact⟨_,_,rfl⟩
theorem aO {A:Option Addr} {m c:Nat} (h:w.ownsRow base e size (.slice A m c) n xs):m=n∧n≤c:=by
 rcases h.2 with⟨h1,h2⟩ | ⟨g,cap,_,h1,_,_,h2,_⟩
 ·injection h1 with _ a b;omega
 ·injection h1 with _ a b;omega
theorem bM (h:w.ownsRow base e size v n xs):∀ k,v.ownBlock=some k→base≤k∧∃ cs fr,w.heap[k]?=some (.cells cs e fr):=by
 intro k hk
 rcases h.2 with⟨rfl,_⟩ | ⟨g,cap,cur,rfl,hb,hg,_⟩
 ·simp [Value.ownBlock] at hk
 ·simp [Value.ownBlock] at hk
  subst hk
  exact⟨hb,cur,(0,0),hg⟩
theorem bP {B:Nat} {ts:List TypeId} (h:w.ownsRow base e size v n xs) (hT:aN B ts w w') (he:e ∉ ts):w'.ownsRow base e size v n xs:=by
 refine⟨h.1,?_⟩
 rcases h.2 with hn | ⟨g,cap,cur,rfl,hb,hg,rest⟩
 ·exact .inl hn
 ·exact .inr ⟨g,cap,cur,rfl,hb,hT.blk hg he,rest⟩
theorem own_below (h:w.ownsRow base e size v n xs) (hT:Below w.heap.size w w'):w'.ownsRow base e size v n xs:=bP h (aN.of_below hT (Nat.le_refl _) []) (by simp)
theorem eu (h:w.ownsRow base e size v n xs) {b:Nat} (hb:b≤base):w.ownsRow b e size v n xs:=by
 refine⟨h.1,?_⟩
 rcases h.2 with hn | ⟨g,cap,cur,rfl,hbg,rest⟩
 ·exact .inl hn
 ·exact .inr ⟨g,cap,cur,rfl,by omega,rest⟩
theorem jb {w':World} (h:w.ownsRow base e size v n xs) (hg:w.grownBy w' v.ownBlock) {g:Nat} {cs:Array Value} {t:TypeId} {fr:Nat × Nat} (hb:w.heap[g]?=some (.cells cs t fr)) (ht:t≠e):w'.heap[g]?=some (.cells cs t fr):=by
 refine (hg.block g (lt_of_block hb) (fun q=>?_)).trans hb
 obtain⟨_,cs',fr',r⟩:=bM h g q.symm
 rw [hb] at r
 injection r with r
 injection r with _ r2
 exact ht r2
theorem dP {B:Nat} {ts:List TypeId} {w':World} (h:w.ownsRow base e size v n xs) (hg:w.grownBy w' v.ownBlock) (hB:B≤base) (hB2:B≤w.heap.size) (he:e∈ts):aN B ts w w' :=
 (aN.refl B ts w).grown hg hB2 (fun k q=>by
  obtain⟨a,cs,fr,r⟩:=bM h k q
  exact⟨by omega,cs,e,fr,r,he⟩)
end
theorem pX {w w1:World} {o:Obj} {e:TypeId} {size:Nat} {v:Value} {n:Nat} {xs:List Value} (h:(w.alloc o).ownsRow w.heap.size e size v n xs) (hg:(w.alloc o).grownBy w1 v.ownBlock):Below w.heap.size w w1 :=
 ((Below.refl _ _).alloc (Nat.le_refl _) o).grown hg (by simp) (fun k q=>(h.lt k q).1)
theorem jT {w w1:World} {B:Nat} {e:TypeId} {size:Nat} {v:Value} {n:Nat} {xs:List Value} (h:w.ownsRow B e size v n xs) (hg:w.grownBy w1 v.ownBlock) (hB:B≤w.heap.size):Below B w w1 :=
 (Below.refl _ _).grown hg hB (fun k q=>(h.lt k q).1)
theorem ah {w:World} {g:Nat} {cs:Array Value} {t:TypeId} {fr:Nat × Nat} (h:w.heap[g]?=some (.cells cs t fr)) (i:Nat) (u:Value):(w.setCell ⟨g,i,none⟩ u).heap[g]?=some (.cells (cs.setIfInBounds i u) t fr):=by
 simp [World.setCell,Array.getElem?_modify,h]
theorem av {w:World} {g:Nat} {o:Obj} (h:w.heap[g]?=some o) {p:Addr} (hp:g≠p.block) (u:Value):(w.setCell p u).heap[g]?=some o:=(Below.heap_setCell w p u g hp).trans h
theorem aY {w:World} {g:Nat} {o:Obj} (h:w.heap[g]?=some o) (o':Obj):(w.alloc o').heap[g]?=some o:=(Below.heap_alloc w o' g (lt_of_block h)).trans h
theorem af {w:World} {g:Nat} {cs:Array Value} {t:TypeId} (h:w.heap[g]?=some (.cells cs t (0,0))) (i:Nat):w.frozen? ⟨g,i,none⟩=false:=frozen_of_row w g i cs t h
theorem rT {w:World} {g g':Nat} {cs cs':Array Value} {t t':TypeId} {fr fr':Nat × Nat} (h:w.heap[g]?=some (.cells cs t fr)) (h':w.heap[g']?=some (.cells cs' t' fr')) (hne:t≠t'):g≠g':=by
 rintro rfl
 rw [h] at h'
 injection h' with h'
 injection h' with _ q
 exact hne q
section
variable {P : Program} (w : World)
theorem xx (base:Nat) (t ty e:TypeId) (i:TypeInfo) (size:Nat) (ht:P.underlying t=some (.slice e)) (hi:P.info? e=some i)
  (v:Value) (n:Nat) (xs:List Value) (hown:w.ownsRow base e size v n xs) (c:Nat):(Builtin.append_ #[t,t] ty #[v,.slice none 0 c]).run P w=.ok v w:=by
 rcases hown.2 with⟨rfl,rfl⟩ | ⟨g,cap,cur,rfl,_,_,hnc,_⟩
 ·simp [Builtin.append_,run_underlying ht,sizeOf,typeInfo,hi,Builtin.lenOf,Builtin.firstCells]
 ·simp [Builtin.append_,run_underlying ht,sizeOf,typeInfo,hi,Builtin.lenOf,Builtin.firstCells,hnc,storeCells]
theorem CQ (base:Nat) (t ty e:TypeId) (i:TypeInfo) (z:Value) (size bytes:Nat) (ht:P.underlying t=some (.slice e)) (hi:P.info? e=some i) (hz:i.zero=some z)
  (hsize:i.size=size) (hby:i.bytes=bytes) (hzs:z.cells.size=size) (hsz:0<size)
  (v:Value) (n:Nat) (xs:List Value) (hown:w.ownsRow base e size v n xs)
  (B:Nat) (A:Option Addr) (m c:Nat) (news:List Value) (t':TypeId) (hl:news.length=m * size) (hL:au w B t' A news) (h1:∀ u∈news,u.oneCell'=true)
  (h63:n+m≤maxLen) (hbytes:(n+m) * bytes≤140737488355328) (hbase:base≤w.heap.size) :
  ∃ v' w',(Builtin.append_ #[t,t] ty #[v,.slice A m c]).run P w=.ok v' w'∧w'.ownsRow base e size v' (n+m) (xs++news)∧w.grownBy w' v.ownBlock∧(v'.ownBlock=v.ownBlock∨v'.ownBlock=some w.heap.size):=by
 rcases A with _ | ad
 ·have hn:news=[]:=by
   rcases news with _ | ⟨x,l⟩
   ·rfl
   ·obtain⟨ad,q,_⟩:=hL (by simp)
    cases q
  subst hn
  have hm:m=0:=by
   rcases Nat.eq_zero_or_pos m with q | q
   ·exact q
   ·have:=Nat.mul_pos q hsz
    simp at hl
    omega
  subst hm
  exact⟨v,w,xx w base t ty e i size ht hi v n xs hown c,by simpa using hown,World.grownBy.refl w _,.inl rfl⟩
 ·have hcells:∀ j u,news[j]?=some u→w.cell? (ad.add j)=some u:=by
   intro j u hu
   obtain⟨JB,q,_,hc⟩:=hL (fun e=>by rw [e] at hu;simp at hu)
   injection q with q
   subst q
   exact hc j u hu
  obtain⟨v',w',hrun,h2,h3,_,h5⟩:=run_append_own_at (P:=P) w base t ty e i z size bytes ht hi hz hsize hby hzs hsz v n xs hown ad m c news hl hcells h1 h63 hbytes hbase
  exact⟨v',w',hrun,h2,h3,h5⟩
theorem bE {ops:Array Oper} {rest:List Oper} {o:Oper} {a:Act} {Q:Exit→Act→World→Prop} (hgd:o.guard=none) (s x:Operand) (t:TypeId)
  (ho:o.op=.call { callee:=.builtin .append,args:=#[s,x],argTypes:=#[t,t] })
  (base:Nat) (e:TypeId) (i:TypeInfo) (z:Value) (size bytes:Nat) (ht:P.underlying t=some (.slice e)) (hi:P.info? e=some i) (hz:i.zero=some z)
  (hsize:i.size=size) (hby:i.bytes=bytes) (hzs:z.cells.size=size) (hsz:0<size)
  (v:Value) (n:Nat) (xs:List Value) (hs:a.eval s=v) (hown:w.ownsRow base e size v n xs)
  (B:Nat) (A:Option Addr) (m c:Nat) (news:List Value) (t':TypeId) (hx:a.eval x=.slice A m c) (hl:news.length=m * size) (hL:au w B t' A news) (h1:∀ u∈news,u.oneCell'=true)
  (h63:n+m≤maxLen) (hbytes:(n+m) * bytes≤140737488355328) (hbase:base≤w.heap.size)
  (h:∀ v' w',w'.ownsRow base e size v' (n+m) (xs++news)→w.grownBy w' v.ownBlock→(v'.ownBlock=v.ownBlock∨v'.ownBlock=some w.heap.size)→wpList P ops Q rest (a.put o.dst v') w'):wpList P ops Q (o :: rest) a w :=
 wpList_plain hgd fun K hK=>by
  obtain⟨v',w',hrun,h2,h3,h4⟩:=CQ (P:=P) w base t o.type e i z size bytes ht hi hz hsize hby hzs hsz v n xs hown B A m c news t' hl hL h1 h63 hbytes hbase
  unfold Oper.wp execOp
  simp only [ho,resolve,invoke,builtin,Sem.run_bind,Sem.run_pure,Result.andThen_ok,List.map_toArray,List.map_cons,List.map_nil,hs,hx,hrun]
  exact hK _ _ (h v' w' h2 h3 h4)
end
@[go_sem] theorem yields_undef : yielded.match_1 (fun _ => Option Bool) (some undef) (fun b => some b) (fun _ => none) = none := rfl
@[go_sem] theorem stor_float (P : Program) (w : World) (a : Addr) (m : Mode) (k : FloatKind) (b : Nat) : (store a (.float k b) m).run P w = stored P w a (.float k b) m := run_store P w a _ m rfl
def Ty (w:World) (g:Nat) (t:TypeId):Prop:=∃ cs fr,w.heap[g]?=some (.cells cs t fr)
theorem Ty.of {w:World} {g:Nat} {cs:Array Value} {t:TypeId} {fr:Nat × Nat} (h:w.heap[g]?=some (.cells cs t fr)):Ty w g t:=⟨cs,fr,h⟩
theorem Ty.set {w:World} {g:Nat} {t:TypeId} (h:Ty w g t) (p:Addr) (u:Value):Ty (w.setCell p u) g t:=by
 obtain⟨cs,fr,h⟩:=h
 by_cases e:g=p.block
 ·subst e
  obtain⟨b,o,sp⟩:=p
  cases sp with
  | none=>exact⟨cs.setIfInBounds o u,fr,by simp [World.setCell,Array.getElem?_modify,h]⟩
  | some x=>exact⟨cs,fr,by simp [World.setCell,Array.getElem?_modify,h]⟩
 ·exact⟨cs,fr,(Below.heap_setCell w p u g e).trans h⟩
theorem aN.aC {B:Nat} {ts:List TypeId} {w w':World} {p:Addr} {t:TypeId} (h:aN B ts w w') (hp:Ty w' p.block t) (ht:t∈ts) (hB:B≤p.block) (u:Value):aN B ts w (w'.setCell p u):=by
 obtain⟨cs,fr,hp⟩:=hp
 exact h.setCell hp ht hB u
def bcell (b:UInt8):Value:=.int .u8 (b.toNat:Int)
def fZ (l:List UInt8):List Value:=l.map bcell
theorem rQ (l:List UInt8):(fZ l).length=l.length:=by simp [fZ]
theorem Ak (l:List UInt8):∀ u∈fZ l,u.oneCell'=true:=by
 intro u hu
 simp only [fZ,List.mem_map] at hu
 obtain⟨b,_,rfl⟩:=hu
 rfl
theorem au.byte {w:World} {B:Nat} {t:TypeId} {A:Option Addr} {l:List UInt8} (h:au w B t A (fZ l)) {k:Nat} (hk:k<l.length):∃ ad,A=some ad∧w.cell? (ad.add k)=some (.int .u8 (l[k].toNat:Int)):=by
 obtain⟨ad,e,hc⟩:=h.at_ (k:=k) (by rw [rQ];exact hk)
 exact⟨ad,e,by rw [hc];simp [fZ,bcell]⟩
theorem au.int {w:World} {B:Nat} {t:TypeId} {A:Option Addr} {kd:IntKind} {ns:List Int} (h:au w B t A (ns.map (Value.int kd))) {k:Nat} (hk:k<ns.length) :
  ∃ ad x,A=some ad∧ns[k]?=some x∧w.cell? (ad.add k)=some (.int kd x):=by
 obtain⟨ad,e,hc⟩:=h.at_ (k:=k) (by simpa using hk)
 exact⟨ad,ns[k],e,List.getElem?_eq_getElem hk,by rw [hc];simp⟩
theorem jS {α:Type} {l:List α} {k:Nat} {x:α} (h:l[k]?=some x):l.take (k+1)=l.take k++[x]:=by
 rw [List.take_add_one,h];rfl
def str (l:List UInt8):ByteArray:=⟨l.toArray⟩
@[go_sem] theorem str_toList (l : List UInt8) : (str l).toList = l := by rw [ByteArray.toList_eq]; rfl
end
end Go.Proofs.YtcedlgedmkghgaaGreat
