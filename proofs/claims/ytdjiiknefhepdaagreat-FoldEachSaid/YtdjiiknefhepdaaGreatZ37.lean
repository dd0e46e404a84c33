import Derived.Test.YtdjiiknefhepdaaGreatZ3
import Derived.LoopN
import Derived.Deep.Draws
namespace Go.Proofs.YtdjiiknefhepdaaGreat
set_option maxHeartbeats 16000000
open Go.Proofs.Tryz
set_option linter.unusedSimpArgs false
set_option maxRecDepth 100000
section
open Go.RowKit
namespace Fl
def addO (o:Option Nat) (x:Nat):Option Nat:=o.bind fun t=>floatBits .add .f64 t x
def sumO (B:Nat→Nat):Nat→Option Nat
 | 0=>some 0
 | k+1=>if dx (B k)=true then sumO B k else addO (sumO B k) (B k)
def Rel (o:Option Nat) (t:Nat):Prop:=(∃ r,o=some r∧t=r)∨(o=none∧dx t=true)
def canonO (o:Option Nat):Nat:=match o with | some r=>canon r | none=>h_
theorem Rel.canon {o:Option Nat} {t:Nat} (h:Rel o t):Fl.canon t=canonO o:=by
 rcases h with⟨r,rfl,rfl⟩ | ⟨rfl,h⟩
 ·rfl
 ·exact qL h
theorem add_nan {t:Nat} (h:dx t=true) (x:Nat):floatBits .add .f64 t x=none:=by
 obtain⟨n,u,e⟩:=uP FloatKind.f64.format t xz (by rw [pq,qy];exact of_decide_eq_true h)
 show FloatKind.f64.format.add t x=none
 unfold Ieee.Format.add
 rw [e];rfl
theorem Rel.some {o:Option Nat} {t x r:Nat} (h:Rel o t) (e:floatBits .add .f64 t x=some r):Rel (addO o x) r:=by
 rcases h with⟨q,rfl,rfl⟩ | ⟨rfl,h⟩
 ·exact Or.inl ⟨r,e,rfl⟩
 ·rw [add_nan h] at e;cases e
theorem Rel.none {o:Option Nat} {t x r:Nat} (h:Rel o t) (e:floatBits .add .f64 t x=none) (hr:dx r=true):Rel (addO o x) r:=by
 rcases h with⟨q,rfl,rfl⟩ | ⟨rfl,h⟩
 ·exact Or.inr ⟨e,hr⟩
 ·exact Or.inr ⟨rfl,hr⟩
end Fl
@[go_sem] theorem cls_ne (b : Nat) : (Fl.uZ b != 0) = !Fl.dx b := by rw [bne, Fl.oO]
namespace Fl
def ahead (up:Bool) (x y:Nat):Bool:=if up=true then lt y x else lt x y
def Dn (up:Bool) (B:Nat→Nat):Nat→Nat
 | 0=>h_
 | k+1=>if dx (B k)=true then Dn up B k else if dx (Dn up B k)=true∨ahead up (B k) (Dn up B k)=true then B k else Dn up B k
end Fl
theorem FC (w:World) :
  Calls prog 110 #[] w fun e w'=>e=.returned (.float .f64 Fl.h_)∧w=w':=by
 go_enter func110,ntmps110
 go_wp2_with fail
 go_ret
 exact⟨rfl,rfl⟩
theorem tO (a:Option Addr) (cap:Nat) (B:Nat→Nat) (w:World) :
  Calls prog 68 #[.slice a 0 cap] w fun e w'=>e=.returned (.float .f64 (Fl.canon (Fl.Dn false B 0)))∧w=w':=by
 go_enter func68,ntmps68
 go_wp2_with (first
    | (go_at_call 110;refine (FC _).mono ?_;rintro e w' ⟨rfl,rfl⟩)
    | (go_at_call 58;refine (iC _ _).mono ?_;rintro e w' ⟨rfl,rfl⟩))
 refine wp_loop_rounds 1 ?_
 rw [rounds_succ]
 go_wp2_with (first
    | (go_at_call 110;refine (FC _).mono ?_;rintro e w' ⟨rfl,rfl⟩)
    | (go_at_call 58;refine (iC _ _).mono ?_;rintro e w' ⟨rfl,rfl⟩))
 go_ret
 exact⟨rfl,rfl⟩
end
end Go.Proofs.YtdjiiknefhepdaaGreat
