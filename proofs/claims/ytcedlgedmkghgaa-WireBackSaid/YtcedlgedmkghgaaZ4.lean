import Derived.Test.YtcedlgedmkghgaaZ3
import Derived.Test.YtcedlgedmkghgaaZ2
import Derived.Test.YtcedlgedmkghgaaRows
import Derived.WalkKit
import Derived.WalkSpells
import Derived.WalkLawsBesides
import Derived.Lib.Hide
import Derived.LoopN
namespace Go.Proofs.Ytcedlgedmkghgaa
set_option maxHeartbeats 16000000
open Go.Lib
set_option linter.unusedSimpArgs false
set_option maxRecDepth 100000
section
section
open Go.RowKit
@[go_sem] theorem callBits (b : Nat) (w : World) : (callFunc 78 #[.float .f64 b]).run Try.prog w = .ok (.value (.int .u64 (Fl.I b))) w := by
 rw [run_callFunc_extern Try.func78 (by kernel_rfl) (by kernel_rfl) (by kernel_rfl) (by kernel_rfl) (e:=Extern.MathFloatBits.float64bits)];rfl
@[go_sem] theorem callFrom (n : Int) (w : World) : (callFunc 94 #[.int .u64 n]).run Try.prog w = .ok (.value (.float .f64 (Fl.W n))) w := by
 rw [run_callFunc_extern Try.func94 (by kernel_rfl) (by kernel_rfl) (by kernel_rfl) (by kernel_rfl) (e:=Extern.MathFloatBits.float64frombits)];rfl
@[go_sem] theorem uZ (k : FloatKind) (b : Nat) : Op.unary .neg (.float k b) = pure (.float k (Op.negFloat k b)) := rfl
@[go_sem] theorem ord_lt (a b : Nat) : (FloatKind.f64.format.order a b == some .lt) = Fl.kV a b := Fl.w_ a b
@[go_sem] theorem ord_eq (a b : Nat) : (FloatKind.f64.format.order a b == some .eq) = Fl.kP a b := Fl.pR a b
@[go_sem] theorem ord_ne (a b : Nat) : (FloatKind.f64.format.order a b != some .eq) = !Fl.kP a b := Fl.xc a b
@[go_sem] theorem ord_gt (a b : Nat) : (FloatKind.f64.format.order a b == some .gt) = Fl.kV b a := Fl.wZ a b
@[go_sem] theorem eq_self (a : Nat) : Fl.kP a a = !Fl.aU a := Fl.vT a
theorem sG (b:Nat) (w:World) :
  Calls Try.prog 92 #[.float .f64 b] w fun e w'=>e=.returned (.bool (Fl.aU b))∧w=w':=by
 go_enter Try.func92,Try.ntmps92
 go_wp2
 go_ret
 exact⟨ag (by simp),rfl⟩
theorem vI (b:Nat) (w:World) :
  Calls Try.prog 101 #[.float .f64 b] w fun e w'=>e=.returned (.int .u64 (Fl.I b))∧w=w':=by
 go_enter Try.func101,Try.ntmps101
 go_wp2
 go_ret
 exact⟨rfl,rfl⟩
theorem v_ (b:Nat) (w:World) :
  Calls Try.prog 93 #[.float .f64 b,.int .i64 1] w fun e w'=>e=.returned (.bool (Fl.o9 b))∧w=w':=by
 go_enter Try.func93,Try.ntmps93
 go_wp2
 go_ret
 exact⟨ag (Fl.sJ b),rfl⟩
theorem vZ (b:Nat) (w:World) :
  Calls Try.prog 93 #[.float .f64 b,.int .i64 (-1)] w fun e w'=>e=.returned (.bool (Fl.lZ b))∧w=w':=by
 go_enter Try.func93,Try.ntmps93
 go_wp2
 go_ret
 exact⟨ag (Fl.pF b),rfl⟩
@[go_sem] theorem lt_low (b : Nat) : Fl.kV b 18442240474082181119 = Fl.lZ b := Fl.ltB_low b
@[go_sem] theorem lt_max (b : Nat) : Fl.kV 9218868437227405311 b = Fl.o9 b := Fl.sJ b
@[go_sem] theorem cls_zero (b : Nat) : (Fl.mH b == 0) = Fl.aU b := Fl.nK b
theorem bK (b:Nat) (w:World) :
  Calls Try.prog 77 #[.float .f64 b] w fun e w'=>e=.returned (.int .i64 (Fl.mH b))∧w=w':=by
 by_cases h1:Fl.aU b=true
 ·go_enter Try.func77,Try.ntmps77
  go_wp2_with (go_at_call 92;refine (sG _ _).mono ?_;rintro e w' ⟨rfl,rfl⟩)
  go_ret
  exact⟨aK (Fl.cls_nan h1).symm,rfl⟩
 ·have h1:Fl.aU b=false:=by simpa using h1
  have bd:=hid (Fl.bG h1)
  go_enter Try.func77,Try.ntmps77
  go_wp2_with (go_at_call 92;refine (sG _ _).mono ?_;rintro e w' ⟨rfl,rfl⟩)
  refine (vZ _ _).mono ?_
  rintro e w' ⟨rfl,rfl⟩
  go_wp2_with fail
  ·go_ret
   exact⟨aK (Fl.uh (by assumption)).symm,rfl⟩
  ·refine (v_ _ _).mono ?_
   rintro e w' ⟨rfl,rfl⟩
   go_wp2_with fail
   ·go_ret;exact⟨aK (Fl.ug (by assumption)).symm,rfl⟩
   ·go_ret;exact⟨aK (Fl.ui h1 (by assumption) (by assumption)).symm,rfl⟩
   ·go_ret;exact⟨aK (Fl.vL h1 (by assumption) (Fl.pos_of h1 (by assumption))).symm,rfl⟩
   ·go_ret;exact⟨aK (Fl.qM h1 (by assumption) (by assumption)).symm,rfl⟩
theorem fu (b:Nat) (w:World) :
  Calls Try.prog 79 #[.float .f64 b] w fun e w'=>e=.returned (.float .f64 (Fl.canon b))∧w=w':=by
 by_cases h1:Fl.aU b=true
 ·go_enter Try.func79,Try.ntmps79
  go_wp2_with (go_at_call 77;refine (bK _ _).mono ?_;rintro e w' ⟨rfl,rfl⟩)
  go_ret
  exact⟨gU (by rw [Fl.eD h1];rfl),rfl⟩
 ·have h1:Fl.aU b=false:=by simpa using h1
  by_cases h2:Fl.sv b=0
  ·have h3:(Fl.mH b==3)=true:=by rw [Fl.mI h1];simp [h2]
   have h2':=hid h2;clear h2
   go_enter Try.func79,Try.ntmps79
   go_wp2_with (go_at_call 77;refine (bK _ _).mono ?_;rintro e w' ⟨rfl,rfl⟩)
   go_ret
   exact⟨gU (by rw [Fl.di h1 h2'.out]),rfl⟩
  ·have h3:(Fl.mH b==3)=false:=by rw [Fl.mI h1];simp [h2]
   have h2':=hid h2;clear h2
   go_enter Try.func79,Try.ntmps79
   go_wp2_with (go_at_call 77;refine (bK _ _).mono ?_;rintro e w' ⟨rfl,rfl⟩)
   go_ret
   exact⟨gU (by rw [Fl.bT h1 h2'.out]),rfl⟩
theorem lu (b:Nat) (w:World) :
  Calls Try.prog 102 #[.float .f64 b] w fun e w'=>e=.returned (.float .f64 (Fl.canon b))∧w=w':=by
 by_cases h1:Fl.aU b=true
 ·go_enter Try.func102,Try.ntmps102
  go_wp2_with fail
  go_ret
  exact⟨gU (by rw [Fl.eD h1];rfl),rfl⟩
 ·have h1:Fl.aU b=false:=by simpa using h1
  by_cases h2:Fl.sv b=0
  ·have h3:Fl.kP b 0=true:=by rw [Fl.oV h1];simp [h2]
   have h2':=hid h2;clear h2
   go_enter Try.func102,Try.ntmps102
   go_wp2_with fail
   go_ret
   exact⟨gU (by rw [Fl.di h1 h2'.out]),rfl⟩
  ·have h3:Fl.kP b 0=false:=by rw [Fl.oV h1];simp [h2]
   have h2':=hid h2;clear h2
   go_enter Try.func102,Try.ntmps102
   go_wp2_with fail
   go_ret
   exact⟨gU (by rw [Fl.bT h1 h2'.out]),rfl⟩
namespace Fl
end Fl
theorem nY {a b:Nat} {c d:Bool} (h:a=b) (h2:c=d):Ending.returned (.tuple #[.float .f64 a,.bool c])=.returned (.tuple #[.float .f64 b,.bool d]):=by rw [h,h2]
theorem pu (b:Nat) (w:World) (hb:b<18446744073709551616) :
  Calls Try.prog 59 #[.float .f64 b] w fun e w'=>e=.returned (.int .u64 (Fl.key b))∧w=w':=by
 by_cases h1:Fl.aU b=true
 ·go_enter Try.func59,Try.ntmps59
  go_wp2_with (go_at_call 77;refine (bK _ _).mono ?_;rintro e w' ⟨rfl,rfl⟩)
  go_ret
  exact⟨gq (Fl.gT h1).symm,rfl⟩
 ·have h1:Fl.aU b=false:=by simpa using h1
  by_cases h2:0≤Fl.sv b
  ·have c1:=Fl.tY hb h1 h2
   have c2:=hid (Fl.kS hb h1 h2)
   clear h2 hb
   go_enter Try.func59,Try.ntmps59
   go_wp2_with (first | (go_at_call 77;refine (bK _ _).mono ?_;rintro e w' ⟨rfl,rfl⟩) | (go_at_call 79;refine (fu _ _).mono ?_;rintro e w' ⟨rfl,rfl⟩))
   go_ret
   exact⟨gq c2.out,rfl⟩
  ·have c1:=Fl.qK hb h1 h2
   have c2:=hid (Fl.jM hb h1 h2)
   clear h2 hb
   go_enter Try.func59,Try.ntmps59
   go_wp2_with (first | (go_at_call 77;refine (bK _ _).mono ?_;rintro e w' ⟨rfl,rfl⟩) | (go_at_call 79;refine (fu _ _).mono ?_;rintro e w' ⟨rfl,rfl⟩))
   go_ret
   exact⟨gq c2.out,rfl⟩
theorem xB (b:Nat) (w:World) (hb:b<18446744073709551616) :
  Calls Try.prog 98 #[.float .f64 b] w fun e w'=>e=.returned (.int .u64 (Fl.key b))∧w=w':=by
 by_cases h1:Fl.aU b=true
 ·go_enter Try.func98,Try.ntmps98
  go_wp2_with fail
  go_ret
  exact⟨gq (Fl.gT h1).symm,rfl⟩
 ·have h1:Fl.aU b=false:=by simpa using h1
  by_cases h2:0≤Fl.sv b
  ·have c1:=Fl.qL hb h1 h2
   have c2:=hid (Fl.kS hb h1 h2)
   clear h2 hb
   go_enter Try.func98,Try.ntmps98
   go_wp2_with (first | (go_at_call 101;refine (vI _ _).mono ?_;rintro e w' ⟨rfl,rfl⟩) | (go_at_call 102;refine (lu _ _).mono ?_;rintro e w' ⟨rfl,rfl⟩))
   go_ret
   exact⟨gq c2.out,rfl⟩
  ·have c1:=Fl.oL hb h1 h2
   have c2:=hid (Fl.jM hb h1 h2)
   clear h2 hb
   go_enter Try.func98,Try.ntmps98
   go_wp2_with (first | (go_at_call 101;refine (vI _ _).mono ?_;rintro e w' ⟨rfl,rfl⟩) | (go_at_call 102;refine (lu _ _).mono ?_;rintro e w' ⟨rfl,rfl⟩))
   go_ret
   exact⟨gq c2.out,rfl⟩
theorem dz (a b:Nat) (w:World) (ha:a<18446744073709551616) (hb:b<18446744073709551616) :
  Calls Try.prog 85 #[.float .f64 a,.float .f64 b] w fun e w'=>e=.returned (.bool (Fl.same a b))∧w=w':=by
 go_enter Try.func85,Try.ntmps85
 go_wp2_with (go_at_call 98;refine (xB _ _ (by assumption)).mono ?_;rintro e w' ⟨rfl,rfl⟩)
 go_ret
 exact⟨rfl,rfl⟩
end
section
open Go.RowKit
namespace Fl
def gy (k:Int):Int:=if k<9223372036854775808 then 18446744073709551615 - k else k - 9223372036854775808
def fit (k:Int):Bool:=key (W (gy k))==k
def wd (k:Int):Nat:=if fit k=true then canon (W (gy k)) else 0
theorem jy (b:Nat):key (canon b)=key b:=by
 unfold key;rw [uu]
 cases h:aU b
 ·rw [xJ h]
 ·rfl
theorem kF {k:Int} (h0:0≤k) (h1:k<18446744073709551616):0≤gy k∧gy k<18446744073709551616:=by
 unfold gy;split <;> omega
theorem W_lt {n:Int} (h1:n<18446744073709551616):W n<18446744073709551616:=by unfold W;omega
theorem oK {k:Int} (h:k<9223372036854775808) (h0:0≤k):IntKind.u64.wrap (18446744073709551615 - k)=gy k:=by
 unfold gy;rw [if_pos h,wrap_u64];omega
theorem mF {k:Int} (h:¬ k<9223372036854775808) (h0:k<18446744073709551616):IntKind.u64.wrap (k - 9223372036854775808)=gy k:=by
 unfold gy;rw [if_neg h,wrap_u64];omega
theorem iV {k:Int} (h:fit k=true):wd k=canon (W (gy k)):=by unfold wd;rw [if_pos h]
theorem fit_no {k:Int} (h:fit k=false):wd k=0:=by unfold wd;rw [if_neg (by simp [h])]
theorem r9 (k:Int) (h0:0≤k) (h1:k<18446744073709551616) :
  fit k=true↔k=0∨(9223372036854775808≤k∧k≤9223372036854775808+inf)∨(9223372036854775807 - inf≤k∧k<9223372036854775807):=by
 have e1:=iC;have e2:=eZ;have e3:=nanW_eq
 unfold fit gy
 by_cases a:k<9223372036854775808
 ·rw [if_pos a]
  generalize hc:W (18446744073709551615 - k)=c
  have hc2:(c:Int)=18446744073709551615 - k:=by rw [← hc];unfold W;omega
  have hl:two63≤c:=by omega
  have hl2:c<2 * two63:=by omega
  have hs:=rO hl hl2
  cases hn:aU c
  ·have:=bG hn
   by_cases z:k=9223372036854775807
   ·rw [kT hn (by omega),beq_iff_eq];omega
   ·rw [j_ hn (by omega),beq_iff_eq];omega
  ·rw [sD hl hl2] at hn
   have hn':=of_decide_eq_true hn
   rw [gT (by rw [sD hl hl2,hn]),beq_iff_eq];omega
 ·rw [if_neg a]
  generalize hc:W (k - 9223372036854775808)=c
  have hc2:(c:Int)=k - 9223372036854775808:=by rw [← hc];unfold W;omega
  have hl:c<two63:=by omega
  have hs:=ou hl
  cases hn:aU c
  ·have:=bG hn
   rw [kT hn (by omega),beq_iff_eq];omega
  ·rw [nP hl] at hn
   have hn':=of_decide_eq_true hn
   rw [gT (by rw [nP hl,hn]),beq_iff_eq];omega
end Fl
theorem of_c (k:Int) (w:World) (h0:0≤k) (h1:k<18446744073709551616) :
  Calls Try.prog 97 #[.int .u64 k] w fun e w'=>e=.returned (.tuple #[.float .f64 (Fl.wd k),.bool (Fl.fit k)])∧w=w':=by
 have hb:Fl.canon (Fl.W (Fl.gy k))<18446744073709551616:=Fl.oM (Fl.W_lt (Fl.kF h0 h1).2)
 cases f:Fl.fit k
 ·have t2:(Fl.key (Fl.canon (Fl.W (Fl.gy k))) != k)=true:=by unfold Fl.fit at f;rw [Fl.jy,bne,f];rfl
  have c2:=hid (Fl.fit_no f)
  clear f
  by_cases hk:k<9223372036854775808
  ·have t1:decide (9223372036854775808≤k)=false:=decide_eq_false (by omega)
   have c1:=hid (Fl.oK hk h0)
   clear hk h0 h1
   go_enter Try.func97,Try.ntmps97
   go_wp2_with fail
   rw [c1.out]
   go_wp2_with (first
    | (go_at_call 79;refine (fu _ _).mono ?_;rintro e w' ⟨rfl,rfl⟩)
    | (go_at_call 59;refine (pu _ _ (by assumption)).mono ?_;rintro e w' ⟨rfl,rfl⟩))
   go_ret2
   exact⟨nY c2.out.symm rfl,rfl⟩
  ·have t1:decide (9223372036854775808≤k)=true:=decide_eq_true (by omega)
   have c1:=hid (Fl.mF hk h1)
   clear hk h0 h1
   go_enter Try.func97,Try.ntmps97
   go_wp2_with fail
   rw [c1.out]
   go_wp2_with (first
    | (go_at_call 79;refine (fu _ _).mono ?_;rintro e w' ⟨rfl,rfl⟩)
    | (go_at_call 59;refine (pu _ _ (by assumption)).mono ?_;rintro e w' ⟨rfl,rfl⟩))
   go_ret2
   exact⟨nY c2.out.symm rfl,rfl⟩
 ·have t2:(Fl.key (Fl.canon (Fl.W (Fl.gy k))) != k)=false:=by unfold Fl.fit at f;rw [Fl.jy,bne,f];rfl
  have c2:=hid (Fl.iV f)
  clear f
  by_cases hk:k<9223372036854775808
  ·have t1:decide (9223372036854775808≤k)=false:=decide_eq_false (by omega)
   have c1:=hid (Fl.oK hk h0)
   clear hk h0 h1
   go_enter Try.func97,Try.ntmps97
   go_wp2_with fail
   rw [c1.out]
   go_wp2_with (first
    | (go_at_call 79;refine (fu _ _).mono ?_;rintro e w' ⟨rfl,rfl⟩)
    | (go_at_call 59;refine (pu _ _ (by assumption)).mono ?_;rintro e w' ⟨rfl,rfl⟩))
   go_ret2
   exact⟨nY c2.out.symm rfl,rfl⟩
  ·have t1:decide (9223372036854775808≤k)=true:=decide_eq_true (by omega)
   have c1:=hid (Fl.mF hk h1)
   clear hk h0 h1
   go_enter Try.func97,Try.ntmps97
   go_wp2_with fail
   rw [c1.out]
   go_wp2_with (first
    | (go_at_call 79;refine (fu _ _).mono ?_;rintro e w' ⟨rfl,rfl⟩)
    | (go_at_call 59;refine (pu _ _ (by assumption)).mono ?_;rintro e w' ⟨rfl,rfl⟩))
   go_ret2
   exact⟨nY c2.out.symm rfl,rfl⟩
open Go.ChangeShapes Go.WideShapes Go.ChangeAt Go.RowKit
namespace Fl
theorem fit_key {a:Nat} (ha:a<18446744073709551616):fit (key a)=true∧wd (key a)=canon a:=by
 have e1:=iC
 have e2:=eZ
 cases n:aU a
 ·have bd:=bG n
  by_cases s:0≤sv a
  ·have hk:=kT n s
   have hf:fit (key a)=true:=(r9 _ (dN a).1 (dN a).2).2 (by omega)
   refine⟨hf,?_⟩
   have hc:=iP ha n s
   have hw:W (gy (key a))=canon a:=by
    unfold gy;rw [if_neg (by omega)];unfold W;unfold I at hc;omega
   rw [iV hf,hw,jK]
  ·have hk:=j_ n (by omega)
   have hf:fit (key a)=true:=(r9 _ (dN a).1 (dN a).2).2 (by omega)
   refine⟨hf,?_⟩
   have hc:=gM ha n (by omega)
   have hw:W (gy (key a))=canon a:=by
    unfold gy;rw [if_pos (by omega)];unfold W;unfold I at hc;omega
   rw [iV hf,hw,jK]
 ·rw [gT n,eD n]
  have hf:fit 0=true:=by decide +kernel
  exact⟨hf,by rw [iV hf];decide +kernel⟩
theorem wd_lt (k:Int) (h0:0≤k) (h1:k<18446744073709551616):wd k<18446744073709551616:=by
 unfold wd;split
 ·exact oM (W_lt (kF h0 h1).2)
 ·omega
theorem key_wd {k:Int} (h:fit k=true):(key (wd k)==k)=true:=by
 rw [iV h,jy];exact h
end Fl
end
end
end Go.Proofs.Ytcedlgedmkghgaa
