import Derived.Test.YtmcfknnfaokmlaaGreatZ6
import Derived.Test.YtmcfknnfaokmlaaGreatZ2
import Derived.Test.YtmcfknnfaokmlaaGreatRows
import Derived.WalkKit
import Derived.WalkSpells
import Derived.WalkLawsBesides
import Derived.Lib.Hide
import Derived.LoopN
namespace Go.Proofs.YtmcfknnfaokmlaaGreat
set_option maxHeartbeats 16000000
open Go.Lib Go.Proofs.Tryz
set_option linter.unusedSimpArgs false
set_option maxRecDepth 100000
section
section
open Go.RowKit
@[go_sem] theorem callBits (b : Nat) (w : World) : (callFunc 126 #[.float .f64 b]).run prog w = .ok (.value (.int .u64 (Fl.I b))) w := by
 rw [run_callFunc_extern func126 (by kernel_rfl) (by kernel_rfl) (by kernel_rfl) (by kernel_rfl) (e:=Extern.MathFloatBits.float64bits)];rfl
@[go_sem] theorem callFrom (n : Int) (w : World) : (callFunc 134 #[.int .u64 n]).run prog w = .ok (.value (.float .f64 (Fl.W n))) w := by
 rw [run_callFunc_extern func134 (by kernel_rfl) (by kernel_rfl) (by kernel_rfl) (by kernel_rfl) (e:=Extern.MathFloatBits.float64frombits)];rfl
@[go_sem] theorem Bj (k : FloatKind) (b : Nat) : Op.unary .neg (.float k b) = pure (.float k (Op.negFloat k b)) := rfl
@[go_sem] theorem ord_lt (a b : Nat) : (FloatKind.f64.format.order a b == some .lt) = Fl.pK a b := Fl.Du a b
@[go_sem] theorem ord_eq (a b : Nat) : (FloatKind.f64.format.order a b == some .eq) = Fl.kC a b := Fl.vP a b
@[go_sem] theorem ord_ne (a b : Nat) : (FloatKind.f64.format.order a b != some .eq) = !Fl.kC a b := Fl.Dv a b
@[go_sem] theorem ord_gt (a b : Nat) : (FloatKind.f64.format.order a b == some .gt) = Fl.pK b a := Fl.Dt a b
@[go_sem] theorem eq_self (a : Nat) : Fl.kC a a = !Fl.bK a := Fl.Ci a
theorem yP (b:Nat) (w:World) :
  Calls prog 142 #[.float .f64 b] w fun e w'=>e=.returned (.bool (Fl.bK b))∧w=w':=by
 go_enter func142,ntmps142
 go_wp2
 go_ret
 exact⟨aj (by simp),rfl⟩
theorem xx (b:Nat) (w:World) :
  Calls prog 109 #[.float .f64 b] w fun e w'=>e=.returned (.int .u64 (Fl.I b))∧w=w':=by
 go_enter func109,ntmps109
 go_wp2
 go_ret
 exact⟨rfl,rfl⟩
theorem CG (b:Nat) (w:World) :
  Calls prog 143 #[.float .f64 b,.int .i64 1] w fun e w'=>e=.returned (.bool (Fl.vD b))∧w=w':=by
 go_enter func143,ntmps143
 go_wp2
 go_ret
 exact⟨aj (Fl.yU b),rfl⟩
theorem CF (b:Nat) (w:World) :
  Calls prog 143 #[.float .f64 b,.int .i64 (-1)] w fun e w'=>e=.returned (.bool (Fl.qV b))∧w=w':=by
 go_enter func143,ntmps143
 go_wp2
 go_ret
 exact⟨aj (Fl.vJ b),rfl⟩
@[go_sem] theorem lt_low (b : Nat) : Fl.pK b 18442240474082181119 = Fl.qV b := Fl.ltB_low b
@[go_sem] theorem lt_max (b : Nat) : Fl.pK 9218868437227405311 b = Fl.vD b := Fl.yU b
@[go_sem] theorem cls_zero (b : Nat) : (Fl.rJ b == 0) = Fl.bK b := Fl.sV b
theorem dN (b:Nat) (w:World) :
  Calls prog 125 #[.float .f64 b] w fun e w'=>e=.returned (.int .i64 (Fl.rJ b))∧w=w':=by
 by_cases h1:Fl.bK b=true
 ·go_enter func125,ntmps125
  go_wp2_with (go_at_call 142;refine (yP _ _).mono ?_;rintro e w' ⟨rfl,rfl⟩)
  go_ret
  exact⟨az (Fl.cls_nan h1).symm,rfl⟩
 ·have h1:Fl.bK b=false:=by simpa using h1
  have bd:=hid (Fl.dF h1)
  go_enter func125,ntmps125
  go_wp2_with (go_at_call 142;refine (yP _ _).mono ?_;rintro e w' ⟨rfl,rfl⟩)
  refine (CF _ _).mono ?_
  rintro e w' ⟨rfl,rfl⟩
  go_wp2_with fail
  ·go_ret
   exact⟨az (Fl.zO (by assumption)).symm,rfl⟩
  ·refine (CG _ _).mono ?_
   rintro e w' ⟨rfl,rfl⟩
   go_wp2_with fail
   ·go_ret;exact⟨az (Fl.zN (by assumption)).symm,rfl⟩
   ·go_ret;exact⟨az (Fl.zP h1 (by assumption) (by assumption)).symm,rfl⟩
   ·go_ret;exact⟨az (Fl.Cg h1 (by assumption) (Fl.pos_of h1 (by assumption))).symm,rfl⟩
   ·go_ret;exact⟨az (Fl.xE h1 (by assumption) (by assumption)).symm,rfl⟩
theorem ig (b:Nat) (w:World) :
  Calls prog 127 #[.float .f64 b] w fun e w'=>e=.returned (.float .f64 (Fl.canon b))∧w=w':=by
 by_cases h1:Fl.bK b=true
 ·go_enter func127,ntmps127
  go_wp2_with (go_at_call 125;refine (dN _ _).mono ?_;rintro e w' ⟨rfl,rfl⟩)
  go_ret
  exact⟨j4 (by rw [Fl.fM h1];rfl),rfl⟩
 ·have h1:Fl.bK b=false:=by simpa using h1
  by_cases h2:Fl.sv b=0
  ·have h3:(Fl.rJ b==3)=true:=by rw [Fl.rM h1];simp [h2]
   have h2':=hid h2;clear h2
   go_enter func127,ntmps127
   go_wp2_with (go_at_call 125;refine (dN _ _).mono ?_;rintro e w' ⟨rfl,rfl⟩)
   go_ret
   exact⟨j4 (by rw [Fl.cK h1 h2'.out]),rfl⟩
  ·have h3:(Fl.rJ b==3)=false:=by rw [Fl.rM h1];simp [h2]
   have h2':=hid h2;clear h2
   go_enter func127,ntmps127
   go_wp2_with (go_at_call 125;refine (dN _ _).mono ?_;rintro e w' ⟨rfl,rfl⟩)
   go_ret
   exact⟨j4 (by rw [Fl.bW h1 h2'.out]),rfl⟩
theorem kX (b:Nat) (w:World) :
  Calls prog 110 #[.float .f64 b] w fun e w'=>e=.returned (.float .f64 (Fl.canon b))∧w=w':=by
 by_cases h1:Fl.bK b=true
 ·go_enter func110,ntmps110
  go_wp2_with fail
  go_ret
  exact⟨j4 (by rw [Fl.fM h1];rfl),rfl⟩
 ·have h1:Fl.bK b=false:=by simpa using h1
  by_cases h2:Fl.sv b=0
  ·have h3:Fl.kC b 0=true:=by rw [Fl.vk h1];simp [h2]
   have h2':=hid h2;clear h2
   go_enter func110,ntmps110
   go_wp2_with fail
   go_ret
   exact⟨j4 (by rw [Fl.cK h1 h2'.out]),rfl⟩
  ·have h3:Fl.kC b 0=false:=by rw [Fl.vk h1];simp [h2]
   have h2':=hid h2;clear h2
   go_enter func110,ntmps110
   go_wp2_with fail
   go_ret
   exact⟨j4 (by rw [Fl.bW h1 h2'.out]),rfl⟩
theorem dC (b:Nat) (w:World) :
  Calls prog 74 #[.float .f64 b] w fun e w'=>e=.returned (.bool (Fl.I b==Fl.I (Fl.canon b)))∧w=w':=by
 go_enter func74,ntmps74
 go_wp2_with (first | (go_at_call 109;refine (xx _ _).mono ?_;rintro e w' ⟨rfl,rfl⟩) | (go_at_call 110;refine (kX _ _).mono ?_;rintro e w' ⟨rfl,rfl⟩))
 go_ret
 exact⟨rfl,rfl⟩
namespace Fl
end Fl
theorem jF {a b:Nat} {c d:Bool} (h:a=b) (h2:c=d):Ending.returned (.tuple #[.float .f64 a,.bool c])=.returned (.tuple #[.float .f64 b,.bool d]):=by rw [h,h2]
theorem rW (b:Nat) (w:World) (hb:b<18446744073709551616) :
  Calls prog 99 #[.float .f64 b] w fun e w'=>e=.returned (.int .u64 (Fl.key b))∧w=w':=by
 by_cases h1:Fl.bK b=true
 ·go_enter func99,ntmps99
  go_wp2_with (go_at_call 125;refine (dN _ _).mono ?_;rintro e w' ⟨rfl,rfl⟩)
  go_ret
  exact⟨gM (Fl.iV h1).symm,rfl⟩
 ·have h1:Fl.bK b=false:=by simpa using h1
  by_cases h2:0≤Fl.sv b
  ·have c1:=Fl.zK hb h1 h2
   have c2:=hid (Fl.pu hb h1 h2)
   clear h2 hb
   go_enter func99,ntmps99
   go_wp2_with (first | (go_at_call 125;refine (dN _ _).mono ?_;rintro e w' ⟨rfl,rfl⟩) | (go_at_call 127;refine (ig _ _).mono ?_;rintro e w' ⟨rfl,rfl⟩))
   go_ret
   exact⟨gM c2.out,rfl⟩
  ·have c1:=Fl.xB hb h1 h2
   have c2:=hid (Fl.nQ hb h1 h2)
   clear h2 hb
   go_enter func99,ntmps99
   go_wp2_with (first | (go_at_call 125;refine (dN _ _).mono ?_;rintro e w' ⟨rfl,rfl⟩) | (go_at_call 127;refine (ig _ _).mono ?_;rintro e w' ⟨rfl,rfl⟩))
   go_ret
   exact⟨gM c2.out,rfl⟩
theorem dU (b:Nat) (w:World) (hb:b<18446744073709551616) :
  Calls prog 102 #[.float .f64 b] w fun e w'=>e=.returned (.int .u64 (Fl.key b))∧w=w':=by
 by_cases h1:Fl.bK b=true
 ·go_enter func102,ntmps102
  go_wp2_with fail
  go_ret
  exact⟨gM (Fl.iV h1).symm,rfl⟩
 ·have h1:Fl.bK b=false:=by simpa using h1
  by_cases h2:0≤Fl.sv b
  ·have c1:=Fl.xC hb h1 h2
   have c2:=hid (Fl.pu hb h1 h2)
   clear h2 hb
   go_enter func102,ntmps102
   go_wp2_with (first | (go_at_call 109;refine (xx _ _).mono ?_;rintro e w' ⟨rfl,rfl⟩) | (go_at_call 110;refine (kX _ _).mono ?_;rintro e w' ⟨rfl,rfl⟩))
   go_ret
   exact⟨gM c2.out,rfl⟩
  ·have c1:=Fl.uQ hb h1 h2
   have c2:=hid (Fl.nQ hb h1 h2)
   clear h2 hb
   go_enter func102,ntmps102
   go_wp2_with (first | (go_at_call 109;refine (xx _ _).mono ?_;rintro e w' ⟨rfl,rfl⟩) | (go_at_call 110;refine (kX _ _).mono ?_;rintro e w' ⟨rfl,rfl⟩))
   go_ret
   exact⟨gM c2.out,rfl⟩
theorem jJ (a b:Nat) (w:World) (ha:a<18446744073709551616) (hb:b<18446744073709551616) :
  Calls prog 111 #[.float .f64 a,.float .f64 b] w fun e w'=>e=.returned (.bool (Fl.same a b))∧w=w':=by
 go_enter func111,ntmps111
 go_wp2_with (go_at_call 99;refine (rW _ _ (by assumption)).mono ?_;rintro e w' ⟨rfl,rfl⟩)
 go_ret
 exact⟨rfl,rfl⟩
theorem eY (a b:Nat) (w:World) (ha:a<18446744073709551616) (hb:b<18446744073709551616) :
  Calls prog 135 #[.float .f64 a,.float .f64 b] w fun e w'=>e=.returned (.bool (Fl.same a b))∧w=w':=by
 go_enter func135,ntmps135
 go_wp2_with (go_at_call 102;refine (dU _ _ (by assumption)).mono ?_;rintro e w' ⟨rfl,rfl⟩)
 go_ret
 exact⟨rfl,rfl⟩
end
section
open Go.RowKit
namespace Fl
def iQ (k:Int):Int:=if k<9223372036854775808 then 18446744073709551615 - k else k - 9223372036854775808
def fit (k:Int):Bool:=key (W (iQ k))==k
def wd (k:Int):Nat:=if fit k=true then canon (W (iQ k)) else 0
theorem mZ (b:Nat):key (canon b)=key b:=by
 unfold key;rw [zX]
 cases h:bK b
 ·rw [DY h]
 ·rfl
theorem oW {k:Int} (h0:0≤k) (h1:k<18446744073709551616):0≤iQ k∧iQ k<18446744073709551616:=by
 unfold iQ;split <;> omega
theorem W_lt {n:Int} (h1:n<18446744073709551616):W n<18446744073709551616:=by unfold W;omega
theorem oZ {k:Int} (h:k<9223372036854775808) (h0:0≤k):IntKind.u64.wrap (18446744073709551615 - k)=iQ k:=by
 unfold iQ;rw [if_pos h,wrap_u64];omega
theorem mQ {k:Int} (h:¬ k<9223372036854775808) (h0:k<18446744073709551616):IntKind.u64.wrap (k - 9223372036854775808)=iQ k:=by
 unfold iQ;rw [if_neg h,wrap_u64];omega
theorem iR {k:Int} (h:fit k=true):wd k=canon (W (iQ k)):=by unfold wd;rw [if_pos h]
theorem Co {k:Int} (h:fit k=false):wd k=0:=by unfold wd;rw [if_neg (by simp [h])]
def asks (b:Nat) (k:Int):Bool:=(I b==I (canon b)) && (key b==k)
theorem jk {b:Nat} (k:Int) (h2:canon b=b):asks b k=(key b==k):=by unfold asks;rw [h2];simp
theorem oN {b:Nat} (k:Int) (h:canon b≠b):asks b k=false:=by
 unfold asks I
 have:((b:Int)==(canon b:Int))=false:=by rw [beq_eq_false_iff_ne];omega
 rw [this];rfl
theorem lH {b:Nat} {k:Int} (h:bK b=true) (hk:k≠0):asks b k=false:=by
 unfold asks
 have:(key b==k)=false:=by rw [iV h,beq_eq_false_iff_ne];omega
 rw [this];simp
theorem fK {b:Nat} {k:Int} (h:asks b k=false):(I b==I (canon b))=false∨((I b==I (canon b))=true∧(key b==k)=false):=by
 unfold asks at h
 cases e:(I b==I (canon b))
 ·exact Or.inl rfl
 ·rw [e] at h;exact Or.inr ⟨rfl,by simpa using h⟩
theorem jQ {b:Nat} {k:Int} (h:asks b k=true):(I b==I (canon b))=true∧(key b==k)=true:=by
 unfold asks at h;simpa using h
theorem xI (k:Int) (h0:0≤k) (h1:k<18446744073709551616) :
  asks (W (IntKind.u64.wrap (k - 9223372036854775808))) k=decide (9223372036854775808≤k∧k≤9223372036854775808+inf):=by
 have e1:=iC;have e2:=fE;have e3:=tZ
 rw [wrap_u64]
 by_cases a:9223372036854775808≤k
 ·have ew:W ((k - 9223372036854775808) % 18446744073709551616)=(k - 9223372036854775808).toNat:=by unfold W;congr 1;omega
  rw [ew]
  generalize hc:(k - 9223372036854775808).toNat=c
  have hl:c<two63:=by omega
  by_cases b:k≤9223372036854775808+inf
  ·have hn:bK c=false:=by rw [lQ hl];exact decide_eq_false (by omega)
   have hs:=nE hl
   have hcan:canon c=c:=by
    by_cases z:c=0
    ·rw [cK hn (by omega),z]
    ·exact bW hn (by omega)
   rw [jk k hcan,jw hn (by omega)]
   rw [decide_eq_true (⟨a,b⟩:9223372036854775808≤k∧k≤9223372036854775808+inf),beq_iff_eq];omega
  ·have hn:bK c=true:=by rw [lQ hl];exact decide_eq_true (by omega)
   rw [lH hn (by omega)]
   exact (decide_eq_false (by omega)).symm
 ·rw [decide_eq_false (by omega)]
  have ew:W ((k - 9223372036854775808) % 18446744073709551616)=(k+9223372036854775808).toNat:=by unfold W;congr 1;omega
  rw [ew]
  generalize hc:(k+9223372036854775808).toNat=c
  have hl:two63≤c:=by omega
  have hl2:c<2 * two63:=by omega
  have hs:=qC hl hl2
  by_cases b:k≤inf
  ·have hn:bK c=false:=by rw [jV hl hl2];exact decide_eq_false (by omega)
   by_cases z:k=0
   ·exact oN k (by rw [cK hn (by omega)];omega)
   ·rw [jk k (bW hn (by omega)),jW hn (by omega),beq_eq_false_iff_ne];omega
  ·have hn:bK c=true:=by rw [jV hl hl2];exact decide_eq_true (by omega)
   exact lH hn (by omega)
theorem wF (k:Int) (h0:0≤k) (h1:k<18446744073709551616) :
  asks (W (IntKind.u64.wrap (18446744073709551615 - k))) k=decide (9223372036854775807 - inf≤k∧k<9223372036854775807):=by
 have e1:=iC;have e2:=fE;have e3:=tZ
 rw [wrap_u64]
 have ew:W ((18446744073709551615 - k) % 18446744073709551616)=(18446744073709551615 - k).toNat:=by unfold W;congr 1;omega
 rw [ew]
 generalize hc:(18446744073709551615 - k).toNat=c
 by_cases a:9223372036854775808≤k
 ·rw [decide_eq_false (by omega)]
  have hl:c<two63:=by omega
  have hs:=nE hl
  cases hn:bK c
  ·by_cases z:c=0
   ·rw [jk k (by rw [cK hn (by omega),z]),jw hn (by omega),beq_eq_false_iff_ne];omega
   ·rw [jk k (bW hn (by omega)),jw hn (by omega),beq_eq_false_iff_ne];omega
  ·exact lH hn (by omega)
 ·have hl:two63≤c:=by omega
  have hl2:c<2 * two63:=by omega
  have hs:=qC hl hl2
  by_cases b:9223372036854775807 - inf≤k
  ·have hn:bK c=false:=by rw [jV hl hl2];exact decide_eq_false (by omega)
   by_cases z:k=9223372036854775807
   ·rw [decide_eq_false (by omega)]
    exact oN k (by rw [cK hn (by omega)];omega)
   ·rw [decide_eq_true (by omega:9223372036854775807 - inf≤k∧k<9223372036854775807)]
    rw [jk k (bW hn (by omega)),jW hn (by omega),beq_iff_eq];omega
  ·rw [decide_eq_false (by omega)]
   have hn:bK c=true:=by rw [jV hl hl2];exact decide_eq_true (by omega)
   exact oN k (by rw [fM hn];omega)
theorem yz (k:Int):asks 9221120237041090561 k=decide (k=0):=by
 have hn:bK 9221120237041090561=true:=pq
 by_cases h:k=0
 ·subst h;decide +kernel
 ·rw [decide_eq_false h];exact lH hn h
theorem tC (k:Int) (h0:0≤k) (h1:k<18446744073709551616) :
  fit k=true↔k=0∨(9223372036854775808≤k∧k≤9223372036854775808+inf)∨(9223372036854775807 - inf≤k∧k<9223372036854775807):=by
 have e1:=iC;have e2:=fE;have e3:=tZ
 unfold fit iQ
 by_cases a:k<9223372036854775808
 ·rw [if_pos a]
  generalize hc:W (18446744073709551615 - k)=c
  have hc2:(c:Int)=18446744073709551615 - k:=by rw [← hc];unfold W;omega
  have hl:two63≤c:=by omega
  have hl2:c<2 * two63:=by omega
  have hs:=qC hl hl2
  cases hn:bK c
  ·have:=dF hn
   by_cases z:k=9223372036854775807
   ·rw [jw hn (by omega),beq_iff_eq];omega
   ·rw [jW hn (by omega),beq_iff_eq];omega
  ·rw [jV hl hl2] at hn
   have hn':=of_decide_eq_true hn
   rw [iV (by rw [jV hl hl2,hn]),beq_iff_eq];omega
 ·rw [if_neg a]
  generalize hc:W (k - 9223372036854775808)=c
  have hc2:(c:Int)=k - 9223372036854775808:=by rw [← hc];unfold W;omega
  have hl:c<two63:=by omega
  have hs:=nE hl
  cases hn:bK c
  ·have:=dF hn
   rw [jw hn (by omega),beq_iff_eq];omega
  ·rw [lQ hl] at hn
   have hn':=of_decide_eq_true hn
   rw [iV (by rw [lQ hl,hn]),beq_iff_eq];omega
theorem wd_of {k:Int} {b:Nat} (h:asks b k=true) (hf:fit k=true) (e:b=W (iQ k)):wd k=b:=by
 have h2:=(jQ h).1
 have h3:canon b=b:=by rw [beq_iff_eq] at h2;unfold I at h2;omega
 rw [iR hf,← e,h3]
theorem Ay (k:Int) (h0:0≤k) (h1:k<18446744073709551616) :
  (asks (W (IntKind.u64.wrap (k - 9223372036854775808))) k=true∧fit k=true∧wd k=W (IntKind.u64.wrap (k - 9223372036854775808)))
  ∨ (asks (W (IntKind.u64.wrap (k - 9223372036854775808))) k=false∧asks (W (IntKind.u64.wrap (18446744073709551615 - k))) k=true∧fit k=true∧wd k=W (IntKind.u64.wrap (18446744073709551615 - k)))
  ∨ (asks (W (IntKind.u64.wrap (k - 9223372036854775808))) k=false∧asks (W (IntKind.u64.wrap (18446744073709551615 - k))) k=false∧asks (W 9221120237041090561) k=true∧fit k=true∧wd k=W 9221120237041090561)
  ∨ (asks (W (IntKind.u64.wrap (k - 9223372036854775808))) k=false∧asks (W (IntKind.u64.wrap (18446744073709551615 - k))) k=false∧asks (W 9221120237041090561) k=false∧fit k=false∧wd k=0):=by
 have e1:=iC
 have a1:=xI k h0 h1
 have a2:=wF k h0 h1
 have a3:asks (W 9221120237041090561) k=decide (k=0):=yz k
 have a4:=tC k h0 h1
 by_cases b1:9223372036854775808≤k∧k≤9223372036854775808+inf
 ·have hf:fit k=true:=a4.2 (by omega)
  rw [decide_eq_true b1] at a1
  exact Or.inl ⟨a1,hf,wd_of a1 hf (by rw [mQ (by omega) h1])⟩
 ·rw [decide_eq_false b1] at a1
  by_cases b2:9223372036854775807 - inf≤k∧k<9223372036854775807
  ·have hf:fit k=true:=a4.2 (by omega)
   rw [decide_eq_true b2] at a2
   exact Or.inr (Or.inl ⟨a1,a2,hf,wd_of a2 hf (by rw [oZ (by omega) h0])⟩)
  ·rw [decide_eq_false b2] at a2
   by_cases b3:k=0
   ·rw [decide_eq_true b3] at a3
    have hf:fit k=true:=a4.2 (by omega)
    refine Or.inr (Or.inr (Or.inl ⟨a1,a2,a3,hf,?_⟩))
    rw [iR hf,b3];decide +kernel
   ·rw [decide_eq_false b3] at a3
    have hf:fit k=false:=by
     cases e:fit k
     ·rfl
     ·have:=a4.1 e;omega
    exact Or.inr (Or.inr (Or.inr ⟨a1,a2,a3,hf,Co hf⟩))
theorem rC (n:Int):W (IntKind.u64.wrap n)<18446744073709551616:=by rw [wrap_u64];unfold W;omega
theorem BU:W 9221120237041090561<18446744073709551616:=by decide +kernel
end Fl
theorem of_c (k:Int) (w:World) (h0:0≤k) (h1:k<18446744073709551616) :
  Calls prog 147 #[.int .u64 k] w fun e w'=>e=.returned (.tuple #[.float .f64 (Fl.wd k),.bool (Fl.fit k)])∧w=w':=by
 have hb:Fl.canon (Fl.W (Fl.iQ k))<18446744073709551616:=Fl.uR (Fl.W_lt (Fl.oW h0 h1).2)
 cases f:Fl.fit k
 ·have t2:(Fl.key (Fl.canon (Fl.W (Fl.iQ k))) != k)=true:=by unfold Fl.fit at f;rw [Fl.mZ,bne,f];rfl
  have c2:=hid (Fl.Co f)
  clear f
  by_cases hk:k<9223372036854775808
  ·have t1:decide (9223372036854775808≤k)=false:=decide_eq_false (by omega)
   have c1:=hid (Fl.oZ hk h0)
   clear hk h0 h1
   go_enter func147,ntmps147
   go_wp2_with fail
   rw [c1.out]
   go_wp2_with (first
    | (go_at_call 127;refine (ig _ _).mono ?_;rintro e w' ⟨rfl,rfl⟩)
    | (go_at_call 99;refine (rW _ _ (by assumption)).mono ?_;rintro e w' ⟨rfl,rfl⟩))
   go_ret2
   exact⟨jF c2.out.symm rfl,rfl⟩
  ·have t1:decide (9223372036854775808≤k)=true:=decide_eq_true (by omega)
   have c1:=hid (Fl.mQ hk h1)
   clear hk h0 h1
   go_enter func147,ntmps147
   go_wp2_with fail
   rw [c1.out]
   go_wp2_with (first
    | (go_at_call 127;refine (ig _ _).mono ?_;rintro e w' ⟨rfl,rfl⟩)
    | (go_at_call 99;refine (rW _ _ (by assumption)).mono ?_;rintro e w' ⟨rfl,rfl⟩))
   go_ret2
   exact⟨jF c2.out.symm rfl,rfl⟩
 ·have t2:(Fl.key (Fl.canon (Fl.W (Fl.iQ k))) != k)=false:=by unfold Fl.fit at f;rw [Fl.mZ,bne,f];rfl
  have c2:=hid (Fl.iR f)
  clear f
  by_cases hk:k<9223372036854775808
  ·have t1:decide (9223372036854775808≤k)=false:=decide_eq_false (by omega)
   have c1:=hid (Fl.oZ hk h0)
   clear hk h0 h1
   go_enter func147,ntmps147
   go_wp2_with fail
   rw [c1.out]
   go_wp2_with (first
    | (go_at_call 127;refine (ig _ _).mono ?_;rintro e w' ⟨rfl,rfl⟩)
    | (go_at_call 99;refine (rW _ _ (by assumption)).mono ?_;rintro e w' ⟨rfl,rfl⟩))
   go_ret2
   exact⟨jF c2.out.symm rfl,rfl⟩
  ·have t1:decide (9223372036854775808≤k)=true:=decide_eq_true (by omega)
   have c1:=hid (Fl.mQ hk h1)
   clear hk h0 h1
   go_enter func147,ntmps147
   go_wp2_with fail
   rw [c1.out]
   go_wp2_with (first
    | (go_at_call 127;refine (ig _ _).mono ?_;rintro e w' ⟨rfl,rfl⟩)
    | (go_at_call 99;refine (rW _ _ (by assumption)).mono ?_;rintro e w' ⟨rfl,rfl⟩))
   go_ret2
   exact⟨jF c2.out.symm rfl,rfl⟩
theorem ze (k:Int) (w:World) (h0:0≤k) (h1:k<18446744073709551616) :
  Calls prog 141 #[.int .u64 k] w fun e w'=>e=.returned (.tuple #[.float .f64 (Fl.wd k),.bool (Fl.fit k)])∧Below w.heap.size w w':=by
 have l1:=Fl.rC (k - 9223372036854775808)
 have l2:=Fl.rC (18446744073709551615 - k)
 have l3:=Fl.BU
 rcases Fl.Ay k h0 h1 with⟨q1,f⟩ | ⟨q1,q2,f⟩ | ⟨q1,q2,q3,f⟩ | ⟨q1,q2,q3,f⟩
 ·have c:=hid f
  clear f h0 h1
  obtain⟨r1,r2⟩:=Fl.jQ q1
  clear q1
  go_enter func141,ntmps141
  go_wp2_with fail
  refine wp_loop_rounds 4 ?_
  rw [rounds_succ]
  go_wp2_with (first
    | (go_at_call 74;refine (dC _ _).mono ?_;rintro e w' ⟨rfl,rfl⟩)
    | (go_at_call 102;refine (dU _ _ (by assumption)).mono ?_;rintro e w' ⟨rfl,rfl⟩))
  go_ret2
  exact⟨jF c.out.2.symm c.out.1.symm,(Below.refl _ _).alloc (Nat.le_refl _) _⟩
 ·have c:=hid f
  clear f h0 h1
  obtain⟨r3,r4⟩:=Fl.jQ q2
  rcases Fl.fK q1 with r1 | ⟨r1,r2⟩
  all_goals
   clear q1 q2
   go_enter func141,ntmps141
   go_wp2_with fail
   refine wp_loop_rounds 4 ?_
   rw [rounds_succ]
   go_wp2_with (first
    | (go_at_call 74;refine (dC _ _).mono ?_;rintro e w' ⟨rfl,rfl⟩)
    | (go_at_call 102;refine (dU _ _ (by assumption)).mono ?_;rintro e w' ⟨rfl,rfl⟩))
   rw [rounds_succ]
   go_wp2_with (first
    | (go_at_call 74;refine (dC _ _).mono ?_;rintro e w' ⟨rfl,rfl⟩)
    | (go_at_call 102;refine (dU _ _ (by assumption)).mono ?_;rintro e w' ⟨rfl,rfl⟩))
   go_ret2
   exact⟨jF c.out.2.symm c.out.1.symm,(Below.refl _ _).alloc (Nat.le_refl _) _⟩
 ·have c:=hid f
  clear f h0 h1
  rcases Fl.fK q1 with r1 | ⟨r1,r2⟩ <;> rcases Fl.fK q2 with r3 | ⟨r3,r4⟩
  all_goals
   obtain⟨r5,r6⟩:=Fl.jQ q3
   clear q1 q2 q3
   go_enter func141,ntmps141
   go_wp2_with fail
   refine wp_loop_rounds 4 ?_
   rw [rounds_succ]
   go_wp2_with (first
    | (go_at_call 74;refine (dC _ _).mono ?_;rintro e w' ⟨rfl,rfl⟩)
    | (go_at_call 102;refine (dU _ _ (by assumption)).mono ?_;rintro e w' ⟨rfl,rfl⟩))
   rw [rounds_succ]
   go_wp2_with (first
    | (go_at_call 74;refine (dC _ _).mono ?_;rintro e w' ⟨rfl,rfl⟩)
    | (go_at_call 102;refine (dU _ _ (by assumption)).mono ?_;rintro e w' ⟨rfl,rfl⟩))
   rw [rounds_succ]
   go_wp2_with (first
    | (go_at_call 74;refine (dC _ _).mono ?_;rintro e w' ⟨rfl,rfl⟩)
    | (go_at_call 102;refine (dU _ _ (by assumption)).mono ?_;rintro e w' ⟨rfl,rfl⟩))
   go_ret2
   exact⟨jF c.out.2.symm c.out.1.symm,(Below.refl _ _).alloc (Nat.le_refl _) _⟩
 ·have c:=hid f
  clear f h0 h1
  rcases Fl.fK q1 with r1 | ⟨r1,r2⟩ <;> rcases Fl.fK q2 with r3 | ⟨r3,r4⟩
  all_goals
   rcases Fl.fK q3 with r5 | ⟨r5,r6⟩
   all_goals
    clear q1 q2 q3
    go_enter func141,ntmps141
    go_wp2_with fail
    refine wp_loop_rounds 4 ?_
    rw [rounds_succ]
    go_wp2_with (first
    | (go_at_call 74;refine (dC _ _).mono ?_;rintro e w' ⟨rfl,rfl⟩)
    | (go_at_call 102;refine (dU _ _ (by assumption)).mono ?_;rintro e w' ⟨rfl,rfl⟩))
    rw [rounds_succ]
    go_wp2_with (first
    | (go_at_call 74;refine (dC _ _).mono ?_;rintro e w' ⟨rfl,rfl⟩)
    | (go_at_call 102;refine (dU _ _ (by assumption)).mono ?_;rintro e w' ⟨rfl,rfl⟩))
    rw [rounds_succ]
    go_wp2_with (first
    | (go_at_call 74;refine (dC _ _).mono ?_;rintro e w' ⟨rfl,rfl⟩)
    | (go_at_call 102;refine (dU _ _ (by assumption)).mono ?_;rintro e w' ⟨rfl,rfl⟩))
    rw [rounds_succ]
    go_wp2_with (first
    | (go_at_call 74;refine (dC _ _).mono ?_;rintro e w' ⟨rfl,rfl⟩)
    | (go_at_call 102;refine (dU _ _ (by assumption)).mono ?_;rintro e w' ⟨rfl,rfl⟩))
    go_ret2
    exact⟨jF c.out.2.symm c.out.1.symm,(Below.refl _ _).alloc (Nat.le_refl _) _⟩
open Go.ChangeShapes Go.WideShapes Go.ChangeAt Go.RowKit
namespace Fl
theorem fit_key {a:Nat} (ha:a<18446744073709551616):fit (key a)=true∧wd (key a)=canon a:=by
 have e1:=iC
 have e2:=fE
 cases n:bK a
 ·have bd:=dF n
  by_cases s:0≤sv a
  ·have hk:=jw n s
   have hf:fit (key a)=true:=(tC _ (eX a).1 (eX a).2).2 (by omega)
   refine⟨hf,?_⟩
   have hc:=lI ha n s
   have hw:W (iQ (key a))=canon a:=by
    unfold iQ;rw [if_neg (by omega)];unfold W;unfold I at hc;omega
   rw [iR hf,hw,nM]
  ·have hk:=jW n (by omega)
   have hf:fit (key a)=true:=(tC _ (eX a).1 (eX a).2).2 (by omega)
   refine⟨hf,?_⟩
   have hc:=jR ha n (by omega)
   have hw:W (iQ (key a))=canon a:=by
    unfold iQ;rw [if_pos (by omega)];unfold W;unfold I at hc;omega
   rw [iR hf,hw,nM]
 ·rw [iV n,fM n]
  have hf:fit 0=true:=by decide +kernel
  exact⟨hf,by rw [iR hf];decide +kernel⟩
theorem wd_lt (k:Int) (h0:0≤k) (h1:k<18446744073709551616):wd k<18446744073709551616:=by
 unfold wd;split
 ·exact uR (W_lt (oW h0 h1).2)
 ·omega
theorem key_wd {k:Int} (h:fit k=true):(key (wd k)==k)=true:=by
 rw [iR h,mZ];exact h
end Fl
end
end
end Go.Proofs.YtmcfknnfaokmlaaGreat
