import GoSem.Core.Float
import GoSem.Op.Unary
namespace Go.Proofs.YtmcfknnfaokmlaaGreat
set_option maxHeartbeats 16000000
set_option linter.unusedSimpArgs false
set_option maxRecDepth 100000
section
namespace Fl
def V (B r:Nat):Nat:=if r<B then r else (B+r % B) * 2 ^ (r / B - 1)
theorem V_zero (B:Nat) (hB:0<B):V B 0=0:=by simp [V,hB]
theorem BN (B:Nat) (hB:0<B) (r:Nat):V B r<V B (r+1):=by
 unfold V
 by_cases h1:r+1<B
 ·rw [if_pos (by omega),if_pos h1];omega
 ·rw [if_neg h1]
  by_cases h2:r<B
  ·have e:r+1=B:=by omega
   rw [if_pos h2,e,Nat.mod_self,Nat.div_self hB]
   simp;omega
  ·rw [if_neg h2]
   have hq:1≤r / B:=(Nat.le_div_iff_mul_le hB).2 (by omega)
   have hlt:=Nat.mod_lt r hB
   have hdm:=Nat.div_add_mod r B
   by_cases h3:r % B+1=B
   ·have e:r+1=B * (r / B+1):=by rw [Nat.mul_add];omega
    have e1:(r+1) % B=0:=by rw [e,Nat.mul_mod_right]
    have e2:(r+1) / B=r / B+1:=by rw [e,Nat.mul_div_cancel_left _ hB]
    rw [e1,e2]
    obtain⟨q,hq'⟩:∃ q,r / B=q+1:=⟨r / B - 1,by omega⟩
    rw [hq']
    have:q+1+1 - 1=q+1:=by omega
    rw [this,Nat.add_sub_cancel,Nat.pow_succ,Nat.add_zero]
    have hp:0<2 ^ q:=Nat.two_pow_pos q
    calc (B+r % B) * 2 ^ q<(B * 2) * 2 ^ q:=Nat.mul_lt_mul_of_pos_right (by omega) hp
     _=B * (2 ^ q * 2):=by rw [Nat.mul_assoc,Nat.mul_comm 2]
   ·have e:r+1=r % B+1+B * (r / B):=by omega
    have e1:(r+1) % B=r % B+1:=by rw [e,Nat.add_mul_mod_self_left,Nat.mod_eq_of_lt (by omega)]
    have e2:(r+1) / B=r / B:=by rw [e,Nat.add_mul_div_left _ _ hB,Nat.div_eq_of_lt (by omega),Nat.zero_add]
    rw [e1,e2]
    exact Nat.mul_lt_mul_of_pos_right (by omega) (Nat.two_pow_pos _)
theorem V_lt (B:Nat) (hB:0<B) {r s:Nat} (h:r<s):V B r<V B s:=by
 induction s with
 | zero=>omega
 | succ s ih =>
  by_cases e:r=s
  ·subst e;exact BN B hB r
  ·exact Nat.lt_trans (ih (by omega)) (BN B hB s)
theorem uN (B:Nat) (hB:0<B) (r s:Nat):V B r<V B s↔r<s:=by
 constructor
 ·intro h
  rcases Nat.lt_trichotomy r s with h1 | h1 | h1
  ·exact h1
  ·subst h1;omega
  ·have:=V_lt B hB h1;omega
 ·exact V_lt B hB
theorem oK (B:Nat) (hB:0<B) (r s:Nat):V B r=V B s↔r=s:=by
 constructor
 ·intro h
  rcases Nat.lt_trichotomy r s with h1 | h1 | h1
  ·have:=V_lt B hB h1;omega
  ·exact h1
  ·have:=V_lt B hB h1;omega
 ·intro h;rw [h]
def sg (neg:Bool) (n:Nat):Int:=if neg then -(n:Int) else n
theorem rO {x y x' y':Int} (h1:x<y↔x'<y') (h2:x=y↔x'=y'):compare x y=compare x' y':=by
 show compareOfLessAndEq x y=compareOfLessAndEq x' y'
 unfold compareOfLessAndEq
 by_cases a:x<y
 ·rw [if_pos a,if_pos (h1.1 a)]
 ·rw [if_neg a,if_neg (fun h=>a (h1.2 h))]
  by_cases b:x=y
  ·rw [if_pos b,if_pos (h2.1 b)]
  ·rw [if_neg b,if_neg (fun h=>b (h2.2 h))]
theorem cmp_sg (B:Nat) (hB:0<B) (s t:Bool) (r q:Nat):compare (sg s (V B r)) (sg t (V B q))=compare (sg s r) (sg t q):=by
 have h0:=V_zero B hB
 have hr:V B r=0↔r=0:=by have:=oK B hB r 0;rw [h0] at this;exact this
 have hq:V B q=0↔q=0:=by have:=oK B hB q 0;rw [h0] at this;exact this
 have h1:=uN B hB r q
 have h2:=uN B hB q r
 have h3:=oK B hB r q
 apply rO <;> cases s <;> cases t <;> simp only [sg,if_true,Bool.false_eq_true,if_false] <;> omega
theorem qA (s:Bool) (m u k:Nat):Ieee.signed s m u * ((2 ^ k:Nat):Int)=sg s (m * 2 ^ (u+k)):=by
 unfold Ieee.signed sg
 rw [Nat.shiftLeft_eq,Nat.pow_add,← Nat.mul_assoc]
 cases s
 ·simp only [Bool.false_eq_true,if_false];rw [← Int.natCast_mul]
 ·simp only [if_true];rw [Int.neg_mul,← Int.natCast_mul]
theorem qZ (B:Nat) (hB:0<B) (lp:Int) (s t:Bool) (m n r q:Nat) (i j:Int) (hi:lp≤i) (hj:lp≤j)
  (hm:m * 2 ^ (i - lp).toNat=V B r) (hn:n * 2 ^ (j - lp).toNat=V B q) :
  (Ieee.Datum.number s m i).order (.number t n j)=some (compare (sg s r) (sg t q)):=by
 show some (compare (Ieee.signed s m (i - min i j).toNat) (Ieee.signed t n (j - min i j).toNat))=_
 congr 1
 rw [← cmp_sg B hB s t r q,← hm,← hn]
 have e1:(i - lp).toNat=(i - min i j).toNat+(min i j - lp).toNat:=by omega
 have e2:(j - lp).toNat=(j - min i j).toNat+(min i j - lp).toNat:=by omega
 rw [e1,e2,← qA,← qA]
 have hp:(0:Int)<((2 ^ (min i j - lp).toNat:Nat):Int):=by
  have:=Nat.two_pow_pos (min i j - lp).toNat;omega
 exact rO ⟨fun h=>Int.mul_lt_mul_of_pos_right h hp,fun h=>Int.lt_of_mul_lt_mul_right h (Int.le_of_lt hp)⟩
  ⟨fun h=>by rw [h],fun h=>Int.eq_of_mul_eq_mul_right (by omega) h⟩
theorem iy (f:Ieee.Format) (w:Nat) (h:w % f.signWeight<f.infRung) :
  ∃ m i,f.read w=.number (w / f.signWeight % 2==1) m i∧f.leastPlace≤i∧m * 2 ^ (i - f.leastPlace).toNat=V f.binade (w % f.signWeight):=by
 unfold Ieee.Format.read V
 by_cases h1:w % f.signWeight<f.binade
 ·refine⟨w % f.signWeight,f.leastPlace,?_,Int.le_refl _,?_⟩
  ·simp only [if_pos h1]
  ·rw [if_pos h1,Int.sub_self];simp
 ·refine⟨f.binade+w % f.signWeight % f.binade,f.leastPlace+((w % f.signWeight / f.binade - 1:Nat):Int),?_,by omega,?_⟩
  ·simp only [if_neg h1,if_pos h]
  ·rw [if_neg h1];congr 2;omega
theorem mh (f:Ieee.Format) (w:Nat) (hb:f.binade≤f.infRung) (h:w % f.signWeight=f.infRung):f.read w=.infinity (w / f.signWeight % 2==1):=by
 unfold Ieee.Format.read
 simp only [h,if_neg (Nat.not_lt.2 hb),if_neg (Nat.lt_irrefl _),if_true]
theorem vZ (f:Ieee.Format) (w:Nat) (hb:f.binade≤f.infRung) (h:f.infRung<w % f.signWeight):∃ n t,f.read w=.nan n t:=by
 unfold Ieee.Format.read
 refine⟨w / f.signWeight % 2==1,w % f.signWeight - f.infRung,?_⟩
 simp only [if_neg (show ¬ w % f.signWeight<f.binade by omega),if_neg (show ¬ w % f.signWeight<f.infRung by omega),if_neg (show ¬ w % f.signWeight=f.infRung by omega)]
theorem pW (f:Ieee.Format) (a b:Nat) (hb:f.binade≤f.infRung) (h:f.infRung<a % f.signWeight):f.order a b=none:=by
 unfold Ieee.Format.order
 obtain⟨n,t,e⟩:=vZ f a hb h
 rw [e];rfl
theorem oh (f:Ieee.Format) (a b:Nat) (hb:f.binade≤f.infRung) (h:f.infRung<b % f.signWeight):f.order a b=none:=by
 unfold Ieee.Format.order
 obtain⟨n,t,e⟩:=vZ f b hb h
 rw [e]
 cases f.read a <;> rfl
theorem vQ (f:Ieee.Format) (a b:Nat) (hB:0<f.binade) (hb:f.binade≤f.infRung) (ha:a % f.signWeight≤f.infRung) (hc:b % f.signWeight≤f.infRung) :
  f.order a b=some (compare (sg (a / f.signWeight % 2==1) (a % f.signWeight)) (sg (b / f.signWeight % 2==1) (b % f.signWeight))):=by
 unfold Ieee.Format.order
 rcases Nat.lt_or_eq_of_le ha with h1 | h1 <;> rcases Nat.lt_or_eq_of_le hc with h2 | h2
 ·obtain⟨m,i,e1,e2,e3⟩:=iy f a h1
  obtain⟨n,j,e4,e5,e6⟩:=iy f b h2
  rw [e1,e4]
  exact qZ f.binade hB f.leastPlace _ _ m n _ _ i j e2 e5 e3 e6
 ·obtain⟨m,i,e1,e2,e3⟩:=iy f a h1
  rw [e1,mh f b hb h2]
  generalize (a / f.signWeight % 2==1)=s
  generalize (b / f.signWeight % 2==1)=t
  show some (if t then Ordering.gt else .lt)=_
  congr 1
  show _=compareOfLessAndEq _ _
  unfold compareOfLessAndEq
  rw [h2]
  cases s <;> cases t <;> simp only [sg,if_true,Bool.false_eq_true,if_false]
  ·rw [if_pos (by omega)]
  ·rw [if_neg (by omega),if_neg (by omega)]
  ·rw [if_pos (by omega)]
  ·rw [if_neg (by omega),if_neg (by omega)]
 ·obtain⟨n,j,e4,e5,e6⟩:=iy f b h2
  rw [e4,mh f a hb h1]
  generalize (a / f.signWeight % 2==1)=s
  generalize (b / f.signWeight % 2==1)=t
  show some (if s then Ordering.lt else .gt)=_
  congr 1
  show _=compareOfLessAndEq _ _
  unfold compareOfLessAndEq
  rw [h1]
  cases s <;> cases t <;> simp only [sg,if_true,Bool.false_eq_true,if_false]
  ·rw [if_neg (by omega),if_neg (by omega)]
  ·rw [if_neg (by omega),if_neg (by omega)]
  ·rw [if_pos (by omega)]
  ·rw [if_pos (by omega)]
 ·rw [mh f a hb h1,mh f b hb h2]
  generalize (a / f.signWeight % 2==1)=s
  generalize (b / f.signWeight % 2==1)=t
  show some (compare t.toNat s.toNat)=_
  congr 1
  rw [h1,h2]
  have hp:0<f.infRung:=by omega
  show _=compareOfLessAndEq _ _
  unfold compareOfLessAndEq
  cases s <;> cases t <;> simp only [sg,if_true,Bool.false_eq_true,if_false,Bool.toNat_true,Bool.toNat_false]
  ·rw [if_neg (by omega)];rfl
  ·rw [if_neg (by omega),if_neg (by omega)];rfl
  ·rw [if_pos (by omega)];rfl
  ·rw [if_neg (by omega)];rfl
def inf:Nat:=9218868437227405312
def two63:Nat:=9223372036854775808
def nanW:Nat:=9221120237041090561
theorem iC:inf=9218868437227405312:=rfl
theorem fE:two63=9223372036854775808:=rfl
theorem tZ:nanW=9221120237041090561:=rfl
theorem oC:FloatKind.f64.format.infRung=inf:=by decide +kernel
theorem o7:FloatKind.f64.format.signWeight=two63:=by decide +kernel
theorem xG:0<FloatKind.f64.format.binade:=Nat.two_pow_pos _
theorem xH:FloatKind.f64.format.binade≤FloatKind.f64.format.infRung:=by decide +kernel
def I (b:Nat):Int:=b
def W (n:Int):Nat:=n.toNat
def bK (b:Nat):Bool:=decide (inf<b % two63)
def sv (b:Nat):Int:=if b / two63 % 2=1 then -((b % two63:Nat):Int) else ((b % two63:Nat):Int)
theorem sv_eq (b:Nat):sv b=sg (b / two63 % 2==1) (b % two63):=by
 unfold sv sg
 by_cases h:b / two63 % 2=1
 ·rw [if_pos h,if_pos (by simp [h])]
 ·rw [if_neg h,if_neg (by simp [h])]
theorem gD {a:Nat} (h:bK a=true) (b:Nat):FloatKind.f64.format.order a b=none :=
 pW _ a b xH (by rw [oC,o7];exact of_decide_eq_true h)
theorem fQ (a:Nat) {b:Nat} (h:bK b=true):FloatKind.f64.format.order a b=none :=
 oh _ a b xH (by rw [oC,o7];exact of_decide_eq_true h)
theorem kU {a b:Nat} (ha:bK a=false) (hb:bK b=false):FloatKind.f64.format.order a b=some (compare (sv a) (sv b)):=by
 have h1:¬ inf<a % two63:=of_decide_eq_false ha
 have h2:¬ inf<b % two63:=of_decide_eq_false hb
 rw [vQ _ a b xG xH (by rw [oC,o7];omega) (by rw [oC,o7];omega),o7,sv_eq,sv_eq]
theorem cmp_lt (x y:Int):(some (compare x y)==some Ordering.lt)=decide (x<y):=by
 show (some (compareOfLessAndEq x y)==some Ordering.lt)=_
 unfold compareOfLessAndEq
 by_cases h:x<y
 ·rw [if_pos h];simp [h]
 ·rw [if_neg h]
  by_cases e:x=y
  ·rw [if_pos e];simp [h]
  ·rw [if_neg e];simp [h]
theorem cmp_eq (x y:Int):(some (compare x y)==some Ordering.eq)=decide (x=y):=by
 show (some (compareOfLessAndEq x y)==some Ordering.eq)=_
 unfold compareOfLessAndEq
 by_cases h:x<y
 ·rw [if_pos h];simp;omega
 ·rw [if_neg h]
  by_cases e:x=y
  ·rw [if_pos e];simp [e]
  ·rw [if_neg e];simp [e]
theorem cmp_gt (x y:Int):(some (compare x y)==some Ordering.gt)=decide (y<x):=by
 show (some (compareOfLessAndEq x y)==some Ordering.gt)=_
 unfold compareOfLessAndEq
 by_cases h:x<y
 ·rw [if_pos h];simp;omega
 ·rw [if_neg h]
  by_cases e:x=y
  ·rw [if_pos e];simp;omega
  ·rw [if_neg e];simp;omega
def pK (a b:Nat):Bool:=!bK a && !bK b && decide (sv a<sv b)
def kC (a b:Nat):Bool:=!bK a && !bK b && decide (sv a=sv b)
theorem Du (a b:Nat):(FloatKind.f64.format.order a b==some .lt)=pK a b:=by
 unfold pK
 cases ha:bK a
 ·cases hb:bK b
  ·rw [kU ha hb,cmp_lt];simp
  ·rw [fQ a hb];rfl
 ·rw [gD ha];rfl
theorem vP (a b:Nat):(FloatKind.f64.format.order a b==some .eq)=kC a b:=by
 unfold kC
 cases ha:bK a
 ·cases hb:bK b
  ·rw [kU ha hb,cmp_eq];simp
  ·rw [fQ a hb];rfl
 ·rw [gD ha];rfl
theorem Dv (a b:Nat):(FloatKind.f64.format.order a b != some .eq)=!kC a b:=by
 rw [← vP];rfl
theorem Dt (a b:Nat):(FloatKind.f64.format.order a b==some .gt)=pK b a:=by
 unfold pK
 cases ha:bK a
 ·cases hb:bK b
  ·rw [kU ha hb,cmp_gt];simp
  ·rw [fQ a hb];rfl
 ·rw [gD ha];cases bK b <;> rfl
theorem Ci (a:Nat):kC a a=!bK a:=by unfold kC;cases bK a <;> simp
def rJ (b:Nat):Int:=if bK b=true then 0 else if sv b=-inf then 1 else if sv b<0 then 2 else if sv b=0 then 3 else if sv b<inf then 4 else 5
def canon (b:Nat):Nat:=if bK b=true then nanW else if sv b=0 then 0 else b
def key (b:Nat):Int:=if bK b=true then 0 else if sv b<0 then two63 - 1+sv b else two63+sv b
theorem dF {b:Nat} (h:bK b=false):-(inf:Int)≤sv b∧sv b≤inf:=by
 have h1:¬ inf<b % two63:=of_decide_eq_false h
 unfold sv;split <;> omega
theorem zA (b:Nat):(b ^^^ 2 ^ 63) % 2 ^ 63=b % 2 ^ 63:=by
 rw [Nat.xor_mod_two_pow,Nat.mod_self,Nat.xor_zero]
theorem xor_div (b:Nat):(b ^^^ 2 ^ 63) / 2 ^ 63 % 2=1 - b / 2 ^ 63 % 2:=by
 rw [Nat.xor_div_two_pow,Nat.div_self (Nat.two_pow_pos _)]
 have h:=Nat.xor_mod_two_pow (a:=b / 2 ^ 63) (b:=1) (n:=1)
 rw [Nat.pow_one] at h
 rw [h]
 have:=Nat.mod_lt (b / 2 ^ 63) (show 0<2 by omega)
 have e:b / 2 ^ 63 % 2=0∨b / 2 ^ 63 % 2=1:=by omega
 rcases e with e | e <;> rw [e] <;> rfl
theorem su:two63=2 ^ 63:=by decide +kernel
theorem yO (b:Nat):bK (Op.negFloat .f64 b)=bK b:=by
 unfold bK
 have e:Op.negFloat .f64 b=b ^^^ 2 ^ 63:=rfl
 rw [e,su,zA]
theorem sv_neg (b:Nat):sv (Op.negFloat .f64 b)=- sv b:=by
 unfold sv
 have e:Op.negFloat .f64 b=b ^^^ 2 ^ 63:=rfl
 rw [e,su,zA,xor_div]
 have:=Nat.mod_lt (b / 2 ^ 63) (show 0<2 by omega)
 have e:b / 2 ^ 63 % 2=0∨b / 2 ^ 63 % 2=1:=by omega
 rcases e with e | e <;> rw [e] <;> simp
theorem nE {b:Nat} (h:b<two63):sv b=b:=by
 unfold sv;rw [if_neg (by rw [Nat.div_eq_of_lt h];omega),Nat.mod_eq_of_lt h]
theorem qC {b:Nat} (h:two63≤b) (h2:b<2 * two63):sv b=two63 - b:=by
 unfold two63 at *;unfold sv;rw [if_pos (by unfold two63;omega)];unfold two63;omega
theorem lQ {b:Nat} (h:b<two63):bK b=decide (inf<b):=by
 unfold bK;rw [Nat.mod_eq_of_lt h]
theorem jV {b:Nat} (h:two63≤b) (h2:b<2 * two63):bK b=decide (inf<b - two63):=by
 have e:b % two63=b - two63:=by unfold two63 at *;omega
 unfold bK;rw [e]
theorem lT {a b:Nat} (ha:bK a=false) (hb:bK b=false):pK a b=decide (sv a<sv b):=by unfold pK;rw [ha,hb];simp
theorem eqB_yes {a b:Nat} (ha:bK a=false) (hb:bK b=false):kC a b=decide (sv a=sv b):=by unfold kC;rw [ha,hb];simp
theorem tT {a:Nat} (ha:bK a=true) (b:Nat):pK a b=false:=by unfold pK;rw [ha];simp
theorem kE (a:Nat) {b:Nat} (hb:bK b=true):pK a b=false:=by unfold pK;rw [hb];simp
theorem mE:sv 0=0:=by rw [nE (by unfold two63;omega)];rfl
theorem jv:bK 0=false:=by rw [lQ (by unfold two63;omega)];rfl
theorem yN:bK 9218868437227405311=false:=by decide +kernel
theorem isN_low:bK 18442240474082181119=false:=by decide +kernel
theorem DZ:sv 9218868437227405311=inf - 1:=by decide +kernel
theorem sv_low:sv 18442240474082181119=-(inf:Int)+1:=by decide +kernel
def vD (b:Nat):Bool:=!bK b && decide (sv b=inf)
def qV (b:Nat):Bool:=!bK b && decide (sv b=-(inf:Int))
theorem yU (b:Nat):pK 9218868437227405311 b=vD b:=by
 unfold vD
 cases h:bK b
 ·rw [lT yN h,DZ]
  have:=dF h
  simp only [Bool.not_false,Bool.true_and,decide_eq_decide];omega
 ·rw [kE _ h];rfl
theorem vJ (b:Nat):pK 9218868437227405311 (Op.negFloat .f64 b)=qV b:=by
 unfold qV
 cases h:bK b
 ·rw [lT yN (by rw [yO,h]),DZ,sv_neg]
  have:=dF h
  simp only [Bool.not_false,Bool.true_and,decide_eq_decide];omega
 ·rw [kE _ (by rw [yO,h])];rfl
theorem ltB_low (b:Nat):pK b 18442240474082181119=qV b:=by
 unfold qV
 cases h:bK b
 ·rw [lT h isN_low,sv_low]
  have:=dF h
  simp only [Bool.not_false,Bool.true_and,decide_eq_decide];omega
 ·rw [tT h];rfl
theorem jB {b:Nat} (h:bK b=false):pK b 0=decide (sv b<0):=by rw [lT h jv,mE]
theorem kF {b:Nat} (h:bK b=false):pK 0 b=decide (0<sv b):=by rw [lT jv h,mE]
theorem vk {b:Nat} (h:bK b=false):kC b 0=decide (sv b=0):=by rw [eqB_yes h jv,mE]
theorem cls_nan {b:Nat} (h:bK b=true):rJ b=0:=by unfold rJ;rw [if_pos h]
theorem zO {b:Nat} (h:qV b=true):rJ b=1:=by
 unfold qV at h;simp at h;unfold rJ;rw [if_neg (by simp [h.1]),if_pos h.2]
theorem zN {b:Nat} (h:vD b=true):rJ b=5:=by
 unfold vD at h;simp at h
 have hp:(0:Int)<inf:=by decide +kernel
 unfold rJ;rw [if_neg (by simp [h.1]),if_neg (by omega),if_neg (by omega),if_neg (by omega),if_neg (by omega)]
theorem zP {b:Nat} (h0:bK b=false) (h1:qV b=false) (h:pK b 0=true):rJ b=2:=by
 rw [jB h0] at h
 unfold qV at h1;simp [h0] at h1 h
 unfold rJ;rw [if_neg (by simp [h0]),if_neg h1,if_pos h]
theorem xE {b:Nat} (h0:bK b=false) (h1:pK b 0=false) (h:pK 0 b=false):rJ b=3:=by
 rw [jB h0] at h1
 rw [kF h0] at h
 simp at h1 h
 have hp:(0:Int)<inf:=by decide +kernel
 unfold rJ;rw [if_neg (by simp [h0]),if_neg (by omega),if_neg (by omega),if_pos (by omega)]
theorem Cg {b:Nat} (h0:bK b=false) (h1:vD b=false) (h:0<sv b):rJ b=4:=by
 have bd:=dF h0
 unfold vD at h1;simp [h0] at h1
 unfold rJ;rw [if_neg (by simp [h0]),if_neg (by omega),if_neg (by omega),if_neg (by omega),if_pos (by omega)]
theorem pos_of {b:Nat} (h0:bK b=false) (h:pK 0 b=true):0<sv b:=by
 rw [kF h0] at h;simpa using h
theorem sV (b:Nat):(rJ b==0)=bK b:=by
 unfold rJ
 cases bK b
 ·simp;repeat' split
  all_goals decide
 ·simp
theorem rM {b:Nat} (h0:bK b=false):(rJ b==3)=decide (sv b=0):=by
 have hp:(0:Int)<inf:=by decide +kernel
 unfold rJ
 rw [h0]
 by_cases h:sv b=0
 ·simp [h];omega
 ·simp [h];repeat' split
  all_goals decide
theorem fM {b:Nat} (h:bK b=true):canon b=nanW:=by unfold canon;rw [if_pos h]
theorem cK {b:Nat} (h0:bK b=false) (h:sv b=0):canon b=0:=by unfold canon;rw [if_neg (by simp [h0]),if_pos h]
theorem bW {b:Nat} (h0:bK b=false) (h:¬ sv b=0):canon b=b:=by unfold canon;rw [if_neg (by simp [h0]),if_neg h]
theorem uR {b:Nat} (h:b<18446744073709551616):canon b<18446744073709551616:=by
 unfold canon;split
 ·decide +kernel
 ·split <;> omega
theorem DY {b:Nat} (h:bK b=false):sv (canon b)=sv b:=by
 by_cases e:sv b=0
 ·rw [cK h e,e,mE]
 ·rw [bW h e]
theorem pq:bK nanW=true:=by decide +kernel
theorem zX (b:Nat):bK (canon b)=bK b:=by
 cases h:bK b
 ·by_cases e:sv b=0
  ·rw [cK h e,jv]
  ·rw [bW h e,h]
 ·rw [fM h,pq]
theorem nM (b:Nat):canon (canon b)=canon b:=by
 cases h:bK b
 ·by_cases e:sv b=0
  ·rw [cK h e,cK jv mE]
  ·rw [bW h e,bW h e]
 ·rw [fM h,fM pq]
theorem lI {b:Nat} (hb:b<18446744073709551616) (h:bK b=false) (hs:0≤sv b):I (canon b)=sv b:=by
 unfold I
 by_cases e:sv b=0
 ·rw [cK h e,e];rfl
 ·rw [bW h e]
  by_cases l:b<two63
  ·rw [nE l]
  ·have:=qC (b:=b) (by omega) (by unfold two63;omega);omega
theorem jR {b:Nat} (hb:b<18446744073709551616) (h:bK b=false) (hs:sv b<0):I (canon b)=two63 - sv b:=by
 unfold I
 rw [bW h (by omega)]
 by_cases l:b<two63
 ·have:=nE l;omega
 ·have:=qC (b:=b) (by omega) (by unfold two63;omega);omega
theorem iV {b:Nat} (h:bK b=true):key b=0:=by unfold key;rw [if_pos h]
theorem jw {b:Nat} (h:bK b=false) (hs:0≤sv b):key b=two63+sv b:=by
 unfold key;rw [if_neg (by simp [h]),if_neg (by omega)]
theorem jW {b:Nat} (h:bK b=false) (hs:sv b<0):key b=two63 - 1+sv b:=by
 unfold key;rw [if_neg (by simp [h]),if_pos hs]
theorem wrap_u64 (n:Int):IntKind.u64.wrap n=n % 18446744073709551616:=by simp [IntKind.wrap,IntKind.bits,IntKind.signed]
theorem zK {b:Nat} (hb:b<18446744073709551616) (h:bK b=false) (hs:0≤sv b):decide (I (canon b)<9223372036854775808)=true:=by
 have:=lI hb h hs;have:=dF h;have:=iC;simp;omega
theorem xB {b:Nat} (hb:b<18446744073709551616) (h:bK b=false) (hs:¬ 0≤sv b):decide (I (canon b)<9223372036854775808)=false:=by
 have:=jR hb h (by omega);have:=fE;simp;omega
theorem xC {b:Nat} (hb:b<18446744073709551616) (h:bK b=false) (hs:0≤sv b):(I (canon b) / 9223372036854775808==0)=true:=by
 have:=lI hb h hs;have:=dF h;have:=iC;simp;omega
theorem uQ {b:Nat} (hb:b<18446744073709551616) (h:bK b=false) (hs:¬ 0≤sv b):(I (canon b) / 9223372036854775808==0)=false:=by
 have:=jR hb h (by omega);have:=fE;simp;omega
theorem pu {b:Nat} (hb:b<18446744073709551616) (h:bK b=false) (hs:0≤sv b):IntKind.u64.wrap (I (canon b)+9223372036854775808)=key b:=by
 have:=lI hb h hs;have:=dF h;have:=iC;have:=fE
 rw [jw h hs,wrap_u64];omega
theorem nQ {b:Nat} (hb:b<18446744073709551616) (h:bK b=false) (hs:¬ 0≤sv b):IntKind.u64.wrap (18446744073709551615 - I (canon b))=key b:=by
 have:=jR hb h (by omega);have:=dF h;have:=iC;have:=fE
 rw [jW h (by omega),wrap_u64];omega
theorem eX (b:Nat):0≤key b∧key b<18446744073709551616:=by
 cases h:bK b
 ·have:=dF h;have:=iC;have:=fE
  by_cases hs:0≤sv b
  ·rw [jw h hs];omega
  ·rw [jW h (by omega)];omega
 ·rw [iV h];omega
def lt (a b:Nat):Bool:=decide (key a<key b)
def same (a b:Nat):Bool:=key a==key b
end Fl
end
end Go.Proofs.YtmcfknnfaokmlaaGreat
