import Derived.Test.YtcmiompdjjiojaaGreatZ1
import Derived.Deep.Slices
import Derived.Great.BuildSlice
import Derived.Maps.Ext
import Derived.Sort.KeysCollected
import Derived.Laws.CopyOwn
import Derived.WalkSpells
import Derived.Deep.WholeRow
import Derived.WalkLawsBesides
import Derived.Test.YtcmiompdjjiojaaGreatRows
namespace Go.Proofs.YtcmiompdjjiojaaGreat
set_option maxHeartbeats 16000000
open Go.Lib Go.Proofs.Tryz
set_option linter.unusedSimpArgs false
set_option maxRecDepth 100000
section
namespace Fl
def V (B r:Nat):Nat:=if r<B then r else (B+r % B) * 2 ^ (r / B - 1)
theorem V_zero (B:Nat) (hB:0<B):V B 0=0:=by simp [V,hB]
theorem I_ (B:Nat) (hB:0<B) (r:Nat):V B r<V B (r+1):=by
 unfold V
 by_cases h1:r+1<B
 ·rw [if_pos (by omega),if_pos h1];omega
 ·rw [if_neg h1]
  by_cases h2:r<B
  ·have e:r+1=B:=by omega
   rw [if_pos h2,e,Nat.mod_self,Nat.div_self hB]
   simp;omega
  ·rw [if_neg h2]
   have hq:1≤r / B:=(Nat.le_div_iff_mul_le hB).2 (by omega)
   have hlt:=Nat.mod_lt r hB
   have hdm:=Nat.div_add_mod r B
   by_cases h3:r % B+1=B
   ·have e:r+1=B * (r / B+1):=by rw [Nat.mul_add];omega
    have e1:(r+1) % B=0:=by rw [e,Nat.mul_mod_right]
    have e2:(r+1) / B=r / B+1:=by rw [e,Nat.mul_div_cancel_left _ hB]
    rw [e1,e2]
    obtain⟨q,hq'⟩:∃ q,r / B=q+1:=⟨r / B - 1,by omega⟩
    rw [hq']
    have:q+1+1 - 1=q+1:=by omega
    rw [this,Nat.add_sub_cancel,Nat.pow_succ,Nat.add_zero]
    have hp:0<2 ^ q:=Nat.two_pow_pos q
    calc (B+r % B) * 2 ^ q<(B * 2) * 2 ^ q:=Nat.mul_lt_mul_of_pos_right (by omega) hp
     _=B * (2 ^ q * 2):=by rw [Nat.mul_assoc,Nat.mul_comm 2]
   ·have e:r+1=r % B+1+B * (r / B):=by omega
    have e1:(r+1) % B=r % B+1:=by rw [e,Nat.add_mul_mod_self_left,Nat.mod_eq_of_lt (by omega)]
    have e2:(r+1) / B=r / B:=by rw [e,Nat.add_mul_div_left _ _ hB,Nat.div_eq_of_lt (by omega),Nat.zero_add]
    rw [e1,e2]
    exact Nat.mul_lt_mul_of_pos_right (by omega) (Nat.two_pow_pos _)
theorem V_lt (B:Nat) (hB:0<B) {r s:Nat} (h:r<s):V B r<V B s:=by
 induction s with
 | zero=>omega
 | succ s ih =>
  by_cases e:r=s
  ·subst e;exact I_ B hB r
  ·exact Nat.lt_trans (ih (by omega)) (I_ B hB s)
theorem zW (B:Nat) (hB:0<B) (r s:Nat):V B r<V B s↔r<s:=by
 constructor
 ·intro h
  rcases Nat.lt_trichotomy r s with h1 | h1 | h1
  ·exact h1
  ·subst h1;omega
  ·have:=V_lt B hB h1;omega
 ·exact V_lt B hB
theorem um (B:Nat) (hB:0<B) (r s:Nat):V B r=V B s↔r=s:=by
 constructor
 ·intro h
  rcases Nat.lt_trichotomy r s with h1 | h1 | h1
  ·have:=V_lt B hB h1;omega
  ·exact h1
  ·have:=V_lt B hB h1;omega
 ·intro h;rw [h]
def sg (neg:Bool) (n:Nat):Int:=if neg then -(n:Int) else n
theorem xz {x y x' y':Int} (h1:x<y↔x'<y') (h2:x=y↔x'=y'):compare x y=compare x' y':=by
 show compareOfLessAndEq x y=compareOfLessAndEq x' y'
 unfold compareOfLessAndEq
 by_cases a:x<y
 ·rw [if_pos a,if_pos (h1.1 a)]
 ·rw [if_neg a,if_neg (fun h=>a (h1.2 h))]
  by_cases b:x=y
  ·rw [if_pos b,if_pos (h2.1 b)]
  ·rw [if_neg b,if_neg (fun h=>b (h2.2 h))]
theorem cmp_sg (B:Nat) (hB:0<B) (s t:Bool) (r q:Nat):compare (sg s (V B r)) (sg t (V B q))=compare (sg s r) (sg t q):=by
 have h0:=V_zero B hB
 have hr:V B r=0↔r=0:=by have:=um B hB r 0;rw [h0] at this;exact this
 have hq:V B q=0↔q=0:=by have:=um B hB q 0;rw [h0] at this;exact this
 have h1:=zW B hB r q
 have h2:=zW B hB q r
 have h3:=um B hB r q
 apply xz <;> cases s <;> cases t <;> simp only [sg,if_true,Bool.false_eq_true,if_false] <;> omega
theorem wh (s:Bool) (m u k:Nat):Ieee.signed s m u * ((2 ^ k:Nat):Int)=sg s (m * 2 ^ (u+k)):=by
 unfold Ieee.signed sg
 rw [Nat.shiftLeft_eq,Nat.pow_add,← Nat.mul_assoc]
 cases s
 ·simp only [Bool.false_eq_true,if_false];rw [← Int.natCast_mul]
 ·simp only [if_true];rw [Int.neg_mul,← Int.natCast_mul]
theorem wV (B:Nat) (hB:0<B) (lp:Int) (s t:Bool) (m n r q:Nat) (i j:Int) (hi:lp≤i) (hj:lp≤j)
  (hm:m * 2 ^ (i - lp).toNat=V B r) (hn:n * 2 ^ (j - lp).toNat=V B q) :
  (Ieee.Datum.number s m i).order (.number t n j)=some (compare (sg s r) (sg t q)):=by
 show some (compare (Ieee.signed s m (i - min i j).toNat) (Ieee.signed t n (j - min i j).toNat))=_
 congr 1
 rw [← cmp_sg B hB s t r q,← hm,← hn]
 have e1:(i - lp).toNat=(i - min i j).toNat+(min i j - lp).toNat:=by omega
 have e2:(j - lp).toNat=(j - min i j).toNat+(min i j - lp).toNat:=by omega
 rw [e1,e2,← wh,← wh]
 have hp:(0:Int)<((2 ^ (min i j - lp).toNat:Nat):Int):=by
  have:=Nat.two_pow_pos (min i j - lp).toNat;omega
 exact xz ⟨fun h=>Int.mul_lt_mul_of_pos_right h hp,fun h=>Int.lt_of_mul_lt_mul_right h (Int.le_of_lt hp)⟩
  ⟨fun h=>by rw [h],fun h=>Int.eq_of_mul_eq_mul_right (by omega) h⟩
theorem kX (f:Ieee.Format) (w:Nat) (h:w % f.signWeight<f.infRung) :
  ∃ m i,f.read w=.number (w / f.signWeight % 2==1) m i∧f.leastPlace≤i∧m * 2 ^ (i - f.leastPlace).toNat=V f.binade (w % f.signWeight):=by
 unfold Ieee.Format.read V
 by_cases h1:w % f.signWeight<f.binade
 ·refine⟨w % f.signWeight,f.leastPlace,?_,Int.le_refl _,?_⟩
  ·simp only [if_pos h1]
  ·rw [if_pos h1,Int.sub_self];simp
 ·refine⟨f.binade+w % f.signWeight % f.binade,f.leastPlace+((w % f.signWeight / f.binade - 1:Nat):Int),?_,by omega,?_⟩
  ·simp only [if_neg h1,if_pos h]
  ·rw [if_neg h1];congr 2;omega
theorem qQ (f:Ieee.Format) (w:Nat) (hb:f.binade≤f.infRung) (h:w % f.signWeight=f.infRung):f.read w=.infinity (w / f.signWeight % 2==1):=by
 unfold Ieee.Format.read
 simp only [h,if_neg (Nat.not_lt.2 hb),if_neg (Nat.lt_irrefl _),if_true]
theorem vL (f:Ieee.Format) (w:Nat) (hb:f.binade≤f.infRung) (h:f.infRung<w % f.signWeight):∃ n t,f.read w=.nan n t:=by
 unfold Ieee.Format.read
 refine⟨w / f.signWeight % 2==1,w % f.signWeight - f.infRung,?_⟩
 simp only [if_neg (show ¬ w % f.signWeight<f.binade by omega),if_neg (show ¬ w % f.signWeight<f.infRung by omega),if_neg (show ¬ w % f.signWeight=f.infRung by omega)]
theorem vD (f:Ieee.Format) (a b:Nat) (hb:f.binade≤f.infRung) (h:f.infRung<a % f.signWeight):f.order a b=none:=by
 unfold Ieee.Format.order
 obtain⟨n,t,e⟩:=vL f a hb h
 rw [e];rfl
theorem tH (f:Ieee.Format) (a b:Nat) (hb:f.binade≤f.infRung) (h:f.infRung<b % f.signWeight):f.order a b=none:=by
 unfold Ieee.Format.order
 obtain⟨n,t,e⟩:=vL f b hb h
 rw [e]
 cases f.read a <;> rfl
theorem Bj (f:Ieee.Format) (a b:Nat) (hB:0<f.binade) (hb:f.binade≤f.infRung) (ha:a % f.signWeight≤f.infRung) (hc:b % f.signWeight≤f.infRung) :
  f.order a b=some (compare (sg (a / f.signWeight % 2==1) (a % f.signWeight)) (sg (b / f.signWeight % 2==1) (b % f.signWeight))):=by
 unfold Ieee.Format.order
 rcases Nat.lt_or_eq_of_le ha with h1 | h1 <;> rcases Nat.lt_or_eq_of_le hc with h2 | h2
 ·obtain⟨m,i,e1,e2,e3⟩:=kX f a h1
  obtain⟨n,j,e4,e5,e6⟩:=kX f b h2
  rw [e1,e4]
  exact wV f.binade hB f.leastPlace _ _ m n _ _ i j e2 e5 e3 e6
 ·obtain⟨m,i,e1,e2,e3⟩:=kX f a h1
  rw [e1,qQ f b hb h2]
  generalize (a / f.signWeight % 2==1)=s
  generalize (b / f.signWeight % 2==1)=t
  show some (if t then Ordering.gt else .lt)=_
  congr 1
  show _=compareOfLessAndEq _ _
  unfold compareOfLessAndEq
  rw [h2]
  cases s <;> cases t <;> simp only [sg,if_true,Bool.false_eq_true,if_false]
  ·rw [if_pos (by omega)]
  ·rw [if_neg (by omega),if_neg (by omega)]
  ·rw [if_pos (by omega)]
  ·rw [if_neg (by omega),if_neg (by omega)]
 ·obtain⟨n,j,e4,e5,e6⟩:=kX f b h2
  rw [e4,qQ f a hb h1]
  generalize (a / f.signWeight % 2==1)=s
  generalize (b / f.signWeight % 2==1)=t
  show some (if s then Ordering.lt else .gt)=_
  congr 1
  show _=compareOfLessAndEq _ _
  unfold compareOfLessAndEq
  rw [h1]
  cases s <;> cases t <;> simp only [sg,if_true,Bool.false_eq_true,if_false]
  ·rw [if_neg (by omega),if_neg (by omega)]
  ·rw [if_neg (by omega),if_neg (by omega)]
  ·rw [if_pos (by omega)]
  ·rw [if_pos (by omega)]
 ·rw [qQ f a hb h1,qQ f b hb h2]
  generalize (a / f.signWeight % 2==1)=s
  generalize (b / f.signWeight % 2==1)=t
  show some (compare t.toNat s.toNat)=_
  congr 1
  rw [h1,h2]
  have hp:0<f.infRung:=by omega
  show _=compareOfLessAndEq _ _
  unfold compareOfLessAndEq
  cases s <;> cases t <;> simp only [sg,if_true,Bool.false_eq_true,if_false,Bool.toNat_true,Bool.toNat_false]
  ·rw [if_neg (by omega)];rfl
  ·rw [if_neg (by omega),if_neg (by omega)];rfl
  ·rw [if_pos (by omega)];rfl
  ·rw [if_neg (by omega)];rfl
def inf:Nat:=9218868437227405312
def two63:Nat:=9223372036854775808
def iF:Nat:=9221120237041090561
theorem uQ:inf=9218868437227405312:=rfl
theorem kM:two63=9223372036854775808:=rfl
theorem qy:FloatKind.f64.format.infRung=inf:=by decide +kernel
theorem rW:FloatKind.f64.format.signWeight=two63:=by decide +kernel
theorem Dz:0<FloatKind.f64.format.binade:=Nat.two_pow_pos _
theorem yE:FloatKind.f64.format.binade≤FloatKind.f64.format.infRung:=by decide +kernel
def I (b:Nat):Int:=b
def W (n:Int):Nat:=n.toNat
theorem I_eq (b:Nat):I b=b:=rfl
def dz (b:Nat):Bool:=decide (inf<b % two63)
def sv (b:Nat):Int:=if b / two63 % 2=1 then -((b % two63:Nat):Int) else ((b % two63:Nat):Int)
theorem sv_eq (b:Nat):sv b=sg (b / two63 % 2==1) (b % two63):=by
 unfold sv sg
 by_cases h:b / two63 % 2=1
 ·rw [if_pos h,if_pos (by simp [h])]
 ·rw [if_neg h,if_neg (by simp [h])]
theorem jS {a:Nat} (h:dz a=true) (b:Nat):FloatKind.f64.format.order a b=none :=
 vD _ a b yE (by rw [qy,rW];exact of_decide_eq_true h)
theorem jv (a:Nat) {b:Nat} (h:dz b=true):FloatKind.f64.format.order a b=none :=
 tH _ a b yE (by rw [qy,rW];exact of_decide_eq_true h)
theorem pM {a b:Nat} (ha:dz a=false) (hb:dz b=false):FloatKind.f64.format.order a b=some (compare (sv a) (sv b)):=by
 have h1:¬ inf<a % two63:=of_decide_eq_false ha
 have h2:¬ inf<b % two63:=of_decide_eq_false hb
 rw [Bj _ a b Dz yE (by rw [qy,rW];omega) (by rw [qy,rW];omega),rW,sv_eq,sv_eq]
theorem cmp_lt (x y:Int):(some (compare x y)==some Ordering.lt)=decide (x<y):=by
 show (some (compareOfLessAndEq x y)==some Ordering.lt)=_
 unfold compareOfLessAndEq
 by_cases h:x<y
 ·rw [if_pos h];simp [h]
 ·rw [if_neg h]
  by_cases e:x=y
  ·rw [if_pos e];simp [h]
  ·rw [if_neg e];simp [h]
theorem cmp_eq (x y:Int):(some (compare x y)==some Ordering.eq)=decide (x=y):=by
 show (some (compareOfLessAndEq x y)==some Ordering.eq)=_
 unfold compareOfLessAndEq
 by_cases h:x<y
 ·rw [if_pos h];simp;omega
 ·rw [if_neg h]
  by_cases e:x=y
  ·rw [if_pos e];simp [e]
  ·rw [if_neg e];simp [e]
theorem cmp_gt (x y:Int):(some (compare x y)==some Ordering.gt)=decide (y<x):=by
 show (some (compareOfLessAndEq x y)==some Ordering.gt)=_
 unfold compareOfLessAndEq
 by_cases h:x<y
 ·rw [if_pos h];simp;omega
 ·rw [if_neg h]
  by_cases e:x=y
  ·rw [if_pos e];simp;omega
  ·rw [if_neg e];simp;omega
def u_ (a b:Nat):Bool:=!dz a && !dz b && decide (sv a<sv b)
def oU (a b:Nat):Bool:=!dz a && !dz b && decide (sv a=sv b)
theorem KV (a b:Nat):(FloatKind.f64.format.order a b==some .lt)=u_ a b:=by
 unfold u_
 cases ha:dz a
 ·cases hb:dz b
  ·rw [pM ha hb,cmp_lt];simp
  ·rw [jv a hb];rfl
 ·rw [jS ha];rfl
theorem Bi (a b:Nat):(FloatKind.f64.format.order a b==some .eq)=oU a b:=by
 unfold oU
 cases ha:dz a
 ·cases hb:dz b
  ·rw [pM ha hb,cmp_eq];simp
  ·rw [jv a hb];rfl
 ·rw [jS ha];rfl
theorem KW (a b:Nat):(FloatKind.f64.format.order a b != some .eq)=!oU a b:=by
 rw [← Bi];rfl
theorem KU (a b:Nat):(FloatKind.f64.format.order a b==some .gt)=u_ b a:=by
 unfold u_
 cases ha:dz a
 ·cases hb:dz b
  ·rw [pM ha hb,cmp_gt];simp
  ·rw [jv a hb];rfl
 ·rw [jS ha];cases dz b <;> rfl
theorem JP (a:Nat):oU a a=!dz a:=by unfold oU;cases dz a <;> simp
def wQ (b:Nat):Int:=if dz b=true then 0 else if sv b=-inf then 1 else if sv b<0 then 2 else if sv b=0 then 3 else if sv b<inf then 4 else 5
def canon (b:Nat):Nat:=if dz b=true then iF else if sv b=0 then 0 else b
def key (b:Nat):Int:=if dz b=true then 0 else if sv b<0 then two63 - 1+sv b else two63+sv b
theorem gJ {b:Nat} (h:dz b=false):-(inf:Int)≤sv b∧sv b≤inf:=by
 have h1:¬ inf<b % two63:=of_decide_eq_false h
 unfold sv;split <;> omega
theorem F8 (b:Nat):(b ^^^ 2 ^ 63) % 2 ^ 63=b % 2 ^ 63:=by
 rw [Nat.xor_mod_two_pow,Nat.mod_self,Nat.xor_zero]
theorem xor_div (b:Nat):(b ^^^ 2 ^ 63) / 2 ^ 63 % 2=1 - b / 2 ^ 63 % 2:=by
 rw [Nat.xor_div_two_pow,Nat.div_self (Nat.two_pow_pos _)]
 have h:=Nat.xor_mod_two_pow (a:=b / 2 ^ 63) (b:=1) (n:=1)
 rw [Nat.pow_one] at h
 rw [h]
 have:=Nat.mod_lt (b / 2 ^ 63) (show 0<2 by omega)
 have e:b / 2 ^ 63 % 2=0∨b / 2 ^ 63 % 2=1:=by omega
 rcases e with e | e <;> rw [e] <;> rfl
theorem xZ:two63=2 ^ 63:=by decide +kernel
theorem Fj (b:Nat):dz (Op.negFloat .f64 b)=dz b:=by
 unfold dz
 have e:Op.negFloat .f64 b=b ^^^ 2 ^ 63:=rfl
 rw [e,xZ,F8]
theorem sv_neg (b:Nat):sv (Op.negFloat .f64 b)=- sv b:=by
 unfold sv
 have e:Op.negFloat .f64 b=b ^^^ 2 ^ 63:=rfl
 rw [e,xZ,F8,xor_div]
 have:=Nat.mod_lt (b / 2 ^ 63) (show 0<2 by omega)
 have e:b / 2 ^ 63 % 2=0∨b / 2 ^ 63 % 2=1:=by omega
 rcases e with e | e <;> rw [e] <;> simp
theorem EF {b:Nat} (h:b<two63):sv b=b:=by
 unfold sv;rw [if_neg (by rw [Nat.div_eq_of_lt h];omega),Nat.mod_eq_of_lt h]
theorem Mj {b:Nat} (h:two63≤b) (h2:b<2 * two63):sv b=two63 - b:=by
 unfold two63 at *;unfold sv;rw [if_pos (by unfold two63;omega)];unfold two63;omega
theorem isN_pos {b:Nat} (h:b<two63):dz b=decide (inf<b):=by
 unfold dz;rw [Nat.mod_eq_of_lt h]
theorem qK {a b:Nat} (ha:dz a=false) (hb:dz b=false):u_ a b=decide (sv a<sv b):=by unfold u_;rw [ha,hb];simp
theorem eqB_yes {a b:Nat} (ha:dz a=false) (hb:dz b=false):oU a b=decide (sv a=sv b):=by unfold oU;rw [ha,hb];simp
theorem yV {a:Nat} (ha:dz a=true) (b:Nat):u_ a b=false:=by unfold u_;rw [ha];simp
theorem oZ (a:Nat) {b:Nat} (hb:dz b=true):u_ a b=false:=by unfold u_;rw [hb];simp
theorem zH:sv 0=0:=by rw [EF (by unfold two63;omega)];rfl
theorem uU:dz 0=false:=by rw [isN_pos (by unfold two63;omega)];rfl
theorem Fh:dz 9218868437227405311=false:=by decide +kernel
theorem isN_low:dz 18442240474082181119=false:=by decide +kernel
theorem Mi:sv 9218868437227405311=inf - 1:=by decide +kernel
theorem sv_low:sv 18442240474082181119=-(inf:Int)+1:=by decide +kernel
def Az (b:Nat):Bool:=!dz b && decide (sv b=inf)
def wU (b:Nat):Bool:=!dz b && decide (sv b=-(inf:Int))
theorem Fx (b:Nat):u_ 9218868437227405311 b=Az b:=by
 unfold Az
 cases h:dz b
 ·rw [qK Fh h,Mi]
  have:=gJ h
  simp only [Bool.not_false,Bool.true_and,decide_eq_decide];omega
 ·rw [oZ _ h];rfl
theorem Bc (b:Nat):u_ 9218868437227405311 (Op.negFloat .f64 b)=wU b:=by
 unfold wU
 cases h:dz b
 ·rw [qK Fh (by rw [Fj,h]),Mi,sv_neg]
  have:=gJ h
  simp only [Bool.not_false,Bool.true_and,decide_eq_decide];omega
 ·rw [oZ _ (by rw [Fj,h])];rfl
theorem ltB_low (b:Nat):u_ b 18442240474082181119=wU b:=by
 unfold wU
 cases h:dz b
 ·rw [qK h isN_low,sv_low]
  have:=gJ h
  simp only [Bool.not_false,Bool.true_and,decide_eq_decide];omega
 ·rw [yV h];rfl
theorem nE {b:Nat} (h:dz b=false):u_ b 0=decide (sv b<0):=by rw [qK h uU,zH]
theorem o8 {b:Nat} (h:dz b=false):u_ 0 b=decide (0<sv b):=by rw [qK uU h,zH]
theorem Am {b:Nat} (h:dz b=false):oU b 0=decide (sv b=0):=by rw [eqB_yes h uU,zH]
theorem cls_nan {b:Nat} (h:dz b=true):wQ b=0:=by unfold wQ;rw [if_pos h]
theorem Gr {b:Nat} (h:wU b=true):wQ b=1:=by
 unfold wU at h;simp at h;unfold wQ;rw [if_neg (by simp [h.1]),if_pos h.2]
theorem Gq {b:Nat} (h:Az b=true):wQ b=5:=by
 unfold Az at h;simp at h
 have hp:(0:Int)<inf:=by decide +kernel
 unfold wQ;rw [if_neg (by simp [h.1]),if_neg (by omega),if_neg (by omega),if_neg (by omega),if_neg (by omega)]
theorem Gs {b:Nat} (h0:dz b=false) (h1:wU b=false) (h:u_ b 0=true):wQ b=2:=by
 rw [nE h0] at h
 unfold wU at h1;simp [h0] at h1 h
 unfold wQ;rw [if_neg (by simp [h0]),if_neg h1,if_pos h]
theorem Dw {b:Nat} (h0:dz b=false) (h1:u_ b 0=false) (h:u_ 0 b=false):wQ b=3:=by
 rw [nE h0] at h1
 rw [o8 h0] at h
 simp at h1 h
 have hp:(0:Int)<inf:=by decide +kernel
 unfold wQ;rw [if_neg (by simp [h0]),if_neg (by omega),if_neg (by omega),if_pos (by omega)]
theorem Js {b:Nat} (h0:dz b=false) (h1:Az b=false) (h:0<sv b):wQ b=4:=by
 have bd:=gJ h0
 unfold Az at h1;simp [h0] at h1
 unfold wQ;rw [if_neg (by simp [h0]),if_neg (by omega),if_neg (by omega),if_neg (by omega),if_pos (by omega)]
theorem pos_of {b:Nat} (h0:dz b=false) (h:u_ 0 b=true):0<sv b:=by
 rw [o8 h0] at h;simpa using h
theorem qp (b:Nat):(wQ b==0)=dz b:=by
 unfold wQ
 cases dz b
 ·simp;repeat' split
  all_goals decide
 ·simp
theorem xy {b:Nat} (h0:dz b=false):(wQ b==3)=decide (sv b=0):=by
 have hp:(0:Int)<inf:=by decide +kernel
 unfold wQ
 rw [h0]
 by_cases h:sv b=0
 ·simp [h];omega
 ·simp [h];repeat' split
  all_goals decide
theorem rQ {b:Nat} (h:dz b=true):canon b=iF:=by unfold canon;rw [if_pos h]
theorem pG {b:Nat} (h0:dz b=false) (h:sv b=0):canon b=0:=by unfold canon;rw [if_neg (by simp [h0]),if_pos h]
theorem lS {b:Nat} (h0:dz b=false) (h:¬ sv b=0):canon b=b:=by unfold canon;rw [if_neg (by simp [h0]),if_neg h]
theorem uC {b:Nat} (h:b<18446744073709551616):canon b<18446744073709551616:=by
 unfold canon;split
 ·decide +kernel
 ·split <;> omega
theorem uB {b:Nat} (hb:b<18446744073709551616) (h:dz b=false) (hs:0≤sv b):I (canon b)=sv b:=by
 unfold I
 by_cases e:sv b=0
 ·rw [pG h e,e];rfl
 ·rw [lS h e]
  by_cases l:b<two63
  ·rw [EF l]
  ·have:=Mj (b:=b) (by omega) (by unfold two63;omega);omega
theorem rR {b:Nat} (hb:b<18446744073709551616) (h:dz b=false) (hs:sv b<0):I (canon b)=two63 - sv b:=by
 unfold I
 rw [lS h (by omega)]
 by_cases l:b<two63
 ·have:=EF l;omega
 ·have:=Mj (b:=b) (by omega) (by unfold two63;omega);omega
theorem yT {b:Nat} (h:dz b=true):key b=0:=by unfold key;rw [if_pos h]
theorem Kl {b:Nat} (h:dz b=false) (hs:0≤sv b):key b=two63+sv b:=by
 unfold key;rw [if_neg (by simp [h]),if_neg (by omega)]
theorem Fq {b:Nat} (h:dz b=false) (hs:sv b<0):key b=two63 - 1+sv b:=by
 unfold key;rw [if_neg (by simp [h]),if_pos hs]
theorem wrap_u64 (n:Int):IntKind.u64.wrap n=n % 18446744073709551616:=by simp [IntKind.wrap,IntKind.bits,IntKind.signed]
theorem Gm {b:Nat} (hb:b<18446744073709551616) (h:dz b=false) (hs:0≤sv b):decide (I (canon b)<9223372036854775808)=true:=by
 have:=uB hb h hs;have:=gJ h;have:=uQ;simp;omega
theorem Dl {b:Nat} (hb:b<18446744073709551616) (h:dz b=false) (hs:¬ 0≤sv b):decide (I (canon b)<9223372036854775808)=false:=by
 have:=rR hb h (by omega);have:=kM;simp;omega
theorem Dm {b:Nat} (hb:b<18446744073709551616) (h:dz b=false) (hs:0≤sv b):(I (canon b) / 9223372036854775808==0)=true:=by
 have:=uB hb h hs;have:=gJ h;have:=uQ;simp;omega
theorem zZ {b:Nat} (hb:b<18446744073709551616) (h:dz b=false) (hs:¬ 0≤sv b):(I (canon b) / 9223372036854775808==0)=false:=by
 have:=rR hb h (by omega);have:=kM;simp;omega
theorem uX {b:Nat} (hb:b<18446744073709551616) (h:dz b=false) (hs:0≤sv b):IntKind.u64.wrap (I (canon b)+9223372036854775808)=key b:=by
 have:=uB hb h hs;have:=gJ h;have:=uQ;have:=kM
 rw [Kl h hs,wrap_u64];omega
theorem sN {b:Nat} (hb:b<18446744073709551616) (h:dz b=false) (hs:¬ 0≤sv b):IntKind.u64.wrap (18446744073709551615 - I (canon b))=key b:=by
 have:=rR hb h (by omega);have:=gJ h;have:=uQ;have:=kM
 rw [Fq h (by omega),wrap_u64];omega
def pl (b:Nat):Int:=if dz b=true then -(inf:Int) - 1 else sv b
def lt (a b:Nat):Bool:=decide (key a<key b)
def same (a b:Nat):Bool:=key a==key b
theorem Ld {b:Nat} (h:dz b=true):pl b=-(inf:Int) - 1:=by unfold pl;rw [if_pos h]
theorem Le {b:Nat} (h:dz b=false):pl b=sv b:=by unfold pl;rw [if_neg (by simp [h])]
theorem Bq (b:Nat):-(inf:Int) - 1≤pl b∧pl b≤inf:=by
 cases h:dz b
 ·rw [Le h];have:=gJ h;omega
 ·rw [Ld h];omega
def kp (p:Int):Int:=if p=-(inf:Int) - 1 then 0 else if p<0 then two63 - 1+p else two63+p
theorem Km (b:Nat):key b=kp (pl b):=by
 cases h:dz b
 ·have:=gJ h
  rw [Le h];unfold kp;rw [if_neg (by omega)]
  by_cases hs:0≤sv b
  ·rw [Kl h hs,if_neg (by omega)]
  ·rw [Fq h (by omega),if_pos (by omega)]
 ·rw [yT h,Ld h];unfold kp;rw [if_pos rfl]
theorem kp_lt {p q:Int} (hp:-(inf:Int) - 1≤p) (hq:-(inf:Int) - 1≤q):kp p<kp q↔p<q:=by
 have:=uQ;have:=kM
 unfold kp
 by_cases a1:p=-(inf:Int) - 1 <;> by_cases a2:p<0 <;> by_cases b1:q=-(inf:Int) - 1 <;> by_cases b2:q<0 <;> simp only [a1,a2,b1,b2,if_true,if_false] <;> omega
theorem yS (a b:Nat):key a<key b↔pl a<pl b:=by
 rw [Km,Km];exact kp_lt (Bq a).1 (Bq b).1
theorem key_eq (a b:Nat):key a=key b↔pl a=pl b:=by
 have h1:=yS a b;have h2:=yS b a;omega
theorem tY {a b:Nat}:lt a b=true↔pl a<pl b:=by unfold lt;rw [decide_eq_true_iff,yS]
theorem Kt {a b:Nat}:lt a b=false↔pl b≤pl a:=by unfold lt;rw [decide_eq_false_iff_not,yS];omega
theorem Ij {a b:Nat}:same a b=true↔pl a=pl b:=by unfold same;rw [beq_iff_eq,key_eq]
end Fl
end
section
section
open Go.RowKit
@[go_sem] theorem callBits (b : Nat) (w : World) : (callFunc 93 #[.float .f64 b]).run prog w = .ok (.value (.int .u64 (Fl.I b))) w := by
 rw [run_callFunc_extern func93 (by kernel_rfl) (by kernel_rfl) (by kernel_rfl) (by kernel_rfl) (e:=Extern.MathFloatBits.float64bits)];rfl
@[go_sem] theorem callFrom (n : Int) (w : World) : (callFunc 73 #[.int .u64 n]).run prog w = .ok (.value (.float .f64 (Fl.W n))) w := by
 rw [run_callFunc_extern func73 (by kernel_rfl) (by kernel_rfl) (by kernel_rfl) (by kernel_rfl) (e:=Extern.MathFloatBits.float64frombits)];rfl
@[go_sem] theorem IK (k : FloatKind) (b : Nat) : Op.unary .neg (.float k b) = pure (.float k (Op.negFloat k b)) := rfl
@[go_sem] theorem ord_lt (a b : Nat) : (FloatKind.f64.format.order a b == some .lt) = Fl.u_ a b := Fl.KV a b
@[go_sem] theorem ord_eq (a b : Nat) : (FloatKind.f64.format.order a b == some .eq) = Fl.oU a b := Fl.Bi a b
@[go_sem] theorem ord_ne (a b : Nat) : (FloatKind.f64.format.order a b != some .eq) = !Fl.oU a b := Fl.KW a b
@[go_sem] theorem ord_gt (a b : Nat) : (FloatKind.f64.format.order a b == some .gt) = Fl.u_ b a := Fl.KU a b
@[go_sem] theorem eq_self (a : Nat) : Fl.oU a a = !Fl.dz a := Fl.JP a
theorem Fp (b:Nat) (w:World) :
  Calls prog 136 #[.float .f64 b] w fun e w'=>e=.returned (.bool (Fl.dz b))∧w=w':=by
 go_enter func136,ntmps136
 go_wp2
 go_ret
 exact⟨aI (by simp),rfl⟩
theorem Dj (b:Nat) (w:World) :
  Calls prog 74 #[.float .f64 b] w fun e w'=>e=.returned (.int .u64 (Fl.I b))∧w=w':=by
 go_enter func74,ntmps74
 go_wp2
 go_ret
 exact⟨rfl,rfl⟩
theorem Kj (b:Nat) (w:World) :
  Calls prog 137 #[.float .f64 b,.int .i64 1] w fun e w'=>e=.returned (.bool (Fl.Az b))∧w=w':=by
 go_enter func137,ntmps137
 go_wp2
 go_ret
 exact⟨aI (Fl.Fx b),rfl⟩
theorem Ki (b:Nat) (w:World) :
  Calls prog 137 #[.float .f64 b,.int .i64 (-1)] w fun e w'=>e=.returned (.bool (Fl.wU b))∧w=w':=by
 go_enter func137,ntmps137
 go_wp2
 go_ret
 exact⟨aI (Fl.Bc b),rfl⟩
@[go_sem] theorem lt_low (b : Nat) : Fl.u_ b 18442240474082181119 = Fl.wU b := Fl.ltB_low b
@[go_sem] theorem lt_max (b : Nat) : Fl.u_ 9218868437227405311 b = Fl.Az b := Fl.Fx b
@[go_sem] theorem cls_zero (b : Nat) : (Fl.wQ b == 0) = Fl.dz b := Fl.qp b
theorem fJ (b:Nat) (w:World) :
  Calls prog 100 #[.float .f64 b] w fun e w'=>e=.returned (.int .i64 (Fl.wQ b))∧w=w':=by
 by_cases h1:Fl.dz b=true
 ·go_enter func100,ntmps100
  go_wp2_with (go_at_call 136;refine (Fp _ _).mono ?_;rintro e w' ⟨rfl,rfl⟩)
  go_ret
  exact⟨aZ (Fl.cls_nan h1).symm,rfl⟩
 ·have h1:Fl.dz b=false:=by simpa using h1
  have bd:=hid (Fl.gJ h1)
  go_enter func100,ntmps100
  go_wp2_with (go_at_call 136;refine (Fp _ _).mono ?_;rintro e w' ⟨rfl,rfl⟩)
  refine (Ki _ _).mono ?_
  rintro e w' ⟨rfl,rfl⟩
  go_wp2_with fail
  ·go_ret
   exact⟨aZ (Fl.Gr (by assumption)).symm,rfl⟩
  ·refine (Kj _ _).mono ?_
   rintro e w' ⟨rfl,rfl⟩
   go_wp2_with fail
   ·go_ret;exact⟨aZ (Fl.Gq (by assumption)).symm,rfl⟩
   ·go_ret;exact⟨aZ (Fl.Gs h1 (by assumption) (by assumption)).symm,rfl⟩
   ·go_ret;exact⟨aZ (Fl.Js h1 (by assumption) (Fl.pos_of h1 (by assumption))).symm,rfl⟩
   ·go_ret;exact⟨aZ (Fl.Dw h1 (by assumption) (by assumption)).symm,rfl⟩
theorem nV (b:Nat) (w:World) :
  Calls prog 86 #[.float .f64 b] w fun e w'=>e=.returned (.float .f64 (Fl.canon b))∧w=w':=by
 by_cases h1:Fl.dz b=true
 ·go_enter func86,ntmps86
  go_wp2_with (go_at_call 100;refine (fJ _ _).mono ?_;rintro e w' ⟨rfl,rfl⟩)
  go_ret
  exact⟨oo (by rw [Fl.rQ h1];rfl),rfl⟩
 ·have h1:Fl.dz b=false:=by simpa using h1
  by_cases h2:Fl.sv b=0
  ·have h3:(Fl.wQ b==3)=true:=by rw [Fl.xy h1];simp [h2]
   have h2':=hid h2;clear h2
   go_enter func86,ntmps86
   go_wp2_with (go_at_call 100;refine (fJ _ _).mono ?_;rintro e w' ⟨rfl,rfl⟩)
   go_ret
   exact⟨oo (by rw [Fl.pG h1 h2'.out]),rfl⟩
  ·have h3:(Fl.wQ b==3)=false:=by rw [Fl.xy h1];simp [h2]
   have h2':=hid h2;clear h2
   go_enter func86,ntmps86
   go_wp2_with (go_at_call 100;refine (fJ _ _).mono ?_;rintro e w' ⟨rfl,rfl⟩)
   go_ret
   exact⟨oo (by rw [Fl.lS h1 h2'.out]),rfl⟩
theorem iO (b:Nat) (w:World) :
  Calls prog 55 #[.float .f64 b] w fun e w'=>e=.returned (.float .f64 (Fl.canon b))∧w=w':=by
 by_cases h1:Fl.dz b=true
 ·go_enter func55,ntmps55
  go_wp2_with fail
  go_ret
  exact⟨oo (by rw [Fl.rQ h1];rfl),rfl⟩
 ·have h1:Fl.dz b=false:=by simpa using h1
  by_cases h2:Fl.sv b=0
  ·have h3:Fl.oU b 0=true:=by rw [Fl.Am h1];simp [h2]
   have h2':=hid h2;clear h2
   go_enter func55,ntmps55
   go_wp2_with fail
   go_ret
   exact⟨oo (by rw [Fl.pG h1 h2'.out]),rfl⟩
  ·have h3:Fl.oU b 0=false:=by rw [Fl.Am h1];simp [h2]
   have h2':=hid h2;clear h2
   go_enter func55,ntmps55
   go_wp2_with fail
   go_ret
   exact⟨oo (by rw [Fl.lS h1 h2'.out]),rfl⟩
theorem GU (b:Nat) (w:World) :
  Calls prog 60 #[.float .f64 b] w fun e w'=>e=.returned (.bool (Fl.I b==Fl.I (Fl.canon b)))∧w=w':=by
 go_enter func60,ntmps60
 go_wp2_with (first | (go_at_call 74;refine (Dj _ _).mono ?_;rintro e w' ⟨rfl,rfl⟩) | (go_at_call 55;refine (iO _ _).mono ?_;rintro e w' ⟨rfl,rfl⟩))
 go_ret
 exact⟨rfl,rfl⟩
namespace Fl
end Fl
theorem key_c (b:Nat) (w:World) (hb:b<18446744073709551616) :
  Calls prog 175 #[.float .f64 b] w fun e w'=>e=.returned (.int .u64 (Fl.key b))∧w=w':=by
 by_cases h1:Fl.dz b=true
 ·go_enter func175,ntmps175
  go_wp2_with (go_at_call 100;refine (fJ _ _).mono ?_;rintro e w' ⟨rfl,rfl⟩)
  go_ret
  exact⟨oq (Fl.yT h1).symm,rfl⟩
 ·have h1:Fl.dz b=false:=by simpa using h1
  by_cases h2:0≤Fl.sv b
  ·have c1:=Fl.Gm hb h1 h2
   have c2:=hid (Fl.uX hb h1 h2)
   clear h2 hb
   go_enter func175,ntmps175
   go_wp2_with (first | (go_at_call 100;refine (fJ _ _).mono ?_;rintro e w' ⟨rfl,rfl⟩) | (go_at_call 86;refine (nV _ _).mono ?_;rintro e w' ⟨rfl,rfl⟩))
   go_ret
   exact⟨oq c2.out,rfl⟩
  ·have c1:=Fl.Dl hb h1 h2
   have c2:=hid (Fl.sN hb h1 h2)
   clear h2 hb
   go_enter func175,ntmps175
   go_wp2_with (first | (go_at_call 100;refine (fJ _ _).mono ?_;rintro e w' ⟨rfl,rfl⟩) | (go_at_call 86;refine (nV _ _).mono ?_;rintro e w' ⟨rfl,rfl⟩))
   go_ret
   exact⟨oq c2.out,rfl⟩
theorem BJ (b:Nat) (w:World) (hb:b<18446744073709551616) :
  Calls prog 87 #[.float .f64 b] w fun e w'=>e=.returned (.int .u64 (Fl.key b))∧w=w':=by
 by_cases h1:Fl.dz b=true
 ·go_enter func87,ntmps87
  go_wp2_with fail
  go_ret
  exact⟨oq (Fl.yT h1).symm,rfl⟩
 ·have h1:Fl.dz b=false:=by simpa using h1
  by_cases h2:0≤Fl.sv b
  ·have c1:=Fl.Dm hb h1 h2
   have c2:=hid (Fl.uX hb h1 h2)
   clear h2 hb
   go_enter func87,ntmps87
   go_wp2_with (first | (go_at_call 74;refine (Dj _ _).mono ?_;rintro e w' ⟨rfl,rfl⟩) | (go_at_call 55;refine (iO _ _).mono ?_;rintro e w' ⟨rfl,rfl⟩))
   go_ret
   exact⟨oq c2.out,rfl⟩
  ·have c1:=Fl.zZ hb h1 h2
   have c2:=hid (Fl.sN hb h1 h2)
   clear h2 hb
   go_enter func87,ntmps87
   go_wp2_with (first | (go_at_call 74;refine (Dj _ _).mono ?_;rintro e w' ⟨rfl,rfl⟩) | (go_at_call 55;refine (iO _ _).mono ?_;rintro e w' ⟨rfl,rfl⟩))
   go_ret
   exact⟨oq c2.out,rfl⟩
theorem D_ (a b:Nat) (w:World) (ha:a<18446744073709551616) (hb:b<18446744073709551616) :
  Calls prog 162 #[.float .f64 a,.float .f64 b] w fun e w'=>e=.returned (.bool (Fl.lt a b))∧w=w':=by
 go_enter func162,ntmps162
 go_wp2_with (go_at_call 175;refine (key_c _ _ (by assumption)).mono ?_;rintro e w' ⟨rfl,rfl⟩)
 go_ret
 exact⟨rfl,rfl⟩
theorem H_ (a b:Nat) (w:World) (ha:a<18446744073709551616) (hb:b<18446744073709551616) :
  Calls prog 131 #[.float .f64 a,.float .f64 b] w fun e w'=>e=.returned (.bool (Fl.lt a b))∧w=w':=by
 go_enter func131,ntmps131
 go_wp2_with (go_at_call 87;refine (BJ _ _ (by assumption)).mono ?_;rintro e w' ⟨rfl,rfl⟩)
 go_ret
 exact⟨rfl,rfl⟩
theorem gY (a b:Nat) (w:World) (ha:a<18446744073709551616) (hb:b<18446744073709551616) :
  Calls prog 65 #[.float .f64 a,.float .f64 b] w fun e w'=>e=.returned (.bool (Fl.same a b))∧w=w':=by
 go_enter func65,ntmps65
 go_wp2_with (go_at_call 87;refine (BJ _ _ (by assumption)).mono ?_;rintro e w' ⟨rfl,rfl⟩)
 go_ret
 exact⟨rfl,rfl⟩
end
section
open Go.RowKit
namespace Fl
def cand (k:Int):Int:=if k<9223372036854775808 then 18446744073709551615 - k else k - 9223372036854775808
def fit (k:Int):Bool:=key (W (cand k))==k
def wd (k:Int):Nat:=if fit k=true then canon (W (cand k)) else 0
end Fl
open Go.ChangeShapes Go.WideShapes Go.ChangeAt Go.RowKit
namespace Fl
end Fl
end
end
section
namespace Cd
def rdW (k:Nat):Option (List UInt8)→Nat × Option (List UInt8)
 | none=>(0,none)
 | some l=>if k≤l.length then (val (l.take k),some (l.drop k)) else (0,none)
def Em (most:Nat):Option (List UInt8)→Nat × Option (List UInt8)
 | none=>(0,none)
 | some []=>(0,none)
 | some (h :: t) =>
  if h.toNat<128 then (if h.toNat≤most then (h.toNat,some t) else (0,none))
  else if h.toNat - 128≤t.length∧128≤val (t.take (h.toNat - 128))∧wid (val (t.take (h.toNat - 128)))=h.toNat - 128∧val (t.take (h.toNat - 128))≤most
   then (val (t.take (h.toNat - 128)),some (t.drop (h.toNat - 128))) else (0,none)
@[irreducible] def full : Nat := 18446744073709551615
def rdF (s:Option (List UInt8)):Nat × Option (List UInt8) :=
 match (rdW 8 s).2 with
 | none=>(0,none)
 | some t=>if Fl.fit (rdW 8 s).1=true then (Fl.wd (rdW 8 s).1,some t) else (0,none)
def rdB (most:Nat) (s:Option (List UInt8)):List UInt8 × Option (List UInt8) :=
 match (Em most s).2 with
 | none=>([],none)
 | some t=>if (Em most s).1≤t.length then (t.take (Em most s).1,some (t.drop (Em most s).1)) else ([],none)
def rdG:Option (List UInt8)→Bool × Option (List UInt8)
 | none=>(false,none)
 | some []=>(false,none)
 | some (h :: t)=>if h.toNat≤1 then (h.toNat==1,some t) else (false,none)
structure Pt where
 kind:Int
 n:Int
 i:Int
 f:Nat
 b:List UInt8
 is:Bool
end Cd
open Go.RowKit
def hd (n:Nat):Nat:=if n<128 then n else 128+Cd.wid n
end
section
namespace St
end St
end
section
section
open Go.RowKit
section
variable {w : World} {B : Nat} {A : Option Addr}
theorem au.old {t t':TypeId} {xs:List Value} (h:au w B t A xs):au w w.heap.size t' A xs:=fun q=>by
 obtain⟨ad,e,hb,hc⟩:=h q
 refine⟨ad,e,.inl ?_,hc⟩
 obtain⟨u,hu⟩:∃ u,xs[0]?=some u:=by
  cases xs with
  | nil=>exact absurd rfl q
  | cons x xs=>exact⟨x,rfl⟩
 have:=World.block_lt_of_cell? _ _ (hc 0 u hu)
 rwa [iK] at this
end
theorem aH {w:World} {B base:Nat} {t:TypeId} {A:Option Addr} {size m n c:Nat} {xs:List Value} (h:w.ownsRow base t size (.slice A m c) n xs):au w B t A xs:=by
 obtain⟨rfl,_⟩:=aO h
 exact au.KJ h
def IP (B:Nat) (l:List UInt8) (w:World) (e:Ending) (w':World):Prop :=
 ∃ A n c,e=.returned (.slice A n c)∧w'.ownsRow B 5 1 (.slice A n c) l.length (mP l)∧aM B [5] w w'
theorem IP.then {B:Nat} {l:List UInt8} {w w1 w':World} {e:Ending} (h:IP B l w1 e w') (t:aM B [5] w w1):IP B l w e w':=by
 obtain⟨A,n,c,h1,h2,h3⟩:=h
 exact⟨A,n,c,h1,h2,t.trans h3⟩
end
section
open Go.RowKit
structure IY where
 b:List UInt8
 A:Option Addr
 c:Nat
def IY.cell (m:IY):Value:=.slice m.A m.b.length m.c
def pW (ms:List IY):List Value:=ms.map IY.cell
def IY.fine (m:IY) (w:World) (B:Nat) (tb:TypeId):Prop:=au w B tb m.A (mP m.b)∧m.b.length≤m.c
def TL (w:World) (B:Nat) (tt tb:TypeId) (A:Option Addr) (ms:List IY):Prop:=au w B tt A (pW ms)∧∀ m∈ms,m.fine w B tb
theorem below_drewN {B:Nat} {w w':World} (h:Below B w w') (n:Nat):Below B w (w'.drewN n):=⟨h.os,h.tape,h.output,h.size,h.block⟩
theorem EH (ms:List IY):(pW ms).length=ms.length:=by simp [pW]
theorem Ck (ms:List IY) (k:Nat):(pW ms).take k=pW (ms.take k):=by simp [pW]
section
variable {w w' : World} {B B' : Nat} {tt tb tt' tb' : TypeId} {A : Option Addr} {ms : List IY}
theorem TL.nil:TL w B tt tb A []:=⟨au.nil,by simp⟩
theorem TL.take (h:TL w B tt tb A ms) (k:Nat):TL w B tt tb A (ms.take k):=⟨by have:=h.1.take k;rwa [Ck] at this,fun m hm=>h.2 m (List.mem_of_mem_take hm)⟩
theorem TL.at_ (h:TL w B tt tb A ms) {k:Nat} (hk:k<ms.length):∃ ad m,A=some ad∧ms[k]?=some m∧m.fine w B tb∧w.cell? (ad.add k)=some (.slice m.A m.b.length m.c):=by
 have hx:ms[k]?=some ms[k]:=List.getElem?_eq_getElem hk
 obtain⟨ad,e,hc⟩:=h.1.at_ (k:=k) (by rw [EH];exact hk)
 refine⟨ad,ms[k],e,hx,h.2 _ (List.getElem_mem hk),?_⟩
 rw [hc]
 simp [pW,IY.cell]
end
end
end
section
open Go.RowKit
section
variable {α : Type} {f : α → List Value} {size : Nat}
theorem jb:∀ {l:List α},(∀ x∈l,(f x).length=size)→(l.flatMap f).length=l.length * size
 | [],_=>by simp
 | x :: l,h=>by
  rw [List.flatMap_cons,List.length_append,jb (fun y hy=>h y (List.mem_cons_of_mem _ hy)),h x (List.mem_cons_self ..),List.length_cons,Nat.add_mul,Nat.one_mul,Nat.add_comm]
theorem ig:∀ {l:List α},(∀ x∈l,(f x).length=size)→∀ {k:Nat} {x:α},l[k]?=some x→∀ {j:Nat},j<size→(l.flatMap f)[k * size+j]?=(f x)[j]?
 | [],_,k,x,h,_,_=>by simp at h
 | y :: l,hf,0,x,h,j,hj=>by
  simp only [List.getElem?_cons_zero,Option.some.injEq] at h
  subst h
  rw [List.flatMap_cons,Nat.zero_mul,Nat.zero_add,List.getElem?_append_left (by rw [hf y (List.mem_cons_self ..)];exact hj)]
 | y :: l,hf,k+1,x,h,j,hj=>by
  simp only [List.getElem?_cons_succ] at h
  have hy:=hf y (List.mem_cons_self ..)
  rw [List.flatMap_cons,List.getElem?_append_right (by rw [hy,Nat.add_mul];omega),hy,show (k+1) * size+j - size=k * size+j by rw [Nat.add_mul];omega]
  exact ig (fun z hz=>hf z (List.mem_cons_of_mem _ hz)) h hj
theorem uD:∀ {l:List α},(∀ x∈l,(f x).length=size)→∀ {k:Nat},k<l.length→∀ {x:α},(f x).length=size→(l.set k x).flatMap f=splice (l.flatMap f) (k * size) (f x)
 | [],_,k,h,_,_=>by simp at h
 | y :: l,hf,0,_,x,hx=>by
  rw [List.set_cons_zero,List.flatMap_cons,List.flatMap_cons]
  unfold splice
  rw [Nat.zero_mul,List.take_zero,List.nil_append,Nat.zero_add,hx,← hf y (List.mem_cons_self ..),List.drop_left]
 | y :: l,hf,k+1,h,x,hx=>by
  have hy:=hf y (List.mem_cons_self ..)
  have ih:=uD (fun z hz=>hf z (List.mem_cons_of_mem _ hz)) (Nat.lt_of_succ_lt_succ h) hx
  rw [List.set_cons_succ,List.flatMap_cons,List.flatMap_cons,ih]
  unfold splice
  rw [show (k+1) * size=(f y).length+k * size by rw [hy,Nat.add_mul,Nat.one_mul,Nat.add_comm],List.take_length_add_append,Nat.add_assoc,List.drop_length_add_append,List.append_assoc]
end
section
variable {w : World}
theorem heap_setCells_other {b k:Nat} (h:k≠b):∀ (vs:List Value) (o:Nat) (w:World),(w.setCells b o vs).heap[k]?=w.heap[k]?
 | [],_,_=>rfl
 | v :: r,o,w=>by
  rw [World.setCells,heap_setCells_other h r]
  exact Below.heap_setCell _ _ _ _ h
theorem kH {b:Nat} {t:TypeId} {fr:Nat × Nat}:∀ (vs:List Value) (o:Nat) (w:World) (cur:Array Value),w.heap[b]?=some (.cells cur t fr)→∃ cur',(w.setCells b o vs).heap[b]?=some (.cells cur' t fr)∧cur'.size=cur.size
 | [],_,_,cur,h=>⟨cur,h,rfl⟩
 | v :: r,o,w,cur,h=>by
  obtain⟨cur',h1,h2⟩:=kH r (o+1) _ _ (ah h o v)
  exact⟨cur',h1,by rw [h2];simp⟩
theorem iG (b:Nat):∀ (vs:List Value) (o:Nat) (w:World),(w.setCells b o vs).os=w.os∧(w.setCells b o vs).tape=w.tape∧(w.setCells b o vs).output=w.output∧(w.setCells b o vs).heap.size=w.heap.size
 | [],_,_=>⟨rfl,rfl,rfl,rfl⟩
 | v :: r,o,w=>by
  obtain⟨h1,h2,h3,h4⟩:=iG b r (o+1) (w.setCell ⟨b,o,none⟩ v)
  exact⟨h1,h2,h3,by rw [World.setCells,h4];simp [World.setCell]⟩
theorem aR (b:Nat) (vs:List Value) (o:Nat) (w:World):w.grownBy (w.setCells b o vs) (some b):=by
 obtain⟨h1,h2,h3,h4⟩:=iG b vs o w
 exact⟨h1,h2,h3,by omega,fun k _ hk=>heap_setCells_other (fun e=>hk (by rw [e])) vs o w⟩
variable {base : Nat} {e : TypeId} {size n c g : Nat} {xs : List Value}
theorem df (h:w.ownsRow base e size (.slice (some ⟨g,0,none⟩) n c) n xs) {j:Nat} {v:Value} (hv:xs[j]?=some v):w.cell? ⟨g,j,none⟩=some v:=by
 have:=h.cells (g:=g) rfl j v hv
 rwa [dP] at this
theorem lK (h:w.ownsRow base e size (.slice (some ⟨g,0,none⟩) n c) n xs) {o m:Nat} (hm:o+m≤xs.length):w.there g o m:=fun j hj=>by
 have hx:xs[o+j]?=some (xs[o+j]'(by omega)):=List.getElem?_eq_getElem (by omega)
 refine⟨by rw [df h hx];rfl,?_⟩
 rcases h.2 with⟨hn,_⟩ | ⟨g',cap,cur,hv,_,hh,_⟩
 ·cases hn
 ·injection hv with q
  injection q with q
  injection q with q
  subst q
  exact af hh _
theorem aV {o:Nat} {vs:List Value} (h:w.ownsRow base e size (.slice (some ⟨g,0,none⟩) n c) n xs) (hf:o+vs.length≤xs.length):(w.setCells g o vs).ownsRow base e size (.slice (some ⟨g,0,none⟩) n c) n (splice xs o vs):=by
 have hl:=length_splice xs o vs hf
 refine⟨hl.trans h.1,?_⟩
 have hthere:=lK h (o:=o) (m:=vs.length) hf
 have hcells:∀ j v,xs[j]?=some v→w.cell? ⟨g,j,none⟩=some v:=fun j v hv=>df h hv
 rcases h.2 with⟨hn,_⟩ | ⟨g',cap,cur,hv,hb,hh,hnc,hcm,hcs,ht⟩
 ·cases hn
 ·injection hv with q1 _ q2
  injection q1 with q
  injection q with q
  subst q
  obtain⟨cur',h1,h2⟩:=kH vs o w cur hh
  refine .inr ⟨g,cap,cur',by rw [q2],hb,h1,hnc,hcm,by rw [h2];exact hcs,?_⟩
  have hcur:∀ j:Nat,cur'[j]?=(w.setCells g o vs).cell? ⟨g,j,none⟩:=fun j=>(cell_of_row _ g j cur' e (0,0) h1).symm
  have hxl:n * size≤cur.size:=by rw [hcs];exact Nat.mul_le_mul_right _ hnc
  apply List.ext_getElem?
  intro j
  rw [List.getElem?_take]
  by_cases hj:j<n * size
  ·rw [if_pos hj,Array.getElem?_toList,hcur]
   have hx:xs[j]?=some (xs[j]'(by rw [h.1];exact hj)):=List.getElem?_eq_getElem _
   unfold splice
   rw [List.getElem?_append]
   by_cases h0:j<o
   ·rw [World.cell?_setCells_out g vs o w _ (fun _ _=>.inl h0),hcells j _ hx,if_pos (by rw [List.length_take];omega),List.getElem?_take,if_pos h0,hx]
   ·rw [if_neg (by rw [List.length_take];omega),List.length_take,Nat.min_eq_left (by omega),List.getElem?_append]
    by_cases h1':j - o<vs.length
    ·rw [if_pos h1',show (⟨g,j,none⟩:Addr)=⟨g,o+(j - o),none⟩ by rw [show o+(j - o)=j by omega],
      World.cell?_setCells_in g vs o w (fun i hi=>(hthere i hi).1) (j - o) h1',List.getElem?_eq_getElem h1']
    ·rw [if_neg h1',World.cell?_setCells_out g vs o w _ (fun _ _=>.inr (show o+vs.length≤j by omega)),hcells j _ hx,List.getElem?_drop,show o+vs.length+(j - o - vs.length)=j by omega,hx]
  ·rw [if_neg hj,List.getElem?_eq_none (by rw [hl,h.1];omega)]
end
def key (i:Int):Lit:=.int .i64 i
def at_ (D:DataW Value) (i:Int):DataW Value:=D.atKey (key i) (.held (.slice none 0 0))
section
variable {P : Program} {w : World} {t k e : TypeId} {b n : Nat} {D : DataW Value}
end
theorem dI {P:Program} {w w':World} {ops:Array Oper} {rest:List Oper} {o:Oper} {a:Act} {Q:Exit→Act→World→Prop} (hg:o.guard=none) (m:Operand) (t:TypeId) (hop:o.op=Op.call { callee:=Callee.builtin Builtin.clear,args:=#[m],argTypes:=#[t] })
  (v:Value) (hm:a.eval m=v) (hrun:(Builtin.clear_ #[t] o.type #[v]).run P w=.ok (.tuple #[]) w') (hK:wpList P ops Q rest (a.put o.dst (.tuple #[])) w'):wpList P ops Q (o :: rest) a w:=by
 refine wpList_plain hg fun K' hK'=>?_
 unfold Oper.wp
 simp [execOp,hop,resolve,invoke,builtin,hm,hrun,Result.andThen]
 exact hK' _ _ hK
section
variable {P : Program} {w w' : World} {ops : Array Oper} {rest : List Oper} {o : Oper} {a : Act} {K : Act → World → Prop} {Q : Exit → Act → World → Prop} {E : Prop}
theorem dH (w:World) (t e:TypeId) (cs:Array Value) (ie:TypeInfo) (z:Value) (hu:P.underlying t=some (.slice e)) (hie:P.info? e=some ie) (hz:ie.zero=some z) (hs:ie.size=cs.size) (h0:0<cs.size) (hm:cs.size≤16777216) :
  (Instr.buildSlice t 1 #[(0,.agg cs)]).run P w=.ok (.slice (some ⟨w.heap.size,0,none⟩) 1 1) (w.alloc (.cells cs e)):=by
 refine run_buildSlice w t e 1 _ cs ie z hu hie hz (by rw [hs,Nat.one_mul];show ¬ cs.size > 16777216;omega) (by rw [hs,Nat.one_mul];omega) ?_
 have q:=Great.fill_whole (s:=ie.size) (by rw [hs];exact h0) [Value.agg cs] ((Array.range (1 * ie.size)).map (z.cells[· % z.cells.size]!)) (fun v hv=>by rw [List.mem_singleton] at hv;subst hv;exact hs.symm) (by simp)
 simpa [Value.cells] using q
end
end
section
open Go.RowKit
namespace T9
structure Li where
 id:Nat
 name:List UInt8
structure Tk where
 id:Nat
 list:Nat
 title:List UInt8
 done:Bool
 rank:Nat
 est:Nat
 tags:List (List UInt8)
structure St where
 lists:List Li
 tasks:List Tk
instance:Inhabited Li:=⟨⟨0,[]⟩⟩
instance:Inhabited Tk:=⟨⟨0,0,[],false,0,0,[]⟩⟩
instance:Inhabited St:=⟨⟨[],[]⟩⟩
theorem Li.jG {a b:Li}:a=b↔a.id=b.id∧a.name=b.name:=by
 cases a;cases b;simp
instance:DecidableEq Li:=fun _ _=>decidable_of_iff _ Li.jG.symm
theorem Tk.jG {a b:Tk}:a=b↔a.id=b.id∧a.list=b.list∧a.title=b.title∧a.done=b.done∧a.rank=b.rank∧a.est=b.est∧a.tags=b.tags:=by
 cases a;cases b;simp
instance:DecidableEq Tk:=fun _ _=>decidable_of_iff _ Tk.jG.symm
theorem St.jG {a b:St}:a=b↔a.lists=b.lists∧a.tasks=b.tasks:=by
 cases a;cases b;simp
instance:DecidableEq St:=fun _ _=>decidable_of_iff _ St.jG.symm
def Tk.ok (t:Tk):Prop:=t.id<18446744073709551616∧t.list<18446744073709551616∧t.rank<18446744073709551616∧t.est<18446744073709551616
def Li.ok (l:Li):Prop:=l.id<18446744073709551616
def St.ok (s:St):Prop:=(∀ l∈s.lists,l.ok)∧∀ t∈s.tasks,t.ok
def iY (a b:Li):Bool:=decide (a.id<b.id)
def jg (a b:Tk):Bool:=decide (a.id<b.id)
def dN (a b:List UInt8):Bool:=decide (a<b)
theorem woL:Sr.WO iY:=⟨fun a=>by simp [iY],fun a b c h k=>by simp [iY] at *;omega,fun a b c h=>by simp [iY] at *;omega⟩
theorem woK:Sr.WO jg:=⟨fun a=>by simp [jg],fun a b c h k=>by simp [jg] at *;omega,fun a b c h=>by simp [jg] at *;omega⟩
theorem MO:Sr.WO dN:=⟨fun a=>by simp [dN],fun a b c h k=>by
  simp only [dN,decide_eq_true_eq] at *
  exact List.lt_trans h k,fun a b c h=>by
  simp only [dN,decide_eq_true_eq] at *
  by_cases q:a<b
  ·exact .inl q
  ·right
   rcases List.le_iff_lt_or_eq.1 (List.not_lt.1 q) with r | r
   ·exact List.lt_trans r h
   ·subst r;exact h⟩
def norm (t:Tk):Tk:={ t with rank:=Fl.canon t.rank,est:=Fl.canon t.est,tags:=Sr.canon dN t.tags }
def canon (s:St):St:=⟨Sr.canon iY s.lists,(Sr.canon jg s.tasks).map norm⟩
def h_ (a b:Tk):Bool:=a.id==b.id && a.list==b.list && decide (a.title=b.title) && a.done==b.done && Fl.same a.rank b.rank && Fl.same a.est b.est && decide (a.tags=b.tags)
def ib:List Tk→List Tk→Bool
 | [],[]=>true
 | a :: l,b :: m=>h_ a b && ib l m
 | _,_=>false
def same (a b:St):Bool:=decide (a.lists=b.lists) && ib a.tasks b.tasks
theorem Eu (a:Tk):h_ a a=true:=by simp [h_,Fl.same]
theorem vX:∀ l:List Tk,ib l l=true
 | []=>rfl
 | a :: l=>by simp [ib,Eu,vX l]
theorem sD (s:St):same s s=true:=by simp [same,vX]
theorem xP:∀ {l m:List Tk},ib l m=true→l.length=m.length
 | [],[],_=>rfl
 | a :: l,b :: m,h=>by
  simp only [ib,Bool.and_eq_true] at h
  rw [List.length_cons,List.length_cons,xP h.2]
 | [],_ :: _,h=>by simp [ib] at h
 | _ :: _,[],h=>by simp [ib] at h
theorem Ey {l m:List Tk} (hl:l.length=m.length) (a b:Tk):ib (l++[a]) (m++[b])=(ib l m && h_ a b):=by
 induction l generalizing m with
 | nil =>
  cases m with
  | nil=>simp [ib]
  | cons b m=>simp at hl
 | cons x l ih =>
  cases m with
  | nil=>simp at hl
  | cons y m =>
   simp only [List.length_cons,Nat.add_right_cancel_iff] at hl
   simp [ib,ih hl,Bool.and_assoc]
end T9
section
structure aN where
 t:T9.Tk
 A:Option Addr
 c:Nat
instance:Inhabited aN:=⟨⟨default,none,0⟩⟩
def a_ (l:T9.Li):List Value:=[.int .u64 (l.id:Int),.string (str l.name)]
def encS (s:List UInt8):Value:=.string (str s)
def aA (m:aN):List Value:=[.int .u64 (m.t.id:Int),.int .u64 (m.t.list:Int),.string (str m.t.title),.bool m.t.done,.float .f64 m.t.rank,.float .f64 m.t.est,.slice m.A m.t.tags.length m.c]
def iI (a b:aN):Bool:=T9.jg a.t b.t
theorem woM:Sr.WO iI:=⟨fun a=>T9.woK.irr a.t,fun a b c=>T9.woK.tr a.t b.t c.t,fun a b c=>T9.woK.ng a.t b.t c.t⟩
theorem fT (l:T9.Li):(a_ l).length=2:=rfl
theorem aU (m:aN):(aA m).length=7:=rfl
theorem lD (l:T9.Li):∀ v∈a_ l,v.oneCell'=true:=by
 intro v hv
 simp only [a_,List.mem_cons,List.not_mem_nil,or_false] at hv
 rcases hv with rfl | rfl <;> rfl
theorem dL (m:aN):∀ v∈aA m,v.oneCell'=true:=by
 intro v hv
 simp only [aA,List.mem_cons,List.not_mem_nil,or_false] at hv
 rcases hv with rfl | rfl | rfl | rfl | rfl | rfl | rfl <;> rfl
def aL (ls:List T9.Li):List Value:=ls.flatMap a_
def ai (ms:List aN):List Value:=ms.flatMap aA
def aC (ts:List (List UInt8)):List Value:=ts.map encS
theorem eY (ls:List T9.Li):(aL ls).length=ls.length * 2:=jb fun l _=>fT l
theorem aP (ms:List aN):(ai ms).length=ms.length * 7:=jb fun m _=>aU m
theorem dE (ts:List (List UInt8)):(aC ts).length=ts.length:=by simp [aC]
theorem iL (ls:List T9.Li):∀ v∈aL ls,v.oneCell'=true:=fun v hv=>by
 obtain⟨l,_,h⟩:=List.mem_flatMap.1 hv
 exact lD l v h
theorem cB (ms:List aN):∀ v∈ai ms,v.oneCell'=true:=fun v hv=>by
 obtain⟨l,_,h⟩:=List.mem_flatMap.1 hv
 exact dL l v h
theorem eX (ts:List (List UInt8)):∀ v∈aC ts,v.oneCell'=true:=fun v hv=>by
 obtain⟨l,_,rfl⟩:=List.mem_map.1 hv
 rfl
theorem A_ (ls:List T9.Li) (l:T9.Li):aL (ls++[l])=aL ls++a_ l:=by simp [aL]
theorem g_ (ms:List aN) (m:aN):ai (ms++[m])=ai ms++aA m:=by simp [ai]
theorem sK (ts:List (List UInt8)) (t:List UInt8):aC (ts++[t])=aC ts++[encS t]:=by simp [aC]
def aN.fine (m:aN) (w:World):Prop:=au w w.heap.size 0 m.A (aC m.t.tags)∧m.t.tags.length≤m.c
def KL (w:World) (A:Option Addr) (ms:List aN):Prop:=au w w.heap.size 0 A (ai ms)∧∀ m∈ms,m.fine w
def LL (w:World) (A:Option Addr) (ls:List T9.Li):Prop:=au w w.heap.size 0 A (aL ls)
def GL (w:World) (A:Option Addr) (ts:List (List UInt8)):Prop:=au w w.heap.size 0 A (aC ts)
def ay (ms:List aN):List T9.Tk:=ms.map (·.t)
theorem aK (ms:List aN):(ay ms).length=ms.length:=by simp [ay]
theorem fG (ms:List aN) (m:aN):ay (ms++[m])=ay ms++[m.t]:=by simp [ay]
section
variable {w w' : World} {A : Option Addr} {ls : List T9.Li} {ms : List aN} {ts : List (List UInt8)}
theorem LL.stay (h:LL w A ls) (hb:Below w.heap.size w w'):LL w' A ls:=au.stay h hb
theorem GL.stay (h:GL w A ts) (hb:Below w.heap.size w w'):GL w' A ts:=au.stay h hb
theorem aN.fine.stay {m:aN} (h:m.fine w) (hb:Below w.heap.size w w'):m.fine w':=⟨au.stay h.1 hb,h.2⟩
theorem KL.stay (h:KL w A ms) (hb:Below w.heap.size w w'):KL w' A ms:=⟨au.stay h.1 hb,fun m hm=>(h.2 m hm).stay hb⟩
theorem LL.nil:LL w A []:=au.nil
theorem GL.nil:GL w A []:=au.nil
theorem KL.nil:KL w A []:=⟨au.nil,by simp⟩
theorem LL.at_ (h:LL w A ls) {k:Nat} (hk:k<ls.length):∃ ad l,A=some ad∧ls[k]?=some l∧w.cell? (ad.add (k * 2))=some (.int .u64 (l.id:Int))∧w.cell? ⟨(ad.add (k * 2)).block,(ad.add (k * 2)).off+1,none⟩=some (.string (str l.name)):=by
 have hx:ls[k]?=some ls[k]:=List.getElem?_eq_getElem hk
 obtain⟨ad,e,_,hc⟩:=h (fun q=>by have:=eY ls;rw [q] at this;simp at this;omega)
 have c:∀ j u,j<2→(a_ ls[k])[j]?=some u→w.cell? ((ad.add (k * 2)).add j)=some u:=fun j u hj hu=>by
  rw [addr_add]
  exact hc _ _ ((ig (f:=a_) (size:=2) (fun l _=>fT l) hx hj).trans hu)
 exact⟨ad,ls[k],e,hx,c 0 _ (by omega) rfl,c 1 _ (by omega) rfl⟩
theorem GL.at_ (h:GL w A ts) {k:Nat} (hk:k<ts.length):∃ ad t,A=some ad∧ts[k]?=some t∧w.cell? (ad.add k)=some (.string (str t)):=by
 have hx:ts[k]?=some ts[k]:=List.getElem?_eq_getElem hk
 obtain⟨ad,e,hc⟩:=au.at_ h (k:=k) (by rw [dE];exact hk)
 refine⟨ad,ts[k],e,hx,?_⟩
 rw [hc]
 simp [aC,encS]
theorem KL.at_ (h:KL w A ms) {k:Nat} (hk:k<ms.length):∃ ad m,A=some ad∧ms[k]?=some m∧m.fine w∧w.cell? (ad.add (k * 7))=some (.int .u64 (m.t.id:Int))∧w.cell? ⟨(ad.add (k * 7)).block,(ad.add (k * 7)).off+1,none⟩=some (.int .u64 (m.t.list:Int)) ∧
  w.cell? ⟨(ad.add (k * 7)).block,(ad.add (k * 7)).off+2,none⟩=some (.string (str m.t.title))∧w.cell? ⟨(ad.add (k * 7)).block,(ad.add (k * 7)).off+3,none⟩=some (.bool m.t.done)∧w.cell? ⟨(ad.add (k * 7)).block,(ad.add (k * 7)).off+4,none⟩=some (.float .f64 m.t.rank) ∧
  w.cell? ⟨(ad.add (k * 7)).block,(ad.add (k * 7)).off+5,none⟩=some (.float .f64 m.t.est)∧w.cell? ⟨(ad.add (k * 7)).block,(ad.add (k * 7)).off+6,none⟩=some (.slice m.A m.t.tags.length m.c):=by
 have hx:ms[k]?=some ms[k]:=List.getElem?_eq_getElem hk
 obtain⟨ad,e,_,hc⟩:=h.1 (fun q=>by have:=aP ms;rw [q] at this;simp at this;omega)
 have c:∀ j u,j<7→(aA ms[k])[j]?=some u→w.cell? ((ad.add (k * 7)).add j)=some u:=fun j u hj hu=>by
  rw [addr_add]
  exact hc _ _ ((ig (f:=aA) (size:=7) (fun l _=>aU l) hx hj).trans hu)
 exact⟨ad,ms[k],e,hx,h.2 _ (List.getElem_mem hk),c 0 _ (by omega) rfl,c 1 _ (by omega) rfl,c 2 _ (by omega) rfl,c 3 _ (by omega) rfl,c 4 _ (by omega) rfl,c 5 _ (by omega) rfl,c 6 _ (by omega) rfl⟩
theorem aN.fine.gl {m:aN} (h:m.fine w):GL w m.A m.t.tags:=h.1
end
theorem ak {w:World} {p:Nat} {t:TypeId} {a b c d e f g:Value} {fr:Nat × Nat} (h:w.heap[p]?=some (.cells #[a,b,c,d,e,f,g] t fr)):w.cell? ⟨p,0,none⟩=some a∧w.cell? ⟨p,1,none⟩=some b∧w.cell? ⟨p,2,none⟩=some c∧w.cell? ⟨p,3,none⟩=some d∧w.cell? ⟨p,4,none⟩=some e∧w.cell? ⟨p,5,none⟩=some f∧w.cell? ⟨p,6,none⟩=some g:=by
 simp [World.cell?,h]
structure aQ where
 ls:List T9.Li
 A:Option Addr
 c:Nat
 ms:List aN
 A2:Option Addr
 c2:Nat
def aQ.val (m:aQ):Value:=.agg #[.slice m.A m.ls.length m.c,.slice m.A2 m.ms.length m.c2]
def aQ.st (m:aQ):T9.St:=⟨m.ls,ay m.ms⟩
structure SM (m:aQ) (w:World):Prop where
 l:LL w m.A m.ls
 k:KL w m.A2 m.ms
 lc:m.ls.length≤m.c
 kc:m.ms.length≤m.c2
theorem SM.stay {m:aQ} {w w':World} (h:SM m w) (hb:Below w.heap.size w w'):SM m w':=⟨h.l.stay hb,h.k.stay hb,h.lc,h.kc⟩
theorem dF {w w':World} {B:Nat} {t:TypeId} {A:Option Addr} {xs:List Value} {ts:List TypeId} (h:au w 0 t A xs) (hT:aM B ts w w') (ht:t ∉ ts):au w' 0 t A xs :=
 h.keep fun b hb=>by
  rcases hb with q | ⟨cs,fr,q⟩
  ·omega
  ·rw [hT.blk q ht,q]
def aN.jk (m:aN) (w:World):Prop:=au w 0 9 m.A (aC m.t.tags)∧m.t.tags.length≤m.c
theorem aN.jk.fine {m:aN} {w:World} (h:m.jk w):m.fine w:=⟨h.1.old,h.2⟩
theorem aN.jk.stay {m:aN} {w w':World} (h:m.jk w) (hb:Below w.heap.size w w'):m.jk w':=⟨h.1.below (Nat.zero_le _) hb,h.2⟩
theorem aN.jk.bE {m:aN} {w w':World} {B:Nat} {ts:List TypeId} (h:m.jk w) (hT:aM B ts w w') (hs:9 ∉ ts):m.jk w' :=
 ⟨h.1.keep fun b hb=>by
  rcases hb with q | ⟨cs,fr,q⟩
  ·omega
  ·rw [hT.blk q hs,q],h.2⟩
structure kR (m:aQ) (w:World):Prop where
 l:au w 0 61 m.A (aL m.ls)
 k:au w 0 64 m.A2 (ai m.ms)
 t:∀ x∈m.ms,x.jk w
 lc:m.ls.length≤m.c
 kc:m.ms.length≤m.c2
theorem kR.sm {m:aQ} {w:World} (h:kR m w):SM m w:=⟨h.l.old,⟨h.k.old,fun x hx=>(h.t x hx).fine⟩,h.lc,h.kc⟩
theorem kR.bE {m:aQ} {w w':World} {B:Nat} {ts:List TypeId} (h:kR m w) (hT:aM B ts w w') (h1:61 ∉ ts) (h2:64 ∉ ts) (h3:9 ∉ ts):kR m w':=⟨dF h.l hT h1,dF h.k hT h2,fun x hx=>(h.t x hx).bE hT h3,h.lc,h.kc⟩
theorem kR.stay {m:aQ} {w w':World} (h:kR m w) (hb:Below w.heap.size w w'):kR m w':=h.bE (aM.of_below hb (Nat.le_refl _) []) (by simp) (by simp) (by simp)
end
end
section
namespace Sr
section
variable {α : Type} {lt : α → α → Bool}
theorem Mg [DecidableEq α] (h:WO lt) {l r:List α} (s:gM lt l r):r.Perm l:=by
 rw [List.perm_iff_count]
 intro a
 have e:=congrArg (List.count a) (s a)
 rw [List.count_filter (kE h a),List.count_filter (kE h a)] at e
 exact e
theorem srt_str {r:List α} (hs:gu lt r) (hd:r.Pairwise fun a b=>iq lt a b=false):Str lt r:=by
 unfold Str gu at *
 refine (hs.and hd).imp fun {a b} hk=>?_
 obtain⟨h,k⟩:=hk
 unfold iq at k
 rw [h] at k
 simpa using k
theorem xO (h:WO lt):∀ {l r:List α},Str lt l→Str lt r→l.Perm r→l=r
 | [],r,_,_,p=>(List.nil_perm.1 p).symm
 | x :: l,[],_,_,p=>absurd (List.perm_nil.1 p) (by simp)
 | x :: l,y :: r,hl,hr,p=>by
  have hl':=List.pairwise_cons.1 hl
  have hr':=List.pairwise_cons.1 hr
  have hx:x∈y :: r:=p.mem_iff.1 List.mem_cons_self
  have hy:y∈x :: l:=p.mem_iff.2 List.mem_cons_self
  have e:x=y:=by
   rcases List.mem_cons.1 hx with q | q
   ·exact q
   ·rcases List.mem_cons.1 hy with q2 | q2
    ·exact q2.symm
    ·have a:=hr'.1 x q
     have b:=hl'.1 y q2
     rw [h.asym a] at b
     cases b
  subst e
  rw [xO h hl'.2 hr'.2 (List.Perm.cons_inv p)]
end
end Sr
namespace Fl
def zP (k:Nat):Nat:=FloatKind.f64.nearest (k:Int)
theorem JU:∀ k,k≤80→zP k<18446744073709551616∧dz (zP k)=false∧(I (zP k)==I (canon (zP k)))=true∧zP k<9223372036854775808:=by
 intro k hk
 have q:∀ k:Fin 81,zP k.1<18446744073709551616∧dz (zP k.1)=false∧(I (zP k.1)==I (canon (zP k.1)))=true∧zP k.1<9223372036854775808:=by decide +kernel
 exact q ⟨k,by omega⟩
end Fl
namespace T9
def lM (a b:Tk):Bool:=Fl.lt a.rank b.rank || (!Fl.lt b.rank a.rank && decide (a.id<b.id))
theorem og {a b:Tk}:lM a b=true↔Fl.pl a.rank<Fl.pl b.rank∨(Fl.pl a.rank=Fl.pl b.rank∧a.id<b.id):=by
 unfold lM
 rw [Bool.or_eq_true,Bool.and_eq_true,Fl.tY,Bool.not_eq_true',Fl.Kt,decide_eq_true_iff]
 omega
theorem tX {a b:Tk}:lM a b=false↔Fl.pl b.rank<Fl.pl a.rank∨(Fl.pl a.rank=Fl.pl b.rank∧b.id≤a.id):=by
 rw [← Bool.not_eq_true,og]
 omega
theorem Iu:Sr.WO lM:=⟨fun a=>by rw [tX];exact .inr ⟨rfl,Nat.le_refl _⟩,fun a b c h k=>by rw [og] at *;omega,fun a b c h=>by rw [og,og] at *;omega⟩
theorem eqvR {a b:Tk} (h:a.id≠b.id):Sr.iq lM a b=false:=by
 cases e:Sr.iq lM a b with
 | false=>rfl
 | true =>
  unfold Sr.iq at e
  rw [Bool.and_eq_true,Bool.not_eq_true',Bool.not_eq_true',tX,tX] at e
  omega
def fM (ts:List Tk) (list:Nat):List Tk:=ts.filter fun t=>t.list==list
def wN (ts:List Tk) (list:Nat) (r:List Tk):Prop:=Sr.gu lM r∧Sr.gM lM (fM ts list) r
theorem wN.perm {ts r:List Tk} {list:Nat} (h:wN ts list r):r.Perm (fM ts list):=Sr.Mg Iu h.2
def tK (ts:List Tk):Prop:=ts.Pairwise fun a b=>a.id≠b.id
theorem tK.filter {ts:List Tk} (h:tK ts) (p:Tk→Bool):tK (ts.filter p):=List.Pairwise.filter p h
theorem tK.perm {l r:List Tk} (h:tK l) (p:r.Perm l):tK r:=(p.pairwise_iff (fun q=>Ne.symm q)).2 h
theorem tK.str {r:List Tk} (h:tK r) (hs:Sr.gu lM r):Sr.Str lM r:=Sr.srt_str hs (h.imp fun q=>eqvR q)
theorem wN.str {ts r:List Tk} {list:Nat} (h:wN ts list r) (u:tK ts):Sr.Str lM r:=((u.filter _).perm h.perm).str h.1
theorem wN.is {ts r x:List Tk} {list:Nat} (h:wN ts list r) (u:tK ts) (hx:Sr.Str lM x) (p:x.Perm (fM ts list)):r=x:=Sr.xO Iu (h.str u) hx (h.perm.trans p.symm)
def zR (l:List Tk) (id:Nat):Option Nat:=l.findIdx? fun t=>t.id==id
end T9
end
end Go.Proofs.YtcmiompdjjiojaaGreat
