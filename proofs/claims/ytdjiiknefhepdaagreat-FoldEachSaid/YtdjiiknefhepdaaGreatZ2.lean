import Derived.Calls
import Derived.Below
import Derived.ProofKit
import GoSem.Core.Float
import GoSem.Op.Unary
namespace Go.Proofs.YtdjiiknefhepdaaGreat
set_option maxHeartbeats 16000000
set_option linter.unusedSimpArgs false
set_option maxRecDepth 100000
section
section
theorem nA {a b:Int} (h:a=b):Ending.returned (.int .u64 a)=.returned (.int .u64 b):=by rw [h]
theorem aZ {a b:Int} (h:a=b):Ending.returned (.int .i64 a)=.returned (.int .i64 b):=by rw [h]
theorem nE {a b:Nat} (h:a=b):Ending.returned (.float .f64 a)=.returned (.float .f64 b):=by rw [h]
theorem aP {a b:Bool} (h:a=b):Ending.returned (.bool a)=.returned (.bool b):=by rw [h]
namespace Cd
def wid (n:Nat):Nat :=
 if n<256 then 1 else if n<65536 then 2 else if n<16777216 then 3 else if n<4294967296 then 4 else if n<1099511627776 then 5 else if n<281474976710656 then 6 else if n<72057594037927936 then 7 else 8
def ev (l:List UInt8):Nat:=l.foldl (fun n b=>n * 256+b.toNat) 0
def val (l:List UInt8):Nat:=ev l % 18446744073709551616
end Cd
end
section
open Go.ChangeShapes Go.WideShapes Go.ChangeAt Go.RowKit
section
variable {H : Type} {enc : TypeId × Value → H} {P : Program}
theorem zO {f:Func} {s:ChangeSpec} {apart fresh handsOn again:Bool} {W W':World} {args:Array Value} {v:Value} {ds gs:List (DataW H)} {before pa pv:List MemPlace}
  (whole:DataW.Whole enc P f.params.toList s.vars apart W args.toList ds gs before) (same:before=pa++pv) (old:Below W.heap.size W W')
  (res:∀ (b:Nat) (sp:Nat→Bool) (hd:Bool),DataW.TrodAll enc P W' b sp hd f.resultTypes.toList (v.resultList f.resultTypes.size) (s.fn H (ds++gs)).results [])
  (arg:∀ sp:Nat→Bool,(∀ p∈before,sp p.block=true)→DataW.TrodAll enc P W' 0 sp true f.params.toList args.toList (s.fn H (ds++gs)).args pa)
  (var:∀ sp:Nat→Bool,(∀ p∈before,sp p.block=true)→DataW.TrodVars enc P W' sp s.vars (s.fn H (ds++gs)).vars pv)
  (outer:∀ (j:Nat) (t:TypeId) (r:Value),f.resultTypes[j]?=some t→(v.resultList f.resultTypes.size)[j]?=some r→Value.okWide P W' .any 0 t r) :
  s.post enc P f apart fresh handsOn again W args v W':=by
 have lower:∀ p∈before,p.block<W.heap.size:=fun p m=>whole.lt p m
 have marked:∀ p∈before,(fun b=>decide (b<W.heap.size)) p.block=true:=fun p m=>decide_eq_true (lower p m)
 have every:∀ p∈before,(fun _:Nat=>true) p.block=true:=fun _ _=>rfl
 have kept:W.keptBut W' (fun p=>p∈before∧(p∈([]:List MemPlace)++pa∨p∈pv)):=old.frame _
 obtain⟨_,_,_,_,_,frz,sep⟩:=id whole
 refine⟨ds,gs,before,[],pa,pv,whole,res _ _ _,arg _ marked,var _ marked,World.keptBut_mono (fun p m=>⟨m.1,?_⟩) kept,fun _=>?_⟩
 ·have h:=m.1
  rw [same,List.mem_append] at h
  exact Or.inr h
 ·refine⟨outer,_,_,([]++pa)++pv,⟨[]++pa,pv,trodAll_append (arg _ every) (res _ _ _),var _ every,rfl,?_,?_⟩,?_⟩
  ·intro b off m
   have h:MemPlace.cell b off∈before:=by rw [same];simpa using m
   rw [old.frozen (lower _ h)]
   exact frz b off h
  ·intro yes
   have h:=sep yes
   rw [same] at h
   simpa using h
  ·intro p m _
   rw [same]
   simpa using m
end
end
end
section
namespace Fl
def V (B r:Nat):Nat:=if r<B then r else (B+r % B) * 2 ^ (r / B - 1)
theorem V_zero (B:Nat) (hB:0<B):V B 0=0:=by simp [V,hB]
theorem Fa (B:Nat) (hB:0<B) (r:Nat):V B r<V B (r+1):=by
 unfold V
 by_cases h1:r+1<B
 ·rw [if_pos (by omega),if_pos h1];omega
 ·rw [if_neg h1]
  by_cases h2:r<B
  ·have e:r+1=B:=by omega
   rw [if_pos h2,e,Nat.mod_self,Nat.div_self hB]
   simp;omega
  ·rw [if_neg h2]
   have hq:1≤r / B:=(Nat.le_div_iff_mul_le hB).2 (by omega)
   have hlt:=Nat.mod_lt r hB
   have hdm:=Nat.div_add_mod r B
   by_cases h3:r % B+1=B
   ·have e:r+1=B * (r / B+1):=by rw [Nat.mul_add];omega
    have e1:(r+1) % B=0:=by rw [e,Nat.mul_mod_right]
    have e2:(r+1) / B=r / B+1:=by rw [e,Nat.mul_div_cancel_left _ hB]
    rw [e1,e2]
    obtain⟨q,hq'⟩:∃ q,r / B=q+1:=⟨r / B - 1,by omega⟩
    rw [hq']
    have:q+1+1 - 1=q+1:=by omega
    rw [this,Nat.add_sub_cancel,Nat.pow_succ,Nat.add_zero]
    have hp:0<2 ^ q:=Nat.two_pow_pos q
    calc (B+r % B) * 2 ^ q<(B * 2) * 2 ^ q:=Nat.mul_lt_mul_of_pos_right (by omega) hp
     _=B * (2 ^ q * 2):=by rw [Nat.mul_assoc,Nat.mul_comm 2]
   ·have e:r+1=r % B+1+B * (r / B):=by omega
    have e1:(r+1) % B=r % B+1:=by rw [e,Nat.add_mul_mod_self_left,Nat.mod_eq_of_lt (by omega)]
    have e2:(r+1) / B=r / B:=by rw [e,Nat.add_mul_div_left _ _ hB,Nat.div_eq_of_lt (by omega),Nat.zero_add]
    rw [e1,e2]
    exact Nat.mul_lt_mul_of_pos_right (by omega) (Nat.two_pow_pos _)
theorem V_lt (B:Nat) (hB:0<B) {r s:Nat} (h:r<s):V B r<V B s:=by
 induction s with
 | zero=>omega
 | succ s ih =>
  by_cases e:r=s
  ·subst e;exact Fa B hB r
  ·exact Nat.lt_trans (ih (by omega)) (Fa B hB s)
theorem zQ (B:Nat) (hB:0<B) (r s:Nat):V B r<V B s↔r<s:=by
 constructor
 ·intro h
  rcases Nat.lt_trichotomy r s with h1 | h1 | h1
  ·exact h1
  ·subst h1;omega
  ·have:=V_lt B hB h1;omega
 ·exact V_lt B hB
theorem tY (B:Nat) (hB:0<B) (r s:Nat):V B r=V B s↔r=s:=by
 constructor
 ·intro h
  rcases Nat.lt_trichotomy r s with h1 | h1 | h1
  ·have:=V_lt B hB h1;omega
  ·exact h1
  ·have:=V_lt B hB h1;omega
 ·intro h;rw [h]
def sg (neg:Bool) (n:Nat):Int:=if neg then -(n:Int) else n
theorem vX {x y x' y':Int} (h1:x<y↔x'<y') (h2:x=y↔x'=y'):compare x y=compare x' y':=by
 show compareOfLessAndEq x y=compareOfLessAndEq x' y'
 unfold compareOfLessAndEq
 by_cases a:x<y
 ·rw [if_pos a,if_pos (h1.1 a)]
 ·rw [if_neg a,if_neg (fun h=>a (h1.2 h))]
  by_cases b:x=y
  ·rw [if_pos b,if_pos (h2.1 b)]
  ·rw [if_neg b,if_neg (fun h=>b (h2.2 h))]
theorem cmp_sg (B:Nat) (hB:0<B) (s t:Bool) (r q:Nat):compare (sg s (V B r)) (sg t (V B q))=compare (sg s r) (sg t q):=by
 have h0:=V_zero B hB
 have hr:V B r=0↔r=0:=by have:=tY B hB r 0;rw [h0] at this;exact this
 have hq:V B q=0↔q=0:=by have:=tY B hB q 0;rw [h0] at this;exact this
 have h1:=zQ B hB r q
 have h2:=zQ B hB q r
 have h3:=tY B hB r q
 apply vX <;> cases s <;> cases t <;> simp only [sg,if_true,Bool.false_eq_true,if_false] <;> omega
theorem uk (s:Bool) (m u k:Nat):Ieee.signed s m u * ((2 ^ k:Nat):Int)=sg s (m * 2 ^ (u+k)):=by
 unfold Ieee.signed sg
 rw [Nat.shiftLeft_eq,Nat.pow_add,← Nat.mul_assoc]
 cases s
 ·simp only [Bool.false_eq_true,if_false];rw [← Int.natCast_mul]
 ·simp only [if_true];rw [Int.neg_mul,← Int.natCast_mul]
theorem vw (B:Nat) (hB:0<B) (lp:Int) (s t:Bool) (m n r q:Nat) (i j:Int) (hi:lp≤i) (hj:lp≤j)
  (hm:m * 2 ^ (i - lp).toNat=V B r) (hn:n * 2 ^ (j - lp).toNat=V B q) :
  (Ieee.Datum.number s m i).order (.number t n j)=some (compare (sg s r) (sg t q)):=by
 show some (compare (Ieee.signed s m (i - min i j).toNat) (Ieee.signed t n (j - min i j).toNat))=_
 congr 1
 rw [← cmp_sg B hB s t r q,← hm,← hn]
 have e1:(i - lp).toNat=(i - min i j).toNat+(min i j - lp).toNat:=by omega
 have e2:(j - lp).toNat=(j - min i j).toNat+(min i j - lp).toNat:=by omega
 rw [e1,e2,← uk,← uk]
 have hp:(0:Int)<((2 ^ (min i j - lp).toNat:Nat):Int):=by
  have:=Nat.two_pow_pos (min i j - lp).toNat;omega
 exact vX ⟨fun h=>Int.mul_lt_mul_of_pos_right h hp,fun h=>Int.lt_of_mul_lt_mul_right h (Int.le_of_lt hp)⟩
  ⟨fun h=>by rw [h],fun h=>Int.eq_of_mul_eq_mul_right (by omega) h⟩
theorem kJ (f:Ieee.Format) (w:Nat) (h:w % f.signWeight<f.infRung) :
  ∃ m i,f.read w=.number (w / f.signWeight % 2==1) m i∧f.leastPlace≤i∧m * 2 ^ (i - f.leastPlace).toNat=V f.binade (w % f.signWeight):=by
 unfold Ieee.Format.read V
 by_cases h1:w % f.signWeight<f.binade
 ·refine⟨w % f.signWeight,f.leastPlace,?_,Int.le_refl _,?_⟩
  ·simp only [if_pos h1]
  ·rw [if_pos h1,Int.sub_self];simp
 ·refine⟨f.binade+w % f.signWeight % f.binade,f.leastPlace+((w % f.signWeight / f.binade - 1:Nat):Int),?_,by omega,?_⟩
  ·simp only [if_neg h1,if_pos h]
  ·rw [if_neg h1];congr 2;omega
theorem pK (f:Ieee.Format) (w:Nat) (hb:f.binade≤f.infRung) (h:w % f.signWeight=f.infRung):f.read w=.infinity (w / f.signWeight % 2==1):=by
 unfold Ieee.Format.read
 simp only [h,if_neg (Nat.not_lt.2 hb),if_neg (Nat.lt_irrefl _),if_true]
theorem uP (f:Ieee.Format) (w:Nat) (hb:f.binade≤f.infRung) (h:f.infRung<w % f.signWeight):∃ n t,f.read w=.nan n t:=by
 unfold Ieee.Format.read
 refine⟨w / f.signWeight % 2==1,w % f.signWeight - f.infRung,?_⟩
 simp only [if_neg (show ¬ w % f.signWeight<f.binade by omega),if_neg (show ¬ w % f.signWeight<f.infRung by omega),if_neg (show ¬ w % f.signWeight=f.infRung by omega)]
theorem tK (f:Ieee.Format) (a b:Nat) (hb:f.binade≤f.infRung) (h:f.infRung<a % f.signWeight):f.order a b=none:=by
 unfold Ieee.Format.order
 obtain⟨n,t,e⟩:=uP f a hb h
 rw [e];rfl
theorem rT (f:Ieee.Format) (a b:Nat) (hb:f.binade≤f.infRung) (h:f.infRung<b % f.signWeight):f.order a b=none:=by
 unfold Ieee.Format.order
 obtain⟨n,t,e⟩:=uP f b hb h
 rw [e]
 cases f.read a <;> rfl
theorem yc (f:Ieee.Format) (a b:Nat) (hB:0<f.binade) (hb:f.binade≤f.infRung) (ha:a % f.signWeight≤f.infRung) (hc:b % f.signWeight≤f.infRung) :
  f.order a b=some (compare (sg (a / f.signWeight % 2==1) (a % f.signWeight)) (sg (b / f.signWeight % 2==1) (b % f.signWeight))):=by
 unfold Ieee.Format.order
 rcases Nat.lt_or_eq_of_le ha with h1 | h1 <;> rcases Nat.lt_or_eq_of_le hc with h2 | h2
 ·obtain⟨m,i,e1,e2,e3⟩:=kJ f a h1
  obtain⟨n,j,e4,e5,e6⟩:=kJ f b h2
  rw [e1,e4]
  exact vw f.binade hB f.leastPlace _ _ m n _ _ i j e2 e5 e3 e6
 ·obtain⟨m,i,e1,e2,e3⟩:=kJ f a h1
  rw [e1,pK f b hb h2]
  generalize (a / f.signWeight % 2==1)=s
  generalize (b / f.signWeight % 2==1)=t
  show some (if t then Ordering.gt else .lt)=_
  congr 1
  show _=compareOfLessAndEq _ _
  unfold compareOfLessAndEq
  rw [h2]
  cases s <;> cases t <;> simp only [sg,if_true,Bool.false_eq_true,if_false]
  ·rw [if_pos (by omega)]
  ·rw [if_neg (by omega),if_neg (by omega)]
  ·rw [if_pos (by omega)]
  ·rw [if_neg (by omega),if_neg (by omega)]
 ·obtain⟨n,j,e4,e5,e6⟩:=kJ f b h2
  rw [e4,pK f a hb h1]
  generalize (a / f.signWeight % 2==1)=s
  generalize (b / f.signWeight % 2==1)=t
  show some (if s then Ordering.lt else .gt)=_
  congr 1
  show _=compareOfLessAndEq _ _
  unfold compareOfLessAndEq
  rw [h1]
  cases s <;> cases t <;> simp only [sg,if_true,Bool.false_eq_true,if_false]
  ·rw [if_neg (by omega),if_neg (by omega)]
  ·rw [if_neg (by omega),if_neg (by omega)]
  ·rw [if_pos (by omega)]
  ·rw [if_pos (by omega)]
 ·rw [pK f a hb h1,pK f b hb h2]
  generalize (a / f.signWeight % 2==1)=s
  generalize (b / f.signWeight % 2==1)=t
  show some (compare t.toNat s.toNat)=_
  congr 1
  rw [h1,h2]
  have hp:0<f.infRung:=by omega
  show _=compareOfLessAndEq _ _
  unfold compareOfLessAndEq
  cases s <;> cases t <;> simp only [sg,if_true,Bool.false_eq_true,if_false,Bool.toNat_true,Bool.toNat_false]
  ·rw [if_neg (by omega)];rfl
  ·rw [if_neg (by omega),if_neg (by omega)];rfl
  ·rw [if_pos (by omega)];rfl
  ·rw [if_neg (by omega)];rfl
def inf:Nat:=9218868437227405312
def two63:Nat:=9223372036854775808
def h_:Nat:=9221120237041090561
theorem uq:inf=9218868437227405312:=rfl
theorem j5:two63=9223372036854775808:=rfl
theorem pq:FloatKind.f64.format.infRung=inf:=by decide +kernel
theorem qy:FloatKind.f64.format.signWeight=two63:=by decide +kernel
theorem Bj:0<FloatKind.f64.format.binade:=Nat.two_pow_pos _
theorem xz:FloatKind.f64.format.binade≤FloatKind.f64.format.infRung:=by decide +kernel
def I (b:Nat):Int:=b
def W (n:Int):Nat:=n.toNat
theorem I_eq (b:Nat):I b=b:=rfl
def dx (b:Nat):Bool:=decide (inf<b % two63)
def sv (b:Nat):Int:=if b / two63 % 2=1 then -((b % two63:Nat):Int) else ((b % two63:Nat):Int)
theorem sv_eq (b:Nat):sv b=sg (b / two63 % 2==1) (b % two63):=by
 unfold sv sg
 by_cases h:b / two63 % 2=1
 ·rw [if_pos h,if_pos (by simp [h])]
 ·rw [if_neg h,if_neg (by simp [h])]
theorem jH {a:Nat} (h:dx a=true) (b:Nat):FloatKind.f64.format.order a b=none :=
 tK _ a b xz (by rw [pq,qy];exact of_decide_eq_true h)
theorem iZ (a:Nat) {b:Nat} (h:dx b=true):FloatKind.f64.format.order a b=none :=
 rT _ a b xz (by rw [pq,qy];exact of_decide_eq_true h)
theorem ou {a b:Nat} (ha:dx a=false) (hb:dx b=false):FloatKind.f64.format.order a b=some (compare (sv a) (sv b)):=by
 have h1:¬ inf<a % two63:=of_decide_eq_false ha
 have h2:¬ inf<b % two63:=of_decide_eq_false hb
 rw [yc _ a b Bj xz (by rw [pq,qy];omega) (by rw [pq,qy];omega),qy,sv_eq,sv_eq]
theorem cmp_lt (x y:Int):(some (compare x y)==some Ordering.lt)=decide (x<y):=by
 show (some (compareOfLessAndEq x y)==some Ordering.lt)=_
 unfold compareOfLessAndEq
 by_cases h:x<y
 ·rw [if_pos h];simp [h]
 ·rw [if_neg h]
  by_cases e:x=y
  ·rw [if_pos e];simp [h]
  ·rw [if_neg e];simp [h]
theorem cmp_eq (x y:Int):(some (compare x y)==some Ordering.eq)=decide (x=y):=by
 show (some (compareOfLessAndEq x y)==some Ordering.eq)=_
 unfold compareOfLessAndEq
 by_cases h:x<y
 ·rw [if_pos h];simp;omega
 ·rw [if_neg h]
  by_cases e:x=y
  ·rw [if_pos e];simp [e]
  ·rw [if_neg e];simp [e]
theorem cmp_gt (x y:Int):(some (compare x y)==some Ordering.gt)=decide (y<x):=by
 show (some (compareOfLessAndEq x y)==some Ordering.gt)=_
 unfold compareOfLessAndEq
 by_cases h:x<y
 ·rw [if_pos h];simp;omega
 ·rw [if_neg h]
  by_cases e:x=y
  ·rw [if_pos e];simp;omega
  ·rw [if_neg e];simp;omega
def tX (a b:Nat):Bool:=!dx a && !dx b && decide (sv a<sv b)
def om (a b:Nat):Bool:=!dx a && !dx b && decide (sv a=sv b)
theorem I8 (a b:Nat):(FloatKind.f64.format.order a b==some .lt)=tX a b:=by
 unfold tX
 cases ha:dx a
 ·cases hb:dx b
  ·rw [ou ha hb,cmp_lt];simp
  ·rw [iZ a hb];rfl
 ·rw [jH ha];rfl
theorem zC (a b:Nat):(FloatKind.f64.format.order a b==some .eq)=om a b:=by
 unfold om
 cases ha:dx a
 ·cases hb:dx b
  ·rw [ou ha hb,cmp_eq];simp
  ·rw [iZ a hb];rfl
 ·rw [jH ha];rfl
theorem Gm (a b:Nat):(FloatKind.f64.format.order a b != some .eq)=!om a b:=by
 rw [← zC];rfl
theorem F7 (a b:Nat):(FloatKind.f64.format.order a b==some .gt)=tX b a:=by
 unfold tX
 cases ha:dx a
 ·cases hb:dx b
  ·rw [ou ha hb,cmp_gt];simp
  ·rw [iZ a hb];rfl
 ·rw [jH ha];cases dx b <;> rfl
theorem F6 (a:Nat):om a a=!dx a:=by unfold om;cases dx a <;> simp
def uZ (b:Nat):Int:=if dx b=true then 0 else if sv b=-inf then 1 else if sv b<0 then 2 else if sv b=0 then 3 else if sv b<inf then 4 else 5
def canon (b:Nat):Nat:=if dx b=true then h_ else if sv b=0 then 0 else b
def key (b:Nat):Int:=if dx b=true then 0 else if sv b<0 then two63 - 1+sv b else two63+sv b
theorem gz {b:Nat} (h:dx b=false):-(inf:Int)≤sv b∧sv b≤inf:=by
 have h1:¬ inf<b % two63:=of_decide_eq_false h
 unfold sv;split <;> omega
theorem CW (b:Nat):(b ^^^ 2 ^ 63) % 2 ^ 63=b % 2 ^ 63:=by
 rw [Nat.xor_mod_two_pow,Nat.mod_self,Nat.xor_zero]
theorem xor_div (b:Nat):(b ^^^ 2 ^ 63) / 2 ^ 63 % 2=1 - b / 2 ^ 63 % 2:=by
 rw [Nat.xor_div_two_pow,Nat.div_self (Nat.two_pow_pos _)]
 have h:=Nat.xor_mod_two_pow (a:=b / 2 ^ 63) (b:=1) (n:=1)
 rw [Nat.pow_one] at h
 rw [h]
 have:=Nat.mod_lt (b / 2 ^ 63) (show 0<2 by omega)
 have e:b / 2 ^ 63 % 2=0∨b / 2 ^ 63 % 2=1:=by omega
 rcases e with e | e <;> rw [e] <;> rfl
theorem vM:two63=2 ^ 63:=by decide +kernel
theorem Cr (b:Nat):dx (Op.negFloat .f64 b)=dx b:=by
 unfold dx
 have e:Op.negFloat .f64 b=b ^^^ 2 ^ 63:=rfl
 rw [e,vM,CW]
theorem sv_neg (b:Nat):sv (Op.negFloat .f64 b)=- sv b:=by
 unfold sv
 have e:Op.negFloat .f64 b=b ^^^ 2 ^ 63:=rfl
 rw [e,vM,CW,xor_div]
 have:=Nat.mod_lt (b / 2 ^ 63) (show 0<2 by omega)
 have e:b / 2 ^ 63 % 2=0∨b / 2 ^ 63 % 2=1:=by omega
 rcases e with e | e <;> rw [e] <;> simp
theorem BJ {b:Nat} (h:b<two63):sv b=b:=by
 unfold sv;rw [if_neg (by rw [Nat.div_eq_of_lt h];omega),Nat.mod_eq_of_lt h]
theorem Hq {b:Nat} (h:two63≤b) (h2:b<2 * two63):sv b=two63 - b:=by
 unfold two63 at *;unfold sv;rw [if_pos (by unfold two63;omega)];unfold two63;omega
theorem isN_pos {b:Nat} (h:b<two63):dx b=decide (inf<b):=by
 unfold dx;rw [Nat.mod_eq_of_lt h]
theorem pG {a b:Nat} (ha:dx a=false) (hb:dx b=false):tX a b=decide (sv a<sv b):=by unfold tX;rw [ha,hb];simp
theorem eqB_yes {a b:Nat} (ha:dx a=false) (hb:dx b=false):om a b=decide (sv a=sv b):=by unfold om;rw [ha,hb];simp
theorem wM {a:Nat} (ha:dx a=true) (b:Nat):tX a b=false:=by unfold tX;rw [ha];simp
theorem nZ (a:Nat) {b:Nat} (hb:dx b=true):tX a b=false:=by unfold tX;rw [hb];simp
theorem wK:sv 0=0:=by rw [BJ (by unfold two63;omega)];rfl
theorem uC:dx 0=false:=by rw [isN_pos (by unfold two63;omega)];rfl
theorem Cz:dx 9218868437227405311=false:=by decide +kernel
theorem isN_low:dx 18442240474082181119=false:=by decide +kernel
theorem IM:sv 9218868437227405311=inf - 1:=by decide +kernel
theorem sv_low:sv 18442240474082181119=-(inf:Int)+1:=by decide +kernel
def zI (b:Nat):Bool:=!dx b && decide (sv b=inf)
def vv (b:Nat):Bool:=!dx b && decide (sv b=-(inf:Int))
theorem C9 (b:Nat):tX 9218868437227405311 b=zI b:=by
 unfold zI
 cases h:dx b
 ·rw [pG Cz h,IM]
  have:=gz h
  simp only [Bool.not_false,Bool.true_and,decide_eq_decide];omega
 ·rw [nZ _ h];rfl
theorem zF (b:Nat):tX 9218868437227405311 (Op.negFloat .f64 b)=vv b:=by
 unfold vv
 cases h:dx b
 ·rw [pG Cz (by rw [Cr,h]),IM,sv_neg]
  have:=gz h
  simp only [Bool.not_false,Bool.true_and,decide_eq_decide];omega
 ·rw [nZ _ (by rw [Cr,h])];rfl
theorem ltB_low (b:Nat):tX b 18442240474082181119=vv b:=by
 unfold vv
 cases h:dx b
 ·rw [pG h isN_low,sv_low]
  have:=gz h
  simp only [Bool.not_false,Bool.true_and,decide_eq_decide];omega
 ·rw [wM h];rfl
theorem mF {b:Nat} (h:dx b=false):tX b 0=decide (sv b<0):=by rw [pG h uC,wK]
theorem nY {b:Nat} (h:dx b=false):tX 0 b=decide (0<sv b):=by rw [pG uC h,wK]
theorem yV {b:Nat} (h:dx b=false):om b 0=decide (sv b=0):=by rw [eqB_yes h uC,wK]
theorem cls_nan {b:Nat} (h:dx b=true):uZ b=0:=by unfold uZ;rw [if_pos h]
theorem Em {b:Nat} (h:vv b=true):uZ b=1:=by
 unfold vv at h;simp at h;unfold uZ;rw [if_neg (by simp [h.1]),if_pos h.2]
theorem Ea {b:Nat} (h:zI b=true):uZ b=5:=by
 unfold zI at h;simp at h
 have hp:(0:Int)<inf:=by decide +kernel
 unfold uZ;rw [if_neg (by simp [h.1]),if_neg (by omega),if_neg (by omega),if_neg (by omega),if_neg (by omega)]
theorem DY {b:Nat} (h0:dx b=false) (h1:vv b=false) (h:tX b 0=true):uZ b=2:=by
 rw [mF h0] at h
 unfold vv at h1;simp [h0] at h1 h
 unfold uZ;rw [if_neg (by simp [h0]),if_neg h1,if_pos h]
theorem BD {b:Nat} (h0:dx b=false) (h1:tX b 0=false) (h:tX 0 b=false):uZ b=3:=by
 rw [mF h0] at h1
 rw [nY h0] at h
 simp at h1 h
 have hp:(0:Int)<inf:=by decide +kernel
 unfold uZ;rw [if_neg (by simp [h0]),if_neg (by omega),if_neg (by omega),if_pos (by omega)]
theorem Je {b:Nat} (h0:dx b=false) (h1:zI b=false) (h:0<sv b):uZ b=4:=by
 have bd:=gz h0
 unfold zI at h1;simp [h0] at h1
 unfold uZ;rw [if_neg (by simp [h0]),if_neg (by omega),if_neg (by omega),if_neg (by omega),if_pos (by omega)]
theorem pos_of {b:Nat} (h0:dx b=false) (h:tX 0 b=true):0<sv b:=by
 rw [nY h0] at h;simpa using h
theorem oO (b:Nat):(uZ b==0)=dx b:=by
 unfold uZ
 cases dx b
 ·simp;repeat' split
  all_goals decide
 ·simp
theorem vN {b:Nat} (h0:dx b=false):(uZ b==3)=decide (sv b=0):=by
 have hp:(0:Int)<inf:=by decide +kernel
 unfold uZ
 rw [h0]
 by_cases h:sv b=0
 ·simp [h];omega
 ·simp [h];repeat' split
  all_goals decide
theorem qL {b:Nat} (h:dx b=true):canon b=h_:=by unfold canon;rw [if_pos h]
theorem oM {b:Nat} (h0:dx b=false) (h:sv b=0):canon b=0:=by unfold canon;rw [if_neg (by simp [h0]),if_pos h]
theorem l8 {b:Nat} (h0:dx b=false) (h:¬ sv b=0):canon b=b:=by unfold canon;rw [if_neg (by simp [h0]),if_neg h]
theorem uQ {b:Nat} (h:b<18446744073709551616):canon b<18446744073709551616:=by
 unfold canon;split
 ·decide +kernel
 ·split <;> omega
theorem tZ {b:Nat} (hb:b<18446744073709551616) (h:dx b=false) (hs:0≤sv b):I (canon b)=sv b:=by
 unfold I
 by_cases e:sv b=0
 ·rw [oM h e,e];rfl
 ·rw [l8 h e]
  by_cases l:b<two63
  ·rw [BJ l]
  ·have:=Hq (b:=b) (by omega) (by unfold two63;omega);omega
theorem qP {b:Nat} (hb:b<18446744073709551616) (h:dx b=false) (hs:sv b<0):I (canon b)=two63 - sv b:=by
 unfold I
 rw [l8 h (by omega)]
 by_cases l:b<two63
 ·have:=BJ l;omega
 ·have:=Hq (b:=b) (by omega) (by unfold two63;omega);omega
theorem wV {b:Nat} (h:dx b=true):key b=0:=by unfold key;rw [if_pos h]
theorem Ib {b:Nat} (h:dx b=false) (hs:0≤sv b):key b=two63+sv b:=by
 unfold key;rw [if_neg (by simp [h]),if_neg (by omega)]
theorem Dc {b:Nat} (h:dx b=false) (hs:sv b<0):key b=two63 - 1+sv b:=by
 unfold key;rw [if_neg (by simp [h]),if_pos hs]
theorem wrap_u64 (n:Int):IntKind.u64.wrap n=n % 18446744073709551616:=by simp [IntKind.wrap,IntKind.bits,IntKind.signed]
theorem Ew {b:Nat} (hb:b<18446744073709551616) (h:dx b=false) (hs:0≤sv b):decide (I (canon b)<9223372036854775808)=true:=by
 have:=tZ hb h hs;have:=gz h;have:=uq;simp;omega
theorem Az {b:Nat} (hb:b<18446744073709551616) (h:dx b=false) (hs:¬ 0≤sv b):decide (I (canon b)<9223372036854775808)=false:=by
 have:=qP hb h (by omega);have:=j5;simp;omega
theorem Al {b:Nat} (hb:b<18446744073709551616) (h:dx b=false) (hs:0≤sv b):(I (canon b) / 9223372036854775808==0)=true:=by
 have:=tZ hb h hs;have:=gz h;have:=uq;simp;omega
theorem xU {b:Nat} (hb:b<18446744073709551616) (h:dx b=false) (hs:¬ 0≤sv b):(I (canon b) / 9223372036854775808==0)=false:=by
 have:=qP hb h (by omega);have:=j5;simp;omega
theorem uD {b:Nat} (hb:b<18446744073709551616) (h:dx b=false) (hs:0≤sv b):IntKind.u64.wrap (I (canon b)+9223372036854775808)=key b:=by
 have:=tZ hb h hs;have:=gz h;have:=uq;have:=j5
 rw [Ib h hs,wrap_u64];omega
theorem q8 {b:Nat} (hb:b<18446744073709551616) (h:dx b=false) (hs:¬ 0≤sv b):IntKind.u64.wrap (18446744073709551615 - I (canon b))=key b:=by
 have:=qP hb h (by omega);have:=gz h;have:=uq;have:=j5
 rw [Dc h (by omega),wrap_u64];omega
def pl (b:Nat):Int:=if dx b=true then -(inf:Int) - 1 else sv b
def lt (a b:Nat):Bool:=decide (key a<key b)
def same (a b:Nat):Bool:=key a==key b
theorem Hy {b:Nat} (h:dx b=true):pl b=-(inf:Int) - 1:=by unfold pl;rw [if_pos h]
theorem FP {b:Nat} (h:dx b=false):pl b=sv b:=by unfold pl;rw [if_neg (by simp [h])]
theorem xW (b:Nat):-(inf:Int) - 1≤pl b∧pl b≤inf:=by
 cases h:dx b
 ·rw [FP h];have:=gz h;omega
 ·rw [Hy h];omega
def kp (p:Int):Int:=if p=-(inf:Int) - 1 then 0 else if p<0 then two63 - 1+p else two63+p
theorem Fw (b:Nat):key b=kp (pl b):=by
 cases h:dx b
 ·have:=gz h
  rw [FP h];unfold kp;rw [if_neg (by omega)]
  by_cases hs:0≤sv b
  ·rw [Ib h hs,if_neg (by omega)]
  ·rw [Dc h (by omega),if_pos (by omega)]
 ·rw [wV h,Hy h];unfold kp;rw [if_pos rfl]
theorem kp_lt {p q:Int} (hp:-(inf:Int) - 1≤p) (hq:-(inf:Int) - 1≤q):kp p<kp q↔p<q:=by
 have:=uq;have:=j5
 unfold kp
 by_cases a1:p=-(inf:Int) - 1 <;> by_cases a2:p<0 <;> by_cases b1:q=-(inf:Int) - 1 <;> by_cases b2:q<0 <;> simp only [a1,a2,b1,b2,if_true,if_false] <;> omega
theorem wG (a b:Nat):key a<key b↔pl a<pl b:=by
 rw [Fw,Fw];exact kp_lt (xW a).1 (xW b).1
theorem key_eq (a b:Nat):key a=key b↔pl a=pl b:=by
 have h1:=wG a b;have h2:=wG b a;omega
theorem rY {a b:Nat}:lt a b=true↔pl a<pl b:=by unfold lt;rw [decide_eq_true_iff,wG]
theorem Jv {a b:Nat}:lt a b=false↔pl b≤pl a:=by unfold lt;rw [decide_eq_false_iff_not,wG];omega
theorem En {a b:Nat}:same a b=true↔pl a=pl b:=by unfold same;rw [beq_iff_eq,key_eq]
end Fl
end
end Go.Proofs.YtdjiiknefhepdaaGreat
