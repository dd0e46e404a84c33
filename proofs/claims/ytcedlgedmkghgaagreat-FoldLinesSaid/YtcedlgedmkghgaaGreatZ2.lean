import Derived.Calls
import Derived.Below
import Derived.ProofKit
import GoSem.Core.Float
import GoSem.Op.Unary
namespace Go.Proofs.YtcedlgedmkghgaaGreat
set_option maxHeartbeats 16000000
set_option linter.unusedSimpArgs false
set_option maxRecDepth 100000
section
section
theorem mZ {a b:Int} (h:a=b):Ending.returned (.int .u64 a)=.returned (.int .u64 b):=by rw [h]
theorem a_ {a b:Int} (h:a=b):Ending.returned (.int .i64 a)=.returned (.int .i64 b):=by rw [h]
theorem mY {a b:Nat} (h:a=b):Ending.returned (.float .f64 a)=.returned (.float .f64 b):=by rw [h]
theorem aP {a b:Bool} (h:a=b):Ending.returned (.bool a)=.returned (.bool b):=by rw [h]
namespace Cd
def wid (n:Nat):Nat :=
 if n<256 then 1 else if n<65536 then 2 else if n<16777216 then 3 else if n<4294967296 then 4 else if n<1099511627776 then 5 else if n<281474976710656 then 6 else if n<72057594037927936 then 7 else 8
def ev (l:List UInt8):Nat:=l.foldl (fun n b=>n * 256+b.toNat) 0
def val (l:List UInt8):Nat:=ev l % 18446744073709551616
end Cd
end
section
open Go.ChangeShapes Go.WideShapes Go.ChangeAt Go.RowKit
section
variable {H : Type} {enc : TypeId × Value → H} {P : Program}
theorem zb {f:Func} {s:ChangeSpec} {apart fresh handsOn again:Bool} {W W':World} {args:Array Value} {v:Value} {ds gs:List (DataW H)} {before pa pv:List MemPlace}
  (whole:DataW.Whole enc P f.params.toList s.vars apart W args.toList ds gs before) (same:before=pa++pv) (old:Below W.heap.size W W')
  (res:∀ (b:Nat) (sp:Nat→Bool) (hd:Bool),DataW.TrodAll enc P W' b sp hd f.resultTypes.toList (v.resultList f.resultTypes.size) (s.fn H (ds++gs)).results [])
  (arg:∀ sp:Nat→Bool,(∀ p∈before,sp p.block=true)→DataW.TrodAll enc P W' 0 sp true f.params.toList args.toList (s.fn H (ds++gs)).args pa)
  (var:∀ sp:Nat→Bool,(∀ p∈before,sp p.block=true)→DataW.TrodVars enc P W' sp s.vars (s.fn H (ds++gs)).vars pv)
  (outer:∀ (j:Nat) (t:TypeId) (r:Value),f.resultTypes[j]?=some t→(v.resultList f.resultTypes.size)[j]?=some r→Value.okWide P W' .any 0 t r) :
  s.post enc P f apart fresh handsOn again W args v W':=by
 have lower:∀ p∈before,p.block<W.heap.size:=fun p m=>whole.lt p m
 have marked:∀ p∈before,(fun b=>decide (b<W.heap.size)) p.block=true:=fun p m=>decide_eq_true (lower p m)
 have every:∀ p∈before,(fun _:Nat=>true) p.block=true:=fun _ _=>rfl
 have kept:W.keptBut W' (fun p=>p∈before∧(p∈([]:List MemPlace)++pa∨p∈pv)):=old.frame _
 obtain⟨_,_,_,_,_,frz,sep⟩:=id whole
 refine⟨ds,gs,before,[],pa,pv,whole,res _ _ _,arg _ marked,var _ marked,World.keptBut_mono (fun p m=>⟨m.1,?_⟩) kept,fun _=>?_⟩
 ·have h:=m.1
  rw [same,List.mem_append] at h
  exact Or.inr h
 ·refine⟨outer,_,_,([]++pa)++pv,⟨[]++pa,pv,trodAll_append (arg _ every) (res _ _ _),var _ every,rfl,?_,?_⟩,?_⟩
  ·intro b off m
   have h:MemPlace.cell b off∈before:=by rw [same];simpa using m
   rw [old.frozen (lower _ h)]
   exact frz b off h
  ·intro yes
   have h:=sep yes
   rw [same] at h
   simpa using h
  ·intro p m _
   rw [same]
   simpa using m
end
end
end
section
namespace Fl
def V (B r:Nat):Nat:=if r<B then r else (B+r % B) * 2 ^ (r / B - 1)
theorem V_zero (B:Nat) (hB:0<B):V B 0=0:=by simp [V,hB]
theorem Fw (B:Nat) (hB:0<B) (r:Nat):V B r<V B (r+1):=by
 unfold V
 by_cases h1:r+1<B
 ·rw [if_pos (by omega),if_pos h1];omega
 ·rw [if_neg h1]
  by_cases h2:r<B
  ·have e:r+1=B:=by omega
   rw [if_pos h2,e,Nat.mod_self,Nat.div_self hB]
   simp;omega
  ·rw [if_neg h2]
   have hq:1≤r / B:=(Nat.le_div_iff_mul_le hB).2 (by omega)
   have hlt:=Nat.mod_lt r hB
   have hdm:=Nat.div_add_mod r B
   by_cases h3:r % B+1=B
   ·have e:r+1=B * (r / B+1):=by rw [Nat.mul_add];omega
    have e1:(r+1) % B=0:=by rw [e,Nat.mul_mod_right]
    have e2:(r+1) / B=r / B+1:=by rw [e,Nat.mul_div_cancel_left _ hB]
    rw [e1,e2]
    obtain⟨q,hq'⟩:∃ q,r / B=q+1:=⟨r / B - 1,by omega⟩
    rw [hq']
    have:q+1+1 - 1=q+1:=by omega
    rw [this,Nat.add_sub_cancel,Nat.pow_succ,Nat.add_zero]
    have hp:0<2 ^ q:=Nat.two_pow_pos q
    calc (B+r % B) * 2 ^ q<(B * 2) * 2 ^ q:=Nat.mul_lt_mul_of_pos_right (by omega) hp
     _=B * (2 ^ q * 2):=by rw [Nat.mul_assoc,Nat.mul_comm 2]
   ·have e:r+1=r % B+1+B * (r / B):=by omega
    have e1:(r+1) % B=r % B+1:=by rw [e,Nat.add_mul_mod_self_left,Nat.mod_eq_of_lt (by omega)]
    have e2:(r+1) / B=r / B:=by rw [e,Nat.add_mul_div_left _ _ hB,Nat.div_eq_of_lt (by omega),Nat.zero_add]
    rw [e1,e2]
    exact Nat.mul_lt_mul_of_pos_right (by omega) (Nat.two_pow_pos _)
theorem V_lt (B:Nat) (hB:0<B) {r s:Nat} (h:r<s):V B r<V B s:=by
 induction s with
 | zero=>omega
 | succ s ih =>
  by_cases e:r=s
  ·subst e;exact Fw B hB r
  ·exact Nat.lt_trans (ih (by omega)) (Fw B hB s)
theorem xR (B:Nat) (hB:0<B) (r s:Nat):V B r<V B s↔r<s:=by
 constructor
 ·intro h
  rcases Nat.lt_trichotomy r s with h1 | h1 | h1
  ·exact h1
  ·subst h1;omega
  ·have:=V_lt B hB h1;omega
 ·exact V_lt B hB
theorem rO (B:Nat) (hB:0<B) (r s:Nat):V B r=V B s↔r=s:=by
 constructor
 ·intro h
  rcases Nat.lt_trichotomy r s with h1 | h1 | h1
  ·have:=V_lt B hB h1;omega
  ·exact h1
  ·have:=V_lt B hB h1;omega
 ·intro h;rw [h]
def sg (neg:Bool) (n:Nat):Int:=if neg then -(n:Int) else n
theorem uS {x y x' y':Int} (h1:x<y↔x'<y') (h2:x=y↔x'=y'):compare x y=compare x' y':=by
 show compareOfLessAndEq x y=compareOfLessAndEq x' y'
 unfold compareOfLessAndEq
 by_cases a:x<y
 ·rw [if_pos a,if_pos (h1.1 a)]
 ·rw [if_neg a,if_neg (fun h=>a (h1.2 h))]
  by_cases b:x=y
  ·rw [if_pos b,if_pos (h2.1 b)]
  ·rw [if_neg b,if_neg (fun h=>b (h2.2 h))]
theorem cmp_sg (B:Nat) (hB:0<B) (s t:Bool) (r q:Nat):compare (sg s (V B r)) (sg t (V B q))=compare (sg s r) (sg t q):=by
 have h0:=V_zero B hB
 have hr:V B r=0↔r=0:=by have:=rO B hB r 0;rw [h0] at this;exact this
 have hq:V B q=0↔q=0:=by have:=rO B hB q 0;rw [h0] at this;exact this
 have h1:=xR B hB r q
 have h2:=xR B hB q r
 have h3:=rO B hB r q
 apply uS <;> cases s <;> cases t <;> simp only [sg,if_true,Bool.false_eq_true,if_false] <;> omega
theorem tZ (s:Bool) (m u k:Nat):Ieee.signed s m u * ((2 ^ k:Nat):Int)=sg s (m * 2 ^ (u+k)):=by
 unfold Ieee.signed sg
 rw [Nat.shiftLeft_eq,Nat.pow_add,← Nat.mul_assoc]
 cases s
 ·simp only [Bool.false_eq_true,if_false];rw [← Int.natCast_mul]
 ·simp only [if_true];rw [Int.neg_mul,← Int.natCast_mul]
theorem uF (B:Nat) (hB:0<B) (lp:Int) (s t:Bool) (m n r q:Nat) (i j:Int) (hi:lp≤i) (hj:lp≤j)
  (hm:m * 2 ^ (i - lp).toNat=V B r) (hn:n * 2 ^ (j - lp).toNat=V B q) :
  (Ieee.Datum.number s m i).order (.number t n j)=some (compare (sg s r) (sg t q)):=by
 show some (compare (Ieee.signed s m (i - min i j).toNat) (Ieee.signed t n (j - min i j).toNat))=_
 congr 1
 rw [← cmp_sg B hB s t r q,← hm,← hn]
 have e1:(i - lp).toNat=(i - min i j).toNat+(min i j - lp).toNat:=by omega
 have e2:(j - lp).toNat=(j - min i j).toNat+(min i j - lp).toNat:=by omega
 rw [e1,e2,← tZ,← tZ]
 have hp:(0:Int)<((2 ^ (min i j - lp).toNat:Nat):Int):=by
  have:=Nat.two_pow_pos (min i j - lp).toNat;omega
 exact uS ⟨fun h=>Int.mul_lt_mul_of_pos_right h hp,fun h=>Int.lt_of_mul_lt_mul_right h (Int.le_of_lt hp)⟩
  ⟨fun h=>by rw [h],fun h=>Int.eq_of_mul_eq_mul_right (by omega) h⟩
theorem kD (f:Ieee.Format) (w:Nat) (h:w % f.signWeight<f.infRung) :
  ∃ m i,f.read w=.number (w / f.signWeight % 2==1) m i∧f.leastPlace≤i∧m * 2 ^ (i - f.leastPlace).toNat=V f.binade (w % f.signWeight):=by
 unfold Ieee.Format.read V
 by_cases h1:w % f.signWeight<f.binade
 ·refine⟨w % f.signWeight,f.leastPlace,?_,Int.le_refl _,?_⟩
  ·simp only [if_pos h1]
  ·rw [if_pos h1,Int.sub_self];simp
 ·refine⟨f.binade+w % f.signWeight % f.binade,f.leastPlace+((w % f.signWeight / f.binade - 1:Nat):Int),?_,by omega,?_⟩
  ·simp only [if_neg h1,if_pos h]
  ·rw [if_neg h1];congr 2;omega
theorem pF (f:Ieee.Format) (w:Nat) (hb:f.binade≤f.infRung) (h:w % f.signWeight=f.infRung):f.read w=.infinity (w / f.signWeight % 2==1):=by
 unfold Ieee.Format.read
 simp only [h,if_neg (Nat.not_lt.2 hb),if_neg (Nat.lt_irrefl _),if_true]
theorem tJ (f:Ieee.Format) (w:Nat) (hb:f.binade≤f.infRung) (h:f.infRung<w % f.signWeight):∃ n t,f.read w=.nan n t:=by
 unfold Ieee.Format.read
 refine⟨w / f.signWeight % 2==1,w % f.signWeight - f.infRung,?_⟩
 simp only [if_neg (show ¬ w % f.signWeight<f.binade by omega),if_neg (show ¬ w % f.signWeight<f.infRung by omega),if_neg (show ¬ w % f.signWeight=f.infRung by omega)]
theorem tu (f:Ieee.Format) (a b:Nat) (hb:f.binade≤f.infRung) (h:f.infRung<a % f.signWeight):f.order a b=none:=by
 unfold Ieee.Format.order
 obtain⟨n,t,e⟩:=tJ f a hb h
 rw [e];rfl
theorem q8 (f:Ieee.Format) (a b:Nat) (hb:f.binade≤f.infRung) (h:f.infRung<b % f.signWeight):f.order a b=none:=by
 unfold Ieee.Format.order
 obtain⟨n,t,e⟩:=tJ f b hb h
 rw [e]
 cases f.read a <;> rfl
theorem yX (f:Ieee.Format) (a b:Nat) (hB:0<f.binade) (hb:f.binade≤f.infRung) (ha:a % f.signWeight≤f.infRung) (hc:b % f.signWeight≤f.infRung) :
  f.order a b=some (compare (sg (a / f.signWeight % 2==1) (a % f.signWeight)) (sg (b / f.signWeight % 2==1) (b % f.signWeight))):=by
 unfold Ieee.Format.order
 rcases Nat.lt_or_eq_of_le ha with h1 | h1 <;> rcases Nat.lt_or_eq_of_le hc with h2 | h2
 ·obtain⟨m,i,e1,e2,e3⟩:=kD f a h1
  obtain⟨n,j,e4,e5,e6⟩:=kD f b h2
  rw [e1,e4]
  exact uF f.binade hB f.leastPlace _ _ m n _ _ i j e2 e5 e3 e6
 ·obtain⟨m,i,e1,e2,e3⟩:=kD f a h1
  rw [e1,pF f b hb h2]
  generalize (a / f.signWeight % 2==1)=s
  generalize (b / f.signWeight % 2==1)=t
  show some (if t then Ordering.gt else .lt)=_
  congr 1
  show _=compareOfLessAndEq _ _
  unfold compareOfLessAndEq
  rw [h2]
  cases s <;> cases t <;> simp only [sg,if_true,Bool.false_eq_true,if_false]
  ·rw [if_pos (by omega)]
  ·rw [if_neg (by omega),if_neg (by omega)]
  ·rw [if_pos (by omega)]
  ·rw [if_neg (by omega),if_neg (by omega)]
 ·obtain⟨n,j,e4,e5,e6⟩:=kD f b h2
  rw [e4,pF f a hb h1]
  generalize (a / f.signWeight % 2==1)=s
  generalize (b / f.signWeight % 2==1)=t
  show some (if s then Ordering.lt else .gt)=_
  congr 1
  show _=compareOfLessAndEq _ _
  unfold compareOfLessAndEq
  rw [h1]
  cases s <;> cases t <;> simp only [sg,if_true,Bool.false_eq_true,if_false]
  ·rw [if_neg (by omega),if_neg (by omega)]
  ·rw [if_neg (by omega),if_neg (by omega)]
  ·rw [if_pos (by omega)]
  ·rw [if_pos (by omega)]
 ·rw [pF f a hb h1,pF f b hb h2]
  generalize (a / f.signWeight % 2==1)=s
  generalize (b / f.signWeight % 2==1)=t
  show some (compare t.toNat s.toNat)=_
  congr 1
  rw [h1,h2]
  have hp:0<f.infRung:=by omega
  show _=compareOfLessAndEq _ _
  unfold compareOfLessAndEq
  cases s <;> cases t <;> simp only [sg,if_true,Bool.false_eq_true,if_false,Bool.toNat_true,Bool.toNat_false]
  ·rw [if_neg (by omega)];rfl
  ·rw [if_neg (by omega),if_neg (by omega)];rfl
  ·rw [if_pos (by omega)];rfl
  ·rw [if_neg (by omega)];rfl
def inf:Nat:=9218868437227405312
def two63:Nat:=9223372036854775808
def ig:Nat:=9221120237041090561
theorem sK:inf=9218868437227405312:=rfl
theorem j3:two63=9223372036854775808:=rfl
theorem oN:FloatKind.f64.format.infRung=inf:=by decide +kernel
theorem qg:FloatKind.f64.format.signWeight=two63:=by decide +kernel
theorem AB:0<FloatKind.f64.format.binade:=Nat.two_pow_pos _
theorem wF:FloatKind.f64.format.binade≤FloatKind.f64.format.infRung:=by decide +kernel
def I (b:Nat):Int:=b
def W (n:Int):Nat:=n.toNat
theorem I_eq (b:Nat):I b=b:=rfl
def dw (b:Nat):Bool:=decide (inf<b % two63)
def sv (b:Nat):Int:=if b / two63 % 2=1 then -((b % two63:Nat):Int) else ((b % two63:Nat):Int)
theorem sv_eq (b:Nat):sv b=sg (b / two63 % 2==1) (b % two63):=by
 unfold sv sg
 by_cases h:b / two63 % 2=1
 ·rw [if_pos h,if_pos (by simp [h])]
 ·rw [if_neg h,if_neg (by simp [h])]
theorem jG {a:Nat} (h:dw a=true) (b:Nat):FloatKind.f64.format.order a b=none :=
 tu _ a b wF (by rw [oN,qg];exact of_decide_eq_true h)
theorem jg (a:Nat) {b:Nat} (h:dw b=true):FloatKind.f64.format.order a b=none :=
 q8 _ a b wF (by rw [oN,qg];exact of_decide_eq_true h)
theorem ol {a b:Nat} (ha:dw a=false) (hb:dw b=false):FloatKind.f64.format.order a b=some (compare (sv a) (sv b)):=by
 have h1:¬ inf<a % two63:=of_decide_eq_false ha
 have h2:¬ inf<b % two63:=of_decide_eq_false hb
 rw [yX _ a b AB wF (by rw [oN,qg];omega) (by rw [oN,qg];omega),qg,sv_eq,sv_eq]
theorem cmp_lt (x y:Int):(some (compare x y)==some Ordering.lt)=decide (x<y):=by
 show (some (compareOfLessAndEq x y)==some Ordering.lt)=_
 unfold compareOfLessAndEq
 by_cases h:x<y
 ·rw [if_pos h];simp [h]
 ·rw [if_neg h]
  by_cases e:x=y
  ·rw [if_pos e];simp [h]
  ·rw [if_neg e];simp [h]
theorem cmp_eq (x y:Int):(some (compare x y)==some Ordering.eq)=decide (x=y):=by
 show (some (compareOfLessAndEq x y)==some Ordering.eq)=_
 unfold compareOfLessAndEq
 by_cases h:x<y
 ·rw [if_pos h];simp;omega
 ·rw [if_neg h]
  by_cases e:x=y
  ·rw [if_pos e];simp [e]
  ·rw [if_neg e];simp [e]
theorem cmp_gt (x y:Int):(some (compare x y)==some Ordering.gt)=decide (y<x):=by
 show (some (compareOfLessAndEq x y)==some Ordering.gt)=_
 unfold compareOfLessAndEq
 by_cases h:x<y
 ·rw [if_pos h];simp;omega
 ·rw [if_neg h]
  by_cases e:x=y
  ·rw [if_pos e];simp;omega
  ·rw [if_neg e];simp;omega
def sV (a b:Nat):Bool:=!dw a && !dw b && decide (sv a<sv b)
def nO (a b:Nat):Bool:=!dw a && !dw b && decide (sv a=sv b)
theorem Im (a b:Nat):(FloatKind.f64.format.order a b==some .lt)=sV a b:=by
 unfold sV
 cases ha:dw a
 ·cases hb:dw b
  ·rw [ol ha hb,cmp_lt];simp
  ·rw [jg a hb];rfl
 ·rw [jG ha];rfl
theorem yV (a b:Nat):(FloatKind.f64.format.order a b==some .eq)=nO a b:=by
 unfold nO
 cases ha:dw a
 ·cases hb:dw b
  ·rw [ol ha hb,cmp_eq];simp
  ·rw [jg a hb];rfl
 ·rw [jG ha];rfl
theorem Io (a b:Nat):(FloatKind.f64.format.order a b != some .eq)=!nO a b:=by
 rw [← yV];rfl
theorem Il (a b:Nat):(FloatKind.f64.format.order a b==some .gt)=sV b a:=by
 unfold sV
 cases ha:dw a
 ·cases hb:dw b
  ·rw [ol ha hb,cmp_gt];simp
  ·rw [jg a hb];rfl
 ·rw [jG ha];cases dw b <;> rfl
theorem Gr (a:Nat):nO a a=!dw a:=by unfold nO;cases dw a <;> simp
def uB (b:Nat):Int:=if dw b=true then 0 else if sv b=-inf then 1 else if sv b<0 then 2 else if sv b=0 then 3 else if sv b<inf then 4 else 5
def canon (b:Nat):Nat:=if dw b=true then ig else if sv b=0 then 0 else b
def key (b:Nat):Int:=if dw b=true then 0 else if sv b<0 then two63 - 1+sv b else two63+sv b
theorem gB {b:Nat} (h:dw b=false):-(inf:Int)≤sv b∧sv b≤inf:=by
 have h1:¬ inf<b % two63:=of_decide_eq_false h
 unfold sv;split <;> omega
theorem Db (b:Nat):(b ^^^ 2 ^ 63) % 2 ^ 63=b % 2 ^ 63:=by
 rw [Nat.xor_mod_two_pow,Nat.mod_self,Nat.xor_zero]
theorem xor_div (b:Nat):(b ^^^ 2 ^ 63) / 2 ^ 63 % 2=1 - b / 2 ^ 63 % 2:=by
 rw [Nat.xor_div_two_pow,Nat.div_self (Nat.two_pow_pos _)]
 have h:=Nat.xor_mod_two_pow (a:=b / 2 ^ 63) (b:=1) (n:=1)
 rw [Nat.pow_one] at h
 rw [h]
 have:=Nat.mod_lt (b / 2 ^ 63) (show 0<2 by omega)
 have e:b / 2 ^ 63 % 2=0∨b / 2 ^ 63 % 2=1:=by omega
 rcases e with e | e <;> rw [e] <;> rfl
theorem vP:two63=2 ^ 63:=by decide +kernel
theorem Cn (b:Nat):dw (Op.negFloat .f64 b)=dw b:=by
 unfold dw
 have e:Op.negFloat .f64 b=b ^^^ 2 ^ 63:=rfl
 rw [e,vP,Db]
theorem sv_neg (b:Nat):sv (Op.negFloat .f64 b)=- sv b:=by
 unfold sv
 have e:Op.negFloat .f64 b=b ^^^ 2 ^ 63:=rfl
 rw [e,vP,Db,xor_div]
 have:=Nat.mod_lt (b / 2 ^ 63) (show 0<2 by omega)
 have e:b / 2 ^ 63 % 2=0∨b / 2 ^ 63 % 2=1:=by omega
 rcases e with e | e <;> rw [e] <;> simp
theorem Bw {b:Nat} (h:b<two63):sv b=b:=by
 unfold sv;rw [if_neg (by rw [Nat.div_eq_of_lt h];omega),Nat.mod_eq_of_lt h]
theorem Jj {b:Nat} (h:two63≤b) (h2:b<2 * two63):sv b=two63 - b:=by
 unfold two63 at *;unfold sv;rw [if_pos (by unfold two63;omega)];unfold two63;omega
theorem isN_pos {b:Nat} (h:b<two63):dw b=decide (inf<b):=by
 unfold dw;rw [Nat.mod_eq_of_lt h]
theorem o9 {a b:Nat} (ha:dw a=false) (hb:dw b=false):sV a b=decide (sv a<sv b):=by unfold sV;rw [ha,hb];simp
theorem eqB_yes {a b:Nat} (ha:dw a=false) (hb:dw b=false):nO a b=decide (sv a=sv b):=by unfold nO;rw [ha,hb];simp
theorem wW {a:Nat} (ha:dw a=true) (b:Nat):sV a b=false:=by unfold sV;rw [ha];simp
theorem nR (a:Nat) {b:Nat} (hb:dw b=true):sV a b=false:=by unfold sV;rw [hb];simp
theorem xE:sv 0=0:=by rw [Bw (by unfold two63;omega)];rfl
theorem sP:dw 0=false:=by rw [isN_pos (by unfold two63;omega)];rfl
theorem Cm:dw 9218868437227405311=false:=by decide +kernel
theorem isN_low:dw 18442240474082181119=false:=by decide +kernel
theorem Ji:sv 9218868437227405311=inf - 1:=by decide +kernel
theorem sv_low:sv 18442240474082181119=-(inf:Int)+1:=by decide +kernel
def yB (b:Nat):Bool:=!dw b && decide (sv b=inf)
def uE (b:Nat):Bool:=!dw b && decide (sv b=-(inf:Int))
theorem Cv (b:Nat):sV 9218868437227405311 b=yB b:=by
 unfold yB
 cases h:dw b
 ·rw [o9 Cm h,Ji]
  have:=gB h
  simp only [Bool.not_false,Bool.true_and,decide_eq_decide];omega
 ·rw [nR _ h];rfl
theorem yP (b:Nat):sV 9218868437227405311 (Op.negFloat .f64 b)=uE b:=by
 unfold uE
 cases h:dw b
 ·rw [o9 Cm (by rw [Cn,h]),Ji,sv_neg]
  have:=gB h
  simp only [Bool.not_false,Bool.true_and,decide_eq_decide];omega
 ·rw [nR _ (by rw [Cn,h])];rfl
theorem ltB_low (b:Nat):sV b 18442240474082181119=uE b:=by
 unfold uE
 cases h:dw b
 ·rw [o9 h isN_low,sv_low]
  have:=gB h
  simp only [Bool.not_false,Bool.true_and,decide_eq_decide];omega
 ·rw [wW h];rfl
theorem mq {b:Nat} (h:dw b=false):sV b 0=decide (sv b<0):=by rw [o9 h sP,xE]
theorem nS {b:Nat} (h:dw b=false):sV 0 b=decide (0<sv b):=by rw [o9 sP h,xE]
theorem yl {b:Nat} (h:dw b=false):nO b 0=decide (sv b=0):=by rw [eqB_yes h sP,xE]
theorem cls_nan {b:Nat} (h:dw b=true):uB b=0:=by unfold uB;rw [if_pos h]
theorem Dy {b:Nat} (h:uE b=true):uB b=1:=by
 unfold uE at h;simp at h;unfold uB;rw [if_neg (by simp [h.1]),if_pos h.2]
theorem Dx {b:Nat} (h:yB b=true):uB b=5:=by
 unfold yB at h;simp at h
 have hp:(0:Int)<inf:=by decide +kernel
 unfold uB;rw [if_neg (by simp [h.1]),if_neg (by omega),if_neg (by omega),if_neg (by omega),if_neg (by omega)]
theorem Dz {b:Nat} (h0:dw b=false) (h1:uE b=false) (h:sV b 0=true):uB b=2:=by
 rw [mq h0] at h
 unfold uE at h1;simp [h0] at h1 h
 unfold uB;rw [if_neg (by simp [h0]),if_neg h1,if_pos h]
theorem Ay {b:Nat} (h0:dw b=false) (h1:sV b 0=false) (h:sV 0 b=false):uB b=3:=by
 rw [mq h0] at h1
 rw [nS h0] at h
 simp at h1 h
 have hp:(0:Int)<inf:=by decide +kernel
 unfold uB;rw [if_neg (by simp [h0]),if_neg (by omega),if_neg (by omega),if_pos (by omega)]
theorem F6 {b:Nat} (h0:dw b=false) (h1:yB b=false) (h:0<sv b):uB b=4:=by
 have bd:=gB h0
 unfold yB at h1;simp [h0] at h1
 unfold uB;rw [if_neg (by simp [h0]),if_neg (by omega),if_neg (by omega),if_neg (by omega),if_pos (by omega)]
theorem pos_of {b:Nat} (h0:dw b=false) (h:sV 0 b=true):0<sv b:=by
 rw [nS h0] at h;simpa using h
theorem oL (b:Nat):(uB b==0)=dw b:=by
 unfold uB
 cases dw b
 ·simp;repeat' split
  all_goals decide
 ·simp
theorem uR {b:Nat} (h0:dw b=false):(uB b==3)=decide (sv b=0):=by
 have hp:(0:Int)<inf:=by decide +kernel
 unfold uB
 rw [h0]
 by_cases h:sv b=0
 ·simp [h];omega
 ·simp [h];repeat' split
  all_goals decide
theorem p_ {b:Nat} (h:dw b=true):canon b=ig:=by unfold canon;rw [if_pos h]
theorem nY {b:Nat} (h0:dw b=false) (h:sv b=0):canon b=0:=by unfold canon;rw [if_neg (by simp [h0]),if_pos h]
theorem kV {b:Nat} (h0:dw b=false) (h:¬ sv b=0):canon b=b:=by unfold canon;rw [if_neg (by simp [h0]),if_neg h]
theorem rY {b:Nat} (h:b<18446744073709551616):canon b<18446744073709551616:=by
 unfold canon;split
 ·decide +kernel
 ·split <;> omega
theorem rX {b:Nat} (hb:b<18446744073709551616) (h:dw b=false) (hs:0≤sv b):I (canon b)=sv b:=by
 unfold I
 by_cases e:sv b=0
 ·rw [nY h e,e];rfl
 ·rw [kV h e]
  by_cases l:b<two63
  ·rw [Bw l]
  ·have:=Jj (b:=b) (by omega) (by unfold two63;omega);omega
theorem qa {b:Nat} (hb:b<18446744073709551616) (h:dw b=false) (hs:sv b<0):I (canon b)=two63 - sv b:=by
 unfold I
 rw [kV h (by omega)]
 by_cases l:b<two63
 ·have:=Bw l;omega
 ·have:=Jj (b:=b) (by omega) (by unfold two63;omega);omega
theorem wU {b:Nat} (h:dw b=true):key b=0:=by unfold key;rw [if_pos h]
theorem Hg {b:Nat} (h:dw b=false) (hs:0≤sv b):key b=two63+sv b:=by
 unfold key;rw [if_neg (by simp [h]),if_neg (by omega)]
theorem Cq {b:Nat} (h:dw b=false) (hs:sv b<0):key b=two63 - 1+sv b:=by
 unfold key;rw [if_neg (by simp [h]),if_pos hs]
theorem wrap_u64 (n:Int):IntKind.u64.wrap n=n % 18446744073709551616:=by simp [IntKind.wrap,IntKind.bits,IntKind.signed]
theorem Du {b:Nat} (hb:b<18446744073709551616) (h:dw b=false) (hs:0≤sv b):decide (I (canon b)<9223372036854775808)=true:=by
 have:=rX hb h hs;have:=gB h;have:=sK;simp;omega
theorem Ao {b:Nat} (hb:b<18446744073709551616) (h:dw b=false) (hs:¬ 0≤sv b):decide (I (canon b)<9223372036854775808)=false:=by
 have:=qa hb h (by omega);have:=j3;simp;omega
theorem Ap {b:Nat} (hb:b<18446744073709551616) (h:dw b=false) (hs:0≤sv b):(I (canon b) / 9223372036854775808==0)=true:=by
 have:=rX hb h hs;have:=gB h;have:=sK;simp;omega
theorem xU {b:Nat} (hb:b<18446744073709551616) (h:dw b=false) (hs:¬ 0≤sv b):(I (canon b) / 9223372036854775808==0)=false:=by
 have:=qa hb h (by omega);have:=j3;simp;omega
theorem sS {b:Nat} (hb:b<18446744073709551616) (h:dw b=false) (hs:0≤sv b):IntKind.u64.wrap (I (canon b)+9223372036854775808)=key b:=by
 have:=rX hb h hs;have:=gB h;have:=sK;have:=j3
 rw [Hg h hs,wrap_u64];omega
theorem qL {b:Nat} (hb:b<18446744073709551616) (h:dw b=false) (hs:¬ 0≤sv b):IntKind.u64.wrap (18446744073709551615 - I (canon b))=key b:=by
 have:=qa hb h (by omega);have:=gB h;have:=sK;have:=j3
 rw [Cq h (by omega),wrap_u64];omega
def pl (b:Nat):Int:=if dw b=true then -(inf:Int) - 1 else sv b
def lt (a b:Nat):Bool:=decide (key a<key b)
def same (a b:Nat):Bool:=key a==key b
theorem Ir {b:Nat} (h:dw b=true):pl b=-(inf:Int) - 1:=by unfold pl;rw [if_pos h]
theorem Iu {b:Nat} (h:dw b=false):pl b=sv b:=by unfold pl;rw [if_neg (by simp [h])]
theorem yZ (b:Nat):-(inf:Int) - 1≤pl b∧pl b≤inf:=by
 cases h:dw b
 ·rw [Iu h];have:=gB h;omega
 ·rw [Ir h];omega
def kp (p:Int):Int:=if p=-(inf:Int) - 1 then 0 else if p<0 then two63 - 1+p else two63+p
theorem Hl (b:Nat):key b=kp (pl b):=by
 cases h:dw b
 ·have:=gB h
  rw [Iu h];unfold kp;rw [if_neg (by omega)]
  by_cases hs:0≤sv b
  ·rw [Hg h hs,if_neg (by omega)]
  ·rw [Cq h (by omega),if_pos (by omega)]
 ·rw [wU h,Ir h];unfold kp;rw [if_pos rfl]
theorem kp_lt {p q:Int} (hp:-(inf:Int) - 1≤p) (hq:-(inf:Int) - 1≤q):kp p<kp q↔p<q:=by
 have:=sK;have:=j3
 unfold kp
 by_cases a1:p=-(inf:Int) - 1 <;> by_cases a2:p<0 <;> by_cases b1:q=-(inf:Int) - 1 <;> by_cases b2:q<0 <;> simp only [a1,a2,b1,b2,if_true,if_false] <;> omega
theorem wT (a b:Nat):key a<key b↔pl a<pl b:=by
 rw [Hl,Hl];exact kp_lt (yZ a).1 (yZ b).1
theorem key_eq (a b:Nat):key a=key b↔pl a=pl b:=by
 have h1:=wT a b;have h2:=wT b a;omega
theorem rE {a b:Nat}:lt a b=true↔pl a<pl b:=by unfold lt;rw [decide_eq_true_iff,wT]
theorem Ht {a b:Nat}:lt a b=false↔pl b≤pl a:=by unfold lt;rw [decide_eq_false_iff_not,wT];omega
theorem EG {a b:Nat}:same a b=true↔pl a=pl b:=by unfold same;rw [beq_iff_eq,key_eq]
end Fl
end
end Go.Proofs.YtcedlgedmkghgaaGreat
