import Derived.Test.YtmcfknnfaokmlaaGreatZ2
import Derived.Test.YtmcfknnfaokmlaaGreatZ1
import Derived.Test.YtmcfknnfaokmlaaGreatRows
import Derived.Below
import Derived.Deep.Slices
import Derived.Laws.ShiftsVarLaws
import Derived.Laws.BitsAllLaws
namespace Go.Proofs.YtmcfknnfaokmlaaGreat
set_option maxHeartbeats 16000000
open Go.Lib Go.Proofs.Tryz
set_option linter.unusedSimpArgs false
set_option maxRecDepth 100000
section
section
namespace Crc
def pol:Nat:=79764919
def tick (c:Nat):Nat:=if c / 2147483648=1 then (c * 2 % 4294967296) ^^^ pol else c * 2 % 4294967296
def kM:Nat→Nat→Nat
 | 0,c=>c
 | n+1,c=>kM n (tick c)
def step (c x:Nat):Nat:=kM 8 (c ^^^ (x * 16777216))
def more (c:Nat) (l:List UInt8):Nat:=l.foldl (fun c x=>step c x.toNat) c
def sum (l:List UInt8):Nat:=more 4294967295 l
theorem tick_lt (c:Nat):tick c<4294967296:=by
 unfold tick
 split
 ·exact Nat.xor_lt_two_pow (n:=32) (Nat.mod_lt _ (by decide)) (by decide)
 ·exact Nat.mod_lt _ (by decide)
theorem wL {n c:Nat} (h:c<4294967296):kM n c<4294967296:=by
 induction n generalizing c with
 | zero=>exact h
 | succ n ih=>exact ih (tick_lt c)
theorem lm (n c:Nat):kM (n+1) c=tick (kM n c):=by
 induction n generalizing c with
 | zero=>rfl
 | succ n ih=>rw [kM,ih];rfl
theorem yM {c x:Nat} (h:c<4294967296) (hx:x<256):c ^^^ (x * 16777216)<4294967296 :=
 Nat.xor_lt_two_pow (n:=32) h (by omega)
theorem step_lt {c x:Nat} (h:c<4294967296) (hx:x<256):step c x<4294967296:=wL (yM h hx)
theorem tV {c:Nat} (h:c<4294967296) (l:List UInt8):more c l<4294967296:=by
 induction l generalizing c with
 | nil=>exact h
 | cons x l ih=>exact ih (step_lt h x.toNat_lt)
theorem z_ (c:Nat) (a:List UInt8) (x:UInt8):more c (a++[x])=step (more c a) x.toNat:=by simp [more]
def bit (c x i:Nat):Nat:=(x / 2 ^ i % 2) ^^^ (c / 2147483648)
def push (c x i:Nat):Nat:=if bit c x i=1 then (c * 2 % 4294967296) ^^^ pol else c * 2 % 4294967296
def pushes (c x:Nat):Nat→Nat
 | 0=>c
 | n+1=>push (pushes c x n) x (7 - n)
theorem top (c:Nat) (h:c<4294967296):c / 2147483648=(c.testBit 31).toNat:=by
 rw [Nat.testBit_eq_decide_div_mod_eq]
 have:c / 2 ^ 31=c / 2147483648:=rfl
 rw [this]
 by_cases q:c / 2147483648 % 2=1
 ·simp [q];omega
 ·simp [q];omega
theorem AP (a b:Nat):(a ^^^ b) * 2 % 4294967296=(a * 2 % 4294967296) ^^^ (b * 2 % 4294967296):=by
 have e:∀ n:Nat,n * 2 % 4294967296=(n <<< 1) % 2 ^ 32:=fun n=>by rw [Nat.shiftLeft_eq]
 rw [e,e,e,Nat.shiftLeft_xor_distrib,Nat.xor_mod_two_pow]
def rest (x n:Nat):Nat:=x * 2 ^ (24+n) % 4294967296
theorem Az (x n:Nat):rest x (n+1)=rest x n * 2 % 4294967296:=by
 unfold rest
 rw [show 24+(n+1)=(24+n)+1 by omega,Nat.pow_succ,← Nat.mul_assoc]
 omega
theorem DN {x n:Nat} (hn:n<8):rest x n / 2147483648=x / 2 ^ (7 - n) % 2:=by
 unfold rest
 have hn':n=0∨n=1∨n=2∨n=3∨n=4∨n=5∨n=6∨n=7:=by omega
 rcases hn' with rfl | rfl | rfl | rfl | rfl | rfl | rfl | rfl <;> simp <;> omega
theorem rest_end {x:Nat}:rest x 8=0:=by
 unfold rest
 simp
theorem xor_top (a b:Nat):(a ^^^ b) / 2147483648=(a / 2147483648) ^^^ (b / 2147483648):=by
 have:∀ n:Nat,n / 2147483648=n >>> 31:=fun n=>by rw [Nat.shiftRight_eq_div_pow]
 rw [this,this,this,Nat.shiftRight_xor_distrib]
theorem ng {c x:Nat} (hc:c<4294967296) (hx:x<256):∀ n,n≤8→pushes c x n ^^^ rest x n=kM n (c ^^^ (x * 16777216))∧pushes c x n<4294967296
 | 0,_=>by
  have e:rest x 0=x * 16777216:=by unfold rest;simp;omega
  exact⟨by rw [e];rfl,hc⟩
 | n+1,hn=>by
  obtain⟨ih,lt⟩:=ng hc hx n (by omega)
  have hlt2:push (pushes c x n) x (7 - n)<4294967296:=by
   unfold push
   split
   ·exact Nat.xor_lt_two_pow (n:=32) (Nat.mod_lt _ (by decide)) (by decide)
   ·exact Nat.mod_lt _ (by decide)
  refine⟨?_,hlt2⟩
  have hb:bit (pushes c x n) x (7 - n)=(kM n (c ^^^ (x * 16777216))) / 2147483648:=by
   rw [← ih,xor_top,DN (by omega)]
   unfold bit
   rw [Nat.xor_comm]
  rw [lm,Az]
  show push (pushes c x n) x (7 - n) ^^^ _=tick _
  unfold push tick
  rw [hb]
  have tw:kM n (c ^^^ x * 16777216) * 2 % 4294967296=(pushes c x n * 2 % 4294967296) ^^^ (rest x n * 2 % 4294967296):=by rw [← ih,AP]
  rw [tw]
  split
  ·rw [Nat.xor_assoc,Nat.xor_assoc,Nat.xor_comm pol]
  ·rfl
theorem vT {c x:Nat} (hc:c<4294967296) (hx:x<256):pushes c x 8=step c x:=by
 have q:=(ng hc hx 8 (by omega)).1
 rw [rest_end,Nat.xor_zero] at q
 exact q
end Crc
end
section
open Go.RowKit
namespace Crc
theorem zo (t:Nat) (ht:t<4294967296):bits .and .u32 (t:Int) 2147483648=((t / 2147483648 * 2147483648:Nat):Int):=by
 have e:=u32_and_nat t 2147483648 ht (by decide)
 rw [nat_bit31,show t / 2147483648 % 2=t / 2147483648 by omega] at e
 exact e
theorem top_yes {t:Nat} (ht:t<4294967296) (h:(bits .and .u32 (t:Int) 2147483648 != 0)=true):bits .xor .u32 ((t:Int) * 2 % 4294967296) 79764919=(tick t:Int):=by
 rw [zo t ht] at h
 have h1:t / 2147483648=1:=by
  have:t / 2147483648≠0:=by
   intro e
   rw [e] at h
   simp at h
  omega
 have e:=u32_xor_nat (t * 2 % 4294967296) 79764919 (by omega) (by decide)
 unfold tick
 rw [if_pos h1]
 exact e
theorem top_no {t:Nat} (ht:t<4294967296) (h:(bits .and .u32 (t:Int) 2147483648 != 0)=false):(t:Int) * 2 % 4294967296=(tick t:Int):=by
 rw [zo t ht] at h
 have h1:¬ t / 2147483648=1:=by
  intro e
  rw [e] at h
  simp at h
 unfold tick
 rw [if_neg h1]
 rfl
theorem Ce {c x k:Nat} (hc:c<4294967296) (hx:x<256) :
  bits .xor .u32 (bits .and .u32 ((x:Int) / 2 ^ (7 - k) % 4294967296) 1) ((c:Int) / 2147483648)=(bit c x (7 - k):Int):=by
 have l:x / 2 ^ (7 - k)≤x:=Nat.div_le_self _ _
 have e0:(x:Int) / 2 ^ (7 - k) % 4294967296=((x / 2 ^ (7 - k):Nat):Int):=by
  have q:(x:Int) / 2 ^ (7 - k)=((x / 2 ^ (7 - k):Nat):Int):=by simp
  rw [q]
  generalize x / 2 ^ (7 - k)=y at *
  omega
 have e1:=u32_and_nat (x / 2 ^ (7 - k)) 1 (by omega) (by decide)
 rw [nat_mask1] at e1
 have e2:=u32_xor_nat (x / 2 ^ (7 - k) % 2) (c / 2147483648) (by omega) (by omega)
 rw [e0]
 exact (congrArg (fun z=>bits .xor .u32 z ((c:Int) / 2147483648)) e1).trans e2
theorem Dx {c x k:Nat} (hc:c<4294967296) (hx:x<256)
  (h:(bits .xor .u32 (bits .and .u32 ((x:Int) / 2 ^ (7 - k) % 4294967296) 1) ((c:Int) / 2147483648)==1)=true):bits .xor .u32 ((c:Int) * 2 % 4294967296) 79764919=(push c x (7 - k):Int):=by
 rw [Ce hc hx] at h
 have h1:bit c x (7 - k)=1:=by simp at h;omega
 have e:=u32_xor_nat (c * 2 % 4294967296) 79764919 (by omega) (by decide)
 unfold push
 rw [if_pos h1]
 exact e
theorem push_no {c x k:Nat} (hc:c<4294967296) (hx:x<256)
  (h:(bits .xor .u32 (bits .and .u32 ((x:Int) / 2 ^ (7 - k) % 4294967296) 1) ((c:Int) / 2147483648)==1)=false):(c:Int) * 2 % 4294967296=(push c x (7 - k):Int):=by
 rw [Ce hc hx] at h
 have h1:¬ bit c x (7 - k)=1:=by simp at h;omega
 unfold push
 rw [if_neg h1]
 rfl
theorem Ao {c x k:Nat} (hc:c<4294967296) (hx:x<256) (hk:k≤8):pushes c x k<4294967296:=(ng hc hx k hk).2
end Crc
theorem zR (c x:Nat) (w:World) (hc:c<4294967296) (hx:x<256) :
  Calls prog 144 #[.int .u32 c,.int .u8 x] w fun e w'=>e=.returned (.int .u32 (Crc.step c x:Int))∧w=w':=by
 have h0:=Crc.yM hc hx
 go_enter func144,ntmps144
 go_wp2_with fail
 go_loop [0,11] (fun v i=>∃ k:Nat,k≤8∧i=.int .i64 k∧v=.int .u32 (Crc.kM k (c ^^^ (x * 16777216)):Nat)) (fun _ i=>8 - (intOf i).toNat)
 case atStart=>exact⟨0,by omega,rfl,mH (by have e:=u32_xor_nat c (x * 16777216) hc (by omega);exact e)⟩
 case round =>
  obtain⟨k,hk,rfl,rfl⟩:=hrel
  have ht:=Crc.wL (n:=k) h0
  by_cases h:k<8
  ·go_wp2
   all_goals go_round
   case rel=>exact⟨k+1,by omega,by go_num,mH (by rw [Crc.lm];exact Crc.top_yes ht (by assumption))⟩
   case measure=>simp [intOf];omega
   case rel=>exact⟨k+1,by omega,by go_num,mH (by rw [Crc.lm];exact Crc.top_no ht (by assumption))⟩
   case measure=>simp [intOf];omega
  ·obtain rfl:k=8:=by omega
   go_wp2
   go_ret
   exact⟨rfl,rfl⟩
theorem wy (c x:Nat) (w:World) (hc:c<4294967296) (hx:x<256) :
  Calls prog 101 #[.int .u32 c,.int .u8 x] w fun e w'=>e=.returned (.int .u32 (Crc.step c x:Int))∧w=w':=by
 go_enter func101,ntmps101
 go_wp2_with fail
 go_loop [0,5] (fun v i=>∃ k:Nat,k≤8∧i=.int .i64 (7 - (k:Int))∧v=.int .u32 (Crc.pushes c x k:Nat)) (fun _ i=>(intOf i+1).toNat)
 case atStart=>exact⟨0,by omega,rfl,rfl⟩
 case round =>
  obtain⟨k,hk,rfl,rfl⟩:=hrel
  have ht:=Crc.Ao hc hx hk
  by_cases h:k<8
  ·go_wp2
   all_goals go_round
   case rel=>exact⟨k+1,by omega,by go_num,mH (by exact Crc.Dx ht hx (by assumption))⟩
   case measure=>simp [intOf];omega
   case rel=>exact⟨k+1,by omega,by go_num,mH (by exact Crc.push_no ht hx (by assumption))⟩
   case measure=>simp [intOf];omega
  ·obtain rfl:k=8:=by omega
   have E:=hid (Crc.vT hc hx)
   go_wp2
   go_ret
   exact⟨uu (by rw [E.out]),rfl⟩
theorem sj (c:Nat) (l:List UInt8) (k:Nat) (h:k<l.length):Crc.more c (l.take (k+1))=Crc.step (Crc.more c (l.take k)) l[k].toNat:=by
 rw [ko (List.getElem?_eq_getElem h),Crc.z_]
theorem zQ (c:Nat) (A:Option Addr) (n cap:Nat) (l:List UInt8) (w:World) {B:Nat} {t:TypeId} (hc:c<4294967296) (hL:av w B t A (af l)) (hn:n=l.length) (hs:n≤9223372036854775807) :
  Calls prog 128 #[.int .u32 c,.slice A n cap] w fun e w'=>e=.returned (.int .u32 (Crc.more c l:Int))∧w=w':=by
 have HL:=hid hL
 have HN:=hid hn
 clear hL hn
 go_enter func128,ntmps128
 go_wp2_with fail
 go_loop [0,9] (fun v i=>∃ k:Nat,k≤n∧i=.int .i64 k∧v=.int .u32 (Crc.more c (l.take k):Nat)) (fun _ i=>n - (intOf i).toNat)
 case atStart=>exact⟨0,Nat.zero_le _,rfl,rfl⟩
 case round =>
  obtain⟨k,hk,rfl,rfl⟩:=hrel
  have ht:=Crc.tV hc (l.take k)
  by_cases h:k<n
  ·have hk':k<l.length:=by rw [← HN.out];exact h
   obtain⟨ad,rfl,hcell⟩:=HL.out.byte hk'
   have bl:=l[k].toNat_lt
   go_wp2_with (go_at_call 144;refine (zR _ _ _ (by assumption) (by assumption)).mono ?_;rintro e w' ⟨rfl,rfl⟩)
   go_round
   case rel=>exact⟨k+1,by omega,by go_num,by rw [sj c l k hk']⟩
   case measure=>simp [intOf];omega
  ·obtain rfl:k=n:=by omega
   go_wp2
   go_ret
   exact⟨uu (by rw [HN.out,List.take_length]),rfl⟩
theorem Ch (A:Option Addr) (n cap:Nat) (l:List UInt8) (w:World) {B:Nat} {t:TypeId} (hL:av w B t A (af l)) (hn:n=l.length) (hs:n≤9223372036854775807) :
  Calls prog 100 #[.slice A n cap] w fun e w'=>e=.returned (.int .u32 (Crc.sum l:Int))∧w=w':=by
 have HL:=hid hL
 have HN:=hid hn
 clear hL hn
 go_enter func100,ntmps100
 go_wp2_with (go_at_call 128;refine (zQ 4294967295 _ _ _ l _ (by decide) HL.out HN.out hs).mono ?_;rintro e w' ⟨rfl,rfl⟩)
 go_ret
 exact⟨rfl,rfl⟩
theorem x_ (A:Option Addr) (n cap:Nat) (l:List UInt8) (w:World) {B:Nat} {t:TypeId} (hL:av w B t A (af l)) (hn:n=l.length) (hs:n≤9223372036854775807) :
  Calls prog 64 #[.slice A n cap] w fun e w'=>e=.returned (.int .u32 (Crc.sum l:Int))∧w=w':=by
 have HL:=hid hL
 have HN:=hid hn
 clear hL hn
 go_enter func64,ntmps64
 go_wp2_with fail
 go_loop [3,8] (fun v i=>∃ k:Nat,k≤n∧i=.int .i64 k∧v=.int .u32 (Crc.more 4294967295 (l.take k):Nat)) (fun _ i=>n - (intOf i).toNat)
 case atStart=>exact⟨0,Nat.zero_le _,rfl,rfl⟩
 case round =>
  obtain⟨k,hk,rfl,rfl⟩:=hrel
  have ht:=Crc.tV (c:=4294967295) (by decide) (l.take k)
  by_cases h:k<n
  ·have hk':k<l.length:=by rw [← HN.out];exact h
   obtain⟨ad,rfl,hcell⟩:=HL.out.byte hk'
   have bl:=l[k].toNat_lt
   go_wp2_with (go_at_call 101;refine (wy _ _ _ (by assumption) (by assumption)).mono ?_;rintro e w' ⟨rfl,rfl⟩)
   go_round
   case rel=>exact⟨k+1,by omega,by go_num,by rw [sj 4294967295 l k hk']⟩
   case measure=>simp [intOf];omega
  ·obtain rfl:k=n:=by omega
   go_wp2
   go_ret
   exact⟨uu (by rw [HN.out,List.take_length];rfl),rfl⟩
end
end
end Go.Proofs.YtmcfknnfaokmlaaGreat
