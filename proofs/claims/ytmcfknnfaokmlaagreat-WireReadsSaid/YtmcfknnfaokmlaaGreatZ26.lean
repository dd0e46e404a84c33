import Derived.Test.YtmcfknnfaokmlaaGreatZ25
import Derived.Test.YtmcfknnfaokmlaaGreatZ2
import Derived.Test.YtmcfknnfaokmlaaGreatZ3
import Derived.Deep.RegionHeld3
import Derived.Deep.QuietTactic
import Derived.BigQuiet
import Derived.IntWalk
import Derived.WalkSpells
namespace Go.Proofs.YtmcfknnfaokmlaaGreat
set_option maxHeartbeats 16000000
open Go.Lib Go.Proofs.Tryz
set_option linter.unusedSimpArgs false
set_option maxRecDepth 100000
section
section
namespace Fr
def inner (b:List UInt8):List UInt8:=Cd.fix b.length 2++b
def frame (b:List UInt8):List UInt8:=165 :: (inner b++Cd.fix (Crc.sum (inner b)) 4)
def long (c:List UInt8):Nat:=(c.getD 1 0).toNat * 256+(c.getD 2 0).toNat
def body (c:List UInt8):List UInt8:=(c.drop 3).take (long c)
def kN (c:List UInt8):Option (List UInt8) :=
 if 7+long c≤c.length∧long c≤60000∧frame (body c)=c.take (7+long c) then some (body c) else none
theorem jU (b:List UInt8):(inner b).length=b.length+2:=by unfold inner;rw [List.length_append,Cd.aC];omega
theorem mW (b:List UInt8):(frame b).length=7+b.length:=by
 unfold frame
 rw [List.length_cons,List.length_append,jU,Cd.aC]
 omega
theorem sum_lt (l:List UInt8):Crc.sum l<4294967296:=Crc.tV (by decide) l
theorem fix2 (n:Nat):Cd.fix n 2=[Cd.iP n 1,Cd.iP n 0]:=rfl
theorem pJ {b:List UInt8} (h:b.length≤60000) (t:List UInt8):long (frame b++t)=b.length:=by
 unfold long frame inner
 rw [fix2]
 simp only [List.cons_append,List.append_assoc,List.nil_append,List.getD_cons_succ,List.getD_cons_zero]
 rw [Cd.fq,Cd.fq]
 omega
theorem xy {b:List UInt8} (h:b.length≤60000) (t:List UInt8):body (frame b++t)=b:=by
 unfold body
 rw [pJ h]
 unfold frame inner
 rw [fix2]
 simp
theorem g_ {c b:List UInt8} (h:kN c=some b):c=frame b++c.drop (7+b.length)∧b.length≤60000∧7+b.length≤c.length:=by
 unfold kN at h
 split at h
 ·rename_i q
  obtain⟨q1,q2,q3⟩:=q
  injection h with h
  have e:b.length=long c:=by
   rw [← h]
   unfold body
   rw [List.length_take,List.length_drop]
   omega
  rw [h] at q3
  refine⟨?_,by omega,by omega⟩
  rw [e,q3,List.take_append_drop]
 ·cases h
end Fr
open Go.RowKit
theorem sum_nat (l:List UInt8):((Crc.sum l:Int)).toNat=Crc.sum l:=Int.toNat_natCast _
theorem kY {A:Option Addr} {n c:Nat} {b:List UInt8} {w:World} {B:Nat} {t:TypeId} (hL:av w B t A (af b)) (hn:n=b.length) (hs:n≤60000) :
  Calls prog 26 #[.slice A n c] w (sF w.heap.size (Fr.frame b) w):=by
 have HL:=hid (hL.old (t':=0))
 have HN:=hid hn
 clear hL hn
 obtain⟨ti,hi,Bf,Bg,Bh⟩:=info_parts Tryz.infoU8
 go_enter func26,ntmps26
 go_wp2_with fail
 refine (oD (B:=w.heap.size) (l:=[]) (k:=2) rfl (World.ownsRow_nil _ _ _ _) (Nat.le_refl _) (by omega) (by omega) (by omega) (by simp)).mono ?_
 rintro e w1 ⟨A1,n1,c1,rfl,ho1,t1⟩
 rw [List.nil_append,Cd.aC] at ho1
 obtain⟨rfl,_⟩:=aA ho1
 have O1:=hid ho1
 have T1:=hid t1
 have hz1:=t1.size
 clear ho1 t1
 go_wp2_with (at_builtin;refine aO _ rfl _ _ 33 rfl w.heap.size 5 ti (.int .u8 0) 1 1 underlying33 hi Bf Bg Bh rfl (by decide) _ 2 _ rfl O1.out w.heap.size A n c (af b) 0 rfl (by rw [aT,HN.out];omega) (HL.out.below (Nat.le_refl _) T1.out.below) (aX _) (by unfold maxLen;omega) (by omega) hz1 ?_)
 intro v' w2 hown hgrow _
 obtain⟨A2,k2,rfl⟩:=aL hown
 have T2:=hid (T1.out.trans (cB O1.out hgrow hz1))
 have hz2:=T2.out.size
 rw [← bF] at hown
 have en:Cd.fix n 2++b=Fr.inner b:=by unfold Fr.inner;rw [HN.out]
 rw [en] at hown
 have O2:=hid hown
 have il:(Fr.inner b).length=2+n:=by rw [Fr.jU,HN.out];omega
 have IL:=hid il
 clear hown hgrow en il
 have lit:(w2.alloc (.cells #[.int .u8 165] 5)).ownsRow w.heap.size 5 1 (.slice (some ⟨w2.heap.size,0,none⟩) 1 1) 1 (af [165]):=World.ownsRow_lit w2 #[.int .u8 165] 1 hz2 (by decide) rfl
 have LIT:=hid lit
 clear lit
 go_wp2_with (at_builtin;refine aO _ rfl _ _ 33 rfl w.heap.size 5 ti (.int .u8 0) 1 1 underlying33 hi Bf Bg Bh rfl (by decide) _ 1 _ rfl LIT.out w.heap.size A2 (2+n) k2 (af (Fr.inner b)) 5 rfl (by rw [aT,IL.out];omega) (aD (O2.out.alloc _)) (aX _) (by unfold maxLen;omega) (by omega) (by simp;omega) ?_)
 intro v' w3 hown hgrow _
 obtain⟨A3,k3,rfl⟩:=aL hown
 have O2b:=hid ((O2.out.alloc _).kept hgrow (Or.inr (fun e=>by
  have q:=(O2.out.lt w2.heap.size (e.trans rfl)).2
  omega)))
 have T3:=hid ((T2.out.alloc hz2 _).trans (cB LIT.out hgrow (by simp;omega)))
 have hz3:=T3.out.size
 rw [← bF] at hown
 have O3:=hid hown
 clear hown hgrow
 go_wp2_with fail
 refine (x_ _ _ _ (Fr.inner b) _ (B:=0) (t:=5) (aD O2b.out) IL.out.symm (by omega)).mono ?_
 rintro e w' ⟨rfl,rfl⟩
 have sl:=Fr.sum_lt (Fr.inner b)
 go_wp2_with fail
 refine (oD (B:=w.heap.size) (l:=[165]++Fr.inner b) (k:=4) rfl (by rw [List.length_append,IL.out];exact O3.out) hz3 (by omega) (by omega) (by omega) (by rw [List.length_append,IL.out];simp;omega)).mono ?_
 rintro e w4 ⟨A4,n4,c4,rfl,Bd,t4⟩
 rw [sum_nat] at Bd
 have O4:=hid Bd
 have T4:=hid (T3.out.trans t4)
 clear Bd t4
 go_wp2
 go_ret
 exact⟨A4,n4,c4,rfl,O4.out,T4.out.below⟩
theorem Fr.two {l:List UInt8} (h:3≤l.length):∃ x y:UInt8,l[1]?=some x∧l[2]?=some y∧(x.toNat:Int) * 256+(y.toNat:Int)=(Fr.long l:Int)∧Fr.long l<65536:=by
 obtain⟨a,b,c,t,rfl⟩:∃ a b c t,l=a :: b :: c :: t:=by
  rcases l with _ | ⟨a,_ | ⟨b,_ | ⟨c,t⟩⟩⟩
  ·simp at h
  ·simp at h
  ·simp at h
  ·exact⟨a,b,c,t,rfl⟩
 have:=b.toNat_lt
 have:=c.toNat_lt
 refine⟨b,c,rfl,rfl,?_,?_⟩
 ·simp [Fr.long]
 ·simp [Fr.long];omega
def qG (B:Nat) (r:Option (List UInt8)) (w:World) (e:Ending) (w':World):Prop :=
 ∃ (A:Option Addr) (n c:Nat) (k er:Int),e=.returned (.tuple #[.slice A n c,.int .i64 k,.int .i64 er])∧Below w.heap.size w w' ∧
  n≤c∧(∀ b,r=some b→n=b.length∧av w' B 5 A (af b)∧k=7+(b.length:Int)∧er=0)∧(r=none→n=0∧k=0∧er=40)
theorem qG.bad {w w':World} {B:Nat} {A:Option Addr} {c:Nat} (h:Below w.heap.size w w'):qG B none w (.returned (.tuple #[.slice A 0 c,.int .i64 0,.int .i64 40])) w' :=
 ⟨A,0,c,0,40,rfl,h,Nat.zero_le _,by simp,by simp⟩
theorem qG.good {w w':World} {B:Nat} {A:Option Addr} {b:List UInt8} {n c:Nat} {k:Int} (h:Below w.heap.size w w') (hn:n=b.length) (hc:n≤c) (hL:av w' B 5 A (af b)) (hk:k=7+(b.length:Int)):qG B (some b) w (.returned (.tuple #[.slice A n c,.int .i64 k,.int .i64 0])) w' :=
 ⟨A,n,c,k,0,rfl,h,hc,fun d hd=>by injection hd with hd;subst hd;exact⟨hn,hL,hk,rfl⟩,by simp⟩
theorem AQ {A:Option Addr} {n c:Nat} {l:List UInt8} {w:World} {B:Nat} (hL:av w B 5 A (af l)) (hB:B≤w.heap.size) (hn:n=l.length) (hc:n≤c) (hs:n≤1000000000) :
  Calls prog 45 #[.slice A n c] w (qG B (Fr.kN l) w):=by
 have HL:=hid hL
 have HN:=hid hn
 clear hL hn
 by_cases h3:n<3
 ·have e:Fr.kN l=none:=by
   unfold Fr.kN
   rw [if_neg]
   have:=HN.out
   omega
  rw [e]
  go_enter func45,ntmps45
  go_wp2
  refine bodyPost_ret (v:=.tuple #[.slice none 0 0,.int .i64 0,.int .i64 40]) (by simp [results,results45,go_sem]) rfl ?_
  exact qG.bad (Below.refl _ _)
 ·obtain⟨x,y,hx,hy,hm,hm2⟩:=Fr.two (l:=l) (by have:=HN.out;omega)
  obtain⟨ad,rfl,cx⟩:=HL.out.mP hx
  obtain⟨El,e',cy⟩:=HL.out.mP hy
  injection e' with e'
  subst e'
  have cx':w.cell? ⟨ad.block,ad.off+1,none⟩=some (.int .u8 (x.toNat:Int)):=cx
  have cy':w.cell? ⟨ad.block,ad.off+2,none⟩=some (.int .u8 (y.toNat:Int)):=cy
  have n1:(1:Int)<n:=by omega
  have n2:(2:Int)<n:=by omega
  clear hx hy cx cy
  obtain⟨m,em⟩:∃ m,m=Fr.long l:=⟨_,rfl⟩
  rw [← em] at hm hm2
  obtain⟨bd,ebd⟩:∃ bd,bd=(l.drop 3).take m:=⟨_,rfl⟩
  obtain⟨tk,etk⟩:∃ tk,tk=l.take (7+m):=⟨_,rfl⟩
  have eu:Fr.kN l=if 7+m≤n∧m≤60000∧Fr.frame bd=tk then some bd else none:=by rw [HN.out,ebd,etk,em];rfl
  rw [eu]
  by_cases good:m≤60000∧7+m≤n
  ·obtain⟨g1,g2⟩:=good
   have lb:bd.length=m:=by rw [ebd,List.length_take,List.length_drop,← HN.out];omega
   have lt:tk.length=7+m:=by rw [etk,List.length_take,← HN.out];omega
   have hBd:av w B 5 (some ⟨ad.block,ad.off+3,none⟩) (af bd):=by
    have q:=((HL.out.cut 3 c (by rw [aT,← HN.out];exact hc)).take m)
    rw [if_neg (by omega),dI,d9,← ebd] at q
    exact q
   have hT:av w B 5 (some ad) (af tk):=by
    have q:=HL.out.take (7+m)
    rw [d9,← etk] at q
    exact q
   have HB:=hid hBd
   have HT:=hid hT
   have LB:=hid lb
   have LT:=hid lt
   have cv:=bR (c:=c) hT lt.symm
   clear hBd hT lb lt ebd etk em eu
   have c3:¬ c=3:=by omega
   have t3:(3+(m:Int)).toNat - 3=m:=by omega
   have t7:(7+(m:Int)).toNat=7+m:=by omega
   have s3:IntKind.i64.wrap (3+(m:Int))=3+(m:Int):=IntWalk.i64_in _ (by omega)
   have s7:IntKind.i64.wrap (7+(m:Int))=7+(m:Int):=IntWalk.i64_in _ (by omega)
   have b1:0≤3+(m:Int):=by omega
   have b2:3+(m:Int)≤(c:Int):=by omega
   have b3:0≤7+(m:Int):=by omega
   have b4:7+(m:Int)≤(c:Int):=by omega
   have b5:(3:Int)≤3+(m:Int):=by omega
   cases hf:(Fr.frame bd==tk)
   ·have hf':(Fr.frame bd != tk)=true:=by rw [bne,hf];rfl
    rw [if_neg (by rintro⟨_,_,e⟩;rw [e] at hf;simp at hf)]
    have HF:=hid hf
    have HF':=hid hf'
    clear hf hf'
    go_enter func45,ntmps45
    go_wp2_with fail
    go_region
    clear n1 n2 cx' cy'
    go_wp2_with fail
    have hf:=HF.out
    have hf':=HF'.out
    go_region_held (fun w'=>(convert 33 9 (.slice (some ad) (7+m) c)).run prog w'=.ok (.string (str tk)) w') (first | exact bR (c:=c) HT.out LT.out.symm | exact g3) ((go_at_call 26;(refine (kY (b:=bd) (B:=B) (t:=5) HB.out.drew.drew LB.out.symm g1).mono ?_);rintro e w6 ⟨Ab,nb,cb,rfl,eT,hb6⟩;have h6:Below w.heap.size w w6:=⟨hb6.os,hb6.tape,hb6.output,hb6.size,hb6.block⟩;have gg1:=bR (c:=cb) (aD (B:=0) eT) (aA eT).1;have g3:=bR (c:=c) (HT.out.below hB h6) LT.out.symm;have H6:=hid h6;clear h6 eT hb6))
    go_wp2
    refine bodyPost_ret (v:=.tuple #[.slice none 0 0,.int .i64 0,.int .i64 40]) (by simp [results,results45,go_sem]) rfl ?_
    exact qG.bad H6.out
   ·have hf':(Fr.frame bd != tk)=false:=by rw [bne,hf];rfl
    rw [if_pos ⟨g2,g1,by simpa using hf⟩]
    have HF:=hid hf
    have HF':=hid hf'
    clear hf hf'
    go_enter func45,ntmps45
    go_wp2_with fail
    go_region
    clear n1 n2 cx' cy'
    go_wp2_with fail
    have hf:=HF.out
    have hf':=HF'.out
    go_region_held (fun w'=>(convert 33 9 (.slice (some ad) (7+m) c)).run prog w'=.ok (.string (str tk)) w') (first | exact bR (c:=c) HT.out LT.out.symm | exact g3) ((go_at_call 26;(refine (kY (b:=bd) (B:=B) (t:=5) HB.out.drew.drew LB.out.symm g1).mono ?_);rintro e w6 ⟨Ab,nb,cb,rfl,eT,hb6⟩;have h6:Below w.heap.size w w6:=⟨hb6.os,hb6.tape,hb6.output,hb6.size,hb6.block⟩;have gg1:=bR (c:=cb) (aD (B:=0) eT) (aA eT).1;have g3:=bR (c:=c) (HT.out.below hB h6) LT.out.symm;have H6:=hid h6;clear h6 eT hb6))
    go_wp2
    refine bodyPost_ret (v:=.tuple #[.slice (some ⟨ad.block,ad.off+3,none⟩) m (c - 3),.int .i64 (7+(m:Int)),.int .i64 0]) (by simp [results,results45,go_sem]) rfl ?_
    exact qG.good H6.out LB.out.symm (by omega) (HB.out.below hB H6.out) (by rw [LB.out])
  ·rw [if_neg (fun q=>good ⟨q.2.1,q.1⟩)]
   clear ebd etk em eu
   by_cases g1:m≤60000
   ·have g2:¬ 7+m≤n:=fun q=>good ⟨g1,q⟩
    clear good
    go_enter func45,ntmps45
    go_wp2_with fail
    go_region
    clear n1 n2 cx' cy'
    go_wp2
    refine bodyPost_ret (v:=.tuple #[.slice none 0 0,.int .i64 0,.int .i64 40]) (by simp [results,results45,go_sem]) rfl ?_
    exact qG.bad (Below.refl _ _).drew
   ·clear good
    go_enter func45,ntmps45
    go_wp2_with fail
    go_region
    clear n1 n2 cx' cy'
    go_wp2
    refine bodyPost_ret (v:=.tuple #[.slice none 0 0,.int .i64 0,.int .i64 40]) (by simp [results,results45,go_sem]) rfl ?_
    exact qG.bad (Below.refl _ _).drew
end
section
open Go.RowKit
theorem xP (a b:Nat) (ha:a<9223372036854775808) (hb:b<9223372036854775808):bits .or .i64 (a:Int) (b:Int)=((a ||| b:Nat):Int):=by
 have hx:a ||| b<2 ^ 63:=Nat.or_lt_two_pow (by omega) (by omega)
 show IntKind.i64.wrap ((BitVec.ofInt 64 (a:Int) ||| BitVec.ofInt 64 (b:Int)).toNat:Int)=_
 rw [BitVec.toNat_or,BitVec.ofInt_natCast,BitVec.ofInt_natCast,BitVec.toNat_ofNat,BitVec.toNat_ofNat,Nat.mod_eq_of_lt (by omega),Nat.mod_eq_of_lt (by omega)]
 exact IntWalk.i64_in _ (by omega)
theorem or_two (x y:UInt8):bits .or .i64 ((x.toNat:Int) * 256) (y.toNat:Int)=(x.toNat:Int) * 256+(y.toNat:Int):=by
 have hx:=x.toNat_lt
 have hy:=y.toNat_lt
 have e:=xP (x.toNat * 256) y.toNat (by omega) (by omega)
 have q:=Nat.two_pow_add_eq_or_of_lt (i:=8) (b:=y.toNat) hy x.toNat
 rw [show 2 ^ 8 * x.toNat=x.toNat * 256 by omega] at q
 rw [← q] at e
 exact e
theorem AA {w:World} {B k:Nat} {cs:Array Value} {l:List UInt8} (hB:B≤w.heap.size) (h:cs.toList=af l) (hk:l.length=k) (hl:k≤maxLen) :
  (w.alloc (.cells cs 5)).ownsRow B 5 1 (.slice (some ⟨w.heap.size,0,none⟩) k k) l.length (af l):=by
 have hs:cs.size=k * 1:=by rw [Nat.mul_one,← Array.length_toList,h,aT,hk]
 have q:=World.ownsRow_lit (base:=B) (e:=5) (size:=1) w cs k hB hl hs
 rw [h] at q
 rw [hk]
 exact q
theorem AJ {s:Nat} (h:s<4294967296):[Value.int .u8 ((s:Int) / 16777216),.int .u8 ((s:Int) / 65536 % 256),.int .u8 ((s:Int) / 256 % 256),.int .u8 ((s:Int) % 256)]=af (Cd.fix s 4):=by
 have e:Cd.fix s 4=[Cd.iP s 3,Cd.iP s 2,Cd.iP s 1,Cd.iP s 0]:=rfl
 rw [e]
 have h3:(s:Int) / 16777216=(s:Int) / 16777216 % 256:=by omega
 rw [h3]
 simp only [af,rE,List.map_cons,List.map_nil,Cd.fq]
 simp
theorem xL {A:Option Addr} {n c:Nat} {l:List UInt8} {w:World} {B:Nat} {t:TypeId} (hL:av w B t A (af l)) (hn:n=l.length) (hs:n≤1000000000) :
  Calls prog 59 #[.slice A n c] w (sF w.heap.size (Cd.fix (Crc.sum l) 4) w):=by
 have HL:=hid hL
 have HN:=hid hn
 have sl:=Fr.sum_lt l
 clear hL hn
 go_enter func59,ntmps59
 go_wp2_with fail
 refine (Ch _ _ _ l _ HL.out HN.out (by omega)).mono ?_
 rintro e w1 ⟨rfl,rfl⟩
 go_wp2
 go_ret
 exact⟨_,4,4,rfl,AA (Nat.le_refl _) (AJ sl) rfl (by decide),(Below.refl _ _).alloc (Nat.le_refl _) _⟩
theorem yI {A A2:Option Addr} {n c n2 c2:Nat} {l m:List UInt8} {w:World} {B B2:Nat} {t t2:TypeId} (h:av w B t A (af l)) (h2:av w B2 t2 A2 (af m)) (hn:n=l.length) (hn2:n2=m.length) :
  Calls prog 146 #[.slice A n c,.slice A2 n2 c2] w fun e w'=>e=.returned (.bool (l==m))∧w=w':=by
 have c1:=bR (c:=c) h hn
 have c3:=bR (c:=c2) h2 hn2
 clear h h2 hn hn2
 go_enter func146,ntmps146
 go_wp2
 go_ret
 exact⟨rfl,rfl⟩
theorem Cc {ad:Addr} {n c:Nat} {l:List UInt8} {w:World} {B:Nat} {t:TypeId} (hL:av w B t (some ad) (af l)) (hn:n=l.length) (hs:n≤1000000000) :
  Calls prog 60 #[.slice (some ad) n c] w (sF w.heap.size l w):=by
 have HL:=hid (hL.old (t':=0))
 have HN:=hid hn
 clear hL hn
 obtain⟨ti,hi,Bf,Bg,Bh⟩:=info_parts Tryz.infoU8
 have lit:=World.ownsRow_lit (base:=w.heap.size) (e:=5) (size:=1) w #[] 0 (Nat.le_refl _) (by decide) rfl
 have LIT:=hid lit
 clear lit
 have hq:=fun W:World=>Lib.run_eql_slice_nil (P:=prog) W 33 5 (some ad) n c 0 0 underlying33
 go_enter func60,ntmps60
 go_wp2_with (at_builtin;refine aO _ rfl _ _ 33 rfl w.heap.size 5 ti (.int .u8 0) 1 1 underlying33 hi Bf Bg Bh rfl (by decide) _ 0 [] rfl LIT.out w.heap.size (some ad) n c (af l) 0 rfl (by rw [aT,HN.out];omega) (HL.out.alloc (Nat.le_refl _) _) (aX _) (by unfold maxLen;omega) (by omega) (by simp) ?_)
 intro v' w2 hown hgrow _
 obtain⟨A2,k2,rfl⟩:=aL hown
 have T2:=hid (((aG.refl w.heap.size [5] w).alloc (Nat.le_refl _) _).trans (cB LIT.out hgrow (by simp)))
 have O2:=hid hown
 clear hown hgrow
 go_wp2
 go_ret
 exact⟨A2,_,k2,rfl,by rw [← HN.out];exact O2.out,T2.out.below⟩
theorem mk_room (k:Nat) (hk:k≤1000000000) {z:Int} (hz:z=(k:Int)) (w:World):(Instr.makeSlice 33 (.int .i64 0) (.int .i64 z)).run prog w=.ok (.slice (some ⟨w.heap.size,0,none⟩) 0 k) (w.alloc (.cells (af (List.replicate k 0)).toArray 5)):=by
 subst hz
 obtain⟨ti,hi,Bf,Bg,Bh⟩:=info_parts Tryz.infoU8
 have q:=run_make (P:=prog) w 33 5 ti _ underlying33 hi Bf .i64 .i64 0 k (by omega) (by omega) (by rw [Bh];omega) (by omega)
 rw [q,Int.toNat_natCast,Bg,Nat.mul_one]
 congr 3
 apply Array.toList_inj.1
 have e:=toList_madeCells_one (.int .u8 0) k
 rw [show (Value.int .u8 0).cells=#[.int .u8 0] from rfl,e]
 simp [af,rE]
theorem lies3 {w:World} {a b c:UInt8} {x y z:Int} (hx:x=(a.toNat:Int)) (hy:y=(b.toNat:Int)) (hz:z=(c.toNat:Int)) {g:Nat} (hg:g=w.heap.size):av (w.alloc (.cells #[.int .u8 x,.int .u8 y,.int .u8 z] 5)) 0 5 (some ⟨g,0,none⟩) (af [a,b,c]):=by
 subst hx;subst hy;subst hz;subst hg
 exact av.dD (heap_alloc_new w _)
theorem fput_ok {A:Option Addr} {n c:Nat} {b:List UInt8} {w:World} {B:Nat} {t:TypeId} (hL:av w B t A (af b)) (hn:n=b.length) (hs:n≤60000) :
  Calls prog 21 #[.slice A n c] w (gQ w.heap.size 0 (Fr.frame b) w):=by
 have HL:=hid (hL.old (t':=0))
 have HN:=hid hn
 clear hL hn
 obtain⟨ti,hi,Bf,Bg,Bh⟩:=info_parts Tryz.infoU8
 have hmk:=mk_room (n+7) (by omega) (z:=3+(n:Int)+4) (by omega)
 have made:=World.ownsRow_made (base:=w.heap.size) (e:=5) (size:=1) w (af (List.replicate (n+7) 0)).toArray (n+7) (Nat.le_refl _) (by unfold maxLen;omega) (by simp [af])
 have MADE:=hid made
 have TM:=hid ((aG.refl w.heap.size [5] w).alloc (Nat.le_refl _) (.cells (af (List.replicate (n+7) 0)).toArray 5))
 have HX1:=hid (show (n:Int) / 256=((Cd.iP n 1).toNat:Int) by rw [Cd.fq];omega)
 have HX2:=hid (show (n:Int) % 256=((Cd.iP n 0).toNat:Int) by rw [Cd.fq];omega)
 clear made
 go_enter func21,ntmps21
 go_wp2_with (at_builtin;refine aO _ rfl _ _ 33 rfl w.heap.size 5 ti (.int .u8 0) 1 1 underlying33 hi Bf Bg Bh rfl (by decide) _ 0 [] rfl (MADE.out.alloc _) 0 _ 3 3 (af [165,Cd.iP n 1,Cd.iP n 0]) 5 rfl rfl (lies3 (a:=165) (b:=Cd.iP n 1) (c:=Cd.iP n 0) rfl HX1.out HX2.out (by simp)) (aX _) (by unfold maxLen;omega) (by omega) (by simp;omega) ?_)
 intro v' w2 hown hgrow _
 obtain⟨A2,k2,rfl⟩:=aL hown
 have T2:=hid ((TM.out.alloc (by simp) _).trans (cB (MADE.out.alloc _) hgrow (by simp;omega)))
 have O2:=hid hown
 have hz2:=T2.out.size
 clear hown hgrow
 go_wp2_with (at_builtin;refine aO _ rfl _ _ 33 rfl w.heap.size 5 ti (.int .u8 0) 1 1 underlying33 hi Bf Bg Bh rfl (by decide) _ 3 _ rfl O2.out w.heap.size A n c (af b) 0 rfl (by rw [aT,HN.out];omega) (HL.out.below (Nat.le_refl _) T2.out.below) (aX _) (by unfold maxLen;omega) (by omega) hz2 ?_)
 intro v' w3 hown hgrow _
 obtain⟨A3,k3,rfl⟩:=aL hown
 have T3:=hid (T2.out.trans (cB O2.out hgrow hz2))
 have hz3:=T3.out.size
 have er:af [165,Cd.iP n 1,Cd.iP n 0]++af b=af (165 :: Fr.inner b):=by
  rw [← bF]
  unfold Fr.inner
  rw [← HN.out,Fr.fix2]
  rfl
 rw [er] at hown
 have il:(165 :: Fr.inner b).length=3+n:=by rw [List.length_cons,Fr.jU,HN.out];omega
 obtain⟨_,hk3⟩:=aA hown
 obtain⟨g,rfl,_,_,_,_⟩:=ui hown (by omega)
 have hin:av w3 0 5 (some ⟨g,1,none⟩) (af (Fr.inner b)):=by
  have q:=(aD (B:=0) hown).cut 1 k3 (by rw [aT,il];exact hk3)
  rw [if_neg (by omega),dI] at q
  exact q
 have HI:=hid hin
 have O3:=hid hown
 have IL:=hid (show (Fr.inner b).length=2+n by rw [Fr.jU,HN.out];omega)
 have k31:¬ k3=1:=by omega
 have n31:3+n - 1=2+n:=by omega
 have k1:(1:Int)≤3+(n:Int):=by omega
 clear hown hgrow er il hin hmk
 go_wp2_with fail
 refine (xL (c:=k3 - 1) HI.out IL.out.symm (by omega)).mono ?_
 rintro e w4 ⟨A4,n4,c4,rfl,Bd,hb4⟩
 have T4:=hid (T3.out.below.trans (hb4.mono hz3))
 have O34:=hid (own_below O3.out hb4)
 have hz4:=T4.out.size
 have ho4':w4.ownsRow w3.heap.size 5 1 (.slice A4 n4 c4) 4 (af (Cd.fix (Crc.sum (Fr.inner b)) 4)):=Bd
 obtain⟨rfl,hc4⟩:=aA ho4'
 have O4:=hid ho4'
 clear hb4 Bd ho4' n31
 go_wp2_with (at_builtin;refine aO _ rfl _ _ 33 rfl w.heap.size 5 ti (.int .u8 0) 1 1 underlying33 hi Bf Bg Bh rfl (by decide) _ (3+n) _ rfl O34.out 0 A4 4 c4 (af (Cd.fix (Crc.sum (Fr.inner b)) 4)) 5 rfl rfl (aD O4.out) (aX _) (by unfold maxLen;omega) (by omega) hz4 ?_)
 intro v' w5 hown hgrow _
 obtain⟨A5,k5,rfl⟩:=aL hown
 have T5:=hid (T4.out.trans (cB O34.out hgrow hz4).below)
 have O5:=hid hown
 have ef:af (165 :: Fr.inner b)++af (Cd.fix (Crc.sum (Fr.inner b)) 4)=af (Fr.frame b):=by
  rw [← bF];rfl
 have EF:=hid ef
 clear hown hgrow ef
 go_wp2
 go_ret2
 have q:=O5.out
 rw [EF.out] at q
 exact⟨A5,_,k5,rfl,by rw [Fr.mW,← HN.out];omega,(aA q).2,q,T5.out⟩
end
end
end Go.Proofs.YtmcfknnfaokmlaaGreat
