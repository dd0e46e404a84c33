import Derived.Test.YtcedlgedmkghgaaZ27
import Derived.Test.YtcedlgedmkghgaaZ2
import Derived.Test.YtcedlgedmkghgaaZ8
import Derived.Deep.RegionHeld3
import Derived.Deep.QuietTactic
import Derived.BigQuiet
import Derived.IntWalk
import Derived.WalkSpells
namespace Go.Proofs.Ytcedlgedmkghgaa
set_option maxHeartbeats 16000000
open Go.Lib
set_option linter.unusedSimpArgs false
set_option maxRecDepth 100000
section
section
namespace Fr
def inner (b:List UInt8):List UInt8:=Cd.fix b.length 2++b
def frame (b:List UInt8):List UInt8:=165 :: (inner b++Cd.fix (Crc.sum (inner b)) 4)
def long (c:List UInt8):Nat:=(c.getD 1 0).toNat * 256+(c.getD 2 0).toNat
def body (c:List UInt8):List UInt8:=(c.drop 3).take (long c)
def jH (c:List UInt8):Option (List UInt8) :=
 if 7+long c≤c.length∧long c≤60000∧frame (body c)=c.take (7+long c) then some (body c) else none
theorem jw (b:List UInt8):(inner b).length=b.length+2:=by unfold inner;rw [List.length_append,Cd.aI];omega
theorem eG (b:List UInt8):(frame b).length=7+b.length:=by
 unfold frame
 rw [List.length_cons,List.length_append,jw,Cd.aI]
 omega
theorem sum_lt (l:List UInt8):Crc.sum l<4294967296:=Crc.sK (by decide) l
theorem fix2 (n:Nat):Cd.fix n 2=[Cd.gY n 1,Cd.gY n 0]:=rfl
theorem iD {b:List UInt8} (h:b.length≤60000) (t:List UInt8):long (frame b++t)=b.length:=by
 unfold long frame inner
 rw [fix2]
 simp only [List.cons_append,List.append_assoc,List.nil_append,List.getD_cons_succ,List.getD_cons_zero]
 rw [Cd.dE,Cd.dE]
 omega
theorem kE {b:List UInt8} (h:b.length≤60000) (t:List UInt8):body (frame b++t)=b:=by
 unfold body
 rw [iD h]
 unfold frame inner
 rw [fix2]
 simp
theorem uU {b:List UInt8} (h:b.length≤60000) (t:List UInt8):jH (frame b++t)=some b:=by
 unfold jH
 rw [iD h,kE h,if_pos]
 refine⟨by rw [List.length_append,eG];omega,h,?_⟩
 rw [← eG b,List.take_left]
theorem jg {c b:List UInt8} (h:jH c=some b):c=frame b++c.drop (7+b.length)∧b.length≤60000∧7+b.length≤c.length:=by
 unfold jH at h
 split at h
 ·rename_i q
  obtain⟨q1,q2,q3⟩:=q
  injection h with h
  have e:b.length=long c:=by
   rw [← h]
   unfold body
   rw [List.length_take,List.length_drop]
   omega
  rw [h] at q3
  refine⟨?_,by omega,by omega⟩
  rw [e,q3,List.take_append_drop]
 ·cases h
end Fr
open Go.RowKit
theorem Fr.two {l:List UInt8} (h:3≤l.length):∃ x y:UInt8,l[1]?=some x∧l[2]?=some y∧(x.toNat:Int) * 256+(y.toNat:Int)=(Fr.long l:Int)∧Fr.long l<65536:=by
 obtain⟨a,b,c,t,rfl⟩:∃ a b c t,l=a :: b :: c :: t:=by
  rcases l with _ | ⟨a,_ | ⟨b,_ | ⟨c,t⟩⟩⟩
  ·simp at h
  ·simp at h
  ·simp at h
  ·exact⟨a,b,c,t,rfl⟩
 have:=b.toNat_lt
 have:=c.toNat_lt
 refine⟨b,c,rfl,rfl,?_,?_⟩
 ·simp [Fr.long]
 ·simp [Fr.long];omega
end
section
open Go.RowKit
theorem qV (a b:Nat) (ha:a<9223372036854775808) (hb:b<9223372036854775808):bits .or .i64 (a:Int) (b:Int)=((a ||| b:Nat):Int):=by
 have hx:a ||| b<2 ^ 63:=Nat.or_lt_two_pow (by omega) (by omega)
 show IntKind.i64.wrap ((BitVec.ofInt 64 (a:Int) ||| BitVec.ofInt 64 (b:Int)).toNat:Int)=_
 rw [BitVec.toNat_or,BitVec.ofInt_natCast,BitVec.ofInt_natCast,BitVec.toNat_ofNat,BitVec.toNat_ofNat,Nat.mod_eq_of_lt (by omega),Nat.mod_eq_of_lt (by omega)]
 exact IntWalk.i64_in _ (by omega)
theorem or_two (x y:UInt8):bits .or .i64 ((x.toNat:Int) * 256) (y.toNat:Int)=(x.toNat:Int) * 256+(y.toNat:Int):=by
 have hx:=x.toNat_lt
 have hy:=y.toNat_lt
 have e:=qV (x.toNat * 256) y.toNat (by omega) (by omega)
 have q:=Nat.two_pow_add_eq_or_of_lt (i:=8) (b:=y.toNat) hy x.toNat
 rw [show 2 ^ 8 * x.toNat=x.toNat * 256 by omega] at q
 rw [← q] at e
 exact e
theorem uN {w:World} {B k:Nat} {cs:Array Value} {l:List UInt8} (hB:B≤w.heap.size) (h:cs.toList=ae l) (hk:l.length=k) (hl:k≤maxLen) :
  (w.alloc (.cells cs 5)).ownsRow B 5 1 (.slice (some ⟨w.heap.size,0,none⟩) k k) l.length (ae l):=by
 have hs:cs.size=k * 1:=by rw [Nat.mul_one,← Array.length_toList,h,aO,hk]
 have q:=World.ownsRow_lit (base:=B) (e:=5) (size:=1) w cs k hB hl hs
 rw [h] at q
 rw [hk]
 exact q
theorem uQ {s:Nat} (h:s<4294967296):[Value.int .u8 ((s:Int) / 16777216),.int .u8 ((s:Int) / 65536 % 256),.int .u8 ((s:Int) / 256 % 256),.int .u8 ((s:Int) % 256)]=ae (Cd.fix s 4):=by
 have e:Cd.fix s 4=[Cd.gY s 3,Cd.gY s 2,Cd.gY s 1,Cd.gY s 0]:=rfl
 rw [e]
 have h3:(s:Int) / 16777216=(s:Int) / 16777216 % 256:=by omega
 rw [h3]
 simp only [ae,oI,List.map_cons,List.map_nil,Cd.dE]
 simp
theorem qQ {A:Option Addr} {n c:Nat} {l:List UInt8} {w:World} {B:Nat} {t:TypeId} (hL:ah w B t A (ae l)) (hn:n=l.length) (hs:n≤1000000000) :
  Calls Try.prog 37 #[.slice A n c] w (rU w.heap.size (Cd.fix (Crc.sum l) 4) w):=by
 have HL:=hid hL
 have HN:=hid hn
 have sl:=Fr.sum_lt l
 clear hL hn
 go_enter Try.func37,Try.ntmps37
 go_wp2_with fail
 refine (vM _ _ _ l _ HL.out HN.out (by omega)).mono ?_
 rintro e w1 ⟨rfl,rfl⟩
 go_wp2
 go_ret
 exact⟨_,4,4,rfl,uN (Nat.le_refl _) (uQ sl) rfl (by decide),(Below.refl _ _).alloc (Nat.le_refl _) _⟩
theorem rY {A A2:Option Addr} {n c n2 c2:Nat} {l m:List UInt8} {w:World} {B B2:Nat} {t t2:TypeId} (h:ah w B t A (ae l)) (h2:ah w B2 t2 A2 (ae m)) (hn:n=l.length) (hn2:n2=m.length) :
  Calls Try.prog 96 #[.slice A n c,.slice A2 n2 c2] w fun e w'=>e=.returned (.bool (l==m))∧w=w':=by
 have c1:=gP (c:=c) h hn
 have c3:=gP (c:=c2) h2 hn2
 clear h h2 hn hn2
 go_enter Try.func96,Try.ntmps96
 go_wp2
 go_ret
 exact⟨rfl,rfl⟩
theorem vH {ad:Addr} {n c:Nat} {l:List UInt8} {w:World} {B:Nat} {t:TypeId} (hL:ah w B t (some ad) (ae l)) (hn:n=l.length) (hs:n≤1000000000) :
  Calls Try.prog 38 #[.slice (some ad) n c] w (rU w.heap.size l w):=by
 have HL:=hid (hL.old (t':=0))
 have HN:=hid hn
 clear hL hn
 obtain⟨ti,hi,iz0,iz1,iz2⟩:=info_parts Try.infoU8
 have lit:=World.ownsRow_lit (base:=w.heap.size) (e:=5) (size:=1) w #[] 0 (Nat.le_refl _) (by decide) rfl
 have LIT:=hid lit
 clear lit
 have hq:=fun W:World=>Lib.run_eql_slice_nil (P:=Try.prog) W 33 5 (some ad) n c 0 0 Try.underlying33
 go_enter Try.func38,Try.ntmps38
 go_wp2_with (at_builtin;refine bP _ rfl _ _ 33 rfl w.heap.size 5 ti (.int .u8 0) 1 1 Try.underlying33 hi iz0 iz1 iz2 rfl (by decide) _ 0 [] rfl LIT.out w.heap.size (some ad) n c (ae l) 0 rfl (by rw [aO,HN.out];omega) (HL.out.alloc (Nat.le_refl _) _) (df _) (by unfold maxLen;omega) (by omega) (by simp) ?_)
 intro v' w2 hown hgrow _
 obtain⟨A2,k2,rfl⟩:=bv hown
 have T2:=hid (((ay.refl w.heap.size [5] w).alloc (Nat.le_refl _) _).trans (iO LIT.out hgrow (by simp)))
 have O2:=hid hown
 clear hown hgrow
 go_wp2
 go_ret
 exact⟨A2,_,k2,rfl,by rw [← HN.out];exact O2.out,T2.out.below⟩
theorem mk_room (k:Nat) (hk:k≤1000000000) {z:Int} (hz:z=(k:Int)) (w:World):(Instr.makeSlice 33 (.int .i64 0) (.int .i64 z)).run Try.prog w=.ok (.slice (some ⟨w.heap.size,0,none⟩) 0 k) (w.alloc (.cells (ae (List.replicate k 0)).toArray 5)):=by
 subst hz
 obtain⟨ti,hi,iz0,iz1,iz2⟩:=info_parts Try.infoU8
 have q:=run_make (P:=Try.prog) w 33 5 ti _ Try.underlying33 hi iz0 .i64 .i64 0 k (by omega) (by omega) (by rw [iz2];omega) (by omega)
 rw [q,Int.toNat_natCast,iz1,Nat.mul_one]
 congr 3
 apply Array.toList_inj.1
 have e:=toList_madeCells_one (.int .u8 0) k
 rw [show (Value.int .u8 0).cells=#[.int .u8 0] from rfl,e]
 simp [ae,oI]
theorem lies3 {w:World} {a b c:UInt8} {x y z:Int} (hx:x=(a.toNat:Int)) (hy:y=(b.toNat:Int)) (hz:z=(c.toNat:Int)) {g:Nat} (hg:g=w.heap.size):ah (w.alloc (.cells #[.int .u8 x,.int .u8 y,.int .u8 z] 5)) 0 5 (some ⟨g,0,none⟩) (ae [a,b,c]):=by
 subst hx;subst hy;subst hz;subst hg
 exact ah.dG (heap_alloc_new w _)
theorem fput_ok {A:Option Addr} {n c:Nat} {b:List UInt8} {w:World} {B:Nat} {t:TypeId} (hL:ah w B t A (ae b)) (hn:n=b.length) (hs:n≤60000) :
  Calls Try.prog 16 #[.slice A n c] w (fF w.heap.size 0 (Fr.frame b) w):=by
 have HL:=hid (hL.old (t':=0))
 have HN:=hid hn
 clear hL hn
 obtain⟨ti,hi,iz0,iz1,iz2⟩:=info_parts Try.infoU8
 have hmk:=mk_room (n+7) (by omega) (z:=3+(n:Int)+4) (by omega)
 have made:=World.ownsRow_made (base:=w.heap.size) (e:=5) (size:=1) w (ae (List.replicate (n+7) 0)).toArray (n+7) (Nat.le_refl _) (by unfold maxLen;omega) (by simp [ae])
 have MADE:=hid made
 have TM:=hid ((ay.refl w.heap.size [5] w).alloc (Nat.le_refl _) (.cells (ae (List.replicate (n+7) 0)).toArray 5))
 have HX1:=hid (show (n:Int) / 256=((Cd.gY n 1).toNat:Int) by rw [Cd.dE];omega)
 have HX2:=hid (show (n:Int) % 256=((Cd.gY n 0).toNat:Int) by rw [Cd.dE];omega)
 clear made
 go_enter Try.func16,Try.ntmps16
 go_wp2_with (at_builtin;refine bP _ rfl _ _ 33 rfl w.heap.size 5 ti (.int .u8 0) 1 1 Try.underlying33 hi iz0 iz1 iz2 rfl (by decide) _ 0 [] rfl (MADE.out.alloc _) 0 _ 3 3 (ae [165,Cd.gY n 1,Cd.gY n 0]) 5 rfl rfl (lies3 (a:=165) (b:=Cd.gY n 1) (c:=Cd.gY n 0) rfl HX1.out HX2.out (by simp)) (df _) (by unfold maxLen;omega) (by omega) (by simp;omega) ?_)
 intro v' w2 hown hgrow _
 obtain⟨A2,k2,rfl⟩:=bv hown
 have T2:=hid ((TM.out.alloc (by simp) _).trans (iO (MADE.out.alloc _) hgrow (by simp;omega)))
 have O2:=hid hown
 have hz2:=T2.out.size
 clear hown hgrow
 go_wp2_with (at_builtin;refine bP _ rfl _ _ 33 rfl w.heap.size 5 ti (.int .u8 0) 1 1 Try.underlying33 hi iz0 iz1 iz2 rfl (by decide) _ 3 _ rfl O2.out w.heap.size A n c (ae b) 0 rfl (by rw [aO,HN.out];omega) (HL.out.below (Nat.le_refl _) T2.out.below) (df _) (by unfold maxLen;omega) (by omega) hz2 ?_)
 intro v' w3 hown hgrow _
 obtain⟨A3,k3,rfl⟩:=bv hown
 have T3:=hid (T2.out.trans (iO O2.out hgrow hz2))
 have hz3:=T3.out.size
 have er:ae [165,Cd.gY n 1,Cd.gY n 0]++ae b=ae (165 :: Fr.inner b):=by
  rw [← fU]
  unfold Fr.inner
  rw [← HN.out,Fr.fix2]
  rfl
 rw [er] at hown
 have il:(165 :: Fr.inner b).length=3+n:=by rw [List.length_cons,Fr.jw,HN.out];omega
 obtain⟨_,hk3⟩:=aC hown
 obtain⟨g,rfl,_,_,_,_⟩:=xe hown (by omega)
 have hin:ah w3 0 5 (some ⟨g,1,none⟩) (ae (Fr.inner b)):=by
  have q:=(aB (B:=0) hown).cut 1 k3 (by rw [aO,il];exact hk3)
  rw [if_neg (by omega),dW] at q
  exact q
 have HI:=hid hin
 have O3:=hid hown
 have IL:=hid (show (Fr.inner b).length=2+n by rw [Fr.jw,HN.out];omega)
 have k31:¬ k3=1:=by omega
 have n31:3+n - 1=2+n:=by omega
 have k1:(1:Int)≤3+(n:Int):=by omega
 clear hown hgrow er il hin hmk
 go_wp2_with fail
 refine (qQ (c:=k3 - 1) HI.out IL.out.symm (by omega)).mono ?_
 rintro e w4 ⟨A4,n4,c4,rfl,vY,hb4⟩
 have T4:=hid (T3.out.below.trans (hb4.mono hz3))
 have O34:=hid (own_below O3.out hb4)
 have hz4:=T4.out.size
 have ho4':w4.ownsRow w3.heap.size 5 1 (.slice A4 n4 c4) 4 (ae (Cd.fix (Crc.sum (Fr.inner b)) 4)):=vY
 obtain⟨rfl,hc4⟩:=aC ho4'
 have O4:=hid ho4'
 clear hb4 vY ho4' n31
 go_wp2_with (at_builtin;refine bP _ rfl _ _ 33 rfl w.heap.size 5 ti (.int .u8 0) 1 1 Try.underlying33 hi iz0 iz1 iz2 rfl (by decide) _ (3+n) _ rfl O34.out 0 A4 4 c4 (ae (Cd.fix (Crc.sum (Fr.inner b)) 4)) 5 rfl rfl (aB O4.out) (df _) (by unfold maxLen;omega) (by omega) hz4 ?_)
 intro v' w5 hown hgrow _
 obtain⟨A5,k5,rfl⟩:=bv hown
 have T5:=hid (T4.out.trans (iO O34.out hgrow hz4).below)
 have O5:=hid hown
 have ef:ae (165 :: Fr.inner b)++ae (Cd.fix (Crc.sum (Fr.inner b)) 4)=ae (Fr.frame b):=by
  rw [← fU];rfl
 have EF:=hid ef
 clear hown hgrow ef
 go_wp2
 go_ret2
 have q:=O5.out
 rw [EF.out] at q
 exact⟨A5,_,k5,rfl,by rw [Fr.eG,← HN.out];omega,(aC q).2,q,T5.out⟩
end
end
end Go.Proofs.Ytcedlgedmkghgaa
