import Derived.Test.YtdjiiknefhepdaaGreatZ1
import Derived.Test.YtdjiiknefhepdaaGreatProg
import Derived.Shelf.SlSortCmp.KitK
import Derived.Sort.WalkB2
import Derived.Sort.WalkB12
import Derived.Deep.LoopGhost
import Derived.BigRegion
import Derived.WalkKit
import Derived.Lib.Hide
import Derived.Deep.DeepCutAuto
namespace Go.Proofs.YtdjiiknefhepdaaGreat
set_option maxHeartbeats 16000000
open Go.Lib Go.Proofs.Tryz
set_option linter.unusedSimpArgs false
set_option maxRecDepth 100000
section
section
open Go.Shelf Go.RowKit Go.Lib Go.Sort
structure zG (P:Program):Prop where
 mixed:P.follows .mixedOrders=true
 f1:P.funcs[166]?=some Tryz.f166
 f2:P.funcs[159]?=some Tryz.f159
 f3:P.funcs[143]?=some Tryz.f143
 f4:P.funcs[144]?=some Tryz.f144
 f5:P.funcs[118]?=some Tryz.f118
 e1:∀ args w,(callFunc 166 args).run P w=.ok (.enter 166 args) w
 e2:∀ args w,(callFunc 159 args).run P w=.ok (.enter 159 args) w
 e3:∀ args w,(callFunc 143 args).run P w=.ok (.enter 143 args) w
 e4:∀ args w,(callFunc 144 args).run P w=.ok (.enter 144 args) w
 u0:P.underlying 0=some (.tuple #[])
 a0:∀ w,(isAgg 0).run P w=.ok false w
 z0:∀ w,(Go.sizeOf 0).run P w=.ok 1 w
 v0:∀ w,(zeroValue 0).run P w=.ok (.tuple #[]) w
 u3:P.underlying 3=some (.int .i64)
 a3:∀ w,(isAgg 3).run P w=.ok false w
 z3:∀ w,(Go.sizeOf 3).run P w=.ok 1 w
 v3:∀ w,(zeroValue 3).run P w=.ok (.int .i64 0) w
 u4:P.underlying 4=some .bool
 a4:∀ w,(isAgg 4).run P w=.ok false w
 z4:∀ w,(Go.sizeOf 4).run P w=.ok 1 w
 v4:∀ w,(zeroValue 4).run P w=.ok (.bool false) w
 u5:P.underlying 166=some (.int .u64)
 a5:∀ w,(isAgg 166).run P w=.ok false w
 z5:∀ w,(Go.sizeOf 166).run P w=.ok 1 w
 v5:∀ w,(zeroValue 166).run P w=.ok (.int .u64 0) w
 u6:P.underlying 22=some (.slice 60)
 a6:∀ w,(isAgg 22).run P w=.ok false w
 z6:∀ w,(Go.sizeOf 22).run P w=.ok 1 w
 v6:∀ w,(zeroValue 22).run P w=.ok (.slice none 0 0) w
 u7:P.underlying 117=some (.func #[60,60] #[3] false)
 a7:∀ w,(isAgg 117).run P w=.ok false w
 z7:∀ w,(Go.sizeOf 117).run P w=.ok 1 w
 v7:∀ w,(zeroValue 117).run P w=.ok .nilFunc w
variable {P : Program} {α : Type} [Inhabited α]
def SOkL (enc:α→List Value) (k:Nat) (w0:World) (blk off:Nat) (d:Array α) (l:List α) (w':World):Prop:=∃ dk:Array α,SWK enc k w0 blk off dk w'∧dk.size=d.size∧dk.toList=l
set_option maxRecDepth 1000000 in
theorem oC (L:zG P) (k:Nat) (aE:∀ w,(isAgg 60).run P w=.ok true w) (zE:∀ w,(Go.sizeOf 60).run P w=.ok k w) (enc:α→List Value) (blk off cap:Nat) (d0 d:Array α) (w0 w:World) (R:RowK enc k w0 blk off d0) (hs:d0.size=d.size) (S:SWK enc k w0 blk off d w) {X p M q Y:List α} (hd:d.toList=X++(p++(M++(q++Y)))) (hpq:q.length=p.length) (a b n:Nat) (ha:a=X.length) (hb:b=X.length+p.length+M.length) (hn:n=p.length) (hsz:d.size<4611686018427387904) (qC:Value) :
  Calls P 166 #[.slice (some ⟨blk,off,none⟩) d.size cap,.int .i64 a,.int .i64 b,.int .i64 n,qC] w fun e w'=>e=.returned (.tuple #[])∧SOkL enc k w0 blk off d (X++(q++(M++(p++Y)))) w':=by
 have mixed:=L.mixed;have u0:=L.u0;have a0:=L.a0;have z0:=L.z0;have v0:=L.v0;have u3:=L.u3;have a3:=L.a3;have z3:=L.z3;have v3:=L.v3;have u4:=L.u4;have a4:=L.a4;have z4:=L.z4;have v4:=L.v4;have u5:=L.u5;have a5:=L.a5;have z5:=L.z5;have v5:=L.v5;have u6:=L.u6;have a6:=L.a6;have z6:=L.z6;have v6:=L.v6;have u7:=L.u7;have a7:=L.a7;have z7:=L.z7;have v7:=L.v7
 have hlen:d.size=X.length+(p.length+(M.length+(q.length+Y.length))):=by have:=congrArg List.length hd;simp only [Array.length_toList,List.length_append] at this;omega
 have HD:=hid hd
 have HX:=hid ha
 have HB:=hid hb
 have HN:=hid hn
 have HQ:=hid hpq
 have S0:Aside _:=S
 have bb:b+n≤d.size:=by omega
 have ab:a+n≤b:=by omega
 have HLen:=hid hlen
 have FG:=L.f1
 clear hd ha hb hn hpq S hlen
 go_enter FG,ntmps166
 go_wp2
 go_loopw [10] (fun s10 wr=>∃ (i:Nat) (dk:Array α),s10=.int .i64 i∧i≤n∧dk.size=d.size∧Aside (SWK enc k w0 blk off dk wr)∧Hid (dk.toList=X++(q.take i++(p.drop i++(M++(p.take i++(q.drop i++Y))))))) (fun s10 _=>n - (intOf s10).toNat)
 case atStart=>exact⟨0,d,rfl,Nat.zero_le _,rfl,S0,hid (by simpa using HD.out)⟩
 case round =>
  obtain⟨i,dk,rfl,hi,hds,S1,HE⟩:=hrel
  clear S0
  by_cases hlt:i<n
  ·have hlz:(i:Int)<(n:Int):=by omega
   obtain⟨pi,hpi⟩:∃ x,p.drop i=x :: p.drop (i+1)∧p[i]?=some x:=by
    have:i<p.length:=by have:=HN.out;omega
    exact⟨p[i],List.drop_eq_getElem_cons this,List.getElem?_eq_getElem this⟩
   obtain⟨qi,hqi⟩:∃ x,q.drop i=x :: q.drop (i+1)∧q[i]?=some x:=by
    have:i<q.length:=by have:=HN.out;have:=HQ.out;omega
    exact⟨q[i],List.drop_eq_getElem_cons this,List.getElem?_eq_getElem this⟩
   have xP:Hid ((swp dk (a+i) (b+i)).toList=X++(q.take (i+1)++(p.drop (i+1)++(M++(p.take (i+1)++(q.drop (i+1)++Y)))))):=hid (by
    have h1:dk.toList=(X++q.take i)++pi :: ((p.drop (i+1)++(M++p.take i))++qi :: (q.drop (i+1)++Y)):=by rw [HE.out,hpi.1,hqi.1];simp
    have l1:(q.take i).length=i:=by rw [List.length_take];have:=HN.out;have:=HQ.out;omega
    have l2:(p.take i).length=i:=by rw [List.length_take];have:=HN.out;omega
    have l3:(p.drop (i+1)).length=p.length - (i+1):=List.length_drop
    have q1:=(Sr.j6 (i:=a+i) (j:=b+i) h1 (by rw [List.length_append,l1,HX.out]) (by simp only [List.length_append,l1,l2,l3];have:=HX.out;have:=HB.out;have:=HN.out;omega)).1
    rw [q1,List.take_add_one,List.take_add_one,hpi.2,hqi.2]
    simp)
   clear hpi hqi
   have jN:((a:Int)+(i:Int)).toNat=a+i:=by omega
   have jA:(0:Int)≤(a:Int)+(i:Int):=by omega
   have jI:(a:Int)+(i:Int)<(d.size:Int):=by omega
   have jM:IntKind.i64.wrap ((a:Int)+(i:Int))=(a:Int)+(i:Int):=by rw [IntKind.wrap_i64];omega
   have jP:((b:Int)+(i:Int)).toNat=b+i:=by omega
   have jD:(0:Int)≤(b:Int)+(i:Int):=by omega
   have bc1:(b:Int)+(i:Int)<(d.size:Int):=by omega
   have jK:IntKind.i64.wrap ((b:Int)+(i:Int))=(b:Int)+(i:Int):=by rw [IntKind.wrap_i64];omega
   have S2:Aside (SWK enc k w0 blk off (swp dk (a+i) (b+i)) ((wr.drew.setCells blk (off+(a+i) * k) (enc dk[b+i]!)).setCells blk (off+(b+i) * k) (enc dk[a+i]!))):=S1.out.swapped R (a+i) (b+i) (by omega) (by omega)
   have fP:=S1.out.ld1 R (by omega) P (a+i) (by omega)
   have fT:=S1.out.ld1 R (by omega) P (b+i) (by omega)
   have s1a:=S1.out.st1 R (by omega) P (a+i) (by omega) dk[b+i]!
   have s1b:=S1.out.st2 R (by omega) P (a+i) (b+i) (by omega) (by omega) dk[b+i]! dk[a+i]!
   have n1a:(enc dk[a+i]!).length=k:=R.hk _
   have n1b:(enc dk[b+i]!).length=k:=R.hk _
   generalize enc dk[a+i]! = cI1 at S2 fP s1b n1a
   generalize enc dk[b+i]! = cJ1 at S2 fT s1a s1b n1b
   clear S1
   go_wp2_with fail
   go_big_region_o
   clear fP fT s1a s1b
   generalize (wr.drew.setCells blk (off+(a+i) * k) cJ1).setCells blk (off+(b+i) * k) cI1=w2 at S2 ⊢
   clear jN jA jI jM jP jD bc1 jK
   go_wp2
   go_roundw
   case rel=>exact⟨i+1,_,by go_num,by omega,by rw [size_swp];exact hds,S2,xP⟩
   case measure=>simp [intOf];omega
  ·obtain rfl:i=n:=by omega
   have HF:=HE.out
   have e1:q.take i=q:=List.take_of_length_le (by have:=HN.out;have:=HQ.out;omega)
   have e2:p.take i=p:=List.take_of_length_le (by have:=HN.out;omega)
   have e3:q.drop i=[]:=List.drop_of_length_le (by have:=HN.out;have:=HQ.out;omega)
   have e4:p.drop i=[]:=List.drop_of_length_le (by have:=HN.out;omega)
   rw [e1,e2,e3,e4] at HF
   have HG:Hid (dk.toList=X++(q++(M++(p++Y)))):=hid (by simpa using HF)
   clear HF e1 e2 e3 e4
   go_wp2
   go_end0
   exact⟨rfl,dk,S1.out,hds,HG.out⟩
set_option maxRecDepth 1000000 in
theorem rotateL (L:zG P) (k:Nat) (aE:∀ w,(isAgg 60).run P w=.ok true w) (zE:∀ w,(Go.sizeOf 60).run P w=.ok k w) (enc:α→List Value) (blk off cap:Nat) (d0 d:Array α) (w0 w:World) (R:RowK enc k w0 blk off d0) (hs:d0.size=d.size) (S:SWK enc k w0 blk off d w) {X p q Y:List α} (hd:d.toList=X++(p++(q++Y))) (hp:0<p.length) (hq:0<q.length) (a m b:Nat) (ha:a=X.length) (hm:m=X.length+p.length) (hb:b=X.length+p.length+q.length) (hsz:d.size<4611686018427387904) (qC:Value) :
  Calls P 159 #[.slice (some ⟨blk,off,none⟩) d.size cap,.int .i64 a,.int .i64 m,.int .i64 b,qC] w fun e w'=>e=.returned (.tuple #[])∧SOkL enc k w0 blk off d (X++(q++(p++Y))) w':=by
 have mixed:=L.mixed;have u0:=L.u0;have a0:=L.a0;have z0:=L.z0;have v0:=L.v0;have u3:=L.u3;have a3:=L.a3;have z3:=L.z3;have v3:=L.v3;have u4:=L.u4;have a4:=L.a4;have z4:=L.z4;have v4:=L.v4;have u5:=L.u5;have a5:=L.a5;have z5:=L.z5;have v5:=L.v5;have u6:=L.u6;have a6:=L.a6;have z6:=L.z6;have v6:=L.v6;have u7:=L.u7;have a7:=L.a7;have z7:=L.z7;have v7:=L.v7
 have hlen:d.size=X.length+(p.length+(q.length+Y.length)):=by have:=congrArg List.length hd;simp only [Array.length_toList,List.length_append] at this;omega
 have HD:=hid hd
 have HX:=hid ha
 have HM:=hid hm
 have HB:=hid hb
 have S0:Aside _:=S
 have bb:b≤d.size:=by omega
 have am:a<m:=by omega
 have mb:m<b:=by omega
 have FG:=L.f2
 have e1:=L.e1
 clear hd ha hm hb S hlen
 go_enter FG,ntmps159
 go_wp2
 go_loopw [10,11] (fun s10 s11 wr=>∃ (i j:Nat) (dk:Array α) (X' p' q' Y':List α),s10=.int .i64 i∧s11=.int .i64 j∧0<i∧0<j∧i≤m∧m+j≤b∧dk.size=d.size∧Aside (SWK enc k w0 blk off dk wr) ∧
  Hid (p'.length=i∧q'.length=j∧X'.length+i=m∧dk.toList=X'++(p'++(q'++Y'))∧X'++(q'++(p'++Y'))=X++(q++(p++Y)))) (fun s10 s11 _=>(intOf s10).toNat+(intOf s11).toNat)
 case atStart=>exact⟨m - a,b - m,d,X,p,q,Y,by congr 1 <;> omega,by congr 1 <;> omega,by omega,by omega,by omega,by omega,rfl,S0,hid ⟨by have:=HX.out;have:=HM.out;omega,by have:=HM.out;have:=HB.out;omega,by have:=HX.out;have:=HM.out;omega,HD.out,rfl⟩⟩
 case round =>
  obtain⟨i,j,dk,X',p',q',Y',rfl,rfl,hi,hj,him,hjb,hds,S1,HE⟩:=hrel
  clear S0
  rcases Nat.lt_trichotomy i j with hlt | hlt | hlt
  ·have hne:((i:Int)==(j:Int))=false:=by simp;omega
   have hne2:((i:Int) != (j:Int))=true:=by simp;omega
   have hgt:¬ ((j:Int)<(i:Int)):=by omega
   have hcall:=oC (P:=P) L k aE zE enc blk off cap d0 dk w0 wr R (by omega) S1.out (X:=X') (p:=p') (M:=q'.take (j - i)) (q:=q'.drop (j - i)) (Y:=Y') (by rw [HE.out.2.2.2.1,← List.append_assoc (q'.take _),List.take_append_drop]) (by rw [List.length_drop];have:=HE.out.1;have:=HE.out.2.1;omega) (m - i) (m+j - i) i (by have:=HE.out.2.2.1;omega) (by rw [List.length_take];have:=HE.out.1;have:=HE.out.2.1;have:=HE.out.2.2.1;omega) HE.out.1.symm (by omega) qC
   rw [hds,show ((m - i:Nat):Int)=(m:Int) - (i:Int) by omega,show ((m+j - i:Nat):Int)=(m:Int)+(j:Int) - (i:Int) by omega] at hcall
   clear S1
   go_wp2_with (go_at_fn 166;refine hcall.mono ?_;rintro e w1 ⟨rfl,dk1,S2,hd1,hl1⟩)
   have S3:Aside _:=S2
   have HL:=hid hl1
   clear S2 hl1
   go_wp2
   go_roundw
   case rel=>exact⟨i,j - i,dk1,X',q'.drop (j - i),q'.take (j - i),p'++Y',rfl,by congr 1 <;> omega,hi,by omega,him,by omega,by omega,S3,hid ⟨by rw [List.length_drop];have:=HE.out.1;have:=HE.out.2.1;omega,by rw [List.length_take];have:=HE.out.2.1;omega,HE.out.2.2.1,by rw [HL.out],by rw [← HE.out.2.2.2.2,← List.append_assoc (q'.take _),List.take_append_drop]⟩⟩
   case measure=>simp [intOf];omega
  ·subst hlt
   have hcall:=oC (P:=P) L k aE zE enc blk off cap d0 dk w0 wr R (by omega) S1.out (X:=X') (p:=p') (M:=[]) (q:=q') (Y:=Y') (by rw [HE.out.2.2.2.1];rfl) (by have:=HE.out.1;have:=HE.out.2.1;omega) (m - i) m i (by have:=HE.out.2.2.1;omega) (by have:=HE.out.1;have:=HE.out.2.2.1;simp;omega) HE.out.1.symm (by omega) qC
   rw [hds,show ((m - i:Nat):Int)=(m:Int) - (i:Int) by omega] at hcall
   clear S1
   go_wp2_with (go_at_fn 166;refine hcall.mono ?_;rintro e w1 ⟨rfl,dk1,S2,hd1,hl1⟩)
   have S3:Aside _:=S2
   have HL:=hid hl1
   clear S2 hl1
   go_wp2
   go_end0
   exact⟨rfl,dk1,S3.out,by omega,by rw [HL.out,← HE.out.2.2.2.2];rfl⟩
  ·have hne:((i:Int)==(j:Int))=false:=by simp;omega
   have hne2:((i:Int) != (j:Int))=true:=by simp;omega
   have hgt:(j:Int)<(i:Int):=by omega
   have hcall:=oC (P:=P) L k aE zE enc blk off cap d0 dk w0 wr R (by omega) S1.out (X:=X') (p:=p'.take j) (M:=p'.drop j) (q:=q') (Y:=Y') (by rw [HE.out.2.2.2.1,← List.append_assoc (p'.take _),List.take_append_drop]) (by rw [List.length_take];have:=HE.out.1;have:=HE.out.2.1;omega) (m - i) m j (by have:=HE.out.2.2.1;omega) (by rw [List.length_take,List.length_drop];have:=HE.out.1;have:=HE.out.2.1;have:=HE.out.2.2.1;omega) (by rw [List.length_take];have:=HE.out.1;omega) (by omega) qC
   rw [hds,show ((m - i:Nat):Int)=(m:Int) - (i:Int) by omega] at hcall
   clear S1
   go_wp2_with (go_at_fn 166;refine hcall.mono ?_;rintro e w1 ⟨rfl,dk1,S2,hd1,hl1⟩)
   have S3:Aside _:=S2
   have HL:=hid hl1
   clear S2 hl1
   go_wp2
   go_roundw
   case rel=>exact⟨i - j,j,dk1,X'++q',p'.drop j,p'.take j,Y',by congr 1 <;> omega,rfl,by omega,hj,by omega,hjb,by omega,S3,hid ⟨by rw [List.length_drop];have:=HE.out.1;omega,by rw [List.length_take];have:=HE.out.1;omega,by rw [List.length_append];have:=HE.out.2.1;have:=HE.out.2.2.1;omega,by rw [HL.out];simp,by rw [← HE.out.2.2.2.2,List.append_assoc,← List.append_assoc (p'.take _),List.take_append_drop]⟩⟩
   case measure=>simp [intOf];omega
def qf (cf:α→α→Int) (enc:α→List Value) (k:Nat) (w0:World) (blk off:Nat) (d:Array α) (A B C:List α) (w':World):Prop :=
 ∃ (dk:Array α) (W:List α),SWK enc k w0 blk off dk w'∧dk.size=d.size∧dk.toList=A++(W++C)∧W.length=B.length∧Sr.dV (ltOf cf) W∧Sr.d_ (ltOf cf) B W
set_option maxRecDepth 1000000 in
theorem tT (L:zG P) (k:Nat) (aE:∀ w,(isAgg 60).run P w=.ok true w) (zE:∀ w,(Go.sizeOf 60).run P w=.ok k w) (enc:α→List Value) (blk off cap:Nat) (d0 d:Array α) (w0 w:World) (R:RowK enc k w0 blk off d0) (hs:d0.size=d.size) (S:SWK enc k w0 blk off d w) (cf:α→α→Int) (g:Nat) (cb:Array Value) (eg:∀ args w,(callFunc g args).run P w=.ok (.enter g args) w) (hcmp:CmpLays P g cb enc k cf blk off d0.size w0) (ho:Sr.WO (ltOf cf)) {A B C:List α} (hd:d.toList=A++(B++C)) (a b:Nat) (ha:a=A.length) (hb:b=A.length+B.length) (hsz:d.size<4611686018427387904) :
  Calls P 143 #[.slice (some ⟨blk,off,none⟩) d.size cap,.int .i64 a,.int .i64 b,.func (.func g) #[] cb] w fun e w'=>e=.returned (.tuple #[])∧qf cf enc k w0 blk off d A B C w':=by
 have mixed:=L.mixed;have u0:=L.u0;have a0:=L.a0;have z0:=L.z0;have v0:=L.v0;have u3:=L.u3;have a3:=L.a3;have z3:=L.z3;have v3:=L.v3;have u4:=L.u4;have a4:=L.a4;have z4:=L.z4;have v4:=L.v4;have u5:=L.u5;have a5:=L.a5;have z5:=L.z5;have v5:=L.v5;have u6:=L.u6;have a6:=L.a6;have z6:=L.z6;have v6:=L.v6;have u7:=L.u7;have a7:=L.a7;have z7:=L.z7;have v7:=L.v7
 have hlen:d.size=A.length+(B.length+C.length):=by have:=congrArg List.length hd;simp only [Array.length_toList,List.length_append] at this;omega
 have HD:=hid hd
 have HA:=hid ha
 have n_:=hid hb
 have HC:Aside _:=hcmp
 have S0:Aside _:=S
 have bb:b≤d.size:=by omega
 have ab:a≤b:=by omega
 have FG:=L.f3
 clear hd ha hb S hlen hcmp
 go_enter FG,ntmps143
 go_wp2
 go_loopw [8] (fun s8 wr=>∃ (i:Nat) (dk:Array α) (T R' W:List α),s8=.int .i64 i∧a<i∧i≤b+1∧dk.size=d.size∧Aside (SWK enc k w0 blk off dk wr) ∧
  Hid (B=T++R'∧(i<b→a+T.length=i)∧(b≤i→R'=[])∧dk.toList=A++(W++(R'++C))∧W.length=T.length∧Sr.dV (ltOf cf) W∧Sr.d_ (ltOf cf) T W)) (fun s8 _=>b+1 - (intOf s8).toNat)
 case atStart =>
  refine⟨a+1,d,B.take 1,B.drop 1,B.take 1,by go_num,by omega,by omega,rfl,S0,hid ⟨(List.take_append_drop 1 B).symm,fun h=>by rw [List.length_take];have:=HA.out;have:=n_.out;omega,fun h=>List.drop_of_length_le (by have:=HA.out;have:=n_.out;omega),by rw [← List.append_assoc (B.take 1),List.take_append_drop];exact HD.out,rfl,?_,Sr.d_.refl _⟩⟩
  rcases B with _ | ⟨x,B⟩
  ·exact Sr.dV.nil
  ·exact Sr.dV.one x
 case round =>
  obtain⟨i,dk,T,R',W,rfl,hai,hib,hds,S1,HE⟩:=hrel
  clear S0
  by_cases hlt:i<b
  ·have hltz:(i:Int)<(b:Int):=by omega
   obtain⟨x,R2,hR⟩:∃ x R2,R'=x :: R2:=by
    have h1:=HE.out.1
    have h2:=HE.out.2.1 hlt
    have h3:=congrArg List.length h1
    rw [List.length_append] at h3
    have:=HA.out;have:=n_.out
    cases hq:R' with
    | nil=>rw [hq] at h3;simp at h3;omega
    | cons x R2=>exact⟨x,R2,rfl⟩
   have HI0:Hid (Sr.Ins (ltOf cf) A (T++[x]) (R2++C) dk.toList i):=hid (by
    have:=Sr.Ins.start (lt:=ltOf cf) (A:=A) (T:=T) (C:=R2++C) (m:=dk.toList) (x:=x) (W:=W) (by rw [HE.out.2.2.2.1,hR];simp) HE.out.2.2.2.2.1 HE.out.2.2.2.2.2.1 HE.out.2.2.2.2.2.2
    rwa [show A.length+W.length=i by have:=HE.out.2.1 hlt;have:=HE.out.2.2.2.2.1;have:=HA.out;omega] at this)
   have HR:=hid hR
   clear hR
   go_wp2
   go_loopw [9] (fun s9 wr2=>∃ (j:Nat) (dj:Array α),s9=.int .i64 j∧a≤j∧j≤i∧dj.size=d.size∧Aside (SWK enc k w0 blk off dj wr2)∧Hid (Sr.Ins (ltOf cf) A (T++[x]) (R2++C) dj.toList j)) (fun s9 _=>(intOf s9).toNat)
   case atStart=>exact⟨i,dk,rfl,by omega,Nat.le_refl _,hds,S1,HI0⟩
   case round =>
    clear S1
    obtain⟨j,dj,rfl,haj,hji,hsj,S1,HI⟩:=hrel
    have OUT:Hid ((j≤a∨ltOf cf dj[j]! dj[j - 1]! = false)→B=(T++[x])++R2∧(i+1<b→a+(T++[x]).length=i+1)∧(b≤i+1→R2=[])∧∃ W2:List α,dj.toList=A++(W2++(R2++C))∧W2.length=(T++[x]).length∧Sr.dV (ltOf cf) W2∧Sr.d_ (ltOf cf) (T++[x]) W2):=hid fun hst=>by
     have q1:B=(T++[x])++R2:=by rw [HE.out.1,HR.out];simp
     have q2:=HE.out.2.1 hlt
     have q3:=congrArg List.length q1
     rw [List.length_append,List.length_append,List.length_singleton] at q3
     refine⟨q1,fun _=>by rw [List.length_append,List.length_singleton];omega,fun _=>List.length_eq_zero_iff.1 (by have:=HA.out;have:=n_.out;omega),?_⟩
     exact HI.out.stop ho (hst.imp (fun q=>by have:=HA.out;omega) id)
    by_cases hja:a<j
    ·obtain⟨jp,rfl⟩:∃ jp,j=jp+1:=⟨j - 1,by omega⟩
     have hjaz':(a:Int)<(jp:Int)+1:=by omega
     have hwp:IntKind.i64.wrap (jp:Int)=(jp:Int):=by rw [IntKind.wrap_i64];omega
     have jz1:(jp:Int)<(d.size:Int):=by omega
     cases hL:ltOf cf dj[jp+1]! dj[jp]! with
     | true =>
      have HL:=hid hL
      have jN:((jp:Int)+1).toNat=jp+1:=by omega
      have jA:(0:Int)≤(jp:Int)+1:=by omega
      have jI:(jp:Int)+1<(d.size:Int):=by omega
      have jM:IntKind.i64.wrap ((jp:Int)+1)=(jp:Int)+1:=by rw [IntKind.wrap_i64];omega
      have jP:((jp:Int)).toNat=jp:=by omega
      have jD:(0:Int)≤(jp:Int):=by omega
      have bc1:(jp:Int)<(d.size:Int):=by omega
      have jK:IntKind.i64.wrap ((jp:Int))=(jp:Int):=by rw [IntKind.wrap_i64];omega
      obtain⟨x1,hx1⟩:∃ x,x=dj[jp+1]!:=⟨_,rfl⟩
      obtain⟨y1,hy1⟩:∃ x,x=dj[jp]!:=⟨_,rfl⟩
      have fP:=S1.out.ld R (by omega) P (jp+1) (by omega)
      have fT:=S1.out.ld R (by omega) P (jp) (by omega)
      rw [← hx1] at fP
      rw [← hy1] at fT
      have hc1:=S1.out.cmp HC.out (by omega) x1 y1
      have hv1:cf x1 y1<0:=by rw [hx1,hy1];exact of_decide_eq_true hL
      have hd1:decide (cf x1 y1<0)=true:=decide_eq_true hv1
      clear hx1 hy1
      go_wp2_with fail
      go_quiet_grown (first | (go_at_fn g;refine Calls.grown_of (hc1 _ _)))
      have S2:Aside (SWK enc k w0 blk off dj (grow (wr.drewN nq) osq)):=S1.out.grown nq osq
      clear fP fT hc1 S1
      generalize grow (wr.drewN nq) osq=w2 at S2 ⊢
      clear nq osq jN jA jI jM jP jD bc1 jK
      clear hL
      go_wp2_with fail
      have xP:Hid (Sr.Ins (ltOf cf) A (T++[x]) (R2++C) (swp dj (jp+1) jp).toList jp):=hid (HI.out.step ho (by have:=HA.out;omega) HL.out)
      have rD:((jp:Int)+1).toNat=jp+1:=by omega
      have rF:(0:Int)≤(jp:Int)+1:=by omega
      have rV:(jp:Int)+1<(d.size:Int):=by omega
      have rJ:IntKind.i64.wrap ((jp:Int)+1)=(jp:Int)+1:=by rw [IntKind.wrap_i64];omega
      have rR:((jp:Int)).toNat=jp:=by omega
      have rG:(0:Int)≤(jp:Int):=by omega
      have bc2:(jp:Int)<(d.size:Int):=by omega
      have rO:IntKind.i64.wrap ((jp:Int))=(jp:Int):=by rw [IntKind.wrap_i64];omega
      have S3:Aside (SWK enc k w0 blk off (swp dj (jp+1) (jp)) ((w2.drew.setCells blk (off+(jp+1) * k) (enc dj[jp]!)).setCells blk (off+(jp) * k) (enc dj[jp+1]!))):=S2.out.swapped R (jp+1) (jp) (by omega) (by omega)
      have lg:=S2.out.ld1 R (by omega) P (jp+1) (by omega)
      have lI:=S2.out.ld1 R (by omega) P (jp) (by omega)
      have yS:=S2.out.st1 R (by omega) P (jp+1) (by omega) dj[jp]!
      have uB:=S2.out.st2 R (by omega) P (jp+1) (jp) (by omega) (by omega) dj[jp]! dj[jp+1]!
      have JB:(enc dj[jp+1]!).length=k:=R.hk _
      have II:(enc dj[jp]!).length=k:=R.hk _
      generalize enc dj[jp+1]! = cI2 at S3 lg uB JB
      generalize enc dj[jp]! = cJ2 at S3 lI yS uB II
      clear S2
      go_wp2_with fail
      go_big_region_o
      clear lg lI yS uB
      generalize (w2.drew.setCells blk (off+(jp+1) * k) cJ2).setCells blk (off+(jp) * k) cI2=w3 at S3 ⊢
      clear rD rF rV rJ rR rG bc2 rO
      go_wp2
      go_roundw
      case rel=>exact⟨jp,_,by first | rfl | go_num | (congr 1;omega),by omega,by omega,by rw [size_swp];exact hsj,S3,xP⟩
      case measure=>simp [intOf] <;> omega
     | false =>
      have HL:=hid hL
      have jN:((jp:Int)+1).toNat=jp+1:=by omega
      have jA:(0:Int)≤(jp:Int)+1:=by omega
      have jI:(jp:Int)+1<(d.size:Int):=by omega
      have jM:IntKind.i64.wrap ((jp:Int)+1)=(jp:Int)+1:=by rw [IntKind.wrap_i64];omega
      have jP:((jp:Int)).toNat=jp:=by omega
      have jD:(0:Int)≤(jp:Int):=by omega
      have bc1:(jp:Int)<(d.size:Int):=by omega
      have jK:IntKind.i64.wrap ((jp:Int))=(jp:Int):=by rw [IntKind.wrap_i64];omega
      obtain⟨x1,hx1⟩:∃ x,x=dj[jp+1]!:=⟨_,rfl⟩
      obtain⟨y1,hy1⟩:∃ x,x=dj[jp]!:=⟨_,rfl⟩
      have fP:=S1.out.ld R (by omega) P (jp+1) (by omega)
      have fT:=S1.out.ld R (by omega) P (jp) (by omega)
      rw [← hx1] at fP
      rw [← hy1] at fT
      have hc1:=S1.out.cmp HC.out (by omega) x1 y1
      have hv1:¬ cf x1 y1<0:=by rw [hx1,hy1];exact of_decide_eq_false hL
      have hd1:decide (cf x1 y1<0)=false:=decide_eq_false hv1
      clear hx1 hy1
      go_wp2_with fail
      go_quiet_grown (first | (go_at_fn g;refine Calls.grown_of (hc1 _ _)))
      have S2:Aside (SWK enc k w0 blk off dj (grow (wr.drewN nq) osq)):=S1.out.grown nq osq
      clear fP fT hc1 S1
      generalize grow (wr.drewN nq) osq=w2 at S2 ⊢
      clear nq osq jN jA jI jM jP jD bc1 jK
      clear hL
      go_wp2
      go_roundw
      case rel =>
       obtain⟨o1,o2,o3,W2,o4,o5,o6,o7⟩:=OUT.out (.inr HL.out)
       exact⟨i+1,dj,T++[x],R2,W2,by go_num,by omega,by omega,hsj,S2,hid ⟨o1,o2,o3,o4,o5,o6,o7⟩⟩
      case measure=>simp [intOf];omega
    ·have hjaz:decide ((j:Int) > (a:Int))=false:=decide_eq_false (by omega)
     have hjaz':¬ (a:Int)<(j:Int):=by omega
     have S2:Aside (SWK enc k w0 blk off dj wr.drew):=S1.out.drew
     clear S1
     go_wp2_with fail
     go_big_region_o
     all_goals go_wp2
     go_roundw
     case rel =>
      obtain⟨o1,o2,o3,W2,o4,o5,o6,o7⟩:=OUT.out (.inl (by omega))
      exact⟨i+1,dj,T++[x],R2,W2,by go_num,by omega,by omega,hsj,S2,hid ⟨o1,o2,o3,o4,o5,o6,o7⟩⟩
     case measure=>simp [intOf];omega
  ·have hltz:¬ (i:Int)<(b:Int):=by omega
   obtain⟨h1,h2,h3,h4,h5,h6,h7⟩:=HE.out
   have h3:=h3 (by omega)
   subst h3
   rw [List.append_nil] at h1
   subst h1
   have HE2:Hid _:=hid (And.intro h4 (And.intro h5 (And.intro h6 h7)))
   clear h2 h4 h5 h6 h7
   go_wp2
   go_end0
   exact⟨rfl,dk,W,S1.out,hds,by have:=HE2.out.1;simpa using this,HE2.out.2.1,HE2.out.2.2.1,HE2.out.2.2.2⟩
end
section
open Go.Shelf Go.RowKit Go.Lib Go.Sort
variable {P : Program} {α : Type} [Inhabited α]
set_option maxRecDepth 1000000 in
theorem symOneL (L:zG P) (k:Nat) (aE:∀ w,(isAgg 60).run P w=.ok true w) (zE:∀ w,(Go.sizeOf 60).run P w=.ok k w) (enc:α→List Value) (blk off cap:Nat) (d0 d:Array α) (w0 w:World) (R:RowK enc k w0 blk off d0) (hs:d0.size=d.size) (S:SWK enc k w0 blk off d w) (cf:α→α→Int) (g:Nat) (cb:Array Value) (eg:∀ args w,(callFunc g args).run P w=.ok (.enter g args) w) (hcmp:CmpLays P g cb enc k cf blk off d0.size w0) (ho:Sr.WO (ltOf cf)) {A V C:List α} {x:α} (hd:d.toList=A++(x :: V++C)) (sv:Sr.dV (ltOf cf) V) (a m b:Nat) (ha:a=A.length) (hm:m=A.length+1) (hb:b=A.length+1+V.length) (hsz:d.size<4611686018427387904) :
  Calls P 144 #[.slice (some ⟨blk,off,none⟩) d.size cap,.int .i64 a,.int .i64 m,.int .i64 b,.func (.func g) #[] cb] w fun e w'=>e=.returned (.tuple #[])∧qf cf enc k w0 blk off d A (x :: V) C w':=by
 have mixed:=L.mixed;have u0:=L.u0;have a0:=L.a0;have z0:=L.z0;have v0:=L.v0;have u3:=L.u3;have a3:=L.a3;have z3:=L.z3;have v3:=L.v3;have u4:=L.u4;have a4:=L.a4;have z4:=L.z4;have v4:=L.v4;have u5:=L.u5;have a5:=L.a5;have z5:=L.z5;have v5:=L.v5;have u6:=L.u6;have a6:=L.a6;have z6:=L.z6;have v6:=L.v6;have u7:=L.u7;have a7:=L.a7;have z7:=L.z7;have v7:=L.v7
 have hlen:d.size=A.length+(1+V.length+C.length):=by have:=congrArg List.length hd;simp only [Array.length_toList,List.length_append,List.length_cons] at this;omega
 have HX:Hid (d[a]! = x):=hid (Sr.kW (A:=A) (x:=x) (B:=V++C) (by rw [hd];simp) ha).1
 have HP:Hid (∀ n y,V[n]?=some y→d[a+1+n]! = y):=hid fun n y h=>Sr.kS (P:=A++[x]) (L:=V) (Q:=C) (by rw [hd];simp) h (by simp;omega)
 have HD:=hid hd
 have HA:=hid ha
 have n_:=hid hb
 have HC:Aside _:=hcmp
 have S0:Aside _:=S
 have bb:b≤d.size:=by omega
 have am:m≤a+1:=by omega
 have am2:a+1≤m:=by omega
 have mb:m≤b:=by omega
 have vl:V.length=b - (a+1):=by omega
 have VL:=hid vl
 have FG:=L.f4
 clear hd ha hb hm S hlen hcmp vl
 have w1:IntKind.i64.wrap ((m:Int) - (a:Int))=1:=by rw [IntKind.wrap_i64];omega
 have w2:(m:Int) - (a:Int)=1:=by omega
 go_enter FG,ntmps144
 go_wp2_with fail
 go_loopw [10,11] (fun s10 s11 wr=>∃ i j:Nat,s10=.int .i64 i∧s11=.int .i64 j∧a+1≤i∧i≤j∧j≤b∧Aside (SWK enc k w0 blk off d wr)∧Hid ((∀ z∈V.take (i - (a+1)),ltOf cf z x=true)∧(∀ z∈V.drop (j - (a+1)),ltOf cf z x=false))) (fun s10 s11 _=>(intOf s11).toNat - (intOf s10).toNat)
 case atStart=>exact⟨m,b,rfl,rfl,am2,mb,Nat.le_refl _,S0,hid ⟨by rw [show m - (a+1)=0 by omega];simp,by rw [List.drop_of_length_le (by have:=VL.out;omega)];simp⟩⟩
 case round =>
  obtain⟨i,j,rfl,rfl,h1,h2,h3,S1,HE⟩:=hrel
  clear S0
  by_cases hlt:i<j
  ·obtain⟨h,hh1,zL⟩:∃ h:Nat,2 * h≤i+j∧i+j<2 * h+2:=⟨(i+j) / 2,by omega,by omega⟩
   obtain⟨z,hz1,hz2,hz3,sV⟩:=Sr.jB (L:=V) (n:=h - (a+1)) (by have:=VL.out;omega)
   have HZ:Hid (d[h]! = z):=hid (by have:=HP.out _ _ hz2;rwa [show a+1+(h - (a+1))=h by omega] at this)
   have SV:Hid (Sr.dV (ltOf cf) (V.take (h - (a+1))++z :: V.drop (h - (a+1)+1))):=hid (by rw [← hz1];exact sv)
   have HZ3:=hid hz3
   have HZ4:=hid sV
   clear hz1 hz2 hz3 sV
   cases hL:ltOf cf d[h]! d[a]! with
   | true =>
    have HN:Hid (∀ z'∈V.take (h+1 - (a+1)),ltOf cf z' x=true):=hid (by
     rw [show h+1 - (a+1)=h - (a+1)+1 by omega,HZ4.out]
     exact Sr.Bp ho SV.out (by rw [← HZ.out,← HX.out];exact hL))
    have jN:(((i:Int)+(j:Int)) / 2).toNat=h:=by omega
    have jA:(0:Int)≤((i:Int)+(j:Int)) / 2:=by omega
    have jI:((i:Int)+(j:Int)) / 2<(d.size:Int):=by omega
    have jM:IntKind.i64.wrap (((i:Int)+(j:Int)) / 2)=((i:Int)+(j:Int)) / 2:=by rw [IntKind.wrap_i64];omega
    have jP:((a:Int)).toNat=a:=by omega
    have jD:(0:Int)≤(a:Int):=by omega
    have bc1:(a:Int)<(d.size:Int):=by omega
    have jK:IntKind.i64.wrap ((a:Int))=(a:Int):=by rw [IntKind.wrap_i64];omega
    obtain⟨x1,hx1⟩:∃ x,x=d[h]!:=⟨_,rfl⟩
    obtain⟨y1,hy1⟩:∃ x,x=d[a]!:=⟨_,rfl⟩
    have fP:=S1.out.ld R (by omega) P (h) (by omega)
    have fT:=S1.out.ld R (by omega) P (a) (by omega)
    rw [← hx1] at fP
    rw [← hy1] at fT
    have hc1:=S1.out.cmp HC.out (by omega) x1 y1
    have hv1:cf x1 y1<0:=by rw [hx1,hy1];exact of_decide_eq_true hL
    have hd1:decide (cf x1 y1<0)=true:=decide_eq_true hv1
    clear hx1 hy1
    go_wp2_with fail
    go_quiet_grown (first | (go_at_fn g;refine Calls.grown_of (hc1 _ _)))
    have S2:Aside (SWK enc k w0 blk off d (grow (wr.drewN nq) osq)):=S1.out.grown nq osq
    clear fP fT hc1 S1
    generalize grow (wr.drewN nq) osq=w2 at S2 ⊢
    clear nq osq jN jA jI jM jP jD bc1 jK
    clear hL
    have eh:((i:Int)+(j:Int)) / 2=(h:Int):=by omega
    go_wp2
    go_roundw
    case rel=>exact⟨h+1,j,by go_num,rfl,by omega,by omega,h3,S2,hid ⟨HN.out,HE.out.2⟩⟩
    case measure=>simp [intOf];omega
   | false =>
    have HN:Hid (∀ z'∈V.drop (h - (a+1)),ltOf cf z' x=false):=hid (by
     rw [HZ3.out]
     exact Sr.FJ ho SV.out (by rw [← HZ.out,← HX.out];exact hL))
    have jN:(((i:Int)+(j:Int)) / 2).toNat=h:=by omega
    have jA:(0:Int)≤((i:Int)+(j:Int)) / 2:=by omega
    have jI:((i:Int)+(j:Int)) / 2<(d.size:Int):=by omega
    have jM:IntKind.i64.wrap (((i:Int)+(j:Int)) / 2)=((i:Int)+(j:Int)) / 2:=by rw [IntKind.wrap_i64];omega
    have jP:((a:Int)).toNat=a:=by omega
    have jD:(0:Int)≤(a:Int):=by omega
    have bc1:(a:Int)<(d.size:Int):=by omega
    have jK:IntKind.i64.wrap ((a:Int))=(a:Int):=by rw [IntKind.wrap_i64];omega
    obtain⟨x1,hx1⟩:∃ x,x=d[h]!:=⟨_,rfl⟩
    obtain⟨y1,hy1⟩:∃ x,x=d[a]!:=⟨_,rfl⟩
    have fP:=S1.out.ld R (by omega) P (h) (by omega)
    have fT:=S1.out.ld R (by omega) P (a) (by omega)
    rw [← hx1] at fP
    rw [← hy1] at fT
    have hc1:=S1.out.cmp HC.out (by omega) x1 y1
    have hv1:¬ cf x1 y1<0:=by rw [hx1,hy1];exact of_decide_eq_false hL
    have hd1:decide (cf x1 y1<0)=false:=decide_eq_false hv1
    clear hx1 hy1
    go_wp2_with fail
    go_quiet_grown (first | (go_at_fn g;refine Calls.grown_of (hc1 _ _)))
    have S2:Aside (SWK enc k w0 blk off d (grow (wr.drewN nq) osq)):=S1.out.grown nq osq
    clear fP fT hc1 S1
    generalize grow (wr.drewN nq) osq=w2 at S2 ⊢
    clear nq osq jN jA jI jM jP jD bc1 jK
    clear hL
    have eh:((i:Int)+(j:Int)) / 2=(h:Int):=by omega
    go_wp2
    go_roundw
    case rel=>exact⟨i,h,rfl,by go_num,h1,by omega,by omega,S2,hid ⟨HE.out.1,HN.out⟩⟩
    case measure=>simp [intOf];omega
  ·obtain rfl:i=j:=by omega
   clear h2
   go_wp2_with fail
   go_loopw [13] (fun s13 wr2=>∃ (kk:Nat) (dk:Array α),s13=.int .i64 kk∧a≤kk∧kk+1≤i∧dk.size=d.size∧Aside (SWK enc k w0 blk off dk wr2)∧Hid (dk.toList=A++(V.take (kk - a)++x :: (V.drop (kk - a)++C)))) (fun s13 _=>i - (intOf s13).toNat)
   case atStart=>exact⟨a,d,rfl,Nat.le_refl _,h1,rfl,S1,hid (by rw [HD.out];simp)⟩
   case round =>
    clear S1
    obtain⟨kk,dk,rfl,k1,k2,hds,S1,HF⟩:=hrel
    by_cases hlt2:kk+1<i
    ·have hlz:(kk:Int)<(i:Int) - 1:=by omega
     obtain⟨z,hz1,hz2,hz3,sV⟩:=Sr.jB (L:=V) (n:=kk - a) (by have:=VL.out;omega)
     have xP:Hid ((swp dk kk (kk+1)).toList=A++(V.take (kk+1 - a)++x :: (V.drop (kk+1 - a)++C))):=hid (by
      have q:=(Sr.j6 (d:=dk) (A:=A++V.take (kk - a)) (B:=[]) (C:=V.drop (kk - a+1)++C) (x:=x) (y:=z) (i:=kk) (j:=kk+1) (by rw [HF.out,hz3];simp) (by rw [List.length_append,List.length_take];have:=VL.out;have:=HA.out;omega) (by rw [List.length_append,List.length_take];have:=VL.out;have:=HA.out;simp;omega)).1
      rw [q,show kk+1 - a=kk - a+1 by omega,sV]
      simp)
     clear hz1 hz2 hz3 sV
     have dsz:dk.size=d.size:=hds
     have rD:((kk:Int)).toNat=kk:=by omega
     have rF:(0:Int)≤(kk:Int):=by omega
     have rV:(kk:Int)<(d.size:Int):=by omega
     have rJ:IntKind.i64.wrap ((kk:Int))=(kk:Int):=by rw [IntKind.wrap_i64];omega
     have rR:((kk:Int)+1).toNat=kk+1:=by omega
     have rG:(0:Int)≤(kk:Int)+1:=by omega
     have bc2:(kk:Int)+1<(d.size:Int):=by omega
     have rO:IntKind.i64.wrap ((kk:Int)+1)=(kk:Int)+1:=by rw [IntKind.wrap_i64];omega
     have S2:Aside (SWK enc k w0 blk off (swp dk (kk) (kk+1)) ((wr.drew.setCells blk (off+(kk) * k) (enc dk[kk+1]!)).setCells blk (off+(kk+1) * k) (enc dk[kk]!))):=S1.out.swapped R (kk) (kk+1) (by omega) (by omega)
     have lg:=S1.out.ld1 R (by omega) P (kk) (by omega)
     have lI:=S1.out.ld1 R (by omega) P (kk+1) (by omega)
     have yS:=S1.out.st1 R (by omega) P (kk) (by omega) dk[kk+1]!
     have uB:=S1.out.st2 R (by omega) P (kk) (kk+1) (by omega) (by omega) dk[kk+1]! dk[kk]!
     have JB:(enc dk[kk]!).length=k:=R.hk _
     have II:(enc dk[kk+1]!).length=k:=R.hk _
     generalize enc dk[kk]! = cI2 at S2 lg uB JB
     generalize enc dk[kk+1]! = cJ2 at S2 lI yS uB II
     clear S1
     go_wp2_with fail
     go_big_region_o
     clear lg lI yS uB
     generalize (wr.drew.setCells blk (off+(kk) * k) cJ2).setCells blk (off+(kk+1) * k) cI2=w2 at S2 ⊢
     clear rD rF rV rJ rR rG bc2 rO
     go_wp2
     go_roundw
     case rel=>exact⟨kk+1,_,by go_num,by omega,by omega,by rw [size_swp];exact hds,S2,xP⟩
     case measure=>simp [intOf];omega
    ·have hlz:¬ (kk:Int)<(i:Int) - 1:=by omega
     have ek:kk - a=i - (a+1):=by omega
     have HG:=HF.out
     rw [ek] at HG
     have HG2:=hid HG
     clear HG
     have SV:Hid (Sr.dV (ltOf cf) (V.take (i - (a+1))++x :: V.drop (i - (a+1)))):=hid (by
      have I5:=sv
      rw [← List.take_append_drop (i - (a+1)) V] at I5
      obtain⟨p1,p2,p3⟩:=Sr.dV.parts I5
      refine Sr.dV.app p1 (List.pairwise_cons.2 ⟨fun z hz=>HE.out.2 z hz,p2⟩) fun p hp y hy=>?_
      rcases List.mem_cons.1 hy with rfl | q
      ·exact ho.asym (HE.out.1 p hp)
      ·exact p3 p hp y q)
     have SB:Hid (Sr.d_ (ltOf cf) (x :: V) (V.take (i - (a+1))++x :: V.drop (i - (a+1)))):=hid (by
      have c:Sr.d_ (ltOf cf) ([x]++V.take (i - (a+1))) (V.take (i - (a+1))++[x]):=Sr.d_.comm ho (by intro u hu v hv;simp at hu;subst hu;exact HE.out.1 v hv)
      have:=c.app (Sr.d_.refl (lt:=ltOf cf) (V.drop (i - (a+1))))
      simpa using this)
     go_wp2
     refine bodyPost_ret (results_none rfl _ _ _) rfl ?_
     exact⟨rfl,dk,V.take (i - (a+1))++x :: V.drop (i - (a+1)),S1.out,hds,by rw [HG2.out];simp,by simp only [List.length_append,List.length_cons,List.length_take,List.length_drop];have:=VL.out;omega,SV.out,SB.out⟩
set_option maxRecDepth 1000000 in
theorem Hr (L:zG P) (k:Nat) (aE:∀ w,(isAgg 60).run P w=.ok true w) (zE:∀ w,(Go.sizeOf 60).run P w=.ok k w) (enc:α→List Value) (blk off cap:Nat) (d0 d:Array α) (w0 w:World) (R:RowK enc k w0 blk off d0) (hs:d0.size=d.size) (S:SWK enc k w0 blk off d w) (cf:α→α→Int) (g:Nat) (cb:Array Value) (eg:∀ args w,(callFunc g args).run P w=.ok (.enter g args) w) (hcmp:CmpLays P g cb enc k cf blk off d0.size w0) (ho:Sr.WO (ltOf cf)) {A U C:List α} {y:α} (hd:d.toList=A++(U++y :: C)) (su:Sr.dV (ltOf cf) U) (a m b:Nat) (ha:a=A.length) (hm:m=A.length+U.length) (hb:b=A.length+U.length+1) (hu:1<U.length) (hsz:d.size<4611686018427387904) :
  Calls P 144 #[.slice (some ⟨blk,off,none⟩) d.size cap,.int .i64 a,.int .i64 m,.int .i64 b,.func (.func g) #[] cb] w fun e w'=>e=.returned (.tuple #[])∧qf cf enc k w0 blk off d A (U++[y]) C w':=by
 have mixed:=L.mixed;have u0:=L.u0;have a0:=L.a0;have z0:=L.z0;have v0:=L.v0;have u3:=L.u3;have a3:=L.a3;have z3:=L.z3;have v3:=L.v3;have u4:=L.u4;have a4:=L.a4;have z4:=L.z4;have v4:=L.v4;have u5:=L.u5;have a5:=L.a5;have z5:=L.z5;have v5:=L.v5;have u6:=L.u6;have a6:=L.a6;have z6:=L.z6;have v6:=L.v6;have u7:=L.u7;have a7:=L.a7;have z7:=L.z7;have v7:=L.v7
 have hlen:d.size=A.length+(U.length+(1+C.length)):=by have:=congrArg List.length hd;simp only [Array.length_toList,List.length_append,List.length_cons] at this;omega
 have HX:Hid (d[m]! = y):=hid (Sr.kW (A:=A++U) (x:=y) (B:=C) (by rw [hd];simp) (by rw [List.length_append];exact hm)).1
 have HP:Hid (∀ n z,U[n]?=some z→d[a+n]! = z):=hid fun n z h=>Sr.kS (P:=A) (L:=U) (Q:=y :: C) (by rw [hd]) h (by omega)
 have HD:=hid hd
 have HA:=hid ha
 have HC:Aside _:=hcmp
 have S0:Aside _:=S
 have bm:b≤m+1:=by omega
 have bm2:m+1≤b:=by omega
 have bb:m<d.size:=by omega
 have am:a+1<m:=by omega
 have vl:U.length=m - a:=by omega
 have VL:=hid vl
 have FG:=L.f4
 clear hd ha hb hm S hlen hcmp vl hu
 have w1:IntKind.i64.wrap ((b:Int) - (m:Int))=1:=by rw [IntKind.wrap_i64];omega
 have w2:(b:Int) - (m:Int)=1:=by omega
 have w3:((m:Int) - (a:Int)==1)=false:=by simp;omega
 have w4:¬ (m:Int) - (a:Int)=1:=by omega
 go_enter FG,ntmps144
 go_wp2_with fail
 go_loopw [14,15] (fun s10 s11 wr=>∃ i j:Nat,s10=.int .i64 i∧s11=.int .i64 j∧a≤i∧i≤j∧j≤m∧Aside (SWK enc k w0 blk off d wr)∧Hid ((∀ z∈U.take (i - a),ltOf cf y z=false)∧(∀ z∈U.drop (j - a),ltOf cf y z=true))) (fun s10 s11 _=>(intOf s11).toNat - (intOf s10).toNat)
 case atStart=>exact⟨a,m,rfl,rfl,Nat.le_refl _,by omega,Nat.le_refl _,S0,hid ⟨by simp,by rw [List.drop_of_length_le (by have:=VL.out;omega)];simp⟩⟩
 case round =>
  obtain⟨i,j,rfl,rfl,h1,h2,h3,S1,HE⟩:=hrel
  clear S0
  by_cases hlt:i<j
  ·obtain⟨h,hh1,zL⟩:∃ h:Nat,2 * h≤i+j∧i+j<2 * h+2:=⟨(i+j) / 2,by omega,by omega⟩
   obtain⟨z,hz1,hz2,hz3,sV⟩:=Sr.jB (L:=U) (n:=h - a) (by have:=VL.out;omega)
   have HZ:Hid (d[h]! = z):=hid (by have:=HP.out _ _ hz2;rwa [show a+(h - a)=h by omega] at this)
   have SV:Hid (Sr.dV (ltOf cf) (U.take (h - a)++z :: U.drop (h - a+1))):=hid (by rw [← hz1];exact su)
   have HZ3:=hid hz3
   have HZ4:=hid sV
   clear hz1 hz2 hz3 sV
   cases hL:ltOf cf d[m]! d[h]! with
   | true =>
    have HN:Hid (∀ z'∈U.drop (h - a),ltOf cf y z'=true):=hid (by
     rw [HZ3.out]
     exact Sr.Fz ho SV.out (by rw [← HZ.out,← HX.out];exact hL))
    have jN:((m:Int)).toNat=m:=by omega
    have jA:(0:Int)≤(m:Int):=by omega
    have jI:(m:Int)<(d.size:Int):=by omega
    have jM:IntKind.i64.wrap ((m:Int))=(m:Int):=by rw [IntKind.wrap_i64];omega
    have jP:(((i:Int)+(j:Int)) / 2).toNat=h:=by omega
    have jD:(0:Int)≤((i:Int)+(j:Int)) / 2:=by omega
    have bc1:((i:Int)+(j:Int)) / 2<(d.size:Int):=by omega
    have jK:IntKind.i64.wrap (((i:Int)+(j:Int)) / 2)=((i:Int)+(j:Int)) / 2:=by rw [IntKind.wrap_i64];omega
    obtain⟨x1,hx1⟩:∃ x,x=d[m]!:=⟨_,rfl⟩
    obtain⟨y1,hy1⟩:∃ x,x=d[h]!:=⟨_,rfl⟩
    have fP:=S1.out.ld R (by omega) P (m) (by omega)
    have fT:=S1.out.ld R (by omega) P (h) (by omega)
    rw [← hx1] at fP
    rw [← hy1] at fT
    have hc1:=S1.out.cmp HC.out (by omega) x1 y1
    have hv1:cf x1 y1<0:=by rw [hx1,hy1];exact of_decide_eq_true hL
    have hd1:decide (cf x1 y1<0)=true:=decide_eq_true hv1
    clear hx1 hy1
    go_wp2_with fail
    go_quiet_grown (first | (go_at_fn g;refine Calls.grown_of (hc1 _ _)))
    have S2:Aside (SWK enc k w0 blk off d (grow (wr.drewN nq) osq)):=S1.out.grown nq osq
    clear fP fT hc1 S1
    generalize grow (wr.drewN nq) osq=w2 at S2 ⊢
    clear nq osq jN jA jI jM jP jD bc1 jK
    clear hL
    have eh:((i:Int)+(j:Int)) / 2=(h:Int):=by omega
    go_wp2
    go_roundw
    case rel=>exact⟨i,h,rfl,by go_num,h1,by omega,by omega,S2,hid ⟨HE.out.1,HN.out⟩⟩
    case measure=>simp [intOf];omega
   | false =>
    have HN:Hid (∀ z'∈U.take (h+1 - a),ltOf cf y z'=false):=hid (by
     rw [show h+1 - a=h - a+1 by omega,HZ4.out]
     exact Sr.Ai ho SV.out (by rw [← HZ.out,← HX.out];exact hL))
    have jN:((m:Int)).toNat=m:=by omega
    have jA:(0:Int)≤(m:Int):=by omega
    have jI:(m:Int)<(d.size:Int):=by omega
    have jM:IntKind.i64.wrap ((m:Int))=(m:Int):=by rw [IntKind.wrap_i64];omega
    have jP:(((i:Int)+(j:Int)) / 2).toNat=h:=by omega
    have jD:(0:Int)≤((i:Int)+(j:Int)) / 2:=by omega
    have bc1:((i:Int)+(j:Int)) / 2<(d.size:Int):=by omega
    have jK:IntKind.i64.wrap (((i:Int)+(j:Int)) / 2)=((i:Int)+(j:Int)) / 2:=by rw [IntKind.wrap_i64];omega
    obtain⟨x1,hx1⟩:∃ x,x=d[m]!:=⟨_,rfl⟩
    obtain⟨y1,hy1⟩:∃ x,x=d[h]!:=⟨_,rfl⟩
    have fP:=S1.out.ld R (by omega) P (m) (by omega)
    have fT:=S1.out.ld R (by omega) P (h) (by omega)
    rw [← hx1] at fP
    rw [← hy1] at fT
    have hc1:=S1.out.cmp HC.out (by omega) x1 y1
    have hv1:¬ cf x1 y1<0:=by rw [hx1,hy1];exact of_decide_eq_false hL
    have hd1:decide (cf x1 y1<0)=false:=decide_eq_false hv1
    clear hx1 hy1
    go_wp2_with fail
    go_quiet_grown (first | (go_at_fn g;refine Calls.grown_of (hc1 _ _)))
    have S2:Aside (SWK enc k w0 blk off d (grow (wr.drewN nq) osq)):=S1.out.grown nq osq
    clear fP fT hc1 S1
    generalize grow (wr.drewN nq) osq=w2 at S2 ⊢
    clear nq osq jN jA jI jM jP jD bc1 jK
    clear hL
    have eh:((i:Int)+(j:Int)) / 2=(h:Int):=by omega
    go_wp2
    go_roundw
    case rel=>exact⟨h+1,j,by go_num,rfl,by omega,by omega,h3,S2,hid ⟨HN.out,HE.out.2⟩⟩
    case measure=>simp [intOf];omega
  ·obtain rfl:i=j:=by omega
   clear h2
   go_wp2_with fail
   go_loopw [17] (fun s13 wr2=>∃ (kk:Nat) (dk:Array α),s13=.int .i64 kk∧i≤kk∧kk≤m∧dk.size=d.size∧Aside (SWK enc k w0 blk off dk wr2)∧Hid (dk.toList=A++(U.take (kk - a)++y :: (U.drop (kk - a)++C)))) (fun s13 _=>(intOf s13).toNat)
   case atStart=>exact⟨m,d,rfl,h3,Nat.le_refl _,rfl,S1,hid (by rw [HD.out,List.take_of_length_le (by have:=VL.out;omega),List.drop_of_length_le (by have:=VL.out;omega)];simp)⟩
   case round =>
    clear S1
    obtain⟨kk,dk,rfl,k1,k2,hds,S1,HF⟩:=hrel
    by_cases hlt2:i<kk
    ·obtain⟨kp,rfl⟩:∃ kp,kk=kp+1:=⟨kk - 1,by omega⟩
     have hlz:(i:Int)<(kp:Int)+1:=by omega
     obtain⟨z,hz1,hz2,hz3,sV⟩:=Sr.jB (L:=U) (n:=kp - a) (by have:=VL.out;omega)
     have xP:Hid ((swp dk (kp+1) kp).toList=A++(U.take (kp - a)++y :: (U.drop (kp - a)++C))):=hid (by
      have hf:=HF.out
      rw [show kp+1 - a=kp - a+1 by omega,sV] at hf
      have q:=(Sr.j6 (d:=dk) (A:=A++U.take (kp - a)) (B:=[]) (C:=U.drop (kp - a+1)++C) (x:=z) (y:=y) (i:=kp) (j:=kp+1) (by rw [hf];simp) (by rw [List.length_append,List.length_take];have:=VL.out;have:=HA.out;omega) (by rw [List.length_append,List.length_take];have:=VL.out;have:=HA.out;simp;omega)).2
      rw [q,hz3]
      simp)
     clear hz1 hz2 hz3 sV
     have dsz:dk.size=d.size:=hds
     have rD:((kp:Int)+1).toNat=kp+1:=by omega
     have rF:(0:Int)≤(kp:Int)+1:=by omega
     have rV:(kp:Int)+1<(d.size:Int):=by omega
     have rJ:IntKind.i64.wrap ((kp:Int)+1)=(kp:Int)+1:=by rw [IntKind.wrap_i64];omega
     have rR:((kp:Int)).toNat=kp:=by omega
     have rG:(0:Int)≤(kp:Int):=by omega
     have bc2:(kp:Int)<(d.size:Int):=by omega
     have rO:IntKind.i64.wrap ((kp:Int))=(kp:Int):=by rw [IntKind.wrap_i64];omega
     have S2:Aside (SWK enc k w0 blk off (swp dk (kp+1) (kp)) ((wr.drew.setCells blk (off+(kp+1) * k) (enc dk[kp]!)).setCells blk (off+(kp) * k) (enc dk[kp+1]!))):=S1.out.swapped R (kp+1) (kp) (by omega) (by omega)
     have lg:=S1.out.ld1 R (by omega) P (kp+1) (by omega)
     have lI:=S1.out.ld1 R (by omega) P (kp) (by omega)
     have yS:=S1.out.st1 R (by omega) P (kp+1) (by omega) dk[kp]!
     have uB:=S1.out.st2 R (by omega) P (kp+1) (kp) (by omega) (by omega) dk[kp]! dk[kp+1]!
     have JB:(enc dk[kp+1]!).length=k:=R.hk _
     have II:(enc dk[kp]!).length=k:=R.hk _
     generalize enc dk[kp+1]! = cI2 at S2 lg uB JB
     generalize enc dk[kp]! = cJ2 at S2 lI yS uB II
     clear S1
     go_wp2_with fail
     go_big_region_o
     clear lg lI yS uB
     generalize (wr.drew.setCells blk (off+(kp+1) * k) cJ2).setCells blk (off+(kp) * k) cI2=w2 at S2 ⊢
     clear rD rF rV rJ rR rG bc2 rO
     go_wp2
     go_roundw
     case rel=>exact⟨kp,_,by first | rfl | go_num | (congr 1;omega),by omega,by omega,by rw [size_swp];exact hds,S2,xP⟩
     case measure=>simp [intOf] <;> omega
    ·obtain rfl:kk=i:=by omega
     have SV:Hid (Sr.dV (ltOf cf) (U.take (kk - a)++y :: U.drop (kk - a))):=hid (by
      have I5:=su
      rw [← List.take_append_drop (kk - a) U] at I5
      obtain⟨p1,p2,p3⟩:=Sr.dV.parts I5
      refine Sr.dV.app p1 (List.pairwise_cons.2 ⟨fun z hz=>ho.asym (HE.out.2 z hz),p2⟩) fun p hp y' hy=>?_
      rcases List.mem_cons.1 hy with rfl | q
      ·exact HE.out.1 p hp
      ·exact p3 p hp y' q)
     have SB:Hid (Sr.d_ (ltOf cf) (U++[y]) (U.take (kk - a)++y :: U.drop (kk - a))):=hid (by
      have c:Sr.d_ (ltOf cf) (U.drop (kk - a)++[y]) ([y]++U.drop (kk - a)):=Sr.d_.comm ho (by intro u hu v hv;simp at hv;subst hv;exact HE.out.2 u hu)
      have:=(Sr.d_.refl (lt:=ltOf cf) (U.take (kk - a))).app c
      rw [← List.append_assoc,List.take_append_drop] at this
      simpa using this)
     go_wp2
     refine bodyPost_ret (results_none rfl _ _ _) rfl ?_
     exact⟨rfl,dk,U.take (kk - a)++y :: U.drop (kk - a),S1.out,hds,by rw [HF.out];simp,by simp only [List.length_append,List.length_cons,List.length_nil,List.length_take,List.length_drop];have:=VL.out;omega,SV.out,SB.out⟩
end
section
open Go.Shelf Go.RowKit Go.Lib Go.Sort
variable {P : Program} {α : Type} [Inhabited α]
set_option maxRecDepth 1000000 in
theorem vG (L:zG P) (k:Nat) (aE:∀ w,(isAgg 60).run P w=.ok true w) (zE:∀ w,(Go.sizeOf 60).run P w=.ok k w) (enc:α→List Value) (blk off cap:Nat) (d0:Array α) (w0:World) (R:RowK enc k w0 blk off d0) (cf:α→α→Int) (g:Nat) (cb:Array Value) (eg:∀ args w,(callFunc g args).run P w=.ok (.enter g args) w) (hcmp:CmpLays P g cb enc k cf blk off d0.size w0) (ho:Sr.WO (ltOf cf)):∀ (N:Nat) (A U V C:List α) (d:Array α) (w:World) (_:d0.size=d.size) (_:SWK enc k w0 blk off d w) (_:d.toList=A++(U++(V++C))) (_:Sr.dV (ltOf cf) U) (_:Sr.dV (ltOf cf) V) (a m b:Nat) (_:a=A.length) (_:m=A.length+U.length) (_:b=A.length+U.length+V.length) (_:0<U.length) (_:0<V.length) (_:U.length+V.length≤N) (_:d.size<4611686018427387904),
  Calls P 144 #[.slice (some ⟨blk,off,none⟩) d.size cap,.int .i64 a,.int .i64 m,.int .i64 b,.func (.func g) #[] cb] w fun e w'=>e=.returned (.tuple #[])∧qf cf enc k w0 blk off d A (U++V) C w':=by
 intro N
 induction N with
 | zero=>intro A U V C d w _ _ _ _ _ a m b _ _ _ hu _ hN _;omega
 | succ N ih =>
 intro A U V C d w hs S hd su sv a m b ha hm hb hu hv hN hsz
 by_cases h1:U.length=1
 ·obtain⟨x,rfl⟩:∃ x,U=[x]:=List.length_eq_one_iff.1 h1
  exact symOneL L k aE zE enc blk off cap d0 d w0 w R hs S cf g cb eg hcmp ho (by rw [hd];simp) sv a m b ha hm hb hsz
 by_cases h2:V.length=1
 ·obtain⟨y,rfl⟩:∃ x,V=[x]:=List.length_eq_one_iff.1 h2
  exact Hr L k aE zE enc blk off cap d0 d w0 w R hs S cf g cb eg hcmp ho (by rw [hd];simp) su a m b ha hm hb (by omega) hsz
 have IH:=hid ih
 clear ih
 have mixed:=L.mixed;have u0:=L.u0;have a0:=L.a0;have z0:=L.z0;have v0:=L.v0;have u3:=L.u3;have a3:=L.a3;have z3:=L.z3;have v3:=L.v3;have u4:=L.u4;have a4:=L.a4;have z4:=L.z4;have v4:=L.v4;have u5:=L.u5;have a5:=L.a5;have z5:=L.z5;have v5:=L.v5;have u6:=L.u6;have a6:=L.a6;have z6:=L.z6;have v6:=L.v6;have u7:=L.u7;have a7:=L.a7;have z7:=L.z7;have v7:=L.v7
 have hlen:d.size=A.length+(U.length+(V.length+C.length)):=by have:=congrArg List.length hd;simp only [Array.length_toList,List.length_append] at this;omega
 have HD:=hid hd
 have HA:=hid ha
 have HM:=hid hm
 have n_:=hid hb
 have HU:=hid su
 have HV:=hid sv
 have HNN:=hid hN
 have HC:Aside _:=hcmp
 have S0:Aside _:=S
 have bb:b≤d.size:=by omega
 have am:a+2≤m:=by omega
 have mb:m+2≤b:=by omega
 have FG:=L.f4
 have e2:=L.e2
 have e4:=L.e4
 obtain⟨mid,hm1,hm2⟩:∃ mid:Nat,2 * mid≤a+b∧a+b<2 * mid+2:=⟨(a+b) / 2,by omega,by omega⟩
 clear hd ha hb hm S hlen hcmp su sv hN h1 h2 hu hv
 have w3:((m:Int) - (a:Int)==1)=false:=by simp;omega
 have w4:¬ (m:Int) - (a:Int)=1:=by omega
 have w5:((b:Int) - (m:Int)==1)=false:=by simp;omega
 have w6:¬ (b:Int) - (m:Int)=1:=by omega
 have emid:((a:Int)+(b:Int)) / 2=(mid:Int):=by omega
 go_enter FG,ntmps144
 go_upto_if 140 with fail
 go_cut [20,21] (fun s20 Io wc=>∃ s0 r0:Nat,s20=.int .i64 s0∧Io=.int .i64 r0∧a≤s0∧s0≤r0∧r0≤m∧r0≤mid∧mid+m≤b+s0∧(s0=a∨mid+m=b+s0)∧(r0=m∨r0=mid)∧wc=w)
 case first=>as_aux_lemma =>
  by_cases hq:mid<m
  ·have hqz:(mid:Int)<(m:Int):=by omega
   go_wp2_with fail
   go_meet
   case rel=>exact⟨mid+m - b,mid,by congr 1 <;> omega,rfl,by omega,by omega,by omega,by omega,by omega,.inr (by omega),.inr rfl,rfl⟩
  ·have hqz:¬ (mid:Int)<(m:Int):=by omega
   go_wp2_with fail
   go_meet
   case rel=>exact⟨a,m,rfl,rfl,by omega,by omega,by omega,by omega,by omega,.inl rfl,.inl rfl,rfl⟩
 case rest =>
  obtain⟨s0,r0,rfl,rfl,g1,g2,g3,g4,g5,g6,g7,rfl⟩:=hcut
  have G6:=hid g6
  have G7:=hid g7
  clear g6 g7
  go_wp2_with fail
  go_loopw [20,21] (fun s20 Io wr=>∃ s r:Nat,s20=.int .i64 s∧Io=.int .i64 r∧s0≤s∧s≤r∧r≤r0∧Aside (SWK enc k w0 blk off d wr)∧Hid ((s0<s→ltOf cf d[mid+m - 1 - (s - 1)]! d[s - 1]! = false)∧(r<r0→ltOf cf d[mid+m - 1 - r]! d[r]! = true))) (fun s20 Io _=>(intOf Io).toNat - (intOf s20).toNat)
  case atStart=>exact⟨s0,r0,rfl,rfl,Nat.le_refl _,g2,Nat.le_refl _,S0,hid ⟨fun h=>by omega,fun h=>by omega⟩⟩
  case round =>
   obtain⟨s,r,rfl,rfl,h1,h2,h3,S1,HE⟩:=hrel
   clear S0
   by_cases hlt:s<r
   ·obtain⟨c,hc1,hc2⟩:∃ c:Nat,2 * c≤s+r∧s+r<2 * c+2:=⟨(s+r) / 2,by omega,by omega⟩
    cases hL:ltOf cf d[mid+m - 1 - c]! d[c]! with
    | true=>as_aux_lemma =>
     have HL:=hid hL
     have pz:((s:Int)+(r:Int)) / 2≤(mid:Int)+(m:Int) - 1:=by omega
     have jN:((mid:Int)+(m:Int) - 1 - ((s:Int)+(r:Int)) / 2).toNat=mid+m - 1 - c:=by omega
     have jA:(0:Int)≤(mid:Int)+(m:Int) - 1 - ((s:Int)+(r:Int)) / 2:=by omega
     have jI:(mid:Int)+(m:Int) - 1 - ((s:Int)+(r:Int)) / 2<(d.size:Int):=by omega
     have jM:IntKind.i64.wrap ((mid:Int)+(m:Int) - 1 - ((s:Int)+(r:Int)) / 2)=(mid:Int)+(m:Int) - 1 - ((s:Int)+(r:Int)) / 2:=by rw [IntKind.wrap_i64];omega
     have jP:(((s:Int)+(r:Int)) / 2).toNat=c:=by omega
     have jD:(0:Int)≤((s:Int)+(r:Int)) / 2:=by omega
     have bc1:((s:Int)+(r:Int)) / 2<(d.size:Int):=by omega
     have jK:IntKind.i64.wrap (((s:Int)+(r:Int)) / 2)=((s:Int)+(r:Int)) / 2:=by rw [IntKind.wrap_i64];omega
     obtain⟨x1,hx1⟩:∃ x,x=d[mid+m - 1 - c]!:=⟨_,rfl⟩
     obtain⟨y1,hy1⟩:∃ x,x=d[c]!:=⟨_,rfl⟩
     have fP:=S1.out.ld R (by omega) P (mid+m - 1 - c) (by omega)
     have fT:=S1.out.ld R (by omega) P (c) (by omega)
     rw [← hx1] at fP
     rw [← hy1] at fT
     have hc1:=S1.out.cmp HC.out (by omega) x1 y1
     have hv1:cf x1 y1<0:=by rw [hx1,hy1];exact of_decide_eq_true hL
     have hd1:decide (cf x1 y1<0)=true:=decide_eq_true hv1
     clear hx1 hy1
     go_wp2_with fail
     go_quiet_grown (first | (go_at_fn g;refine Calls.grown_of (hc1 _ _)))
     have S2:Aside (SWK enc k w0 blk off d (grow (wr.drewN nq) osq)):=S1.out.grown nq osq
     clear fP fT hc1 S1
     generalize grow (wr.drewN nq) osq=w2 at S2 ⊢
     clear nq osq jN jA jI jM jP jD bc1 jK
     clear hL pz
     have eh:((s:Int)+(r:Int)) / 2=(c:Int):=by omega
     go_wp2
     go_roundw
     case rel=>exact⟨s,c,rfl,by go_num,h1,by omega,by omega,S2,hid ⟨HE.out.1,fun _=>HL.out⟩⟩
     case measure=>simp [intOf];omega
    | false=>as_aux_lemma =>
     have HL:=hid hL
     have pz:((s:Int)+(r:Int)) / 2≤(mid:Int)+(m:Int) - 1:=by omega
     have jN:((mid:Int)+(m:Int) - 1 - ((s:Int)+(r:Int)) / 2).toNat=mid+m - 1 - c:=by omega
     have jA:(0:Int)≤(mid:Int)+(m:Int) - 1 - ((s:Int)+(r:Int)) / 2:=by omega
     have jI:(mid:Int)+(m:Int) - 1 - ((s:Int)+(r:Int)) / 2<(d.size:Int):=by omega
     have jM:IntKind.i64.wrap ((mid:Int)+(m:Int) - 1 - ((s:Int)+(r:Int)) / 2)=(mid:Int)+(m:Int) - 1 - ((s:Int)+(r:Int)) / 2:=by rw [IntKind.wrap_i64];omega
     have jP:(((s:Int)+(r:Int)) / 2).toNat=c:=by omega
     have jD:(0:Int)≤((s:Int)+(r:Int)) / 2:=by omega
     have bc1:((s:Int)+(r:Int)) / 2<(d.size:Int):=by omega
     have jK:IntKind.i64.wrap (((s:Int)+(r:Int)) / 2)=((s:Int)+(r:Int)) / 2:=by rw [IntKind.wrap_i64];omega
     obtain⟨x1,hx1⟩:∃ x,x=d[mid+m - 1 - c]!:=⟨_,rfl⟩
     obtain⟨y1,hy1⟩:∃ x,x=d[c]!:=⟨_,rfl⟩
     have fP:=S1.out.ld R (by omega) P (mid+m - 1 - c) (by omega)
     have fT:=S1.out.ld R (by omega) P (c) (by omega)
     rw [← hx1] at fP
     rw [← hy1] at fT
     have hc1:=S1.out.cmp HC.out (by omega) x1 y1
     have hv1:¬ cf x1 y1<0:=by rw [hx1,hy1];exact of_decide_eq_false hL
     have hd1:decide (cf x1 y1<0)=false:=decide_eq_false hv1
     clear hx1 hy1
     go_wp2_with fail
     go_quiet_grown (first | (go_at_fn g;refine Calls.grown_of (hc1 _ _)))
     have S2:Aside (SWK enc k w0 blk off d (grow (wr.drewN nq) osq)):=S1.out.grown nq osq
     clear fP fT hc1 S1
     generalize grow (wr.drewN nq) osq=w2 at S2 ⊢
     clear nq osq jN jA jI jM jP jD bc1 jK
     clear hL pz
     have eh:((s:Int)+(r:Int)) / 2=(c:Int):=by omega
     go_wp2
     go_roundw
     case rel=>exact⟨c+1,r,by go_num,rfl,by omega,by omega,h3,S2,hid ⟨fun _=>HL.out,HE.out.2⟩⟩
     case measure=>simp [intOf];omega
   ·obtain rfl:s=r:=by omega
    clear h2
    obtain⟨ee,he1,he2⟩:∃ ee:Nat,ee+s≤mid+m∧mid+m≤ee+s:=⟨mid+m - s,by omega,by omega⟩
    have HSP:=Sr.yD ho HD.out HU.out HV.out (s:=s) (e:=ee) (by have:=HA.out;omega) (by have:=HM.out;omega) (by have:=HM.out;omega) (by have:=n_.out;omega)
     (fun p q=>by
      have:s0<s:=by have:=HA.out;have:=n_.out;rcases G6.out with z | z <;> omega
      have:=HE.out.1 this
      rwa [show mid+m - 1 - (s - 1)=ee by omega] at this)
     (fun p q=>by
      have:s<r0:=by have:=HM.out;rcases G7.out with z | z <;> omega
      have:=HE.out.2 this
      rwa [show mid+m - 1 - s=ee - 1 by omega] at this)
    obtain⟨U1,U2,V1,V2,hU,hV,l1,l2,k1,k2⟩:=HSP
    have K:=hid (And.intro hU (And.intro hV (And.intro k1 k2)))
    have L1:=hid l1
    have L2:=hid l2
    have lu:=congrArg List.length hU
    have lv:=congrArg List.length hV
    rw [List.length_append] at lu lv
    have LU:=hid lu
    have LV:=hid lv
    have SU1:Hid (Sr.dV (ltOf cf) U1∧Sr.dV (ltOf cf) U2):=hid (by have:=HU.out;rw [hU] at this;exact⟨this.parts.1,this.parts.2.1⟩)
    have SV1:Hid (Sr.dV (ltOf cf) V1∧Sr.dV (ltOf cf) V2):=hid (by have:=HV.out;rw [hV] at this;exact⟨this.parts.1,this.parts.2.1⟩)
    have D1:Hid (d.toList=A++(U1++(U2++(V1++(V2++C))))):=hid (by rw [HD.out,hU,hV];simp)
    have eee:(mid:Int)+(m:Int) - (s:Int)=(ee:Int):=by omega
    clear hU hV l1 l2 k1 k2 lu lv
    obtain⟨tb1,ht1⟩:∃ tb:Bool,tb=(decide (s<m) && decide (m<ee)):=⟨_,rfl⟩
    have HT1:=hid ht1
    clear ht1
    go_upto_region 39 with fail
    go_cut [185] (fun s185 wd=>s185=.bool tb1∧wd=wr)
    case first=>as_aux_lemma =>
     rcases Nat.lt_or_ge s m with q1 | q1
     ·rcases Nat.lt_or_ge m ee with q2 | q2
      ·have q1z:(s:Int)<(m:Int):=by omega
       have q2z:(m:Int)<(ee:Int):=by omega
       go_wp2_with fail
       go_meet
       case rel=>exact⟨by rw [HT1.out,decide_eq_true q1,decide_eq_true q2];rfl,rfl⟩
      ·have q1z:(s:Int)<(m:Int):=by omega
       have q2z:¬ (m:Int)<(ee:Int):=by omega
       go_wp2_with fail
       go_meet
       case rel=>exact⟨by rw [HT1.out,decide_eq_true q1,decide_eq_false (Nat.not_lt.2 q2)];rfl,rfl⟩
     ·have q1z:¬ (s:Int)<(m:Int):=by omega
      go_wp2_with fail
      go_meet
      case rel=>exact⟨by rw [HT1.out,decide_eq_false (Nat.not_lt.2 q1)];rfl,rfl⟩
    case rest =>
     obtain⟨rfl,rfl⟩:=hcut
     go_upto_if 185 with fail
     go_cut [] (fun wc=>∃ dk1:Array α,Aside (SWK enc k w0 blk off dk1 wc)∧dk1.size=d.size∧Hid (dk1.toList=A++(U1++(V1++(U2++(V2++C))))))
     case first=>as_aux_lemma =>
      cases tb1 with
      | true =>
       have hpq:s<m∧m<ee:=by simpa using HT1.out.symm
       obtain⟨q1,q2⟩:=hpq
       have hcall:=rotateL (P:=P) L k aE zE enc blk off cap d0 d w0 _ R (by omega) S1.out (X:=A++U1) (p:=U2) (q:=V1) (Y:=V2++C) (by rw [D1.out];simp) (by have:=L1.out;have:=LU.out;have:=HM.out;omega) (by have:=L2.out;have:=HM.out;omega) s m ee (by rw [List.length_append];exact L1.out.symm) (by rw [List.length_append];have:=HM.out;have:=LU.out;omega) (by rw [List.length_append];have:=L2.out;have:=LU.out;omega) (by omega) (.func (.func g) #[] cb)
       clear S1
       go_wp2_with (go_at_fn 159;refine hcall.mono ?_;rintro e w1 ⟨rfl,dk1,S2,hd1,hl1⟩)
       have S3:Aside _:=S2
       have HL:=hid hl1
       clear S2 hl1
       go_meet
       case rel=>exact⟨dk1,S3,hd1,hid (by rw [HL.out];simp)⟩
      | false =>
       have hpq:¬ (s<m∧m<ee):=fun ⟨z1,z2⟩=>by have z:=HT1.out;rw [decide_eq_true z1,decide_eq_true z2] at z;cases z
       have HN:Hid (d.toList=A++(U1++(V1++(U2++(V2++C))))):=hid (by
        have:U2=[]∨V1=[]:=by
         have:=L1.out;have:=L2.out;have:=LU.out;have:=HM.out
         by_cases z:U2.length=0
         ·exact .inl (List.length_eq_zero_iff.1 z)
         ·exact .inr (List.length_eq_zero_iff.1 (by omega))
        rw [D1.out]
        rcases this with rfl | rfl <;> simp)
       go_wp2_with fail
       go_meet
       case rel=>exact⟨d,S1,rfl,HN⟩
     case rest =>
      obtain⟨dk1,S2,hd1,HL1⟩:=hcut
      clear S1
      obtain⟨tb2,ht2⟩:∃ tb:Bool,tb=(decide (a<s) && decide (s<mid)):=⟨_,rfl⟩
      have HT2:=hid ht2
      clear ht2
      go_upto_region 41 with fail
      go_cut [199] (fun s199 wd=>s199=.bool tb2∧wd=wc)
      case first=>as_aux_lemma =>
       rcases Nat.lt_or_ge a s with q1 | q1
       ·rcases Nat.lt_or_ge s mid with q2 | q2
        ·have q1z:(a:Int)<(s:Int):=by omega
         have q2z:(s:Int)<(mid:Int):=by omega
         go_wp2_with fail
         go_meet
         case rel=>exact⟨by rw [HT2.out,decide_eq_true q1,decide_eq_true q2];rfl,rfl⟩
        ·have q1z:(a:Int)<(s:Int):=by omega
         have q2z:¬ (s:Int)<(mid:Int):=by omega
         go_wp2_with fail
         go_meet
         case rel=>exact⟨by rw [HT2.out,decide_eq_true q1,decide_eq_false (Nat.not_lt.2 q2)];rfl,rfl⟩
       ·have q1z:¬ (a:Int)<(s:Int):=by omega
        go_wp2_with fail
        go_meet
        case rel=>exact⟨by rw [HT2.out,decide_eq_false (Nat.not_lt.2 q1)];rfl,rfl⟩
      case rest =>
       obtain⟨rfl,rfl⟩:=hcut
       go_upto_if 199 with fail
       go_cut [] (fun wc=>∃ (dk2:Array α) (W1:List α),Aside (SWK enc k w0 blk off dk2 wc)∧dk2.size=d.size∧Hid (dk2.toList=A++(W1++(U2++(V2++C)))∧W1.length=U1.length+V1.length∧Sr.dV (ltOf cf) W1∧Sr.d_ (ltOf cf) (U1++V1) W1))
       case first=>as_aux_lemma =>
        cases tb2 with
        | true =>
         have hpq:a<s∧s<mid:=by simpa using HT2.out.symm
         obtain⟨q1,q2⟩:=hpq
         have hcall:=IH.out A U1 V1 (U2++(V2++C)) dk1 _ (by omega) S2.out (by rw [HL1.out]) SU1.out.1 SV1.out.1 a s mid HA.out L1.out.symm (by have:=L2.out;have:=L1.out;have:=LU.out;have:=HM.out;omega) (by have:=L1.out;have:=HA.out;omega) (by have:=L2.out;have:=L1.out;have:=LU.out;have:=HM.out;omega) (by have:=HNN.out;have:=LU.out;have:=LV.out;have:=L1.out;have:=L2.out;have:=HM.out;have:=HA.out;have:=n_.out;omega) (by omega)
         rw [hd1] at hcall
         clear S2
         go_wp2_with (go_at_fn 144;refine hcall.mono ?_;rintro e w1 ⟨rfl,dk2,W1,S3,hd2,hl2,hl3,hl4,hl5⟩)
         have S4:Aside _:=S3
         have HL:=hid (And.intro hl2 (And.intro hl3 (And.intro hl4 hl5)))
         clear S3 hl2 hl3 hl4 hl5
         go_meet
         case rel=>exact⟨dk2,W1,S4,by omega,hid ⟨HL.out.1,by rw [HL.out.2.1,List.length_append],HL.out.2.2.1,HL.out.2.2.2⟩⟩
        | false =>
         have hpq:¬ (a<s∧s<mid):=fun ⟨z1,z2⟩=>by have z:=HT2.out;rw [decide_eq_true z1,decide_eq_true z2] at z;cases z
         have HN:Hid (Sr.dV (ltOf cf) (U1++V1)):=hid (by
          have:U1=[]∨V1=[]:=by
           have:=L1.out;have:=L2.out;have:=LU.out;have:=HM.out;have:=HA.out
           by_cases z:U1.length=0
           ·exact .inl (List.length_eq_zero_iff.1 z)
           ·exact .inr (List.length_eq_zero_iff.1 (by omega))
          have p1:=SU1.out.1
          have p2:=SV1.out.1
          rcases this with z | z
          ·rw [z];exact p2
          ·rw [z,List.append_nil];exact p1)
         go_wp2_with fail
         go_meet
         case rel=>exact⟨dk1,U1++V1,S2,hd1,hid ⟨by rw [HL1.out];simp,by rw [List.length_append],HN.out,Sr.d_.refl _⟩⟩
       case rest =>
        obtain⟨dk2,W1,S3,hd2,HL2⟩:=hcut
        clear S2
        obtain⟨tb3,ht3⟩:∃ tb:Bool,tb=(decide (mid<ee) && decide (ee<b)):=⟨_,rfl⟩
        have HT3:=hid ht3
        clear ht3
        go_upto_region 43 with fail
        go_cut [213] (fun s213 wd=>s213=.bool tb3∧wd=wc)
        case first=>as_aux_lemma =>
         rcases Nat.lt_or_ge mid ee with q1 | q1
         ·rcases Nat.lt_or_ge ee b with q2 | q2
          ·have q1z:(mid:Int)<(ee:Int):=by omega
           have q2z:(ee:Int)<(b:Int):=by omega
           go_wp2_with fail
           go_meet
           case rel=>exact⟨by rw [HT3.out,decide_eq_true q1,decide_eq_true q2];rfl,rfl⟩
          ·have q1z:(mid:Int)<(ee:Int):=by omega
           have q2z:¬ (ee:Int)<(b:Int):=by omega
           go_wp2_with fail
           go_meet
           case rel=>exact⟨by rw [HT3.out,decide_eq_true q1,decide_eq_false (Nat.not_lt.2 q2)];rfl,rfl⟩
         ·have q1z:¬ (mid:Int)<(ee:Int):=by omega
          go_wp2_with fail
          go_meet
          case rel=>exact⟨by rw [HT3.out,decide_eq_false (Nat.not_lt.2 q1)];rfl,rfl⟩
        case rest =>
         obtain⟨rfl,rfl⟩:=hcut
         cases tb3 with
         | true=>as_aux_lemma =>
          have hpq:mid<ee∧ee<b:=by simpa using HT3.out.symm
          obtain⟨q1,q2⟩:=hpq
          have hcall:=IH.out (A++W1) U2 V2 C dk2 _ (by omega) S3.out (by rw [HL2.out.1];simp) SU1.out.2 SV1.out.2 mid ee b (by rw [List.length_append,HL2.out.2.1];have:=L2.out;have:=L1.out;have:=LU.out;have:=HM.out;omega) (by rw [List.length_append,HL2.out.2.1];have:=L2.out;have:=L1.out;have:=LU.out;have:=HM.out;omega) (by rw [List.length_append,HL2.out.2.1];have:=L2.out;have:=L1.out;have:=LU.out;have:=LV.out;have:=HM.out;have:=n_.out;omega) (by have:=L1.out;have:=LU.out;have:=HM.out;omega) (by have:=L2.out;have:=LV.out;have:=n_.out;omega) (by have:=HNN.out;have:=LU.out;have:=LV.out;have:=L1.out;have:=L2.out;have:=HM.out;have:=HA.out;have:=n_.out;omega) (by omega)
          rw [hd2] at hcall
          clear S3
          go_wp2_with (go_at_fn 144;refine hcall.mono ?_;rintro e w1 ⟨rfl,dk3,W2,S4,hd3,hl2,hl3,hl4,hl5⟩)
          have S5:Aside _:=S4
          have HL:=hid (And.intro hl2 (And.intro hl3 (And.intro hl4 hl5)))
          clear S4 hl2 hl3 hl4 hl5
          have FIN:=hid (Sr.nN ho (by rw [← K.out.1];exact HU.out) (by rw [← K.out.2.1];exact HV.out) K.out.2.2.1 K.out.2.2.2 HL2.out.2.2.1 HL2.out.2.2.2 HL.out.2.2.1 HL.out.2.2.2)
          go_wp2
          go_end0
          exact⟨rfl,dk3,W1++W2,S5.out,by omega,by rw [HL.out.1];simp,by rw [List.length_append,List.length_append,HL2.out.2.1,HL.out.2.1,List.length_append];have:=LU.out;have:=LV.out;omega,FIN.out.1,by rw [K.out.1,K.out.2.1];exact FIN.out.2⟩
         | false=>as_aux_lemma =>
          have hpq:¬ (mid<ee∧ee<b):=fun ⟨z1,z2⟩=>by have z:=HT3.out;rw [decide_eq_true z1,decide_eq_true z2] at z;cases z
          have HN:Hid (Sr.dV (ltOf cf) (U2++V2)):=hid (by
           have:U2=[]∨V2=[]:=by
            have:=L1.out;have:=L2.out;have:=LU.out;have:=LV.out;have:=HM.out;have:=n_.out
            by_cases z:U2.length=0
            ·exact .inl (List.length_eq_zero_iff.1 z)
            ·exact .inr (List.length_eq_zero_iff.1 (by omega))
           have p1:=SU1.out.2
           have p2:=SV1.out.2
           rcases this with z | z
           ·rw [z];exact p2
           ·rw [z,List.append_nil];exact p1)
          have FIN:=hid (Sr.nN ho (by rw [← K.out.1];exact HU.out) (by rw [← K.out.2.1];exact HV.out) K.out.2.2.1 K.out.2.2.2 HL2.out.2.2.1 HL2.out.2.2.2 HN.out (Sr.d_.refl _))
          go_wp2
          go_end0
          exact⟨rfl,dk2,W1++(U2++V2),S3.out,hd2,by rw [HL2.out.1];simp,by rw [List.length_append,List.length_append,List.length_append,HL2.out.2.1];have:=LU.out;have:=LV.out;omega,FIN.out.1,by rw [K.out.1,K.out.2.1];exact FIN.out.2⟩
end
section
open Go.Shelf Go.RowKit Go.Lib Go.Sort
variable {P : Program} {α : Type} [Inhabited α]
set_option maxRecDepth 1000000 in
theorem stableL (L:zG P) (k:Nat) (aE:∀ w,(isAgg 60).run P w=.ok true w) (zE:∀ w,(Go.sizeOf 60).run P w=.ok k w) (enc:α→List Value) (blk off cap:Nat) (d0 d:Array α) (w0 w:World) (R:RowK enc k w0 blk off d0) (hs:d0.size=d.size) (S:SWK enc k w0 blk off d w) (cf:α→α→Int) (g:Nat) (cb:Array Value) (eg:∀ args w,(callFunc g args).run P w=.ok (.enter g args) w) (hcmp:CmpLays P g cb enc k cf blk off d0.size w0) (ho:Sr.WO (ltOf cf)) (n:Nat) (hn:n=d.size) (hsz:d.size<4611686018427387904) :
  Calls P 118 #[.slice (some ⟨blk,off,none⟩) d.size cap,.int .i64 n,.func (.func g) #[] cb] w fun e w'=>e=.returned (.tuple #[])∧qf cf enc k w0 blk off d [] d.toList [] w':=by
 have mixed:=L.mixed;have u0:=L.u0;have a0:=L.a0;have z0:=L.z0;have v0:=L.v0;have u3:=L.u3;have a3:=L.a3;have z3:=L.z3;have v3:=L.v3;have u4:=L.u4;have a4:=L.a4;have z4:=L.z4;have v4:=L.v4;have u5:=L.u5;have a5:=L.a5;have z5:=L.z5;have v5:=L.v5;have u6:=L.u6;have a6:=L.a6;have z6:=L.z6;have v6:=L.v6;have u7:=L.u7;have a7:=L.a7;have z7:=L.z7;have v7:=L.v7
 have HN:=hid hn
 have n1:n≤d.size:=by omega
 have n2:d.size≤n:=by omega
 have HC:Aside _:=hcmp
 have S0:Aside _:=S
 have FG:=L.f5
 have e3:=L.e3
 have e4:=L.e4
 clear S hcmp hn
 go_enter FG,ntmps118
 go_wp2_with fail
 go_loopw [7,8] (fun s7 s8 wr=>∃ (a:Nat) (dk:Array α) (D R':List α),s7=.int .i64 a∧s8=.int .i64 ((a:Int)+20)∧a≤n∧dk.size=d.size∧Aside (SWK enc k w0 blk off dk wr)∧Hid (dk.toList=D++R'∧D.length=a∧Sr.Pre (ltOf cf) 20 D∧Sr.d_ (ltOf cf) d.toList (D++R'))) (fun s7 _ _=>n - (intOf s7).toNat)
 case atStart=>exact⟨0,d,[],d.toList,rfl,rfl,Nat.zero_le _,rfl,S0,hid ⟨rfl,rfl,Sr.Pre.nil,Sr.d_.refl _⟩⟩
 case round =>
  obtain⟨a,dk,D,R',rfl,rfl,han,hds,S1,HE⟩:=hrel
  clear S0
  have hl:Hid (D.length+R'.length=n):=hid (by have:=congrArg List.length HE.out.1;rw [Array.length_toList,List.length_append] at this;omega)
  by_cases hlt:a+20≤n
  ·have hlz:(a:Int)+20≤(n:Int):=by omega
   have hcall:=tT (P:=P) L k aE zE enc blk off cap d0 dk w0 wr R (by omega) S1.out cf g cb eg HC.out ho (A:=D) (B:=R'.take 20) (C:=R'.drop 20) (by rw [HE.out.1,List.take_append_drop]) a (a+20) HE.out.2.1.symm (by rw [List.length_take];have:=hl.out;have:=HE.out.2.1;omega) (by omega)
   rw [hds,show ((a+20:Nat):Int)=(a:Int)+20 by omega] at hcall
   clear S1
   go_wp2_with (go_at_fn 143;refine hcall.mono ?_;rintro e w1 ⟨rfl,dk1,W,S2,hd1,hl1,hl2,hl3,hl4⟩)
   have S3:Aside _:=S2
   have HL:=hid (And.intro hl1 (And.intro hl2 (And.intro hl3 hl4)))
   clear S2 hl1 hl2 hl3 hl4
   go_wp2
   go_roundw
   case rel =>
    refine⟨a+20,dk1,D++W,R'.drop 20,by go_num,by congr 1 <;> omega,hlt,by omega,S3,hid ⟨by rw [HL.out.1];simp,by rw [List.length_append,HL.out.2.1,List.length_take];have:=hl.out;have:=HE.out.2.1;omega,HE.out.2.2.1.snoc (by rw [HL.out.2.1,List.length_take];have:=hl.out;have:=HE.out.2.1;omega) HL.out.2.2.1,?_⟩⟩
    refine HE.out.2.2.2.trans ?_
    have:=((Sr.d_.refl (lt:=ltOf cf) D).app HL.out.2.2.2).app (Sr.d_.refl (lt:=ltOf cf) (R'.drop 20))
    rwa [List.append_assoc,List.take_append_drop] at this
   case measure=>simp [intOf];omega
  ·have hlz:¬ (a:Int)+20≤(n:Int):=by omega
   have hcall:=tT (P:=P) L k aE zE enc blk off cap d0 dk w0 wr R (by omega) S1.out cf g cb eg HC.out ho (A:=D) (B:=R') (C:=[]) (by rw [HE.out.1,List.append_nil]) a n HE.out.2.1.symm (by have:=hl.out;omega) (by omega)
   rw [hds] at hcall
   clear S1
   go_wp2_with (go_at_fn 143;refine hcall.mono ?_;rintro e w1 ⟨rfl,dk1,W,S2,hd1,hl1,hl2,hl3,hl4⟩)
   have S3:Aside _:=S2
   have HB1:Hid (Sr.qd (ltOf cf) 20 dk1.toList∧Sr.d_ (ltOf cf) d.toList dk1.toList):=hid (by
    rw [hl1,List.append_nil]
    exact⟨HE.out.2.2.1 W (Sr.qd.last (by have:=hl.out;have:=HE.out.2.1;omega) hl3),HE.out.2.2.2.trans ((Sr.d_.refl _).app hl4)⟩)
   have Jr:dk1.size=d.size:=by omega
   clear S2 hl1 hl2 hl3 hl4 hl HE
   go_wp2_with fail
   go_loopw [6] (fun s6 wr=>∃ (bs:Nat) (dk:Array α),s6=.int .i64 bs∧20≤bs∧bs≤2 * n+20∧dk.size=d.size∧Aside (SWK enc k w0 blk off dk wr)∧Hid (Sr.qd (ltOf cf) bs dk.toList∧Sr.d_ (ltOf cf) d.toList dk.toList)) (fun s6 _=>n - (intOf s6).toNat)
   case atStart=>exact⟨20,dk1,rfl,Nat.le_refl _,by omega,Jr,S3,HB1⟩
   case round =>
    clear S3 HB1 hd1 Jr hds han
    obtain⟨bs,dk2,rfl,hb1,hb2,hds,S1,HE⟩:=hrel
    by_cases hbn:bs<n
    ·as_aux_lemma =>
     have hbz:(bs:Int)<(n:Int):=by omega
     go_wp2_with fail
     go_loopw [7,8] (fun s7 s8 wr=>∃ (a:Nat) (dk:Array α) (D R':List α),s7=.int .i64 a∧s8=.int .i64 ((a:Int)+2 * (bs:Int))∧a≤n∧dk.size=d.size∧Aside (SWK enc k w0 blk off dk wr)∧Hid (dk.toList=D++R'∧D.length=a∧Sr.Pre (ltOf cf) (2 * bs) D∧Sr.qd (ltOf cf) bs R'∧Sr.d_ (ltOf cf) d.toList (D++R'))) (fun s7 _ _=>n - (intOf s7).toNat)
     case atStart=>exact⟨0,dk2,[],dk2.toList,rfl,by congr 1 <;> omega,Nat.zero_le _,hds,S1,hid ⟨rfl,rfl,Sr.Pre.nil,HE.out.1,HE.out.2⟩⟩
     case round =>
      clear S1 HE hds
      obtain⟨a,dk,D,R',rfl,rfl,han,hds,S1,HE⟩:=hrel
      have hl:Hid (D.length+R'.length=n):=hid (by have:=congrArg List.length HE.out.1;rw [Array.length_toList,List.length_append] at this;omega)
      by_cases hlt:a+2 * bs≤n
      ·have hlz:(a:Int)+2 * (bs:Int)≤(n:Int):=by omega
       obtain⟨q1,r1,hq1,hq2,hq3,hq4⟩:=HE.out.2.2.2.1.first' (by omega) (by have:=hl.out;have:=HE.out.2.1;omega)
       have hr:=congrArg List.length hq1
       rw [List.length_append] at hr
       obtain⟨q5,r5,JE,hq6,Cq,hq8⟩:=hq4.first' (by omega) (by have:=hl.out;have:=HE.out.2.1;omega)
       have hcall:=vG (P:=P) L k aE zE enc blk off cap d0 w0 R cf g cb eg HC.out ho (q1.length+q5.length) D q1 q5 r5 dk wr (by omega) S1.out (by rw [HE.out.1,hq1,JE]) hq3 Cq a (a+bs) (a+2 * bs) HE.out.2.1.symm (by have:=HE.out.2.1;omega) (by have:=HE.out.2.1;omega) (by omega) (by omega) (Nat.le_refl _) (by omega)
       rw [hds,show ((a+bs:Nat):Int)=(a:Int)+(bs:Int) by omega,show ((a+2 * bs:Nat):Int)=(a:Int)+2 * (bs:Int) by omega] at hcall
       have Q1:=hid hq1
       have Q2:=hid hq2
       have Q5:=hid JE
       have Q6:=hid hq6
       have Q8:=hid hq8
       clear S1 hq1 hq2 hq3 hq4 JE hq6 Cq hq8 hr
       go_wp2_with (go_at_fn 144;refine hcall.mono ?_;rintro e w1 ⟨rfl,dk1,W,S2,hd1,hl1,hl2,hl3,hl4⟩)
       have S3:Aside _:=S2
       have HL:=hid (And.intro hl1 (And.intro hl2 (And.intro hl3 hl4)))
       clear S2 hl1 hl2 hl3 hl4
       go_wp2
       go_roundw
       case rel =>
        refine⟨a+2 * bs,dk1,D++W,r5,by congr 1 <;> omega,by congr 1 <;> omega,hlt,by omega,S3,hid ⟨by rw [HL.out.1];simp,by rw [List.length_append,HL.out.2.1,List.length_append];have:=HE.out.2.1;have:=Q2.out;have:=Q6.out;omega,HE.out.2.2.1.snoc (by rw [HL.out.2.1,List.length_append];have:=Q2.out;have:=Q6.out;omega) HL.out.2.2.1,Q8.out,?_⟩⟩
        refine HE.out.2.2.2.2.trans ?_
        have:=((Sr.d_.refl (lt:=ltOf cf) D).app HL.out.2.2.2).app (Sr.d_.refl (lt:=ltOf cf) r5)
        rw [Q1.out,Q5.out]
        simpa using this
       case measure=>simp [intOf];omega
      ·have hlz:¬ (a:Int)+2 * (bs:Int)≤(n:Int):=by omega
       have wm:IntKind.i64.wrap ((bs:Int) * 2)=(bs:Int) * 2:=by rw [IntKind.wrap_i64];omega
       by_cases hmn:a+bs<n
       ·have hmz:(a:Int)+(bs:Int)<(n:Int):=by omega
        obtain⟨q1,r1,hq1,hq2,hq3,hq4⟩:=HE.out.2.2.2.1.first (by have:=hl.out;have:=HE.out.2.1;omega)
        have hr:=congrArg List.length hq1
        rw [List.length_append] at hr
        have Cq:=hq4.all (by have:=hl.out;have:=HE.out.2.1;omega)
        have hcall:=vG (P:=P) L k aE zE enc blk off cap d0 w0 R cf g cb eg HC.out ho (q1.length+r1.length) D q1 r1 [] dk wr (by omega) S1.out (by rw [HE.out.1,hq1,List.append_nil]) hq3 Cq a (a+bs) n HE.out.2.1.symm (by have:=HE.out.2.1;omega) (by have:=hl.out;omega) (by omega) (by have:=hl.out;have:=HE.out.2.1;omega) (Nat.le_refl _) (by omega)
        rw [hds,show ((a+bs:Nat):Int)=(a:Int)+(bs:Int) by omega] at hcall
        have Q1:=hid hq1
        clear S1 hq1 hq2 hq3 hq4 Cq hr
        go_wp2_with (go_at_fn 144;refine hcall.mono ?_;rintro e w1 ⟨rfl,dk1,W,S2,hd1,hl1,hl2,hl3,hl4⟩)
        have S3:Aside _:=S2
        have HL:=hid (And.intro hl1 (And.intro hl2 (And.intro hl3 hl4)))
        clear S2 hl1 hl2 hl3 hl4
        go_wp2
        go_roundw
        case rel =>
         refine⟨2 * bs,dk1,by congr 1 <;> omega,by omega,by omega,by omega,S3,hid ?_⟩
         rw [HL.out.1,List.append_nil]
         exact⟨HE.out.2.2.1 W (Sr.qd.last (by rw [HL.out.2.1,← Q1.out];have:=hl.out;have:=HE.out.2.1;omega) HL.out.2.2.1),HE.out.2.2.2.2.trans ((Sr.d_.refl _).app (by rw [Q1.out];exact HL.out.2.2.2))⟩
        case measure=>simp [intOf];omega
       ·have hmz:¬ (a:Int)+(bs:Int)<(n:Int):=by omega
        go_wp2
        go_roundw
        case rel =>
         refine⟨2 * bs,dk,by congr 1 <;> omega,by omega,by omega,hds,S1,hid ?_⟩
         rw [HE.out.1]
         exact⟨HE.out.2.2.1 R' (Sr.qd.last (by have:=hl.out;have:=HE.out.2.1;omega) (HE.out.2.2.2.1.all (by have:=hl.out;have:=HE.out.2.1;omega))),HE.out.2.2.2.2⟩
        case measure=>simp [intOf];omega
    ·have hbz:¬ (bs:Int)<(n:Int):=by omega
     have HF:Hid (Sr.dV (ltOf cf) dk2.toList):=hid (HE.out.1.all (by rw [Array.length_toList];omega))
     go_wp2
     go_end0
     exact⟨rfl,dk2,dk2.toList,S1.out,hds,by simp,by rw [Array.length_toList,Array.length_toList];exact hds,HF.out,HE.out.2⟩
end
end
end Go.Proofs.YtdjiiknefhepdaaGreat
