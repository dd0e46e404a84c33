import Derived.Test.YtcedlgedmkghgaaGreatZ1
import Derived.Test.YtcedlgedmkghgaaGreatProg
import Derived.Shelf.SlSortCmp.KitK
import Derived.Sort.WalkB2
import Derived.Sort.WalkB12
import Derived.Deep.LoopGhost
import Derived.BigRegion
import Derived.WalkKit
import Derived.Lib.Hide
import Derived.Deep.DeepCutAuto
namespace Go.Proofs.YtcedlgedmkghgaaGreat
set_option maxHeartbeats 16000000
open Go.Lib
set_option linter.unusedSimpArgs false
set_option maxRecDepth 100000
section
section
open Go.Shelf Go.RowKit Go.Lib Go.Sort
structure vX (bo:Bool) (P:Program):Prop where
 mixed:P.follows .mixedOrders=true
 f1:P.funcs[(cond bo 266 267)]?=some (cond bo Tryz.f266 Tryz.f267)
 f2:P.funcs[(cond bo 260 261)]?=some (cond bo Tryz.f260 Tryz.f261)
 f3:P.funcs[(cond bo 244 246)]?=some (cond bo Tryz.f244 Tryz.f246)
 f4:P.funcs[(cond bo 245 247)]?=some (cond bo Tryz.f245 Tryz.f247)
 f5:P.funcs[(cond bo 218 220)]?=some (cond bo Tryz.f218 Tryz.f220)
 e1:∀ args w,(callFunc (cond bo 266 267) args).run P w=.ok (.enter (cond bo 266 267) args) w
 e2:∀ args w,(callFunc (cond bo 260 261) args).run P w=.ok (.enter (cond bo 260 261) args) w
 e3:∀ args w,(callFunc (cond bo 244 246) args).run P w=.ok (.enter (cond bo 244 246) args) w
 e4:∀ args w,(callFunc (cond bo 245 247) args).run P w=.ok (.enter (cond bo 245 247) args) w
 u0:P.underlying 0=some (.tuple #[])
 a0:∀ w,(isAgg 0).run P w=.ok false w
 z0:∀ w,(Go.sizeOf 0).run P w=.ok 1 w
 v0:∀ w,(zeroValue 0).run P w=.ok (.tuple #[]) w
 u3:P.underlying 3=some (.int .i64)
 a3:∀ w,(isAgg 3).run P w=.ok false w
 z3:∀ w,(Go.sizeOf 3).run P w=.ok 1 w
 v3:∀ w,(zeroValue 3).run P w=.ok (.int .i64 0) w
 u4:P.underlying 4=some .bool
 a4:∀ w,(isAgg 4).run P w=.ok false w
 z4:∀ w,(Go.sizeOf 4).run P w=.ok 1 w
 v4:∀ w,(zeroValue 4).run P w=.ok (.bool false) w
 u5:P.underlying 134=some (.int .u64)
 a5:∀ w,(isAgg 134).run P w=.ok false w
 z5:∀ w,(Go.sizeOf 134).run P w=.ok 1 w
 v5:∀ w,(zeroValue 134).run P w=.ok (.int .u64 0) w
 u6:P.underlying (cond bo 22 23)=some (.slice (cond bo 71 74))
 a6:∀ w,(isAgg (cond bo 22 23)).run P w=.ok false w
 z6:∀ w,(Go.sizeOf (cond bo 22 23)).run P w=.ok 1 w
 v6:∀ w,(zeroValue (cond bo 22 23)).run P w=.ok (.slice none 0 0) w
 u7:P.underlying (cond bo 199 204)=some (.func #[(cond bo 71 74),(cond bo 71 74)] #[3] false)
 a7:∀ w,(isAgg (cond bo 199 204)).run P w=.ok false w
 z7:∀ w,(Go.sizeOf (cond bo 199 204)).run P w=.ok 1 w
 v7:∀ w,(zeroValue (cond bo 199 204)).run P w=.ok .nilFunc w
 n1:(cond bo Tryz.f266 Tryz.f267).ntmps=38
 n2:(cond bo Tryz.f260 Tryz.f261).ntmps=58
 n3:(cond bo Tryz.f244 Tryz.f246).ntmps=53
 n4:(cond bo Tryz.f245 Tryz.f247).ntmps=220
 n5:(cond bo Tryz.f218 Tryz.f220).ntmps=63
variable {bo : Bool} {P : Program} {α : Type} [Inhabited α]
def SOkL (enc:α→List Value) (k:Nat) (w0:World) (blk off:Nat) (d:Array α) (l:List α) (w':World):Prop:=∃ dk:Array α,SWK enc k w0 blk off dk w'∧dk.size=d.size∧dk.toList=l
set_option maxRecDepth 1000000 in
theorem ow (L:vX bo P) (k:Nat) (aE:∀ w,(isAgg (cond bo 71 74)).run P w=.ok true w) (zE:∀ w,(Go.sizeOf (cond bo 71 74)).run P w=.ok k w) (enc:α→List Value) (blk off cap:Nat) (d0 d:Array α) (w0 w:World) (R:RowK enc k w0 blk off d0) (hs:d0.size=d.size) (S:SWK enc k w0 blk off d w) {X p M q Y:List α} (hd:d.toList=X++(p++(M++(q++Y)))) (hpq:q.length=p.length) (a b n:Nat) (ha:a=X.length) (hb:b=X.length+p.length+M.length) (hn:n=p.length) (hsz:d.size<4611686018427387904) (DD:Value) :
  Calls P (cond bo 266 267) #[.slice (some ⟨blk,off,none⟩) d.size cap,.int .i64 a,.int .i64 b,.int .i64 n,DD] w fun e w'=>e=.returned (.tuple #[])∧SOkL enc k w0 blk off d (X++(q++(M++(p++Y)))) w':=by
 cases bo
 all_goals
  have mixed:=L.mixed;have u0:=L.u0;have a0:=L.a0;have z0:=L.z0;have v0:=L.v0;have u3:=L.u3;have a3:=L.a3;have z3:=L.z3;have v3:=L.v3;have u4:=L.u4;have a4:=L.a4;have z4:=L.z4;have v4:=L.v4;have u5:=L.u5;have a5:=L.a5;have z5:=L.z5;have v5:=L.v5;have u6:=L.u6;have a6:=L.a6;have z6:=L.z6;have v6:=L.v6;have u7:=L.u7;have a7:=L.a7;have z7:=L.z7;have v7:=L.v7;simp only [cond_true,cond_false] at *
  have hlen:d.size=X.length+(p.length+(M.length+(q.length+Y.length))):=by have:=congrArg List.length hd;simp only [Array.length_toList,List.length_append] at this;omega
  have HD:=hid hd
  have HX:=hid ha
  have HB:=hid hb
  have HN:=hid hn
  have HQ:=hid hpq
  have S0:Aside _:=S
  have bb:b+n≤d.size:=by omega
  have ab:a+n≤b:=by omega
  have HLen:=hid hlen
  have FG:=L.f1;have NT:=L.n1;simp only [cond_true,cond_false] at FG NT
  clear hd ha hb hn hpq S hlen
  go_enter FG,NT
  go_wp2
  go_loopw [10] (fun s10 wr=>∃ (i:Nat) (dk:Array α),s10=.int .i64 i∧i≤n∧dk.size=d.size∧Aside (SWK enc k w0 blk off dk wr)∧Hid (dk.toList=X++(q.take i++(p.drop i++(M++(p.take i++(q.drop i++Y))))))) (fun s10 _=>n - (intOf s10).toNat)
  case atStart=>exact⟨0,d,rfl,Nat.zero_le _,rfl,S0,hid (by simpa using HD.out)⟩
  case round =>
   obtain⟨i,dk,rfl,hi,hds,S1,HE⟩:=hrel
   clear S0
   by_cases hlt:i<n
   ·have hlz:(i:Int)<(n:Int):=by omega
    obtain⟨pi,hpi⟩:∃ x,p.drop i=x :: p.drop (i+1)∧p[i]?=some x:=by
     have:i<p.length:=by have:=HN.out;omega
     exact⟨p[i],List.drop_eq_getElem_cons this,List.getElem?_eq_getElem this⟩
    obtain⟨qi,hqi⟩:∃ x,q.drop i=x :: q.drop (i+1)∧q[i]?=some x:=by
     have:i<q.length:=by have:=HN.out;have:=HQ.out;omega
     exact⟨q[i],List.drop_eq_getElem_cons this,List.getElem?_eq_getElem this⟩
    have HSW:Hid ((swp dk (a+i) (b+i)).toList=X++(q.take (i+1)++(p.drop (i+1)++(M++(p.take (i+1)++(q.drop (i+1)++Y)))))):=hid (by
     have h1:dk.toList=(X++q.take i)++pi :: ((p.drop (i+1)++(M++p.take i))++qi :: (q.drop (i+1)++Y)):=by rw [HE.out,hpi.1,hqi.1];simp
     have l1:(q.take i).length=i:=by rw [List.length_take];have:=HN.out;have:=HQ.out;omega
     have l2:(p.take i).length=i:=by rw [List.length_take];have:=HN.out;omega
     have l3:(p.drop (i+1)).length=p.length - (i+1):=List.length_drop
     have q1:=(Sr.pR (i:=a+i) (j:=b+i) h1 (by rw [List.length_append,l1,HX.out]) (by simp only [List.length_append,l1,l2,l3];have:=HX.out;have:=HB.out;have:=HN.out;omega)).1
     rw [q1,List.take_add_one,List.take_add_one,hpi.2,hqi.2]
     simp)
    clear hpi hqi
    have nC:((a:Int)+(i:Int)).toNat=a+i:=by omega
    have nH:(0:Int)≤(a:Int)+(i:Int):=by omega
    have nz:(a:Int)+(i:Int)<(d.size:Int):=by omega
    have nL:IntKind.i64.wrap ((a:Int)+(i:Int))=(a:Int)+(i:Int):=by rw [IntKind.wrap_i64];omega
    have nD:((b:Int)+(i:Int)).toNat=b+i:=by omega
    have nI:(0:Int)≤(b:Int)+(i:Int):=by omega
    have bc1:(b:Int)+(i:Int)<(d.size:Int):=by omega
    have nM:IntKind.i64.wrap ((b:Int)+(i:Int))=(b:Int)+(i:Int):=by rw [IntKind.wrap_i64];omega
    have S2:Aside (SWK enc k w0 blk off (swp dk (a+i) (b+i)) ((wr.drew.setCells blk (off+(a+i) * k) (enc dk[b+i]!)).setCells blk (off+(b+i) * k) (enc dk[a+i]!))):=S1.out.swapped R (a+i) (b+i) (by omega) (by omega)
    have jM:=S1.out.ld1 R (by omega) P (a+i) (by omega)
    have jN:=S1.out.ld1 R (by omega) P (b+i) (by omega)
    have s1a:=S1.out.st1 R (by omega) P (a+i) (by omega) dk[b+i]!
    have s1b:=S1.out.st2 R (by omega) P (a+i) (b+i) (by omega) (by omega) dk[b+i]! dk[a+i]!
    have n1a:(enc dk[a+i]!).length=k:=R.hk _
    have n1b:(enc dk[b+i]!).length=k:=R.hk _
    generalize enc dk[a+i]! = cI1 at S2 jM s1b n1a
    generalize enc dk[b+i]! = cJ1 at S2 jN s1a s1b n1b
    clear S1
    go_wp2_with fail
    go_big_region_o
    clear jM jN s1a s1b
    generalize (wr.drew.setCells blk (off+(a+i) * k) cJ1).setCells blk (off+(b+i) * k) cI1=w2 at S2 ⊢
    clear nC nH nz nL nD nI bc1 nM
    go_wp2
    go_roundw
    case rel=>exact⟨i+1,_,by go_num,by omega,by rw [size_swp];exact hds,S2,HSW⟩
    case measure=>simp [intOf];omega
   ·obtain rfl:i=n:=by omega
    have HF:=HE.out
    have e1:q.take i=q:=List.take_of_length_le (by have:=HN.out;have:=HQ.out;omega)
    have e2:p.take i=p:=List.take_of_length_le (by have:=HN.out;omega)
    have e3:q.drop i=[]:=List.drop_of_length_le (by have:=HN.out;have:=HQ.out;omega)
    have e4:p.drop i=[]:=List.drop_of_length_le (by have:=HN.out;omega)
    rw [e1,e2,e3,e4] at HF
    have HG:Hid (dk.toList=X++(q++(M++(p++Y)))):=hid (by simpa using HF)
    clear HF e1 e2 e3 e4
    go_wp2
    go_end0
    exact⟨rfl,dk,S1.out,hds,HG.out⟩
end
end
section
section
open Go.Shelf Go.RowKit Go.Lib Go.Sort
variable {bo : Bool} {P : Program} {α : Type} [Inhabited α]
set_option maxRecDepth 1000000 in
theorem rotateL (L:vX bo P) (k:Nat) (aE:∀ w,(isAgg (cond bo 71 74)).run P w=.ok true w) (zE:∀ w,(Go.sizeOf (cond bo 71 74)).run P w=.ok k w) (enc:α→List Value) (blk off cap:Nat) (d0 d:Array α) (w0 w:World) (R:RowK enc k w0 blk off d0) (hs:d0.size=d.size) (S:SWK enc k w0 blk off d w) {X p q Y:List α} (hd:d.toList=X++(p++(q++Y))) (hp:0<p.length) (hq:0<q.length) (a m b:Nat) (ha:a=X.length) (hm:m=X.length+p.length) (hb:b=X.length+p.length+q.length) (hsz:d.size<4611686018427387904) (DD:Value) :
  Calls P (cond bo 260 261) #[.slice (some ⟨blk,off,none⟩) d.size cap,.int .i64 a,.int .i64 m,.int .i64 b,DD] w fun e w'=>e=.returned (.tuple #[])∧SOkL enc k w0 blk off d (X++(q++(p++Y))) w':=by
 cases bo
 all_goals
  have mixed:=L.mixed;have u0:=L.u0;have a0:=L.a0;have z0:=L.z0;have v0:=L.v0;have u3:=L.u3;have a3:=L.a3;have z3:=L.z3;have v3:=L.v3;have u4:=L.u4;have a4:=L.a4;have z4:=L.z4;have v4:=L.v4;have u5:=L.u5;have a5:=L.a5;have z5:=L.z5;have v5:=L.v5;have u6:=L.u6;have a6:=L.a6;have z6:=L.z6;have v6:=L.v6;have u7:=L.u7;have a7:=L.a7;have z7:=L.z7;have v7:=L.v7;simp only [cond_true,cond_false] at *
  have hlen:d.size=X.length+(p.length+(q.length+Y.length)):=by have:=congrArg List.length hd;simp only [Array.length_toList,List.length_append] at this;omega
  have HD:=hid hd
  have HX:=hid ha
  have HM:=hid hm
  have HB:=hid hb
  have S0:Aside _:=S
  have bb:b≤d.size:=by omega
  have am:a<m:=by omega
  have mb:m<b:=by omega
  have FG:=L.f2;have NT:=L.n2;simp only [cond_true,cond_false] at FG NT
  have e1:=L.e1;simp only [cond_true,cond_false] at *
  clear hd ha hm hb S hlen
  go_enter FG,NT
  go_wp2
  go_loopw [10,11] (fun s10 s11 wr=>∃ (i j:Nat) (dk:Array α) (X' p' q' Y':List α),s10=.int .i64 i∧s11=.int .i64 j∧0<i∧0<j∧i≤m∧m+j≤b∧dk.size=d.size∧Aside (SWK enc k w0 blk off dk wr) ∧
   Hid (p'.length=i∧q'.length=j∧X'.length+i=m∧dk.toList=X'++(p'++(q'++Y'))∧X'++(q'++(p'++Y'))=X++(q++(p++Y)))) (fun s10 s11 _=>(intOf s10).toNat+(intOf s11).toNat)
  case atStart=>exact⟨m - a,b - m,d,X,p,q,Y,by congr 1 <;> omega,by congr 1 <;> omega,by omega,by omega,by omega,by omega,rfl,S0,hid ⟨by have:=HX.out;have:=HM.out;omega,by have:=HM.out;have:=HB.out;omega,by have:=HX.out;have:=HM.out;omega,HD.out,rfl⟩⟩
  case round =>
   obtain⟨i,j,dk,X',p',q',Y',rfl,rfl,hi,hj,him,hjb,hds,S1,HE⟩:=hrel
   clear S0
   rcases Nat.lt_trichotomy i j with hlt | hlt | hlt
   ·have hne:((i:Int)==(j:Int))=false:=by simp;omega
    have hne2:((i:Int) != (j:Int))=true:=by simp;omega
    have hgt:¬ ((j:Int)<(i:Int)):=by omega
    have hcall:=ow (P:=P) L k aE zE enc blk off cap d0 dk w0 wr R (by omega) S1.out (X:=X') (p:=p') (M:=q'.take (j - i)) (q:=q'.drop (j - i)) (Y:=Y') (by rw [HE.out.2.2.2.1,← List.append_assoc (q'.take _),List.take_append_drop]) (by rw [List.length_drop];have:=HE.out.1;have:=HE.out.2.1;omega) (m - i) (m+j - i) i (by have:=HE.out.2.2.1;omega) (by rw [List.length_take];have:=HE.out.1;have:=HE.out.2.1;have:=HE.out.2.2.1;omega) HE.out.1.symm (by omega) DD
    rw [hds,show ((m - i:Nat):Int)=(m:Int) - (i:Int) by omega,show ((m+j - i:Nat):Int)=(m:Int)+(j:Int) - (i:Int) by omega] at hcall
    clear S1
    go_wp2_with ((first | go_at_fn 266 | go_at_fn 267);(try simp only [cond_true,cond_false] at hcall);refine hcall.mono ?_;rintro e w1 ⟨rfl,dk1,S2,hd1,hl1⟩)
    have S3:Aside _:=S2
    have HL:=hid hl1
    clear S2 hl1
    go_wp2
    go_roundw
    case rel=>exact⟨i,j - i,dk1,X',q'.drop (j - i),q'.take (j - i),p'++Y',rfl,by congr 1 <;> omega,hi,by omega,him,by omega,by omega,S3,hid ⟨by rw [List.length_drop];have:=HE.out.1;have:=HE.out.2.1;omega,by rw [List.length_take];have:=HE.out.2.1;omega,HE.out.2.2.1,by rw [HL.out],by rw [← HE.out.2.2.2.2,← List.append_assoc (q'.take _),List.take_append_drop]⟩⟩
    case measure=>simp [intOf];omega
   ·subst hlt
    have hcall:=ow (P:=P) L k aE zE enc blk off cap d0 dk w0 wr R (by omega) S1.out (X:=X') (p:=p') (M:=[]) (q:=q') (Y:=Y') (by rw [HE.out.2.2.2.1];rfl) (by have:=HE.out.1;have:=HE.out.2.1;omega) (m - i) m i (by have:=HE.out.2.2.1;omega) (by have:=HE.out.1;have:=HE.out.2.2.1;simp;omega) HE.out.1.symm (by omega) DD
    rw [hds,show ((m - i:Nat):Int)=(m:Int) - (i:Int) by omega] at hcall
    clear S1
    go_wp2_with ((first | go_at_fn 266 | go_at_fn 267);(try simp only [cond_true,cond_false] at hcall);refine hcall.mono ?_;rintro e w1 ⟨rfl,dk1,S2,hd1,hl1⟩)
    have S3:Aside _:=S2
    have HL:=hid hl1
    clear S2 hl1
    go_wp2
    go_end0
    exact⟨rfl,dk1,S3.out,by omega,by rw [HL.out,← HE.out.2.2.2.2];rfl⟩
   ·have hne:((i:Int)==(j:Int))=false:=by simp;omega
    have hne2:((i:Int) != (j:Int))=true:=by simp;omega
    have hgt:(j:Int)<(i:Int):=by omega
    have hcall:=ow (P:=P) L k aE zE enc blk off cap d0 dk w0 wr R (by omega) S1.out (X:=X') (p:=p'.take j) (M:=p'.drop j) (q:=q') (Y:=Y') (by rw [HE.out.2.2.2.1,← List.append_assoc (p'.take _),List.take_append_drop]) (by rw [List.length_take];have:=HE.out.1;have:=HE.out.2.1;omega) (m - i) m j (by have:=HE.out.2.2.1;omega) (by rw [List.length_take,List.length_drop];have:=HE.out.1;have:=HE.out.2.1;have:=HE.out.2.2.1;omega) (by rw [List.length_take];have:=HE.out.1;omega) (by omega) DD
    rw [hds,show ((m - i:Nat):Int)=(m:Int) - (i:Int) by omega] at hcall
    clear S1
    go_wp2_with ((first | go_at_fn 266 | go_at_fn 267);(try simp only [cond_true,cond_false] at hcall);refine hcall.mono ?_;rintro e w1 ⟨rfl,dk1,S2,hd1,hl1⟩)
    have S3:Aside _:=S2
    have HL:=hid hl1
    clear S2 hl1
    go_wp2
    go_roundw
    case rel=>exact⟨i - j,j,dk1,X'++q',p'.drop j,p'.take j,Y',by congr 1 <;> omega,rfl,by omega,hj,by omega,hjb,by omega,S3,hid ⟨by rw [List.length_drop];have:=HE.out.1;omega,by rw [List.length_take];have:=HE.out.1;omega,by rw [List.length_append];have:=HE.out.2.1;have:=HE.out.2.2.1;omega,by rw [HL.out];simp,by rw [← HE.out.2.2.2.2,List.append_assoc,← List.append_assoc (p'.take _),List.take_append_drop]⟩⟩
    case measure=>simp [intOf];omega
def lN (cf:α→α→Int) (enc:α→List Value) (k:Nat) (w0:World) (blk off:Nat) (d:Array α) (A B C:List α) (w':World):Prop :=
 ∃ (dk:Array α) (W:List α),SWK enc k w0 blk off dk w'∧dk.size=d.size∧dk.toList=A++(W++C)∧W.length=B.length∧Sr.fO (ltOf cf) W∧Sr.gG (ltOf cf) B W
set_option maxRecDepth 1000000 in
theorem sO (L:vX bo P) (k:Nat) (aE:∀ w,(isAgg (cond bo 71 74)).run P w=.ok true w) (zE:∀ w,(Go.sizeOf (cond bo 71 74)).run P w=.ok k w) (enc:α→List Value) (blk off cap:Nat) (d0 d:Array α) (w0 w:World) (R:RowK enc k w0 blk off d0) (hs:d0.size=d.size) (S:SWK enc k w0 blk off d w) (cf:α→α→Int) (g:Nat) (cb:Array Value) (eg:∀ args w,(callFunc g args).run P w=.ok (.enter g args) w) (hcmp:CmpLays P g cb enc k cf blk off d0.size w0) (ho:Sr.WO (ltOf cf)) {A B C:List α} (hd:d.toList=A++(B++C)) (a b:Nat) (ha:a=A.length) (hb:b=A.length+B.length) (hsz:d.size<4611686018427387904) :
  Calls P (cond bo 244 246) #[.slice (some ⟨blk,off,none⟩) d.size cap,.int .i64 a,.int .i64 b,.func (.func g) #[] cb] w fun e w'=>e=.returned (.tuple #[])∧lN cf enc k w0 blk off d A B C w':=by
 cases bo
 all_goals
  have mixed:=L.mixed;have u0:=L.u0;have a0:=L.a0;have z0:=L.z0;have v0:=L.v0;have u3:=L.u3;have a3:=L.a3;have z3:=L.z3;have v3:=L.v3;have u4:=L.u4;have a4:=L.a4;have z4:=L.z4;have v4:=L.v4;have u5:=L.u5;have a5:=L.a5;have z5:=L.z5;have v5:=L.v5;have u6:=L.u6;have a6:=L.a6;have z6:=L.z6;have v6:=L.v6;have u7:=L.u7;have a7:=L.a7;have z7:=L.z7;have v7:=L.v7;simp only [cond_true,cond_false] at *
  have hlen:d.size=A.length+(B.length+C.length):=by have:=congrArg List.length hd;simp only [Array.length_toList,List.length_append] at this;omega
  have HD:=hid hd
  have HA:=hid ha
  have xJ:=hid hb
  have HC:Aside _:=hcmp
  have S0:Aside _:=S
  have bb:b≤d.size:=by omega
  have ab:a≤b:=by omega
  have FG:=L.f3;have NT:=L.n3;simp only [cond_true,cond_false] at FG NT
  clear hd ha hb S hlen hcmp
  go_enter FG,NT
  go_wp2
  go_loopw [8] (fun s8 wr=>∃ (i:Nat) (dk:Array α) (T R' W:List α),s8=.int .i64 i∧a<i∧i≤b+1∧dk.size=d.size∧Aside (SWK enc k w0 blk off dk wr) ∧
   Hid (B=T++R'∧(i<b→a+T.length=i)∧(b≤i→R'=[])∧dk.toList=A++(W++(R'++C))∧W.length=T.length∧Sr.fO (ltOf cf) W∧Sr.gG (ltOf cf) T W)) (fun s8 _=>b+1 - (intOf s8).toNat)
  case atStart =>
   refine⟨a+1,d,B.take 1,B.drop 1,B.take 1,by go_num,by omega,by omega,rfl,S0,hid ⟨(List.take_append_drop 1 B).symm,fun h=>by rw [List.length_take];have:=HA.out;have:=xJ.out;omega,fun h=>List.drop_of_length_le (by have:=HA.out;have:=xJ.out;omega),by rw [← List.append_assoc (B.take 1),List.take_append_drop];exact HD.out,rfl,?_,Sr.gG.refl _⟩⟩
   rcases B with _ | ⟨x,B⟩
   ·exact Sr.fO.nil
   ·exact Sr.fO.one x
  case round =>
   obtain⟨i,dk,T,R',W,rfl,hai,hib,hds,S1,HE⟩:=hrel
   clear S0
   by_cases hlt:i<b
   ·have hltz:(i:Int)<(b:Int):=by omega
    obtain⟨x,R2,hR⟩:∃ x R2,R'=x :: R2:=by
     have h1:=HE.out.1
     have h2:=HE.out.2.1 hlt
     have h3:=congrArg List.length h1
     rw [List.length_append] at h3
     have:=HA.out;have:=xJ.out
     cases hq:R' with
     | nil=>rw [hq] at h3;simp at h3;omega
     | cons x R2=>exact⟨x,R2,rfl⟩
    have HI0:Hid (Sr.Ins (ltOf cf) A (T++[x]) (R2++C) dk.toList i):=hid (by
     have:=Sr.Ins.start (lt:=ltOf cf) (A:=A) (T:=T) (C:=R2++C) (m:=dk.toList) (x:=x) (W:=W) (by rw [HE.out.2.2.2.1,hR];simp) HE.out.2.2.2.2.1 HE.out.2.2.2.2.2.1 HE.out.2.2.2.2.2.2
     rwa [show A.length+W.length=i by have:=HE.out.2.1 hlt;have:=HE.out.2.2.2.2.1;have:=HA.out;omega] at this)
    have HR:=hid hR
    clear hR
    go_wp2
    go_loopw [9] (fun s9 wr2=>∃ (j:Nat) (dj:Array α),s9=.int .i64 j∧a≤j∧j≤i∧dj.size=d.size∧Aside (SWK enc k w0 blk off dj wr2)∧Hid (Sr.Ins (ltOf cf) A (T++[x]) (R2++C) dj.toList j)) (fun s9 _=>(intOf s9).toNat)
    case atStart=>exact⟨i,dk,rfl,by omega,Nat.le_refl _,hds,S1,HI0⟩
    case round =>
     clear S1
     obtain⟨j,dj,rfl,haj,hji,hsj,S1,HI⟩:=hrel
     have OUT:Hid ((j≤a∨ltOf cf dj[j]! dj[j - 1]! = false)→B=(T++[x])++R2∧(i+1<b→a+(T++[x]).length=i+1)∧(b≤i+1→R2=[])∧∃ W2:List α,dj.toList=A++(W2++(R2++C))∧W2.length=(T++[x]).length∧Sr.fO (ltOf cf) W2∧Sr.gG (ltOf cf) (T++[x]) W2):=hid fun hst=>by
      have q1:B=(T++[x])++R2:=by rw [HE.out.1,HR.out];simp
      have q2:=HE.out.2.1 hlt
      have q3:=congrArg List.length q1
      rw [List.length_append,List.length_append,List.length_singleton] at q3
      refine⟨q1,fun _=>by rw [List.length_append,List.length_singleton];omega,fun _=>List.length_eq_zero_iff.1 (by have:=HA.out;have:=xJ.out;omega),?_⟩
      exact HI.out.stop ho (hst.imp (fun q=>by have:=HA.out;omega) id)
     by_cases hja:a<j
     ·obtain⟨jp,rfl⟩:∃ jp,j=jp+1:=⟨j - 1,by omega⟩
      have hjaz':(a:Int)<(jp:Int)+1:=by omega
      have hwp:IntKind.i64.wrap (jp:Int)=(jp:Int):=by rw [IntKind.wrap_i64];omega
      have jz1:(jp:Int)<(d.size:Int):=by omega
      cases hL:ltOf cf dj[jp+1]! dj[jp]! with
      | true =>
       have HL:=hid hL
       have nC:((jp:Int)+1).toNat=jp+1:=by omega
       have nH:(0:Int)≤(jp:Int)+1:=by omega
       have nz:(jp:Int)+1<(d.size:Int):=by omega
       have nL:IntKind.i64.wrap ((jp:Int)+1)=(jp:Int)+1:=by rw [IntKind.wrap_i64];omega
       have nD:((jp:Int)).toNat=jp:=by omega
       have nI:(0:Int)≤(jp:Int):=by omega
       have bc1:(jp:Int)<(d.size:Int):=by omega
       have nM:IntKind.i64.wrap ((jp:Int))=(jp:Int):=by rw [IntKind.wrap_i64];omega
       obtain⟨x1,hx1⟩:∃ x,x=dj[jp+1]!:=⟨_,rfl⟩
       obtain⟨y1,hy1⟩:∃ x,x=dj[jp]!:=⟨_,rfl⟩
       have jM:=S1.out.ld R (by omega) P (jp+1) (by omega)
       have jN:=S1.out.ld R (by omega) P (jp) (by omega)
       rw [← hx1] at jM
       rw [← hy1] at jN
       have hc1:=S1.out.cmp HC.out (by omega) x1 y1
       have hv1:cf x1 y1<0:=by rw [hx1,hy1];exact of_decide_eq_true hL
       have hd1:decide (cf x1 y1<0)=true:=decide_eq_true hv1
       clear hx1 hy1
       go_wp2_with fail
       go_quiet_grown (first | (go_at_fn g;refine Calls.grown_of (hc1 _ _)))
       have S2:Aside (SWK enc k w0 blk off dj (grow (wr.drewN nq) osq)):=S1.out.grown nq osq
       clear jM jN hc1 S1
       generalize grow (wr.drewN nq) osq=w2 at S2 ⊢
       clear nq osq nC nH nz nL nD nI bc1 nM
       clear hL
       go_wp2_with fail
       have HSW:Hid (Sr.Ins (ltOf cf) A (T++[x]) (R2++C) (swp dj (jp+1) jp).toList jp):=hid (HI.out.step ho (by have:=HA.out;omega) HL.out)
       have wJ:((jp:Int)+1).toNat=jp+1:=by omega
       have w_:(0:Int)≤(jp:Int)+1:=by omega
       have v_:(jp:Int)+1<(d.size:Int):=by omega
       have xh:IntKind.i64.wrap ((jp:Int)+1)=(jp:Int)+1:=by rw [IntKind.wrap_i64];omega
       have wK:((jp:Int)).toNat=jp:=by omega
       have xe:(0:Int)≤(jp:Int):=by omega
       have bc2:(jp:Int)<(d.size:Int):=by omega
       have xk:IntKind.i64.wrap ((jp:Int))=(jp:Int):=by rw [IntKind.wrap_i64];omega
       have S3:Aside (SWK enc k w0 blk off (swp dj (jp+1) (jp)) ((w2.drew.setCells blk (off+(jp+1) * k) (enc dj[jp]!)).setCells blk (off+(jp) * k) (enc dj[jp+1]!))):=S2.out.swapped R (jp+1) (jp) (by omega) (by omega)
       have nP:=S2.out.ld1 R (by omega) P (jp+1) (by omega)
       have nQ:=S2.out.ld1 R (by omega) P (jp) (by omega)
       have s2a:=S2.out.st1 R (by omega) P (jp+1) (by omega) dj[jp]!
       have I9:=S2.out.st2 R (by omega) P (jp+1) (jp) (by omega) (by omega) dj[jp]! dj[jp+1]!
       have n2a:(enc dj[jp+1]!).length=k:=R.hk _
       have n2b:(enc dj[jp]!).length=k:=R.hk _
       generalize enc dj[jp+1]! = cI2 at S3 nP I9 n2a
       generalize enc dj[jp]! = cJ2 at S3 nQ s2a I9 n2b
       clear S2
       go_wp2_with fail
       go_big_region_o
       clear nP nQ s2a I9
       generalize (w2.drew.setCells blk (off+(jp+1) * k) cJ2).setCells blk (off+(jp) * k) cI2=w3 at S3 ⊢
       clear wJ w_ v_ xh wK xe bc2 xk
       go_wp2
       go_roundw
       case rel=>exact⟨jp,_,by first | rfl | go_num | (congr 1;omega),by omega,by omega,by rw [size_swp];exact hsj,S3,HSW⟩
       case measure=>simp [intOf] <;> omega
      | false =>
       have HL:=hid hL
       have nC:((jp:Int)+1).toNat=jp+1:=by omega
       have nH:(0:Int)≤(jp:Int)+1:=by omega
       have nz:(jp:Int)+1<(d.size:Int):=by omega
       have nL:IntKind.i64.wrap ((jp:Int)+1)=(jp:Int)+1:=by rw [IntKind.wrap_i64];omega
       have nD:((jp:Int)).toNat=jp:=by omega
       have nI:(0:Int)≤(jp:Int):=by omega
       have bc1:(jp:Int)<(d.size:Int):=by omega
       have nM:IntKind.i64.wrap ((jp:Int))=(jp:Int):=by rw [IntKind.wrap_i64];omega
       obtain⟨x1,hx1⟩:∃ x,x=dj[jp+1]!:=⟨_,rfl⟩
       obtain⟨y1,hy1⟩:∃ x,x=dj[jp]!:=⟨_,rfl⟩
       have jM:=S1.out.ld R (by omega) P (jp+1) (by omega)
       have jN:=S1.out.ld R (by omega) P (jp) (by omega)
       rw [← hx1] at jM
       rw [← hy1] at jN
       have hc1:=S1.out.cmp HC.out (by omega) x1 y1
       have hv1:¬ cf x1 y1<0:=by rw [hx1,hy1];exact of_decide_eq_false hL
       have hd1:decide (cf x1 y1<0)=false:=decide_eq_false hv1
       clear hx1 hy1
       go_wp2_with fail
       go_quiet_grown (first | (go_at_fn g;refine Calls.grown_of (hc1 _ _)))
       have S2:Aside (SWK enc k w0 blk off dj (grow (wr.drewN nq) osq)):=S1.out.grown nq osq
       clear jM jN hc1 S1
       generalize grow (wr.drewN nq) osq=w2 at S2 ⊢
       clear nq osq nC nH nz nL nD nI bc1 nM
       clear hL
       go_wp2
       go_roundw
       case rel =>
        obtain⟨o1,o2,o3,W2,o4,o5,o6,o7⟩:=OUT.out (.inr HL.out)
        exact⟨i+1,dj,T++[x],R2,W2,by go_num,by omega,by omega,hsj,S2,hid ⟨o1,o2,o3,o4,o5,o6,o7⟩⟩
       case measure=>simp [intOf];omega
     ·have hjaz:decide ((j:Int) > (a:Int))=false:=decide_eq_false (by omega)
      have hjaz':¬ (a:Int)<(j:Int):=by omega
      have S2:Aside (SWK enc k w0 blk off dj wr.drew):=S1.out.drew
      clear S1
      go_wp2_with fail
      go_big_region_o
      all_goals go_wp2
      go_roundw
      case rel =>
       obtain⟨o1,o2,o3,W2,o4,o5,o6,o7⟩:=OUT.out (.inl (by omega))
       exact⟨i+1,dj,T++[x],R2,W2,by go_num,by omega,by omega,hsj,S2,hid ⟨o1,o2,o3,o4,o5,o6,o7⟩⟩
      case measure=>simp [intOf];omega
   ·have hltz:¬ (i:Int)<(b:Int):=by omega
    obtain⟨h1,h2,h3,h4,h5,h6,h7⟩:=HE.out
    have h3:=h3 (by omega)
    subst h3
    rw [List.append_nil] at h1
    subst h1
    have HE2:Hid _:=hid (And.intro h4 (And.intro h5 (And.intro h6 h7)))
    clear h2 h4 h5 h6 h7
    go_wp2
    go_end0
    exact⟨rfl,dk,W,S1.out,hds,by have:=HE2.out.1;simpa using this,HE2.out.2.1,HE2.out.2.2.1,HE2.out.2.2.2⟩
end
section
open Go.Shelf Go.RowKit Go.Lib Go.Sort
variable {bo : Bool} {P : Program} {α : Type} [Inhabited α]
end
end
end Go.Proofs.YtcedlgedmkghgaaGreat
