import Derived.Test.YtcedlgedmkghgaaGreatZ6
import Derived.Test.YtcedlgedmkghgaaGreatZ1
import Derived.Test.YtcedlgedmkghgaaGreatProg
import Derived.Shelf.SlSortCmp.KitK
import Derived.Sort.WalkB2
import Derived.Sort.WalkB12
import Derived.Deep.LoopGhost
import Derived.BigRegion
import Derived.WalkKit
import Derived.Lib.Hide
import Derived.Deep.DeepCutAuto
namespace Go.Proofs.YtcedlgedmkghgaaGreat
set_option maxHeartbeats 16000000
open Go.Lib
set_option linter.unusedSimpArgs false
set_option maxRecDepth 100000
section
section
open Go.Shelf Go.RowKit Go.Lib Go.Sort
variable {bo : Bool} {P : Program} {α : Type} [Inhabited α]
set_option maxRecDepth 1000000 in
theorem symOneL (L:vX bo P) (k:Nat) (aE:∀ w,(isAgg (cond bo 71 74)).run P w=.ok true w) (zE:∀ w,(Go.sizeOf (cond bo 71 74)).run P w=.ok k w) (enc:α→List Value) (blk off cap:Nat) (d0 d:Array α) (w0 w:World) (R:RowK enc k w0 blk off d0) (hs:d0.size=d.size) (S:SWK enc k w0 blk off d w) (cf:α→α→Int) (g:Nat) (cb:Array Value) (eg:∀ args w,(callFunc g args).run P w=.ok (.enter g args) w) (hcmp:CmpLays P g cb enc k cf blk off d0.size w0) (ho:Sr.WO (ltOf cf)) {A V C:List α} {x:α} (hd:d.toList=A++(x :: V++C)) (sv:Sr.fO (ltOf cf) V) (a m b:Nat) (ha:a=A.length) (hm:m=A.length+1) (hb:b=A.length+1+V.length) (hsz:d.size<4611686018427387904) :
  Calls P (cond bo 245 247) #[.slice (some ⟨blk,off,none⟩) d.size cap,.int .i64 a,.int .i64 m,.int .i64 b,.func (.func g) #[] cb] w fun e w'=>e=.returned (.tuple #[])∧lN cf enc k w0 blk off d A (x :: V) C w':=by
 cases bo
 all_goals
  have mixed:=L.mixed;have u0:=L.u0;have a0:=L.a0;have z0:=L.z0;have v0:=L.v0;have u3:=L.u3;have a3:=L.a3;have z3:=L.z3;have v3:=L.v3;have u4:=L.u4;have a4:=L.a4;have z4:=L.z4;have v4:=L.v4;have u5:=L.u5;have a5:=L.a5;have z5:=L.z5;have v5:=L.v5;have u6:=L.u6;have a6:=L.a6;have z6:=L.z6;have v6:=L.v6;have u7:=L.u7;have a7:=L.a7;have z7:=L.z7;have v7:=L.v7;simp only [cond_true,cond_false] at *
  have hlen:d.size=A.length+(1+V.length+C.length):=by have:=congrArg List.length hd;simp only [Array.length_toList,List.length_append,List.length_cons] at this;omega
  have HX:Hid (d[a]! = x):=hid (Sr.lQ (A:=A) (x:=x) (B:=V++C) (by rw [hd];simp) ha).1
  have HP:Hid (∀ n y,V[n]?=some y→d[a+1+n]! = y):=hid fun n y h=>Sr.mW (P:=A++[x]) (L:=V) (Q:=C) (by rw [hd];simp) h (by simp;omega)
  have HD:=hid hd
  have HA:=hid ha
  have xJ:=hid hb
  have HC:Aside _:=hcmp
  have S0:Aside _:=S
  have bb:b≤d.size:=by omega
  have am:m≤a+1:=by omega
  have am2:a+1≤m:=by omega
  have mb:m≤b:=by omega
  have vl:V.length=b - (a+1):=by omega
  have VL:=hid vl
  have FG:=L.f4;have NT:=L.n4;simp only [cond_true,cond_false] at FG NT
  clear hd ha hb hm S hlen hcmp vl
  have w1:IntKind.i64.wrap ((m:Int) - (a:Int))=1:=by rw [IntKind.wrap_i64];omega
  have w2:(m:Int) - (a:Int)=1:=by omega
  go_enter FG,NT
  go_wp2_with fail
  go_loopw [10,11] (fun s10 s11 wr=>∃ i j:Nat,s10=.int .i64 i∧s11=.int .i64 j∧a+1≤i∧i≤j∧j≤b∧Aside (SWK enc k w0 blk off d wr)∧Hid ((∀ z∈V.take (i - (a+1)),ltOf cf z x=true)∧(∀ z∈V.drop (j - (a+1)),ltOf cf z x=false))) (fun s10 s11 _=>(intOf s11).toNat - (intOf s10).toNat)
  case atStart=>exact⟨m,b,rfl,rfl,am2,mb,Nat.le_refl _,S0,hid ⟨by rw [show m - (a+1)=0 by omega];simp,by rw [List.drop_of_length_le (by have:=VL.out;omega)];simp⟩⟩
  case round =>
   obtain⟨i,j,rfl,rfl,h1,h2,h3,S1,HE⟩:=hrel
   clear S0
   by_cases hlt:i<j
   ·obtain⟨h,hh1,AP⟩:∃ h:Nat,2 * h≤i+j∧i+j<2 * h+2:=⟨(i+j) / 2,by omega,by omega⟩
    obtain⟨z,hz1,hz2,hz3,Ha⟩:=Sr.lU (L:=V) (n:=h - (a+1)) (by have:=VL.out;omega)
    have HZ:Hid (d[h]! = z):=hid (by have:=HP.out _ _ hz2;rwa [show a+1+(h - (a+1))=h by omega] at this)
    have SV:Hid (Sr.fO (ltOf cf) (V.take (h - (a+1))++z :: V.drop (h - (a+1)+1))):=hid (by rw [← hz1];exact sv)
    have HZ3:=hid hz3
    have HZ4:=hid Ha
    clear hz1 hz2 hz3 Ha
    cases hL:ltOf cf d[h]! d[a]! with
    | true =>
     have HN:Hid (∀ z'∈V.take (h+1 - (a+1)),ltOf cf z' x=true):=hid (by
      rw [show h+1 - (a+1)=h - (a+1)+1 by omega,HZ4.out]
      exact Sr.Fy ho SV.out (by rw [← HZ.out,← HX.out];exact hL))
     have nC:(((i:Int)+(j:Int)) / 2).toNat=h:=by omega
     have nH:(0:Int)≤((i:Int)+(j:Int)) / 2:=by omega
     have nz:((i:Int)+(j:Int)) / 2<(d.size:Int):=by omega
     have nL:IntKind.i64.wrap (((i:Int)+(j:Int)) / 2)=((i:Int)+(j:Int)) / 2:=by rw [IntKind.wrap_i64];omega
     have nD:((a:Int)).toNat=a:=by omega
     have nI:(0:Int)≤(a:Int):=by omega
     have bc1:(a:Int)<(d.size:Int):=by omega
     have nM:IntKind.i64.wrap ((a:Int))=(a:Int):=by rw [IntKind.wrap_i64];omega
     obtain⟨x1,hx1⟩:∃ x,x=d[h]!:=⟨_,rfl⟩
     obtain⟨y1,hy1⟩:∃ x,x=d[a]!:=⟨_,rfl⟩
     have jM:=S1.out.ld R (by omega) P (h) (by omega)
     have jN:=S1.out.ld R (by omega) P (a) (by omega)
     rw [← hx1] at jM
     rw [← hy1] at jN
     have hc1:=S1.out.cmp HC.out (by omega) x1 y1
     have hv1:cf x1 y1<0:=by rw [hx1,hy1];exact of_decide_eq_true hL
     have hd1:decide (cf x1 y1<0)=true:=decide_eq_true hv1
     clear hx1 hy1
     go_wp2_with fail
     go_quiet_grown (first | (go_at_fn g;refine Calls.grown_of (hc1 _ _)))
     have S2:Aside (SWK enc k w0 blk off d (grow (wr.drewN nq) osq)):=S1.out.grown nq osq
     clear jM jN hc1 S1
     generalize grow (wr.drewN nq) osq=w2 at S2 ⊢
     clear nq osq nC nH nz nL nD nI bc1 nM
     clear hL
     have eh:((i:Int)+(j:Int)) / 2=(h:Int):=by omega
     go_wp2
     go_roundw
     case rel=>exact⟨h+1,j,by go_num,rfl,by omega,by omega,h3,S2,hid ⟨HN.out,HE.out.2⟩⟩
     case measure=>simp [intOf];omega
    | false =>
     have HN:Hid (∀ z'∈V.drop (h - (a+1)),ltOf cf z' x=false):=hid (by
      rw [HZ3.out]
      exact Sr.all_ge ho SV.out (by rw [← HZ.out,← HX.out];exact hL))
     have nC:(((i:Int)+(j:Int)) / 2).toNat=h:=by omega
     have nH:(0:Int)≤((i:Int)+(j:Int)) / 2:=by omega
     have nz:((i:Int)+(j:Int)) / 2<(d.size:Int):=by omega
     have nL:IntKind.i64.wrap (((i:Int)+(j:Int)) / 2)=((i:Int)+(j:Int)) / 2:=by rw [IntKind.wrap_i64];omega
     have nD:((a:Int)).toNat=a:=by omega
     have nI:(0:Int)≤(a:Int):=by omega
     have bc1:(a:Int)<(d.size:Int):=by omega
     have nM:IntKind.i64.wrap ((a:Int))=(a:Int):=by rw [IntKind.wrap_i64];omega
     obtain⟨x1,hx1⟩:∃ x,x=d[h]!:=⟨_,rfl⟩
     obtain⟨y1,hy1⟩:∃ x,x=d[a]!:=⟨_,rfl⟩
     have jM:=S1.out.ld R (by omega) P (h) (by omega)
     have jN:=S1.out.ld R (by omega) P (a) (by omega)
     rw [← hx1] at jM
     rw [← hy1] at jN
     have hc1:=S1.out.cmp HC.out (by omega) x1 y1
     have hv1:¬ cf x1 y1<0:=by rw [hx1,hy1];exact of_decide_eq_false hL
     have hd1:decide (cf x1 y1<0)=false:=decide_eq_false hv1
     clear hx1 hy1
     go_wp2_with fail
     go_quiet_grown (first | (go_at_fn g;refine Calls.grown_of (hc1 _ _)))
     have S2:Aside (SWK enc k w0 blk off d (grow (wr.drewN nq) osq)):=S1.out.grown nq osq
     clear jM jN hc1 S1
     generalize grow (wr.drewN nq) osq=w2 at S2 ⊢
     clear nq osq nC nH nz nL nD nI bc1 nM
     clear hL
     have eh:((i:Int)+(j:Int)) / 2=(h:Int):=by omega
     go_wp2
     go_roundw
     case rel=>exact⟨i,h,rfl,by go_num,h1,by omega,by omega,S2,hid ⟨HE.out.1,HN.out⟩⟩
     case measure=>simp [intOf];omega
   ·obtain rfl:i=j:=by omega
    clear h2
    go_wp2_with fail
    go_loopw [13] (fun s13 wr2=>∃ (kk:Nat) (dk:Array α),s13=.int .i64 kk∧a≤kk∧kk+1≤i∧dk.size=d.size∧Aside (SWK enc k w0 blk off dk wr2)∧Hid (dk.toList=A++(V.take (kk - a)++x :: (V.drop (kk - a)++C)))) (fun s13 _=>i - (intOf s13).toNat)
    case atStart=>exact⟨a,d,rfl,Nat.le_refl _,h1,rfl,S1,hid (by rw [HD.out];simp)⟩
    case round =>
     clear S1
     obtain⟨kk,dk,rfl,k1,k2,hds,S1,HF⟩:=hrel
     by_cases hlt2:kk+1<i
     ·have hlz:(kk:Int)<(i:Int) - 1:=by omega
      obtain⟨z,hz1,hz2,hz3,Ha⟩:=Sr.lU (L:=V) (n:=kk - a) (by have:=VL.out;omega)
      have HSW:Hid ((swp dk kk (kk+1)).toList=A++(V.take (kk+1 - a)++x :: (V.drop (kk+1 - a)++C))):=hid (by
       have q:=(Sr.pR (d:=dk) (A:=A++V.take (kk - a)) (B:=[]) (C:=V.drop (kk - a+1)++C) (x:=x) (y:=z) (i:=kk) (j:=kk+1) (by rw [HF.out,hz3];simp) (by rw [List.length_append,List.length_take];have:=VL.out;have:=HA.out;omega) (by rw [List.length_append,List.length_take];have:=VL.out;have:=HA.out;simp;omega)).1
       rw [q,show kk+1 - a=kk - a+1 by omega,Ha]
       simp)
      clear hz1 hz2 hz3 Ha
      have dsz:dk.size=d.size:=hds
      have wJ:((kk:Int)).toNat=kk:=by omega
      have w_:(0:Int)≤(kk:Int):=by omega
      have v_:(kk:Int)<(d.size:Int):=by omega
      have xh:IntKind.i64.wrap ((kk:Int))=(kk:Int):=by rw [IntKind.wrap_i64];omega
      have wK:((kk:Int)+1).toNat=kk+1:=by omega
      have xe:(0:Int)≤(kk:Int)+1:=by omega
      have bc2:(kk:Int)+1<(d.size:Int):=by omega
      have xk:IntKind.i64.wrap ((kk:Int)+1)=(kk:Int)+1:=by rw [IntKind.wrap_i64];omega
      have S2:Aside (SWK enc k w0 blk off (swp dk (kk) (kk+1)) ((wr.drew.setCells blk (off+(kk) * k) (enc dk[kk+1]!)).setCells blk (off+(kk+1) * k) (enc dk[kk]!))):=S1.out.swapped R (kk) (kk+1) (by omega) (by omega)
      have nP:=S1.out.ld1 R (by omega) P (kk) (by omega)
      have nQ:=S1.out.ld1 R (by omega) P (kk+1) (by omega)
      have s2a:=S1.out.st1 R (by omega) P (kk) (by omega) dk[kk+1]!
      have I9:=S1.out.st2 R (by omega) P (kk) (kk+1) (by omega) (by omega) dk[kk+1]! dk[kk]!
      have n2a:(enc dk[kk]!).length=k:=R.hk _
      have n2b:(enc dk[kk+1]!).length=k:=R.hk _
      generalize enc dk[kk]! = cI2 at S2 nP I9 n2a
      generalize enc dk[kk+1]! = cJ2 at S2 nQ s2a I9 n2b
      clear S1
      go_wp2_with fail
      go_big_region_o
      clear nP nQ s2a I9
      generalize (wr.drew.setCells blk (off+(kk) * k) cJ2).setCells blk (off+(kk+1) * k) cI2=w2 at S2 ⊢
      clear wJ w_ v_ xh wK xe bc2 xk
      go_wp2
      go_roundw
      case rel=>exact⟨kk+1,_,by go_num,by omega,by omega,by rw [size_swp];exact hds,S2,HSW⟩
      case measure=>simp [intOf];omega
     ·have hlz:¬ (kk:Int)<(i:Int) - 1:=by omega
      have ek:kk - a=i - (a+1):=by omega
      have HG:=HF.out
      rw [ek] at HG
      have HG2:=hid HG
      clear HG
      have SV:Hid (Sr.fO (ltOf cf) (V.take (i - (a+1))++x :: V.drop (i - (a+1)))):=hid (by
       have sv':=sv
       rw [← List.take_append_drop (i - (a+1)) V] at sv'
       obtain⟨p1,p2,p3⟩:=Sr.fO.parts sv'
       refine Sr.fO.app p1 (List.pairwise_cons.2 ⟨fun z hz=>HE.out.2 z hz,p2⟩) fun p hp y hy=>?_
       rcases List.mem_cons.1 hy with rfl | q
       ·exact ho.asym (HE.out.1 p hp)
       ·exact p3 p hp y q)
      have SB:Hid (Sr.gG (ltOf cf) (x :: V) (V.take (i - (a+1))++x :: V.drop (i - (a+1)))):=hid (by
       have c:Sr.gG (ltOf cf) ([x]++V.take (i - (a+1))) (V.take (i - (a+1))++[x]):=Sr.gG.comm ho (by intro u hu v hv;simp at hu;subst hu;exact HE.out.1 v hv)
       have:=c.app (Sr.gG.refl (lt:=ltOf cf) (V.drop (i - (a+1))))
       simpa using this)
      go_wp2
      refine bodyPost_ret (results_none rfl _ _ _) rfl ?_
      exact⟨rfl,dk,V.take (i - (a+1))++x :: V.drop (i - (a+1)),S1.out,hds,by rw [HG2.out];simp,by simp only [List.length_append,List.length_cons,List.length_take,List.length_drop];have:=VL.out;omega,SV.out,SB.out⟩
end
end
section
section
open Go.Shelf Go.RowKit Go.Lib Go.Sort
variable {bo : Bool} {P : Program} {α : Type} [Inhabited α]
set_option maxRecDepth 1000000 in
theorem Jn (L:vX bo P) (k:Nat) (aE:∀ w,(isAgg (cond bo 71 74)).run P w=.ok true w) (zE:∀ w,(Go.sizeOf (cond bo 71 74)).run P w=.ok k w) (enc:α→List Value) (blk off cap:Nat) (d0 d:Array α) (w0 w:World) (R:RowK enc k w0 blk off d0) (hs:d0.size=d.size) (S:SWK enc k w0 blk off d w) (cf:α→α→Int) (g:Nat) (cb:Array Value) (eg:∀ args w,(callFunc g args).run P w=.ok (.enter g args) w) (hcmp:CmpLays P g cb enc k cf blk off d0.size w0) (ho:Sr.WO (ltOf cf)) {A U C:List α} {y:α} (hd:d.toList=A++(U++y :: C)) (su:Sr.fO (ltOf cf) U) (a m b:Nat) (ha:a=A.length) (hm:m=A.length+U.length) (hb:b=A.length+U.length+1) (hu:1<U.length) (hsz:d.size<4611686018427387904) :
  Calls P (cond bo 245 247) #[.slice (some ⟨blk,off,none⟩) d.size cap,.int .i64 a,.int .i64 m,.int .i64 b,.func (.func g) #[] cb] w fun e w'=>e=.returned (.tuple #[])∧lN cf enc k w0 blk off d A (U++[y]) C w':=by
 cases bo
 all_goals
  have mixed:=L.mixed;have u0:=L.u0;have a0:=L.a0;have z0:=L.z0;have v0:=L.v0;have u3:=L.u3;have a3:=L.a3;have z3:=L.z3;have v3:=L.v3;have u4:=L.u4;have a4:=L.a4;have z4:=L.z4;have v4:=L.v4;have u5:=L.u5;have a5:=L.a5;have z5:=L.z5;have v5:=L.v5;have u6:=L.u6;have a6:=L.a6;have z6:=L.z6;have v6:=L.v6;have u7:=L.u7;have a7:=L.a7;have z7:=L.z7;have v7:=L.v7;simp only [cond_true,cond_false] at *
  have hlen:d.size=A.length+(U.length+(1+C.length)):=by have:=congrArg List.length hd;simp only [Array.length_toList,List.length_append,List.length_cons] at this;omega
  have HX:Hid (d[m]! = y):=hid (Sr.lQ (A:=A++U) (x:=y) (B:=C) (by rw [hd];simp) (by rw [List.length_append];exact hm)).1
  have HP:Hid (∀ n z,U[n]?=some z→d[a+n]! = z):=hid fun n z h=>Sr.mW (P:=A) (L:=U) (Q:=y :: C) (by rw [hd]) h (by omega)
  have HD:=hid hd
  have HA:=hid ha
  have HC:Aside _:=hcmp
  have S0:Aside _:=S
  have bm:b≤m+1:=by omega
  have bm2:m+1≤b:=by omega
  have bb:m<d.size:=by omega
  have am:a+1<m:=by omega
  have vl:U.length=m - a:=by omega
  have VL:=hid vl
  have FG:=L.f4;have NT:=L.n4;simp only [cond_true,cond_false] at FG NT
  clear hd ha hb hm S hlen hcmp vl hu
  have w1:IntKind.i64.wrap ((b:Int) - (m:Int))=1:=by rw [IntKind.wrap_i64];omega
  have w2:(b:Int) - (m:Int)=1:=by omega
  have w3:((m:Int) - (a:Int)==1)=false:=by simp;omega
  have w4:¬ (m:Int) - (a:Int)=1:=by omega
  go_enter FG,NT
  go_wp2_with fail
  go_loopw [14,15] (fun s10 s11 wr=>∃ i j:Nat,s10=.int .i64 i∧s11=.int .i64 j∧a≤i∧i≤j∧j≤m∧Aside (SWK enc k w0 blk off d wr)∧Hid ((∀ z∈U.take (i - a),ltOf cf y z=false)∧(∀ z∈U.drop (j - a),ltOf cf y z=true))) (fun s10 s11 _=>(intOf s11).toNat - (intOf s10).toNat)
  case atStart=>exact⟨a,m,rfl,rfl,Nat.le_refl _,by omega,Nat.le_refl _,S0,hid ⟨by simp,by rw [List.drop_of_length_le (by have:=VL.out;omega)];simp⟩⟩
  case round =>
   obtain⟨i,j,rfl,rfl,h1,h2,h3,S1,HE⟩:=hrel
   clear S0
   by_cases hlt:i<j
   ·obtain⟨h,hh1,AP⟩:∃ h:Nat,2 * h≤i+j∧i+j<2 * h+2:=⟨(i+j) / 2,by omega,by omega⟩
    obtain⟨z,hz1,hz2,hz3,Ha⟩:=Sr.lU (L:=U) (n:=h - a) (by have:=VL.out;omega)
    have HZ:Hid (d[h]! = z):=hid (by have:=HP.out _ _ hz2;rwa [show a+(h - a)=h by omega] at this)
    have SV:Hid (Sr.fO (ltOf cf) (U.take (h - a)++z :: U.drop (h - a+1))):=hid (by rw [← hz1];exact su)
    have HZ3:=hid hz3
    have HZ4:=hid Ha
    clear hz1 hz2 hz3 Ha
    cases hL:ltOf cf d[m]! d[h]! with
    | true =>
     have HN:Hid (∀ z'∈U.drop (h - a),ltOf cf y z'=true):=hid (by
      rw [HZ3.out]
      exact Sr.all_gt ho SV.out (by rw [← HZ.out,← HX.out];exact hL))
     have nC:((m:Int)).toNat=m:=by omega
     have nH:(0:Int)≤(m:Int):=by omega
     have nz:(m:Int)<(d.size:Int):=by omega
     have nL:IntKind.i64.wrap ((m:Int))=(m:Int):=by rw [IntKind.wrap_i64];omega
     have nD:(((i:Int)+(j:Int)) / 2).toNat=h:=by omega
     have nI:(0:Int)≤((i:Int)+(j:Int)) / 2:=by omega
     have bc1:((i:Int)+(j:Int)) / 2<(d.size:Int):=by omega
     have nM:IntKind.i64.wrap (((i:Int)+(j:Int)) / 2)=((i:Int)+(j:Int)) / 2:=by rw [IntKind.wrap_i64];omega
     obtain⟨x1,hx1⟩:∃ x,x=d[m]!:=⟨_,rfl⟩
     obtain⟨y1,hy1⟩:∃ x,x=d[h]!:=⟨_,rfl⟩
     have jM:=S1.out.ld R (by omega) P (m) (by omega)
     have jN:=S1.out.ld R (by omega) P (h) (by omega)
     rw [← hx1] at jM
     rw [← hy1] at jN
     have hc1:=S1.out.cmp HC.out (by omega) x1 y1
     have hv1:cf x1 y1<0:=by rw [hx1,hy1];exact of_decide_eq_true hL
     have hd1:decide (cf x1 y1<0)=true:=decide_eq_true hv1
     clear hx1 hy1
     go_wp2_with fail
     go_quiet_grown (first | (go_at_fn g;refine Calls.grown_of (hc1 _ _)))
     have S2:Aside (SWK enc k w0 blk off d (grow (wr.drewN nq) osq)):=S1.out.grown nq osq
     clear jM jN hc1 S1
     generalize grow (wr.drewN nq) osq=w2 at S2 ⊢
     clear nq osq nC nH nz nL nD nI bc1 nM
     clear hL
     have eh:((i:Int)+(j:Int)) / 2=(h:Int):=by omega
     go_wp2
     go_roundw
     case rel=>exact⟨i,h,rfl,by go_num,h1,by omega,by omega,S2,hid ⟨HE.out.1,HN.out⟩⟩
     case measure=>simp [intOf];omega
    | false =>
     have HN:Hid (∀ z'∈U.take (h+1 - a),ltOf cf y z'=false):=hid (by
      rw [show h+1 - a=h - a+1 by omega,HZ4.out]
      exact Sr.Fx ho SV.out (by rw [← HZ.out,← HX.out];exact hL))
     have nC:((m:Int)).toNat=m:=by omega
     have nH:(0:Int)≤(m:Int):=by omega
     have nz:(m:Int)<(d.size:Int):=by omega
     have nL:IntKind.i64.wrap ((m:Int))=(m:Int):=by rw [IntKind.wrap_i64];omega
     have nD:(((i:Int)+(j:Int)) / 2).toNat=h:=by omega
     have nI:(0:Int)≤((i:Int)+(j:Int)) / 2:=by omega
     have bc1:((i:Int)+(j:Int)) / 2<(d.size:Int):=by omega
     have nM:IntKind.i64.wrap (((i:Int)+(j:Int)) / 2)=((i:Int)+(j:Int)) / 2:=by rw [IntKind.wrap_i64];omega
     obtain⟨x1,hx1⟩:∃ x,x=d[m]!:=⟨_,rfl⟩
     obtain⟨y1,hy1⟩:∃ x,x=d[h]!:=⟨_,rfl⟩
     have jM:=S1.out.ld R (by omega) P (m) (by omega)
     have jN:=S1.out.ld R (by omega) P (h) (by omega)
     rw [← hx1] at jM
     rw [← hy1] at jN
     have hc1:=S1.out.cmp HC.out (by omega) x1 y1
     have hv1:¬ cf x1 y1<0:=by rw [hx1,hy1];exact of_decide_eq_false hL
     have hd1:decide (cf x1 y1<0)=false:=decide_eq_false hv1
     clear hx1 hy1
     go_wp2_with fail
     go_quiet_grown (first | (go_at_fn g;refine Calls.grown_of (hc1 _ _)))
     have S2:Aside (SWK enc k w0 blk off d (grow (wr.drewN nq) osq)):=S1.out.grown nq osq
     clear jM jN hc1 S1
     generalize grow (wr.drewN nq) osq=w2 at S2 ⊢
     clear nq osq nC nH nz nL nD nI bc1 nM
     clear hL
     have eh:((i:Int)+(j:Int)) / 2=(h:Int):=by omega
     go_wp2
     go_roundw
     case rel=>exact⟨h+1,j,by go_num,rfl,by omega,by omega,h3,S2,hid ⟨HN.out,HE.out.2⟩⟩
     case measure=>simp [intOf];omega
   ·obtain rfl:i=j:=by omega
    clear h2
    go_wp2_with fail
    go_loopw [17] (fun s13 wr2=>∃ (kk:Nat) (dk:Array α),s13=.int .i64 kk∧i≤kk∧kk≤m∧dk.size=d.size∧Aside (SWK enc k w0 blk off dk wr2)∧Hid (dk.toList=A++(U.take (kk - a)++y :: (U.drop (kk - a)++C)))) (fun s13 _=>(intOf s13).toNat)
    case atStart=>exact⟨m,d,rfl,h3,Nat.le_refl _,rfl,S1,hid (by rw [HD.out,List.take_of_length_le (by have:=VL.out;omega),List.drop_of_length_le (by have:=VL.out;omega)];simp)⟩
    case round =>
     clear S1
     obtain⟨kk,dk,rfl,k1,k2,hds,S1,HF⟩:=hrel
     by_cases hlt2:i<kk
     ·obtain⟨kp,rfl⟩:∃ kp,kk=kp+1:=⟨kk - 1,by omega⟩
      have hlz:(i:Int)<(kp:Int)+1:=by omega
      obtain⟨z,hz1,hz2,hz3,Ha⟩:=Sr.lU (L:=U) (n:=kp - a) (by have:=VL.out;omega)
      have HSW:Hid ((swp dk (kp+1) kp).toList=A++(U.take (kp - a)++y :: (U.drop (kp - a)++C))):=hid (by
       have hf:=HF.out
       rw [show kp+1 - a=kp - a+1 by omega,Ha] at hf
       have q:=(Sr.pR (d:=dk) (A:=A++U.take (kp - a)) (B:=[]) (C:=U.drop (kp - a+1)++C) (x:=z) (y:=y) (i:=kp) (j:=kp+1) (by rw [hf];simp) (by rw [List.length_append,List.length_take];have:=VL.out;have:=HA.out;omega) (by rw [List.length_append,List.length_take];have:=VL.out;have:=HA.out;simp;omega)).2
       rw [q,hz3]
       simp)
      clear hz1 hz2 hz3 Ha
      have dsz:dk.size=d.size:=hds
      have wJ:((kp:Int)+1).toNat=kp+1:=by omega
      have w_:(0:Int)≤(kp:Int)+1:=by omega
      have v_:(kp:Int)+1<(d.size:Int):=by omega
      have xh:IntKind.i64.wrap ((kp:Int)+1)=(kp:Int)+1:=by rw [IntKind.wrap_i64];omega
      have wK:((kp:Int)).toNat=kp:=by omega
      have xe:(0:Int)≤(kp:Int):=by omega
      have bc2:(kp:Int)<(d.size:Int):=by omega
      have xk:IntKind.i64.wrap ((kp:Int))=(kp:Int):=by rw [IntKind.wrap_i64];omega
      have S2:Aside (SWK enc k w0 blk off (swp dk (kp+1) (kp)) ((wr.drew.setCells blk (off+(kp+1) * k) (enc dk[kp]!)).setCells blk (off+(kp) * k) (enc dk[kp+1]!))):=S1.out.swapped R (kp+1) (kp) (by omega) (by omega)
      have nP:=S1.out.ld1 R (by omega) P (kp+1) (by omega)
      have nQ:=S1.out.ld1 R (by omega) P (kp) (by omega)
      have s2a:=S1.out.st1 R (by omega) P (kp+1) (by omega) dk[kp]!
      have I9:=S1.out.st2 R (by omega) P (kp+1) (kp) (by omega) (by omega) dk[kp]! dk[kp+1]!
      have n2a:(enc dk[kp+1]!).length=k:=R.hk _
      have n2b:(enc dk[kp]!).length=k:=R.hk _
      generalize enc dk[kp+1]! = cI2 at S2 nP I9 n2a
      generalize enc dk[kp]! = cJ2 at S2 nQ s2a I9 n2b
      clear S1
      go_wp2_with fail
      go_big_region_o
      clear nP nQ s2a I9
      generalize (wr.drew.setCells blk (off+(kp+1) * k) cJ2).setCells blk (off+(kp) * k) cI2=w2 at S2 ⊢
      clear wJ w_ v_ xh wK xe bc2 xk
      go_wp2
      go_roundw
      case rel=>exact⟨kp,_,by first | rfl | go_num | (congr 1;omega),by omega,by omega,by rw [size_swp];exact hds,S2,HSW⟩
      case measure=>simp [intOf] <;> omega
     ·obtain rfl:kk=i:=by omega
      have SV:Hid (Sr.fO (ltOf cf) (U.take (kk - a)++y :: U.drop (kk - a))):=hid (by
       have sv':=su
       rw [← List.take_append_drop (kk - a) U] at sv'
       obtain⟨p1,p2,p3⟩:=Sr.fO.parts sv'
       refine Sr.fO.app p1 (List.pairwise_cons.2 ⟨fun z hz=>ho.asym (HE.out.2 z hz),p2⟩) fun p hp y' hy=>?_
       rcases List.mem_cons.1 hy with rfl | q
       ·exact HE.out.1 p hp
       ·exact p3 p hp y' q)
      have SB:Hid (Sr.gG (ltOf cf) (U++[y]) (U.take (kk - a)++y :: U.drop (kk - a))):=hid (by
       have c:Sr.gG (ltOf cf) (U.drop (kk - a)++[y]) ([y]++U.drop (kk - a)):=Sr.gG.comm ho (by intro u hu v hv;simp at hv;subst hv;exact HE.out.2 u hu)
       have:=(Sr.gG.refl (lt:=ltOf cf) (U.take (kk - a))).app c
       rw [← List.append_assoc,List.take_append_drop] at this
       simpa using this)
      go_wp2
      refine bodyPost_ret (results_none rfl _ _ _) rfl ?_
      exact⟨rfl,dk,U.take (kk - a)++y :: U.drop (kk - a),S1.out,hds,by rw [HF.out];simp,by simp only [List.length_append,List.length_cons,List.length_nil,List.length_take,List.length_drop];have:=VL.out;omega,SV.out,SB.out⟩
end
section
open Go.Shelf Go.RowKit Go.Lib Go.Sort
variable {bo : Bool} {P : Program} {α : Type} [Inhabited α]
end
end
end Go.Proofs.YtcedlgedmkghgaaGreat
