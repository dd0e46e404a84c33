import Derived.Test.YtcmiompdjjiojaaGreatZ3
import Derived.Test.YtcmiompdjjiojaaGreatProg
namespace Go.Proofs.YtcmiompdjjiojaaGreat
set_option maxHeartbeats 16000000
open Go.Lib Go.Proofs.Tryz
set_option linter.unusedSimpArgs false
set_option maxRecDepth 100000
section
section
open Go.Shelf Go.RowKit Go.Lib Go.Sort
structure CptL (P:Program):Prop where
 mixed:P.follows .mixedOrders=true
 f1:P.funcs[118]?=some Tryz.f118
 u0:P.underlying 0=some (.tuple #[])
 a0:∀ w,(isAgg 0).run P w=.ok false w
 z0:∀ w,(Go.sizeOf 0).run P w=.ok 1 w
 v0:∀ w,(zeroValue 0).run P w=.ok (.tuple #[]) w
 u3:P.underlying 3=some (.int .i64)
 a3:∀ w,(isAgg 3).run P w=.ok false w
 z3:∀ w,(Go.sizeOf 3).run P w=.ok 1 w
 v3:∀ w,(zeroValue 3).run P w=.ok (.int .i64 0) w
 u4:P.underlying 4=some .bool
 a4:∀ w,(isAgg 4).run P w=.ok false w
 z4:∀ w,(Go.sizeOf 4).run P w=.ok 1 w
 v4:∀ w,(zeroValue 4).run P w=.ok (.bool false) w
 u6:P.underlying 23=some (.slice 61)
 a6:∀ w,(isAgg 23).run P w=.ok false w
 z6:∀ w,(Go.sizeOf 23).run P w=.ok 1 w
 v6:∀ w,(zeroValue 23).run P w=.ok (.slice none 0 0) w
 u7:P.underlying 152=some (.func #[61,61] #[4] false)
 a7:∀ w,(isAgg 152).run P w=.ok false w
 z7:∀ w,(Go.sizeOf 152).run P w=.ok 1 w
 v7:∀ w,(zeroValue 152).run P w=.ok .nilFunc w
variable {P : Program} {α : Type} [Inhabited α]
def EqL (P:Program) (g:Nat) (cb:Array Value) (enc:α→List Value) (k:Nat) (ef:α→α→Bool) (blk off size:Nat) (w:World):Prop :=
 ∀ (m:Nat) (os:Array Obj) (dk:Array α),dk.size=size→∀ x y:α,
  Calls P g (#[.agg (enc x).toArray,.agg (enc y).toArray]++cb) (sortWorldK enc k w blk off m dk os) fun e w'=>e=.returned (.bool (ef x y))∧∃ q os',w'=grow ((sortWorldK enc k w blk off m dk os).drewN q) os'
theorem yM {enc:α→List Value} {k:Nat} {w0 W:World} {blk off size g:Nat} {cb:Array Value} {ef:α→α→Bool} {dk:Array α} (hC:EqL P g cb enc k ef blk off size w0) (h:SWK enc k w0 blk off dk W) (hs:dk.size=size) (x y:α) (n:Nat) (os:Array Obj) :
  Calls P g (#[.agg (enc x).toArray,.agg (enc y).toArray]++cb) (grow (W.drewN n) os) fun e w'=>e=.returned (.bool (ef x y))∧∃ q os',w'=grow ((grow (W.drewN n) os).drewN q) os':=by
 obtain⟨m,os0,hw⟩:=h.grown n os
 rw [hw]
 exact hC m os0 dk hs x y
def CptOkL (ef:α→α→Bool) (enc:α→List Value) (k:Nat) (w0:World) (blk off cap:Nat) (d:Array α) (e:Ending) (w':World):Prop :=
 ∃ (dk:Array α) (m:Nat),e=.returned (.slice (some ⟨blk,off,none⟩) m cap)∧SWK enc k w0 blk off dk w'∧dk.size=d.size∧m=(Sr.compact ef d.toList).length∧dk.toList.take m=Sr.compact ef d.toList
set_option maxRecDepth 1000000 in
theorem Jw (L:CptL P) (k:Nat) (aE:∀ w,(isAgg 61).run P w=.ok true w) (zE:∀ w,(Go.sizeOf 61).run P w=.ok k w) (enc:α→List Value) (zo:α) (vE:∀ w,(zeroValue 61).run P w=.ok (.agg (enc zo).toArray) w) (vC:(Value.agg (enc zo).toArray).cells=(enc zo).toArray) (blk off cap:Nat) (d0 d:Array α) (w0 w:World) (R:RowK enc k w0 blk off d0) (hs:d0.size=d.size) (S:SWK enc k w0 blk off d w) (ef:α→α→Bool) (g:Nat) (cb:Array Value) (eg:∀ args w,(callFunc g args).run P w=.ok (.enter g args) w) (heq:EqL P g cb enc k ef blk off d0.size w0) (hcap:d.size≤cap) (hcm:cap≤9223372036854775807) (hsz:d.size<4611686018427387904) :
  Calls P 118 #[.slice (some ⟨blk,off,none⟩) d.size cap,.func (.func g) #[] cb] w (CptOkL ef enc k w0 blk off cap d):=by
 have mixed:=L.mixed;have u0:=L.u0;have a0:=L.a0;have z0:=L.z0;have v0:=L.v0;have u3:=L.u3;have a3:=L.a3;have z3:=L.z3;have v3:=L.v3;have u4:=L.u4;have a4:=L.a4;have z4:=L.z4;have v4:=L.v4;have u6:=L.u6;have a6:=L.a6;have z6:=L.z6;have v6:=L.v6;have u7:=L.u7;have a7:=L.a7;have z7:=L.z7;have v7:=L.v7
 have HC:Aside _:=heq
 have S0:Aside _:=S
 have FG:=L.f1
 clear S heq
 by_cases h2:d.size<2
 ·have h2z:(d.size:Int)<2:=by omega
  have HF:=Sr.mQ (eq:=ef) d h2
  have ME:Hid _:=hid HF
  clear HF
  go_enter FG,ntmps118
  go_wp2
  go_ret
  exact⟨d,d.size,rfl,S0.out,rfl,by rw [ME.out];simp,by rw [ME.out,List.take_of_length_le (by simp)]⟩
 have h2z:¬ (d.size:Int)<2:=by omega
 go_enter FG,ntmps118
 go_wp2
 go_loopw [5] (fun s5 wr=>∃ k1:Nat,s5=.int .i64 k1∧1≤k1∧k1≤d.size∧Aside (SWK enc k w0 blk off d wr)∧Hid (Sr.compact ef (d.toList.take k1)=d.toList.take k1)) (fun s5 _=>d.size - (intOf s5).toNat)
 case atStart=>exact⟨1,rfl,Nat.le_refl _,by omega,S0,hid (Sr.mR d (by omega))⟩
 case round =>
  obtain⟨k1,rfl,g1,g2,S1,HE⟩:=hrel
  clear S0
  by_cases hlt:k1<d.size
  ·have hlz:(k1:Int)<(d.size:Int):=by omega
   cases hL:ef d[k1]! d[k1 - 1]! with
   | false =>
    have HN:Hid (Sr.compact ef (d.toList.take (k1+1))=d.toList.take (k1+1)):=hid (by rw [Sr.dV (by omega) hlt,hL,HE.out,if_neg (by simp),Sr.take_at hlt])
    have q1z:(1:Int)≤(k1:Int):=by omega
    have oH:((k1:Int)).toNat=k1:=by omega
    have oK:(0:Int)≤(k1:Int):=by omega
    have oF:(k1:Int)<(d.size:Int):=by omega
    have oN:IntKind.i64.wrap ((k1:Int))=(k1:Int):=by rw [IntKind.wrap_i64];omega
    have oI:((k1:Int) - 1).toNat=k1 - 1:=by omega
    have oL:(0:Int)≤(k1:Int) - 1:=by omega
    have bc1:(k1:Int) - 1<(d.size:Int):=by omega
    have oO:IntKind.i64.wrap ((k1:Int) - 1)=(k1:Int) - 1:=by rw [IntKind.wrap_i64];omega
    obtain⟨x1,hx1⟩:∃ x,x=d[k1]!:=⟨_,rfl⟩
    obtain⟨y1,hy1⟩:∃ x,x=d[k1 - 1]!:=⟨_,rfl⟩
    have jY:=S1.out.ld R (by omega) P (k1) (by omega)
    have jZ:=S1.out.ld R (by omega) P (k1 - 1) (by omega)
    rw [← hx1] at jY
    rw [← hy1] at jZ
    have hc1:=yM HC.out S1.out (by omega) x1 y1
    have hv1:ef x1 y1=false:=by rw [hx1,hy1];exact hL
    rw [hv1] at hc1
    clear hx1 hy1
    go_wp2_with fail
    go_quiet_grown (first | (go_at_fn g;refine Calls.grown_of (hc1 _ _)))
    have S2:Aside (SWK enc k w0 blk off d (grow (wr.drewN nq) osq)):=S1.out.grown nq osq
    clear jY jZ hc1 S1
    generalize grow (wr.drewN nq) osq=w2 at S2 ⊢
    clear nq osq oH oK oF oN oI oL bc1 oO
    clear hL
    go_wp2
    go_roundw
    case rel=>exact⟨k1+1,by go_num,by omega,by omega,S2,HN⟩
    case measure=>simp [intOf];omega
   | true =>
    have HN:Hid (Sr.compact ef (d.toList.take (k1+1))=d.toList.take k1):=hid (by rw [Sr.dV (by omega) hlt,hL,HE.out];simp)
    have q1z:(1:Int)≤(k1:Int):=by omega
    have oH:((k1:Int)).toNat=k1:=by omega
    have oK:(0:Int)≤(k1:Int):=by omega
    have oF:(k1:Int)<(d.size:Int):=by omega
    have oN:IntKind.i64.wrap ((k1:Int))=(k1:Int):=by rw [IntKind.wrap_i64];omega
    have oI:((k1:Int) - 1).toNat=k1 - 1:=by omega
    have oL:(0:Int)≤(k1:Int) - 1:=by omega
    have bc1:(k1:Int) - 1<(d.size:Int):=by omega
    have oO:IntKind.i64.wrap ((k1:Int) - 1)=(k1:Int) - 1:=by rw [IntKind.wrap_i64];omega
    obtain⟨x1,hx1⟩:∃ x,x=d[k1]!:=⟨_,rfl⟩
    obtain⟨y1,hy1⟩:∃ x,x=d[k1 - 1]!:=⟨_,rfl⟩
    have jY:=S1.out.ld R (by omega) P (k1) (by omega)
    have jZ:=S1.out.ld R (by omega) P (k1 - 1) (by omega)
    rw [← hx1] at jY
    rw [← hy1] at jZ
    have hc1:=yM HC.out S1.out (by omega) x1 y1
    have hv1:ef x1 y1=true:=by rw [hx1,hy1];exact hL
    rw [hv1] at hc1
    clear hx1 hy1
    go_wp2_with fail
    go_quiet_grown (first | (go_at_fn g;refine Calls.grown_of (hc1 _ _)))
    have S2:Aside (SWK enc k w0 blk off d (grow (wr.drewN nq) osq)):=S1.out.grown nq osq
    clear jY jZ hc1 S1
    generalize grow (wr.drewN nq) osq=w2 at S2 ⊢
    clear nq osq oH oK oF oN oI oL bc1 oO
    clear hL
    obtain⟨k0,hk0⟩:∃ k0,k0=k1:=⟨_,rfl⟩
    have HK0:=hid hk0
    rw [← hk0] at HN g1 g2 hlt hlz ⊢
    clear hk0 HK0 HE
    have kc:k0<cap:=by omega
    have kcz:(k0:Int)<(cap:Int):=by omega
    have kc1:¬ cap=k0:=by omega
    have ez:((d.size - k0:Nat):Int)=(d.size:Int) - (k0:Int):=by omega
    go_wp2_with fail
    go_loopw [5,7] (fun s5 s7 wr=>∃ (kk k2:Nat) (dk:Array α),s5=.int .i64 kk∧s7=.int .i64 k2∧k0≤kk∧1≤k2∧k0+k2≤d.size∧kk+1≤k0+k2∧dk.size=d.size∧Aside (SWK enc k w0 blk off dk wr)∧Hid (dk.toList.take kk=Sr.compact ef (d.toList.take (k0+k2))∧∀ i,k0+k2 - 1≤i→dk[i]! = d[i]!)) (fun _ s7 _=>d.size - k0 - (intOf s7).toNat)
    case atStart=>exact⟨k0,1,d,rfl,rfl,Nat.le_refl _,Nat.le_refl _,hlt,Nat.le_refl _,rfl,S2,hid ⟨HN.out.symm,fun _ _=>rfl⟩⟩
    case round =>
     clear S2
     obtain⟨kk,k2,dk,rfl,rfl,m1,m2,m3,m4,hds,S1,HE⟩:=hrel
     by_cases hlt2:k0+k2<d.size
     ·have J4:(k2:Int)<((d.size - k0:Nat):Int):=by omega
      have J3:(k2:Int)<(d.size:Int) - (k0:Int):=by omega
      have J2:k2<d.size - k0:=by omega
      have E1:=HE.out.2 (k0+k2) (by omega)
      have E2:=HE.out.2 (k0+k2 - 1) (Nat.le_refl _)
      have ST:=Sr.dV (eq:=ef) (d:=d) (j:=k0+k2) (by omega) hlt2
      rw [← E1,← E2] at ST
      have HST:=hid ST
      have HE1:=hid E1
      clear ST E1 E2
      cases hL:ef dk[k0+k2]! dk[k0+k2 - 1]! with
      | true =>
       have rD:Hid (dk.toList.take kk=Sr.compact ef (d.toList.take (k0+(k2+1)))):=hid (by rw [← Nat.add_assoc,HST.out,hL];simpa using HE.out.1)
       have q2z:(1:Int)≤(k2:Int):=by omega
       have yI:((k2:Int)).toNat=k2:=by omega
       have y7:(0:Int)≤(k2:Int):=by omega
       have yn:(k2:Int)<((d.size - k0:Nat):Int):=by omega
       have da2:(k2:Int)<(d.size:Int) - (k0:Int):=by omega
       have ga2:(k2:Int)<(d.size:Int) - (k0:Int)+1:=by omega
       have zb:IntKind.i64.wrap ((k2:Int))=(k2:Int):=by rw [IntKind.wrap_i64];omega
       have yK:((k2:Int) - 1).toNat=k2 - 1:=by omega
       have y9:(0:Int)≤(k2:Int) - 1:=by omega
       have bc2:(k2:Int) - 1<((d.size - k0:Nat):Int):=by omega
       have dc2:(k2:Int) - 1<(d.size:Int) - (k0:Int):=by omega
       have gc2:(k2:Int)<(d.size:Int) - (k0:Int)+1:=by omega
       have ze:IntKind.i64.wrap ((k2:Int) - 1)=(k2:Int) - 1:=by rw [IntKind.wrap_i64];omega
       obtain⟨x2,hx2⟩:∃ x,x=dk[k0+k2]!:=⟨_,rfl⟩
       obtain⟨y2,hy2⟩:∃ x,x=dk[k0+k2 - 1]!:=⟨_,rfl⟩
       have oV:=S1.out.ld R (by omega) P (k0+k2) (by omega)
       have oW:=S1.out.ld R (by omega) P (k0+k2 - 1) (by omega)
       rw [show off+(k0+k2) * k=off+k0 * k+(k2) * k by rw [show k0+k2=k0+(k2) by omega,Nat.add_mul,Nat.add_assoc]] at oV
       rw [show off+(k0+k2 - 1) * k=off+k0 * k+(k2 - 1) * k by rw [show k0+k2 - 1=k0+(k2 - 1) by omega,Nat.add_mul,Nat.add_assoc]] at oW
       rw [← hx2] at oV
       rw [← hy2] at oW
       have hc2:=yM HC.out S1.out (by omega) x2 y2
       have hv2:ef x2 y2=true:=by rw [hx2,hy2];exact hL
       rw [hv2] at hc2
       clear hx2 hy2
       go_wp2_with fail
       go_quiet_grown (first | (go_at_fn g;refine Calls.grown_of (hc2 _ _)))
       have S2:Aside (SWK enc k w0 blk off dk (grow (wr.drewN nq) osq)):=S1.out.grown nq osq
       clear oV oW hc2 S1
       generalize grow (wr.drewN nq) osq=w2 at S2 ⊢
       clear nq osq yI y7 yn zb yK y9 bc2 ze
       clear hL
       go_wp2
       go_roundw
       case rel=>exact⟨kk,k2+1,dk,rfl,by go_num,m1,by omega,by omega,by omega,hds,S2,hid ⟨rD.out,fun i hi=>HE.out.2 i (by omega)⟩⟩
       case measure=>simp [intOf];omega
      | false =>
       have rD:Hid ((dk.setIfInBounds kk dk[k0+k2]!).toList.take (kk+1)=Sr.compact ef (d.toList.take (k0+(k2+1)))):=hid (by rw [← Nat.add_assoc,HST.out,hL,Sr.nK (by omega),HE.out.1];rfl)
       have HN3:Hid (∀ i,k0+(k2+1) - 1≤i→(dk.setIfInBounds kk dk[k0+k2]!)[i]! = d[i]!):=hid fun i hi=>by rw [Sr.qP (by omega)];exact HE.out.2 i (by omega)
       have q2z:(1:Int)≤(k2:Int):=by omega
       have yI:((k2:Int)).toNat=k2:=by omega
       have y7:(0:Int)≤(k2:Int):=by omega
       have yn:(k2:Int)<((d.size - k0:Nat):Int):=by omega
       have da2:(k2:Int)<(d.size:Int) - (k0:Int):=by omega
       have ga2:(k2:Int)<(d.size:Int) - (k0:Int)+1:=by omega
       have zb:IntKind.i64.wrap ((k2:Int))=(k2:Int):=by rw [IntKind.wrap_i64];omega
       have yK:((k2:Int) - 1).toNat=k2 - 1:=by omega
       have y9:(0:Int)≤(k2:Int) - 1:=by omega
       have bc2:(k2:Int) - 1<((d.size - k0:Nat):Int):=by omega
       have dc2:(k2:Int) - 1<(d.size:Int) - (k0:Int):=by omega
       have gc2:(k2:Int)<(d.size:Int) - (k0:Int)+1:=by omega
       have ze:IntKind.i64.wrap ((k2:Int) - 1)=(k2:Int) - 1:=by rw [IntKind.wrap_i64];omega
       obtain⟨x2,hx2⟩:∃ x,x=dk[k0+k2]!:=⟨_,rfl⟩
       obtain⟨y2,hy2⟩:∃ x,x=dk[k0+k2 - 1]!:=⟨_,rfl⟩
       have oV:=S1.out.ld R (by omega) P (k0+k2) (by omega)
       have oW:=S1.out.ld R (by omega) P (k0+k2 - 1) (by omega)
       rw [show off+(k0+k2) * k=off+k0 * k+(k2) * k by rw [show k0+k2=k0+(k2) by omega,Nat.add_mul,Nat.add_assoc]] at oV
       rw [show off+(k0+k2 - 1) * k=off+k0 * k+(k2 - 1) * k by rw [show k0+k2 - 1=k0+(k2 - 1) by omega,Nat.add_mul,Nat.add_assoc]] at oW
       rw [← hx2] at oV
       rw [← hy2] at oW
       have hc2:=yM HC.out S1.out (by omega) x2 y2
       have hv2:ef x2 y2=false:=by rw [hx2,hy2];exact hL
       rw [hv2] at hc2
       clear hx2 hy2
       go_wp2_with fail
       go_quiet_grown (first | (go_at_fn g;refine Calls.grown_of (hc2 _ _)))
       have S2:Aside (SWK enc k w0 blk off dk (grow (wr.drewN nq) osq)):=S1.out.grown nq osq
       clear oV oW hc2 S1
       generalize grow (wr.drewN nq) osq=w2 at S2 ⊢
       clear nq osq yI y7 yn zb yK y9 bc2 ze
       clear hL
       have kkz:(kk:Int)<(d.size:Int):=by omega
       have lm:=S2.out.load R (by omega) P (k0+k2) (by omega)
       rw [show off+(k0+k2) * k=off+k0 * k+k2 * k by rw [Nat.add_mul,Nat.add_assoc]] at lm
       have sm:=stores_of_holds P (S2.out.holds R.hblk R.hH (by omega)) (kk * k) (enc dk[k0+k2]!) (by rw [R.hk,size_flatK];exact rowK_bnd dk k kk (by omega)) (R.h1 _)
       have S3:Aside (SWK enc k w0 blk off (dk.setIfInBounds kk dk[k0+k2]!) (w2.setCells blk (off+kk * k) (enc dk[k0+k2]!))):=zI S2.out R kk (by omega) _
       have nJ:(enc dk[k0+k2]!).length=k:=R.hk _
       generalize enc dk[k0+k2]! = cJ at lm sm S3 nJ
       go_wp2
       go_roundw
       case rel=>exact⟨kk+1,k2+1,_,by go_num,by go_num,by omega,by omega,by omega,by omega,by rw [Array.size_setIfInBounds];exact hds,S3,hid ⟨rD.out,HN3.out⟩⟩
       case measure=>simp [intOf];omega
     ·have J4:¬ (k2:Int)<((d.size - k0:Nat):Int):=by omega
      have J3:¬ (k2:Int)<(d.size:Int) - (k0:Int):=by omega
      have J2:¬ k2<d.size - k0:=by omega
      have hend:k0+k2=d.size:=by omega
      obtain⟨W2,dk',hcl,S3,hd3,ht3⟩:=xS (P:=P) (ty:=0) S1.out R (by omega) L.u6 vE vC kk (cap - kk) (by omega)
      have HCL:Hid (dk'.toList.take kk=Sr.compact ef d.toList):=hid (by rw [ht3,HE.out.1,hend,List.take_of_length_le (by simp)])
      have HLN:Hid (kk=(Sr.compact ef d.toList).length):=hid (by have q:=congrArg List.length HCL.out;rw [List.length_take] at q;have q2:dk'.toList.length=dk'.size:=Array.length_toList;omega)
      rw [hds] at hcl
      have S4:Aside _:=S3
      have mX:dk'.size=d.size:=by omega
      have kc2:¬ cap=kk:=by omega
      have kkz:(kk:Int)<(d.size:Int):=by omega
      have ez2:((d.size - kk:Nat):Int)=(d.size:Int) - (kk:Int):=by omega
      clear S1 HE S3 hd3 ht3 hend
      go_wp2
      go_ret
      exact⟨dk',kk,rfl,S4.out,mX,HLN.out,HCL.out⟩
  ·have hlz:¬ (k1:Int)<(d.size:Int):=by omega
   obtain rfl:k1=d.size:=by omega
   have HF:Hid (Sr.compact ef d.toList=d.toList):=hid (by have:=HE.out;rwa [List.take_of_length_le (by simp)] at this)
   go_wp2
   go_ret
   exact⟨d,d.size,rfl,S1.out,rfl,by rw [HF.out];simp,by rw [HF.out,List.take_of_length_le (by simp)]⟩
end
section
open Go.Shelf Go.RowKit Go.Lib Go.Sort
structure CptK (P:Program):Prop where
 mixed:P.follows .mixedOrders=true
 f1:P.funcs[123]?=some Tryz.f123
 u0:P.underlying 0=some (.tuple #[])
 a0:∀ w,(isAgg 0).run P w=.ok false w
 z0:∀ w,(Go.sizeOf 0).run P w=.ok 1 w
 v0:∀ w,(zeroValue 0).run P w=.ok (.tuple #[]) w
 u3:P.underlying 3=some (.int .i64)
 a3:∀ w,(isAgg 3).run P w=.ok false w
 z3:∀ w,(Go.sizeOf 3).run P w=.ok 1 w
 v3:∀ w,(zeroValue 3).run P w=.ok (.int .i64 0) w
 u4:P.underlying 4=some .bool
 a4:∀ w,(isAgg 4).run P w=.ok false w
 z4:∀ w,(Go.sizeOf 4).run P w=.ok 1 w
 v4:∀ w,(zeroValue 4).run P w=.ok (.bool false) w
 u6:P.underlying 24=some (.slice 64)
 a6:∀ w,(isAgg 24).run P w=.ok false w
 z6:∀ w,(Go.sizeOf 24).run P w=.ok 1 w
 v6:∀ w,(zeroValue 24).run P w=.ok (.slice none 0 0) w
 u7:P.underlying 93=some (.func #[64,64] #[4] false)
 a7:∀ w,(isAgg 93).run P w=.ok false w
 z7:∀ w,(Go.sizeOf 93).run P w=.ok 1 w
 v7:∀ w,(zeroValue 93).run P w=.ok .nilFunc w
variable {P : Program} {α : Type} [Inhabited α]
def EqK (P:Program) (g:Nat) (cb:Array Value) (enc:α→List Value) (k:Nat) (ef:α→α→Bool) (blk off size:Nat) (w:World):Prop :=
 ∀ (m:Nat) (os:Array Obj) (dk:Array α),dk.size=size→∀ x y:α,
  Calls P g (#[.agg (enc x).toArray,.agg (enc y).toArray]++cb) (sortWorldK enc k w blk off m dk os) fun e w'=>e=.returned (.bool (ef x y))∧∃ q os',w'=grow ((sortWorldK enc k w blk off m dk os).drewN q) os'
theorem yL {enc:α→List Value} {k:Nat} {w0 W:World} {blk off size g:Nat} {cb:Array Value} {ef:α→α→Bool} {dk:Array α} (hC:EqK P g cb enc k ef blk off size w0) (h:SWK enc k w0 blk off dk W) (hs:dk.size=size) (x y:α) (n:Nat) (os:Array Obj) :
  Calls P g (#[.agg (enc x).toArray,.agg (enc y).toArray]++cb) (grow (W.drewN n) os) fun e w'=>e=.returned (.bool (ef x y))∧∃ q os',w'=grow ((grow (W.drewN n) os).drewN q) os':=by
 obtain⟨m,os0,hw⟩:=h.grown n os
 rw [hw]
 exact hC m os0 dk hs x y
def CptOkK (ef:α→α→Bool) (enc:α→List Value) (k:Nat) (w0:World) (blk off cap:Nat) (d:Array α) (e:Ending) (w':World):Prop :=
 ∃ (dk:Array α) (m:Nat),e=.returned (.slice (some ⟨blk,off,none⟩) m cap)∧SWK enc k w0 blk off dk w'∧dk.size=d.size∧m=(Sr.compact ef d.toList).length∧dk.toList.take m=Sr.compact ef d.toList
set_option maxRecDepth 1000000 in
theorem Jv (L:CptK P) (k:Nat) (aE:∀ w,(isAgg 64).run P w=.ok true w) (zE:∀ w,(Go.sizeOf 64).run P w=.ok k w) (enc:α→List Value) (zo:α) (vE:∀ w,(zeroValue 64).run P w=.ok (.agg (enc zo).toArray) w) (vC:(Value.agg (enc zo).toArray).cells=(enc zo).toArray) (blk off cap:Nat) (d0 d:Array α) (w0 w:World) (R:RowK enc k w0 blk off d0) (hs:d0.size=d.size) (S:SWK enc k w0 blk off d w) (ef:α→α→Bool) (g:Nat) (cb:Array Value) (eg:∀ args w,(callFunc g args).run P w=.ok (.enter g args) w) (heq:EqK P g cb enc k ef blk off d0.size w0) (hcap:d.size≤cap) (hcm:cap≤9223372036854775807) (hsz:d.size<4611686018427387904) :
  Calls P 123 #[.slice (some ⟨blk,off,none⟩) d.size cap,.func (.func g) #[] cb] w (CptOkK ef enc k w0 blk off cap d):=by
 have mixed:=L.mixed;have u0:=L.u0;have a0:=L.a0;have z0:=L.z0;have v0:=L.v0;have u3:=L.u3;have a3:=L.a3;have z3:=L.z3;have v3:=L.v3;have u4:=L.u4;have a4:=L.a4;have z4:=L.z4;have v4:=L.v4;have u6:=L.u6;have a6:=L.a6;have z6:=L.z6;have v6:=L.v6;have u7:=L.u7;have a7:=L.a7;have z7:=L.z7;have v7:=L.v7
 have HC:Aside _:=heq
 have S0:Aside _:=S
 have FG:=L.f1
 clear S heq
 by_cases h2:d.size<2
 ·have h2z:(d.size:Int)<2:=by omega
  have HF:=Sr.mQ (eq:=ef) d h2
  have ME:Hid _:=hid HF
  clear HF
  go_enter FG,ntmps123
  go_wp2
  go_ret
  exact⟨d,d.size,rfl,S0.out,rfl,by rw [ME.out];simp,by rw [ME.out,List.take_of_length_le (by simp)]⟩
 have h2z:¬ (d.size:Int)<2:=by omega
 go_enter FG,ntmps123
 go_wp2
 go_loopw [5] (fun s5 wr=>∃ k1:Nat,s5=.int .i64 k1∧1≤k1∧k1≤d.size∧Aside (SWK enc k w0 blk off d wr)∧Hid (Sr.compact ef (d.toList.take k1)=d.toList.take k1)) (fun s5 _=>d.size - (intOf s5).toNat)
 case atStart=>exact⟨1,rfl,Nat.le_refl _,by omega,S0,hid (Sr.mR d (by omega))⟩
 case round =>
  obtain⟨k1,rfl,g1,g2,S1,HE⟩:=hrel
  clear S0
  by_cases hlt:k1<d.size
  ·have hlz:(k1:Int)<(d.size:Int):=by omega
   cases hL:ef d[k1]! d[k1 - 1]! with
   | false =>
    have HN:Hid (Sr.compact ef (d.toList.take (k1+1))=d.toList.take (k1+1)):=hid (by rw [Sr.dV (by omega) hlt,hL,HE.out,if_neg (by simp),Sr.take_at hlt])
    have q1z:(1:Int)≤(k1:Int):=by omega
    have oH:((k1:Int)).toNat=k1:=by omega
    have oK:(0:Int)≤(k1:Int):=by omega
    have oF:(k1:Int)<(d.size:Int):=by omega
    have oN:IntKind.i64.wrap ((k1:Int))=(k1:Int):=by rw [IntKind.wrap_i64];omega
    have oI:((k1:Int) - 1).toNat=k1 - 1:=by omega
    have oL:(0:Int)≤(k1:Int) - 1:=by omega
    have bc1:(k1:Int) - 1<(d.size:Int):=by omega
    have oO:IntKind.i64.wrap ((k1:Int) - 1)=(k1:Int) - 1:=by rw [IntKind.wrap_i64];omega
    obtain⟨x1,hx1⟩:∃ x,x=d[k1]!:=⟨_,rfl⟩
    obtain⟨y1,hy1⟩:∃ x,x=d[k1 - 1]!:=⟨_,rfl⟩
    have jY:=S1.out.ld R (by omega) P (k1) (by omega)
    have jZ:=S1.out.ld R (by omega) P (k1 - 1) (by omega)
    rw [← hx1] at jY
    rw [← hy1] at jZ
    have hc1:=yL HC.out S1.out (by omega) x1 y1
    have hv1:ef x1 y1=false:=by rw [hx1,hy1];exact hL
    rw [hv1] at hc1
    clear hx1 hy1
    go_wp2_with fail
    go_quiet_grown (first | (go_at_fn g;refine Calls.grown_of (hc1 _ _)))
    have S2:Aside (SWK enc k w0 blk off d (grow (wr.drewN nq) osq)):=S1.out.grown nq osq
    clear jY jZ hc1 S1
    generalize grow (wr.drewN nq) osq=w2 at S2 ⊢
    clear nq osq oH oK oF oN oI oL bc1 oO
    clear hL
    go_wp2
    go_roundw
    case rel=>exact⟨k1+1,by go_num,by omega,by omega,S2,HN⟩
    case measure=>simp [intOf];omega
   | true =>
    have HN:Hid (Sr.compact ef (d.toList.take (k1+1))=d.toList.take k1):=hid (by rw [Sr.dV (by omega) hlt,hL,HE.out];simp)
    have q1z:(1:Int)≤(k1:Int):=by omega
    have oH:((k1:Int)).toNat=k1:=by omega
    have oK:(0:Int)≤(k1:Int):=by omega
    have oF:(k1:Int)<(d.size:Int):=by omega
    have oN:IntKind.i64.wrap ((k1:Int))=(k1:Int):=by rw [IntKind.wrap_i64];omega
    have oI:((k1:Int) - 1).toNat=k1 - 1:=by omega
    have oL:(0:Int)≤(k1:Int) - 1:=by omega
    have bc1:(k1:Int) - 1<(d.size:Int):=by omega
    have oO:IntKind.i64.wrap ((k1:Int) - 1)=(k1:Int) - 1:=by rw [IntKind.wrap_i64];omega
    obtain⟨x1,hx1⟩:∃ x,x=d[k1]!:=⟨_,rfl⟩
    obtain⟨y1,hy1⟩:∃ x,x=d[k1 - 1]!:=⟨_,rfl⟩
    have jY:=S1.out.ld R (by omega) P (k1) (by omega)
    have jZ:=S1.out.ld R (by omega) P (k1 - 1) (by omega)
    rw [← hx1] at jY
    rw [← hy1] at jZ
    have hc1:=yL HC.out S1.out (by omega) x1 y1
    have hv1:ef x1 y1=true:=by rw [hx1,hy1];exact hL
    rw [hv1] at hc1
    clear hx1 hy1
    go_wp2_with fail
    go_quiet_grown (first | (go_at_fn g;refine Calls.grown_of (hc1 _ _)))
    have S2:Aside (SWK enc k w0 blk off d (grow (wr.drewN nq) osq)):=S1.out.grown nq osq
    clear jY jZ hc1 S1
    generalize grow (wr.drewN nq) osq=w2 at S2 ⊢
    clear nq osq oH oK oF oN oI oL bc1 oO
    clear hL
    obtain⟨k0,hk0⟩:∃ k0,k0=k1:=⟨_,rfl⟩
    have HK0:=hid hk0
    rw [← hk0] at HN g1 g2 hlt hlz ⊢
    clear hk0 HK0 HE
    have kc:k0<cap:=by omega
    have kcz:(k0:Int)<(cap:Int):=by omega
    have kc1:¬ cap=k0:=by omega
    have ez:((d.size - k0:Nat):Int)=(d.size:Int) - (k0:Int):=by omega
    go_wp2_with fail
    go_loopw [5,7] (fun s5 s7 wr=>∃ (kk k2:Nat) (dk:Array α),s5=.int .i64 kk∧s7=.int .i64 k2∧k0≤kk∧1≤k2∧k0+k2≤d.size∧kk+1≤k0+k2∧dk.size=d.size∧Aside (SWK enc k w0 blk off dk wr)∧Hid (dk.toList.take kk=Sr.compact ef (d.toList.take (k0+k2))∧∀ i,k0+k2 - 1≤i→dk[i]! = d[i]!)) (fun _ s7 _=>d.size - k0 - (intOf s7).toNat)
    case atStart=>exact⟨k0,1,d,rfl,rfl,Nat.le_refl _,Nat.le_refl _,hlt,Nat.le_refl _,rfl,S2,hid ⟨HN.out.symm,fun _ _=>rfl⟩⟩
    case round =>
     clear S2
     obtain⟨kk,k2,dk,rfl,rfl,m1,m2,m3,m4,hds,S1,HE⟩:=hrel
     by_cases hlt2:k0+k2<d.size
     ·have J4:(k2:Int)<((d.size - k0:Nat):Int):=by omega
      have J3:(k2:Int)<(d.size:Int) - (k0:Int):=by omega
      have J2:k2<d.size - k0:=by omega
      have E1:=HE.out.2 (k0+k2) (by omega)
      have E2:=HE.out.2 (k0+k2 - 1) (Nat.le_refl _)
      have ST:=Sr.dV (eq:=ef) (d:=d) (j:=k0+k2) (by omega) hlt2
      rw [← E1,← E2] at ST
      have HST:=hid ST
      have HE1:=hid E1
      clear ST E1 E2
      cases hL:ef dk[k0+k2]! dk[k0+k2 - 1]! with
      | true =>
       have rD:Hid (dk.toList.take kk=Sr.compact ef (d.toList.take (k0+(k2+1)))):=hid (by rw [← Nat.add_assoc,HST.out,hL];simpa using HE.out.1)
       have q2z:(1:Int)≤(k2:Int):=by omega
       have yI:((k2:Int)).toNat=k2:=by omega
       have y7:(0:Int)≤(k2:Int):=by omega
       have yn:(k2:Int)<((d.size - k0:Nat):Int):=by omega
       have da2:(k2:Int)<(d.size:Int) - (k0:Int):=by omega
       have ga2:(k2:Int)<(d.size:Int) - (k0:Int)+1:=by omega
       have zb:IntKind.i64.wrap ((k2:Int))=(k2:Int):=by rw [IntKind.wrap_i64];omega
       have yK:((k2:Int) - 1).toNat=k2 - 1:=by omega
       have y9:(0:Int)≤(k2:Int) - 1:=by omega
       have bc2:(k2:Int) - 1<((d.size - k0:Nat):Int):=by omega
       have dc2:(k2:Int) - 1<(d.size:Int) - (k0:Int):=by omega
       have gc2:(k2:Int)<(d.size:Int) - (k0:Int)+1:=by omega
       have ze:IntKind.i64.wrap ((k2:Int) - 1)=(k2:Int) - 1:=by rw [IntKind.wrap_i64];omega
       obtain⟨x2,hx2⟩:∃ x,x=dk[k0+k2]!:=⟨_,rfl⟩
       obtain⟨y2,hy2⟩:∃ x,x=dk[k0+k2 - 1]!:=⟨_,rfl⟩
       have oV:=S1.out.ld R (by omega) P (k0+k2) (by omega)
       have oW:=S1.out.ld R (by omega) P (k0+k2 - 1) (by omega)
       rw [show off+(k0+k2) * k=off+k0 * k+(k2) * k by rw [show k0+k2=k0+(k2) by omega,Nat.add_mul,Nat.add_assoc]] at oV
       rw [show off+(k0+k2 - 1) * k=off+k0 * k+(k2 - 1) * k by rw [show k0+k2 - 1=k0+(k2 - 1) by omega,Nat.add_mul,Nat.add_assoc]] at oW
       rw [← hx2] at oV
       rw [← hy2] at oW
       have hc2:=yL HC.out S1.out (by omega) x2 y2
       have hv2:ef x2 y2=true:=by rw [hx2,hy2];exact hL
       rw [hv2] at hc2
       clear hx2 hy2
       go_wp2_with fail
       go_quiet_grown (first | (go_at_fn g;refine Calls.grown_of (hc2 _ _)))
       have S2:Aside (SWK enc k w0 blk off dk (grow (wr.drewN nq) osq)):=S1.out.grown nq osq
       clear oV oW hc2 S1
       generalize grow (wr.drewN nq) osq=w2 at S2 ⊢
       clear nq osq yI y7 yn zb yK y9 bc2 ze
       clear hL
       go_wp2
       go_roundw
       case rel=>exact⟨kk,k2+1,dk,rfl,by go_num,m1,by omega,by omega,by omega,hds,S2,hid ⟨rD.out,fun i hi=>HE.out.2 i (by omega)⟩⟩
       case measure=>simp [intOf];omega
      | false =>
       have rD:Hid ((dk.setIfInBounds kk dk[k0+k2]!).toList.take (kk+1)=Sr.compact ef (d.toList.take (k0+(k2+1)))):=hid (by rw [← Nat.add_assoc,HST.out,hL,Sr.nK (by omega),HE.out.1];rfl)
       have HN3:Hid (∀ i,k0+(k2+1) - 1≤i→(dk.setIfInBounds kk dk[k0+k2]!)[i]! = d[i]!):=hid fun i hi=>by rw [Sr.qP (by omega)];exact HE.out.2 i (by omega)
       have q2z:(1:Int)≤(k2:Int):=by omega
       have yI:((k2:Int)).toNat=k2:=by omega
       have y7:(0:Int)≤(k2:Int):=by omega
       have yn:(k2:Int)<((d.size - k0:Nat):Int):=by omega
       have da2:(k2:Int)<(d.size:Int) - (k0:Int):=by omega
       have ga2:(k2:Int)<(d.size:Int) - (k0:Int)+1:=by omega
       have zb:IntKind.i64.wrap ((k2:Int))=(k2:Int):=by rw [IntKind.wrap_i64];omega
       have yK:((k2:Int) - 1).toNat=k2 - 1:=by omega
       have y9:(0:Int)≤(k2:Int) - 1:=by omega
       have bc2:(k2:Int) - 1<((d.size - k0:Nat):Int):=by omega
       have dc2:(k2:Int) - 1<(d.size:Int) - (k0:Int):=by omega
       have gc2:(k2:Int)<(d.size:Int) - (k0:Int)+1:=by omega
       have ze:IntKind.i64.wrap ((k2:Int) - 1)=(k2:Int) - 1:=by rw [IntKind.wrap_i64];omega
       obtain⟨x2,hx2⟩:∃ x,x=dk[k0+k2]!:=⟨_,rfl⟩
       obtain⟨y2,hy2⟩:∃ x,x=dk[k0+k2 - 1]!:=⟨_,rfl⟩
       have oV:=S1.out.ld R (by omega) P (k0+k2) (by omega)
       have oW:=S1.out.ld R (by omega) P (k0+k2 - 1) (by omega)
       rw [show off+(k0+k2) * k=off+k0 * k+(k2) * k by rw [show k0+k2=k0+(k2) by omega,Nat.add_mul,Nat.add_assoc]] at oV
       rw [show off+(k0+k2 - 1) * k=off+k0 * k+(k2 - 1) * k by rw [show k0+k2 - 1=k0+(k2 - 1) by omega,Nat.add_mul,Nat.add_assoc]] at oW
       rw [← hx2] at oV
       rw [← hy2] at oW
       have hc2:=yL HC.out S1.out (by omega) x2 y2
       have hv2:ef x2 y2=false:=by rw [hx2,hy2];exact hL
       rw [hv2] at hc2
       clear hx2 hy2
       go_wp2_with fail
       go_quiet_grown (first | (go_at_fn g;refine Calls.grown_of (hc2 _ _)))
       have S2:Aside (SWK enc k w0 blk off dk (grow (wr.drewN nq) osq)):=S1.out.grown nq osq
       clear oV oW hc2 S1
       generalize grow (wr.drewN nq) osq=w2 at S2 ⊢
       clear nq osq yI y7 yn zb yK y9 bc2 ze
       clear hL
       have kkz:(kk:Int)<(d.size:Int):=by omega
       have lm:=S2.out.load R (by omega) P (k0+k2) (by omega)
       rw [show off+(k0+k2) * k=off+k0 * k+k2 * k by rw [Nat.add_mul,Nat.add_assoc]] at lm
       have sm:=stores_of_holds P (S2.out.holds R.hblk R.hH (by omega)) (kk * k) (enc dk[k0+k2]!) (by rw [R.hk,size_flatK];exact rowK_bnd dk k kk (by omega)) (R.h1 _)
       have S3:Aside (SWK enc k w0 blk off (dk.setIfInBounds kk dk[k0+k2]!) (w2.setCells blk (off+kk * k) (enc dk[k0+k2]!))):=zI S2.out R kk (by omega) _
       have nJ:(enc dk[k0+k2]!).length=k:=R.hk _
       generalize enc dk[k0+k2]! = cJ at lm sm S3 nJ
       go_wp2
       go_roundw
       case rel=>exact⟨kk+1,k2+1,_,by go_num,by go_num,by omega,by omega,by omega,by omega,by rw [Array.size_setIfInBounds];exact hds,S3,hid ⟨rD.out,HN3.out⟩⟩
       case measure=>simp [intOf];omega
     ·have J4:¬ (k2:Int)<((d.size - k0:Nat):Int):=by omega
      have J3:¬ (k2:Int)<(d.size:Int) - (k0:Int):=by omega
      have J2:¬ k2<d.size - k0:=by omega
      have hend:k0+k2=d.size:=by omega
      obtain⟨W2,dk',hcl,S3,hd3,ht3⟩:=xS (P:=P) (ty:=0) S1.out R (by omega) L.u6 vE vC kk (cap - kk) (by omega)
      have HCL:Hid (dk'.toList.take kk=Sr.compact ef d.toList):=hid (by rw [ht3,HE.out.1,hend,List.take_of_length_le (by simp)])
      have HLN:Hid (kk=(Sr.compact ef d.toList).length):=hid (by have q:=congrArg List.length HCL.out;rw [List.length_take] at q;have q2:dk'.toList.length=dk'.size:=Array.length_toList;omega)
      rw [hds] at hcl
      have S4:Aside _:=S3
      have mX:dk'.size=d.size:=by omega
      have kc2:¬ cap=kk:=by omega
      have kkz:(kk:Int)<(d.size:Int):=by omega
      have ez2:((d.size - kk:Nat):Int)=(d.size:Int) - (kk:Int):=by omega
      clear S1 HE S3 hd3 ht3 hend
      go_wp2
      go_ret
      exact⟨dk',kk,rfl,S4.out,mX,HLN.out,HCL.out⟩
  ·have hlz:¬ (k1:Int)<(d.size:Int):=by omega
   obtain rfl:k1=d.size:=by omega
   have HF:Hid (Sr.compact ef d.toList=d.toList):=hid (by have:=HE.out;rwa [List.take_of_length_le (by simp)] at this)
   go_wp2
   go_ret
   exact⟨d,d.size,rfl,S1.out,rfl,by rw [HF.out];simp,by rw [HF.out,List.take_of_length_le (by simp)]⟩
end
section
open Go.Shelf Go.RowKit Go.Lib Go.Sort
structure CptS (P:Program):Prop where
 mixed:P.follows .mixedOrders=true
 f1:P.funcs[129]?=some Tryz.f129
 u0:P.underlying 0=some (.tuple #[])
 a0:∀ w,(isAgg 0).run P w=.ok false w
 z0:∀ w,(Go.sizeOf 0).run P w=.ok 1 w
 v0:∀ w,(zeroValue 0).run P w=.ok (.tuple #[]) w
 u3:P.underlying 3=some (.int .i64)
 a3:∀ w,(isAgg 3).run P w=.ok false w
 z3:∀ w,(Go.sizeOf 3).run P w=.ok 1 w
 v3:∀ w,(zeroValue 3).run P w=.ok (.int .i64 0) w
 u4:P.underlying 4=some .bool
 a4:∀ w,(isAgg 4).run P w=.ok false w
 z4:∀ w,(Go.sizeOf 4).run P w=.ok 1 w
 v4:∀ w,(zeroValue 4).run P w=.ok (.bool false) w
 u6:P.underlying 62=some (.slice 9)
 a6:∀ w,(isAgg 62).run P w=.ok false w
 z6:∀ w,(Go.sizeOf 62).run P w=.ok 1 w
 v6:∀ w,(zeroValue 62).run P w=.ok (.slice none 0 0) w
 u8:P.underlying 9=some .string
 a8:∀ w,(isAgg 9).run P w=.ok false w
 z8:∀ w,(Go.sizeOf 9).run P w=.ok 1 w
 u7:P.underlying 160=some (.func #[9,9] #[4] false)
 a7:∀ w,(isAgg 160).run P w=.ok false w
 z7:∀ w,(Go.sizeOf 160).run P w=.ok 1 w
 v7:∀ w,(zeroValue 160).run P w=.ok .nilFunc w
variable {P : Program} {α : Type} [Inhabited α]
def EqS (P:Program) (g:Nat) (cb:Array Value) (enc:α→Value) (ef:α→α→Bool) (blk off size:Nat) (w:World):Prop :=
 ∀ (m:Nat) (os:Array Obj) (dk:Array α),dk.size=size→∀ x y:α,
  Calls P g (#[enc x,enc y]++cb) (sortWorld enc w blk off m dk os) fun e w'=>e=.returned (.bool (ef x y))∧∃ q os',w'=grow ((sortWorld enc w blk off m dk os).drewN q) os'
theorem yN {enc:α→Value} {w0 W:World} {blk off size g:Nat} {cb:Array Value} {ef:α→α→Bool} {dk:Array α} (hC:EqS P g cb enc ef blk off size w0) (h:SW enc w0 blk off dk W) (hs:dk.size=size) (x y:α) (n:Nat) (os:Array Obj) :
  Calls P g (#[enc x,enc y]++cb) (grow (W.drewN n) os) fun e w'=>e=.returned (.bool (ef x y))∧∃ q os',w'=grow ((grow (W.drewN n) os).drewN q) os':=by
 obtain⟨m,os0,hw⟩:=h.grown n os
 rw [hw]
 exact hC m os0 dk hs x y
def CptOkS (ef:α→α→Bool) (enc:α→Value) (w0:World) (blk off cap:Nat) (d:Array α) (e:Ending) (w':World):Prop :=
 ∃ (dk:Array α) (m:Nat),e=.returned (.slice (some ⟨blk,off,none⟩) m cap)∧SW enc w0 blk off dk w'∧dk.size=d.size∧m=(Sr.compact ef d.toList).length∧dk.toList.take m=Sr.compact ef d.toList
set_option maxRecDepth 1000000 in
theorem Jy (L:CptS P) (enc:α→Value) (zo:α) (vE:∀ w,(zeroValue 9).run P w=.ok (enc zo) w) (blk off cap:Nat) (d0 d:Array α) (w0 w:World) (R:Row1 enc w0 blk off d0) (hs:d0.size=d.size) (S:SW enc w0 blk off d w) (ef:α→α→Bool) (g:Nat) (cb:Array Value) (eg:∀ args w,(callFunc g args).run P w=.ok (.enter g args) w) (heq:EqS P g cb enc ef blk off d0.size w0) (hcap:d.size≤cap) (hcm:cap≤9223372036854775807) (hsz:d.size<4611686018427387904) :
  Calls P 129 #[.slice (some ⟨blk,off,none⟩) d.size cap,.func (.func g) #[] cb] w (CptOkS ef enc w0 blk off cap d):=by
 have mixed:=L.mixed;have u0:=L.u0;have a0:=L.a0;have z0:=L.z0;have v0:=L.v0;have u3:=L.u3;have a3:=L.a3;have z3:=L.z3;have v3:=L.v3;have u4:=L.u4;have a4:=L.a4;have z4:=L.z4;have v4:=L.v4;have u6:=L.u6;have a6:=L.a6;have z6:=L.z6;have v6:=L.v6;have u8:=L.u8;have a8:=L.a8;have z8:=L.z8;have u7:=L.u7;have a7:=L.a7;have z7:=L.z7;have v7:=L.v7
 have u22:=run_underlying L.u6
 have hcl0:=R.hO.cells
 simp only [Value.cells] at hcl0
 have hst:=R.hO.store P
 have HZC:=hid (show (enc zo).cells=#[enc zo] from R.hO.cells zo)
 have HZ1:=hid (show (enc zo).oneCell'=true from R.hO zo)
 have HC:Aside _:=heq
 have S0:Aside _:=S
 have FG:=L.f1
 clear S heq
 by_cases h2:d.size<2
 ·have h2z:(d.size:Int)<2:=by omega
  have HF:=Sr.mQ (eq:=ef) d h2
  have ME:Hid _:=hid HF
  clear HF
  go_enter FG,ntmps129
  go_wp2
  go_ret
  exact⟨d,d.size,rfl,S0.out,rfl,by rw [ME.out];simp,by rw [ME.out,List.take_of_length_le (by simp)]⟩
 have h2z:¬ (d.size:Int)<2:=by omega
 go_enter FG,ntmps129
 go_wp2
 go_loopw [5] (fun s5 wr=>∃ k1:Nat,s5=.int .i64 k1∧1≤k1∧k1≤d.size∧Aside (SW enc w0 blk off d wr)∧Hid (Sr.compact ef (d.toList.take k1)=d.toList.take k1)) (fun s5 _=>d.size - (intOf s5).toNat)
 case atStart=>exact⟨1,rfl,Nat.le_refl _,by omega,S0,hid (Sr.mR d (by omega))⟩
 case round =>
  obtain⟨k1,rfl,g1,g2,S1,HE⟩:=hrel
  clear S0
  by_cases hlt:k1<d.size
  ·have hlz:(k1:Int)<(d.size:Int):=by omega
   cases hL:ef d[k1]! d[k1 - 1]! with
   | false =>
    have HN:Hid (Sr.compact ef (d.toList.take (k1+1))=d.toList.take (k1+1)):=hid (by rw [Sr.dV (by omega) hlt,hL,HE.out,if_neg (by simp),Sr.take_at hlt])
    have q1z:(1:Int)≤(k1:Int):=by omega
    have oH:((k1:Int)).toNat=k1:=by omega
    have oK:(0:Int)≤(k1:Int):=by omega
    have oF:(k1:Int)<(d.size:Int):=by omega
    have oN:IntKind.i64.wrap ((k1:Int))=(k1:Int):=by rw [IntKind.wrap_i64];omega
    have oI:((k1:Int) - 1).toNat=k1 - 1:=by omega
    have oL:(0:Int)≤(k1:Int) - 1:=by omega
    have bc1:(k1:Int) - 1<(d.size:Int):=by omega
    have oO:IntKind.i64.wrap ((k1:Int) - 1)=(k1:Int) - 1:=by rw [IntKind.wrap_i64];omega
    obtain⟨x1,hx1⟩:∃ x,x=d[k1]!:=⟨_,rfl⟩
    obtain⟨y1,hy1⟩:∃ x,x=d[k1 - 1]!:=⟨_,rfl⟩
    have jY:=S1.out.cl R (by omega) (k1) (by omega)
    have jZ:=S1.out.cl R (by omega) (k1 - 1) (by omega)
    rw [← hx1] at jY
    rw [← hy1] at jZ
    have hc1:=yN HC.out S1.out (by omega) x1 y1
    have hv1:ef x1 y1=false:=by rw [hx1,hy1];exact hL
    rw [hv1] at hc1
    clear hx1 hy1
    go_wp2_with fail
    go_quiet_grown (first | (go_at_fn g;refine Calls.grown_of (hc1 _ _)))
    have S2:Aside (SW enc w0 blk off d (grow (wr.drewN nq) osq)):=S1.out.grown nq osq
    clear jY jZ hc1 S1
    generalize grow (wr.drewN nq) osq=w2 at S2 ⊢
    clear nq osq oH oK oF oN oI oL bc1 oO
    clear hL
    go_wp2
    go_roundw
    case rel=>exact⟨k1+1,by go_num,by omega,by omega,S2,HN⟩
    case measure=>simp [intOf];omega
   | true =>
    have HN:Hid (Sr.compact ef (d.toList.take (k1+1))=d.toList.take k1):=hid (by rw [Sr.dV (by omega) hlt,hL,HE.out];simp)
    have q1z:(1:Int)≤(k1:Int):=by omega
    have oH:((k1:Int)).toNat=k1:=by omega
    have oK:(0:Int)≤(k1:Int):=by omega
    have oF:(k1:Int)<(d.size:Int):=by omega
    have oN:IntKind.i64.wrap ((k1:Int))=(k1:Int):=by rw [IntKind.wrap_i64];omega
    have oI:((k1:Int) - 1).toNat=k1 - 1:=by omega
    have oL:(0:Int)≤(k1:Int) - 1:=by omega
    have bc1:(k1:Int) - 1<(d.size:Int):=by omega
    have oO:IntKind.i64.wrap ((k1:Int) - 1)=(k1:Int) - 1:=by rw [IntKind.wrap_i64];omega
    obtain⟨x1,hx1⟩:∃ x,x=d[k1]!:=⟨_,rfl⟩
    obtain⟨y1,hy1⟩:∃ x,x=d[k1 - 1]!:=⟨_,rfl⟩
    have jY:=S1.out.cl R (by omega) (k1) (by omega)
    have jZ:=S1.out.cl R (by omega) (k1 - 1) (by omega)
    rw [← hx1] at jY
    rw [← hy1] at jZ
    have hc1:=yN HC.out S1.out (by omega) x1 y1
    have hv1:ef x1 y1=true:=by rw [hx1,hy1];exact hL
    rw [hv1] at hc1
    clear hx1 hy1
    go_wp2_with fail
    go_quiet_grown (first | (go_at_fn g;refine Calls.grown_of (hc1 _ _)))
    have S2:Aside (SW enc w0 blk off d (grow (wr.drewN nq) osq)):=S1.out.grown nq osq
    clear jY jZ hc1 S1
    generalize grow (wr.drewN nq) osq=w2 at S2 ⊢
    clear nq osq oH oK oF oN oI oL bc1 oO
    clear hL
    obtain⟨k0,hk0⟩:∃ k0,k0=k1:=⟨_,rfl⟩
    have HK0:=hid hk0
    rw [← hk0] at HN g1 g2 hlt hlz ⊢
    clear hk0 HK0 HE
    have kc:k0<cap:=by omega
    have kcz:(k0:Int)<(cap:Int):=by omega
    have kc1:¬ cap=k0:=by omega
    have ez:((d.size - k0:Nat):Int)=(d.size:Int) - (k0:Int):=by omega
    go_wp2_with fail
    go_loopw [5,7] (fun s5 s7 wr=>∃ (kk k2:Nat) (dk:Array α),s5=.int .i64 kk∧s7=.int .i64 k2∧k0≤kk∧1≤k2∧k0+k2≤d.size∧kk+1≤k0+k2∧dk.size=d.size∧Aside (SW enc w0 blk off dk wr)∧Hid (dk.toList.take kk=Sr.compact ef (d.toList.take (k0+k2))∧∀ i,k0+k2 - 1≤i→dk[i]! = d[i]!)) (fun _ s7 _=>d.size - k0 - (intOf s7).toNat)
    case atStart=>exact⟨k0,1,d,rfl,rfl,Nat.le_refl _,Nat.le_refl _,hlt,Nat.le_refl _,rfl,S2,hid ⟨HN.out.symm,fun _ _=>rfl⟩⟩
    case round =>
     clear S2
     obtain⟨kk,k2,dk,rfl,rfl,m1,m2,m3,m4,hds,S1,HE⟩:=hrel
     by_cases hlt2:k0+k2<d.size
     ·have J4:(k2:Int)<((d.size - k0:Nat):Int):=by omega
      have J3:(k2:Int)<(d.size:Int) - (k0:Int):=by omega
      have J2:k2<d.size - k0:=by omega
      have E1:=HE.out.2 (k0+k2) (by omega)
      have E2:=HE.out.2 (k0+k2 - 1) (Nat.le_refl _)
      have ST:=Sr.dV (eq:=ef) (d:=d) (j:=k0+k2) (by omega) hlt2
      rw [← E1,← E2] at ST
      have HST:=hid ST
      have HE1:=hid E1
      clear ST E1 E2
      cases hL:ef dk[k0+k2]! dk[k0+k2 - 1]! with
      | true =>
       have rD:Hid (dk.toList.take kk=Sr.compact ef (d.toList.take (k0+(k2+1)))):=hid (by rw [← Nat.add_assoc,HST.out,hL];simpa using HE.out.1)
       have q2z:(1:Int)≤(k2:Int):=by omega
       have yI:((k2:Int)).toNat=k2:=by omega
       have y7:(0:Int)≤(k2:Int):=by omega
       have yn:(k2:Int)<((d.size - k0:Nat):Int):=by omega
       have da2:(k2:Int)<(d.size:Int) - (k0:Int):=by omega
       have ga2:(k2:Int)<(d.size:Int) - (k0:Int)+1:=by omega
       have zb:IntKind.i64.wrap ((k2:Int))=(k2:Int):=by rw [IntKind.wrap_i64];omega
       have yK:((k2:Int) - 1).toNat=k2 - 1:=by omega
       have y9:(0:Int)≤(k2:Int) - 1:=by omega
       have bc2:(k2:Int) - 1<((d.size - k0:Nat):Int):=by omega
       have dc2:(k2:Int) - 1<(d.size:Int) - (k0:Int):=by omega
       have gc2:(k2:Int)<(d.size:Int) - (k0:Int)+1:=by omega
       have ze:IntKind.i64.wrap ((k2:Int) - 1)=(k2:Int) - 1:=by rw [IntKind.wrap_i64];omega
       obtain⟨x2,hx2⟩:∃ x,x=dk[k0+k2]!:=⟨_,rfl⟩
       obtain⟨y2,hy2⟩:∃ x,x=dk[k0+k2 - 1]!:=⟨_,rfl⟩
       have oV:=S1.out.cl R (by omega) (k0+k2) (by omega)
       have oW:=S1.out.cl R (by omega) (k0+k2 - 1) (by omega)
       rw [show off+(k0+k2)=off+k0+(k2) by omega] at oV
       rw [show off+(k0+k2 - 1)=off+k0+(k2 - 1) by omega] at oW
       rw [← hx2] at oV
       rw [← hy2] at oW
       have hc2:=yN HC.out S1.out (by omega) x2 y2
       have hv2:ef x2 y2=true:=by rw [hx2,hy2];exact hL
       rw [hv2] at hc2
       clear hx2 hy2
       go_wp2_with fail
       go_quiet_grown (first | (go_at_fn g;refine Calls.grown_of (hc2 _ _)))
       have S2:Aside (SW enc w0 blk off dk (grow (wr.drewN nq) osq)):=S1.out.grown nq osq
       clear oV oW hc2 S1
       generalize grow (wr.drewN nq) osq=w2 at S2 ⊢
       clear nq osq yI y7 yn zb yK y9 bc2 ze
       clear hL
       go_wp2
       go_roundw
       case rel=>exact⟨kk,k2+1,dk,rfl,by go_num,m1,by omega,by omega,by omega,hds,S2,hid ⟨rD.out,fun i hi=>HE.out.2 i (by omega)⟩⟩
       case measure=>simp [intOf];omega
      | false =>
       have rD:Hid ((dk.setIfInBounds kk dk[k0+k2]!).toList.take (kk+1)=Sr.compact ef (d.toList.take (k0+(k2+1)))):=hid (by rw [← Nat.add_assoc,HST.out,hL,Sr.nK (by omega),HE.out.1];rfl)
       have HN3:Hid (∀ i,k0+(k2+1) - 1≤i→(dk.setIfInBounds kk dk[k0+k2]!)[i]! = d[i]!):=hid fun i hi=>by rw [Sr.qP (by omega)];exact HE.out.2 i (by omega)
       have q2z:(1:Int)≤(k2:Int):=by omega
       have yI:((k2:Int)).toNat=k2:=by omega
       have y7:(0:Int)≤(k2:Int):=by omega
       have yn:(k2:Int)<((d.size - k0:Nat):Int):=by omega
       have da2:(k2:Int)<(d.size:Int) - (k0:Int):=by omega
       have ga2:(k2:Int)<(d.size:Int) - (k0:Int)+1:=by omega
       have zb:IntKind.i64.wrap ((k2:Int))=(k2:Int):=by rw [IntKind.wrap_i64];omega
       have yK:((k2:Int) - 1).toNat=k2 - 1:=by omega
       have y9:(0:Int)≤(k2:Int) - 1:=by omega
       have bc2:(k2:Int) - 1<((d.size - k0:Nat):Int):=by omega
       have dc2:(k2:Int) - 1<(d.size:Int) - (k0:Int):=by omega
       have gc2:(k2:Int)<(d.size:Int) - (k0:Int)+1:=by omega
       have ze:IntKind.i64.wrap ((k2:Int) - 1)=(k2:Int) - 1:=by rw [IntKind.wrap_i64];omega
       obtain⟨x2,hx2⟩:∃ x,x=dk[k0+k2]!:=⟨_,rfl⟩
       obtain⟨y2,hy2⟩:∃ x,x=dk[k0+k2 - 1]!:=⟨_,rfl⟩
       have oV:=S1.out.cl R (by omega) (k0+k2) (by omega)
       have oW:=S1.out.cl R (by omega) (k0+k2 - 1) (by omega)
       rw [show off+(k0+k2)=off+k0+(k2) by omega] at oV
       rw [show off+(k0+k2 - 1)=off+k0+(k2 - 1) by omega] at oW
       rw [← hx2] at oV
       rw [← hy2] at oW
       have hc2:=yN HC.out S1.out (by omega) x2 y2
       have hv2:ef x2 y2=false:=by rw [hx2,hy2];exact hL
       rw [hv2] at hc2
       clear hx2 hy2
       go_wp2_with fail
       go_quiet_grown (first | (go_at_fn g;refine Calls.grown_of (hc2 _ _)))
       have S2:Aside (SW enc w0 blk off dk (grow (wr.drewN nq) osq)):=S1.out.grown nq osq
       clear oV oW hc2 S1
       generalize grow (wr.drewN nq) osq=w2 at S2 ⊢
       clear nq osq yI y7 yn zb yK y9 bc2 ze
       clear hL
       have kkz:(kk:Int)<(d.size:Int):=by omega
       obtain⟨ck,fk⟩:=S2.out.holds R.hblk R.hH (by omega) kk (by omega)
       have cm:=S2.out.c1 R (by omega) (k0+k2) (by omega)
       rw [show off+(k0+k2)=off+k0+k2 by omega] at cm
       have S3:Aside (SW enc w0 blk off (dk.setIfInBounds kk dk[k0+k2]!) (w2.setCell ⟨blk,off+kk,none⟩ (enc dk[k0+k2]!))):=Mm S2.out R kk (by omega) _
       obtain⟨yJ,hyJ⟩:∃ y,y=dk[k0+k2]!:=⟨_,rfl⟩
       rw [← hyJ] at cm S3 rD HN3
       clear hyJ
       generalize enc dk[kk]! = cO at ck
       go_wp2
       go_roundw
       case rel=>exact⟨kk+1,k2+1,_,by go_num,by go_num,by omega,by omega,by omega,by omega,by rw [Array.size_setIfInBounds];exact hds,S3,hid ⟨rD.out,HN3.out⟩⟩
       case measure=>simp [intOf];omega
     ·have J4:¬ (k2:Int)<((d.size - k0:Nat):Int):=by omega
      have J3:¬ (k2:Int)<(d.size:Int) - (k0:Int):=by omega
      have J2:¬ k2<d.size - k0:=by omega
      have hend:k0+k2=d.size:=by omega
      obtain⟨W2,dk',hcl,S3,hd3,ht3⟩:=Ml (P:=P) (ty:=0) S1.out R (by omega) L.u6 vE HZC.out HZ1.out kk (cap - kk) (by omega)
      have HCL:Hid (dk'.toList.take kk=Sr.compact ef d.toList):=hid (by rw [ht3,HE.out.1,hend,List.take_of_length_le (by simp)])
      have HLN:Hid (kk=(Sr.compact ef d.toList).length):=hid (by have q:=congrArg List.length HCL.out;rw [List.length_take] at q;have q2:dk'.toList.length=dk'.size:=Array.length_toList;omega)
      rw [hds] at hcl
      have S4:Aside _:=S3
      have mX:dk'.size=d.size:=by omega
      have kc2:¬ cap=kk:=by omega
      have kkz:(kk:Int)<(d.size:Int):=by omega
      have ez2:((d.size - kk:Nat):Int)=(d.size:Int) - (kk:Int):=by omega
      clear S1 HE S3 hd3 ht3 hend
      go_wp2
      go_ret
      exact⟨dk',kk,rfl,S4.out,mX,HLN.out,HCL.out⟩
  ·have hlz:¬ (k1:Int)<(d.size:Int):=by omega
   obtain rfl:k1=d.size:=by omega
   have HF:Hid (Sr.compact ef d.toList=d.toList):=hid (by have:=HE.out;rwa [List.take_of_length_le (by simp)] at this)
   go_wp2
   go_ret
   exact⟨d,d.size,rfl,S1.out,rfl,by rw [HF.out];simp,by rw [HF.out,List.take_of_length_le (by simp)]⟩
end
end
end Go.Proofs.YtcmiompdjjiojaaGreat
