import Derived.Test.YtcedlgedmkghgaaGreatZ1
import Derived.Test.YtcedlgedmkghgaaGreatProg
import Derived.Shelf.SlSortCmp.Kit1
import Derived.Sort.WalkA
import Derived.Sort.WalkB2
import Derived.Sort.WalkB12
import Derived.Deep.LoopGhost
import Derived.BigRegion
import Derived.WalkKit
import Derived.Lib.Hide
namespace Go.Proofs.YtcedlgedmkghgaaGreat
set_option maxHeartbeats 16000000
open Go.Lib Go.Proofs.Tryz
set_option linter.unusedSimpArgs false
set_option maxRecDepth 100000
section
open Go.Shelf Go.RowKit Go.Lib Go.Sort
structure SrtS (P:Program):Prop where
 mixed:P.follows .mixedOrders=true
 f3:P.funcs[248]?=some Tryz.f248
 f5:P.funcs[221]?=some Tryz.f221
 e3:∀ args w,(callFunc 248 args).run P w=.ok (.enter 248 args) w
 u0:P.underlying 0=some (.tuple #[])
 a0:∀ w,(isAgg 0).run P w=.ok false w
 z0:∀ w,(Go.sizeOf 0).run P w=.ok 1 w
 v0:∀ w,(zeroValue 0).run P w=.ok (.tuple #[]) w
 u3:P.underlying 3=some (.int .i64)
 a3:∀ w,(isAgg 3).run P w=.ok false w
 z3:∀ w,(Go.sizeOf 3).run P w=.ok 1 w
 v3:∀ w,(zeroValue 3).run P w=.ok (.int .i64 0) w
 u4:P.underlying 4=some .bool
 a4:∀ w,(isAgg 4).run P w=.ok false w
 z4:∀ w,(Go.sizeOf 4).run P w=.ok 1 w
 v4:∀ w,(zeroValue 4).run P w=.ok (.bool false) w
 u5:P.underlying 134=some (.int .u64)
 a5:∀ w,(isAgg 134).run P w=.ok false w
 z5:∀ w,(Go.sizeOf 134).run P w=.ok 1 w
 v5:∀ w,(zeroValue 134).run P w=.ok (.int .u64 0) w
 u6:P.underlying 72=some (.slice 9)
 a6:∀ w,(isAgg 72).run P w=.ok false w
 z6:∀ w,(Go.sizeOf 72).run P w=.ok 1 w
 v6:∀ w,(zeroValue 72).run P w=.ok (.slice none 0 0) w
 u8:P.underlying 9=some .string
 a8:∀ w,(isAgg 9).run P w=.ok false w
 z8:∀ w,(Go.sizeOf 9).run P w=.ok 1 w
 v8:∀ w,(zeroValue 9).run P w=.ok (.string { data:=#[] }) w
 u7:P.underlying 207=some (.func #[9,9] #[3] false)
 a7:∀ w,(isAgg 207).run P w=.ok false w
 z7:∀ w,(Go.sizeOf 207).run P w=.ok 1 w
 v7:∀ w,(zeroValue 207).run P w=.ok .nilFunc w
variable {P : Program} {α : Type} [Inhabited α]
def Ag (cf:α→α→Int) (enc:α→Value) (w0:World) (blk off:Nat) (d:Array α) (A B C:List α) (w':World):Prop :=
 ∃ (dk:Array α) (W:List α),SW enc w0 blk off dk w'∧dk.size=d.size∧dk.toList=A++(W++C)∧W.length=B.length∧Sr.fO (ltOf cf) W∧Sr.gG (ltOf cf) B W
set_option maxRecDepth 1000000 in
theorem AQ (L:SrtS P) (enc:α→Value) (blk off cap:Nat) (d0 d:Array α) (w0 w:World) (R:Row1 enc w0 blk off d0) (hs:d0.size=d.size) (S:SW enc w0 blk off d w) (cf:α→α→Int) (g:Nat) (cb:Array Value) (eg:∀ args w,(callFunc g args).run P w=.ok (.enter g args) w) (hcmp:CmpLays1 P g cb enc cf blk off d0.size w0) (ho:Sr.WO (ltOf cf)) {A B C:List α} (hd:d.toList=A++(B++C)) (a b:Nat) (ha:a=A.length) (hb:b=A.length+B.length) (hsz:d.size<4611686018427387904) :
  Calls P 248 #[.slice (some ⟨blk,off,none⟩) d.size cap,.int .i64 a,.int .i64 b,.func (.func g) #[] cb] w fun e w'=>e=.returned (.tuple #[])∧Ag cf enc w0 blk off d A B C w':=by
 have mixed:=L.mixed;have u0:=L.u0;have a0:=L.a0;have z0:=L.z0;have v0:=L.v0;have u3:=L.u3;have a3:=L.a3;have z3:=L.z3;have v3:=L.v3;have u4:=L.u4;have a4:=L.a4;have z4:=L.z4;have v4:=L.v4;have u5:=L.u5;have a5:=L.a5;have z5:=L.z5;have v5:=L.v5;have u6:=L.u6;have a6:=L.a6;have z6:=L.z6;have v6:=L.v6;have u8:=L.u8;have a8:=L.a8;have z8:=L.z8;have v8:=L.v8;have u7:=L.u7;have a7:=L.a7;have z7:=L.z7;have v7:=L.v7
 have u22:=run_underlying L.u6
 have hcl0:=R.hO.cells
 simp only [Value.cells] at hcl0
 have hst:=R.hO.store P
 have hlen:d.size=A.length+(B.length+C.length):=by have:=congrArg List.length hd;simp only [Array.length_toList,List.length_append] at this;omega
 have HD:=hid hd
 have HA:=hid ha
 have xJ:=hid hb
 have HC:Aside _:=hcmp
 have S0:Aside _:=S
 have bb:b≤d.size:=by omega
 have ab:a≤b:=by omega
 have FG:=L.f3
 clear hd ha hb S hlen hcmp
 go_enter FG,ntmps248
 go_wp2
 go_loopw [8] (fun s8 wr=>∃ (i:Nat) (dk:Array α) (T R' W:List α),s8=.int .i64 i∧a<i∧i≤b+1∧dk.size=d.size∧Aside (SW enc w0 blk off dk wr) ∧
  Hid (B=T++R'∧(i<b→a+T.length=i)∧(b≤i→R'=[])∧dk.toList=A++(W++(R'++C))∧W.length=T.length∧Sr.fO (ltOf cf) W∧Sr.gG (ltOf cf) T W)) (fun s8 _=>b+1 - (intOf s8).toNat)
 case atStart =>
  refine⟨a+1,d,B.take 1,B.drop 1,B.take 1,by go_num,by omega,by omega,rfl,S0,hid ⟨(List.take_append_drop 1 B).symm,fun h=>by rw [List.length_take];have:=HA.out;have:=xJ.out;omega,fun h=>List.drop_of_length_le (by have:=HA.out;have:=xJ.out;omega),by rw [← List.append_assoc (B.take 1),List.take_append_drop];exact HD.out,rfl,?_,Sr.gG.refl _⟩⟩
  rcases B with _ | ⟨x,B⟩
  ·exact Sr.fO.nil
  ·exact Sr.fO.one x
 case round =>
  obtain⟨i,dk,T,R',W,rfl,hai,hib,hds,S1,HE⟩:=hrel
  clear S0
  by_cases hlt:i<b
  ·have hltz:(i:Int)<(b:Int):=by omega
   obtain⟨x,R2,hR⟩:∃ x R2,R'=x :: R2:=by
    have h1:=HE.out.1
    have h2:=HE.out.2.1 hlt
    have h3:=congrArg List.length h1
    rw [List.length_append] at h3
    have:=HA.out;have:=xJ.out
    cases hq:R' with
    | nil=>rw [hq] at h3;simp at h3;omega
    | cons x R2=>exact⟨x,R2,rfl⟩
   have HI0:Hid (Sr.Ins (ltOf cf) A (T++[x]) (R2++C) dk.toList i):=hid (by
    have:=Sr.Ins.start (lt:=ltOf cf) (A:=A) (T:=T) (C:=R2++C) (m:=dk.toList) (x:=x) (W:=W) (by rw [HE.out.2.2.2.1,hR];simp) HE.out.2.2.2.2.1 HE.out.2.2.2.2.2.1 HE.out.2.2.2.2.2.2
    rwa [show A.length+W.length=i by have:=HE.out.2.1 hlt;have:=HE.out.2.2.2.2.1;have:=HA.out;omega] at this)
   have HR:=hid hR
   clear hR
   go_wp2
   go_loopw [9] (fun s9 wr2=>∃ (j:Nat) (dj:Array α),s9=.int .i64 j∧a≤j∧j≤i∧dj.size=d.size∧Aside (SW enc w0 blk off dj wr2)∧Hid (Sr.Ins (ltOf cf) A (T++[x]) (R2++C) dj.toList j)) (fun s9 _=>(intOf s9).toNat)
   case atStart=>exact⟨i,dk,rfl,by omega,Nat.le_refl _,hds,S1,HI0⟩
   case round =>
    clear S1
    obtain⟨j,dj,rfl,haj,hji,hsj,S1,HI⟩:=hrel
    have OUT:Hid ((j≤a∨ltOf cf dj[j]! dj[j - 1]! = false)→B=(T++[x])++R2∧(i+1<b→a+(T++[x]).length=i+1)∧(b≤i+1→R2=[])∧∃ W2:List α,dj.toList=A++(W2++(R2++C))∧W2.length=(T++[x]).length∧Sr.fO (ltOf cf) W2∧Sr.gG (ltOf cf) (T++[x]) W2):=hid fun hst=>by
     have q1:B=(T++[x])++R2:=by rw [HE.out.1,HR.out];simp
     have q2:=HE.out.2.1 hlt
     have q3:=congrArg List.length q1
     rw [List.length_append,List.length_append,List.length_singleton] at q3
     refine⟨q1,fun _=>by rw [List.length_append,List.length_singleton];omega,fun _=>List.length_eq_zero_iff.1 (by have:=HA.out;have:=xJ.out;omega),?_⟩
     exact HI.out.stop ho (hst.imp (fun q=>by have:=HA.out;omega) id)
    by_cases hja:a<j
    ·obtain⟨jp,rfl⟩:∃ jp,j=jp+1:=⟨j - 1,by omega⟩
     have hjaz':(a:Int)<(jp:Int)+1:=by omega
     have hwp:IntKind.i64.wrap (jp:Int)=(jp:Int):=by rw [IntKind.wrap_i64];omega
     have jz1:(jp:Int)<(d.size:Int):=by omega
     cases hL:ltOf cf dj[jp+1]! dj[jp]! with
     | true =>
      have HL:=hid hL
      obtain⟨iN1,Gw⟩:∃ q,q=jp+1:=⟨_,rfl⟩
      obtain⟨jN1,Gy⟩:∃ q,q=jp:=⟨_,rfl⟩
      have nC:((jp:Int)+1).toNat=iN1:=by omega
      have nH:(0:Int)≤(jp:Int)+1:=by omega
      have nz:(jp:Int)+1<(d.size:Int):=by omega
      have nL:IntKind.i64.wrap ((jp:Int)+1)=(jp:Int)+1:=by rw [IntKind.wrap_i64];omega
      have nD:((jp:Int)).toNat=jN1:=by omega
      have nI:(0:Int)≤(jp:Int):=by omega
      have bc1:(jp:Int)<(d.size:Int):=by omega
      have nM:IntKind.i64.wrap ((jp:Int))=(jp:Int):=by rw [IntKind.wrap_i64];omega
      obtain⟨x1,hx1⟩:∃ x,x=dj[jp+1]!:=⟨_,rfl⟩
      obtain⟨y1,hy1⟩:∃ x,x=dj[jp]!:=⟨_,rfl⟩
      have jM:=S1.out.cl R (by omega) (jp+1) (by omega)
      have jN:=S1.out.cl R (by omega) (jp) (by omega)
      rw [← hx1,← Gw] at jM
      rw [← hy1,← Gy] at jN
      have hc1:=S1.out.cmp HC.out (by omega) x1 y1
      have hv1:cf x1 y1<0:=by rw [hx1,hy1];exact of_decide_eq_true hL
      have hd1:decide (cf x1 y1<0)=true:=decide_eq_true hv1
      clear hx1 hy1 Gw Gy
      go_wp2_with fail
      go_quiet_grown (first | (go_at_fn g;refine Calls.grown_of (hc1 _ _)))
      have S2:Aside (SW enc w0 blk off dj (grow (wr.drewN nq) osq)):=S1.out.grown nq osq
      clear jM jN hc1 S1
      generalize grow (wr.drewN nq) osq=w2 at S2 ⊢
      clear nq osq nC nH nz nL nD nI bc1 nM
      clear hL
      go_wp2_with fail
      have HSW:Hid (Sr.Ins (ltOf cf) A (T++[x]) (R2++C) (swp dj (jp+1) jp).toList jp):=hid (HI.out.step ho (by have:=HA.out;omega) HL.out)
      obtain⟨iN2,Gx⟩:∃ q,q=jp+1:=⟨_,rfl⟩
      obtain⟨jN2,Gz⟩:∃ q,q=jp:=⟨_,rfl⟩
      have wJ:((jp:Int)+1).toNat=iN2:=by omega
      have w_:(0:Int)≤(jp:Int)+1:=by omega
      have v_:(jp:Int)+1<(d.size:Int):=by omega
      have xh:IntKind.i64.wrap ((jp:Int)+1)=(jp:Int)+1:=by rw [IntKind.wrap_i64];omega
      have wK:((jp:Int)).toNat=jN2:=by omega
      have xe:(0:Int)≤(jp:Int):=by omega
      have bc2:(jp:Int)<(d.size:Int):=by omega
      have xk:IntKind.i64.wrap ((jp:Int))=(jp:Int):=by rw [IntKind.wrap_i64];omega
      obtain⟨x2,hx2⟩:∃ x,x=dj[jp+1]!:=⟨_,rfl⟩
      obtain⟨y2,hy2⟩:∃ x,x=dj[jp]!:=⟨_,rfl⟩
      have S3:Aside (SW enc w0 blk off (swp dj (jp+1) (jp)) ((w2.setCell ⟨blk,off+iN2,none⟩ (enc y2)).setCell ⟨blk,off+jN2,none⟩ (enc x2)).drew):=by rw [Gx,Gz,hx2,hy2];exact S2.out.swapped R (jp+1) (jp) (by omega) (by omega)
      have c2a:=S2.out.c1 R (by omega) (jp+1) (by omega)
      have c2b:=S2.out.c1 R (by omega) (jp) (by omega)
      have f2a:=S2.out.f1 R (by omega) (jp+1) (by omega)
      have f2b:=S2.out.f1 R (by omega) (jp) (by omega)
      obtain⟨u2,c2c⟩:=S2.out.c2 R (by omega) (jp+1) (jp) (by omega) (by omega) (enc y2)
      rw [← Gx,← Gz] at c2c
      rw [← hx2,← Gx] at c2a
      rw [← hy2,← Gz] at c2b
      rw [← Gx] at f2a
      rw [← Gz] at f2b
      clear S2 hx2 hy2 Gx Gz
      go_wp2_with fail
      go_big_region_o
      clear c2a c2b c2c f2a f2b
      generalize ((w2.setCell ⟨blk,off+iN2,none⟩ (enc y2)).setCell ⟨blk,off+jN2,none⟩ (enc x2)).drew=w3 at S3 ⊢
      clear wJ w_ v_ xh wK xe bc2 xk
      go_wp2
      go_roundw
      case rel=>exact⟨jp,_,by first | rfl | go_num | (congr 1;omega),by omega,by omega,by rw [size_swp];exact hsj,S3,HSW⟩
      case measure=>simp [intOf] <;> omega
     | false =>
      have HL:=hid hL
      obtain⟨iN1,Gw⟩:∃ q,q=jp+1:=⟨_,rfl⟩
      obtain⟨jN1,Gy⟩:∃ q,q=jp:=⟨_,rfl⟩
      have nC:((jp:Int)+1).toNat=iN1:=by omega
      have nH:(0:Int)≤(jp:Int)+1:=by omega
      have nz:(jp:Int)+1<(d.size:Int):=by omega
      have nL:IntKind.i64.wrap ((jp:Int)+1)=(jp:Int)+1:=by rw [IntKind.wrap_i64];omega
      have nD:((jp:Int)).toNat=jN1:=by omega
      have nI:(0:Int)≤(jp:Int):=by omega
      have bc1:(jp:Int)<(d.size:Int):=by omega
      have nM:IntKind.i64.wrap ((jp:Int))=(jp:Int):=by rw [IntKind.wrap_i64];omega
      obtain⟨x1,hx1⟩:∃ x,x=dj[jp+1]!:=⟨_,rfl⟩
      obtain⟨y1,hy1⟩:∃ x,x=dj[jp]!:=⟨_,rfl⟩
      have jM:=S1.out.cl R (by omega) (jp+1) (by omega)
      have jN:=S1.out.cl R (by omega) (jp) (by omega)
      rw [← hx1,← Gw] at jM
      rw [← hy1,← Gy] at jN
      have hc1:=S1.out.cmp HC.out (by omega) x1 y1
      have hv1:¬ cf x1 y1<0:=by rw [hx1,hy1];exact of_decide_eq_false hL
      have hd1:decide (cf x1 y1<0)=false:=decide_eq_false hv1
      clear hx1 hy1 Gw Gy
      go_wp2_with fail
      go_quiet_grown (first | (go_at_fn g;refine Calls.grown_of (hc1 _ _)))
      have S2:Aside (SW enc w0 blk off dj (grow (wr.drewN nq) osq)):=S1.out.grown nq osq
      clear jM jN hc1 S1
      generalize grow (wr.drewN nq) osq=w2 at S2 ⊢
      clear nq osq nC nH nz nL nD nI bc1 nM
      clear hL
      go_wp2
      go_roundw
      case rel =>
       obtain⟨o1,o2,o3,W2,o4,o5,o6,o7⟩:=OUT.out (.inr HL.out)
       exact⟨i+1,dj,T++[x],R2,W2,by go_num,by omega,by omega,hsj,S2,hid ⟨o1,o2,o3,o4,o5,o6,o7⟩⟩
      case measure=>simp [intOf];omega
    ·have hjaz:decide ((j:Int) > (a:Int))=false:=decide_eq_false (by omega)
     have hjaz':¬ (a:Int)<(j:Int):=by omega
     have S2:Aside (SW enc w0 blk off dj wr.drew):=S1.out.drew
     clear S1
     go_wp2_with fail
     go_big_region_o
     all_goals go_wp2
     go_roundw
     case rel =>
      obtain⟨o1,o2,o3,W2,o4,o5,o6,o7⟩:=OUT.out (.inl (by omega))
      exact⟨i+1,dj,T++[x],R2,W2,by go_num,by omega,by omega,hsj,S2,hid ⟨o1,o2,o3,o4,o5,o6,o7⟩⟩
     case measure=>simp [intOf];omega
  ·have hltz:¬ (i:Int)<(b:Int):=by omega
   obtain⟨h1,h2,h3,h4,h5,h6,h7⟩:=HE.out
   have h3:=h3 (by omega)
   subst h3
   rw [List.append_nil] at h1
   subst h1
   have HE2:Hid _:=hid (And.intro h4 (And.intro h5 (And.intro h6 h7)))
   clear h2 h4 h5 h6 h7
   go_wp2
   go_end0
   exact⟨rfl,dk,W,S1.out,hds,by have:=HE2.out.1;simpa using this,HE2.out.2.1,HE2.out.2.2.1,HE2.out.2.2.2⟩
set_option maxRecDepth 1000000 in
theorem stableS (L:SrtS P) (enc:α→Value) (blk off cap:Nat) (d0 d:Array α) (w0 w:World) (R:Row1 enc w0 blk off d0) (hs:d0.size=d.size) (S:SW enc w0 blk off d w) (cf:α→α→Int) (g:Nat) (cb:Array Value) (eg:∀ args w,(callFunc g args).run P w=.ok (.enter g args) w) (hcmp:CmpLays1 P g cb enc cf blk off d0.size w0) (ho:Sr.WO (ltOf cf)) (n:Nat) (hn:n=d.size) (hsm:d.size<20) :
  Calls P 221 #[.slice (some ⟨blk,off,none⟩) d.size cap,.int .i64 n,.func (.func g) #[] cb] w fun e w'=>e=.returned (.tuple #[])∧Ag cf enc w0 blk off d [] d.toList [] w':=by
 have mixed:=L.mixed;have u0:=L.u0;have a0:=L.a0;have z0:=L.z0;have v0:=L.v0;have u3:=L.u3;have a3:=L.a3;have z3:=L.z3;have v3:=L.v3;have u4:=L.u4;have a4:=L.a4;have z4:=L.z4;have v4:=L.v4;have u5:=L.u5;have a5:=L.a5;have z5:=L.z5;have v5:=L.v5;have u6:=L.u6;have a6:=L.a6;have z6:=L.z6;have v6:=L.v6;have u8:=L.u8;have a8:=L.a8;have z8:=L.z8;have v8:=L.v8;have u7:=L.u7;have a7:=L.a7;have z7:=L.z7;have v7:=L.v7
 have u22:=run_underlying L.u6
 have hcl0:=R.hO.cells
 simp only [Value.cells] at hcl0
 have hst:=R.hO.store P
 have n1:n≤d.size:=by omega
 have n2:d.size≤n:=by omega
 have HC:Aside _:=hcmp
 have S0:Aside _:=S
 have FG:=L.f5
 have e3:=L.e3
 have l1:¬ (20:Int)≤(n:Int):=by omega
 have l2:¬ (20:Int)<(n:Int):=by omega
 clear S hcmp hn
 go_enter FG,ntmps221
 go_wp2_with fail
 go_loopw [7,8] (fun s7 s8 wr=>s7=.int .i64 0∧s8=.int .i64 20∧Aside (SW enc w0 blk off d wr)) (fun _ _ _=>0)
 case atStart=>exact⟨rfl,rfl,S0⟩
 case round =>
  clear S0
  obtain⟨rfl,rfl,S1⟩:=hrel
  have hcall:=AQ (P:=P) L enc blk off cap d0 d w0 wr R (by omega) S1.out cf g cb eg HC.out ho (A:=([]:List α)) (B:=d.toList) (C:=[]) (by simp) 0 n rfl (by have q:d.toList.length=d.size:=Array.length_toList;show n=0+d.toList.length;omega) (by omega)
  rw [show ((0:Nat):Int)=0 from rfl] at hcall
  clear S1
  go_wp2_with (go_at_fn 248;refine hcall.mono ?_;rintro e w1 ⟨rfl,dk1,W,S2,hd1,hl1,hl2,hl3,hl4⟩)
  have S3:Aside _:=S2
  have HL:=hid (And.intro hl1 (And.intro hl2 (And.intro hl3 hl4)))
  clear S2 hl1 hl2 hl3 hl4
  go_wp2_with fail
  go_loopw [6] (fun s6 wr=>s6=.int .i64 20∧Aside (SW enc w0 blk off dk1 wr)) (fun _ _=>0)
  case atStart=>exact⟨rfl,S3⟩
  case round =>
   clear S3
   obtain⟨rfl,S3⟩:=hrel
   go_wp2
   go_end0
   exact⟨rfl,dk1,W,S3.out,hd1,HL.out⟩
end
end Go.Proofs.YtcedlgedmkghgaaGreat
