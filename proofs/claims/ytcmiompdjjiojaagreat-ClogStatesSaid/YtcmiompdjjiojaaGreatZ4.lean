import Derived.Test.YtcmiompdjjiojaaGreatZ2
import Derived.Lib.SmallJoins
import Derived.RangeFuncNested
import Derived.Sort.WalkB2
import Derived.LoopIn
import Derived.OwnWalkIn
import Derived.Shelf.SlSortCmp.Kit1
import Derived.LoopNIn
import Derived.RangeFuncBound
import Derived.TacticsInMore
import Derived.Test.YtcmiompdjjiojaaGreatProg
import Derived.Test.YtcmiompdjjiojaaGreatRows
namespace Go.Proofs.YtcmiompdjjiojaaGreat
set_option maxHeartbeats 16000000
open Go.Lib Go.Proofs.Tryz
set_option linter.unusedSimpArgs false
set_option maxRecDepth 100000
section
open Go.Shelf Go.RowKit Go.Lib Go.Sort
structure SrtS (P:Program):Prop where
 mixed:P.follows .mixedOrders=true
 f3:P.funcs[172]?=some Tryz.f172
 f5:P.funcs[155]?=some Tryz.f155
 e3:∀ args w,(callFunc 172 args).run P w=.ok (.enter 172 args) w
 u0:P.underlying 0=some (.tuple #[])
 a0:∀ w,(isAgg 0).run P w=.ok false w
 z0:∀ w,(Go.sizeOf 0).run P w=.ok 1 w
 v0:∀ w,(zeroValue 0).run P w=.ok (.tuple #[]) w
 u3:P.underlying 3=some (.int .i64)
 a3:∀ w,(isAgg 3).run P w=.ok false w
 z3:∀ w,(Go.sizeOf 3).run P w=.ok 1 w
 v3:∀ w,(zeroValue 3).run P w=.ok (.int .i64 0) w
 u4:P.underlying 4=some .bool
 a4:∀ w,(isAgg 4).run P w=.ok false w
 z4:∀ w,(Go.sizeOf 4).run P w=.ok 1 w
 v4:∀ w,(zeroValue 4).run P w=.ok (.bool false) w
 u5:P.underlying 161=some (.int .u64)
 a5:∀ w,(isAgg 161).run P w=.ok false w
 z5:∀ w,(Go.sizeOf 161).run P w=.ok 1 w
 v5:∀ w,(zeroValue 161).run P w=.ok (.int .u64 0) w
 u6:P.underlying 62=some (.slice 9)
 a6:∀ w,(isAgg 62).run P w=.ok false w
 z6:∀ w,(Go.sizeOf 62).run P w=.ok 1 w
 v6:∀ w,(zeroValue 62).run P w=.ok (.slice none 0 0) w
 u8:P.underlying 9=some .string
 a8:∀ w,(isAgg 9).run P w=.ok false w
 z8:∀ w,(Go.sizeOf 9).run P w=.ok 1 w
 v8:∀ w,(zeroValue 9).run P w=.ok (.string { data:=#[] }) w
 u7:P.underlying 158=some (.func #[9,9] #[3] false)
 a7:∀ w,(isAgg 158).run P w=.ok false w
 z7:∀ w,(Go.sizeOf 158).run P w=.ok 1 w
 v7:∀ w,(zeroValue 158).run P w=.ok .nilFunc w
variable {P : Program} {α : Type} [Inhabited α]
def C_ (cf:α→α→Int) (enc:α→Value) (w0:World) (blk off:Nat) (d:Array α) (A B C:List α) (w':World):Prop :=
 ∃ (dk:Array α) (W:List α),SW enc w0 blk off dk w'∧dk.size=d.size∧dk.toList=A++(W++C)∧W.length=B.length∧Sr.gu (ltOf cf) W∧Sr.gM (ltOf cf) B W
set_option maxRecDepth 1000000 in
theorem DT (L:SrtS P) (enc:α→Value) (blk off cap:Nat) (d0 d:Array α) (w0 w:World) (R:Row1 enc w0 blk off d0) (hs:d0.size=d.size) (S:SW enc w0 blk off d w) (cf:α→α→Int) (g:Nat) (cb:Array Value) (eg:∀ args w,(callFunc g args).run P w=.ok (.enter g args) w) (hcmp:CmpLays1 P g cb enc cf blk off d0.size w0) (ho:Sr.WO (ltOf cf)) {A B C:List α} (hd:d.toList=A++(B++C)) (a b:Nat) (ha:a=A.length) (hb:b=A.length+B.length) (hsz:d.size<4611686018427387904) :
  Calls P 172 #[.slice (some ⟨blk,off,none⟩) d.size cap,.int .i64 a,.int .i64 b,.func (.func g) #[] cb] w fun e w'=>e=.returned (.tuple #[])∧C_ cf enc w0 blk off d A B C w':=by
 have mixed:=L.mixed;have u0:=L.u0;have a0:=L.a0;have z0:=L.z0;have v0:=L.v0;have u3:=L.u3;have a3:=L.a3;have z3:=L.z3;have v3:=L.v3;have u4:=L.u4;have a4:=L.a4;have z4:=L.z4;have v4:=L.v4;have u5:=L.u5;have a5:=L.a5;have z5:=L.z5;have v5:=L.v5;have u6:=L.u6;have a6:=L.a6;have z6:=L.z6;have v6:=L.v6;have u8:=L.u8;have a8:=L.a8;have z8:=L.z8;have v8:=L.v8;have u7:=L.u7;have a7:=L.a7;have z7:=L.z7;have v7:=L.v7
 have u22:=run_underlying L.u6
 have hcl0:=R.hO.cells
 simp only [Value.cells] at hcl0
 have hst:=R.hO.store P
 have hlen:d.size=A.length+(B.length+C.length):=by have:=congrArg List.length hd;simp only [Array.length_toList,List.length_append] at this;omega
 have HD:=hid hd
 have HA:=hid ha
 have zO:=hid hb
 have HC:Aside _:=hcmp
 have S0:Aside _:=S
 have bb:b≤d.size:=by omega
 have ab:a≤b:=by omega
 have FG:=L.f3
 clear hd ha hb S hlen hcmp
 go_enter FG,ntmps172
 go_wp2
 go_loopw [8] (fun s8 wr=>∃ (i:Nat) (dk:Array α) (T R' W:List α),s8=.int .i64 i∧a<i∧i≤b+1∧dk.size=d.size∧Aside (SW enc w0 blk off dk wr) ∧
  Hid (B=T++R'∧(i<b→a+T.length=i)∧(b≤i→R'=[])∧dk.toList=A++(W++(R'++C))∧W.length=T.length∧Sr.gu (ltOf cf) W∧Sr.gM (ltOf cf) T W)) (fun s8 _=>b+1 - (intOf s8).toNat)
 case atStart =>
  refine⟨a+1,d,B.take 1,B.drop 1,B.take 1,by go_num,by omega,by omega,rfl,S0,hid ⟨(List.take_append_drop 1 B).symm,fun h=>by rw [List.length_take];have:=HA.out;have:=zO.out;omega,fun h=>List.drop_of_length_le (by have:=HA.out;have:=zO.out;omega),by rw [← List.append_assoc (B.take 1),List.take_append_drop];exact HD.out,rfl,?_,Sr.gM.refl _⟩⟩
  rcases B with _ | ⟨x,B⟩
  ·exact Sr.gu.nil
  ·exact Sr.gu.one x
 case round =>
  obtain⟨i,dk,T,R',W,rfl,hai,hib,hds,S1,HE⟩:=hrel
  clear S0
  by_cases hlt:i<b
  ·have hltz:(i:Int)<(b:Int):=by omega
   obtain⟨x,R2,hR⟩:∃ x R2,R'=x :: R2:=by
    have h1:=HE.out.1
    have h2:=HE.out.2.1 hlt
    have h3:=congrArg List.length h1
    rw [List.length_append] at h3
    have:=HA.out;have:=zO.out
    cases hq:R' with
    | nil=>rw [hq] at h3;simp at h3;omega
    | cons x R2=>exact⟨x,R2,rfl⟩
   have HI0:Hid (Sr.Ins (ltOf cf) A (T++[x]) (R2++C) dk.toList i):=hid (by
    have:=Sr.Ins.start (lt:=ltOf cf) (A:=A) (T:=T) (C:=R2++C) (m:=dk.toList) (x:=x) (W:=W) (by rw [HE.out.2.2.2.1,hR];simp) HE.out.2.2.2.2.1 HE.out.2.2.2.2.2.1 HE.out.2.2.2.2.2.2
    rwa [show A.length+W.length=i by have:=HE.out.2.1 hlt;have:=HE.out.2.2.2.2.1;have:=HA.out;omega] at this)
   have HR:=hid hR
   clear hR
   go_wp2
   go_loopw [9] (fun s9 wr2=>∃ (j:Nat) (dj:Array α),s9=.int .i64 j∧a≤j∧j≤i∧dj.size=d.size∧Aside (SW enc w0 blk off dj wr2)∧Hid (Sr.Ins (ltOf cf) A (T++[x]) (R2++C) dj.toList j)) (fun s9 _=>(intOf s9).toNat)
   case atStart=>exact⟨i,dk,rfl,by omega,Nat.le_refl _,hds,S1,HI0⟩
   case round =>
    clear S1
    obtain⟨j,dj,rfl,haj,hji,hsj,S1,HI⟩:=hrel
    have OUT:Hid ((j≤a∨ltOf cf dj[j]! dj[j - 1]! = false)→B=(T++[x])++R2∧(i+1<b→a+(T++[x]).length=i+1)∧(b≤i+1→R2=[])∧∃ W2:List α,dj.toList=A++(W2++(R2++C))∧W2.length=(T++[x]).length∧Sr.gu (ltOf cf) W2∧Sr.gM (ltOf cf) (T++[x]) W2):=hid fun hst=>by
     have q1:B=(T++[x])++R2:=by rw [HE.out.1,HR.out];simp
     have q2:=HE.out.2.1 hlt
     have q3:=congrArg List.length q1
     rw [List.length_append,List.length_append,List.length_singleton] at q3
     refine⟨q1,fun _=>by rw [List.length_append,List.length_singleton];omega,fun _=>List.length_eq_zero_iff.1 (by have:=HA.out;have:=zO.out;omega),?_⟩
     exact HI.out.stop ho (hst.imp (fun q=>by have:=HA.out;omega) id)
    by_cases hja:a<j
    ·obtain⟨jp,rfl⟩:∃ jp,j=jp+1:=⟨j - 1,by omega⟩
     have hjaz':(a:Int)<(jp:Int)+1:=by omega
     have hwp:IntKind.i64.wrap (jp:Int)=(jp:Int):=by rw [IntKind.wrap_i64];omega
     have jz1:(jp:Int)<(d.size:Int):=by omega
     cases hL:ltOf cf dj[jp+1]! dj[jp]! with
     | true =>
      have HL:=hid hL
      obtain⟨iN1,JW⟩:∃ q,q=jp+1:=⟨_,rfl⟩
      obtain⟨jN1,JY⟩:∃ q,q=jp:=⟨_,rfl⟩
      have oH:((jp:Int)+1).toNat=iN1:=by omega
      have oK:(0:Int)≤(jp:Int)+1:=by omega
      have oF:(jp:Int)+1<(d.size:Int):=by omega
      have oN:IntKind.i64.wrap ((jp:Int)+1)=(jp:Int)+1:=by rw [IntKind.wrap_i64];omega
      have oI:((jp:Int)).toNat=jN1:=by omega
      have oL:(0:Int)≤(jp:Int):=by omega
      have bc1:(jp:Int)<(d.size:Int):=by omega
      have oO:IntKind.i64.wrap ((jp:Int))=(jp:Int):=by rw [IntKind.wrap_i64];omega
      obtain⟨x1,hx1⟩:∃ x,x=dj[jp+1]!:=⟨_,rfl⟩
      obtain⟨y1,hy1⟩:∃ x,x=dj[jp]!:=⟨_,rfl⟩
      have jY:=S1.out.cl R (by omega) (jp+1) (by omega)
      have jZ:=S1.out.cl R (by omega) (jp) (by omega)
      rw [← hx1,← JW] at jY
      rw [← hy1,← JY] at jZ
      have hc1:=S1.out.cmp HC.out (by omega) x1 y1
      have hv1:cf x1 y1<0:=by rw [hx1,hy1];exact of_decide_eq_true hL
      have hd1:decide (cf x1 y1<0)=true:=decide_eq_true hv1
      clear hx1 hy1 JW JY
      go_wp2_with fail
      go_quiet_grown (first | (go_at_fn g;refine Calls.grown_of (hc1 _ _)))
      have S2:Aside (SW enc w0 blk off dj (grow (wr.drewN nq) osq)):=S1.out.grown nq osq
      clear jY jZ hc1 S1
      generalize grow (wr.drewN nq) osq=w2 at S2 ⊢
      clear nq osq oH oK oF oN oI oL bc1 oO
      clear hL
      go_wp2_with fail
      have HSW:Hid (Sr.Ins (ltOf cf) A (T++[x]) (R2++C) (swp dj (jp+1) jp).toList jp):=hid (HI.out.step ho (by have:=HA.out;omega) HL.out)
      obtain⟨iN2,JX⟩:∃ q,q=jp+1:=⟨_,rfl⟩
      obtain⟨jN2,JZ⟩:∃ q,q=jp:=⟨_,rfl⟩
      have yI:((jp:Int)+1).toNat=iN2:=by omega
      have y7:(0:Int)≤(jp:Int)+1:=by omega
      have yn:(jp:Int)+1<(d.size:Int):=by omega
      have zb:IntKind.i64.wrap ((jp:Int)+1)=(jp:Int)+1:=by rw [IntKind.wrap_i64];omega
      have yK:((jp:Int)).toNat=jN2:=by omega
      have y9:(0:Int)≤(jp:Int):=by omega
      have bc2:(jp:Int)<(d.size:Int):=by omega
      have ze:IntKind.i64.wrap ((jp:Int))=(jp:Int):=by rw [IntKind.wrap_i64];omega
      obtain⟨x2,hx2⟩:∃ x,x=dj[jp+1]!:=⟨_,rfl⟩
      obtain⟨y2,hy2⟩:∃ x,x=dj[jp]!:=⟨_,rfl⟩
      have S3:Aside (SW enc w0 blk off (swp dj (jp+1) (jp)) ((w2.setCell ⟨blk,off+iN2,none⟩ (enc y2)).setCell ⟨blk,off+jN2,none⟩ (enc x2)).drew):=by rw [JX,JZ,hx2,hy2];exact S2.out.swapped R (jp+1) (jp) (by omega) (by omega)
      have c2a:=S2.out.c1 R (by omega) (jp+1) (by omega)
      have c2b:=S2.out.c1 R (by omega) (jp) (by omega)
      have f2a:=S2.out.f1 R (by omega) (jp+1) (by omega)
      have f2b:=S2.out.f1 R (by omega) (jp) (by omega)
      obtain⟨u2,c2c⟩:=S2.out.c2 R (by omega) (jp+1) (jp) (by omega) (by omega) (enc y2)
      rw [← JX,← JZ] at c2c
      rw [← hx2,← JX] at c2a
      rw [← hy2,← JZ] at c2b
      rw [← JX] at f2a
      rw [← JZ] at f2b
      clear S2 hx2 hy2 JX JZ
      go_wp2_with fail
      go_big_region_o
      clear c2a c2b c2c f2a f2b
      generalize ((w2.setCell ⟨blk,off+iN2,none⟩ (enc y2)).setCell ⟨blk,off+jN2,none⟩ (enc x2)).drew=w3 at S3 ⊢
      clear yI y7 yn zb yK y9 bc2 ze
      go_wp2
      go_roundw
      case rel=>exact⟨jp,_,by first | rfl | go_num | (congr 1;omega),by omega,by omega,by rw [size_swp];exact hsj,S3,HSW⟩
      case measure=>simp [intOf] <;> omega
     | false =>
      have HL:=hid hL
      obtain⟨iN1,JW⟩:∃ q,q=jp+1:=⟨_,rfl⟩
      obtain⟨jN1,JY⟩:∃ q,q=jp:=⟨_,rfl⟩
      have oH:((jp:Int)+1).toNat=iN1:=by omega
      have oK:(0:Int)≤(jp:Int)+1:=by omega
      have oF:(jp:Int)+1<(d.size:Int):=by omega
      have oN:IntKind.i64.wrap ((jp:Int)+1)=(jp:Int)+1:=by rw [IntKind.wrap_i64];omega
      have oI:((jp:Int)).toNat=jN1:=by omega
      have oL:(0:Int)≤(jp:Int):=by omega
      have bc1:(jp:Int)<(d.size:Int):=by omega
      have oO:IntKind.i64.wrap ((jp:Int))=(jp:Int):=by rw [IntKind.wrap_i64];omega
      obtain⟨x1,hx1⟩:∃ x,x=dj[jp+1]!:=⟨_,rfl⟩
      obtain⟨y1,hy1⟩:∃ x,x=dj[jp]!:=⟨_,rfl⟩
      have jY:=S1.out.cl R (by omega) (jp+1) (by omega)
      have jZ:=S1.out.cl R (by omega) (jp) (by omega)
      rw [← hx1,← JW] at jY
      rw [← hy1,← JY] at jZ
      have hc1:=S1.out.cmp HC.out (by omega) x1 y1
      have hv1:¬ cf x1 y1<0:=by rw [hx1,hy1];exact of_decide_eq_false hL
      have hd1:decide (cf x1 y1<0)=false:=decide_eq_false hv1
      clear hx1 hy1 JW JY
      go_wp2_with fail
      go_quiet_grown (first | (go_at_fn g;refine Calls.grown_of (hc1 _ _)))
      have S2:Aside (SW enc w0 blk off dj (grow (wr.drewN nq) osq)):=S1.out.grown nq osq
      clear jY jZ hc1 S1
      generalize grow (wr.drewN nq) osq=w2 at S2 ⊢
      clear nq osq oH oK oF oN oI oL bc1 oO
      clear hL
      go_wp2
      go_roundw
      case rel =>
       obtain⟨o1,o2,o3,W2,o4,o5,o6,o7⟩:=OUT.out (.inr HL.out)
       exact⟨i+1,dj,T++[x],R2,W2,by go_num,by omega,by omega,hsj,S2,hid ⟨o1,o2,o3,o4,o5,o6,o7⟩⟩
      case measure=>simp [intOf];omega
    ·have hjaz:decide ((j:Int) > (a:Int))=false:=decide_eq_false (by omega)
     have hjaz':¬ (a:Int)<(j:Int):=by omega
     have S2:Aside (SW enc w0 blk off dj wr.drew):=S1.out.drew
     clear S1
     go_wp2_with fail
     go_big_region_o
     all_goals go_wp2
     go_roundw
     case rel =>
      obtain⟨o1,o2,o3,W2,o4,o5,o6,o7⟩:=OUT.out (.inl (by omega))
      exact⟨i+1,dj,T++[x],R2,W2,by go_num,by omega,by omega,hsj,S2,hid ⟨o1,o2,o3,o4,o5,o6,o7⟩⟩
     case measure=>simp [intOf];omega
  ·have hltz:¬ (i:Int)<(b:Int):=by omega
   obtain⟨h1,h2,h3,h4,h5,h6,h7⟩:=HE.out
   have h3:=h3 (by omega)
   subst h3
   rw [List.append_nil] at h1
   subst h1
   have HE2:Hid _:=hid (And.intro h4 (And.intro h5 (And.intro h6 h7)))
   clear h2 h4 h5 h6 h7
   go_wp2
   go_end0
   exact⟨rfl,dk,W,S1.out,hds,by have:=HE2.out.1;simpa using this,HE2.out.2.1,HE2.out.2.2.1,HE2.out.2.2.2⟩
set_option maxRecDepth 1000000 in
theorem stableS (L:SrtS P) (enc:α→Value) (blk off cap:Nat) (d0 d:Array α) (w0 w:World) (R:Row1 enc w0 blk off d0) (hs:d0.size=d.size) (S:SW enc w0 blk off d w) (cf:α→α→Int) (g:Nat) (cb:Array Value) (eg:∀ args w,(callFunc g args).run P w=.ok (.enter g args) w) (hcmp:CmpLays1 P g cb enc cf blk off d0.size w0) (ho:Sr.WO (ltOf cf)) (n:Nat) (hn:n=d.size) (hsm:d.size<20) :
  Calls P 155 #[.slice (some ⟨blk,off,none⟩) d.size cap,.int .i64 n,.func (.func g) #[] cb] w fun e w'=>e=.returned (.tuple #[])∧C_ cf enc w0 blk off d [] d.toList [] w':=by
 have mixed:=L.mixed;have u0:=L.u0;have a0:=L.a0;have z0:=L.z0;have v0:=L.v0;have u3:=L.u3;have a3:=L.a3;have z3:=L.z3;have v3:=L.v3;have u4:=L.u4;have a4:=L.a4;have z4:=L.z4;have v4:=L.v4;have u5:=L.u5;have a5:=L.a5;have z5:=L.z5;have v5:=L.v5;have u6:=L.u6;have a6:=L.a6;have z6:=L.z6;have v6:=L.v6;have u8:=L.u8;have a8:=L.a8;have z8:=L.z8;have v8:=L.v8;have u7:=L.u7;have a7:=L.a7;have z7:=L.z7;have v7:=L.v7
 have u22:=run_underlying L.u6
 have hcl0:=R.hO.cells
 simp only [Value.cells] at hcl0
 have hst:=R.hO.store P
 have n1:n≤d.size:=by omega
 have n2:d.size≤n:=by omega
 have HC:Aside _:=hcmp
 have S0:Aside _:=S
 have FG:=L.f5
 have e3:=L.e3
 have l1:¬ (20:Int)≤(n:Int):=by omega
 have l2:¬ (20:Int)<(n:Int):=by omega
 clear S hcmp hn
 go_enter FG,ntmps155
 go_wp2_with fail
 go_loopw [7,8] (fun s7 s8 wr=>s7=.int .i64 0∧s8=.int .i64 20∧Aside (SW enc w0 blk off d wr)) (fun _ _ _=>0)
 case atStart=>exact⟨rfl,rfl,S0⟩
 case round =>
  clear S0
  obtain⟨rfl,rfl,S1⟩:=hrel
  have hcall:=DT (P:=P) L enc blk off cap d0 d w0 wr R (by omega) S1.out cf g cb eg HC.out ho (A:=([]:List α)) (B:=d.toList) (C:=[]) (by simp) 0 n rfl (by have q:d.toList.length=d.size:=Array.length_toList;show n=0+d.toList.length;omega) (by omega)
  rw [show ((0:Nat):Int)=0 from rfl] at hcall
  clear S1
  go_wp2_with (go_at_fn 172;refine hcall.mono ?_;rintro e w1 ⟨rfl,dk1,W,S2,hd1,hl1,hl2,hl3,hl4⟩)
  have S3:Aside _:=S2
  have HL:=hid (And.intro hl1 (And.intro hl2 (And.intro hl3 hl4)))
  clear S2 hl1 hl2 hl3 hl4
  go_wp2_with fail
  go_loopw [6] (fun s6 wr=>s6=.int .i64 20∧Aside (SW enc w0 blk off dk1 wr)) (fun _ _=>0)
  case atStart=>exact⟨rfl,S3⟩
  case round =>
   clear S3
   obtain⟨rfl,S3⟩:=hrel
   go_wp2
   go_end0
   exact⟨rfl,dk1,W,S3.out,hd1,HL.out⟩
end
section
section
open Go.RowKit
section
variable {B : Nat} {w w' : World} {p : Nat} {l : List UInt8}
end
end
section
open Go.RowKit
structure Iz where
 pt:Cd.Pt
 A:Option Addr
 c:Nat
def Iz.cells (m:Iz):List Value:=[.int .i64 m.pt.kind,.int .u64 m.pt.n,.int .i64 m.pt.i,.float .f64 m.pt.f,.slice m.A m.pt.b.length m.c,.bool m.pt.is]
def flat (ms:List Iz):List Value:=ms.flatMap Iz.cells
def Iz.fine (m:Iz) (w:World) (B:Nat) (tb:TypeId):Prop:=au w B tb m.A (mP m.pt.b)∧m.pt.b.length≤m.c
def PL (w:World) (B:Nat) (tp tb:TypeId) (A:Option Addr) (ms:List Iz):Prop:=au w B tp A (flat ms)∧∀ m∈ms,m.fine w B tb
theorem JS (ms:List Iz):(flat ms).length=ms.length * 6:=by
 induction ms with
 | nil=>rfl
 | cons m ms ih=>simp only [flat,List.flatMap_cons,List.length_append,List.length_cons] at ih ⊢;rw [ih];simp [Iz.cells];omega
theorem flat_at {ms:List Iz} {k:Nat} {m:Iz} (h:ms[k]?=some m) {j:Nat} (hj:j<6):(flat ms)[k * 6+j]?=m.cells[j]?:=by
 induction ms generalizing k with
 | nil=>simp at h
 | cons q ms ih =>
  have hq:q.cells.length=6:=rfl
  cases k with
  | zero =>
   simp only [List.getElem?_cons_zero,Option.some.injEq] at h
   subst h
   simp only [flat,List.flatMap_cons,Nat.zero_mul,Nat.zero_add]
   rw [List.getElem?_append_left (by omega)]
  | succ k =>
   simp only [List.getElem?_cons_succ] at h
   have:=ih h
   simp only [flat,List.flatMap_cons] at this ⊢
   rw [List.getElem?_append_right (by omega),hq,show (k+1) * 6+j - 6=k * 6+j by omega]
   exact this
theorem PL.nil {w:World} {B:Nat} {tp tb:TypeId} {A:Option Addr}:PL w B tp tb A []:=⟨au.nil,by simp⟩
section
variable {w w' : World} {B B' : Nat} {tp tb tp' tb' : TypeId} {A : Option Addr} {ms : List Iz}
theorem PL.at_ (h:PL w B tp tb A ms) {k:Nat} (hk:k<ms.length):∃ ad m,A=some ad∧ms[k]?=some m∧m.fine w B tb ∧
  w.cell? (ad.add (k * 6))=some (.int .i64 m.pt.kind)∧w.cell? ⟨(ad.add (k * 6)).block,(ad.add (k * 6)).off+1,none⟩=some (.int .u64 m.pt.n) ∧
  w.cell? ⟨(ad.add (k * 6)).block,(ad.add (k * 6)).off+2,none⟩=some (.int .i64 m.pt.i)∧w.cell? ⟨(ad.add (k * 6)).block,(ad.add (k * 6)).off+3,none⟩=some (.float .f64 m.pt.f) ∧
  w.cell? ⟨(ad.add (k * 6)).block,(ad.add (k * 6)).off+4,none⟩=some (.slice m.A m.pt.b.length m.c)∧w.cell? ⟨(ad.add (k * 6)).block,(ad.add (k * 6)).off+5,none⟩=some (.bool m.pt.is):=by
 have hx:ms[k]?=some ms[k]:=List.getElem?_eq_getElem hk
 obtain⟨ad,e,_,hc⟩:=h.1 (fun q=>by
  have:=JS ms
  rw [q] at this
  simp at this
  omega)
 have c:∀ j u,j<6→(ms[k]).cells[j]?=some u→w.cell? ((ad.add (k * 6)).add j)=some u:=fun j u hj hu=>by
  rw [addr_add]
  exact hc _ _ ((flat_at hx hj).trans hu)
 refine⟨ad,ms[k],e,hx,h.2 _ (List.getElem_mem hk),?_,?_,?_,?_,?_,?_⟩
 ·exact c 0 _ (by omega) rfl
 ·exact c 1 _ (by omega) rfl
 ·exact c 2 _ (by omega) rfl
 ·exact c 3 _ (by omega) rfl
 ·exact c 4 _ (by omega) rfl
 ·exact c 5 _ (by omega) rfl
end
end
section
open Go.RowKit
end
end
section
section
section
open Go.RowKit
section
variable {g B p : Nat} {w w' : World} {l : List UInt8}
end
end
end
section
open Go.RowKit
end
end
section
section
open Go.RowKit
def RS (t:TypeId) (B:Nat) (tb:TypeId) (w:World) (p:Nat) (s:Option (List UInt8)):Prop :=
 B≤p∧match s with
 | none=>w.heap[p]?=some (.cells #[.slice none 0 0,.bool true] t (0,0))
 | some l=>∃ A c,l.length≤c∧w.heap[p]?=some (.cells #[.slice A l.length c,.bool false] t (0,0))∧au w B tb A (mP l)
section
variable {t tb : TypeId} {B p : Nat} {w w' : World} {s : Option (List UInt8)}
theorem RS.size (h:RS t B tb w p s):B≤w.heap.size:=by
 obtain⟨hB,h⟩:=h
 cases s with
 | none=>have:=lt_of_block h;omega
 | some l =>
  obtain⟨A,c,_,hp,_⟩:=h
  have:=lt_of_block hp
  omega
end
def tk (n:Nat):Option (List UInt8)→List UInt8
 | none=>[]
 | some l=>if n≤l.length then l.take n else []
end
section
open Go.RowKit
end
end
section
open Go.ChangeShapes Go.WideShapes Go.ChangeAt Go.RowKit Go.Deep
section
variable {H : Type} {enc : TypeId × Value → H} {P : Program}
theorem nR (laid:laidOutB P=true) {W W':World} (old:Below W.heap.size W W') {sp:Nat→Bool} :
  ∀ {ts:List TypeId} {vs:List Value} {ds:List (DataW H)} {ps:List MemPlace},(∀ t∈ts,P.readableRec t=true∧t<P.types.size)→(∀ x∈ps,x.block<W.heap.size)→(∀ x∈ps,sp x.block=true) →
   DataW.TrodAll enc P W 0 (fun _=>true) true ts vs ds ps→DataW.TrodAll enc P W' 0 sp true ts vs ds ps
 | [],_,_,_,_,_,_,h=>by
  obtain⟨rfl,rfl,rfl⟩:=trodAll_nil h
  rfl
 | t :: ts,_,_,_,ok,low,mark,h=>by
  obtain⟨v,vs,d,ds,p,q,rfl,rfl,rfl,h1,h2⟩:=trodAll_cons h
  refine⟨p,q,?_,?_,rfl⟩
  ·exact WideElems.Trod_stays laid (ok t (by simp)).1 (ok t (by simp)).2 h1 (fun x m=>old.same (low x (by simp [m]))) (fun x m=>mark x (by simp [m]))
  ·exact nR laid old (fun u m=>ok u (by simp [m])) (fun x m=>low x (by simp [m])) (fun x m=>mark x (by simp [m])) h2
theorem vJ {f:Func} {s:ChangeSpec} {apart fresh handsOn again:Bool} {W W':World} {args:Array Value} {ds gs:List (DataW H)} {before:List MemPlace} {tb:TypeId}
  (laid:laidOutB P=true) (ok:∀ t∈f.params.toList,P.readableRec t=true∧t<P.types.size) (nv:s.vars=[]) (rt:f.resultTypes=#[tb]) (ut:P.underlying tb=some .bool)
  (whole:DataW.Whole enc P f.params.toList s.vars apart W args.toList ds gs before) (old:Below W.heap.size W W')
  (yes:(s.fn H (ds++gs)).results=[.lit (.bool true)]) (same:(s.fn H (ds++gs)).args=ds) (vars:(s.fn H (ds++gs)).vars=[]) :
  s.post enc P f apart fresh handsOn again W args (.bool true) W':=by
 have low:∀ x∈before,x.block<W.heap.size:=fun x m=>whole.lt x m
 obtain⟨p,q,hA,hV,hb,_,_⟩:=id whole
 have hV':DataW.TrodVars enc P W (fun _=>true) [] gs q:=by rw [← nv];exact hV
 obtain⟨rfl,rfl⟩:=trodVars_none hV'
 rw [List.append_nil] at hb
 subst hb
 refine Bw (pa:=before) (pv:=[]) whole (by simp) old (fun _ _ _=>?_) (fun sp mark=>?_) (fun sp _=>?_) ?_
 ·rw [yes,rt]
  exact trodAll_mk1 (shut_bool ut _)
 ·rw [same]
  exact nR laid old ok low mark hA
 ·rw [vars,nv]
  rfl
 ·exact ok_one rt rfl (okWide_bool_mk ut _)
end
open Go.ChangeShapes Go.WideShapes Go.ChangeAt Go.RowKit Go.Deep
theorem wf_u64 {k:Int} (h:(Lit.int .u64 k).wf=true):0≤k∧k<18446744073709551616:=by
 unfold Lit.wf at h
 simp only [Bool.and_eq_true,decide_eq_true_eq] at h
 have a:IntKind.u64.min=0:=by decide +kernel
 have b:IntKind.u64.max=18446744073709551615:=by decide +kernel
 rw [a,b] at h;omega
section
variable {H : Type} {enc : TypeId × Value → H} {P : Program} {w : World} {base : Nat} {sp : Nat → Bool} {held : Bool}
theorem Dq {t e:TypeId} {kd:IntKind} {fuel:Nat} {v:Value} {x:DataW H × List MemPlace} (ht:P.underlying t=some (.slice e)) (he:P.underlying e=some (.int kd)) (hc:P.cellsOf e=1)
  (h:DataW.trod enc P w base sp held fuel t [v]=some x):∃ (A:Option Addr) (c:Nat) (ns:List Int),v=.slice A ns.length c∧ns.length≤c∧c≤maxLen∧(∀ n∈ns,(Lit.int kd n).wf=true)∧au w w.heap.size 0 A (ns.map (Value.int kd)):=by
 rcases open_ints ht he hc h with⟨hcs,_⟩ | ⟨a,len,cap,zs,hcs,_,hl,hm,hz,_,hcell,hwf⟩
 ·simp at hcs
  subst hcs
  exact⟨none,0,[],rfl,Nat.le_refl _,Nat.zero_le _,by simp,au.nil⟩
 ·simp at hcs
  subst hcs
  have hlen:len≤zs.length:=by rw [hz];split <;> omega
  have e1:(zs.take len).length=len:=by rw [List.length_take];omega
  refine⟨some a,cap,zs.take len,by rw [e1],by omega,hm,fun n hn=>hwf n (List.mem_of_mem_take hn),fun hne=>?_⟩
  have cells:∀ j u,((zs.take len).map (Value.int kd))[j]?=some u→w.cell? (a.add j)=some u:=by
   intro j u hu
   rw [List.getElem?_map,List.getElem?_take] at hu
   split at hu
   ·rename_i hj
    rw [hcell j (by omega)]
    rw [List.getElem?_eq_getElem (by omega)] at hu
    simp only [Option.map_some,Option.some.injEq] at hu
    rw [← hu,List.getD_eq_getElem?_getD,List.getElem?_eq_getElem (by omega)]
    rfl
   ·simp at hu
  refine⟨a,rfl,.inl ?_,cells⟩
  obtain⟨u,hu⟩:∃ u,((zs.take len).map (Value.int kd))[0]?=some u:=by
   cases hq:(zs.take len).map (Value.int kd) with
   | nil=>exact absurd hq hne
   | cons u _=>exact⟨u,rfl⟩
  have:=World.block_lt_of_cell? _ _ (cells 0 u hu)
  rwa [iK] at this
end
section
variable {H : Type} {enc : TypeId × Value → H} {w : World} {base : Nat}
end
open Go.ChangeShapes Go.WideShapes Go.ChangeAt Go.RowKit
theorem Tryz.laidOut2:laidOutB prog=true:=by kernel_rfl
theorem Tryz.own2:ownKnob prog.godebug=none:=by kernel_rfl
theorem ru {H:Type} {enc:TypeId × Value→H} {P:Program} {w:World} {base:Nat} {sp:Nat→Bool} {held:Bool} {t0 t1 t2 t3 t4:TypeId} {args:Array Value} {ds:List (DataW H)} {ps:List MemPlace}
  (h:DataW.TrodAll enc P w base sp held [t0,t1,t2,t3,t4] args.toList ds ps) :
  ∃ v0 v1 v2 v3 v4 d0 d1 d2 d3 d4 p0 p1 p2 p3 p4,args=#[v0,v1,v2,v3,v4]∧ds=[d0,d1,d2,d3,d4]∧ps=p0++(p1++p2++p3++p4) ∧
   DataW.Trod enc P w base sp held t0 v0 d0 p0∧DataW.Trod enc P w base sp held t1 v1 d1 p1∧DataW.Trod enc P w base sp held t2 v2 d2 p2∧DataW.Trod enc P w base sp held t3 v3 d3 p3∧DataW.Trod enc P w base sp held t4 v4 d4 p4:=by
 obtain⟨v0,vs,d0,ds1,p0,q0,ha,rfl,rfl,h0,hr⟩:=trodAll_cons h
 obtain⟨v1,v2,v3,v4,d1,d2,d3,d4,p1,p2,p3,p4,e,rfl,rfl,h1,h2,h3,h4⟩:=trodAll_four (args:=vs.toArray) (by simpa using hr)
 have e2:vs=[v1,v2,v3,v4]:=by simpa using congrArg Array.toList e
 subst e2
 exact⟨v0,v1,v2,v3,v4,d0,d1,d2,d3,d4,p0,p1,p2,p3,p4,by cases args;simp_all,rfl,rfl,h0,h1,h2,h3,h4⟩
theorem sU {H:Type} {enc:TypeId × Value→H} {P:Program} {w:World} {base:Nat} {sp:Nat→Bool} {held:Bool} {t0 t1 t2 t3 t4 t5:TypeId} {args:Array Value} {ds:List (DataW H)} {ps:List MemPlace}
  (h:DataW.TrodAll enc P w base sp held [t0,t1,t2,t3,t4,t5] args.toList ds ps) :
  ∃ v0 v1 v2 v3 v4 v5 d0 d1 d2 d3 d4 d5 p0 p1 p2 p3 p4 p5,args=#[v0,v1,v2,v3,v4,v5]∧ds=[d0,d1,d2,d3,d4,d5]∧ps=p0++(p1++(p2++p3++p4++p5)) ∧
   DataW.Trod enc P w base sp held t0 v0 d0 p0∧DataW.Trod enc P w base sp held t1 v1 d1 p1∧DataW.Trod enc P w base sp held t2 v2 d2 p2∧DataW.Trod enc P w base sp held t3 v3 d3 p3∧DataW.Trod enc P w base sp held t4 v4 d4 p4∧DataW.Trod enc P w base sp held t5 v5 d5 p5:=by
 obtain⟨v0,vs,d0,ds1,p0,q0,ha,rfl,rfl,h0,hr⟩:=trodAll_cons h
 obtain⟨v1,v2,v3,v4,v5,d1,d2,d3,d4,d5,p1,p2,p3,p4,p5,e,rfl,rfl,h1,h2,h3,h4,h5⟩:=ru (args:=vs.toArray) (by simpa using hr)
 have e2:vs=[v1,v2,v3,v4,v5]:=by simpa using congrArg Array.toList e
 subst e2
 exact⟨v0,v1,v2,v3,v4,v5,d0,d1,d2,d3,d4,d5,p0,p1,p2,p3,p4,p5,by cases args;simp_all,rfl,rfl,h0,h1,h2,h3,h4,h5⟩
open Go.ChangeShapes Go.WideShapes Go.ChangeAt Go.RowKit Go.Deep
section
variable {H : Type} {enc : TypeId × Value → H} {P : Program} {w : World} {base : Nat} {sp : Nat → Bool} {held : Bool}
end
section
variable {H : Type} {enc : TypeId × Value → H} {w : World} {base : Nat}
end
end
section
open Go.ChangeShapes Go.WideShapes Go.ChangeAt Go.RowKit Go.Deep
variable {w : World}
theorem l8 {α:Type} [Inhabited α] {E:α→List Value} {k:Nat} (hk:0<k) (hE:∀ x,(E x).length=k) {p:α→Prop} {a:Addr} {len:Nat} (each:∀ i,i<len→∃ q:α,(∀ j u,(E q)[j]?=some u→w.cell? (a.add (i * k+j))=some u)∧p q) :
  ∃ qs:List α,qs.length=len∧au w w.heap.size 0 (some a) (qs.flatMap E)∧∀ q∈qs,p q:=by
 obtain⟨Q,hQ⟩:=choose_lt (α:=α) (p:=fun i q=>(∀ j u,(E q)[j]?=some u→w.cell? (a.add (i * k+j))=some u)∧p q) each
 refine⟨(List.range len).map Q,by simp,fun hne=>?_,?_⟩
 ·have cells:∀ j u,(((List.range len).map Q).flatMap E)[j]?=some u→w.cell? (a.add j)=some u:=by
   intro j u hu
   have hfl:(((List.range len).map Q).flatMap E).length=((List.range len).map Q).length * k:=jb fun x _=>hE x
   rw [List.length_map,List.length_range] at hfl
   have hj:j<len * k:=by
    rcases Nat.lt_or_ge j (((List.range len).map Q).flatMap E).length with z | z
    ·omega
    ·rw [List.getElem?_eq_none z] at hu;cases hu
   have hd:j / k<len:=(Nat.div_lt_iff_lt_mul hk).2 hj
   have hm:j % k<k:=Nat.mod_lt _ hk
   have hjk:j / k * k+j % k=j:=by rw [Nat.mul_comm];exact Nat.div_add_mod j k
   have e:((List.range len).map Q)[j / k]?=some (Q (j / k)):=by simp [hd]
   have f:=ig (f:=E) (size:=k) (l:=(List.range len).map Q) (fun x _=>hE x) e (j:=j % k) hm
   rw [hjk] at f
   rw [f] at hu
   have:=(hQ (j / k) hd).1 (j % k) u hu
   rwa [hjk] at this
  refine⟨a,rfl,.inl ?_,cells⟩
  obtain⟨u,hu⟩:∃ u,(((List.range len).map Q).flatMap E)[0]?=some u:=by
   cases hq:((List.range len).map Q).flatMap E with
   | nil=>exact absurd hq hne
   | cons u _=>exact⟨u,rfl⟩
  have:=World.block_lt_of_cell? _ _ (cells 0 u hu)
  rwa [iK] at this
 ·intro q hq
  obtain⟨i,hi2,rfl⟩:=List.mem_map.1 hq
  exact (hQ i (List.mem_range.1 hi2)).2
end
section
section
open Go.ChangeShapes Go.WideShapes Go.ChangeAt Go.RowKit Go.Deep Go.Lib
structure La where
 who:Nat
 id:Nat
instance:Inhabited La:=⟨⟨0,0⟩⟩
theorem La.jG {a b:La}:a=b↔a.who=b.who∧a.id=b.id:=by cases a;cases b;simp
instance:DecidableEq La:=fun _ _=>decidable_of_iff _ La.jG.symm
def encA (x:La):List Value:=[.int .u64 (x.who:Int),.int .u64 (x.id:Int)]
def Ja (xs:List La):List Value:=xs.flatMap encA
theorem Al (x:La):(encA x).length=2:=rfl
theorem Da (xs:List La):(Ja xs).length=xs.length * 2:=jb fun x _=>Al x
def AL (w:World) (A:Option Addr) (xs:List La):Prop:=au w w.heap.size 0 A (Ja xs)
section
variable {w w' : World} {A : Option Addr} {xs : List La}
theorem AL.nil:AL w A []:=au.nil
theorem AL.at_ (h:AL w A xs) {k:Nat} (hk:k<xs.length):∃ ad x,A=some ad∧xs[k]?=some x∧w.cell? (ad.add (k * 2))=some (.int .u64 (x.who:Int))∧w.cell? ⟨(ad.add (k * 2)).block,(ad.add (k * 2)).off+1,none⟩=some (.int .u64 (x.id:Int)):=by
 have hx:xs[k]?=some xs[k]:=List.getElem?_eq_getElem hk
 obtain⟨ad,e,_,hc⟩:=h (fun q=>by have:=Da xs;rw [q] at this;simp at this;omega)
 have c:∀ j u,j<2→(encA xs[k])[j]?=some u→w.cell? ((ad.add (k * 2)).add j)=some u:=fun j u hj hu=>by
  rw [addr_add]
  exact hc _ _ ((ig (f:=encA) (size:=2) (fun l _=>Al l) hx hj).trans hu)
 exact⟨ad,xs[k],e,hx,c 0 _ (by omega) rfl,c 1 _ (by omega) rfl⟩
end
end
section
open Go.ChangeShapes Go.WideShapes Go.ChangeAt Go.RowKit Go.Deep Go.Lib
variable {H : Type} {enc : TypeId × Value → H} {w : World} {base : Nat}
theorem Tryz.one9u:prog.cellsOf 22=1:=by kernel_rfl
end
section
open Go.RowKit Go.Lib
end
end
section
open Go.RowKit
namespace Fl
def addO (o:Option Nat) (x:Nat):Option Nat:=o.bind fun t=>floatBits .add .f64 t x
def sumO (B:Nat→Nat):Nat→Option Nat
 | 0=>some 0
 | k+1=>if dz (B k)=true then sumO B k else addO (sumO B k) (B k)
def Rel (o:Option Nat) (t:Nat):Prop:=(∃ r,o=some r∧t=r)∨(o=none∧dz t=true)
def canonO (o:Option Nat):Nat:=match o with | some r=>canon r | none=>iF
theorem Rel.canon {o:Option Nat} {t:Nat} (h:Rel o t):Fl.canon t=canonO o:=by
 rcases h with⟨r,rfl,rfl⟩ | ⟨rfl,h⟩
 ·rfl
 ·exact rQ h
theorem add_nan {t:Nat} (h:dz t=true) (x:Nat):floatBits .add .f64 t x=none:=by
 obtain⟨n,u,e⟩:=vL FloatKind.f64.format t yE (by rw [qy,rW];exact of_decide_eq_true h)
 show FloatKind.f64.format.add t x=none
 unfold Ieee.Format.add
 rw [e];rfl
theorem Rel.some {o:Option Nat} {t x r:Nat} (h:Rel o t) (e:floatBits .add .f64 t x=some r):Rel (addO o x) r:=by
 rcases h with⟨q,rfl,rfl⟩ | ⟨rfl,h⟩
 ·exact Or.inl ⟨r,e,rfl⟩
 ·rw [add_nan h] at e;cases e
theorem Rel.none {o:Option Nat} {t x r:Nat} (h:Rel o t) (e:floatBits .add .f64 t x=none) (hr:dz r=true):Rel (addO o x) r:=by
 rcases h with⟨q,rfl,rfl⟩ | ⟨rfl,h⟩
 ·exact Or.inr ⟨e,hr⟩
 ·exact Or.inr ⟨rfl,hr⟩
end Fl
@[go_sem] theorem cls_ne (b : Nat) : (Fl.wQ b != 0) = !Fl.dz b := by rw [bne, Fl.qp]
namespace Fl
def ahead (up:Bool) (x y:Nat):Bool:=if up=true then lt y x else lt x y
def Gl (up:Bool) (B:Nat→Nat):Nat→Nat
 | 0=>iF
 | k+1=>if dz (B k)=true then Gl up B k else if dz (Gl up B k)=true∨ahead up (B k) (Gl up B k)=true then B k else Gl up B k
end Fl
theorem KH (w:World) :
  Calls prog 90 #[] w fun e w'=>e=.returned (.float .f64 Fl.iF)∧w=w':=by
 go_enter func90,ntmps90
 go_wp2_with fail
 go_ret
 exact⟨rfl,rfl⟩
theorem vO (a:Option Addr) (cap:Nat) (B:Nat→Nat) (w:World) :
  Calls prog 70 #[.slice a 0 cap] w fun e w'=>e=.returned (.float .f64 (Fl.canon (Fl.Gl false B 0)))∧w=w':=by
 go_enter func70,ntmps70
 go_wp2_with (first
    | (go_at_call 90;refine (KH _).mono ?_;rintro e w' ⟨rfl,rfl⟩)
    | (go_at_call 55;refine (iO _ _).mono ?_;rintro e w' ⟨rfl,rfl⟩))
 refine wp_loop_rounds 1 ?_
 rw [rounds_succ]
 go_wp2_with (first
    | (go_at_call 90;refine (KH _).mono ?_;rintro e w' ⟨rfl,rfl⟩)
    | (go_at_call 55;refine (iO _ _).mono ?_;rintro e w' ⟨rfl,rfl⟩))
 go_ret
 exact⟨rfl,rfl⟩
end
section
section
open Go.RowKit Go.Shelf Go.Lib
variable {P : Program} {α : Type} {n : Nat}
def end14 (l D:Nat) (W0:World) (G Y:World→Prop):Exit→Act→World→Prop
 | .normal,_,W=>(W.heap[l]?=W0.heap[l]?∧W.heap[D]?=W0.heap[D]?)∧G W
 | .ret,_,W=>(W.heap[l]?=W0.heap[l]?∧W.heap[D]?=W0.heap[D]?)∧Y W
 | _,_,_=>False
def mid14 (l D:Nat) (W0:World) (G:Act→World→Prop) (a:Act) (W:World):Prop:=(W.heap[l]?=W0.heap[l]?∧W.heap[D]?=W0.heap[D]?)∧G a W
abbrev fZ (fn:FuncId) (tm:Array Value) (ps:Array Tmp) (assign body:Code) (D:Nat) (st:LoopState) (pe:Option Code):Loop :=
 { state:=st,pending:=pe,fn:=fn,tmps:=tm,params:=ps,assign:=assign,body:=body,defers:=D }
theorem round14 {ps:Array Tmp} {assign body:Code} {tm xv:Array Value} {fn:FuncId} {l D:Nat} (hlD:D≠l) (hfn:Fence.wide.fn fn) (hxs:xv.size=ps.size) {W:World}
  (hl:W.heap[l]?=some (.loop (fZ fn tm ps assign body D .ready none))) {M:Act→World→Prop} {G Y:World→Prop}
  (hassign:assign.wpIn (Fence.wide.inRound l) n P (Exit.then (mid14 l D W M) (fun _ _ _=>False)) { tmps:=(ps.zip xv).foldl (fun t (p,v)=>t.setIfInBounds p v) tm,defers:=[] } W)
  (hbody:∀ a1 W1,W1.heap[l]?=some (.loop (fZ fn tm ps assign body D .ready none))→W1.heap[D]?=W.heap[D]?→M a1 W1 →
   body.wpIn (Fence.wide.inRound l) n P (end14 l D (W1.putObj l (.loop (fZ fn tm ps assign body D .busy none))) G Y) a1 (W1.putObj l (.loop (fZ fn tm ps assign body D .busy none)))) :
  YieldAt Fence.wide n P l xv W fun e W' =>
   (e=.returned (.bool true)∧∃ W3,G W3∧W'=W3.putObj l (.loop (fZ fn tm ps assign body D .ready none))∧W3.heap[l]?=some (.loop (fZ fn tm ps assign body D .busy none))∧W3.heap[D]?=W.heap[D]?) ∨
   (e=.returned (.bool false)∧∃ W3,Y W3∧W'=W3.putObj l (.loop (fZ fn tm ps assign body D .done (some .ret)))∧W3.heap[l]?=some (.loop (fZ fn tm ps assign body D .busy none))∧W3.heap[D]?=W.heap[D]?):=by
 refine⟨fn,_,assign,body,run_yield hl hxs,roundIn_of_wpIn hfn (wpIn_mono hassign ?_)⟩
 intro e a1 W1 hm
 cases e with
 | normal =>
  obtain⟨⟨h1,h2⟩,hM⟩:=hm
  have hl1:=h1.trans hl
  have hb:(W1.putObj l (.loop (fZ fn tm ps assign body D .busy none))).heap[l]?=some (.loop (fZ fn tm ps assign body D .busy none)):=World.putObj_heap_same (Array.getElem?_eq_some_iff.1 hl1).1
  have hd:(W1.putObj l (.loop (fZ fn tm ps assign body D .busy none))).heap[D]?=W.heap[D]?:=(World.putObj_heap_other hlD).trans h2
  refine⟨_,run_beginRound hl1 rfl,wpIn_mono (hbody a1 W1 hl1 h2 hM) ?_⟩
  intro e a3 W3 hp
  cases e with
  | normal =>
   obtain⟨⟨g1,g2⟩,g3⟩:=hp
   have q:=g1.trans hb
   exact⟨_,_,run_endRound none q,.inl ⟨rfl,W3,g3,rfl,q,g2.trans hd⟩⟩
  | ret =>
   obtain⟨⟨g1,g2⟩,g3⟩:=hp
   have q:=g1.trans hb
   exact⟨_,_,run_endRound (some .ret) q,.inr ⟨rfl,W3,g3,rfl,q,g2.trans hd⟩⟩
  | _=>exact hp.elim
 | _=>exact hm.elim
theorem xV {B:Nat} {W:World} {l:Nat} {r:Loop} (o:Obj) (hl:W.heap[l]?=some (.loop r)) (hB:B≤l):aM B [] W (W.putObj l o) :=
 ⟨⟨rfl,rfl,rfl,by simp,fun k hk=>World.putObj_heap_other (by omega)⟩,fun k cs t fr hk _=>World.putObj_heap_other (fun e=>by subst e;rw [hl] at hk;cases hk)⟩
theorem EI {B:Nat} {W:World} {l:Nat} {r:Option (List Deferred)} (o:Obj) (hl:W.heap[l]?=some (.deferred r)) (hB:B≤l):aM B [] W (W.putObj l o) :=
 ⟨⟨rfl,rfl,rfl,by simp,fun k hk=>World.putObj_heap_other (by omega)⟩,fun k cs t fr hk _=>World.putObj_heap_other (fun e=>by subst e;rw [hl] at hk;cases hk)⟩
def EX (n:Nat) (P:Program) (g:Nat) (lb:Array Value) (encs:α→Array Value) (St Kp Kx:Nat→World→World→Prop) (Pre:Nat→α→World→Prop) (S Sp:List α→Prop) (N:Nat) (W:World):Prop :=
 ∀ (l:Nat) (J Jx:List α→World→Prop),(∀ pre A A',J pre A→St W.heap.size A A'→J pre A')→(∀ pre A A',Jx pre A→St W.heap.size A A'→Jx pre A') →
  (∀ pre x W1,J pre W1→pre.length<N→Sp (pre++[x])→Pre W.heap.size x W1→W.heap.size≤W1.heap.size→YieldAt Fence.wide (n - 1) P l (encs x) W1 fun e W'=>(e=.returned (.bool true)∧J (pre++[x]) W'∧Kp W.heap.size W1 W')∨(e=.returned (.bool false)∧Jx (pre++[x]) W'∧Kx W.heap.size W1 W')) →
  J [] W →
  CallsIn Fence.wide n P g (#[.func (.yield l) #[] #[]]++lb) W fun e W'=>(∃ v,e=.returned v)∧((∃ xs,S xs∧J xs W')∨(∃ pre,Sp pre∧Jx pre W'))
theorem range14 {g:Operand} {ps:Array Tmp} {assign body:Code} {Q:Exit→Act→World→Prop} {a:Act} {w:World} (h1:1≤n)
  {gf:Nat} {lb:Array Value} (hg:a.eval g=.func (.func gf) #[] lb) (eg:∀ args w,(callFunc gf args).run P w=.ok (.enter gf args) w)
  {encs:α→Array Value} {St Kp Kx:Nat→World→World→Prop} {Pre:Nat→α→World→Prop} {S Sp:List α→Prop} {N:Nat}
  (hseq:∀ W,Below w.heap.size w W→W.heap.size=w.heap.size+2→EX (n - 1) P gf lb encs St Kp Kx Pre S Sp N W) (hps:∀ x,(encs x).size=ps.size)
  (hSt:∀ {B:Nat} {A A':World},St B A A'→Below B A A')
  (hKt:∀ {A B C:World},Kp (w.heap.size+2) A B→Kp (w.heap.size+2) B C→Kp (w.heap.size+2) A C)
  (hKb:∀ {A:World} {r:Loop} (o:Obj),A.heap[w.heap.size+1]?=some (.loop r)→Kp (w.heap.size+2) A (A.putObj (w.heap.size+1) o))
  (hKx:∀ {A B C:World},Kp (w.heap.size+2) A B→Kx (w.heap.size+2) B C→Kx (w.heap.size+2) A C)
  (hKy:∀ {A B:World} {r:Loop} (o:Obj),Kx (w.heap.size+2) A B→B.heap[w.heap.size+1]?=some (.loop r)→Kx (w.heap.size+2) A (B.putObj (w.heap.size+1) o))
  (I X:List α→World→Prop) (hI:∀ pre A A',I pre A→aM w.heap.size [] A A'→I pre A') (hX:∀ pre A A',X pre A→aM w.heap.size [] A A'→X pre A')
  (hIs:∀ pre A A',I pre A→St (w.heap.size+2) A A'→I pre A') (hXs:∀ pre A A',X pre A→St (w.heap.size+2) A A'→X pre A')
  (h0:I [] w) (a₁:α→Nat→Act) (M:List α→α→Nat→World→Prop) (hM:∀ pre x b A A',M pre x b A→aM w.heap.size [] A A'→M pre x b A')
  (hassign:∀ (pre:List α) (x:α) (W:World),I pre W→Pre (w.heap.size+2) x W→pre.length<N→w.heap.size+1<W.heap.size →
   assign.wpIn (Fence.wide.inRound (w.heap.size+1)) (n - 1 - 1) P (Exit.then (mid14 (w.heap.size+1) w.heap.size W (fun a' W'=>Kp (w.heap.size+2) W W'∧∃ b,a'=a₁ x b∧M pre x b W')) (fun _ _ _=>False)) { tmps:=(ps.zip (encs x)).foldl (fun t (p,v)=>t.setIfInBounds p v) a.tmps,defers:=[] } W)
  (hbody:∀ (pre:List α) (x:α) (b:Nat) (W:World),M pre x b W→pre.length<N→Sp (pre++[x])→w.heap.size+1<W.heap.size→(∀ cs t fr,W.heap[w.heap.size]?≠some (.cells cs t fr))→(∀ cs t fr,W.heap[w.heap.size+1]?≠some (.cells cs t fr)) →
   body.wpIn (Fence.wide.inRound (w.heap.size+1)) (n - 1 - 1) P (end14 (w.heap.size+1) w.heap.size W (fun W'=>Kp (w.heap.size+2) W W'∧I (pre++[x]) W') (fun W'=>Kx (w.heap.size+2) W W'∧X (pre++[x]) W')) (a₁ x b) W)
  (hdone:∀ (xs:List α) (W:World),S xs→I xs W→W.heap[w.heap.size]?=some (.deferred (some []))→Q .normal { a with defers:={ target:=.collected w.heap.size,args:=#[] } :: a.defers } W)
  (hstop:∀ (pre:List α) (W:World),Sp pre→X pre W→W.heap[w.heap.size]?=some (.deferred (some []))→Code.ret.wpIn Fence.wide n P Q { a with defers:={ target:=.collected w.heap.size,args:=#[] } :: a.defers } W) :
  (Code.rangeFunc g ps assign body).wpIn Fence.wide n P Q a w:=by
 refine wpIn_rangeFunc fun fn hfn=>?_
 rw [show Fence.wide.round=none from rfl]
 obtain⟨l,hl⟩:∃ l,l=w.heap.size+1:=⟨_,rfl⟩
 obtain⟨W1,hW1⟩:=nm ((w.alloc (.deferred (some []))).alloc (.loop (fZ fn a.tmps ps assign body w.heap.size .ready none)))
 have b1:Below w.heap.size w W1:=by rw [← hW1];exact ((Below.refl _ w).alloc (Nat.le_refl _) _).alloc (by simp) _
 have z1:W1.heap.size=w.heap.size+2:=by rw [← hW1];simp
 have rl:W1.heap[l]?=some (.loop (fZ fn a.tmps ps assign body w.heap.size .ready none)):=by
  rw [← hW1,hl]
  have:=World.alloc_heap_new (w.alloc (.deferred (some []))) (.loop (fZ fn a.tmps ps assign body w.heap.size .ready none))
  rwa [World.size_alloc] at this
 have rd:W1.heap[w.heap.size]?=some (.deferred (some [])):=by
  rw [← hW1]
  exact (Below.heap_alloc _ _ _ (by simp)).trans (World.alloc_heap_new w _)
 refine⟨l,[{ target:=.collected w.heap.size,args:=#[] }],W1,{ target:=.fn (.func gf) lb,args:=#[.func (.yield l) #[] #[]] },W1,gf,#[.func (.yield l) #[] #[]]++lb,W1,?_,?_,?_,?_,fun _=>h1,?_⟩
 ·rw [hl,← hW1]
  exact run_enterLoop_outer _ _ _ _ _
 ·simp only [resolve,hg]
  simp [go_sem]
 ·intro f' _
  exact trivial
 ·simp [invoke,go_sem,eg]
 have put:∀ {A:World} {r:Loop} (o:Obj),A.heap[l]?=some (.loop r)→aM w.heap.size [] A (A.putObj l o):=fun o h=>xV o h (by omega)
 have hq:=hseq W1 b1 z1
 unfold EX at hq
 rw [z1] at hq
 refine (hq l (fun pre W=>I pre W∧W.heap[l]?=some (.loop (fZ fn a.tmps ps assign body w.heap.size .ready none))∧W.heap[w.heap.size]?=some (.deferred (some [])))
  (fun pre W=>X pre W∧W.heap[l]?=some (.loop (fZ fn a.tmps ps assign body w.heap.size .done (some .ret)))∧W.heap[w.heap.size]?=some (.deferred (some []))) ?_ ?_ ?_ ⟨hI _ _ _ h0 (aM.of_below b1 (Nat.le_refl _) _),rl,rd⟩).mono ?_
 ·rintro pre A A' ⟨h2,h3,h4⟩ hs
  exact⟨hIs _ _ _ h2 hs,((hSt hs).block l (by omega)).trans h3,((hSt hs).block _ (by omega)).trans h4⟩
 ·rintro pre A A' ⟨h2,h3,h4⟩ hs
  exact⟨hXs _ _ _ h2 hs,((hSt hs).block l (by omega)).trans h3,((hSt hs).block _ (by omega)).trans h4⟩
 ·rintro pre x W ⟨h2,h3,h4⟩ hpn hsp hx hzW
  have s3:=(Array.getElem?_eq_some_iff.1 h3).1
  rw [hl] at h3
  have hR:=round14 (n:=n - 1 - 1) (P:=P) (xv:=encs x) (D:=w.heap.size) (by omega) hfn (hps x) h3 (M:=fun a' W'=>Kp (w.heap.size+2) W W'∧∃ b,a'=a₁ x b∧M pre x b W')
   (G:=fun W'=>Kp (w.heap.size+2) W W'∧I (pre++[x]) W') (Y:=fun W'=>Kx (w.heap.size+2) W W'∧X (pre++[x]) W') (hassign pre x W h2 hx hpn (by omega)) ?_
  ·obtain⟨fn',tm',as',bo',hy,hR'⟩:=hR
   rw [hl]
   refine⟨fn',tm',as',bo',hy,hR'.mono ?_⟩
   rw [hl] at put
   rintro e W' (⟨rfl,W3,⟨g1,g2⟩,rfl,g3,g4⟩ | ⟨rfl,W3,⟨g0,g1⟩,rfl,g3,g4⟩)
   ·have T3:=put (.loop (fZ fn a.tmps ps assign body w.heap.size .ready none)) g3
    have s5:=(Array.getElem?_eq_some_iff.1 g3).1
    exact .inl ⟨rfl,⟨hI _ _ _ g2 T3,World.putObj_heap_same s5,(World.putObj_heap_other (by omega)).trans (g4.trans h4)⟩,hKt g1 (hKb _ g3)⟩
   ·have T3:=put (.loop (fZ fn a.tmps ps assign body w.heap.size .done (some .ret))) g3
    have s5:=(Array.getElem?_eq_some_iff.1 g3).1
    exact .inr ⟨rfl,⟨hX _ _ _ g1 T3,World.putObj_heap_same s5,(World.putObj_heap_other (by omega)).trans (g4.trans h4)⟩,hKy _ g0 g3⟩
  ·rintro _ W' hl' hd' ⟨m1,b,rfl,m3⟩
   rw [hl] at put
   have T:=put (.loop (fZ fn a.tmps ps assign body w.heap.size .busy none)) hl'
   have s5:=(Array.getElem?_eq_some_iff.1 hl').1
   have d2:(W'.putObj (w.heap.size+1) (.loop (fZ fn a.tmps ps assign body w.heap.size .busy none))).heap[w.heap.size]?=some (.deferred (some [])):=(World.putObj_heap_other (by omega)).trans (hd'.trans h4)
   have d3:(W'.putObj (w.heap.size+1) (.loop (fZ fn a.tmps ps assign body w.heap.size .busy none))).heap[w.heap.size+1]?=some (.loop (fZ fn a.tmps ps assign body w.heap.size .busy none)):=World.putObj_heap_same s5
   refine wpIn_mono (hbody pre x b (W'.putObj (w.heap.size+1) (.loop (fZ fn a.tmps ps assign body w.heap.size .busy none))) (hM _ _ _ _ _ m3 T) hpn hsp (by rw [World.putObj_size];omega) (fun cs t fr e=>by rw [d2] at e;cases e) (fun cs t fr e=>by rw [d3] at e;cases e)) ?_
   intro e a3 W3 hp
   cases e with
   | normal=>exact⟨hp.1,hKt m1 (hKt (hKb _ hl') hp.2.1),hp.2.2⟩
   | ret=>exact⟨hp.1,hKx m1 (hKx (hKb _ hl') hp.2.1),hp.2.2⟩
   | _=>exact hp.elim
 ·rintro e W2 ⟨⟨v,rfl⟩,(⟨xs,hs,hi,g3,g4⟩ | ⟨pre,hp,hx,g3,g4⟩)⟩
  ·have T3:=put (.loop (fZ fn a.tmps ps assign body w.heap.size .exhausted none)) g3
   exact⟨none,_,run_endLoop g3 (by simp),hdone xs _ hs (hI _ _ _ hi T3) ((World.putObj_heap_other (by omega)).trans g4)⟩
  ·have T3:=put (.loop (fZ fn a.tmps ps assign body w.heap.size .exhausted (some .ret))) g3
   exact⟨some .ret,_,run_endLoop g3 (by simp),hstop pre _ hp (hX _ _ _ hx T3) ((World.putObj_heap_other (by omega)).trans g4)⟩
end
section
open Go.RowKit Go.Lib
def iR (ops:Array Oper):Bool:=ops.all fun o=>match o.op with | .defer _=>false | _=>true
theorem lZ {ops:Array Oper} (h:iR ops=true) {i:Nat} {o:Oper} (hi:ops[i]?=some o) (c:Call):o.op≠.defer c:=by
 intro e
 obtain⟨h1,h2⟩:=Array.getElem?_eq_some_iff.1 hi
 have q:=(Array.all_eq_true.1 h) i h1
 rw [h2,e] at q
 cases q
theorem zw {P:Program} {row:String} {args:Array Value} {w:World} {R:Value→World→Prop} {l n:Nat} (h:Rows P row args w R):RowsIn (Fence.wide.inRound l) n P row args w R:=fun c cs _=>by
 obtain⟨v,w',r,s⟩:=h c cs
 exact⟨v,w',r,stepsIn_wide.2 s⟩
theorem kI {P:Program} {o:Oper} {a:Act} {w:World} {K:Act→World→Prop} {Q:Exit→Act→World→Prop} {l n:Nat} (hd:∀ c,o.op≠.defer c) (h:o.wp P a w K Q):o.wpIn (Fence.wide.inRound l) n P a w K Q:=by
 refine⟨fun _ _=>trivial,?_⟩
 rw [Oper.semAt_eq _ _ _ hd]
 unfold Oper.wp at h
 generalize (execOp a.eval o).run P w=r at h ⊢
 cases r with
 | ok x w' =>
  cases x with
  | value v=>exact h
  | skip=>exact h
  | defer d=>exact h
  | enter f args=>exact⟨fun e=>(by cases e),CallsIn.inRound l (callsIn_wide.2 h)⟩
  | row row args=>exact⟨fun e=>(by cases e),zw h⟩
  | _=>exact h.elim
 | halt x w' =>
  cases x with
  | panic v=>exact h
  | _=>exact h.elim
def postM14 (P:Program) (fn:Func) (R:Ending→World→Prop):Exit→Act→World→Prop
 | .normal,a,w | .ret,a,w=>LeavesInM Fence.wide 9 P fn a.tmps R a.defers .returning w
 | _,_,_=>False
theorem rO {P:Program} {f:FuncId} {fn:Func} {c:Code} {args:Array Value} {w:World} {R:Ending→World→Prop} (hf:P.funcs[f]?=some fn) (hb:fn.body=some c)
  (h:c.wp P (postM14 P fn R) { tmps:=args++Array.replicate (fn.ntmps - args.size) undef,defers:=[] } w):Calls P f args w R :=
 (callsIn_wide (n:=9)).1 (callsIn_of_wp_marks hf hb trivial (wpIn_wide.2 (wp_mono h fun e _ _ hq=>by
  cases e with
  | normal=>exact hq
  | ret=>exact hq
  | panic ch=>exact hq.elim
  | exit id=>exact hq.elim
  | goto l=>exact hq.elim
  | outgrown=>exact hq.elim)))
theorem lT {w:World} {g:Nat} {a:Value} {t:TypeId} {fr:Nat × Nat} (h:w.heap[g]?=some (.cells #[a] t fr)):w.cell? ⟨g,0,none⟩=some a:=by simp [World.cell?,h]
theorem keep14 {W W1:World} {o:Obj} {base:Nat} {e:TypeId} {size n:Nat} {v:Value} {xs:List Value} {k:Nat} (hnc:∀ cs t fr,W.heap[k]?≠some (.cells cs t fr)) (hk:k<W.heap.size) (hrow:W.ownsRow base e size v n xs) (hg:(W.alloc o).grownBy W1 v.ownBlock):W1.heap[k]?=W.heap[k]?:=by
 refine (hg.block k (by simp;omega) (fun q=>?_)).trans (Below.heap_alloc W o k hk)
 obtain⟨_,cs,fr,r⟩:=bM hrow k q.symm
 exact hnc _ _ _ r
end
end
section
section
open Go.RowKit Go.Lib
variable {F : Fence} {n : Nat} {P : Program} {ops : Array Oper} {Q : Exit → Act → World → Prop} {md : Region.Mode} {S : World → Prop} {st : Nat}
theorem sW {i:Nat} {o:Oper} {v:Value} {a:Act} (hF:∀ f,F.fn f) (hd:iR ops=true) (hi:ops[i]?=some o) (hy:YieldsIf P ops S o v a)
  {K:Act→World→Prop} {w:World} (hS:S w) (h:K (a.put o.dst v) w):wpOpIn F n P ops Q i K a w:=by
 unfold Go.wpOpIn
 simp only [hi]
 rcases hy with⟨hw,hv⟩ | ⟨hw,rfl⟩
 ·simp only [hw,if_true,Oper.wpIn]
  rw [Oper.semAt_eq _ _ _ (lZ hd hi)]
  simp only [hv w hS,Oper.uponIn]
  exact⟨fun f _=>hF f,h⟩
 ·simp only [hw,Bool.false_eq_true,if_false]
  exact⟨fun f _=>hF f,h⟩
theorem wI {j:Nat} {oi oj:Oper} {v:Value} (hF:∀ f,F.fn f) (hd:iR ops=true) (hj:ops[j]?=some oj) (hap:oi.apart ops oj=true)
  (hsi:∀ cs b,oi.op≠.select cs b) (hsj:∀ cs b,oj.op≠.select cs b)
  (hQ:∀ c a w,Q (.panic c) (a.put oi.dst v) w→Q (.panic c) a w) {K:Act→World→Prop} {a:Act} {w:World}
  (hy:YieldsIf P ops S oi v a) (h:wpOpIn F n P ops Q j K (a.put oi.dst v) w) :
  wpOpIn F n P ops Q j (fun a' w'=>YieldsIf P ops S oi v a'∧K (a'.put oi.dst v) w') a w:=by
 obtain⟨h1,h2,h3⟩:=Oper.apart_spec hap
 have nd:=lZ hd hj
 have keep:∀ (a:Act),YieldsIf P ops S oi v a→∀ u,YieldsIf P ops S oi v (a.put oj.dst u):=fun a hy u =>
  hy.of_same (execOp_put oi hsi a oj.dst u h3) (wanted_put oi a oj.dst u h3)
 have keepD:∀ d,YieldsIf P ops S oi v { a with defers:=d :: a.defers }:=fun d=>hy.of_same rfl rfl
 unfold wpOpIn at *
 simp only [hj] at *
 rw [wanted_put oj a oi.dst v h1] at h
 split
 ·rename_i hw
  simp only [hw,if_true] at h
  unfold Oper.wpIn at *
  refine⟨fun f _=>hF f,?_⟩
  have h:=h.2
  rw [Oper.semAt_eq _ _ _ nd,execOp_put oj hsj a oi.dst v h1] at h
  rw [Oper.semAt_eq _ _ _ nd]
  generalize (execOp a.eval oj).run P w=r at *
  cases r with
  | ok x w' =>
   cases x <;> simp only [Oper.uponIn] at h ⊢
   case value u=>exact⟨keep a hy u,by rw [← Act.put_comm a v u h2];exact h⟩
   case skip=>exact⟨keep a hy _,by rw [← Act.put_comm a v undef h2];exact h⟩
   case defer d =>
    refine⟨keep _ (keepD d) _,?_⟩
    rw [← Act.put_comm _ v undef h2,← Act.put_defers]
    exact h
   case enter f args =>
    refine⟨h.1,CallsIn.mono h.2 fun e w'' he=>?_⟩
    cases e with
    | returned u=>exact⟨keep a hy u,by rw [← Act.put_comm a v u h2];exact he⟩
    | panicked c=>exact hQ _ _ _ he
    | outgrown=>exact he
   case row row args=>exact⟨h.1,RowsIn.mono h.2 fun u w'' he=>⟨keep a hy u,by rw [← Act.put_comm a v u h2];exact he⟩⟩
   case round l f tmps assign body =>
    refine⟨h.1,RoundIn.mono h.2 fun e w'' he=>?_⟩
    cases e with
    | returned u=>exact⟨keep a hy u,by rw [← Act.put_comm a v u h2];exact he⟩
    | panicked c=>exact hQ _ _ _ he
    | outgrown=>exact he
  | halt x w' =>
   cases x <;> simp only [Oper.uponIn] at h ⊢
   case panic u=>exact hQ _ _ _ h
 ·rename_i hw
  simp only [hw] at h
  exact⟨fun f _=>hF f,keep a hy _,by rw [← Act.put_comm a v undef h2];exact h.2⟩
def dK (F:Fence) (n:Nat) (P:Program) (md:Region.Mode) (ops:Array Oper) (Q:Exit→Act→World→Prop) (S:World→Prop) (st:Nat):Nat→Array Bool→Act→World→Prop
 | 0,ls,a,w=>Region.ready md ops ls=[]∧Q .normal a w
 | f+1,ls,a,w=>(Region.ready md ops ls=[]→Q .normal a w)∧∀ j∈Region.ready md ops ls,wpOpIn F n P ops Q j (fun b u=>(ls.getD st true=false→j≠st→S u)∧dK F n P md ops Q S st f (ls.setIfInBounds j true) b u) a w
theorem dK.plain:∀ {f:Nat} {ls:Array Bool} {a:Act} {w:World},dK F n P md ops Q S st f ls a w→wpAnyIn F n P md ops Q f ls a w
 | 0,_,_,_,h=>h
 | _+1,_,_,_,h=>⟨h.1,fun j hj=>wpOpIn_mono (fun _ _ q=>q.2.plain) (h.2 j hj)⟩
theorem dK.first (hF:∀ f,F.fn f) (hd:iR ops=true) {i:Nat} {oi os:Oper} {v:Value} (hi:ops[i]?=some oi) (hsel:Region.noSelect ops=true) (hQ:∀ c a w,Q (.panic c) (a.put oi.dst v) w→Q (.panic c) a w)
  (hs:ops[st]?=some os) (hw:∃ e∈os.after,Region.binds md e=true∧e.on=i) (f:Nat) (ls:Array Bool) (a:Act) (w:World)
  (hfree:∀ j oj,ops[j]?=some oj→j≠i→ls.getD j true=false→(∀ e∈oj.after,Region.binds md e=true→e.on≠i)→oi.apart ops oj=true)
  (hr:i∈Region.ready md ops ls) (hun:ls.getD st true=false) (hy:YieldsIf P ops S oi v a) (hS:S w) (H:dK F n P md ops Q S st f (ls.setIfInBounds i true) (a.put oi.dst v) w):dK F n P md ops Q S st (f+1) ls a w:=by
 have kZ:=Region.noSelect_spec hsel
 induction f generalizing ls a w with
 | zero =>
  refine⟨fun e=>absurd hr (by rw [e];simp),fun j hj=>?_⟩
  rcases Nat.decEq j i with q | q
  ·exact absurd (ready_mono hj q) (by rw [H.1];simp)
  ·subst q
   exact sW hF hd hi hy hS ⟨fun _ _=>hS,H⟩
 | succ f ih =>
  refine⟨fun e=>absurd hr (by rw [e];simp),fun j hj=>?_⟩
  rcases Nat.decEq j i with q | q
  ·obtain⟨un,oj,hoj,_⟩:=mem_ready.1 hj
   have now:j≠st:=by
    rintro rfl
    obtain⟨e,he,hb,hon⟩:=hw
    exact waits hr hj hs e he hb hon
   have ist:i≠st:=by
    rintro rfl
    obtain⟨e,he,hb,hon⟩:=hw
    exact waits hr hr hs e he hb hon
   have stays:∀ k ok,ops[k]?=some ok→k≠i→(ls.setIfInBounds j true).getD k true=false→(∀ e∈ok.after,Region.binds md e=true→e.on≠i)→oi.apart ops ok=true:=by
    intro k ok hk hki hun hno
    refine hfree k ok hk hki ?_ hno
    rcases Nat.decEq j k with r | r
    ·rwa [getD_set_ne true r] at hun
    ·rw [← r];exact un
   have next:=wI hF hd hoj (hfree j oj hoj q un (waits hr hj hoj)) (fun cs b=>kZ i oi cs b hi) (fun cs b=>kZ j oj cs b hoj) hQ hy (H.2 j (ready_mono hj q))
   refine wpOpIn_mono (fun b u g=>⟨fun q1 q2=>g.2.1 (by rw [getD_set_ne true ist];exact q1) q2,ih _ b u stays (ready_mono hr (Ne.symm q)) (by rw [getD_set_ne true now];exact hun) g.1 (g.2.1 (by rw [getD_set_ne true ist];exact hun) now) ?_⟩) next
   rw [Array.setIfInBounds_comm _ _ q]
   exact g.2.2
  ·subst q
   exact sW hF hd hi hy hS ⟨fun _ _=>hS,H⟩
theorem dK.take (hF:∀ f,F.fn f) (hd:iR ops=true) {i:Nat} {oi os:Oper} {v:Value} {f:Nat} {ls:Array Bool} {a:Act} {w:World} (hi:ops[i]?=some oi) (hsel:Region.noSelect ops=true) (hf:Region.free md ops ls i=true) (hr:(Region.ready md ops ls).contains i=true) (hun:ls.getD st true=false)
  (hs:ops[st]?=some os) (hw:(os.after.any fun e=>Region.binds md e && e.on==i)=true) (hQ:∀ c a w,Q (.panic c) (a.put oi.dst v) w→Q (.panic c) a w) (hy:YieldsIf P ops S oi v a) (hS:S w)
  (H:dK F n P md ops Q S st f (ls.setIfInBounds i true) (a.put oi.dst v) w):dK F n P md ops Q S st (f+1) ls a w:=by
 refine dK.first hF hd hi hsel hQ hs ?_ f ls a w (Region.free_spec hi hf) (by simpa using hr) hun hy hS H
 obtain⟨e,he,hb⟩:=Array.any_eq_true'.1 hw
 simp only [Bool.and_eq_true,beq_iff_eq] at hb
 exact⟨e,he,hb.1,hb.2⟩
theorem dK.one (hF:∀ f,F.fn f) {i:Nat} {oi:Oper} {f:Nat} {ls:Array Bool} {a:Act} {w:World} (hr:Region.ready md ops ls=[i]) (hi:ops[i]?=some oi)
  (h:∀ K:Act→World→Prop,(∀ b u,(ls.getD st true=false→i≠st→S u)→dK F n P md ops Q S st f (ls.setIfInBounds i true) b u→K b u)→if Region.wanted oi (yielded ops a.tmps)=true then Oper.wpIn F n P oi a w K Q else K (a.put oi.dst undef) w):dK F n P md ops Q S st (f+1) ls a w:=by
 refine⟨fun e=>absurd e (by rw [hr];simp),fun j hj=>?_⟩
 rw [hr,List.mem_singleton] at hj
 subst hj
 have q:=h (fun b u=>(ls.getD st true=false→j≠st→S u)∧dK F n P md ops Q S st f (ls.setIfInBounds j true) b u) (fun b u q1 q2=>⟨q1,q2⟩)
 unfold wpOpIn
 simp only [hi]
 split
 ·rename_i hw
  rw [if_pos hw] at q
  exact q
 ·rename_i hw
  rw [if_neg hw] at q
  exact⟨fun g _=>hF g,q⟩
theorem dK.done {ls:Array Bool} {a:Act} {w:World} {f:Nat} (hr:Region.ready md ops ls=[]) (h:Q .normal a w):dK F n P md ops Q S st f ls a w:=by
 cases f with
 | zero=>exact⟨hr,h⟩
 | succ f=>exact⟨fun _=>h,fun j hj=>by rw [hr] at hj;cases hj⟩
def vB (Q:Exit→Act→World→Prop):Exit→Act→World→Prop:=fun e a w=>e=.normal∧Q e a w
theorem dK.begin {id:Nat} {a:Act} {w:World} (hm:P.follows .mixedOrders=true) (h:dK F n P .any ops (vB Q) S st ops.size (Array.replicate ops.size false) a w.drew):(Code.region id ops true).wpIn F n P Q a w :=
 wpIn_mono (wpIn_region_any hm h.plain) fun _ _ _ q=>q.2
theorem dK.tk (hF:∀ f,F.fn f) (i:Nat) {oi os:Oper} {v:Value} {f:Nat} {ls:Array Bool} {a:Act} {w:World} (hd:iR ops=true) (hi:ops[i]?=some oi) (hsel:Region.noSelect ops=true) (hf:Region.free md ops ls i=true) (hr:(Region.ready md ops ls).contains i=true) (hun:ls.getD st true=false)
  (hs:ops[st]?=some os) (hw:(os.after.any fun e=>Region.binds md e && e.on==i)=true) (hy:YieldsIf P ops S oi v a) (hS:S w)
  (H:dK F n P md ops (vB Q) S st f (ls.setIfInBounds i true) (a.put oi.dst v) w):dK F n P md ops (vB Q) S st (f+1) ls a w :=
 dK.take hF hd hi hsel hf hr hun hs hw (fun _ _ _ h=>by cases h.1) hy hS H
theorem Ca {row:String} {args:Array Value} {w:World} {R:Value→World→Prop} (h:Rows P row args w R):RowsIn Fence.wide n P row args w R:=fun c cs _=>by
 obtain⟨v,w',r,s⟩:=h c cs
 exact⟨v,w',r,stepsIn_wide.2 s⟩
theorem eH {o:Oper} {a:Act} {w:World} {K:Act→World→Prop} (hd:∀ c,o.op≠.defer c) (h:o.wp P a w K Q):o.wpIn Fence.wide n P a w K Q:=by
 refine⟨fun _ _=>trivial,?_⟩
 rw [Oper.semAt_eq _ _ _ hd]
 unfold Oper.wp at h
 generalize (execOp a.eval o).run P w=r at h ⊢
 cases r with
 | ok x w' =>
  cases x with
  | value v=>exact h
  | skip=>exact h
  | defer d=>exact h
  | enter f args=>exact⟨fun e=>(by cases e),callsIn_wide.2 h⟩
  | row row args=>exact⟨fun e=>(by cases e),Ca h⟩
  | _=>exact h.elim
 | halt x w' =>
  cases x with
  | panic v=>exact h
  | _=>exact h.elim
theorem dK.nH (hF:∀ f,F.fn f) (hd:iR ops=true) (hop:∀ {o:Oper} {a:Act} {w:World} {K:Act→World→Prop},(∀ c,o.op≠.defer c)→o.wp P a w K Q→o.wpIn F n P a w K Q) {i:Nat} {oi:Oper} {f:Nat} {ls:Array Bool} {a:Act} {w:World} (hr:Region.ready md ops ls=[i]) (hi:ops[i]?=some oi)
  (h:∀ K:Act→World→Prop,(∀ b u,(ls.getD st true=false→i≠st→S u)→dK F n P md ops Q S st f (ls.setIfInBounds i true) b u→K b u)→if Region.wanted oi (yielded ops a.tmps)=true then Oper.wp P oi a w K Q else K (a.put oi.dst undef) w):dK F n P md ops Q S st (f+1) ls a w :=
 dK.one hF hr hi fun K hK=>by
  have q:=h K hK
  split
  ·rename_i hw
   rw [if_pos hw] at q
   exact hop (lZ hd hi) q
  ·rename_i hw
   rw [if_neg hw] at q
   exact q
end
end
section
theorem mr (i:Nat) {F:Fence} {n:Nat} {P:Program} {md:Region.Mode} {ops:Array Oper} {Q:Exit→Act→World→Prop} {S:World→Prop} {st:Nat} {oi os:Oper} {v:Value} {b:Act} {f:Nat} {ls:Array Bool} {a:Act} {w:World} (hS:S w)
  (H:dK F n P md ops (vB Q) S st f (ls.setIfInBounds i true) b w) (hF:∀ f,F.fn f:=by exact fun _=>trivial)
  (hi:ops[i]?=some oi:=by rfl) (hk:(iR ops && (Region.noSelect ops && (Region.free md ops ls i && (Region.ready md ops ls).contains i)))=true:=by kernel_rfl) (hun:ls.getD st true=false:=by kernel_rfl) (hs:ops[st]?=some os:=by rfl) (hn:(os.after.any fun e=>Region.binds md e && e.on==i)=true:=by kernel_rfl)
  (hw:Region.wanted oi (yielded ops a.tmps)=true:=by rfl) (hy:∀ u,S u→(execOp a.eval oi).run P u=.ok (.value v) u:=by intro u hu;go_simp;try rfl)
  (hb:a.put oi.dst v=b:=by simp only [Act.put,pS] <;> rfl):dK F n P md ops (vB Q) S st (f+1) ls a w:=by
 simp only [Bool.and_eq_true] at hk
 subst hb
 exact dK.tk hF i hk.1 hi hk.2.1 hk.2.2.1 hk.2.2.2 hun hs hn (Or.inl ⟨hw,hy⟩) hS H
end
end Go.Proofs.YtcmiompdjjiojaaGreat
