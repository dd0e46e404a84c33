import Derived.Test.YtcmiompdjjiojaaGreatZ3
import Derived.Test.YtcmiompdjjiojaaGreatProg
namespace Go.Proofs.YtcmiompdjjiojaaGreat
set_option maxHeartbeats 16000000
open Go.Lib
set_option linter.unusedSimpArgs false
set_option maxRecDepth 100000
section
section
open Go.Shelf Go.RowKit Go.Lib Go.Sort
variable {bo : Bool} {P : Program} {α : Type} [Inhabited α]
set_option maxRecDepth 1000000 in
theorem xU (L:yj bo P) (k:Nat) (aE:∀ w,(isAgg (cond bo 61 64)).run P w=.ok true w) (zE:∀ w,(Go.sizeOf (cond bo 61 64)).run P w=.ok k w) (enc:α→List Value) (blk off cap:Nat) (d0:Array α) (w0:World) (R:RowK enc k w0 blk off d0) (cf:α→α→Int) (g:Nat) (cb:Array Value) (eg:∀ args w,(callFunc g args).run P w=.ok (.enter g args) w) (hcmp:CmpLays P g cb enc k cf blk off d0.size w0) (ho:Sr.WO (ltOf cf)):∀ (N:Nat) (A U V C:List α) (d:Array α) (w:World) (_:d0.size=d.size) (_:SWK enc k w0 blk off d w) (_:d.toList=A++(U++(V++C))) (_:Sr.gu (ltOf cf) U) (_:Sr.gu (ltOf cf) V) (a m b:Nat) (_:a=A.length) (_:m=A.length+U.length) (_:b=A.length+U.length+V.length) (_:0<U.length) (_:0<V.length) (_:U.length+V.length≤N) (_:d.size<4611686018427387904),
  Calls P (cond bo 169 171) #[.slice (some ⟨blk,off,none⟩) d.size cap,.int .i64 a,.int .i64 m,.int .i64 b,.func (.func g) #[] cb] w fun e w'=>e=.returned (.tuple #[])∧mK cf enc k w0 blk off d A (U++V) C w':=by
 cases bo
 all_goals
  intro N
  induction N with
  | zero=>intro A U V C d w _ _ _ _ _ a m b _ _ _ hu _ hN _;omega
  | succ N ih =>
  intro A U V C d w hs S hd su sv a m b ha hm hb hu hv hN hsz
  by_cases h1:U.length=1
  ·obtain⟨x,rfl⟩:∃ x,U=[x]:=List.length_eq_one_iff.1 h1
   exact symOneL L k aE zE enc blk off cap d0 d w0 w R hs S cf g cb eg hcmp ho (by rw [hd];simp) sv a m b ha hm hb hsz
  by_cases h2:V.length=1
  ·obtain⟨y,rfl⟩:∃ x,V=[x]:=List.length_eq_one_iff.1 h2
   exact Mo L k aE zE enc blk off cap d0 d w0 w R hs S cf g cb eg hcmp ho (by rw [hd];simp) su a m b ha hm hb (by omega) hsz
  have IH:=hid ih
  clear ih
  have mixed:=L.mixed;have u0:=L.u0;have a0:=L.a0;have z0:=L.z0;have v0:=L.v0;have u3:=L.u3;have a3:=L.a3;have z3:=L.z3;have v3:=L.v3;have u4:=L.u4;have a4:=L.a4;have z4:=L.z4;have v4:=L.v4;have u5:=L.u5;have a5:=L.a5;have z5:=L.z5;have v5:=L.v5;have u6:=L.u6;have a6:=L.a6;have z6:=L.z6;have v6:=L.v6;have u7:=L.u7;have a7:=L.a7;have z7:=L.z7;have v7:=L.v7;simp only [cond_true,cond_false] at *
  have hlen:d.size=A.length+(U.length+(V.length+C.length)):=by have:=congrArg List.length hd;simp only [Array.length_toList,List.length_append] at this;omega
  have HD:=hid hd
  have HA:=hid ha
  have HM:=hid hm
  have zO:=hid hb
  have HU:=hid su
  have HV:=hid sv
  have HNN:=hid hN
  have HC:Aside _:=hcmp
  have S0:Aside _:=S
  have bb:b≤d.size:=by omega
  have am:a+2≤m:=by omega
  have mb:m+2≤b:=by omega
  have FG:=L.f4;have NT:=L.n4;simp only [cond_true,cond_false] at FG NT
  have e2:=L.e2;simp only [cond_true,cond_false] at *
  have e4:=L.e4;simp only [cond_true,cond_false] at *
  obtain⟨mid,hm1,hm2⟩:∃ mid:Nat,2 * mid≤a+b∧a+b<2 * mid+2:=⟨(a+b) / 2,by omega,by omega⟩
  clear hd ha hb hm S hlen hcmp su sv hN h1 h2 hu hv
  have w3:((m:Int) - (a:Int)==1)=false:=by simp;omega
  have w4:¬ (m:Int) - (a:Int)=1:=by omega
  have w5:((b:Int) - (m:Int)==1)=false:=by simp;omega
  have w6:¬ (b:Int) - (m:Int)=1:=by omega
  have emid:((a:Int)+(b:Int)) / 2=(mid:Int):=by omega
  go_enter FG,NT
  go_upto_if 140 with fail
  go_cut [20,21] (fun s20 s21 wc=>∃ s0 r0:Nat,s20=.int .i64 s0∧s21=.int .i64 r0∧a≤s0∧s0≤r0∧r0≤m∧r0≤mid∧mid+m≤b+s0∧(s0=a∨mid+m=b+s0)∧(r0=m∨r0=mid)∧wc=w)
  case first=>as_aux_lemma =>
   by_cases hq:mid<m
   ·have hqz:(mid:Int)<(m:Int):=by omega
    go_wp2_with fail
    go_meet
    case rel=>exact⟨mid+m - b,mid,by congr 1 <;> omega,rfl,by omega,by omega,by omega,by omega,by omega,.inr (by omega),.inr rfl,rfl⟩
   ·have hqz:¬ (mid:Int)<(m:Int):=by omega
    go_wp2_with fail
    go_meet
    case rel=>exact⟨a,m,rfl,rfl,by omega,by omega,by omega,by omega,by omega,.inl rfl,.inl rfl,rfl⟩
  case rest =>
   obtain⟨s0,r0,rfl,rfl,g1,g2,g3,g4,g5,g6,g7,rfl⟩:=hcut
   have G6:=hid g6
   have G7:=hid g7
   clear g6 g7
   go_wp2_with fail
   go_loopw [20,21] (fun s20 s21 wr=>∃ s r:Nat,s20=.int .i64 s∧s21=.int .i64 r∧s0≤s∧s≤r∧r≤r0∧Aside (SWK enc k w0 blk off d wr)∧Hid ((s0<s→ltOf cf d[mid+m - 1 - (s - 1)]! d[s - 1]! = false)∧(r<r0→ltOf cf d[mid+m - 1 - r]! d[r]! = true))) (fun s20 s21 _=>(intOf s21).toNat - (intOf s20).toNat)
   case atStart=>exact⟨s0,r0,rfl,rfl,Nat.le_refl _,g2,Nat.le_refl _,S0,hid ⟨fun h=>by omega,fun h=>by omega⟩⟩
   case round =>
    obtain⟨s,r,rfl,rfl,h1,h2,h3,S1,HE⟩:=hrel
    clear S0
    by_cases hlt:s<r
    ·obtain⟨c,hc1,hc2⟩:∃ c:Nat,2 * c≤s+r∧s+r<2 * c+2:=⟨(s+r) / 2,by omega,by omega⟩
     cases hL:ltOf cf d[mid+m - 1 - c]! d[c]! with
     | true=>as_aux_lemma =>
      have HL:=hid hL
      have pz:((s:Int)+(r:Int)) / 2≤(mid:Int)+(m:Int) - 1:=by omega
      have oH:((mid:Int)+(m:Int) - 1 - ((s:Int)+(r:Int)) / 2).toNat=mid+m - 1 - c:=by omega
      have oK:(0:Int)≤(mid:Int)+(m:Int) - 1 - ((s:Int)+(r:Int)) / 2:=by omega
      have oF:(mid:Int)+(m:Int) - 1 - ((s:Int)+(r:Int)) / 2<(d.size:Int):=by omega
      have oN:IntKind.i64.wrap ((mid:Int)+(m:Int) - 1 - ((s:Int)+(r:Int)) / 2)=(mid:Int)+(m:Int) - 1 - ((s:Int)+(r:Int)) / 2:=by rw [IntKind.wrap_i64];omega
      have oI:(((s:Int)+(r:Int)) / 2).toNat=c:=by omega
      have oL:(0:Int)≤((s:Int)+(r:Int)) / 2:=by omega
      have bc1:((s:Int)+(r:Int)) / 2<(d.size:Int):=by omega
      have oO:IntKind.i64.wrap (((s:Int)+(r:Int)) / 2)=((s:Int)+(r:Int)) / 2:=by rw [IntKind.wrap_i64];omega
      obtain⟨x1,hx1⟩:∃ x,x=d[mid+m - 1 - c]!:=⟨_,rfl⟩
      obtain⟨y1,hy1⟩:∃ x,x=d[c]!:=⟨_,rfl⟩
      have jY:=S1.out.ld R (by omega) P (mid+m - 1 - c) (by omega)
      have jZ:=S1.out.ld R (by omega) P (c) (by omega)
      rw [← hx1] at jY
      rw [← hy1] at jZ
      have hc1:=S1.out.cmp HC.out (by omega) x1 y1
      have hv1:cf x1 y1<0:=by rw [hx1,hy1];exact of_decide_eq_true hL
      have hd1:decide (cf x1 y1<0)=true:=decide_eq_true hv1
      clear hx1 hy1
      go_wp2_with fail
      go_quiet_grown (first | (go_at_fn g;refine Calls.grown_of (hc1 _ _)))
      have S2:Aside (SWK enc k w0 blk off d (grow (wr.drewN nq) osq)):=S1.out.grown nq osq
      clear jY jZ hc1 S1
      generalize grow (wr.drewN nq) osq=w2 at S2 ⊢
      clear nq osq oH oK oF oN oI oL bc1 oO
      clear hL pz
      have eh:((s:Int)+(r:Int)) / 2=(c:Int):=by omega
      go_wp2
      go_roundw
      case rel=>exact⟨s,c,rfl,by go_num,h1,by omega,by omega,S2,hid ⟨HE.out.1,fun _=>HL.out⟩⟩
      case measure=>simp [intOf];omega
     | false=>as_aux_lemma =>
      have HL:=hid hL
      have pz:((s:Int)+(r:Int)) / 2≤(mid:Int)+(m:Int) - 1:=by omega
      have oH:((mid:Int)+(m:Int) - 1 - ((s:Int)+(r:Int)) / 2).toNat=mid+m - 1 - c:=by omega
      have oK:(0:Int)≤(mid:Int)+(m:Int) - 1 - ((s:Int)+(r:Int)) / 2:=by omega
      have oF:(mid:Int)+(m:Int) - 1 - ((s:Int)+(r:Int)) / 2<(d.size:Int):=by omega
      have oN:IntKind.i64.wrap ((mid:Int)+(m:Int) - 1 - ((s:Int)+(r:Int)) / 2)=(mid:Int)+(m:Int) - 1 - ((s:Int)+(r:Int)) / 2:=by rw [IntKind.wrap_i64];omega
      have oI:(((s:Int)+(r:Int)) / 2).toNat=c:=by omega
      have oL:(0:Int)≤((s:Int)+(r:Int)) / 2:=by omega
      have bc1:((s:Int)+(r:Int)) / 2<(d.size:Int):=by omega
      have oO:IntKind.i64.wrap (((s:Int)+(r:Int)) / 2)=((s:Int)+(r:Int)) / 2:=by rw [IntKind.wrap_i64];omega
      obtain⟨x1,hx1⟩:∃ x,x=d[mid+m - 1 - c]!:=⟨_,rfl⟩
      obtain⟨y1,hy1⟩:∃ x,x=d[c]!:=⟨_,rfl⟩
      have jY:=S1.out.ld R (by omega) P (mid+m - 1 - c) (by omega)
      have jZ:=S1.out.ld R (by omega) P (c) (by omega)
      rw [← hx1] at jY
      rw [← hy1] at jZ
      have hc1:=S1.out.cmp HC.out (by omega) x1 y1
      have hv1:¬ cf x1 y1<0:=by rw [hx1,hy1];exact of_decide_eq_false hL
      have hd1:decide (cf x1 y1<0)=false:=decide_eq_false hv1
      clear hx1 hy1
      go_wp2_with fail
      go_quiet_grown (first | (go_at_fn g;refine Calls.grown_of (hc1 _ _)))
      have S2:Aside (SWK enc k w0 blk off d (grow (wr.drewN nq) osq)):=S1.out.grown nq osq
      clear jY jZ hc1 S1
      generalize grow (wr.drewN nq) osq=w2 at S2 ⊢
      clear nq osq oH oK oF oN oI oL bc1 oO
      clear hL pz
      have eh:((s:Int)+(r:Int)) / 2=(c:Int):=by omega
      go_wp2
      go_roundw
      case rel=>exact⟨c+1,r,by go_num,rfl,by omega,by omega,h3,S2,hid ⟨fun _=>HL.out,HE.out.2⟩⟩
      case measure=>simp [intOf];omega
    ·obtain rfl:s=r:=by omega
     clear h2
     obtain⟨ee,he1,he2⟩:∃ ee:Nat,ee+s≤mid+m∧mid+m≤ee+s:=⟨mid+m - s,by omega,by omega⟩
     have HSP:=Sr.Mc ho HD.out HU.out HV.out (s:=s) (e:=ee) (by have:=HA.out;omega) (by have:=HM.out;omega) (by have:=HM.out;omega) (by have:=zO.out;omega)
      (fun p q=>by
       have:s0<s:=by have:=HA.out;have:=zO.out;rcases G6.out with z | z <;> omega
       have:=HE.out.1 this
       rwa [show mid+m - 1 - (s - 1)=ee by omega] at this)
      (fun p q=>by
       have:s<r0:=by have:=HM.out;rcases G7.out with z | z <;> omega
       have:=HE.out.2 this
       rwa [show mid+m - 1 - s=ee - 1 by omega] at this)
     obtain⟨U1,U2,V1,V2,hU,hV,l1,l2,k1,k2⟩:=HSP
     have K:=hid (And.intro hU (And.intro hV (And.intro k1 k2)))
     have L1:=hid l1
     have L2:=hid l2
     have lu:=congrArg List.length hU
     have lv:=congrArg List.length hV
     rw [List.length_append] at lu lv
     have LU:=hid lu
     have LV:=hid lv
     have SU1:Hid (Sr.gu (ltOf cf) U1∧Sr.gu (ltOf cf) U2):=hid (by have:=HU.out;rw [hU] at this;exact⟨this.parts.1,this.parts.2.1⟩)
     have SV1:Hid (Sr.gu (ltOf cf) V1∧Sr.gu (ltOf cf) V2):=hid (by have:=HV.out;rw [hV] at this;exact⟨this.parts.1,this.parts.2.1⟩)
     have D1:Hid (d.toList=A++(U1++(U2++(V1++(V2++C))))):=hid (by rw [HD.out,hU,hV];simp)
     have eee:(mid:Int)+(m:Int) - (s:Int)=(ee:Int):=by omega
     clear hU hV l1 l2 k1 k2 lu lv
     obtain⟨tb1,ht1⟩:∃ tb:Bool,tb=(decide (s<m) && decide (m<ee)):=⟨_,rfl⟩
     have HT1:=hid ht1
     clear ht1
     go_upto_region 39 with fail
     go_cut [185] (fun s185 wd=>s185=.bool tb1∧wd=wr)
     case first=>as_aux_lemma =>
      rcases Nat.lt_or_ge s m with q1 | q1
      ·rcases Nat.lt_or_ge m ee with q2 | q2
       ·have q1z:(s:Int)<(m:Int):=by omega
        have q2z:(m:Int)<(ee:Int):=by omega
        go_wp2_with fail
        go_meet
        case rel=>exact⟨by rw [HT1.out,decide_eq_true q1,decide_eq_true q2];rfl,rfl⟩
       ·have q1z:(s:Int)<(m:Int):=by omega
        have q2z:¬ (m:Int)<(ee:Int):=by omega
        go_wp2_with fail
        go_meet
        case rel=>exact⟨by rw [HT1.out,decide_eq_true q1,decide_eq_false (Nat.not_lt.2 q2)];rfl,rfl⟩
      ·have q1z:¬ (s:Int)<(m:Int):=by omega
       go_wp2_with fail
       go_meet
       case rel=>exact⟨by rw [HT1.out,decide_eq_false (Nat.not_lt.2 q1)];rfl,rfl⟩
     case rest =>
      obtain⟨rfl,rfl⟩:=hcut
      go_upto_if 185 with fail
      go_cut [] (fun wc=>∃ dk1:Array α,Aside (SWK enc k w0 blk off dk1 wc)∧dk1.size=d.size∧Hid (dk1.toList=A++(U1++(V1++(U2++(V2++C))))))
      case first=>as_aux_lemma =>
       cases tb1 with
       | true =>
        have hpq:s<m∧m<ee:=by simpa using HT1.out.symm
        obtain⟨q1,q2⟩:=hpq
        have hcall:=rotateL (P:=P) L k aE zE enc blk off cap d0 d w0 _ R (by omega) S1.out (X:=A++U1) (p:=U2) (q:=V1) (Y:=V2++C) (by rw [D1.out];simp) (by have:=L1.out;have:=LU.out;have:=HM.out;omega) (by have:=L2.out;have:=HM.out;omega) s m ee (by rw [List.length_append];exact L1.out.symm) (by rw [List.length_append];have:=HM.out;have:=LU.out;omega) (by rw [List.length_append];have:=L2.out;have:=LU.out;omega) (by omega) (.func (.func g) #[] cb)
        clear S1
        go_wp2_with ((first | go_at_fn 178 | go_at_fn 179);(try simp only [cond_true,cond_false] at hcall);refine hcall.mono ?_;rintro e w1 ⟨rfl,dk1,S2,hd1,hl1⟩)
        have S3:Aside _:=S2
        have HL:=hid hl1
        clear S2 hl1
        go_meet
        case rel=>exact⟨dk1,S3,hd1,hid (by rw [HL.out];simp)⟩
       | false =>
        have hpq:¬ (s<m∧m<ee):=fun ⟨z1,z2⟩=>by have z:=HT1.out;rw [decide_eq_true z1,decide_eq_true z2] at z;cases z
        have HN:Hid (d.toList=A++(U1++(V1++(U2++(V2++C))))):=hid (by
         have:U2=[]∨V1=[]:=by
          have:=L1.out;have:=L2.out;have:=LU.out;have:=HM.out
          by_cases z:U2.length=0
          ·exact .inl (List.length_eq_zero_iff.1 z)
          ·exact .inr (List.length_eq_zero_iff.1 (by omega))
         rw [D1.out]
         rcases this with rfl | rfl <;> simp)
        go_wp2_with fail
        go_meet
        case rel=>exact⟨d,S1,rfl,HN⟩
      case rest =>
       obtain⟨dk1,S2,hd1,HL1⟩:=hcut
       clear S1
       obtain⟨tb2,ht2⟩:∃ tb:Bool,tb=(decide (a<s) && decide (s<mid)):=⟨_,rfl⟩
       have HT2:=hid ht2
       clear ht2
       go_upto_region 41 with fail
       go_cut [199] (fun s199 wd=>s199=.bool tb2∧wd=wc)
       case first=>as_aux_lemma =>
        rcases Nat.lt_or_ge a s with q1 | q1
        ·rcases Nat.lt_or_ge s mid with q2 | q2
         ·have q1z:(a:Int)<(s:Int):=by omega
          have q2z:(s:Int)<(mid:Int):=by omega
          go_wp2_with fail
          go_meet
          case rel=>exact⟨by rw [HT2.out,decide_eq_true q1,decide_eq_true q2];rfl,rfl⟩
         ·have q1z:(a:Int)<(s:Int):=by omega
          have q2z:¬ (s:Int)<(mid:Int):=by omega
          go_wp2_with fail
          go_meet
          case rel=>exact⟨by rw [HT2.out,decide_eq_true q1,decide_eq_false (Nat.not_lt.2 q2)];rfl,rfl⟩
        ·have q1z:¬ (a:Int)<(s:Int):=by omega
         go_wp2_with fail
         go_meet
         case rel=>exact⟨by rw [HT2.out,decide_eq_false (Nat.not_lt.2 q1)];rfl,rfl⟩
       case rest =>
        obtain⟨rfl,rfl⟩:=hcut
        go_upto_if 199 with fail
        go_cut [] (fun wc=>∃ (dk2:Array α) (W1:List α),Aside (SWK enc k w0 blk off dk2 wc)∧dk2.size=d.size∧Hid (dk2.toList=A++(W1++(U2++(V2++C)))∧W1.length=U1.length+V1.length∧Sr.gu (ltOf cf) W1∧Sr.gM (ltOf cf) (U1++V1) W1))
        case first=>as_aux_lemma =>
         cases tb2 with
         | true =>
          have hpq:a<s∧s<mid:=by simpa using HT2.out.symm
          obtain⟨q1,q2⟩:=hpq
          have hcall:=IH.out A U1 V1 (U2++(V2++C)) dk1 _ (by omega) S2.out (by rw [HL1.out]) SU1.out.1 SV1.out.1 a s mid HA.out L1.out.symm (by have:=L2.out;have:=L1.out;have:=LU.out;have:=HM.out;omega) (by have:=L1.out;have:=HA.out;omega) (by have:=L2.out;have:=L1.out;have:=LU.out;have:=HM.out;omega) (by have:=HNN.out;have:=LU.out;have:=LV.out;have:=L1.out;have:=L2.out;have:=HM.out;have:=HA.out;have:=zO.out;omega) (by omega)
          rw [hd1] at hcall
          clear S2
          go_wp2_with ((first | go_at_fn 169 | go_at_fn 171);(try simp only [cond_true,cond_false] at hcall);refine hcall.mono ?_;rintro e w1 ⟨rfl,dk2,W1,S3,hd2,hl2,hl3,hl4,hl5⟩)
          have S4:Aside _:=S3
          have HL:=hid (And.intro hl2 (And.intro hl3 (And.intro hl4 hl5)))
          clear S3 hl2 hl3 hl4 hl5
          go_meet
          case rel=>exact⟨dk2,W1,S4,by omega,hid ⟨HL.out.1,by rw [HL.out.2.1,List.length_append],HL.out.2.2.1,HL.out.2.2.2⟩⟩
         | false =>
          have hpq:¬ (a<s∧s<mid):=fun ⟨z1,z2⟩=>by have z:=HT2.out;rw [decide_eq_true z1,decide_eq_true z2] at z;cases z
          have HN:Hid (Sr.gu (ltOf cf) (U1++V1)):=hid (by
           have:U1=[]∨V1=[]:=by
            have:=L1.out;have:=L2.out;have:=LU.out;have:=HM.out;have:=HA.out
            by_cases z:U1.length=0
            ·exact .inl (List.length_eq_zero_iff.1 z)
            ·exact .inr (List.length_eq_zero_iff.1 (by omega))
           have p1:=SU1.out.1
           have p2:=SV1.out.1
           rcases this with z | z
           ·rw [z];exact p2
           ·rw [z,List.append_nil];exact p1)
          go_wp2_with fail
          go_meet
          case rel=>exact⟨dk1,U1++V1,S2,hd1,hid ⟨by rw [HL1.out];simp,by rw [List.length_append],HN.out,Sr.gM.refl _⟩⟩
        case rest =>
         obtain⟨dk2,W1,S3,hd2,HL2⟩:=hcut
         clear S2
         obtain⟨tb3,ht3⟩:∃ tb:Bool,tb=(decide (mid<ee) && decide (ee<b)):=⟨_,rfl⟩
         have HT3:=hid ht3
         clear ht3
         go_upto_region 43 with fail
         go_cut [213] (fun s213 wd=>s213=.bool tb3∧wd=wc)
         case first=>as_aux_lemma =>
          rcases Nat.lt_or_ge mid ee with q1 | q1
          ·rcases Nat.lt_or_ge ee b with q2 | q2
           ·have q1z:(mid:Int)<(ee:Int):=by omega
            have q2z:(ee:Int)<(b:Int):=by omega
            go_wp2_with fail
            go_meet
            case rel=>exact⟨by rw [HT3.out,decide_eq_true q1,decide_eq_true q2];rfl,rfl⟩
           ·have q1z:(mid:Int)<(ee:Int):=by omega
            have q2z:¬ (ee:Int)<(b:Int):=by omega
            go_wp2_with fail
            go_meet
            case rel=>exact⟨by rw [HT3.out,decide_eq_true q1,decide_eq_false (Nat.not_lt.2 q2)];rfl,rfl⟩
          ·have q1z:¬ (mid:Int)<(ee:Int):=by omega
           go_wp2_with fail
           go_meet
           case rel=>exact⟨by rw [HT3.out,decide_eq_false (Nat.not_lt.2 q1)];rfl,rfl⟩
         case rest =>
          obtain⟨rfl,rfl⟩:=hcut
          cases tb3 with
          | true=>as_aux_lemma =>
           have hpq:mid<ee∧ee<b:=by simpa using HT3.out.symm
           obtain⟨q1,q2⟩:=hpq
           have hcall:=IH.out (A++W1) U2 V2 C dk2 _ (by omega) S3.out (by rw [HL2.out.1];simp) SU1.out.2 SV1.out.2 mid ee b (by rw [List.length_append,HL2.out.2.1];have:=L2.out;have:=L1.out;have:=LU.out;have:=HM.out;omega) (by rw [List.length_append,HL2.out.2.1];have:=L2.out;have:=L1.out;have:=LU.out;have:=HM.out;omega) (by rw [List.length_append,HL2.out.2.1];have:=L2.out;have:=L1.out;have:=LU.out;have:=LV.out;have:=HM.out;have:=zO.out;omega) (by have:=L1.out;have:=LU.out;have:=HM.out;omega) (by have:=L2.out;have:=LV.out;have:=zO.out;omega) (by have:=HNN.out;have:=LU.out;have:=LV.out;have:=L1.out;have:=L2.out;have:=HM.out;have:=HA.out;have:=zO.out;omega) (by omega)
           rw [hd2] at hcall
           clear S3
           go_wp2_with ((first | go_at_fn 169 | go_at_fn 171);(try simp only [cond_true,cond_false] at hcall);refine hcall.mono ?_;rintro e w1 ⟨rfl,dk3,W2,S4,hd3,hl2,hl3,hl4,hl5⟩)
           have S5:Aside _:=S4
           have HL:=hid (And.intro hl2 (And.intro hl3 (And.intro hl4 hl5)))
           clear S4 hl2 hl3 hl4 hl5
           have FIN:=hid (Sr.xL ho (by rw [← K.out.1];exact HU.out) (by rw [← K.out.2.1];exact HV.out) K.out.2.2.1 K.out.2.2.2 HL2.out.2.2.1 HL2.out.2.2.2 HL.out.2.2.1 HL.out.2.2.2)
           go_wp2
           go_end0
           exact⟨rfl,dk3,W1++W2,S5.out,by omega,by rw [HL.out.1];simp,by rw [List.length_append,List.length_append,HL2.out.2.1,HL.out.2.1,List.length_append];have:=LU.out;have:=LV.out;omega,FIN.out.1,by rw [K.out.1,K.out.2.1];exact FIN.out.2⟩
          | false=>as_aux_lemma =>
           have hpq:¬ (mid<ee∧ee<b):=fun ⟨z1,z2⟩=>by have z:=HT3.out;rw [decide_eq_true z1,decide_eq_true z2] at z;cases z
           have HN:Hid (Sr.gu (ltOf cf) (U2++V2)):=hid (by
            have:U2=[]∨V2=[]:=by
             have:=L1.out;have:=L2.out;have:=LU.out;have:=LV.out;have:=HM.out;have:=zO.out
             by_cases z:U2.length=0
             ·exact .inl (List.length_eq_zero_iff.1 z)
             ·exact .inr (List.length_eq_zero_iff.1 (by omega))
            have p1:=SU1.out.2
            have p2:=SV1.out.2
            rcases this with z | z
            ·rw [z];exact p2
            ·rw [z,List.append_nil];exact p1)
           have FIN:=hid (Sr.xL ho (by rw [← K.out.1];exact HU.out) (by rw [← K.out.2.1];exact HV.out) K.out.2.2.1 K.out.2.2.2 HL2.out.2.2.1 HL2.out.2.2.2 HN.out (Sr.gM.refl _))
           go_wp2
           go_end0
           exact⟨rfl,dk2,W1++(U2++V2),S3.out,hd2,by rw [HL2.out.1];simp,by rw [List.length_append,List.length_append,List.length_append,HL2.out.2.1];have:=LU.out;have:=LV.out;omega,FIN.out.1,by rw [K.out.1,K.out.2.1];exact FIN.out.2⟩
end
section
open Go.Shelf Go.RowKit Go.Lib Go.Sort
variable {bo : Bool} {P : Program} {α : Type} [Inhabited α]
set_option maxRecDepth 1000000 in
theorem zD (L:yj bo P) (k:Nat) (aE:∀ w,(isAgg (cond bo 61 64)).run P w=.ok true w) (zE:∀ w,(Go.sizeOf (cond bo 61 64)).run P w=.ok k w) (enc:α→List Value) (blk off cap:Nat) (d0 d:Array α) (w0 w:World) (R:RowK enc k w0 blk off d0) (hs:d0.size=d.size) (S:SWK enc k w0 blk off d w) (cf:α→α→Int) (g:Nat) (cb:Array Value) (eg:∀ args w,(callFunc g args).run P w=.ok (.enter g args) w) (hcmp:CmpLays P g cb enc k cf blk off d0.size w0) (ho:Sr.WO (ltOf cf)) (n:Nat) (hn:n=d.size) (hsz:d.size<4611686018427387904) :
  Calls P (cond bo 152 154) #[.slice (some ⟨blk,off,none⟩) d.size cap,.int .i64 n,.func (.func g) #[] cb] w fun e w'=>e=.returned (.tuple #[])∧mK cf enc k w0 blk off d [] d.toList [] w':=by
 cases bo
 all_goals
  have mixed:=L.mixed;have u0:=L.u0;have a0:=L.a0;have z0:=L.z0;have v0:=L.v0;have u3:=L.u3;have a3:=L.a3;have z3:=L.z3;have v3:=L.v3;have u4:=L.u4;have a4:=L.a4;have z4:=L.z4;have v4:=L.v4;have u5:=L.u5;have a5:=L.a5;have z5:=L.z5;have v5:=L.v5;have u6:=L.u6;have a6:=L.a6;have z6:=L.z6;have v6:=L.v6;have u7:=L.u7;have a7:=L.a7;have z7:=L.z7;have v7:=L.v7;simp only [cond_true,cond_false] at *
  have HN:=hid hn
  have n1:n≤d.size:=by omega
  have n2:d.size≤n:=by omega
  have HC:Aside _:=hcmp
  have S0:Aside _:=S
  have FG:=L.f5;have NT:=L.n5;simp only [cond_true,cond_false] at FG NT
  have e3:=L.e3;simp only [cond_true,cond_false] at *
  have e4:=L.e4;simp only [cond_true,cond_false] at *
  clear S hcmp hn
  go_enter FG,NT
  go_wp2_with fail
  go_loopw [7,8] (fun s7 s8 wr=>∃ (a:Nat) (dk:Array α) (D R':List α),s7=.int .i64 a∧s8=.int .i64 ((a:Int)+20)∧a≤n∧dk.size=d.size∧Aside (SWK enc k w0 blk off dk wr)∧Hid (dk.toList=D++R'∧D.length=a∧Sr.Pre (ltOf cf) 20 D∧Sr.gM (ltOf cf) d.toList (D++R'))) (fun s7 _ _=>n - (intOf s7).toNat)
  case atStart=>exact⟨0,d,[],d.toList,rfl,rfl,Nat.zero_le _,rfl,S0,hid ⟨rfl,rfl,Sr.Pre.nil,Sr.gM.refl _⟩⟩
  case round =>
   obtain⟨a,dk,D,R',rfl,rfl,han,hds,S1,HE⟩:=hrel
   clear S0
   have hl:Hid (D.length+R'.length=n):=hid (by have:=congrArg List.length HE.out.1;rw [Array.length_toList,List.length_append] at this;omega)
   by_cases hlt:a+20≤n
   ·have hlz:(a:Int)+20≤(n:Int):=by omega
    have hcall:=uT (P:=P) L k aE zE enc blk off cap d0 dk w0 wr R (by omega) S1.out cf g cb eg HC.out ho (A:=D) (B:=R'.take 20) (C:=R'.drop 20) (by rw [HE.out.1,List.take_append_drop]) a (a+20) HE.out.2.1.symm (by rw [List.length_take];have:=hl.out;have:=HE.out.2.1;omega) (by omega)
    rw [hds,show ((a+20:Nat):Int)=(a:Int)+20 by omega] at hcall
    clear S1
    go_wp2_with ((first | go_at_fn 168 | go_at_fn 170);(try simp only [cond_true,cond_false] at hcall);refine hcall.mono ?_;rintro e w1 ⟨rfl,dk1,W,S2,hd1,hl1,hl2,hl3,hl4⟩)
    have S3:Aside _:=S2
    have HL:=hid (And.intro hl1 (And.intro hl2 (And.intro hl3 hl4)))
    clear S2 hl1 hl2 hl3 hl4
    go_wp2
    go_roundw
    case rel =>
     refine⟨a+20,dk1,D++W,R'.drop 20,by go_num,by congr 1 <;> omega,hlt,by omega,S3,hid ⟨by rw [HL.out.1];simp,by rw [List.length_append,HL.out.2.1,List.length_take];have:=hl.out;have:=HE.out.2.1;omega,HE.out.2.2.1.snoc (by rw [HL.out.2.1,List.length_take];have:=hl.out;have:=HE.out.2.1;omega) HL.out.2.2.1,?_⟩⟩
     refine HE.out.2.2.2.trans ?_
     have:=((Sr.gM.refl (lt:=ltOf cf) D).app HL.out.2.2.2).app (Sr.gM.refl (lt:=ltOf cf) (R'.drop 20))
     rwa [List.append_assoc,List.take_append_drop] at this
    case measure=>simp [intOf];omega
   ·have hlz:¬ (a:Int)+20≤(n:Int):=by omega
    have hcall:=uT (P:=P) L k aE zE enc blk off cap d0 dk w0 wr R (by omega) S1.out cf g cb eg HC.out ho (A:=D) (B:=R') (C:=[]) (by rw [HE.out.1,List.append_nil]) a n HE.out.2.1.symm (by have:=hl.out;omega) (by omega)
    rw [hds] at hcall
    clear S1
    go_wp2_with ((first | go_at_fn 168 | go_at_fn 170);(try simp only [cond_true,cond_false] at hcall);refine hcall.mono ?_;rintro e w1 ⟨rfl,dk1,W,S2,hd1,hl1,hl2,hl3,hl4⟩)
    have S3:Aside _:=S2
    have HB1:Hid (Sr.wK (ltOf cf) 20 dk1.toList∧Sr.gM (ltOf cf) d.toList dk1.toList):=hid (by
     rw [hl1,List.append_nil]
     exact⟨HE.out.2.2.1 W (Sr.wK.last (by have:=hl.out;have:=HE.out.2.1;omega) hl3),HE.out.2.2.2.trans ((Sr.gM.refl _).app hl4)⟩)
    have hd1':dk1.size=d.size:=by omega
    clear S2 hl1 hl2 hl3 hl4 hl HE
    go_wp2_with fail
    go_loopw [6] (fun s6 wr=>∃ (bs:Nat) (dk:Array α),s6=.int .i64 bs∧20≤bs∧bs≤2 * n+20∧dk.size=d.size∧Aside (SWK enc k w0 blk off dk wr)∧Hid (Sr.wK (ltOf cf) bs dk.toList∧Sr.gM (ltOf cf) d.toList dk.toList)) (fun s6 _=>n - (intOf s6).toNat)
    case atStart=>exact⟨20,dk1,rfl,Nat.le_refl _,by omega,hd1',S3,HB1⟩
    case round =>
     clear S3 HB1 hd1 hd1' hds han
     obtain⟨bs,dk2,rfl,hb1,hb2,hds,S1,HE⟩:=hrel
     by_cases hbn:bs<n
     ·as_aux_lemma =>
      have hbz:(bs:Int)<(n:Int):=by omega
      go_wp2_with fail
      go_loopw [7,8] (fun s7 s8 wr=>∃ (a:Nat) (dk:Array α) (D R':List α),s7=.int .i64 a∧s8=.int .i64 ((a:Int)+2 * (bs:Int))∧a≤n∧dk.size=d.size∧Aside (SWK enc k w0 blk off dk wr)∧Hid (dk.toList=D++R'∧D.length=a∧Sr.Pre (ltOf cf) (2 * bs) D∧Sr.wK (ltOf cf) bs R'∧Sr.gM (ltOf cf) d.toList (D++R'))) (fun s7 _ _=>n - (intOf s7).toNat)
      case atStart=>exact⟨0,dk2,[],dk2.toList,rfl,by congr 1 <;> omega,Nat.zero_le _,hds,S1,hid ⟨rfl,rfl,Sr.Pre.nil,HE.out.1,HE.out.2⟩⟩
      case round =>
       clear S1 HE hds
       obtain⟨a,dk,D,R',rfl,rfl,han,hds,S1,HE⟩:=hrel
       have hl:Hid (D.length+R'.length=n):=hid (by have:=congrArg List.length HE.out.1;rw [Array.length_toList,List.length_append] at this;omega)
       by_cases hlt:a+2 * bs≤n
       ·have hlz:(a:Int)+2 * (bs:Int)≤(n:Int):=by omega
        obtain⟨q1,r1,hq1,hq2,hq3,hq4⟩:=HE.out.2.2.2.1.first' (by omega) (by have:=hl.out;have:=HE.out.2.1;omega)
        have hr:=congrArg List.length hq1
        rw [List.length_append] at hr
        obtain⟨q5,r5,Ff,hq6,hq7,hq8⟩:=hq4.first' (by omega) (by have:=hl.out;have:=HE.out.2.1;omega)
        have hcall:=xU (P:=P) L k aE zE enc blk off cap d0 w0 R cf g cb eg HC.out ho (q1.length+q5.length) D q1 q5 r5 dk wr (by omega) S1.out (by rw [HE.out.1,hq1,Ff]) hq3 hq7 a (a+bs) (a+2 * bs) HE.out.2.1.symm (by have:=HE.out.2.1;omega) (by have:=HE.out.2.1;omega) (by omega) (by omega) (Nat.le_refl _) (by omega)
        rw [hds,show ((a+bs:Nat):Int)=(a:Int)+(bs:Int) by omega,show ((a+2 * bs:Nat):Int)=(a:Int)+2 * (bs:Int) by omega] at hcall
        have Q1:=hid hq1
        have Q2:=hid hq2
        have Q5:=hid Ff
        have Q6:=hid hq6
        have Q8:=hid hq8
        clear S1 hq1 hq2 hq3 hq4 Ff hq6 hq7 hq8 hr
        go_wp2_with ((first | go_at_fn 169 | go_at_fn 171);(try simp only [cond_true,cond_false] at hcall);refine hcall.mono ?_;rintro e w1 ⟨rfl,dk1,W,S2,hd1,hl1,hl2,hl3,hl4⟩)
        have S3:Aside _:=S2
        have HL:=hid (And.intro hl1 (And.intro hl2 (And.intro hl3 hl4)))
        clear S2 hl1 hl2 hl3 hl4
        go_wp2
        go_roundw
        case rel =>
         refine⟨a+2 * bs,dk1,D++W,r5,by congr 1 <;> omega,by congr 1 <;> omega,hlt,by omega,S3,hid ⟨by rw [HL.out.1];simp,by rw [List.length_append,HL.out.2.1,List.length_append];have:=HE.out.2.1;have:=Q2.out;have:=Q6.out;omega,HE.out.2.2.1.snoc (by rw [HL.out.2.1,List.length_append];have:=Q2.out;have:=Q6.out;omega) HL.out.2.2.1,Q8.out,?_⟩⟩
         refine HE.out.2.2.2.2.trans ?_
         have:=((Sr.gM.refl (lt:=ltOf cf) D).app HL.out.2.2.2).app (Sr.gM.refl (lt:=ltOf cf) r5)
         rw [Q1.out,Q5.out]
         simpa using this
        case measure=>simp [intOf];omega
       ·have hlz:¬ (a:Int)+2 * (bs:Int)≤(n:Int):=by omega
        have wm:IntKind.i64.wrap ((bs:Int) * 2)=(bs:Int) * 2:=by rw [IntKind.wrap_i64];omega
        by_cases hmn:a+bs<n
        ·have hmz:(a:Int)+(bs:Int)<(n:Int):=by omega
         obtain⟨q1,r1,hq1,hq2,hq3,hq4⟩:=HE.out.2.2.2.1.first (by have:=hl.out;have:=HE.out.2.1;omega)
         have hr:=congrArg List.length hq1
         rw [List.length_append] at hr
         have hq7:=hq4.all (by have:=hl.out;have:=HE.out.2.1;omega)
         have hcall:=xU (P:=P) L k aE zE enc blk off cap d0 w0 R cf g cb eg HC.out ho (q1.length+r1.length) D q1 r1 [] dk wr (by omega) S1.out (by rw [HE.out.1,hq1,List.append_nil]) hq3 hq7 a (a+bs) n HE.out.2.1.symm (by have:=HE.out.2.1;omega) (by have:=hl.out;omega) (by omega) (by have:=hl.out;have:=HE.out.2.1;omega) (Nat.le_refl _) (by omega)
         rw [hds,show ((a+bs:Nat):Int)=(a:Int)+(bs:Int) by omega] at hcall
         have Q1:=hid hq1
         clear S1 hq1 hq2 hq3 hq4 hq7 hr
         go_wp2_with ((first | go_at_fn 169 | go_at_fn 171);(try simp only [cond_true,cond_false] at hcall);refine hcall.mono ?_;rintro e w1 ⟨rfl,dk1,W,S2,hd1,hl1,hl2,hl3,hl4⟩)
         have S3:Aside _:=S2
         have HL:=hid (And.intro hl1 (And.intro hl2 (And.intro hl3 hl4)))
         clear S2 hl1 hl2 hl3 hl4
         go_wp2
         go_roundw
         case rel =>
          refine⟨2 * bs,dk1,by congr 1 <;> omega,by omega,by omega,by omega,S3,hid ?_⟩
          rw [HL.out.1,List.append_nil]
          exact⟨HE.out.2.2.1 W (Sr.wK.last (by rw [HL.out.2.1,← Q1.out];have:=hl.out;have:=HE.out.2.1;omega) HL.out.2.2.1),HE.out.2.2.2.2.trans ((Sr.gM.refl _).app (by rw [Q1.out];exact HL.out.2.2.2))⟩
         case measure=>simp [intOf];omega
        ·have hmz:¬ (a:Int)+(bs:Int)<(n:Int):=by omega
         go_wp2
         go_roundw
         case rel =>
          refine⟨2 * bs,dk,by congr 1 <;> omega,by omega,by omega,hds,S1,hid ?_⟩
          rw [HE.out.1]
          exact⟨HE.out.2.2.1 R' (Sr.wK.last (by have:=hl.out;have:=HE.out.2.1;omega) (HE.out.2.2.2.1.all (by have:=hl.out;have:=HE.out.2.1;omega))),HE.out.2.2.2.2⟩
         case measure=>simp [intOf];omega
     ·have hbz:¬ (bs:Int)<(n:Int):=by omega
      have HF:Hid (Sr.gu (ltOf cf) dk2.toList):=hid (HE.out.1.all (by rw [Array.length_toList];omega))
      go_wp2
      go_end0
      exact⟨rfl,dk2,dk2.toList,S1.out,hds,by simp,by rw [Array.length_toList,Array.length_toList];exact hds,HF.out,HE.out.2⟩
end
end
end Go.Proofs.YtcmiompdjjiojaaGreat
