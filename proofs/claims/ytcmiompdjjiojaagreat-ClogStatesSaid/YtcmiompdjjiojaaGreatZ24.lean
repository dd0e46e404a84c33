import Derived.Test.YtcmiompdjjiojaaGreatZ9
namespace Go.Proofs.YtcmiompdjjiojaaGreat
set_option maxHeartbeats 16000000
open Go.Lib Go.Proofs.Tryz
set_option linter.unusedSimpArgs false
set_option maxRecDepth 100000
section
open Go.RowKit Go.Lib Go.Sort
theorem xB {ls:List T9.Li} {id:Nat}:(T9.aW ls id).2=ls.any fun l=>l.id==id:=by
 unfold T9.aW
 cases q:ls.find? (fun l=>l.id==id) with
 | none =>
  have:=List.find?_eq_none.1 q
  show false=_
  symm
  rw [← Bool.not_eq_true,List.any_eq_true]
  rintro⟨x,hx,h⟩
  exact this x hx h
 | some l =>
  show true=_
  symm
  exact List.any_eq_true.2 ⟨l,List.mem_of_find?_eq_some q,List.find?_some (p:=fun l:T9.Li=>l.id==id) q⟩
def Prv {α:Type} (f:α→Nat) (l:List α) (i a:Nat):Prop:=(i=0∧a=0)∨∃ x,0<i∧l[i - 1]?=some x∧f x=a
def PrvS (l:List (List UInt8)) (i:Nat) (a:List UInt8):Prop:=(i=0∧a=[])∨(0<i∧l[i - 1]?=some a)
theorem FU {x:List UInt8} (h:T9.tag x=true):T9.dN [] x=true:=by
 unfold T9.tag at h
 simp only [Bool.and_eq_true,decide_eq_true_eq] at h
 cases x with
 | nil=>simp at h
 | cons a x=>simp [T9.dN]
theorem eQ (b:Nat) (w:World):Calls prog 60 #[.float .f64 b] w fun e w'=>e=.returned (.bool (T9.n_ b))∧w=w':=GU b w
theorem xu {w w':World} {g:Nat} {o:Obj} (hb:w.heap[g]?=some o) (h:Below w.heap.size w w'):w'.heap[g]?=some o:=(h.block g (lt_of_block hb)).trans hb
theorem vP {A A2:Option Addr} {n1 n2 c c2:Nat} {ls:List T9.Li} {ms:List aN} {w:World} (hl:LL w A ls) (hk:KL w A2 ms) (e1:n1=ls.length) (e2:n2=ms.length) (hs:(⟨ls,ay ms⟩:T9.St).short) :
  Calls prog 43 #[.agg #[.slice A n1 c,.slice A2 n2 c2]] w fun e w'=>e=.returned (.int .i64 (T9.aJ ⟨ls,ay ms⟩))∧Below w.heap.size w w':=by
 have E1:=hid e1
 have E2:=hid e2
 have HS:=hid hs
 obtain⟨w1,hw1⟩:=nm (w.alloc (.cells #[.slice A n1 c,.slice A2 n2 c2] 26))
 obtain⟨pb,b1,z1⟩:=aj hw1
 have PB:=hid pb
 have B1:=hid b1
 have HL:=hid (hl.stay b1)
 have HK:=hid (hk.stay b1)
 have Z1:=hid z1
 have sm1:n1≤1000000:=by have:=hs.2.2.1;simp at this;omega
 have sm2:n2≤1000000:=by have:=hs.2.2.2;rw [aK] at this;omega
 obtain⟨p0,p1⟩:=aa pb
 have ET:Hid ((ay ms).length=n2):=hid (by rw [aK];exact e2.symm)
 clear hl hk e1 e2 hs pb b1 z1
 by_cases hm1:20<n1
 ·have hmz:(20:Int)<(n1:Int):=by omega
  have R:Hid (T9.aJ ⟨ls,ay ms⟩=95):=hid (by unfold T9.aJ;rw [if_pos (.inl (by rw [← E1.out];exact hm1))])
  go_enter func43,ntmps43
  go_wp2
  go_ret
  exact⟨aZ R.out.symm,B1.out⟩
 have hmz:¬ ((20:Int)<(n1:Int)):=by omega
 by_cases hm2:60<n2
 ·have J7:(60:Int)<(n2:Int):=by omega
  have R:Hid (T9.aJ ⟨ls,ay ms⟩=95):=hid (by unfold T9.aJ;rw [if_pos (.inr (by rw [ET.out];exact hm2))])
  go_enter func43,ntmps43
  go_wp2
  go_ret
  exact⟨aZ R.out.symm,B1.out⟩
 have J7:¬ ((60:Int)<(n2:Int)):=by omega
 have R:Hid (T9.aJ ⟨ls,ay ms⟩=if T9.bJ 0 ls≠0 then T9.bJ 0 ls else T9.bK ls 0 (ay ms)):=hid (by unfold T9.aJ;rw [if_neg (by rw [ET.out,← E1.out];omega)])
 clear hm1 hm2
 go_enter func43,ntmps43
 go_wp2
 go_loopw [24] (fun s24 wr=>∃ i:Nat,s24=.int .i64 i∧i≤n1∧Hid (∃ a,T9.bJ 0 ls=T9.bJ a (ls.drop i)∧Prv (·.id) ls i a)∧Aside (Below w1.heap.size w1 wr)) (fun s24 _=>n1 - (intOf s24).toNat)
 case atStart=>exact⟨0,rfl,Nat.zero_le _,hid ⟨0,rfl,.inl ⟨rfl,rfl⟩⟩,Below.refl _ _⟩
 case round =>
  obtain⟨i,rfl,hi,hU,hB⟩:=hrel
  have BR:=hid hB.out
  clear hB
  have pbr:=(BR.out.block w.heap.size (by have:=Z1.out;omega)).trans PB.out
  have PBR:=hid pbr
  clear pbr
  by_cases hlt:i<n1
  ·have hltz:(i:Int)<(n1:Int):=by omega
   obtain⟨ad,l,hA,hx,q0,q1⟩:=(HL.out.stay BR.out).at_ (k:=i) (by have:=E1.out;omega)
   subst hA
   obtain⟨a,hUa,hP⟩:=hU.out
   have X:=hid hx
   have SH:Hid (l.name.length≤1000000):=hid (HS.out.1 l (List.mem_of_getElem? hx))
   have U2:Hid (T9.bJ 0 ls=T9.bJ a (l :: ls.drop (i+1))):=hid (by rw [hUa,drop_at hx])
   obtain⟨w2,hw2⟩:=nm (wr.alloc (.cells #[.int .u64 (l.id:Int),.string (str l.name)] 61))
   obtain⟨lb,b2,z2⟩:=aj hw2
   have LB:=hid lb
   have B2:Hid (Below w1.heap.size w1 w2):=hid (BR.out.trans (b2.mono BR.out.size))
   have pY:=(b2.block w.heap.size (lt_of_block PBR.out)).trans PBR.out
   obtain⟨lz0,lz1⟩:=aa lb
   obtain⟨pz0,pz1⟩:=aa pY
   have HL2:=hid (HL.out.stay B2.out)
   clear hx lb b2 z2 lz1 pz1 pY hU hUa
   by_cases hidq:l.id≤a
   ·have R2:Hid (T9.aJ ⟨ls,ay ms⟩=91):=hid (by
     have:T9.bJ 0 ls=91:=by rw [U2.out];unfold T9.bJ;rw [if_pos hidq]
     rw [R.out,this];rfl)
    by_cases h0:l.id=0
    ·have h0z:((l.id:Int)==0)=true:=by simp [h0]
     clear hP hidq h0
     go_wp2_with fail
     go_region
     have BX:Hid (Below w2.heap.size w2 w2.drew):=hid (Below.refl _ w2).drew
     go_wp2
     go_ret
     exact⟨aZ R2.out.symm,B1.out.trans ((B2.out.trans (BX.out.mono B2.out.size)).mono B1.out.size)⟩
    ·have h0z:((l.id:Int)==0)=false:=by simp;omega
     rcases hP with⟨_,hP⟩ | ⟨x,hip,hxp,hxa⟩
     ·omega
     ·obtain⟨IA,l',hA',hx',q0',q1'⟩:=HL2.out.at_ (k:=i - 1) (by have:=E1.out;omega)
      cases hA'
      rw [hxp] at hx'
      cases hx'
      have hxa:x.id=a:=hxa
      have ipz:(0:Int)<(i:Int):=by omega
      have z1:(0:Int)≤(i:Int) - 1:=by omega
      have z1':(1:Int)≤(i:Int):=by omega
      have z2:(i:Int) - 1<(n1:Int):=by omega
      have z3:((i:Int) - 1).toNat=i - 1:=by omega
      have z4:IntKind.i64.wrap ((i:Int) - 1)=(i:Int) - 1:=by rw [IntKind.wrap_i64];omega
      have lez:(l.id:Int)≤(x.id:Int):=by omega
      clear hidq h0 hxa hxp q1'
      go_wp2_with fail
      go_region
      have BX:Hid (Below w2.heap.size w2 w2.drew):=hid (Below.refl _ w2).drew
      go_wp2
      go_ret
      exact⟨aZ R2.out.symm,B1.out.trans ((B2.out.trans (BX.out.mono B2.out.size)).mono B1.out.size)⟩
   ·have NI:=hid hidq
    have h0z:((l.id:Int)==0)=false:=by simp;omega
    have TC:=kJ l.name SH.out
    have rest:∀ wx:World,Hid (Below w2.heap.size w2 wx)→True:=fun _ _=>trivial
    clear rest
    rcases hP with⟨hi0,hP⟩ | ⟨x,hip,hxp,hxa⟩
    ·have ipz:decide ((0:Int)<(i:Int))=false:=by simp;omega
     have ipy:decide (0<i)=false:=by simp;omega
     clear hidq hi0 hP
     go_wp2_with fail
     go_region
     have BX:Hid (Below w2.heap.size w2 w2.drew):=hid (Below.refl _ w2).drew
     have Ko:=xu LB.out BX.out
     obtain⟨l0,l1⟩:=aa Ko
     have BZ:=hid (B2.out.trans (BX.out.mono B2.out.size))
     cases hT:T9.title l.name with
     | false =>
      rw [hT] at TC
      have R2:Hid (T9.aJ ⟨ls,ay ms⟩=94):=hid (by
       have:T9.bJ 0 ls=94:=by rw [U2.out];unfold T9.bJ;rw [if_neg NI.out,if_pos hT]
       rw [R.out,this];rfl)
      clear hT
      go_wp2_with (go_at_call 58;refine (TC _).mono ?_;rintro e w' ⟨rfl,rfl⟩)
      go_ret
      exact⟨aZ R2.out.symm,B1.out.trans (BZ.out.mono B1.out.size)⟩
     | true =>
      rw [hT] at TC
      have U3:Hid (∃ a,T9.bJ 0 ls=T9.bJ a (ls.drop (i+1))∧Prv (·.id) ls (i+1) a):=hid ⟨l.id,U2.out.trans (nD NI.out hT),.inr ⟨l,Nat.succ_pos _,X.out,rfl⟩⟩
      clear hT
      go_wp2_with (go_at_call 58;refine (TC _).mono ?_;rintro e w' ⟨rfl,rfl⟩)
      go_roundw
      case rel=>exact⟨i+1,by go_num,by omega,U3,BZ.out⟩
      case measure=>simp [intOf];omega
    ·obtain⟨IA,l',hA',hx',q0',q1'⟩:=HL2.out.at_ (k:=i - 1) (by have:=E1.out;omega)
     cases hA'
     rw [hxp] at hx'
     cases hx'
     have hxa:x.id=a:=hxa
     have ipz:(0:Int)<(i:Int):=by omega
     have z1:(0:Int)≤(i:Int) - 1:=by omega
     have z1':(1:Int)≤(i:Int):=by omega
     have z2:(i:Int) - 1<(n1:Int):=by omega
     have z3:((i:Int) - 1).toNat=i - 1:=by omega
     have z4:IntKind.i64.wrap ((i:Int) - 1)=(i:Int) - 1:=by rw [IntKind.wrap_i64];omega
     have lez:decide ((l.id:Int)≤(x.id:Int))=false:=by simp;omega
     have ley:decide (l.id≤x.id)=false:=by simp;omega
     clear hidq hxa hxp q1'
     go_wp2_with fail
     go_region
     have BX:Hid (Below w2.heap.size w2 w2.drew):=hid (Below.refl _ w2).drew
     have Ko:=xu LB.out BX.out
     obtain⟨l0,l1⟩:=aa Ko
     have BZ:=hid (B2.out.trans (BX.out.mono B2.out.size))
     cases hT:T9.title l.name with
     | false =>
      rw [hT] at TC
      have R2:Hid (T9.aJ ⟨ls,ay ms⟩=94):=hid (by
       have:T9.bJ 0 ls=94:=by rw [U2.out];unfold T9.bJ;rw [if_neg NI.out,if_pos hT]
       rw [R.out,this];rfl)
      clear hT
      go_wp2_with (go_at_call 58;refine (TC _).mono ?_;rintro e w' ⟨rfl,rfl⟩)
      go_ret
      exact⟨aZ R2.out.symm,B1.out.trans (BZ.out.mono B1.out.size)⟩
     | true =>
      rw [hT] at TC
      have U3:Hid (∃ a,T9.bJ 0 ls=T9.bJ a (ls.drop (i+1))∧Prv (·.id) ls (i+1) a):=hid ⟨l.id,U2.out.trans (nD NI.out hT),.inr ⟨l,Nat.succ_pos _,X.out,rfl⟩⟩
      clear hT
      go_wp2_with (go_at_call 58;refine (TC _).mono ?_;rintro e w' ⟨rfl,rfl⟩)
      go_roundw
      case rel=>exact⟨i+1,by go_num,by omega,U3,BZ.out⟩
      case measure=>simp [intOf];omega
  ·obtain rfl:i=n1:=by omega
   have hltz:¬ ((i:Int)<(i:Int)):=by omega
   have R2:Hid (T9.aJ ⟨ls,ay ms⟩=T9.bK ls 0 (ay ms)):=hid (by
    obtain⟨a,hU2,_⟩:=hU.out
    have:T9.bJ 0 ls=0:=by rw [hU2,E1.out,List.drop_length];rfl
    rw [R.out,this];rfl)
   obtain⟨wu,hwu⟩:∃ u,u=wr:=⟨_,rfl⟩
   subst hwu
   obtain⟨s0,s1⟩:=aa PBR.out
   clear hU
   go_wp2
   go_loopw [56] (fun s56 wr=>∃ k:Nat,s56=.int .i64 k∧k≤n2∧Hid (∃ a,T9.bK ls 0 (ay ms)=T9.bK ls a ((ay ms).drop k)∧Prv (fun m:aN=>m.t.id) ms k a)∧Aside (Below w1.heap.size w1 wr)) (fun s56 _=>n2 - (intOf s56).toNat)
   case atStart=>exact⟨0,rfl,Nat.zero_le _,hid ⟨0,rfl,.inl ⟨rfl,rfl⟩⟩,BR.out⟩
   case round =>
    obtain⟨wo,hwo⟩:∃ u,u=wr:=⟨_,rfl⟩
    subst hwo
    obtain⟨k,rfl,hk,hU,hB⟩:=hrel
    have BO:=hid hB.out
    clear hB s0 s1
    by_cases hlt:k<n2
    ·have uP:(k:Int)<(n2:Int):=by omega
     obtain⟨ad,⟨tk,A3,c3⟩,hA,hx,hf,r0,r1,r2,r3,r4,r5,r6⟩:=(HK.out.stay BO.out).at_ (k:=k) (by have:=E2.out;omega)
     subst hA
     obtain⟨a,hUa,hP⟩:=hU.out
     have X:=hid hx
     have FI:=hid hf
     have SH:Hid tk.short:=hid (HS.out.2.1 tk (List.mem_map.2 ⟨_,List.mem_of_getElem? hx,rfl⟩))
     have U2:Hid (T9.bK ls 0 (ay ms)=T9.bK ls a (tk :: (ay ms).drop (k+1))):=hid (by rw [hUa,Co hx])
     dsimp only at r0 r1 r2 r3 r4 r5 r6
     obtain⟨w2,hw2⟩:=nm (wo.alloc (.cells #[.int .u64 (tk.id:Int),.int .u64 (tk.list:Int),.string (str tk.title),.bool tk.done,.float .f64 tk.rank,.float .f64 tk.est,.slice A3 tk.tags.length c3] 64))
     obtain⟨tb,b2,z2⟩:=bf hw2
     have TB:=hid tb
     have B2:Hid (Below w1.heap.size w1 w2):=hid (BO.out.trans (b2.mono BO.out.size))
     have B2':=hid b2
     have pY:=ae PB.out B2.out
     have PB2:=hid pY
     obtain⟨t0,t1,t2,t3,t4,t5,t6⟩:=ak tb
     obtain⟨pz0,pz1⟩:=aa pY
     have HK2:=hid (HK.out.stay B2.out)
     clear hx hf tb b2 z2 pY hU hUa
     by_cases hidq:tk.id≤a
     ·have R3:Hid (T9.aJ ⟨ls,ay ms⟩=93):=hid (by rw [R2.out,U2.out];unfold T9.bK;rw [if_pos hidq])
      by_cases h0:tk.id=0
      ·have h0z:((tk.id:Int)==0)=true:=by simp [h0]
       clear hP hidq h0
       go_wp2_with fail
       go_region
       have BX:Hid (Below w2.heap.size w2 w2.drew):=hid (Below.refl _ w2).drew
       go_wp2
       go_ret
       exact⟨aZ R3.out.symm,B1.out.trans ((B2.out.trans (BX.out.mono B2.out.size)).mono B1.out.size)⟩
      ·have h0z:((tk.id:Int)==0)=false:=by simp;omega
       rcases hP with⟨_,hP⟩ | ⟨x,hip,hxp,hxa⟩
       ·omega
       ·obtain⟨IA,l',hA',hx',_,q0',_⟩:=HK2.out.at_ (k:=k - 1) (by have:=E2.out;omega)
        cases hA'
        rw [hxp] at hx'
        cases hx'
        have hxa:x.t.id=a:=hxa
        have ipz:(0:Int)<(k:Int):=by omega
        have z1:(0:Int)≤(k:Int) - 1:=by omega
        have z1':(1:Int)≤(k:Int):=by omega
        have z2:(k:Int) - 1<(n2:Int):=by omega
        have z3:((k:Int) - 1).toNat=k - 1:=by omega
        have z4:IntKind.i64.wrap ((k:Int) - 1)=(k:Int) - 1:=by rw [IntKind.wrap_i64];omega
        have lez:(tk.id:Int)≤(x.t.id:Int):=by omega
        clear hidq h0 hxa hxp
        go_wp2_with fail
        go_region
        have BX:Hid (Below w2.heap.size w2 w2.drew):=hid (Below.refl _ w2).drew
        go_wp2
        go_ret
        exact⟨aZ R3.out.symm,B1.out.trans ((B2.out.trans (BX.out.mono B2.out.size)).mono B1.out.size)⟩
     ·have NI:=hid hidq
      have h0z:((tk.id:Int)==0)=false:=by simp;omega
      have U3:Hid (T9.aT tk=0→¬ (ls.any fun l=>l.id==tk.list)=false→∃ a,T9.bK ls 0 (ay ms)=T9.bK ls a ((ay ms).drop (k+1))∧Prv (fun m:aN=>m.t.id) ms (k+1) a):=hid fun hf hn=>⟨tk.id,U2.out.trans (Cj NI.out hn hf),.inr ⟨_,Nat.succ_pos _,X.out,rfl⟩⟩
      have U4:Hid (∀ e,T9.aT tk=e→e≠0→¬ (ls.any fun l=>l.id==tk.list)=false→T9.aJ ⟨ls,ay ms⟩=e):=hid fun e he h0 hn=>by
       rw [R2.out,U2.out];unfold T9.bK;rw [if_neg NI.out,if_neg hn,if_pos (by rw [he];exact h0),he]
      rcases hP with⟨hi0,hP⟩ | ⟨x,hip,hxp,hxa⟩
      ·have ipz:decide ((0:Int)<(k:Int))=false:=by simp;omega
       have ipy:decide (0<k)=false:=by simp;omega
       clear hidq hi0 hP
       go_wp2_with fail
       go_region
       have BX:Hid (Below w2.heap.size w2 w2.drew):=hid (Below.refl _ w2).drew
       have Ko:=ae TB.out BX.out
       obtain⟨v0,v1',v2,v3,v4,v5,v6⟩:=ak Ko
       have TBX:=hid Ko
       have pbx:=ae PB2.out BX.out
       obtain⟨u0,u1⟩:=aa pbx
       have BZ:=hid (B2.out.trans (BX.out.mono B2.out.size))
       have LC:=hid (bv (A2:=some ad) (c:=c) (n2:=n2) (c2:=c2) (HL.out.stay BZ.out) E1.out sm1 tk.list)
       clear Ko pbx
       go_wp2_with fail
       refine LC.out.mono ?_
       rintro e w3 ⟨he,h3⟩
       obtain⟨lf,hlf⟩:∃ v,v=(T9.aW ls tk.list).1:=⟨_,rfl⟩
       obtain⟨b1,hb1⟩:∃ v,v=(T9.aW ls tk.list).2:=⟨_,rfl⟩
       rw [F7,← hlf,← hb1] at he
       subst he
       have HV:=hid (hb1.trans xB)
       clear hlf hb1
       obtain⟨w4,hw4⟩:=nm (w3.alloc (.cells #[.int .u64 (lf.id:Int),.string (str lf.name)] 61))
       obtain⟨_,b4,_⟩:=aj hw4
       have B4:=hid (h3.trans (b4.mono h3.size))
       have tb4:=ae TBX.out B4.out
       have TB4:=hid tb4
       obtain⟨g0,g1,g2,g3,g4,g5,g6⟩:=ak tb4
       have BY:=hid (BZ.out.trans (B4.out.mono BZ.out.size))
       have TC:=kJ tk.title SH.out.1
       clear h3 b4 tb4
       cases b1 with
       | false =>
        have R3:Hid (T9.aJ ⟨ls,ay ms⟩=91):=hid (by rw [R2.out,U2.out];unfold T9.bK;rw [if_neg NI.out,if_pos HV.out.symm])
        go_wp2_with fail
        go_ret
        exact⟨aZ R3.out.symm,B1.out.trans (BY.out.mono B1.out.size)⟩
       | true =>
        have AN:Hid (¬ (ls.any fun l=>l.id==tk.list)=false):=hid (by rw [← HV.out];simp)
        cases hT:T9.title tk.title with
        | false =>
         rw [hT] at TC
         have R3:Hid (T9.aJ ⟨ls,ay ms⟩=94):=hid (U4.out 94 (by unfold T9.aT;rw [if_pos hT]) (by decide) AN.out)
         go_wp2_with (first | (go_at_call 58;refine (TC _).mono ?_;rintro e w' ⟨rfl,rfl⟩) | (go_at_call 60;refine (eQ _ _).mono ?_;rintro e w' ⟨rfl,rfl⟩))
         go_ret
         exact⟨aZ R3.out.symm,B1.out.trans (BY.out.mono B1.out.size)⟩
        | true =>
         rw [hT] at TC
         have HT:=hid hT
         clear hT
         cases hN:Fl.dz tk.rank with
         | true =>
          have R3:Hid (T9.aJ ⟨ls,ay ms⟩=100):=hid (U4.out 100 (by unfold T9.aT;rw [if_neg (by rw [HT.out];simp),if_pos (by rw [hN];rfl)]) (by decide) AN.out)
          go_wp2_with (first | (go_at_call 58;refine (TC _).mono ?_;rintro e w' ⟨rfl,rfl⟩) | (go_at_call 60;refine (eQ _ _).mono ?_;rintro e w' ⟨rfl,rfl⟩))
          go_ret
          exact⟨aZ R3.out.symm,B1.out.trans (BY.out.mono B1.out.size)⟩
         | false =>
          cases hR:T9.n_ tk.rank with
          | false =>
           have R3:Hid (T9.aJ ⟨ls,ay ms⟩=100):=hid (U4.out 100 (by unfold T9.aT;rw [if_neg (by rw [HT.out];simp),if_pos (by rw [hN,hR];rfl)]) (by decide) AN.out)
           go_wp2_with (first | (go_at_call 58;refine (TC _).mono ?_;rintro e w' ⟨rfl,rfl⟩) | (go_at_call 60;refine (eQ _ _).mono ?_;rintro e w' ⟨rfl,rfl⟩))
           go_ret
           exact⟨aZ R3.out.symm,B1.out.trans (BY.out.mono B1.out.size)⟩
          | true =>
           have IW:Hid ((Fl.dz tk.rank || !T9.n_ tk.rank)=false):=hid (by rw [hN,hR];rfl)
           cases hE:T9.n_ tk.est with
           | false =>
            have R3:Hid (T9.aJ ⟨ls,ay ms⟩=90):=hid (U4.out 90 (by unfold T9.aT;rw [if_neg (by rw [HT.out];simp),if_neg (by rw [IW.out];simp),if_pos hE]) (by decide) AN.out)
            go_wp2_with (first | (go_at_call 58;refine (TC _).mono ?_;rintro e w' ⟨rfl,rfl⟩) | (go_at_call 60;refine (eQ _ _).mono ?_;rintro e w' ⟨rfl,rfl⟩))
            go_ret
            exact⟨aZ R3.out.symm,B1.out.trans (BY.out.mono B1.out.size)⟩
           | true =>
            have HE:Hid (T9.n_ tk.est=true):=hid hE
            by_cases hL:4<tk.tags.length
            ·have hLz:(4:Int)<(tk.tags.length:Int):=by omega
             have R3:Hid (T9.aJ ⟨ls,ay ms⟩=95):=hid (U4.out 95 (by unfold T9.aT;rw [if_neg (by rw [HT.out];simp),if_neg (by rw [IW.out];simp),if_neg (by rw [HE.out];simp),if_pos hL]) (by decide) AN.out)
             go_wp2_with (first | (go_at_call 58;refine (TC _).mono ?_;rintro e w' ⟨rfl,rfl⟩) | (go_at_call 60;refine (eQ _ _).mono ?_;rintro e w' ⟨rfl,rfl⟩))
             go_ret
             exact⟨aZ R3.out.symm,B1.out.trans (BY.out.mono B1.out.size)⟩
            ·have hLz:¬ ((4:Int)<(tk.tags.length:Int)):=by omega
             have FE:Hid (T9.aT tk=if T9.bT [] tk.tags=true then 0 else 94):=hid (by unfold T9.aT;rw [if_neg (by rw [HT.out];simp),if_neg (by rw [IW.out];simp),if_neg (by rw [HE.out];simp),if_neg hL])
             obtain⟨n,hn⟩:∃ n,n=tk.tags.length:=⟨_,rfl⟩
             have oC:=hid hn
             rw [← hn] at hLz
             have hsm:n≤4:=by omega
             have GL4:Hid (GL w4 A3 tk.tags):=hid ((FI.out.stay (B2'.out.trans ((BX.out.trans (B4.out.mono BX.out.size)).mono B2'.out.size))).gl)
             go_wp2_with (first | (go_at_call 58;refine (TC _).mono ?_;rintro e w' ⟨rfl,rfl⟩) | (go_at_call 60;refine (eQ _ _).mono ?_;rintro e w' ⟨rfl,rfl⟩))
             go_loopw [115] (fun Et wr=>∃ j:Nat,Et=.int .i64 j∧j≤n∧Hid (∃ a,T9.bT [] tk.tags=T9.bT a (tk.tags.drop j)∧PrvS tk.tags j a)∧Aside (Below w4.heap.size w4 wr)) (fun Et _=>n - (intOf Et).toNat)
             case atStart=>exact⟨0,rfl,Nat.zero_le _,hid ⟨[],rfl,.inl ⟨rfl,rfl⟩⟩,Below.refl _ _⟩
             case round =>
              obtain⟨j,rfl,hj,hUT,hC⟩:=hrel
              have CR:=hid hC.out
              clear hC
              by_cases hlt3:j<n
              ·have J5:(j:Int)<(n:Int):=by omega
               obtain⟨rE,x3,hA3,hx3,hc3⟩:=(GL4.out.stay CR.out).at_ (k:=j) (by have:=oC.out;omega)
               subst hA3
               obtain⟨a3,hUt,hPt⟩:=hUT.out
               have X3:=hid hx3
               have lx:=hid (SH.out.2.1 x3 (List.mem_of_getElem? hx3))
               have UT2:Hid (T9.bT [] tk.tags=(T9.tag x3 && T9.dN a3 x3 && T9.bT x3 (tk.tags.drop (j+1)))):=hid (by rw [hUt,drop_at hx3];rfl)
               have UT3:Hid (T9.tag x3=true→T9.dN a3 x3=true→∃ a,T9.bT [] tk.tags=T9.bT a (tk.tags.drop (j+1))∧PrvS tk.tags (j+1) a):=hid fun q1 q2=>⟨x3,by rw [UT2.out,q1,q2];rfl,.inr ⟨Nat.succ_pos _,X3.out⟩⟩
               have tbr:=ae TB4.out CR.out
               have gz6:=(ak tbr).2.2.2.2.2.2
               rw [← oC.out] at gz6
               have TG:=qR x3 lx.out
               have R4:Hid (T9.tag x3=false∨T9.dN a3 x3=false→T9.aJ ⟨ls,ay ms⟩=94):=hid fun q=>U4.out 94 (by
                rw [FE.out,UT2.out]
                rcases q with q | q <;> rw [q] <;> simp) (by decide) AN.out
               clear hx3 tbr hUt hUT
               cases hg:T9.tag x3 with
               | false =>
                rw [hg] at TG
                have R3:=hid (R4.out (.inl hg))
                clear hg hPt
                have BV:=CR
                go_wp2_with (go_at_call 61;refine (TG _).mono ?_;rintro e w' ⟨rfl,rfl⟩)
                go_ret
                exact⟨aZ R3.out.symm,B1.out.trans ((BY.out.trans (BV.out.mono BY.out.size)).mono B1.out.size)⟩
               | true =>
                rw [hg] at TG
                have HG:=hid hg
                clear hg
                rcases hPt with⟨hj0,ha0⟩ | ⟨hj1,hxp⟩
                ·subst ha0
                 have UT4:=hid (UT3.out HG.out (FU HG.out))
                 have jpz:decide ((0:Int)<(j:Int))=false:=by simp;omega
                 have jpy:decide (0<j)=false:=by simp;omega
                 clear hj0
                 have BV:=CR
                 go_wp2_with (go_at_call 61;refine (TG _).mono ?_;rintro e w' ⟨rfl,rfl⟩)
                 go_roundw
                 case rel=>exact⟨j+1,by go_num,by omega,UT4,BV.out⟩
                 case measure=>simp [intOf];omega
                ·obtain⟨IA,l',hA',hx',hcp⟩:=(GL4.out.stay CR.out).at_ (k:=j - 1) (by have:=oC.out;omega)
                 cases hA'
                 rw [hxp] at hx'
                 cases hx'
                 have jpz:(0:Int)<(j:Int):=by omega
                 have y1:(0:Int)≤(j:Int) - 1:=by omega
                 have y1':(1:Int)≤(j:Int):=by omega
                 have y2:(j:Int) - 1<(n:Int):=by omega
                 have y3:((j:Int) - 1).toNat=j - 1:=by omega
                 have y4:IntKind.i64.wrap ((j:Int) - 1)=(j:Int) - 1:=by rw [IntKind.wrap_i64];omega
                 clear hxp
                 cases hl:T9.dN a3 x3 with
                 | false =>
                  have R3:=hid (R4.out (.inr hl))
                  rcases DY hl with k1 | ⟨k1,k2⟩
                  all_goals
                   clear hl
                   have BV:=CR
                   go_wp2_with (go_at_call 61;refine (TG _).mono ?_;rintro e w' ⟨rfl,rfl⟩)
                   go_ret
                   exact⟨aZ R3.out.symm,B1.out.trans ((BY.out.trans (BV.out.mono BY.out.size)).mono B1.out.size)⟩
                 | true =>
                  have UT4:=hid (UT3.out HG.out hl)
                  obtain⟨k1,k2⟩:=Kq hl
                  clear hl
                  have BV:=CR
                  go_wp2_with (go_at_call 61;refine (TG _).mono ?_;rintro e w' ⟨rfl,rfl⟩)
                  go_roundw
                  case rel=>exact⟨j+1,by go_num,by omega,UT4,BV.out⟩
                  case measure=>simp [intOf];omega
              ·obtain rfl:j=n:=by omega
               have J5:¬ ((j:Int)<(j:Int)):=by omega
               have F0:Hid (T9.aT tk=0):=hid (by
                obtain⟨a,hU3,_⟩:=hUT.out
                rw [FE.out,hU3,oC.out,List.drop_length];rfl)
               have U5:=hid (U3.out F0.out AN.out)
               have BF:=hid (BY.out.trans (CR.out.mono BY.out.size))
               clear hUT
               go_wp2
               go_roundw
               case rel=>exact⟨k+1,by go_num,by omega,U5,BF.out⟩
               case measure=>simp [intOf];omega
      ·obtain⟨IA,l',hA',hx',_,q0',_⟩:=HK2.out.at_ (k:=k - 1) (by have:=E2.out;omega)
       cases hA'
       rw [hxp] at hx'
       cases hx'
       have hxa:x.t.id=a:=hxa
       have ipz:(0:Int)<(k:Int):=by omega
       have z1:(0:Int)≤(k:Int) - 1:=by omega
       have z1':(1:Int)≤(k:Int):=by omega
       have z2:(k:Int) - 1<(n2:Int):=by omega
       have z3:((k:Int) - 1).toNat=k - 1:=by omega
       have z4:IntKind.i64.wrap ((k:Int) - 1)=(k:Int) - 1:=by rw [IntKind.wrap_i64];omega
       have lez:decide ((tk.id:Int)≤(x.t.id:Int))=false:=by simp;omega
       have ley:decide (tk.id≤x.t.id)=false:=by simp;omega
       clear hidq hxa hxp
       go_wp2_with fail
       go_region
       have BX:Hid (Below w2.heap.size w2 w2.drew):=hid (Below.refl _ w2).drew
       have Ko:=ae TB.out BX.out
       obtain⟨v0,v1',v2,v3,v4,v5,v6⟩:=ak Ko
       have TBX:=hid Ko
       have pbx:=ae PB2.out BX.out
       obtain⟨u0,u1⟩:=aa pbx
       have BZ:=hid (B2.out.trans (BX.out.mono B2.out.size))
       have LC:=hid (bv (A2:=some ad) (c:=c) (n2:=n2) (c2:=c2) (HL.out.stay BZ.out) E1.out sm1 tk.list)
       clear Ko pbx
       go_wp2_with fail
       refine LC.out.mono ?_
       rintro e w3 ⟨he,h3⟩
       obtain⟨lf,hlf⟩:∃ v,v=(T9.aW ls tk.list).1:=⟨_,rfl⟩
       obtain⟨b1,hb1⟩:∃ v,v=(T9.aW ls tk.list).2:=⟨_,rfl⟩
       rw [F7,← hlf,← hb1] at he
       subst he
       have HV:=hid (hb1.trans xB)
       clear hlf hb1
       obtain⟨w4,hw4⟩:=nm (w3.alloc (.cells #[.int .u64 (lf.id:Int),.string (str lf.name)] 61))
       obtain⟨_,b4,_⟩:=aj hw4
       have B4:=hid (h3.trans (b4.mono h3.size))
       have tb4:=ae TBX.out B4.out
       have TB4:=hid tb4
       obtain⟨g0,g1,g2,g3,g4,g5,g6⟩:=ak tb4
       have BY:=hid (BZ.out.trans (B4.out.mono BZ.out.size))
       have TC:=kJ tk.title SH.out.1
       clear h3 b4 tb4
       cases b1 with
       | false =>
        have R3:Hid (T9.aJ ⟨ls,ay ms⟩=91):=hid (by rw [R2.out,U2.out];unfold T9.bK;rw [if_neg NI.out,if_pos HV.out.symm])
        go_wp2_with fail
        go_ret
        exact⟨aZ R3.out.symm,B1.out.trans (BY.out.mono B1.out.size)⟩
       | true =>
        have AN:Hid (¬ (ls.any fun l=>l.id==tk.list)=false):=hid (by rw [← HV.out];simp)
        cases hT:T9.title tk.title with
        | false =>
         rw [hT] at TC
         have R3:Hid (T9.aJ ⟨ls,ay ms⟩=94):=hid (U4.out 94 (by unfold T9.aT;rw [if_pos hT]) (by decide) AN.out)
         go_wp2_with (first | (go_at_call 58;refine (TC _).mono ?_;rintro e w' ⟨rfl,rfl⟩) | (go_at_call 60;refine (eQ _ _).mono ?_;rintro e w' ⟨rfl,rfl⟩))
         go_ret
         exact⟨aZ R3.out.symm,B1.out.trans (BY.out.mono B1.out.size)⟩
        | true =>
         rw [hT] at TC
         have HT:=hid hT
         clear hT
         cases hN:Fl.dz tk.rank with
         | true =>
          have R3:Hid (T9.aJ ⟨ls,ay ms⟩=100):=hid (U4.out 100 (by unfold T9.aT;rw [if_neg (by rw [HT.out];simp),if_pos (by rw [hN];rfl)]) (by decide) AN.out)
          go_wp2_with (first | (go_at_call 58;refine (TC _).mono ?_;rintro e w' ⟨rfl,rfl⟩) | (go_at_call 60;refine (eQ _ _).mono ?_;rintro e w' ⟨rfl,rfl⟩))
          go_ret
          exact⟨aZ R3.out.symm,B1.out.trans (BY.out.mono B1.out.size)⟩
         | false =>
          cases hR:T9.n_ tk.rank with
          | false =>
           have R3:Hid (T9.aJ ⟨ls,ay ms⟩=100):=hid (U4.out 100 (by unfold T9.aT;rw [if_neg (by rw [HT.out];simp),if_pos (by rw [hN,hR];rfl)]) (by decide) AN.out)
           go_wp2_with (first | (go_at_call 58;refine (TC _).mono ?_;rintro e w' ⟨rfl,rfl⟩) | (go_at_call 60;refine (eQ _ _).mono ?_;rintro e w' ⟨rfl,rfl⟩))
           go_ret
           exact⟨aZ R3.out.symm,B1.out.trans (BY.out.mono B1.out.size)⟩
          | true =>
           have IW:Hid ((Fl.dz tk.rank || !T9.n_ tk.rank)=false):=hid (by rw [hN,hR];rfl)
           cases hE:T9.n_ tk.est with
           | false =>
            have R3:Hid (T9.aJ ⟨ls,ay ms⟩=90):=hid (U4.out 90 (by unfold T9.aT;rw [if_neg (by rw [HT.out];simp),if_neg (by rw [IW.out];simp),if_pos hE]) (by decide) AN.out)
            go_wp2_with (first | (go_at_call 58;refine (TC _).mono ?_;rintro e w' ⟨rfl,rfl⟩) | (go_at_call 60;refine (eQ _ _).mono ?_;rintro e w' ⟨rfl,rfl⟩))
            go_ret
            exact⟨aZ R3.out.symm,B1.out.trans (BY.out.mono B1.out.size)⟩
           | true =>
            have HE:Hid (T9.n_ tk.est=true):=hid hE
            by_cases hL:4<tk.tags.length
            ·have hLz:(4:Int)<(tk.tags.length:Int):=by omega
             have R3:Hid (T9.aJ ⟨ls,ay ms⟩=95):=hid (U4.out 95 (by unfold T9.aT;rw [if_neg (by rw [HT.out];simp),if_neg (by rw [IW.out];simp),if_neg (by rw [HE.out];simp),if_pos hL]) (by decide) AN.out)
             go_wp2_with (first | (go_at_call 58;refine (TC _).mono ?_;rintro e w' ⟨rfl,rfl⟩) | (go_at_call 60;refine (eQ _ _).mono ?_;rintro e w' ⟨rfl,rfl⟩))
             go_ret
             exact⟨aZ R3.out.symm,B1.out.trans (BY.out.mono B1.out.size)⟩
            ·have hLz:¬ ((4:Int)<(tk.tags.length:Int)):=by omega
             have FE:Hid (T9.aT tk=if T9.bT [] tk.tags=true then 0 else 94):=hid (by unfold T9.aT;rw [if_neg (by rw [HT.out];simp),if_neg (by rw [IW.out];simp),if_neg (by rw [HE.out];simp),if_neg hL])
             obtain⟨n,hn⟩:∃ n,n=tk.tags.length:=⟨_,rfl⟩
             have oC:=hid hn
             rw [← hn] at hLz
             have hsm:n≤4:=by omega
             have GL4:Hid (GL w4 A3 tk.tags):=hid ((FI.out.stay (B2'.out.trans ((BX.out.trans (B4.out.mono BX.out.size)).mono B2'.out.size))).gl)
             go_wp2_with (first | (go_at_call 58;refine (TC _).mono ?_;rintro e w' ⟨rfl,rfl⟩) | (go_at_call 60;refine (eQ _ _).mono ?_;rintro e w' ⟨rfl,rfl⟩))
             go_loopw [115] (fun Et wr=>∃ j:Nat,Et=.int .i64 j∧j≤n∧Hid (∃ a,T9.bT [] tk.tags=T9.bT a (tk.tags.drop j)∧PrvS tk.tags j a)∧Aside (Below w4.heap.size w4 wr)) (fun Et _=>n - (intOf Et).toNat)
             case atStart=>exact⟨0,rfl,Nat.zero_le _,hid ⟨[],rfl,.inl ⟨rfl,rfl⟩⟩,Below.refl _ _⟩
             case round =>
              obtain⟨j,rfl,hj,hUT,hC⟩:=hrel
              have CR:=hid hC.out
              clear hC
              by_cases hlt3:j<n
              ·have J5:(j:Int)<(n:Int):=by omega
               obtain⟨rE,x3,hA3,hx3,hc3⟩:=(GL4.out.stay CR.out).at_ (k:=j) (by have:=oC.out;omega)
               subst hA3
               obtain⟨a3,hUt,hPt⟩:=hUT.out
               have X3:=hid hx3
               have lx:=hid (SH.out.2.1 x3 (List.mem_of_getElem? hx3))
               have UT2:Hid (T9.bT [] tk.tags=(T9.tag x3 && T9.dN a3 x3 && T9.bT x3 (tk.tags.drop (j+1)))):=hid (by rw [hUt,drop_at hx3];rfl)
               have UT3:Hid (T9.tag x3=true→T9.dN a3 x3=true→∃ a,T9.bT [] tk.tags=T9.bT a (tk.tags.drop (j+1))∧PrvS tk.tags (j+1) a):=hid fun q1 q2=>⟨x3,by rw [UT2.out,q1,q2];rfl,.inr ⟨Nat.succ_pos _,X3.out⟩⟩
               have tbr:=ae TB4.out CR.out
               have gz6:=(ak tbr).2.2.2.2.2.2
               rw [← oC.out] at gz6
               have TG:=qR x3 lx.out
               have R4:Hid (T9.tag x3=false∨T9.dN a3 x3=false→T9.aJ ⟨ls,ay ms⟩=94):=hid fun q=>U4.out 94 (by
                rw [FE.out,UT2.out]
                rcases q with q | q <;> rw [q] <;> simp) (by decide) AN.out
               clear hx3 tbr hUt hUT
               cases hg:T9.tag x3 with
               | false =>
                rw [hg] at TG
                have R3:=hid (R4.out (.inl hg))
                clear hg hPt
                have BV:=CR
                go_wp2_with (go_at_call 61;refine (TG _).mono ?_;rintro e w' ⟨rfl,rfl⟩)
                go_ret
                exact⟨aZ R3.out.symm,B1.out.trans ((BY.out.trans (BV.out.mono BY.out.size)).mono B1.out.size)⟩
               | true =>
                rw [hg] at TG
                have HG:=hid hg
                clear hg
                rcases hPt with⟨hj0,ha0⟩ | ⟨hj1,hxp⟩
                ·subst ha0
                 have UT4:=hid (UT3.out HG.out (FU HG.out))
                 have jpz:decide ((0:Int)<(j:Int))=false:=by simp;omega
                 have jpy:decide (0<j)=false:=by simp;omega
                 clear hj0
                 have BV:=CR
                 go_wp2_with (go_at_call 61;refine (TG _).mono ?_;rintro e w' ⟨rfl,rfl⟩)
                 go_roundw
                 case rel=>exact⟨j+1,by go_num,by omega,UT4,BV.out⟩
                 case measure=>simp [intOf];omega
                ·obtain⟨IA,l',hA',hx',hcp⟩:=(GL4.out.stay CR.out).at_ (k:=j - 1) (by have:=oC.out;omega)
                 cases hA'
                 rw [hxp] at hx'
                 cases hx'
                 have jpz:(0:Int)<(j:Int):=by omega
                 have y1:(0:Int)≤(j:Int) - 1:=by omega
                 have y1':(1:Int)≤(j:Int):=by omega
                 have y2:(j:Int) - 1<(n:Int):=by omega
                 have y3:((j:Int) - 1).toNat=j - 1:=by omega
                 have y4:IntKind.i64.wrap ((j:Int) - 1)=(j:Int) - 1:=by rw [IntKind.wrap_i64];omega
                 clear hxp
                 cases hl:T9.dN a3 x3 with
                 | false =>
                  have R3:=hid (R4.out (.inr hl))
                  rcases DY hl with k1 | ⟨k1,k2⟩
                  all_goals
                   clear hl
                   have BV:=CR
                   go_wp2_with (go_at_call 61;refine (TG _).mono ?_;rintro e w' ⟨rfl,rfl⟩)
                   go_ret
                   exact⟨aZ R3.out.symm,B1.out.trans ((BY.out.trans (BV.out.mono BY.out.size)).mono B1.out.size)⟩
                 | true =>
                  have UT4:=hid (UT3.out HG.out hl)
                  obtain⟨k1,k2⟩:=Kq hl
                  clear hl
                  have BV:=CR
                  go_wp2_with (go_at_call 61;refine (TG _).mono ?_;rintro e w' ⟨rfl,rfl⟩)
                  go_roundw
                  case rel=>exact⟨j+1,by go_num,by omega,UT4,BV.out⟩
                  case measure=>simp [intOf];omega
              ·obtain rfl:j=n:=by omega
               have J5:¬ ((j:Int)<(j:Int)):=by omega
               have F0:Hid (T9.aT tk=0):=hid (by
                obtain⟨a,hU3,_⟩:=hUT.out
                rw [FE.out,hU3,oC.out,List.drop_length];rfl)
               have U5:=hid (U3.out F0.out AN.out)
               have BF:=hid (BY.out.trans (CR.out.mono BY.out.size))
               clear hUT
               go_wp2
               go_roundw
               case rel=>exact⟨k+1,by go_num,by omega,U5,BF.out⟩
               case measure=>simp [intOf];omega
    ·obtain rfl:k=n2:=by omega
     have uP:¬ ((k:Int)<(k:Int)):=by omega
     have R3:Hid (T9.aJ ⟨ls,ay ms⟩=0):=hid (by
      obtain⟨a,hU2,_⟩:=hU.out
      rw [R2.out,hU2,E2.out,← aK ms,List.drop_length];rfl)
     go_wp2
     go_ret
     exact⟨aZ R3.out.symm,B1.out.trans (BO.out.mono B1.out.size)⟩
end
end Go.Proofs.YtcmiompdjjiojaaGreat
