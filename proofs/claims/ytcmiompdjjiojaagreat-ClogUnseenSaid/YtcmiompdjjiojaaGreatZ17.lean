import Derived.Test.YtcmiompdjjiojaaGreatZ16
namespace Go.Proofs.YtcmiompdjjiojaaGreat
set_option maxHeartbeats 16000000
open Go.Lib Go.Proofs.Tryz
set_option linter.unusedSimpArgs false
set_option maxRecDepth 100000
section
section
open Go.Shelf Go.RowKit Go.Lib Go.Sort
theorem AU (a:ByteArray) (w:World):Calls prog 165 #[.string a] w fun e w'=>e=.returned (.bool false)∧w=w':=by
 go_enter func165,ntmps165
 go_wp2
 go_ret
 exact⟨by simp,rfl⟩
theorem GX {a b:List UInt8} (h:T9.dN a b=true) (w:World):Calls prog 164 #[.string (str a),.string (str b)] w fun e w'=>e=.returned (.bool true)∧w=w':=by
 have hb:=qJ (of_decide_eq_true h)
 clear h
 go_enter func164,ntmps164
 go_wp2_with (go_at_call 156;refine (m_ _ _).mono ?_;rintro e w' ⟨rfl,rfl⟩)
 go_ret
 exact⟨rfl,rfl⟩
theorem Kr {a b:List UInt8} (h:T9.dN a b=false) (w:World):Calls prog 164 #[.string (str a),.string (str b)] w fun e w'=>e=.returned (.bool false)∧w=w':=by
 have hb:=qI (of_decide_eq_false h)
 clear h
 go_enter func164,ntmps164
 go_wp2_with (go_at_call 156;refine (m_ _ _).mono ?_;rintro e w' ⟨rfl,rfl⟩)
 go_ret
 exact⟨rfl,rfl⟩
theorem xQ {A:Option Addr} {n c:Nat} {x:List UInt8} {ts:List (List UInt8)} {w:World} (hk:GL w A ts) (hn:n=ts.length) (hs:n≤1000000) (hu:Sr.Str T9.dN ts) :
  Calls prog 149 #[.slice A n c,.string (str x)] w fun e w'=>e=.returned (.tuple #[.int .i64 (T9.oM ts x:Int),.bool (T9.rZ ts x)])∧w=w':=by
 have HK:=hid hk
 have HN:=hid hn
 obtain⟨k,hk0⟩:=nm (T9.oM ts x)
 obtain⟨hb,hb0⟩:=nm (T9.rZ ts x)
 have kn:k≤n:=by rw [← hk0,hn];exact Sr.pO
 have ids:Hid (∀ i t,ts[i]?=some t→(i<k↔T9.dN t x=true)):=hid fun i t hi=>by rw [← hk0];exact T9.Ll hu hi
 have HAS:Hid (hb=true↔∃ l,ts[k]?=some l∧l=x):=hid (by rw [← hk0,← hb0];exact T9.yO hu)
 rw [hk0,hb0]
 clear hk hn hu hk0 hb0
 go_enter func149,ntmps149
 go_wp2_with fail
 go_loopg [7,8] n (fun kx s7 s8 wr=>∃ lo hi:Nat,s7=.int .i64 lo∧s8=.int .i64 hi∧lo≤hi∧hi≤n∧hi - lo≤kx∧lo≤k∧k≤hi∧Aside (w=wr))
 case atStart=>exact⟨0,n,rfl,rfl,Nat.zero_le _,Nat.le_refl _,by omega,Nat.zero_le _,kn,rfl⟩
 case round =>
  obtain⟨lo,hi,rfl,rfl,hlh,hin,hg,hlk,hkh,hB⟩:=hrel
  obtain rfl:w=wr:=hB.out
  clear hB
  by_cases hlt:lo<hi
  ·obtain⟨ad,t,hA,hx,r0⟩:=HK.out.at_ (k:=(lo+hi) / 2) (by have:=HN.out;omega)
   subst hA
   have ids:=ids.out _ _ hx
   clear hx
   by_cases hc:(lo+hi) / 2<k
   ·have PC:=hid (GX (ids.1 hc) w)
    clear ids
    go_wp2_with (go_at_call 164;refine PC.out.mono ?_;rintro e w' ⟨rfl,rfl⟩)
    go_roundg (hi - ((lo+hi) / 2+1))
    case measure=>omega
    case rel=>exact⟨(lo+hi) / 2+1,hi,by rw [show ((lo:Int)+(hi:Int)) / 2+1=(((lo+hi) / 2+1:Nat):Int) by omega],rfl,by omega,hin,Nat.le_refl _,by omega,hkh,rfl⟩
   ·have PC:=hid (Kr (by cases q:T9.dN t x with | false=>rfl | true=>exact absurd (ids.2 q) hc) w)
    clear ids
    go_wp2_with (go_at_call 164;refine PC.out.mono ?_;rintro e w' ⟨rfl,rfl⟩)
    go_roundg ((lo+hi) / 2 - lo)
    case measure=>omega
    case rel=>exact⟨lo,(lo+hi) / 2,rfl,by rw [show ((lo:Int)+(hi:Int)) / 2=(((lo+hi) / 2:Nat):Int) by omega],by omega,by omega,Nat.le_refl _,by omega,by omega,rfl⟩
  ·obtain rfl:hi=lo:=by omega
   obtain rfl:k=hi:=by omega
   by_cases hkn:k<n
   ·have knz:(k:Int)<(n:Int):=by omega
    obtain⟨ad,t,hA,hx,r0⟩:=HK.out.at_ (k:=k) (by have:=HN.out;omega)
    subst hA
    have hm:hb=true↔t=x:=by
     rw [HAS.out,hx]
     simp
    clear hx
    cases hb with
    | true =>
     have e:(str t==str x)=true:=by rw [lL,hm.1 rfl];exact decide_eq_true rfl
     have e2:(t==x)=true:=by rw [hm.1 rfl];exact beq_self_eq_true _
     clear hm
     go_wp2_with (go_at_call 165;refine (AU _ _).mono ?_;rintro e w' ⟨rfl,rfl⟩)
     go_ret2
     exact⟨rfl,rfl⟩
    | false =>
     have q2:t≠x:=fun z=>by have:=hm.2 z;cases this
     have e:(str t==str x)=false:=by rw [lL];exact decide_eq_false q2
     have e2:(t==x)=false:=by simpa using q2
     clear hm q2
     go_wp2_with (go_at_call 165;refine (AU _ _).mono ?_;rintro e w' ⟨rfl,rfl⟩)
     go_ret2
     exact⟨rfl,rfl⟩
   ·obtain rfl:k=n:=by omega
    have knz:¬ ((k:Int)<(k:Int)):=by omega
    have hm:hb=false:=by
     cases hb with
     | false=>rfl
     | true =>
      obtain⟨l,hl,_⟩:=HAS.out.1 rfl
      rw [List.getElem?_eq_none (by have:=HN.out;omega)] at hl
      cases hl
    subst hm
    go_wp2_with fail
    go_ret2
    exact⟨rfl,rfl⟩
theorem goneL_c {u:T9.Mu} {gm:Nat} (m:aN) (W:World) (hm:kP u gm W) :
  Calls prog 106 #[.agg (aA m).toArray,.pointer (some ⟨gm,0,none⟩)] W fun e w'=>e=.returned (.bool (m.t.list==u.id))∧Below W.heap.size W w':=by
 obtain⟨w1,hw1⟩:=nm (W.alloc (.cells (aA m).toArray 64))
 unfold aA at hw1 ⊢
 obtain⟨lb,b1,z1⟩:=bf hw1
 obtain⟨l0,l1,l2,l3,l4,l5,l6⟩:=ak lb
 obtain⟨m0,m1,m2,m3,m4,m5⟩:=ag (hm.stay b1)
 have B1:=hid b1
 have e:((m.t.list:Int)==(u.id:Int))=(m.t.list==u.id):=by
  rw [Bool.eq_iff_iff,beq_iff_eq,beq_iff_eq]
  omega
 have E:=hid e
 clear b1 lb z1 e hm
 go_enter func106,ntmps106
 go_wp2
 go_ret
 exact⟨aI (by first | exact E.out | simp),B1.out⟩
theorem goneD_c {u:T9.Mu} {gm:Nat} (m:aN) (W:World) (hm:kP u gm W) :
  Calls prog 107 #[.agg (aA m).toArray,.pointer (some ⟨gm,0,none⟩)] W fun e w'=>e=.returned (.bool (m.t.list==u.list && m.t.done))∧Below W.heap.size W w':=by
 obtain⟨w1,hw1⟩:=nm (W.alloc (.cells (aA m).toArray 64))
 unfold aA at hw1 ⊢
 obtain⟨lb,b1,z1⟩:=bf hw1
 obtain⟨l0,l1,l2,l3,l4,l5,l6⟩:=ak lb
 obtain⟨m0,m1,m2,m3,m4,m5⟩:=ag (hm.stay b1)
 have B1:=hid b1
 obtain⟨b,hb⟩:=nm ((m.t.list==u.list))
 have e:((m.t.list:Int)==(u.list:Int))=b:=by
  rw [← hb,Bool.eq_iff_iff,beq_iff_eq,beq_iff_eq]
  omega
 rw [hb]
 clear b1 lb z1 hm
 cases b with
 | true =>
  go_enter func107,ntmps107
  go_wp2
  go_ret
  exact⟨rfl,B1.out⟩
 | false =>
  go_enter func107,ntmps107
  go_wp2
  go_ret
  exact⟨rfl,B1.out⟩
namespace Sr
theorem FD {α:Type} {q:α→Bool}:∀ {l:List α} {i:Nat} {y:α},(∀ x∈l.take i,q x=true)→l[i]?=some y→q y=false→pos q l=i
 | [],i,y,_,h,_=>by simp at h
 | x :: l,0,y,_,h,hy=>by
  simp only [List.getElem?_cons_zero,Option.some.injEq] at h
  subst h
  rw [jJ,if_neg (by rw [hy];decide)]
 | x :: l,i+1,y,ha,h,hy=>by
  rw [List.getElem?_cons_succ] at h
  rw [jJ,if_pos (ha x (by simp)),FD (fun z hz=>ha z (by simp [hz])) h hy]
end Sr
def Aw (p:T9.Tk→Bool) (l:List T9.Tk):Int:=if l.any p=true then (Sr.pos (fun t=>!p t) l:Int) else -1
theorem Kh {A:Option Addr} {n c gm:Nat} {u:T9.Mu} {F:FuncId} {p:T9.Tk→Bool} {ms:List aN} {w:World} (hk:KL w A ms) (hn:n=ms.length) (hs:n≤1000000) (hm:kP u gm w)
  (hC:∀ (args:Array Value) (w:World),(callFunc F args).run prog w=.ok (.enter F args) w) (hF:∀ (m:aN) (W:World),kP u gm W→Calls prog F #[.agg (aA m).toArray,.pointer (some ⟨gm,0,none⟩)] W fun e w'=>e=.returned (.bool (p m.t))∧Below W.heap.size W w') :
  Calls prog 142 #[.slice A n c,.func (.func F) #[] #[.pointer (some ⟨gm,0,none⟩)]] w fun e w'=>e=.returned (.int .i64 (Aw p (ay ms)))∧Below w.heap.size w w':=by
 have HK:=hid hk
 have HN:=hid hn
 have HM:=hid hm
 have HF:=hid hF
 clear hk hn hm hF
 go_enter func142,ntmps142
 go_wp2_with fail
 go_loopw [8] (fun s8 wr=>∃ i:Nat,s8=.int .i64 i∧i≤n∧Hid (∀ x∈(ay ms).take i,(!p x)=true)∧Aside (Below w.heap.size w wr)) (fun s8 _=>n - (intOf s8).toNat)
 case atStart=>exact⟨0,rfl,Nat.zero_le _,hid (by simp),Below.refl _ _⟩
 case round =>
  obtain⟨i,rfl,hi,HU,hB⟩:=hrel
  have BR:=hid hB.out
  clear hB
  by_cases hlt:i<n
  ·have hltz:(i:Int)<(n:Int):=by omega
   obtain⟨ad,m,hA,hx,hf,r0,r1,r2,r3,r4,r5,r6⟩:=(HK.out.stay BR.out).at_ (k:=i) (by have:=HN.out;omega)
   subst hA
   have X:Hid ((ay ms)[i]?=some m.t):=hid (iA hx)
   have PC:=hid (HF.out m wr (HM.out.stay BR.out))
   unfold aA at PC
   clear hx hf
   obtain⟨b,hb⟩:=nm (p m.t)
   rw [hb] at PC
   cases b with
   | true =>
    have FF:Hid (Aw p (ay ms)=(i:Int)):=hid (by
     unfold Aw
     rw [if_pos (List.any_eq_true.2 ⟨m.t,List.mem_of_getElem? X.out,hb⟩),Sr.FD HU.out X.out (by rw [hb];rfl)])
    clear hb
    go_wp2_with fail
    refine PC.out.mono ?_
    rintro e w2 ⟨rfl,h2⟩
    have H2:=hid h2
    clear h2
    go_wp2
    go_ret
    exact⟨by rw [FF.out];rfl,BR.out.trans (H2.out.mono BR.out.size)⟩
   | false =>
    have FF:Hid (∀ x∈(ay ms).take (i+1),(!p x)=true):=hid fun x hx=>by
     rw [kv X.out] at hx
     rcases List.mem_append.1 hx with q | q
     ·exact HU.out x q
     ·simp only [List.mem_cons,List.not_mem_nil,or_false] at q
      subst q
      rw [hb];rfl
    clear hb
    go_wp2_with fail
    refine PC.out.mono ?_
    rintro e w2 ⟨rfl,h2⟩
    have H2:=hid h2
    clear h2
    go_wp2
    go_roundw
    case rel=>exact⟨i+1,by go_num,by omega,FF,BR.out.trans (H2.out.mono BR.out.size)⟩
    case measure=>simp [intOf];omega
  ·obtain rfl:i=n:=by omega
   have hltz:¬ ((i:Int)<(i:Int)):=by omega
   have FF:Hid (Aw p (ay ms)=-1):=hid (by
    unfold Aw
    rw [if_neg]
    intro q
    obtain⟨x,hx,hp⟩:=List.any_eq_true.1 q
    have:=HU.out x (by rw [List.take_of_length_le (by rw [aK];have:=HN.out;omega)];exact hx)
    rw [hp] at this
    cases this)
   go_wp2
   go_ret
   exact⟨by rw [FF.out];rfl,BR.out⟩
end
section
open Go.Shelf Go.RowKit Go.Lib Go.Sort
theorem kP.keepG {m:T9.Mu} {gm g B n c:Nat} {w w':World} {xs:List Value} (h:kP m gm w) (hg:w.grownBy w' (some g)) (ho:w.ownsRow B 64 7 (.slice (some ⟨g,0,none⟩) n c) n xs):kP m gm w':=by
 obtain⟨cur,_,hb,_⟩:=fB ho
 exact (hg.block gm (lt_of_block h) (fun e=>by injection e with e;exact Jm h hb (by decide) e)).trans h
theorem JM {ms:List aN} {i:Nat} {x m:aN} (hx:ms[i]?=some x):splice (ai ms) (i * 7) (aA m)=ai (ms.set i m):=by
 have hi:i<ms.length:=(List.getElem?_eq_some_iff.1 hx).1
 exact (uD (f:=aA) (size:=7) (fun _ _=>aU _) hi (aU m)).symm
theorem si {α:Type} {p:α→Bool} {l:List α} {j:Nat} {x:α} (h:l[j]?=some x):(l.take (j+1)).filter p=(l.take j).filter p++(if p x=true then [x] else []):=by
 rw [kv h,List.filter_append]
 congr 1
 rw [List.filter_cons]
 split <;> simp_all
theorem any_not {α:Type} {p:α→Bool} {l:List α} (h:l.any p=false):l.filter (fun x=>!p x)=l:=by
 rw [List.filter_eq_self]
 intro x hx
 rw [List.any_eq_false] at h
 have:=h x hx
 simpa using this
theorem Lm {α:Type} {p:α→Bool} {l:List α} (h:l.any p=true):∃ x,l[Sr.pos (fun t=>!p t) l]?=some x∧p x=true∧(l.take (Sr.pos (fun t=>!p t) l)).filter (fun t=>!p t)=l.take (Sr.pos (fun t=>!p t) l):=by
 induction l with
 | nil=>simp at h
 | cons y l ih =>
  rw [Sr.jJ]
  cases q:p y with
  | true =>
   rw [if_neg (show ¬ (!true)=true by decide)]
   exact⟨y,by simp,q,by simp⟩
  | false =>
   rw [if_pos (show (!false)=true from rfl)]
   have h':l.any p=true:=by simpa [q] using h
   obtain⟨x,h1,h2,h3⟩:=ih h'
   refine⟨x,by rw [List.getElem?_cons_succ];exact h1,h2,?_⟩
   rw [List.take_succ_cons,List.filter_cons,if_pos (by rw [q];rfl),h3]
theorem pos_map {p:T9.Tk→Bool} (ms:List aN):Sr.pos (fun t=>!p t) (ay ms)=Sr.pos (fun m:aN=>!p m.t) ms:=by
 induction ms with
 | nil=>rfl
 | cons m ms ih =>
  show Sr.pos _ (m.t :: ay ms)=_
  rw [Sr.jJ,Sr.jJ,ih]
theorem any_map {p:T9.Tk→Bool} (ms:List aN):(ay ms).any p=ms.any fun m=>p m.t:=by
 unfold ay
 rw [List.any_map]
 rfl
theorem xA {n c gm B:Nat} {A:Option Addr} {u:T9.Mu} {F:FuncId} {p:T9.Tk→Bool} {ms:List aN} {w:World} (h:dZ w B 64 7 A n c (ai ms)) (hn:n=ms.length) (ht:∀ m∈ms,m.fine w) (hm:kP u gm w) (hs:n≤1000)
  (hC:∀ (args:Array Value) (w:World),(callFunc F args).run prog w=.ok (.enter F args) w) (hF:∀ (m:aN) (W:World),kP u gm W→Calls prog F #[.agg (aA m).toArray,.pointer (some ⟨gm,0,none⟩)] W fun e w'=>e=.returned (.bool (p m.t))∧Below W.heap.size W w') :
  Calls prog 105 #[.slice A n c,.func (.func F) #[] #[.pointer (some ⟨gm,0,none⟩)]] w (pE 64 7 A c (ai (ms.filter fun m=>!p m.t)) (ms.filter fun m=>!p m.t).length B w):=by
 have HK:Hid (KL w A ms):=hid ⟨(h.lies (by rw [aP,hn])).old,ht⟩
 have HN:=hid hn
 have HM:=hid hm
 have HF:=hid hF
 have IC:=hid (Kh (c:=c) HK.out HN.out (by omega:n≤1000000) HM.out hC HF.out)
 have HO:=hid h
 obtain⟨ix,hix⟩:=nm (Aw p (ay ms))
 rw [hix] at IC
 have HIX:=hid hix
 cases hany:ms.any fun m=>p m.t with
 | false =>
  obtain rfl:ix=-1:=by rw [← hix];unfold Aw;rw [any_map,hany];rfl
  have FL:Hid ((ms.filter fun m=>!p m.t)=ms):=hid (any_not hany)
  rw [FL.out]
  clear h hn ht hm hF hix hany
  go_enter func105,ntmps105
  go_wp2_with (go_at_call 142;refine IC.out.mono ?_;rintro e w1 ⟨rfl,h1⟩;have H1:=hid h1;clear h1)
  go_ret
  exact⟨A,c,by rw [HN.out];rfl,by rw [← HN.out];exact HO.out.below H1.out,eP H1.out,.inl rfl⟩
 | true =>
  obtain⟨g,rfl,c0,own⟩:=h.parts.resolve_left (fun q=>by
   have:ms=[]:=List.length_eq_zero_iff.1 (by omega)
   subst this
   cases hany)
  obtain⟨x0,hx0,hp0,hk0⟩:=Lm hany
  obtain⟨i0,hi0⟩:=nm (Sr.pos (fun m:aN=>!p m.t) ms)
  rw [hi0] at hx0 hk0
  obtain rfl:ix=(i0:Int):=by rw [← hix];unfold Aw;rw [any_map,hany,if_pos rfl,pos_map,hi0]
  have nc:=(aO own).2
  have i0n:i0<n:=by rw [hn];exact (List.getElem?_eq_some_iff.1 hx0).1
  have K0:Hid ((ms.take (i0+1)).filter (fun m=>!p m.t)=ms.take i0):=hid (by rw [si hx0,hk0,hp0];simp)
  have ix1:((i0:Int)==-1)=false:=by rw [beq_eq_false_iff_ne];omega
  have OW:=hid own
  clear h hn ht hm hF hix hany own hx0 hk0 hp0 hi0 HO
  go_enter func105,ntmps105
  go_wp2_with (go_at_call 142;refine IC.out.mono ?_;rintro e w1 ⟨rfl,h1⟩;have H1:=hid h1;clear h1)
  go_loopw [5,6] (fun s5 s6 wr=>∃ (i j:Nat) (cur:List aN),s5=.int .i64 i∧s6=.int .i64 j∧i<j∧j≤n∧Hid (cur.length=n∧cur.take i=(ms.take j).filter (fun m=>!p m.t)∧cur.drop j=ms.drop j∧i≤cur.length)∧Aside (wr.ownsRow B 64 7 (.slice (some ⟨g,0,none⟩) n c) n (ai cur)∧w.grownBy wr (some g))) (fun _ s6 _=>n - (intOf s6).toNat)
  case atStart=>exact⟨i0,i0+1,ms,rfl,by go_num,by omega,by omega,hid ⟨HN.out.symm,K0.out.symm,rfl,by rw [← HN.out];omega⟩,own_below OW.out H1.out,eP H1.out⟩
  case round =>
   obtain⟨i,j,cur,rfl,rfl,hij,hjn,HC,hA⟩:=hrel
   have OR:=hid hA.out.1
   have GR:=hid hA.out.2
   clear hA
   by_cases hlt:j<n
   ·have hltz:(j:Int)<(n:Int):=by omega
    obtain⟨m,hmj⟩:∃ m,cur[j]?=some m:=⟨_,List.getElem?_eq_getElem (by rw [HC.out.1];exact hlt)⟩
    have XJ:=hid hmj
    have XM:Hid (ms[j]?=some m):=hid (by
     have q:=congrArg (fun l:List aN=>l[0]?) HC.out.2.2.1
     simp only [List.getElem?_drop,Nat.add_zero] at q
     rw [← q];exact hmj)
    have cell:∀ k v,(aA m)[k]?=some v→wr.cell? ⟨g,j * 7+k,none⟩=some v:=fun k v hv=>by
     have hk:k<7:=by
      rcases Nat.lt_or_ge k (aA m).length with q | q
      ·rw [aU] at q;exact q
      ·rw [List.getElem?_eq_none q] at hv;cases hv
     exact df OR.out ((ig (f:=aA) (size:=7) (fun x _=>aU x) hmj hk).trans hv)
    have r0:=cell 0 _ rfl
    have r1:=cell 1 _ rfl
    have r2:=cell 2 _ rfl
    have r3:=cell 3 _ rfl
    have r4:=cell 4 _ rfl
    have r5:=cell 5 _ rfl
    have r6:=cell 6 _ rfl
    rw [Nat.add_zero] at r0
    obtain⟨w2,hw2⟩:=nm (wr.alloc (.cells #[.int .u64 (m.t.id:Int),.int .u64 (m.t.list:Int),.string (str m.t.title),.bool m.t.done,.float .f64 m.t.rank,.float .f64 m.t.est,.slice m.A m.t.tags.length m.c] 64))
    obtain⟨lb,b2,z2⟩:=bf hw2
    obtain⟨l0,l1,l2,l3,l4,l5,l6⟩:=ak lb
    have B2:=hid b2
    have LB:=hid lb
    have M2:=hid (HM.out.keepG GR.out OW.out)
    have PC:=hid (HF.out m w2 (M2.out.stay b2))
    unfold aA at PC
    obtain⟨b,hb⟩:=nm (p m.t)
    rw [hb] at PC
    have HBB:=hid hb
    have DJ:Hid (cur.drop (j+1)=ms.drop (j+1)):=hid (by have q:=congrArg (List.drop 1) HC.out.2.2.1;rw [List.drop_drop,List.drop_drop] at q;exact q)
    clear cell hmj lb b2 z2 hb
    cases b with
    | true =>
     go_wp2_with fail
     refine PC.out.mono ?_
     rintro e w3 ⟨rfl,h3⟩
     have H3:=hid h3
     clear h3
     go_wp2
     go_roundw
     case rel=>exact⟨i,j+1,cur,rfl,by go_num,by omega,by omega,hid ⟨HC.out.1,by rw [si XM.out,HBB.out];simpa using HC.out.2.1,DJ.out,HC.out.2.2.2⟩,own_below (own_below OR.out B2.out) H3.out,dM GR.out (eP (B2.out.trans (H3.out.mono B2.out.size)))⟩
     case measure=>simp [intOf];omega
    | false =>
     go_wp2_with fail
     refine PC.out.mono ?_
     rintro e w3 ⟨rfl,h3⟩
     have H3:=hid h3
     have OR3:=hid (own_below (own_below OR.out B2.out) h3)
     obtain⟨xi,hxi⟩:∃ x,cur[i]?=some x:=⟨_,List.getElem?_eq_getElem (by rw [HC.out.1];omega)⟩
     have XI:=hid hxi
     have th:∀ k,k<7→(w3.cell? ⟨g,i * 7+k,none⟩).isSome=true∧w3.frozen? ⟨g,i * 7+k,none⟩=false:=fun k hk =>
      lK OR3.out (o:=i * 7) (m:=7) (by rw [aP,HC.out.1];omega) k hk
     obtain⟨v0,q0⟩:=Option.isSome_iff_exists.1 (th 0 (by decide)).1
     obtain⟨v1,q1⟩:=Option.isSome_iff_exists.1 (th 1 (by decide)).1
     obtain⟨v2,q2⟩:=Option.isSome_iff_exists.1 (th 2 (by decide)).1
     obtain⟨v3,q3⟩:=Option.isSome_iff_exists.1 (th 3 (by decide)).1
     obtain⟨v4,q4⟩:=Option.isSome_iff_exists.1 (th 4 (by decide)).1
     obtain⟨v5,q5⟩:=Option.isSome_iff_exists.1 (th 5 (by decide)).1
     obtain⟨v6,q6⟩:=Option.isSome_iff_exists.1 (th 6 (by decide)).1
     have f0:=(th 0 (by decide)).2
     have f1:=(th 1 (by decide)).2
     have f2:=(th 2 (by decide)).2
     have f3:=(th 3 (by decide)).2
     have f4:=(th 4 (by decide)).2
     have f5:=(th 5 (by decide)).2
     have f6:=(th 6 (by decide)).2
     rw [Nat.add_zero] at q0 f0
     obtain⟨k0,k1,k2,k3,k4,k5,k6⟩:=ak ((h3.block wr.heap.size (lt_of_block LB.out)).trans LB.out)
     have hin:(i:Int)<(n:Int):=by omega
     clear h3 th hxi
     go_wp2_with fail
     go_roundw
     case rel =>
      refine⟨i+1,j+1,cur.set i m,by go_num,by go_num,by omega,by omega,hid ⟨by rw [List.length_set];exact HC.out.1,?_,?_,by rw [List.length_set,HC.out.1];omega⟩,?_,?_⟩
      ·have e:(cur.set i m)[i]?=some m:=by rw [List.getElem?_set_self (by rw [HC.out.1];omega)]
       rw [si XM.out,HBB.out,kv e,List.take_set_of_le (Nat.le_refl _),HC.out.2.1]
       simp
      ·rw [List.drop_set_of_lt (by omega)]
       exact DJ.out
      ·have q:=aV (o:=i * 7) (vs:=aA m) OR3.out (by rw [aP,HC.out.1,aU];omega)
       rw [JM XI.out] at q
       exact q
      ·exact dM GR.out (dM (eP (B2.out.trans (H3.out.mono B2.out.size))) (aR g (aA m) (i * 7) _))
     case measure=>simp [intOf];omega
   ·obtain rfl:j=n:=by omega
    have hltz:¬ ((j:Int)<(j:Int)):=by omega
    have FL:Hid (cur.take i=ms.filter (fun m=>!p m.t)∧(ms.filter fun m=>!p m.t).length=i):=hid (by
     have q:=HC.out.2.1
     rw [List.take_of_length_le (l:=ms) (by rw [← HN.out];exact Nat.le_refl _)] at q
     refine⟨q,?_⟩
     rw [← q,List.length_take,HC.out.1]
     omega)
    obtain⟨k,rfl⟩:∃ k,j=i+k:=⟨j - i,by omega⟩
    have hci:¬ (c=i):=by omega
    have hic:i≤i+k:=by omega
    have hici:(i:Int)≤(i:Int)+(k:Int):=by omega
    have hicc:i≤c:=by omega
    have hiccz:(i:Int)≤(c:Int):=by omega
    have hcl:=fun ty=>kY (P:=prog) (k:=7) (t:=24) (z:=.agg #[.int .u64 0,.int .u64 0,.string ⟨#[]⟩,.bool false,.float .f64 0,.float .f64 0,.slice none 0 0]) (p:=i) (m:=k) (sc:=c - i) ty underlying24 (fun w=>zeroValue64 w) rfl (by decide) OR.out
    obtain⟨Dp,qG,hcr⟩:=hcl 0
    obtain⟨w4,hw4⟩:=nm (wr.setCells g (i * 7) Dp)
    rw [hw4] at hcr
    have O4:Hid (w4.ownsRow B 64 7 (.slice (some ⟨g,0,none⟩) i c) i (ai (ms.filter fun m=>!p m.t))):=hid (by
     have q:=gW (aV (o:=i * 7) (vs:=Dp) OR.out (by rw [OR.out.1,qG];omega)) (m:=i) (by omega)
     rw [hw4] at q
     have e:(splice (ai cur) (i * 7) Dp).take (i * 7)=ai (ms.filter fun m=>!p m.t):=by
      unfold splice
      rw [List.take_left' (by rw [List.length_take,aP,HC.out.1];omega),eU,FL.out.1]
     rw [e] at q
     exact q)
    have G4:Hid (w.grownBy w4 (some g)):=hid (by rw [← hw4];exact dM GR.out (aR g _ _ _))
    clear qG hw4 hcl
    go_wp2_with (refine dI rfl _ 24 rfl _ rfl hcr ?_)
    go_ret
    rw [FL.out.2]
    exact⟨_,c,rfl,.inr ⟨g,rfl,O4.out⟩,by rw [aY c0];exact G4.out,.inl rfl⟩
end
end
section
section
open Go.RowKit Go.Lib
structure KS (w:World) (B g n c:Nat) (ms:List aN):Prop where
 row:w.ownsRow B 64 7 (.slice (some ⟨g,0,none⟩) n c) n (ai ms)
 tags:bI w B ms
theorem L9 {α:Type} {l:List α} {i:Nat} {x:α} (h:l[i]?=some x):l.set i x=l:=by
 obtain⟨hi,rfl⟩:=List.getElem?_eq_some_iff.1 h
 exact List.set_getElem_self hi
theorem bI.same {w:World} {B:Nat} {ms ns:List aN} (e:ns.map (fun m=>(m.A,m.c,m.t.tags))=ms.map fun m=>(m.A,m.c,m.t.tags)) (h:bI w B ms):bI w B ns:=by
 have hl:ns.length=ms.length:=by have:=congrArg List.length e;simpa using this
 have at_:∀ i (h1:i<ns.length) (h2:i<ms.length),ns[i].A=ms[i].A∧ns[i].c=ms[i].c∧ns[i].t.tags=ms[i].t.tags:=fun i h1 h2=>by
  have q:=congrArg (fun l=>l[i]?) e
  simp only [List.getElem?_map,List.getElem?_eq_getElem h1,List.getElem?_eq_getElem h2,Option.map_some,Option.some.injEq,Prod.mk.injEq] at q
  exact q
 refine⟨fun m hm=>?_,List.pairwise_iff_getElem.2 fun i j hi hj hij=>?_⟩
 ·obtain⟨i,hi,rfl⟩:=List.mem_iff_getElem.1 hm
  obtain⟨a,b,d⟩:=at_ i hi (by omega)
  have:=h.1 ms[i] (List.getElem_mem _)
  rw [a,b,d]
  exact this
 ·obtain⟨a,b,_⟩:=at_ i hi (by omega)
  obtain⟨a',b',_⟩:=at_ j hj (by omega)
  have:=List.pairwise_iff_getElem.1 h.2 i j (by omega) (by omega) hij
  unfold aN.blk at this ⊢
  rw [a,b,a',b']
  exact this
theorem KS.len {w:World} {B g n c:Nat} {ms:List aN} (h:KS w B g n c ms):ms.length=n:=by
 have q:=h.row.1
 rw [aP] at q
 omega
theorem KS.cell {w:World} {B g n c i:Nat} {ms:List aN} {x:aN} (h:KS w B g n c ms) (hx:ms[i]?=some x) (j:Nat) (v:Value) (hv:(aA x)[j]?=some v):w.cell? ⟨g,i * 7+j,none⟩=some v:=by
 have hj:j<7:=by
  rcases Nat.lt_or_ge j (aA x).length with q | q
  ·rw [aU] at q;exact q
  ·rw [List.getElem?_eq_none q] at hv;cases hv
 exact df h.row ((ig (f:=aA) (size:=7) (fun x _=>aU x) hx hj).trans hv)
theorem KS.free {w:World} {B g n c:Nat} {ms:List aN} (h:KS w B g n c ms) (j:Nat):w.frozen? ⟨g,j,none⟩=false:=h.row.frozenAt (g:=g) j
theorem KS.lt {w:World} {B g n c:Nat} {ms:List aN} (h:KS w B g n c ms):B≤g∧g<w.heap.size:=h.row.lt g rfl
theorem KS.stay {w w':World} {B g n c:Nat} {ms:List aN} (h:KS w B g n c ms) (hb:Below w.heap.size w w'):KS w' B g n c ms:=⟨own_below h.row hb,h.tags.bE (aM.of_below hb (Nat.le_refl _) []) (by simp)⟩
theorem KS.ty {w:World} {B g n c:Nat} {ms:List aN} (h:KS w B g n c ms):Ty w g 64:=by
 obtain⟨cur,_,hb,_⟩:=fB h.row
 exact⟨_,_,hb⟩
theorem KS.put {w:World} {B g n c i j:Nat} {ms:List aN} {x x':aN} {v:Value} (h:KS w B g n c ms) (hx:ms[i]?=some x) (hj:j<7) (he:aA x'=(aA x).set j v) (hA:x'.A=x.A) (hc:x'.c=x.c) (ht:x'.t.tags=x.t.tags) :
  KS (w.setCell ⟨g,i * 7+j,none⟩ v) B g n c (ms.set i x')∧aM B [64,9] w (w.setCell ⟨g,i * 7+j,none⟩ v):=by
 have hi:=(List.getElem?_eq_some_iff.1 hx).1
 have T:aM B [64] w (w.setCell ⟨g,i * 7+j,none⟩ v):=(aM.refl _ _ w).aB (p:=⟨g,i * 7+j,none⟩) h.ty (by simp) h.lt.1 v
 refine⟨⟨?_,?_⟩,T.more (by simp)⟩
 ·rw [← gK hx hj he]
  exact aV (vs:=[v]) h.row (by rw [aP];simp;omega)
 ·have q:=h.tags.bE T (by decide)
  have e:(ms.set i x').map (fun m=>(m.A,m.c,m.t.tags))=ms.map fun m=>(m.A,m.c,m.t.tags):=by
   rw [List.map_set,hA,hc,ht]
   exact L9 (by rw [List.getElem?_map,hx];rfl)
  exact bI.same e q
theorem bI.put {w w':World} {B i:Nat} {ms:List aN} {x x':aN} (h:bI w B ms) (hx:ms[i]?=some x) (hg:w.grownBy w' (oJ x.A x.c)) (ho:dZ w' B 9 1 x'.A x'.t.tags.length x'.c (aC x'.t.tags)) (hb:oJ x'.A x'.c=oJ x.A x.c∨∃ g,oJ x'.A x'.c=some g∧w.heap.size≤g):bI w' B (ms.set i x'):=by
 obtain⟨hi,ex⟩:=List.getElem?_eq_some_iff.1 hx
 have other:∀ j (hj:j<ms.length),j≠i→∀ g,ms[j].blk=some g→oJ x.A x.c≠some g:=fun j hj hne g hg' e=>by
  rcases Nat.lt_or_gt_of_ne hne with q | q
  ·have:=List.pairwise_iff_getElem.1 h.2 j i hj hi q g hg'
   rw [ex] at this
   exact this e
  ·have:=List.pairwise_iff_getElem.1 h.2 i j hi hj q g (by rw [ex];exact e)
   exact this hg'
 have apart:∀ j (hj:j<ms.length),j≠i→∀ g,ms[j].blk=some g→oJ x'.A x'.c≠some g:=fun j hj hne g hg' e=>by
  rcases hb with q | ⟨k,q,hk⟩
  ·rw [q] at e
   exact other j hj hne g hg' e
  ·rw [q] at e
   injection e with e
   have:=((h.1 ms[j] (List.getElem_mem _)).uw hg').2
   omega
 refine⟨fun m hm=>?_,List.pairwise_iff_getElem.2 fun j k hj hk hjk g e1 e2=>?_⟩
 ·obtain⟨j,hj,rfl⟩:=List.mem_iff_getElem.1 hm
  rw [List.length_set] at hj
  rw [List.getElem_set]
  split
  ·exact ho
  ·rename_i hne
   have o:=h.1 ms[j] (List.getElem_mem _)
   rcases o.parts with q | ⟨g,e,c0,q⟩
   ·exact .inl q
   ·refine .inr ⟨g,e,dh q fun k hk=>?_⟩
    rw [show (Value.slice (some (⟨g,0,none⟩:Addr)) ms[j].t.tags.length ms[j].c).ownBlock=some g from rfl] at hk
    injection hk with hk
    subst hk
    have hb':ms[j].blk=some g:=by unfold aN.blk;rw [if_neg (by omega),e];rfl
    exact hg.block g (o.uw hb').2 (fun z=>other j hj (fun q=>hne q.symm) g hb' z.symm)
 ·rw [List.length_set] at hj hk
  rw [List.getElem_set] at e1 e2
  by_cases a:i=j
  ·rw [if_pos a] at e1
   rw [if_neg (by omega)] at e2
   exact apart k hk (by omega) g e2 e1
  ·rw [if_neg a] at e1
   by_cases b:i=k
   ·rw [if_pos b] at e2
    exact apart j hj (by omega) g e1 e2
   ·rw [if_neg b] at e2
    exact List.pairwise_iff_getElem.1 h.2 j k hj hk hjk g e1 e2
namespace T9
theorem qB {l:List (List UInt8)} {x:List UInt8}:(l.filter fun y=>!decide (y=x)).length<l.length↔rZ l x=true:=by
 rw [List.length_filter_lt_length_iff_exists]
 unfold rZ
 rw [List.any_eq_true]
 simp
theorem fil_not {l:List (List UInt8)} {x:List UInt8} (h:rZ l x=false):(l.filter fun y=>!decide (y=x))=l:=by
 rw [List.filter_eq_self]
 intro y hy
 unfold rZ at h
 rw [List.any_eq_false] at h
 simpa using h y hy
theorem fil_at {l:List (List UInt8)} {x:List UInt8} (hu:Sr.Str dN l) (h:rZ l x=true):(l.filter fun y=>!decide (y=x))=l.take (oM l x)++l.drop (oM l x+1):=by
 obtain⟨y,hy,rfl⟩:=(yO hu).1 h
 obtain⟨hp,ey⟩:=List.getElem?_eq_some_iff.1 hy
 conv=>lhs;rw [← List.take_append_drop (oM l y) l]
 rw [List.filter_append,List.drop_eq_getElem_cons hp,ey,List.filter_cons,if_neg (by simp)]
 congr 1
 ·rw [List.filter_eq_self]
  intro z hz
  obtain⟨i,hi,rfl⟩:=List.mem_iff_getElem.1 hz
  rw [List.length_take] at hi
  have:=List.pairwise_iff_getElem.1 hu i (oM l y) (by omega) hp (by omega)
  rw [List.getElem_take]
  rw [ey] at this
  have ne:l[i]≠y:=fun e=>by rw [e,MO.irr] at this;cases this
  simp [ne]
 ·rw [List.filter_eq_self]
  intro z hz
  obtain⟨i,hi,rfl⟩:=List.mem_iff_getElem.1 hz
  rw [List.length_drop] at hi
  have:=List.pairwise_iff_getElem.1 hu (oM l y) (oM l y+1+i) hp (by omega) (by omega)
  rw [List.getElem_drop]
  rw [ey] at this
  have ne:l[oM l y+1+i]≠y:=fun e=>by rw [e,MO.irr] at this;cases this
  simp [ne]
theorem ins_at {l:List (List UInt8)} {x:List UInt8} (h:rZ l x=false):Sr.ins dN x l=l.take (oM l x)++x :: l.drop (oM l x):=by
 refine Sr.tV fun y hy=>?_
 unfold rZ at h
 rw [List.any_eq_false] at h
 have ne:=h y hy
 simp only [decide_eq_true_eq] at ne
 cases q:dN y x with
 | true=>exact .inl rfl
 | false =>
  right
  cases r:dN x y with
  | true=>rfl
  | false =>
   refine absurd ?_ ne
   unfold dN at q r
   rw [decide_eq_false_iff_not] at q r
   exact List.le_antisymm (List.not_lt.1 r) (List.not_lt.1 q)
end T9
def zS (r:Int × T9.Tk) (B g n c:Nat) (ms:List aN) (i:Nat) (w:World) (e:Ending) (w':World):Prop :=
 aM B [64,9] w w'∧(r.1=0→∃ x',e=.returned (.tuple #[])∧x'.t=r.2∧KS w' B g n c (ms.set i x'))∧(r.1≠0→e=.panicked [{ v:=.iface 92 (.int .i64 r.1),recovered:=false }])
theorem chT4_c {u:T9.Mu} {B g n c i:Nat} {ms:List aN} {x:aN} {w:World} (h:KS w B g n c ms) (hx:ms[i]?=some x) (hB:B≤w.heap.size) :
  Calls prog 113 #[.pointer (some ⟨g,i * 7,none⟩),.agg #[.int .i64 4,.int .u64 (u.id:Int),.int .u64 (u.list:Int),.string (str u.text),.float .f64 u.f,.bool u.flag]] w (zS (0,{ x.t with title:=u.text }) B g n c ms i w):=by
 obtain⟨w1,hw1⟩:=nm (w.alloc (.cells #[.int .i64 4,.int .u64 (u.id:Int),.int .u64 (u.list:Int),.string (str u.text),.float .f64 u.f,.bool u.flag] 57))
 obtain⟨pb,b1,z1⟩:=bn hw1
 obtain⟨p0,p1,p2,p3,p4,p5⟩:=ag pb
 have K1:=hid (h.stay b1)
 have B1:=hid b1
 have X:=hid hx
 have q:=K1.out.cell hx 2 _ rfl
 have f:=K1.out.free (i * 7+2)
 clear h hx pb b1 z1
 go_enter func113,ntmps113
 go_wp2_with fail
 go_end0
 obtain⟨k1,t1⟩:=K1.out.put (j:=2) (x':=⟨{ x.t with title:=u.text },x.A,x.c⟩) (v:=.string (str u.text)) X.out (by decide) rfl rfl rfl rfl
 exact⟨(aM.of_below B1.out hB _).trans t1,fun _=>⟨_,rfl,rfl,k1⟩,fun z=>absurd rfl z⟩
theorem chT5_c {u:T9.Mu} {B g n c i:Nat} {ms:List aN} {x:aN} {w:World} (h:KS w B g n c ms) (hx:ms[i]?=some x) (hB:B≤w.heap.size) :
  Calls prog 113 #[.pointer (some ⟨g,i * 7,none⟩),.agg #[.int .i64 5,.int .u64 (u.id:Int),.int .u64 (u.list:Int),.string (str u.text),.float .f64 u.f,.bool u.flag]] w (zS (0,{ x.t with done:=u.flag }) B g n c ms i w):=by
 obtain⟨w1,hw1⟩:=nm (w.alloc (.cells #[.int .i64 5,.int .u64 (u.id:Int),.int .u64 (u.list:Int),.string (str u.text),.float .f64 u.f,.bool u.flag] 57))
 obtain⟨pb,b1,z1⟩:=bn hw1
 obtain⟨p0,p1,p2,p3,p4,p5⟩:=ag pb
 have K1:=hid (h.stay b1)
 have B1:=hid b1
 have X:=hid hx
 have q:=K1.out.cell hx 3 _ rfl
 have f:=K1.out.free (i * 7+3)
 clear h hx pb b1 z1
 go_enter func113,ntmps113
 go_wp2_with fail
 go_end0
 obtain⟨k1,t1⟩:=K1.out.put (j:=3) (x':=⟨{ x.t with done:=u.flag },x.A,x.c⟩) (v:=.bool u.flag) X.out (by decide) rfl rfl rfl rfl
 exact⟨(aM.of_below B1.out hB _).trans t1,fun _=>⟨_,rfl,rfl,k1⟩,fun z=>absurd rfl z⟩
theorem chT7_c {u:T9.Mu} {B g n c i:Nat} {ms:List aN} {x:aN} {w:World} (h:KS w B g n c ms) (hx:ms[i]?=some x) (hB:B≤w.heap.size) :
  Calls prog 113 #[.pointer (some ⟨g,i * 7,none⟩),.agg #[.int .i64 7,.int .u64 (u.id:Int),.int .u64 (u.list:Int),.string (str u.text),.float .f64 u.f,.bool u.flag]] w (zS (0,{ x.t with rank:=u.f }) B g n c ms i w):=by
 obtain⟨w1,hw1⟩:=nm (w.alloc (.cells #[.int .i64 7,.int .u64 (u.id:Int),.int .u64 (u.list:Int),.string (str u.text),.float .f64 u.f,.bool u.flag] 57))
 obtain⟨pb,b1,z1⟩:=bn hw1
 obtain⟨p0,p1,p2,p3,p4,p5⟩:=ag pb
 have K1:=hid (h.stay b1)
 have B1:=hid b1
 have X:=hid hx
 have q:=K1.out.cell hx 4 _ rfl
 have f:=K1.out.free (i * 7+4)
 clear h hx pb b1 z1
 go_enter func113,ntmps113
 go_wp2_with fail
 go_end0
 obtain⟨k1,t1⟩:=K1.out.put (j:=4) (x':=⟨{ x.t with rank:=u.f },x.A,x.c⟩) (v:=.float .f64 u.f) X.out (by decide) rfl rfl rfl rfl
 exact⟨(aM.of_below B1.out hB _).trans t1,fun _=>⟨_,rfl,rfl,k1⟩,fun z=>absurd rfl z⟩
theorem chT8_c {u:T9.Mu} {B g n c i:Nat} {ms:List aN} {x:aN} {w:World} (h:KS w B g n c ms) (hx:ms[i]?=some x) (hB:B≤w.heap.size) :
  Calls prog 113 #[.pointer (some ⟨g,i * 7,none⟩),.agg #[.int .i64 8,.int .u64 (u.id:Int),.int .u64 (u.list:Int),.string (str u.text),.float .f64 u.f,.bool u.flag]] w (zS (0,{ x.t with est:=u.f }) B g n c ms i w):=by
 obtain⟨w1,hw1⟩:=nm (w.alloc (.cells #[.int .i64 8,.int .u64 (u.id:Int),.int .u64 (u.list:Int),.string (str u.text),.float .f64 u.f,.bool u.flag] 57))
 obtain⟨pb,b1,z1⟩:=bn hw1
 obtain⟨p0,p1,p2,p3,p4,p5⟩:=ag pb
 have K1:=hid (h.stay b1)
 have B1:=hid b1
 have X:=hid hx
 have q:=K1.out.cell hx 5 _ rfl
 have f:=K1.out.free (i * 7+5)
 clear h hx pb b1 z1
 go_enter func113,ntmps113
 go_wp2_with fail
 go_end0
 obtain⟨k1,t1⟩:=K1.out.put (j:=5) (x':=⟨{ x.t with est:=u.f },x.A,x.c⟩) (v:=.float .f64 u.f) X.out (by decide) rfl rfl rfl rfl
 exact⟨(aM.of_below B1.out hB _).trans t1,fun _=>⟨_,rfl,rfl,k1⟩,fun z=>absurd rfl z⟩
end
section
open Go.RowKit Go.Lib
theorem yX:prog.follows .mixedOrders=true:=by kernel_rfl
theorem dZ.nQ {w w':World} {B:Nat} {t:TypeId} {k n c:Nat} {A:Option Addr} {xs:List Value} (h:dZ w B t k A n c xs) (hg:w.grownBy w' (oJ A c)) (hB:B≤w.heap.size):aM B [t] w w':=by
 rcases h.parts with⟨_,q⟩ | ⟨g,rfl,c0,q⟩
 ·rw [show oJ A c=none by unfold oJ;rw [if_pos q]] at hg
  exact aM.of_below ⟨hg.os,hg.tape,hg.output,hg.size,fun k hk=>hg.block k hk (by simp)⟩ hB _
 ·rw [aY c0] at hg
  exact ed (B:=B) q hg (Nat.le_refl _) hB (by simp)
theorem vT {w:World} {B g n c i:Nat} {ms:List aN} {x:aN} (h:w.ownsRow B 64 7 (.slice (some ⟨g,0,none⟩) n c) n (ai ms)) (hx:ms[i]?=some x) (j:Nat) (v:Value) (hv:(aA x)[j]?=some v):w.cell? ⟨g,i * 7+j,none⟩=some v:=by
 have hj:j<7:=by
  rcases Nat.lt_or_ge j (aA x).length with q | q
  ·rw [aU] at q;exact q
  ·rw [List.getElem?_eq_none q] at hv;cases hv
 exact df h ((ig (f:=aA) (size:=7) (fun x _=>aU x) hx hj).trans hv)
theorem GA {l:List (List UInt8)} {p:Nat} {x:List UInt8}:(aC l).take p++[encS x]++(aC l).drop p=aC (l.take p++x :: l.drop p):=by
 simp [aC,List.map_take,List.map_drop]
theorem DN {l:List (List UInt8)} {p:Nat}:(aC l).take p++(aC l).drop (p+1)=aC (l.take p++l.drop (p+1)):=by
 simp [aC,List.map_take,List.map_drop]
theorem chT9_c {u:T9.Mu} {B g n c i:Nat} {ms:List aN} {x:aN} {w:World} (h:KS w B g n c ms) (hx:ms[i]?=some x) (hB:B≤w.heap.size) (hu:Sr.Str T9.dN x.t.tags) (hl:x.t.tags.length≤100) :
  Calls prog 113 #[.pointer (some ⟨g,i * 7,none⟩),.agg #[.int .i64 9,.int .u64 (u.id:Int),.int .u64 (u.list:Int),.string (str u.text),.float .f64 u.f,.bool u.flag]] w (zS ((T9.dY x.t.tags ⟨9,u.id,u.list,u.text,u.f,u.flag⟩).1,{ x.t with tags:=(T9.dY x.t.tags ⟨9,u.id,u.list,u.text,u.f,u.flag⟩).2 }) B g n c ms i w):=by
 obtain⟨w1,hw1⟩:=nm (w.alloc (.cells #[.int .i64 9,.int .u64 (u.id:Int),.int .u64 (u.list:Int),.string (str u.text),.float .f64 u.f,.bool u.flag] 57))
 obtain⟨pb,b1,z1⟩:=bn hw1
 obtain⟨p0,p1,p2,p3,p4,p5⟩:=ag pb
 have PB:=hid pb
 have K1:=hid (h.stay b1)
 have B1:=hid b1
 have X:=hid hx
 have HU:=hid hu
 have q:=K1.out.cell hx 6 _ rfl
 have f:=K1.out.free (i * 7+6)
 have XT:Hid (dZ w1 B 9 1 x.A x.t.tags.length x.c (aC x.t.tags)):=hid (K1.out.tags.1 x (List.mem_of_getElem? hx))
 have XG:Hid (GL w1 x.A x.t.tags):=hid (XT.out.lies (by rw [dE,Nat.mul_one])).old
 have SC:=hid (xQ (c:=x.c) (x:=u.text) (w:=w1.drew) XG.out rfl (by omega) hu)
 obtain⟨pp,gy⟩:=nm (T9.oM x.t.tags u.text)
 obtain⟨hh,gU⟩:=nm (T9.rZ x.t.tags u.text)
 have HP:=hid gy
 have HH:=hid gU
 have PL:pp≤x.t.tags.length:=by rw [← gy];exact Sr.pO
 rw [gy,gU] at SC
 have HB:=hid hB
 obtain⟨R,hR⟩:=nm (T9.dY x.t.tags ⟨9,u.id,u.list,u.text,u.f,u.flag⟩)
 rw [hR]
 have HR:=hid hR
 clear h hx hu pb b1 z1 gy gU hR hB
 go_enter func113,ntmps113
 go_wp2_with fail
 refine wp_region_held_drew (S:=fun u=>u=w1.drew) (by kernel_rfl) (rfl) (fun S0=>?_)
 refine av 0 S0 ?_ (hy:=by intro u hu;subst hu;go_simp;try rfl)
 refine av 1 S0 ?_ (hy:=by intro u hu;subst hu;go_simp;try rfl)
 refine av 2 S0 ?_ (hy:=by intro u hu;subst hu;go_simp;try rfl)
 refine av 3 S0 ?_ (hy:=by intro u hu;subst hu;go_simp;try rfl)
 refine av 4 S0 ?_ (hy:=by intro u hu;subst hu;go_simp;try rfl)
 refine av 5 S0 ?_ (hy:=by intro u hu;subst hu;go_simp;try rfl)
 refine fw 6 fun K hK=>?_
 go_simp
 skip
 refine SC.out.mono ?_
 rintro e wa ⟨rfl,rfl⟩
 have S1:w1.drew=w1.drew:=rfl
 refine hK _ _ S1 ?_
 clear hK K S0
 have S0:=S1
 clear S1
 try simp only [Act.put,pS]
 refine av 7 S0 ?_ (hy:=by intro u hu;subst hu;go_simp;try rfl)
 refine av 8 S0 ?_ (hy:=by intro u hu;subst hu;go_simp;try rfl)
 refine av 9 S0 ?_ (hy:=by intro u hu;subst hu;go_simp;try rfl)
 refine av 10 S0 ?_ (hy:=by intro u hu;subst hu;go_simp;try rfl)
 refine av 11 S0 ?_ (hy:=by intro u hu;subst hu;go_simp;try rfl)
 refine wpAnyH_done (by kernel_rfl) ?_ _
 clear S0
 cases hh with
 | true =>
  go_wp2_with (go_at_call 95;refine (eZ _ _).mono ?_;rintro e w' ⟨rfl,rfl⟩)
  have e:R=(92,x.t.tags):=by
   rw [← HR.out];unfold T9.dY
   rw [if_neg (show ¬ ((9:Int)=10) by decide),if_pos (T9.qB.2 HH.out)]
  subst e
  exact⟨rfl,aM.of_below B1.out.drew HB.out _,(fun z=>by cases z),fun _=>rfl⟩
 | false =>
  by_cases h4:4≤x.t.tags.length
  ·have h4z:(4:Int)≤(x.t.tags.length:Int):=by omega
   have h4d:decide ((4:Int)≤(x.t.tags.length:Int))=true:=decide_eq_true h4z
   have h4n:decide (4≤x.t.tags.length)=true:=decide_eq_true h4
   go_wp2_with (first | (go_at_call 95;(with_reducible refine (fD 92 _).mono ?_);rintro e w' ⟨rfl,rfl⟩) | (go_at_call 95;refine (eZ _ _).mono ?_;rintro e w' ⟨rfl,rfl⟩))
   have e:R=(95,x.t.tags):=by
    rw [← HR.out];unfold T9.dY
    rw [if_neg (show ¬ ((9:Int)=10) by decide),if_neg (by rw [T9.qB,HH.out];decide),if_pos h4]
   subst e
   exact⟨rfl,aM.of_below B1.out.drew HB.out _,(fun z=>by cases z),fun _=>rfl⟩
  ·have h4z:¬ ((4:Int)≤(x.t.tags.length:Int)):=by omega
   have h4d:decide ((4:Int)≤(x.t.tags.length:Int))=false:=decide_eq_false h4z
   have h4n:decide (4≤x.t.tags.length)=false:=decide_eq_false h4
   have ER:Hid (R=(0,x.t.tags.take pp++u.text :: x.t.tags.drop pp)):=hid (by
    rw [← HR.out];unfold T9.dY
    rw [if_neg (show ¬ ((9:Int)=10) by decide),if_neg (by rw [T9.qB,HH.out];decide),if_neg h4,T9.fil_not HH.out,Sr.gD,Sr.nW T9.MO HU.out,T9.ins_at HH.out,HP.out])
   obtain⟨w2,hw2⟩:=nm (w1.drew.drew.alloc (.cells #[.string (str u.text)] 9))
   have lb:w2.heap[w1.heap.size]?=some (.cells [encS u.text].toArray 9 (0,0)):=by rw [← hw2];exact heap_alloc_new w1.drew.drew _
   have b2:Below w1.heap.size w1 w2:=by rw [← hw2];exact ((Below.refl _ w1).drew.drew).alloc (Nat.le_refl _) _
   have LB:=hid lb
   have B2:=hid b2
   have K2:=hid (K1.out.stay b2)
   have XT2:=hid (XT.out.below b2)
   have LN:Hid ((x.t.tags.take pp++u.text :: x.t.tags.drop pp).length=x.t.tags.length+1):=hid (by rw [List.length_append,List.length_cons,List.length_take,List.length_drop];omega)
   have PT:Hid (∀ (A':Option Addr) (c':Nat) (w3:World),dZ w3 B 9 1 A' (x.t.tags.length+1) c' ((aC x.t.tags).take pp++[encS u.text]++(aC x.t.tags).drop pp)→w2.grownBy w3 (oJ x.A x.c)→(oJ A' c'=oJ x.A x.c∨∃ k,oJ A' c'=some k∧w2.heap.size≤k)→bI w3 B (ms.set i ⟨{ x.t with tags:=x.t.tags.take pp++u.text :: x.t.tags.drop pp },A',c'⟩)):=hid fun A' c' w3 ho hg hb=>by
    refine K2.out.tags.put (x':=⟨{ x.t with tags:=x.t.tags.take pp++u.text :: x.t.tags.drop pp },A',c'⟩) X.out hg ?_ hb
    show dZ w3 B _ 1 A' (x.t.tags.take pp++u.text :: x.t.tags.drop pp).length c' _
    rw [LN.out,← GA]
    exact ho
   have LN:Hid ((x.t.tags.take pp++u.text :: x.t.tags.drop pp).length=x.t.tags.length+1):=hid (by rw [List.length_append,List.length_cons,List.length_take,List.length_drop];omega)
   have NE:Hid (oJ x.A x.c≠some w1.heap.size):=hid fun e=>by
    have:=(XT.out.uw (m:=x) e).2
    omega
   have IC:=hid (GQ (p:=pp) (gv:=w1.heap.size) XT2.out (by rw [dE,Nat.mul_one]) (eX _) LB.out rfl (by simp [encS];rfl) PL NE.out (by omega:x.t.tags.length≤1000) (Nat.le_trans (Nat.le_trans HB.out B1.out.size) B2.out.size))
   clear lb b2
   go_wp2_with (go_at_call 95;refine (fD _ _).mono ?_;rintro e w' ⟨rfl,rfl⟩)
   refine Any.begin (S:=fun v=>v.cell? ⟨g,i * 7+6,none⟩=some (.slice x.A x.t.tags.length x.c)∧v.cell? ⟨w.heap.size,3,none⟩=some (.string (str u.text))) (st:=12) yX ?_
   have S0:=(And.intro q p3:w1.drew.drew.cell? ⟨g,i * 7+6,none⟩=some (.slice x.A x.t.tags.length x.c)∧w1.drew.drew.cell? ⟨w.heap.size,3,none⟩=some (.string (str u.text)))
   refine rq 0 ?_ rfl (by kernel_rfl) rfl (by kernel_rfl) rfl ?_ S0 ?_
   rotate_left
   ·intro u hu;go_simp;try rfl
   try simp only [Act.put,pS]
   refine rq 1 ?_ rfl (by kernel_rfl) rfl (by kernel_rfl) rfl ?_ S0 ?_
   rotate_left
   ·intro u hu;go_simp;try rfl
   try simp only [Act.put,pS]
   refine rq 2 ?_ rfl (by kernel_rfl) rfl (by kernel_rfl) rfl ?_ S0 ?_
   rotate_left
   ·intro u hu;go_simp;try rfl
   try simp only [Act.put,pS]
   refine rq 3 ?_ rfl (by kernel_rfl) rfl (by kernel_rfl) rfl ?_ S0 ?_
   rotate_left
   ·intro u hu;go_simp;try rfl
   try simp only [Act.put,pS]
   refine rq 4 ?_ rfl (by kernel_rfl) rfl (by kernel_rfl) rfl ?_ S0 ?_
   rotate_left
   ·intro u hu;obtain⟨y0,y1⟩:=hu;go_simp;try rfl
   try simp only [Act.put,pS]
   refine rq 5 ?_ rfl (by kernel_rfl) rfl (by kernel_rfl) rfl ?_ S0 ?_
   rotate_left
   ·intro u hu;go_simp;try rfl
   try simp only [Act.put,pS]
   refine rq 6 ?_ rfl (by kernel_rfl) rfl (by kernel_rfl) rfl ?_ S0 ?_
   rotate_left
   ·intro u hu;go_simp;try rfl
   try simp only [Act.put,pS]
   refine rq 7 ?_ rfl (by kernel_rfl) rfl (by kernel_rfl) rfl ?_ S0 ?_
   rotate_left
   ·intro u hu;obtain⟨y0,y1⟩:=hu;go_simp;try rfl
   try simp only [Act.put,pS]
   refine Any.one (i:=8) (by kernel_rfl) rfl (fun K hK=>?_)
   go_simp
   have S1:w2.cell? ⟨g,i * 7+6,none⟩=some (.slice x.A x.t.tags.length x.c)∧w2.cell? ⟨w.heap.size,3,none⟩=some (.string (str u.text)):=⟨vT K2.out.row X.out 6 _ rfl,(ag (ae PB.out B2.out)).2.2.2.1⟩
   refine hK _ _ (fun _=>S1) ?_
   clear hK K S0
   have S0:=S1
   clear S1
   try simp only [Act.put,pS]
   refine Any.one (i:=9) (by kernel_rfl) rfl (fun K hK=>?_)
   go_simp
   refine IC.out.mono ?_
   rintro e w3 ⟨A',c',rfl,ho,hg,hb⟩
   have T3:=hid (XT2.out.nQ hg (Nat.le_trans (Nat.le_trans HB.out B1.out.size) B2.out.size))
   have TG3:=hid (PT.out A' c' w3 ho hg hb)
   have R3:=hid (bX K2.out.row T3.out (by decide))
   have P3:=hid (T3.out.blk (ae PB.out B2.out) (by decide))
   have f3:w3.frozen? ⟨g,i * 7+6,none⟩=false:=R3.out.frozenAt (g:=g) _
   clear ho hg hb
   have S1:w3.cell? ⟨g,i * 7+6,none⟩=some (.slice x.A x.t.tags.length x.c)∧w3.cell? ⟨w.heap.size,3,none⟩=some (.string (str u.text)):=⟨vT R3.out X.out 6 _ rfl,(ag P3.out).2.2.2.1⟩
   refine hK _ _ (fun _=>S1) ?_
   clear hK K S0
   have S0:=S1
   clear S1
   try simp only [Act.put,pS]
   refine Any.one (i:=10) (by kernel_rfl) rfl (fun K hK=>?_)
   go_simp
   have S1:=S0
   refine hK _ _ (fun _=>S1) ?_
   clear hK K S0
   have S0:=S1
   clear S1
   try simp only [Act.put,pS]
   refine Any.one (i:=11) (by kernel_rfl) rfl (fun K hK=>?_)
   go_simp
   have S1:=S0
   refine hK _ _ (fun _=>S1) ?_
   clear hK K S0
   have S0:=S1
   clear S1
   try simp only [Act.put,pS]
   refine Any.one (i:=12) (by kernel_rfl) rfl (fun K hK=>?_)
   go_simp
   have y0:=S0.1
   go_simp
   refine hK _ _ (fun z=>absurd rfl z) ?_
   clear hK K S0
   try simp only [Act.put,pS]
   refine Any.done (by kernel_rfl) ?_
   go_wp2
   go_end0
   have T4:aM B [64] w3 (w3.setCell ⟨g,i * 7+6,none⟩ (.slice A' (x.t.tags.length+1) c')):=(aM.refl _ _ w3).aB (p:=⟨g,i * 7+6,none⟩) (by obtain⟨cur,_,hb,_⟩:=fB R3.out;exact⟨_,_,hb⟩) (by simp) K1.out.lt.1 _
   refine⟨(aM.of_below (B1.out.trans (B2.out.mono B1.out.size)) HB.out _).trans ((T3.out.more (by simp)).trans (T4.more (by simp))),fun _=>⟨⟨{ x.t with tags:=x.t.tags.take pp++u.text :: x.t.tags.drop pp },A',c'⟩,rfl,by rw [ER.out],?_,TG3.out.bE T4 (by decide)⟩,fun z=>absurd (by rw [ER.out]) z⟩
   rw [← gK (v:=.slice A' (x.t.tags.length+1) c') X.out (by decide:6<7) (by simp [aA,LN.out])]
   exact aV (vs:=[.slice A' (x.t.tags.length+1) c']) R3.out (by rw [aP,K1.out.len];have:=(List.getElem?_eq_some_iff.1 X.out).1;have:=K1.out.len;simp;omega)
theorem chT10_c {u:T9.Mu} {B g n c i:Nat} {ms:List aN} {x:aN} {w:World} (h:KS w B g n c ms) (hx:ms[i]?=some x) (hB:B≤w.heap.size) (hu:Sr.Str T9.dN x.t.tags) (hl:x.t.tags.length≤100) :
  Calls prog 113 #[.pointer (some ⟨g,i * 7,none⟩),.agg #[.int .i64 10,.int .u64 (u.id:Int),.int .u64 (u.list:Int),.string (str u.text),.float .f64 u.f,.bool u.flag]] w (zS ((T9.dY x.t.tags ⟨10,u.id,u.list,u.text,u.f,u.flag⟩).1,{ x.t with tags:=(T9.dY x.t.tags ⟨10,u.id,u.list,u.text,u.f,u.flag⟩).2 }) B g n c ms i w):=by
 obtain⟨tk,A5,c5⟩:=x
 have hu:Sr.Str T9.dN tk.tags:=hu
 have hl:tk.tags.length≤100:=hl
 obtain⟨w1,hw1⟩:=nm (w.alloc (.cells #[.int .i64 10,.int .u64 (u.id:Int),.int .u64 (u.list:Int),.string (str u.text),.float .f64 u.f,.bool u.flag] 57))
 obtain⟨pb,b1,z1⟩:=bn hw1
 obtain⟨p0,p1,p2,p3,p4,p5⟩:=ag pb
 have K1:=hid (h.stay b1)
 have B1:=hid b1
 have X:=hid hx
 have HU:=hid hu
 have q:=K1.out.cell hx 6 _ rfl
 have f:=K1.out.free (i * 7+6)
 have XT:Hid (dZ w1 B 9 1 A5 tk.tags.length c5 (aC tk.tags)):=hid (K1.out.tags.1 _ (List.mem_of_getElem? hx))
 have XG:Hid (GL w1 A5 tk.tags):=hid (XT.out.lies (by rw [dE,Nat.mul_one])).old
 have SC:=hid (xQ (c:=c5) (x:=u.text) (w:=w1.drew) XG.out rfl (by omega) hu)
 obtain⟨pp,gy⟩:=nm (T9.oM tk.tags u.text)
 obtain⟨hh,gU⟩:=nm (T9.rZ tk.tags u.text)
 have HP:=hid gy
 have HH:=hid gU
 rw [gy,gU] at SC
 have HB:=hid hB
 obtain⟨R,hR⟩:=nm (T9.dY tk.tags ⟨10,u.id,u.list,u.text,u.f,u.flag⟩)
 show Calls prog 113 #[.pointer (some ⟨g,i * 7,none⟩),.agg #[.int .i64 10,.int .u64 (u.id:Int),.int .u64 (u.list:Int),.string (str u.text),.float .f64 u.f,.bool u.flag]] w (zS ((T9.dY tk.tags ⟨10,u.id,u.list,u.text,u.f,u.flag⟩).1,{ tk with tags:=(T9.dY tk.tags ⟨10,u.id,u.list,u.text,u.f,u.flag⟩).2 }) B g n c ms i w)
 rw [hR]
 have HR:=hid hR
 clear h hx hu pb b1 z1 gy gU hR hB
 cases hh with
 | false =>
  go_enter func113,ntmps113
  go_wp2_with fail
  refine wp_region_held_drew (S:=fun u=>u=w1.drew) (by kernel_rfl) (rfl) (fun S0=>?_)
  refine av 0 S0 ?_ (hy:=by intro u hu;subst hu;go_simp;try rfl)
  refine av 1 S0 ?_ (hy:=by intro u hu;subst hu;go_simp;try rfl)
  refine av 2 S0 ?_ (hy:=by intro u hu;subst hu;go_simp;try rfl)
  refine av 3 S0 ?_ (hy:=by intro u hu;subst hu;go_simp;try rfl)
  refine av 4 S0 ?_ (hy:=by intro u hu;subst hu;go_simp;try rfl)
  refine av 5 S0 ?_ (hy:=by intro u hu;subst hu;go_simp;try rfl)
  refine fw 6 fun K hK=>?_
  go_simp
  refine (SC.out).mono ?_
  rintro e wa ⟨rfl,rfl⟩
  have S1:w1.drew=w1.drew:=rfl
  refine hK _ _ S1 ?_
  clear hK K S0
  have S0:=S1
  clear S1
  try simp only [Act.put,pS]
  refine av 7 S0 ?_ (hy:=by intro u hu;subst hu;go_simp;try rfl)
  refine av 8 S0 ?_ (hy:=by intro u hu;subst hu;go_simp;try rfl)
  refine av 9 S0 ?_ (hy:=by intro u hu;subst hu;go_simp;try rfl)
  refine av 10 S0 ?_ (hy:=by intro u hu;subst hu;go_simp;try rfl)
  refine av 11 S0 ?_ (hy:=by intro u hu;subst hu;go_simp;try rfl)
  refine wpAnyH_done (by kernel_rfl) ?_ _
  clear S0
  go_wp2_with (go_at_call 95;refine (eZ _ _).mono ?_;rintro e w' ⟨rfl,rfl⟩)
  have e:R=(3,tk.tags):=by
   rw [← HR.out];unfold T9.dY
   rw [if_pos rfl,if_neg (by rw [T9.qB,HH.out];decide)]
  subst e
  exact⟨rfl,aM.of_below B1.out.drew HB.out _,(fun z=>by cases z),fun _=>rfl⟩
 | true =>
  have PP:pp<tk.tags.length:=by
   obtain⟨y,hy,_⟩:=(T9.yO HU.out).1 HH.out
   rw [HP.out] at hy
   exact (List.getElem?_eq_some_iff.1 hy).1
  obtain⟨ga,rfl,c0,own⟩:=XT.out.parts.resolve_left (fun z=>by omega)
  obtain⟨L,hL⟩:∃ L,tk.tags.length=L+1:=⟨tk.tags.length - 1,by omega⟩
  have HL:=hid hL
  have ER:Hid (R=(0,tk.tags.take pp++tk.tags.drop (pp+1))):=hid (by
   rw [← HR.out];unfold T9.dY
   rw [if_pos rfl,if_pos (T9.qB.2 HH.out),T9.fil_at HU.out HH.out,HP.out])
  have LN:Hid ((tk.tags.take pp++tk.tags.drop (pp+1)).length=L):=hid (by rw [List.length_append,List.length_take,List.length_drop];omega)
  rw [hL] at own q SC
  have DC:=hid (Gw (p:=pp) (b_ own) (eX _) (by omega) (by omega))
  have q2:w1.cell? ⟨g,i * 7+6,none⟩=some (.slice (some ⟨ga,0,none⟩) (L+1) c5):=q
  have kQ:IntKind.i64.wrap ((pp:Int)+1)=(pp:Int)+1:=by rw [IntKind.wrap_i64];omega
  have PT:Hid (∀ (A':Option Addr) (c':Nat) (w3:World),dZ w3 B 9 1 A' L c' ((aC tk.tags).take pp++(aC tk.tags).drop (pp+1))→w1.drew.grownBy w3 (oJ (some ⟨ga,0,none⟩) c5)→(oJ A' c'=oJ (some ⟨ga,0,none⟩) c5∨∃ k,oJ A' c'=some k∧w1.drew.heap.size≤k)→bI w3 B (ms.set i ⟨{ tk with tags:=tk.tags.take pp++tk.tags.drop (pp+1) },A',c'⟩)):=hid fun A' c' w3 ho hg hb=>by
   refine K1.out.tags.put (w:=w1.drew) (x':=⟨{ tk with tags:=tk.tags.take pp++tk.tags.drop (pp+1) },A',c'⟩) X.out hg ?_ hb
   show dZ w3 B _ 1 A' (tk.tags.take pp++tk.tags.drop (pp+1)).length c' _
   rw [LN.out,← DN]
   exact ho
  clear own hL
  go_enter func113,ntmps113
  go_wp2_with fail
  refine wp_region_held_drew (S:=fun u=>u=w1.drew) (by kernel_rfl) (rfl) (fun S0=>?_)
  refine av 0 S0 ?_ (hy:=by intro u hu;subst hu;go_simp;try rfl)
  refine av 1 S0 ?_ (hy:=by intro u hu;subst hu;go_simp;try rfl)
  refine av 2 S0 ?_ (hy:=by intro u hu;subst hu;go_simp;try rfl)
  refine av 3 S0 ?_ (hy:=by intro u hu;subst hu;go_simp;try rfl)
  refine av 4 S0 ?_ (hy:=by intro u hu;subst hu;go_simp;try rfl)
  refine av 5 S0 ?_ (hy:=by intro u hu;subst hu;go_simp;try rfl)
  refine fw 6 fun K hK=>?_
  go_simp
  refine (SC.out).mono ?_
  rintro e wa ⟨rfl,rfl⟩
  have S1:w1.drew=w1.drew:=rfl
  refine hK _ _ S1 ?_
  clear hK K S0
  have S0:=S1
  clear S1
  try simp only [Act.put,pS]
  refine av 7 S0 ?_ (hy:=by intro u hu;subst hu;go_simp;try rfl)
  refine av 8 S0 ?_ (hy:=by intro u hu;subst hu;go_simp;try rfl)
  refine av 9 S0 ?_ (hy:=by intro u hu;subst hu;go_simp;try rfl)
  refine av 10 S0 ?_ (hy:=by intro u hu;subst hu;go_simp;try rfl)
  refine av 11 S0 ?_ (hy:=by intro u hu;subst hu;go_simp;try rfl)
  refine wpAnyH_done (by kernel_rfl) ?_ _
  clear S0
  go_wp2_with (go_at_call 95;refine (fD _ _).mono ?_;rintro e w' ⟨rfl,rfl⟩)
  refine DC.out.mono ?_
  rintro e w3 ⟨A',c',rfl,ho,hg,hb⟩
  have T3:=hid (XT.out.nQ (w:=w1.drew) hg (Nat.le_trans HB.out B1.out.size))
  have TG3:=hid (PT.out A' c' w3 ho hg hb)
  have R3:=hid (bX (b_ K1.out.row) T3.out (by decide))
  have f3:w3.frozen? ⟨g,i * 7+6,none⟩=false:=R3.out.frozenAt (g:=g) _
  have q3:=vT R3.out X.out 6 _ rfl
  clear ho hg hb
  go_wp2
  go_end0
  have T4:aM B [64] w3 (w3.setCell ⟨g,i * 7+6,none⟩ (.slice A' L c')):=(aM.refl _ _ w3).aB (p:=⟨g,i * 7+6,none⟩) (by obtain⟨cur,_,hb,_⟩:=fB R3.out;exact⟨_,_,hb⟩) (by simp) K1.out.lt.1 _
  refine⟨(aM.of_below B1.out.drew HB.out _).trans ((T3.out.more (by simp)).trans (T4.more (by simp))),fun _=>⟨⟨{ tk with tags:=tk.tags.take pp++tk.tags.drop (pp+1) },A',c'⟩,rfl,by rw [ER.out],?_,TG3.out.bE T4 (by decide)⟩,fun z=>absurd (by rw [ER.out]) z⟩
  rw [← gK (v:=.slice A' L c') X.out (by decide:6<7) (by simp [aA,LN.out])]
  exact aV (vs:=[.slice A' L c']) R3.out (by rw [aP,K1.out.len];have:=(List.getElem?_eq_some_iff.1 X.out).1;have:=K1.out.len;simp;omega)
end
end
end Go.Proofs.YtcmiompdjjiojaaGreat
