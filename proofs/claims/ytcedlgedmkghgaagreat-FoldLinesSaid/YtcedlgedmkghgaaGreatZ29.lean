import Derived.Test.YtcedlgedmkghgaaGreatZ27
import Derived.Test.YtcedlgedmkghgaaGreatZ28
import Derived.Test.YtcedlgedmkghgaaGreatZ18
import Derived.Test.YtcedlgedmkghgaaGreatZ19
import Derived.Test.YtcedlgedmkghgaaGreatZ20
namespace Go.Proofs.YtcedlgedmkghgaaGreat
set_option maxHeartbeats 16000000
open Go.Lib Go.Proofs.Tryz
set_option linter.unusedSimpArgs false
set_option maxRecDepth 100000
section
section
open Go.Shelf Go.RowKit Go.Lib Go.Sort
theorem yI (a:ByteArray) (w:World):Calls prog 257 #[.string a] w fun e w'=>e=.returned (.bool false)∧w=w':=by
 go_enter func257,ntmps257
 go_wp2
 go_ret
 exact⟨by simp,rfl⟩
theorem Ef {a b:List UInt8} (h:T9.dL a b=true) (w:World):Calls prog 256 #[.string (str a),.string (str b)] w fun e w'=>e=.returned (.bool true)∧w=w':=by
 have hb:=o8 (of_decide_eq_true h)
 clear h
 go_enter func256,ntmps256
 go_wp2_with (go_at_call 222;refine (l_ _ _).mono ?_;rintro e w' ⟨rfl,rfl⟩)
 go_ret
 exact⟨rfl,rfl⟩
theorem Hq {a b:List UInt8} (h:T9.dL a b=false) (w:World):Calls prog 256 #[.string (str a),.string (str b)] w fun e w'=>e=.returned (.bool false)∧w=w':=by
 have hb:=oZ (of_decide_eq_false h)
 clear h
 go_enter func256,ntmps256
 go_wp2_with (go_at_call 222;refine (l_ _ _).mono ?_;rintro e w' ⟨rfl,rfl⟩)
 go_ret
 exact⟨rfl,rfl⟩
theorem vD {A:Option Addr} {n c:Nat} {x:List UInt8} {ts:List (List UInt8)} {w:World} (hk:GL w A ts) (hn:n=ts.length) (hs:n≤1000000) (hu:Sr.Str T9.dL ts) :
  Calls prog 238 #[.slice A n c,.string (str x)] w fun e w'=>e=.returned (.tuple #[.int .i64 (T9.nK ts x:Int),.bool (T9.qm ts x)])∧w=w':=by
 have HK:=hid hk
 have HN:=hid hn
 obtain⟨k,hk0⟩:∃ k,T9.nK ts x=k:=⟨_,rfl⟩
 obtain⟨hb,hb0⟩:∃ b,T9.qm ts x=b:=⟨_,rfl⟩
 have kn:k≤n:=by rw [← hk0,hn];exact Sr.om
 have ids:Hid (∀ i t,ts[i]?=some t→(i<k↔T9.dL t x=true)):=hid fun i t hi=>by rw [← hk0];exact T9.IA hu hi
 have HAS:Hid (hb=true↔∃ l,ts[k]?=some l∧l=x):=hid (by rw [← hk0,← hb0];exact T9.wP hu)
 rw [hk0,hb0]
 clear hk hn hu hk0 hb0
 go_enter func238,ntmps238
 go_wp2_with fail
 go_loopg [7,8] n (fun kx s7 s8 wr=>∃ lo hi:Nat,s7=.int .i64 lo∧s8=.int .i64 hi∧lo≤hi∧hi≤n∧hi - lo≤kx∧lo≤k∧k≤hi∧Aside (w=wr))
 case atStart=>exact⟨0,n,rfl,rfl,Nat.zero_le _,Nat.le_refl _,by omega,Nat.zero_le _,kn,rfl⟩
 case round =>
  obtain⟨lo,hi,rfl,rfl,hlh,hin,hg,hlk,hkh,hB⟩:=hrel
  obtain rfl:w=wr:=hB.out
  clear hB
  by_cases hlt:lo<hi
  ·obtain⟨ad,t,hA,hx,r0⟩:=HK.out.at_ (k:=(lo+hi) / 2) (by have:=HN.out;omega)
   subst hA
   have ids:=ids.out _ _ hx
   clear hx
   by_cases hc:(lo+hi) / 2<k
   ·have PC:=hid (Ef (ids.1 hc) w)
    clear ids
    go_wp2_with (go_at_call 256;refine PC.out.mono ?_;rintro e w' ⟨rfl,rfl⟩)
    go_roundg (hi - ((lo+hi) / 2+1))
    case measure=>omega
    case rel=>exact⟨(lo+hi) / 2+1,hi,by rw [show ((lo:Int)+(hi:Int)) / 2+1=(((lo+hi) / 2+1:Nat):Int) by omega],rfl,by omega,hin,Nat.le_refl _,by omega,hkh,rfl⟩
   ·have PC:=hid (Hq (by cases q:T9.dL t x with | false=>rfl | true=>exact absurd (ids.2 q) hc) w)
    clear ids
    go_wp2_with (go_at_call 256;refine PC.out.mono ?_;rintro e w' ⟨rfl,rfl⟩)
    go_roundg ((lo+hi) / 2 - lo)
    case measure=>omega
    case rel=>exact⟨lo,(lo+hi) / 2,rfl,by rw [show ((lo:Int)+(hi:Int)) / 2=(((lo+hi) / 2:Nat):Int) by omega],by omega,by omega,Nat.le_refl _,by omega,by omega,rfl⟩
  ·obtain rfl:hi=lo:=by omega
   obtain rfl:k=hi:=by omega
   by_cases hkn:k<n
   ·have knz:(k:Int)<(n:Int):=by omega
    obtain⟨ad,t,hA,hx,r0⟩:=HK.out.at_ (k:=k) (by have:=HN.out;omega)
    subst hA
    have hm:hb=true↔t=x:=by
     rw [HAS.out,hx]
     simp
    clear hx
    cases hb with
    | true =>
     have e:(str t==str x)=true:=by rw [kS,hm.1 rfl];exact decide_eq_true rfl
     have e2:(t==x)=true:=by rw [hm.1 rfl];exact beq_self_eq_true _
     clear hm
     go_wp2_with (go_at_call 257;refine (yI _ _).mono ?_;rintro e w' ⟨rfl,rfl⟩)
     go_ret2
     exact⟨rfl,rfl⟩
    | false =>
     have q2:t≠x:=fun z=>by have:=hm.2 z;cases this
     have e:(str t==str x)=false:=by rw [kS];exact decide_eq_false q2
     have e2:(t==x)=false:=by simpa using q2
     clear hm q2
     go_wp2_with (go_at_call 257;refine (yI _ _).mono ?_;rintro e w' ⟨rfl,rfl⟩)
     go_ret2
     exact⟨rfl,rfl⟩
   ·obtain rfl:k=n:=by omega
    have knz:¬ ((k:Int)<(k:Int)):=by omega
    have hm:hb=false:=by
     cases hb with
     | false=>rfl
     | true =>
      obtain⟨l,hl,_⟩:=HAS.out.1 rfl
      rw [List.getElem?_eq_none (by have:=HN.out;omega)] at hl
      cases hl
    subst hm
    go_wp2_with fail
    go_ret2
    exact⟨rfl,rfl⟩
theorem goneL_c {u:T9.Mu} {gm:Nat} (m:aL) (W:World) (hm:j6 u gm W) :
  Calls prog 202 #[.agg (az m).toArray,.pointer (some ⟨gm,0,none⟩)] W fun e w'=>e=.returned (.bool (m.t.list==u.id))∧Below W.heap.size W w':=by
 obtain⟨w1,hw1⟩:∃ u,W.alloc (.cells (az m).toArray 74)=u:=⟨_,rfl⟩
 unfold az at hw1 ⊢
 obtain⟨lb,b1,z1⟩:=bn hw1
 obtain⟨l0,l1,l2,l3,l4,l5,l6⟩:=aj lb
 obtain⟨m0,m1,m2,m3,m4,m5⟩:=ag (hm.stay b1)
 have B1:=hid b1
 have e:((m.t.list:Int)==(u.id:Int))=(m.t.list==u.id):=by
  rw [Bool.eq_iff_iff,beq_iff_eq,beq_iff_eq]
  omega
 have E:=hid e
 clear b1 lb z1 e hm
 go_enter func202,ntmps202
 go_wp2
 go_ret
 exact⟨aP (by first | exact E.out | simp),B1.out⟩
theorem goneD_c {u:T9.Mu} {gm:Nat} (m:aL) (W:World) (hm:j6 u gm W) :
  Calls prog 203 #[.agg (az m).toArray,.pointer (some ⟨gm,0,none⟩)] W fun e w'=>e=.returned (.bool (m.t.list==u.list && m.t.done))∧Below W.heap.size W w':=by
 obtain⟨w1,hw1⟩:∃ u,W.alloc (.cells (az m).toArray 74)=u:=⟨_,rfl⟩
 unfold az at hw1 ⊢
 obtain⟨lb,b1,z1⟩:=bn hw1
 obtain⟨l0,l1,l2,l3,l4,l5,l6⟩:=aj lb
 obtain⟨m0,m1,m2,m3,m4,m5⟩:=ag (hm.stay b1)
 have B1:=hid b1
 obtain⟨b,hb⟩:∃ b,(m.t.list==u.list)=b:=⟨_,rfl⟩
 have e:((m.t.list:Int)==(u.list:Int))=b:=by
  rw [← hb,Bool.eq_iff_iff,beq_iff_eq,beq_iff_eq]
  omega
 rw [hb]
 clear b1 lb z1 hm
 cases b with
 | true =>
  go_enter func203,ntmps203
  go_wp2
  go_ret
  exact⟨rfl,B1.out⟩
 | false =>
  go_enter func203,ntmps203
  go_wp2
  go_ret
  exact⟨rfl,B1.out⟩
namespace Sr
theorem CB {α:Type} {q:α→Bool}:∀ {l:List α} {i:Nat} {y:α},(∀ x∈l.take i,q x=true)→l[i]?=some y→q y=false→pos q l=i
 | [],i,y,_,h,_=>by simp at h
 | x :: l,0,y,_,h,hy=>by
  simp only [List.getElem?_cons_zero,Option.some.injEq] at h
  subst h
  rw [jv,if_neg (by rw [hy];decide)]
 | x :: l,i+1,y,ha,h,hy=>by
  rw [List.getElem?_cons_succ] at h
  rw [jv,if_pos (ha x (by simp)),CB (fun z hz=>ha z (by simp [hz])) h hy]
end Sr
def yz (p:T9.Tk→Bool) (l:List T9.Tk):Int:=if l.any p=true then (Sr.pos (fun t=>!p t) l:Int) else -1
theorem Hd {A:Option Addr} {n c gm:Nat} {u:T9.Mu} {F:FuncId} {p:T9.Tk→Bool} {ms:List aL} {w:World} (hk:KL w A ms) (hn:n=ms.length) (hs:n≤1000000) (hm:j6 u gm w)
  (hC:∀ (args:Array Value) (w:World),(callFunc F args).run prog w=.ok (.enter F args) w) (hF:∀ (m:aL) (W:World),j6 u gm W→Calls prog F #[.agg (az m).toArray,.pointer (some ⟨gm,0,none⟩)] W fun e w'=>e=.returned (.bool (p m.t))∧Below W.heap.size W w') :
  Calls prog 231 #[.slice A n c,.func (.func F) #[] #[.pointer (some ⟨gm,0,none⟩)]] w fun e w'=>e=.returned (.int .i64 (yz p (ay ms)))∧Below w.heap.size w w':=by
 have HK:=hid hk
 have HN:=hid hn
 have HM:=hid hm
 have HF:=hid hF
 clear hk hn hm hF
 go_enter func231,ntmps231
 go_wp2_with fail
 go_loopw [8] (fun s8 wr=>∃ i:Nat,s8=.int .i64 i∧i≤n∧Hid (∀ x∈(ay ms).take i,(!p x)=true)∧Aside (Below w.heap.size w wr)) (fun s8 _=>n - (intOf s8).toNat)
 case atStart=>exact⟨0,rfl,Nat.zero_le _,hid (by simp),Below.refl _ _⟩
 case round =>
  obtain⟨i,rfl,hi,HU,hB⟩:=hrel
  have BR:=hid hB.out
  clear hB
  by_cases hlt:i<n
  ·have hltz:(i:Int)<(n:Int):=by omega
   obtain⟨ad,m,hA,hx,hf,r0,r1,r2,r3,r4,r5,r6⟩:=(HK.out.stay BR.out).at_ (k:=i) (by have:=HN.out;omega)
   subst hA
   have X:Hid ((ay ms)[i]?=some m.t):=hid (gZ hx)
   have PC:=hid (HF.out m wr (HM.out.stay BR.out))
   unfold az at PC
   clear hx hf
   obtain⟨b,hb⟩:∃ b,p m.t=b:=⟨_,rfl⟩
   rw [hb] at PC
   cases b with
   | true =>
    have FF:Hid (yz p (ay ms)=(i:Int)):=hid (by
     unfold yz
     rw [if_pos (List.any_eq_true.2 ⟨m.t,List.mem_of_getElem? X.out,hb⟩),Sr.CB HU.out X.out (by rw [hb];rfl)])
    clear hb
    go_wp2_with fail
    refine PC.out.mono ?_
    rintro e w2 ⟨rfl,h2⟩
    have H2:=hid h2
    clear h2
    go_wp2
    go_ret
    exact⟨by rw [FF.out];rfl,BR.out.trans (H2.out.mono BR.out.size)⟩
   | false =>
    have FF:Hid (∀ x∈(ay ms).take (i+1),(!p x)=true):=hid fun x hx=>by
     rw [jS X.out] at hx
     rcases List.mem_append.1 hx with q | q
     ·exact HU.out x q
     ·simp only [List.mem_cons,List.not_mem_nil,or_false] at q
      subst q
      rw [hb];rfl
    clear hb
    go_wp2_with fail
    refine PC.out.mono ?_
    rintro e w2 ⟨rfl,h2⟩
    have H2:=hid h2
    clear h2
    go_wp2
    go_roundw
    case rel=>exact⟨i+1,by go_num,by omega,FF,BR.out.trans (H2.out.mono BR.out.size)⟩
    case measure=>simp [intOf];omega
  ·obtain rfl:i=n:=by omega
   have hltz:¬ ((i:Int)<(i:Int)):=by omega
   have FF:Hid (yz p (ay ms)=-1):=hid (by
    unfold yz
    rw [if_neg]
    intro q
    obtain⟨x,hx,hp⟩:=List.any_eq_true.1 q
    have:=HU.out x (by rw [List.take_of_length_le (by rw [aI];have:=HN.out;omega)];exact hx)
    rw [hp] at this
    cases this)
   go_wp2
   go_ret
   exact⟨by rw [FF.out];rfl,BR.out⟩
end
section
open Go.Shelf Go.RowKit Go.Lib Go.Sort
theorem j6.keepG {m:T9.Mu} {gm g B n c:Nat} {w w':World} {xs:List Value} (h:j6 m gm w) (hg:w.grownBy w' (some g)) (ho:w.ownsRow B 74 7 (.slice (some ⟨g,0,none⟩) n c) n xs):j6 m gm w':=by
 obtain⟨cur,_,hb,_⟩:=eZ ho
 exact (hg.block gm (lt_of_block h) (fun e=>by injection e with e;exact rT h hb (by decide) e)).trans h
theorem Gm {ms:List aL} {i:Nat} {x m:aL} (hx:ms[i]?=some x):splice (ai ms) (i * 7) (az m)=ai (ms.set i m):=by
 have hi:i<ms.length:=(List.getElem?_eq_some_iff.1 hx).1
 exact (rZ (f:=az) (size:=7) (fun _ _=>aU _) hi (aU m)).symm
theorem qo {α:Type} {p:α→Bool} {l:List α} {j:Nat} {x:α} (h:l[j]?=some x):(l.take (j+1)).filter p=(l.take j).filter p++(if p x=true then [x] else []):=by
 rw [jS h,List.filter_append]
 congr 1
 rw [List.filter_cons]
 split <;> simp_all
theorem any_not {α:Type} {p:α→Bool} {l:List α} (h:l.any p=false):l.filter (fun x=>!p x)=l:=by
 rw [List.filter_eq_self]
 intro x hx
 rw [List.any_eq_false] at h
 have:=h x hx
 simpa using this
theorem IB {α:Type} {p:α→Bool} {l:List α} (h:l.any p=true):∃ x,l[Sr.pos (fun t=>!p t) l]?=some x∧p x=true∧(l.take (Sr.pos (fun t=>!p t) l)).filter (fun t=>!p t)=l.take (Sr.pos (fun t=>!p t) l):=by
 induction l with
 | nil=>simp at h
 | cons y l ih =>
  rw [Sr.jv]
  cases q:p y with
  | true =>
   rw [if_neg (show ¬ (!true)=true by decide)]
   exact⟨y,by simp,q,by simp⟩
  | false =>
   rw [if_pos (show (!false)=true from rfl)]
   have h':l.any p=true:=by simpa [q] using h
   obtain⟨x,h1,h2,h3⟩:=ih h'
   refine⟨x,by rw [List.getElem?_cons_succ];exact h1,h2,?_⟩
   rw [List.take_succ_cons,List.filter_cons,if_pos (by rw [q];rfl),h3]
theorem pos_map {p:T9.Tk→Bool} (ms:List aL):Sr.pos (fun t=>!p t) (ay ms)=Sr.pos (fun m:aL=>!p m.t) ms:=by
 induction ms with
 | nil=>rfl
 | cons m ms ih =>
  show Sr.pos _ (m.t :: ay ms)=_
  rw [Sr.jv,Sr.jv,ih]
theorem any_map {p:T9.Tk→Bool} (ms:List aL):(ay ms).any p=ms.any fun m=>p m.t:=by
 unfold ay
 rw [List.any_map]
 rfl
theorem uT {n c gm B:Nat} {A:Option Addr} {u:T9.Mu} {F:FuncId} {p:T9.Tk→Bool} {ms:List aL} {w:World} (h:dX w B 74 7 A n c (ai ms)) (hn:n=ms.length) (ht:∀ m∈ms,m.fine w) (hm:j6 u gm w) (hs:n≤1000)
  (hC:∀ (args:Array Value) (w:World),(callFunc F args).run prog w=.ok (.enter F args) w) (hF:∀ (m:aL) (W:World),j6 u gm W→Calls prog F #[.agg (az m).toArray,.pointer (some ⟨gm,0,none⟩)] W fun e w'=>e=.returned (.bool (p m.t))∧Below W.heap.size W w') :
  Calls prog 201 #[.slice A n c,.func (.func F) #[] #[.pointer (some ⟨gm,0,none⟩)]] w (nW 74 7 A c (ai (ms.filter fun m=>!p m.t)) (ms.filter fun m=>!p m.t).length B w):=by
 have HK:Hid (KL w A ms):=hid ⟨(h.lies (by rw [aQ,hn])).old,ht⟩
 have HN:=hid hn
 have HM:=hid hm
 have HF:=hid hF
 have IC:=hid (Hd (c:=c) HK.out HN.out (by omega:n≤1000000) HM.out hC HF.out)
 have HO:=hid h
 obtain⟨ix,hix⟩:∃ i,yz p (ay ms)=i:=⟨_,rfl⟩
 rw [hix] at IC
 have HIX:=hid hix
 cases hany:ms.any fun m=>p m.t with
 | false =>
  obtain rfl:ix=-1:=by rw [← hix];unfold yz;rw [any_map,hany];rfl
  have FL:Hid ((ms.filter fun m=>!p m.t)=ms):=hid (any_not hany)
  rw [FL.out]
  clear h hn ht hm hF hix hany
  go_enter func201,ntmps201
  go_wp2_with (go_at_call 231;refine IC.out.mono ?_;rintro e w1 ⟨rfl,h1⟩;have H1:=hid h1;clear h1)
  go_ret
  exact⟨A,c,by rw [HN.out];rfl,by rw [← HN.out];exact HO.out.below H1.out,eG H1.out,.inl rfl⟩
 | true =>
  obtain⟨g,rfl,c0,own⟩:=h.parts.resolve_left (fun q=>by
   have:ms=[]:=List.length_eq_zero_iff.1 (by omega)
   subst this
   cases hany)
  obtain⟨x0,hx0,hp0,hk0⟩:=IB hany
  obtain⟨i0,hi0⟩:∃ i,Sr.pos (fun m:aL=>!p m.t) ms=i:=⟨_,rfl⟩
  rw [hi0] at hx0 hk0
  obtain rfl:ix=(i0:Int):=by rw [← hix];unfold yz;rw [any_map,hany,if_pos rfl,pos_map,hi0]
  have nc:=(aO own).2
  have i0n:i0<n:=by rw [hn];exact (List.getElem?_eq_some_iff.1 hx0).1
  have K0:Hid ((ms.take (i0+1)).filter (fun m=>!p m.t)=ms.take i0):=hid (by rw [qo hx0,hk0,hp0];simp)
  have ix1:((i0:Int)==-1)=false:=by rw [beq_eq_false_iff_ne];omega
  have OW:=hid own
  clear h hn ht hm hF hix hany own hx0 hk0 hp0 hi0 HO
  go_enter func201,ntmps201
  go_wp2_with (go_at_call 231;refine IC.out.mono ?_;rintro e w1 ⟨rfl,h1⟩;have H1:=hid h1;clear h1)
  go_loopw [5,6] (fun s5 s6 wr=>∃ (i j:Nat) (cur:List aL),s5=.int .i64 i∧s6=.int .i64 j∧i<j∧j≤n∧Hid (cur.length=n∧cur.take i=(ms.take j).filter (fun m=>!p m.t)∧cur.drop j=ms.drop j∧i≤cur.length)∧Aside (wr.ownsRow B 74 7 (.slice (some ⟨g,0,none⟩) n c) n (ai cur)∧w.grownBy wr (some g))) (fun _ s6 _=>n - (intOf s6).toNat)
  case atStart=>exact⟨i0,i0+1,ms,rfl,by go_num,by omega,by omega,hid ⟨HN.out.symm,K0.out.symm,rfl,by rw [← HN.out];omega⟩,own_below OW.out H1.out,eG H1.out⟩
  case round =>
   obtain⟨i,j,cur,rfl,rfl,hij,hjn,HC,hA⟩:=hrel
   have OR:=hid hA.out.1
   have GR:=hid hA.out.2
   clear hA
   by_cases hlt:j<n
   ·have hltz:(j:Int)<(n:Int):=by omega
    obtain⟨m,hmj⟩:∃ m,cur[j]?=some m:=⟨_,List.getElem?_eq_getElem (by rw [HC.out.1];exact hlt)⟩
    have XJ:=hid hmj
    have XM:Hid (ms[j]?=some m):=hid (by
     have q:=congrArg (fun l:List aL=>l[0]?) HC.out.2.2.1
     simp only [List.getElem?_drop,Nat.add_zero] at q
     rw [← q];exact hmj)
    have cell:∀ k v,(az m)[k]?=some v→wr.cell? ⟨g,j * 7+k,none⟩=some v:=fun k v hv=>by
     have hk:k<7:=by
      rcases Nat.lt_or_ge k (az m).length with q | q
      ·rw [aU] at q;exact q
      ·rw [List.getElem?_eq_none q] at hv;cases hv
     exact cZ OR.out ((iB (f:=az) (size:=7) (fun x _=>aU x) hmj hk).trans hv)
    have r0:=cell 0 _ rfl
    have r1:=cell 1 _ rfl
    have r2:=cell 2 _ rfl
    have r3:=cell 3 _ rfl
    have r4:=cell 4 _ rfl
    have r5:=cell 5 _ rfl
    have r6:=cell 6 _ rfl
    rw [Nat.add_zero] at r0
    obtain⟨w2,hw2⟩:∃ u,wr.alloc (.cells #[.int .u64 (m.t.id:Int),.int .u64 (m.t.list:Int),.string (str m.t.title),.bool m.t.done,.float .f64 m.t.rank,.float .f64 m.t.est,.slice m.A m.t.tags.length m.c] 74)=u:=⟨_,rfl⟩
    obtain⟨lb,b2,z2⟩:=bn hw2
    obtain⟨l0,l1,l2,l3,l4,l5,l6⟩:=aj lb
    have B2:=hid b2
    have LB:=hid lb
    have M2:=hid (HM.out.keepG GR.out OW.out)
    have PC:=hid (HF.out m w2 (M2.out.stay b2))
    unfold az at PC
    obtain⟨b,hb⟩:∃ b,p m.t=b:=⟨_,rfl⟩
    rw [hb] at PC
    have HBB:=hid hb
    have DJ:Hid (cur.drop (j+1)=ms.drop (j+1)):=hid (by have q:=congrArg (List.drop 1) HC.out.2.2.1;rw [List.drop_drop,List.drop_drop] at q;exact q)
    clear cell hmj lb b2 z2 hb
    cases b with
    | true =>
     go_wp2_with fail
     refine PC.out.mono ?_
     rintro e w3 ⟨rfl,h3⟩
     have H3:=hid h3
     clear h3
     go_wp2
     go_roundw
     case rel=>exact⟨i,j+1,cur,rfl,by go_num,by omega,by omega,hid ⟨HC.out.1,by rw [qo XM.out,HBB.out];simpa using HC.out.2.1,DJ.out,HC.out.2.2.2⟩,own_below (own_below OR.out B2.out) H3.out,dK GR.out (eG (B2.out.trans (H3.out.mono B2.out.size)))⟩
     case measure=>simp [intOf];omega
    | false =>
     go_wp2_with fail
     refine PC.out.mono ?_
     rintro e w3 ⟨rfl,h3⟩
     have H3:=hid h3
     have OR3:=hid (own_below (own_below OR.out B2.out) h3)
     obtain⟨xi,hxi⟩:∃ x,cur[i]?=some x:=⟨_,List.getElem?_eq_getElem (by rw [HC.out.1];omega)⟩
     have XI:=hid hxi
     have th:∀ k,k<7→(w3.cell? ⟨g,i * 7+k,none⟩).isSome=true∧w3.frozen? ⟨g,i * 7+k,none⟩=false:=fun k hk =>
      kR OR3.out (o:=i * 7) (m:=7) (by rw [aQ,HC.out.1];omega) k hk
     obtain⟨v0,q0⟩:=Option.isSome_iff_exists.1 (th 0 (by decide)).1
     obtain⟨v1,q1⟩:=Option.isSome_iff_exists.1 (th 1 (by decide)).1
     obtain⟨v2,q2⟩:=Option.isSome_iff_exists.1 (th 2 (by decide)).1
     obtain⟨v3,q3⟩:=Option.isSome_iff_exists.1 (th 3 (by decide)).1
     obtain⟨v4,q4⟩:=Option.isSome_iff_exists.1 (th 4 (by decide)).1
     obtain⟨v5,q5⟩:=Option.isSome_iff_exists.1 (th 5 (by decide)).1
     obtain⟨v6,q6⟩:=Option.isSome_iff_exists.1 (th 6 (by decide)).1
     have f0:=(th 0 (by decide)).2
     have f1:=(th 1 (by decide)).2
     have f2:=(th 2 (by decide)).2
     have f3:=(th 3 (by decide)).2
     have f4:=(th 4 (by decide)).2
     have f5:=(th 5 (by decide)).2
     have f6:=(th 6 (by decide)).2
     rw [Nat.add_zero] at q0 f0
     obtain⟨k0,k1,k2,k3,k4,k5,k6⟩:=aj ((h3.block wr.heap.size (lt_of_block LB.out)).trans LB.out)
     have hin:(i:Int)<(n:Int):=by omega
     clear h3 th hxi
     go_wp2_with fail
     go_roundw
     case rel =>
      refine⟨i+1,j+1,cur.set i m,by go_num,by go_num,by omega,by omega,hid ⟨by rw [List.length_set];exact HC.out.1,?_,?_,by rw [List.length_set,HC.out.1];omega⟩,?_,?_⟩
      ·have e:(cur.set i m)[i]?=some m:=by rw [List.getElem?_set_self (by rw [HC.out.1];omega)]
       rw [qo XM.out,HBB.out,jS e,List.take_set_of_le (Nat.le_refl _),HC.out.2.1]
       simp
      ·rw [List.drop_set_of_lt (by omega)]
       exact DJ.out
      ·have q:=aV (o:=i * 7) (vs:=az m) OR3.out (by rw [aQ,HC.out.1,aU];omega)
       rw [Gm XI.out] at q
       exact q
      ·exact dK GR.out (dK (eG (B2.out.trans (H3.out.mono B2.out.size))) (aR g (az m) (i * 7) _))
     case measure=>simp [intOf];omega
   ·obtain rfl:j=n:=by omega
    have hltz:¬ ((j:Int)<(j:Int)):=by omega
    have FL:Hid (cur.take i=ms.filter (fun m=>!p m.t)∧(ms.filter fun m=>!p m.t).length=i):=hid (by
     have q:=HC.out.2.1
     rw [List.take_of_length_le (l:=ms) (by rw [← HN.out];exact Nat.le_refl _)] at q
     refine⟨q,?_⟩
     rw [← q,List.length_take,HC.out.1]
     omega)
    obtain⟨k,rfl⟩:∃ k,j=i+k:=⟨j - i,by omega⟩
    have hci:¬ (c=i):=by omega
    have hic:i≤i+k:=by omega
    have hici:(i:Int)≤(i:Int)+(k:Int):=by omega
    have hicc:i≤c:=by omega
    have hiccz:(i:Int)≤(c:Int):=by omega
    have hcl:=fun ty=>kE (P:=prog) (k:=7) (t:=23) (z:=.agg #[.int .u64 0,.int .u64 0,.string ⟨#[]⟩,.bool false,.float .f64 0,.float .f64 0,.slice none 0 0]) (p:=i) (m:=k) (sc:=c - i) ty underlying23 (fun w=>zeroValue74 w) rfl (by decide) OR.out
    obtain⟨Ar,oV,hcr⟩:=hcl 0
    obtain⟨w4,hw4⟩:∃ u,wr.setCells g (i * 7) Ar=u:=⟨_,rfl⟩
    rw [hw4] at hcr
    have O4:Hid (w4.ownsRow B 74 7 (.slice (some ⟨g,0,none⟩) i c) i (ai (ms.filter fun m=>!p m.t))):=hid (by
     have q:=gM (aV (o:=i * 7) (vs:=Ar) OR.out (by rw [OR.out.1,oV];omega)) (m:=i) (by omega)
     rw [hw4] at q
     have e:(splice (ai cur) (i * 7) Ar).take (i * 7)=ai (ms.filter fun m=>!p m.t):=by
      unfold splice
      rw [List.take_left' (by rw [List.length_take,aQ,HC.out.1];omega),eQ,FL.out.1]
     rw [e] at q
     exact q)
    have G4:Hid (w.grownBy w4 (some g)):=hid (by rw [← hw4];exact dK GR.out (aR g _ _ _))
    clear oV hw4 hcl
    go_wp2_with (refine dG rfl _ 23 rfl _ rfl hcr ?_)
    go_ret
    rw [FL.out.2]
    exact⟨_,c,rfl,.inr ⟨g,rfl,O4.out⟩,by rw [aZ c0];exact G4.out,.inl rfl⟩
end
end
end Go.Proofs.YtcedlgedmkghgaaGreat
