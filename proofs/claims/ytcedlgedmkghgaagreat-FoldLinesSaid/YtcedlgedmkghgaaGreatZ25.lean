import Derived.Test.YtcedlgedmkghgaaGreatZ19
import Derived.Test.YtcedlgedmkghgaaGreatZ17
import Derived.Test.YtcedlgedmkghgaaGreatZ22
import Derived.Deep.LoopGhost
namespace Go.Proofs.YtcedlgedmkghgaaGreat
set_option maxHeartbeats 16000000
open Go.Lib Go.Proofs.Tryz
set_option linter.unusedSimpArgs false
set_option maxRecDepth 100000
section
section
open Go.Shelf Go.RowKit Go.Lib Go.Sort
namespace T9
theorem plc_hit {l:List Tk} {i id:Nat} {t:Tk} (h:∀ x∈l.take i,x.id≠id) (hx:l[i]?=some t) (e:t.id=id):xM l id=some i:=by
 obtain⟨hi,et⟩:=List.getElem?_eq_some_iff.1 hx
 unfold xM
 rw [List.findIdx?_eq_some_iff_getElem]
 refine⟨hi,by simp [et,e],fun j hj=>?_⟩
 have q:=h l[j] (List.mem_iff_getElem.2 ⟨j,by rw [List.length_take];omega,List.getElem_take⟩)
 simpa using q
theorem Iy {l:List Tk} {i id:Nat} {t:Tk} (h:∀ x∈l.take i,x.id≠id) (hx:l[i]?=some t) (e:t.id≠id):∀ x∈l.take (i+1),x.id≠id:=fun x hm=>by
 rw [jS hx] at hm
 rcases List.mem_append.1 hm with q | q
 ·exact h x q
 ·simp only [List.mem_cons,List.not_mem_nil,or_false] at q
  subst q
  exact e
def y7 (l:List Tk) (id:Nat):Int:=match xM l id with | some k=>(k:Int) | none=>-1
theorem Es {l:List Tk} {id k:Nat} (h:xM l id=some k):y7 l id=(k:Int):=by unfold y7;rw [h]
theorem Er {l:List Tk} {id:Nat} (h:xM l id=none):y7 l id=-1:=by unfold y7;rw [h]
end T9
theorem Bj {A:Option Addr} {n c id:Nat} {ms:List aL} {w:World} (hk:KL w A ms) (hn:n=ms.length) (hs:n≤1000000) :
  Calls prog 189 #[.slice A n c,.int .u64 (id:Int)] w fun e w'=>e=.returned (.int .i64 (T9.y7 (ay ms) id))∧Below w.heap.size w w':=by
 have HK:=hid hk
 have HN:=hid hn
 clear hk hn
 go_enter func189,ntmps189
 go_wp2_with fail
 go_loopw [9] (fun s9 wr=>∃ i:Nat,s9=.int .i64 i∧i≤n∧Hid (∀ x∈(ay ms).take i,x.id≠id)∧Aside (Below w.heap.size w wr)) (fun s9 _=>n - (intOf s9).toNat)
 case atStart=>exact⟨0,rfl,Nat.zero_le _,hid (by simp),Below.refl _ _⟩
 case round =>
  obtain⟨i,rfl,hi,HU,hB⟩:=hrel
  have BR:=hid hB.out
  clear hB
  by_cases hlt:i<n
  ·have hltz:(i:Int)<(n:Int):=by omega
   obtain⟨ad,m,hA,hx,hf,r0,r1,r2,r3,r4,r5,r6⟩:=(HK.out.stay BR.out).at_ (k:=i) (by have:=HN.out;omega)
   subst hA
   have X:Hid ((ay ms)[i]?=some m.t):=hid (gZ hx)
   obtain⟨w2,hw2⟩:∃ u,wr.alloc (.cells #[.int .u64 (m.t.id:Int),.int .u64 (m.t.list:Int),.string (str m.t.title),.bool m.t.done,.float .f64 m.t.rank,.float .f64 m.t.est,.slice m.A m.t.tags.length m.c] 74)=u:=⟨_,rfl⟩
   obtain⟨lb,b2,z2⟩:=bn hw2
   have B2:=hid b2
   obtain⟨l0,l1,l2,l3,l4,l5,l6⟩:=aj lb
   clear hx hf lb b2 z2
   by_cases he:m.t.id=id
   ·have uD:((m.t.id:Int)==(id:Int))=true:=by simp [he]
    have F:Hid (T9.y7 (ay ms) id=(i:Int)):=hid (T9.Es (T9.plc_hit HU.out X.out he))
    clear he
    go_wp2
    go_ret
    exact⟨by rw [F.out];rfl,BR.out.trans (B2.out.mono BR.out.size)⟩
   ·have uD:((m.t.id:Int)==(id:Int))=false:=by simp;omega
    have F:Hid (∀ x∈(ay ms).take (i+1),x.id≠id):=hid (T9.Iy HU.out X.out he)
    clear he
    go_wp2
    go_roundw
    case rel=>exact⟨i+1,by go_num,by omega,F,BR.out.trans (B2.out.mono BR.out.size)⟩
    case measure=>simp [intOf];omega
  ·obtain rfl:i=n:=by omega
   have hltz:¬ ((i:Int)<(i:Int)):=by omega
   have F:Hid (T9.y7 (ay ms) id=-1):=hid (T9.Er (T9.y8.2 fun t ht=>HU.out t (by rw [List.take_of_length_le (by rw [aI,HN.out];exact Nat.le_refl _)];exact ht)))
   go_wp2
   go_ret
   exact⟨by rw [F.out];rfl,BR.out⟩
end
section
open Go.Shelf Go.RowKit Go.Lib Go.Sort
namespace T9
end T9
end
section
open Go.Shelf Go.RowKit Go.Lib Go.Sort
theorem qP (m:aL) (id:Nat) (W:World):Calls prog 234 #[.agg (az m).toArray,.int .u64 (id:Int)] W fun e w'=>e=.returned (.int .i64 (h_ m.t.id id))∧Below W.heap.size W w':=by
 obtain⟨w1,hw1⟩:∃ u,W.alloc (.cells (az m).toArray 74)=u:=⟨_,rfl⟩
 unfold az at hw1 ⊢
 obtain⟨lb,b1,z1⟩:=bn hw1
 obtain⟨l0,l1,l2,l3,l4,l5,l6⟩:=aj lb
 have B1:=hid b1
 clear b1 lb z1
 go_enter func234,ntmps234
 go_wp2_with (go_at_call 172;refine (qf _ _ _).mono ?_;rintro e w' ⟨rfl,rfl⟩)
 go_ret
 exact⟨rfl,B1.out⟩
theorem FP {A:Option Addr} {n c id k:Nat} {ms:List aL} {w:World} (hk:KL w A ms) (hn:n=ms.length) (hs:n≤1000000) (hu:(ay ms).Pairwise fun x y=>x.id<y.id) (hm:((ay ms)[k]?).map (·.id)=some id) :
  Calls prog 233 #[.slice A n c,.int .u64 (id:Int),.func (.func 234) #[] #[]] w fun e w'=>e=.returned (.tuple #[.int .i64 (k:Int),.bool true])∧Below w.heap.size w w':=by
 have HK:=hid hk
 have HN:=hid hn
 have kn:k<n:=by
  rcases Nat.lt_or_ge k (ay ms).length with q | q
  ·rw [aI] at q;omega
  ·rw [List.getElem?_eq_none q] at hm;cases hm
 have ids:∀ i t,(ay ms)[i]?=some t→(i<k→t.id<id)∧(i=k→t.id=id)∧(k<i→id<t.id):=fun i t hi=>by
  obtain⟨h1,e1⟩:=List.getElem?_eq_some_iff.1 hi
  have h2:k<(ay ms).length:=by rw [aI];omega
  rw [List.getElem?_eq_getElem h2,Option.map_some] at hm
  injection hm with hm
  refine⟨fun q=>?_,fun q=>?_,fun q=>?_⟩
  ·have:=List.pairwise_iff_getElem.1 hu i k h1 h2 q
   rw [e1,hm] at this
   exact this
  ·subst q;rw [← hm,e1]
  ·have:=List.pairwise_iff_getElem.1 hu k i h2 h1 q
   rw [e1,hm] at this
   exact this
 have ID:=hid ids
 clear hk hn hu hm ids
 go_enter func233,ntmps233
 go_wp2_with fail
 go_loopg [9,10] n (fun kx s9 s10 wr=>∃ lo hi:Nat,s9=.int .i64 lo∧s10=.int .i64 hi∧lo≤hi∧hi≤n∧hi - lo≤kx∧lo≤k∧k≤hi∧Aside (Below w.heap.size w wr))
 case atStart=>exact⟨0,n,rfl,rfl,Nat.zero_le _,Nat.le_refl _,by omega,Nat.zero_le _,by omega,Below.refl _ _⟩
 case round =>
  obtain⟨lo,hi,rfl,rfl,hlh,hin,hg,hlk,hkh,hB⟩:=hrel
  have BR:=hid hB.out
  clear hB
  by_cases hlt:lo<hi
  ·obtain⟨ad,m,hA,hx,hf,r0,r1,r2,r3,r4,r5,r6⟩:=(HK.out.stay BR.out).at_ (k:=(lo+hi) / 2) (by have:=HN.out;omega)
   subst hA
   have ids:=ID.out _ _ (gZ hx)
   have PC:=hid (qP m id wr)
   unfold az at PC
   clear hx hf
   by_cases hc:(lo+hi) / 2<k
   ·have e:h_ m.t.id id=-1:=by unfold h_;rw [if_pos (ids.1 hc)]
    rw [e] at PC
    clear ids e
    go_wp2_with (go_at_call 234;refine PC.out.mono ?_;rintro e w' ⟨rfl,h2⟩;have H2:=hid h2;clear h2)
    go_roundg (hi - ((lo+hi) / 2+1))
    case measure=>omega
    case rel=>exact⟨(lo+hi) / 2+1,hi,by rw [show ((lo:Int)+(hi:Int)) / 2+1=(((lo+hi) / 2+1:Nat):Int) by omega],rfl,by omega,hin,Nat.le_refl _,by omega,hkh,BR.out.trans (H2.out.mono BR.out.size)⟩
   ·have e:∃ v:Int,h_ m.t.id id=v∧0≤v:=by
     refine⟨_,rfl,?_⟩
     unfold h_
     have:¬ m.t.id<id:=by
      rcases Nat.lt_or_ge k ((lo+hi) / 2) with q | q
      ·have:=ids.2.2 q;omega
      ·have:=ids.2.1 (by omega);omega
     rw [if_neg this]
     split <;> omega
    obtain⟨v,e,hv⟩:=e
    have hvn:¬ (v<0):=by omega
    rw [e] at PC
    clear ids e
    go_wp2_with (go_at_call 234;refine PC.out.mono ?_;rintro e w' ⟨rfl,h2⟩;have H2:=hid h2;clear h2)
    go_roundg ((lo+hi) / 2 - lo)
    case measure=>omega
    case rel=>exact⟨lo,(lo+hi) / 2,rfl,by rw [show ((lo:Int)+(hi:Int)) / 2=(((lo+hi) / 2:Nat):Int) by omega],by omega,by omega,Nat.le_refl _,by omega,by omega,BR.out.trans (H2.out.mono BR.out.size)⟩
  ·obtain rfl:hi=lo:=by omega
   obtain rfl:k=hi:=by omega
   have knz:(k:Int)<(n:Int):=by omega
   obtain⟨ad,m,hA,hx,hf,r0,r1,r2,r3,r4,r5,r6⟩:=(HK.out.stay BR.out).at_ (k:=k) (by have:=HN.out;omega)
   subst hA
   have e:h_ m.t.id id=0:=by
    have q:=(ID.out _ _ (gZ hx)).2.1 rfl
    unfold h_
    rw [q,if_neg (Nat.lt_irrefl _),if_neg (Nat.lt_irrefl _)]
   have PC:=hid (qP m id wr)
   unfold az at PC
   rw [e] at PC
   clear hx hf e
   go_wp2_with (go_at_call 234;refine PC.out.mono ?_;rintro e w' ⟨rfl,h2⟩;have H2:=hid h2;clear h2)
   go_ret2
   exact⟨rfl,BR.out.trans (H2.out.mono BR.out.size)⟩
def SprOk (s:T9.St) (list:Nat) (w:World) (e:Ending) (w':World):Prop :=
 ∃ (m:aW) (l:List T9.Tk),e=.returned m.val∧SM m w'∧Below w.heap.size w w'∧T9.uz (T9.canon s).tasks list l∧m.st=⟨(T9.canon s).lists,(T9.canon s).tasks.map (T9.nN l)⟩∧j_ m w'
theorem xW (s:T9.St):(T9.canon s).tasks.Pairwise fun x y=>x.id<y.id:=by
 have q:=(Sr.gp T9.woK s.tasks).1
 show ((Sr.canon T9.iT s.tasks).map T9.norm).Pairwise _
 exact List.pairwise_map.2 (q.imp fun h=>of_decide_eq_true h)
theorem wV {w w':World} {g:Nat} {t:TypeId} {xs:List Value} (h:au w w.heap.size t (some ⟨g,0,none⟩) xs) (hb:w'.heap[g]?=w.heap[g]?) (hs:w.heap.size≤w'.heap.size):au w' w'.heap.size t (some ⟨g,0,none⟩) xs:=fun hx=>by
 obtain⟨ad,e,hg,hc⟩:=h hx
 injection e with e
 subst e
 have hg':g<w.heap.size:=by
  rcases hg with q | ⟨_,_,q⟩
  ·exact q
  ·exact lt_of_block q
 refine⟨_,rfl,.inl (Nat.lt_of_lt_of_le hg' hs),fun j u hu=>?_⟩
 rw [← hc j u hu,dN]
 simp only [World.cell?,hb]
theorem Iq {w:World} {B g n c k v:Nat} {ms:List aL} {mk:aL} (h:w.ownsRow B 74 7 (.slice (some ⟨g,0,none⟩) n c) n (ai ms)) (hn:ms.length=n) (hm:ms[k]?=some mk) (hk:k<n):(w.setCell ⟨g,k * 7+4,none⟩ (.float .f64 v)).ownsRow B 74 7 (.slice (some ⟨g,0,none⟩) n c) n (ai (ms.set k ⟨{ mk.t with rank:=v },mk.A,mk.c⟩)):=by
 rw [← gD hm (by decide:4<7) (v:=.float .f64 v) rfl]
 exact aV (vs:=[.float .f64 v]) h (by rw [aQ,hn];simp;omega)
theorem oM (i:Nat) (w:World):(convert 3 63 (.int .i64 ((i:Int)+1))).run prog w=.ok (.float .f64 (Fl.xK (i+1))) w:=by
 have e:((i:Int)+1)=((i+1:Nat):Int):=by omega
 rw [e]
 simp [convert,run_underlying underlying3,run_underlying underlying63,Conv.intToFloat,Fl.xK]
theorem Jf {A A2:Option Addr} {n1 n2 c c2:Nat} {ls:List T9.Li} {ms:List aL} {w:World} (hl:LL w A ls) (hk:KL w A2 ms) (e1:n1=ls.length) (e2:n2=ms.length) (h1:n1≤1000000) (hs:n2≤1000000) (hsh:∀ m∈ms,m.t.tags.length<20) (hr:∀ m∈ms,m.t.rank<18446744073709551616) (list:Nat) :
  Calls prog 204 #[.agg #[.slice A n1 c,.slice A2 n2 c2],.int .u64 (list:Int)] w (SprOk ⟨ls,ay ms⟩ list w):=by
 obtain⟨w0,hw0⟩:∃ u,w.alloc (.cells #[.slice A n1 c,.slice A2 n2 c2] 25)=u:=⟨_,rfl⟩
 obtain⟨pb0,b0,z0⟩:=ak hw0
 obtain⟨w1,hw1⟩:∃ u,w0.alloc (.cells #[.slice none 0 0,.slice none 0 0] 25)=u:=⟨_,rfl⟩
 obtain⟨JF,b1',z1⟩:=ak hw1
 have b1:Below w.heap.size w w1:=b0.trans (b1'.mono (by omega))
 have pb:=(b1'.block w.heap.size (by omega)).trans pb0
 have z1':w1.heap.size=w.heap.size+2:=by omega
 have Z0:=hid z0
 have Z1:=hid z1'
 have PB:=hid pb
 have PR:=hid JF
 have B1:=hid b1
 have CC:=hid (rU (c:=c) (c2:=c2) (hl.stay b1) (hk.stay b1) e1 e2 h1 hs hsh)
 obtain⟨p0,p1⟩:=aa pb
 obtain⟨K,hK⟩:∃ k,(T9.canon ⟨ls,ay ms⟩).tasks=k:=⟨_,rfl⟩
 have HKK:=hid hK
 have RO:Hid (∀ t∈K,t.rank<18446744073709551616∧t.tags.length≤1000000):=hid fun t ht=>by
  rw [← hK] at ht
  obtain⟨u,hu,rfl⟩:=List.mem_map.1 ht
  obtain⟨m,hm,rfl⟩:=List.mem_map.1 (Sr.gJ hu)
  exact⟨Fl.rY (hr m hm),Nat.le_trans (Sr.dB _) (by have:=hsh m hm;omega)⟩
 have KLN:Hid (K.length≤1000000):=hid (by
  rw [← hK]
  show ((Sr.canon T9.iT (ay ms)).map T9.norm).length≤_
  rw [List.length_map]
  exact Nat.le_trans (Sr.dB _) (by rw [aI,← e2];exact hs))
 have KUP:Hid (K.Pairwise fun x y=>x.id<y.id):=hid (by rw [← hK];exact xW _)
 clear hl hk e1 e2 h1 hs hsh hr pb b1 z1 z0 z1' pb0 JF b0 b1' hK
 go_enter func204,ntmps204
 go_wp2_with fail
 refine CC.out.mono ?_
 rintro e w2 ⟨⟨ls0,A0,c0,ms0,zU,wh⟩,rfl,hm0,hst0,hb2,⟨hL2,hF2,hO2⟩,_⟩
 obtain⟨_,_,hlc,hkc⟩:=hm0
 dsimp only at hlc hkc hL2 hF2 hO2
 have HLC:=hid hlc
 have EP:=hid hkc
 have TK0:Hid (ay ms0=K):=hid (by rw [← HKK.out,← hst0];rfl)
 have LS0:Hid (ls0=(T9.canon ⟨ls,ay ms⟩).lists):=hid (by rw [← hst0];rfl)
 have rH:=(hb2.block w.heap.size (by have:=Z1.out;omega)).trans PB.out
 have pr2:=(hb2.block w0.heap.size (by have:=Z1.out;have:=Z0.out;omega)).trans PR.out
 have q0:=(aa rH).1
 have q1:=(aa rH).2
 have jC:=af rH 0
 have jl:=af rH 1
 unfold aW.val
 dsimp only
 obtain⟨nk,hnk⟩:∃ n,n=ms0.length:=⟨_,rfl⟩
 obtain⟨nl,hnl⟩:∃ n,n=ls0.length:=⟨_,rfl⟩
 rw [← hnk] at hkc hO2
 rw [← hnk,← hnl]
 obtain⟨w3,hw3⟩:∃ u,(w2.setCell ⟨w.heap.size,0,none⟩ (.slice A0 nl c0)).setCell ⟨w.heap.size,1,none⟩ (.slice zU nk wh)=u:=⟨_,rfl⟩
 have Y2:Ty w2 w.heap.size 25:=⟨_,_,rH⟩
 have T23:Hid (aN w.heap.size [25] w2 w3):=hid (by
  rw [← hw3]
  exact ((aN.refl _ _ w2).aC (p:=⟨w.heap.size,0,none⟩) Y2 (by simp) (Nat.le_refl _) _).aC (p:=⟨w.heap.size,1,none⟩) (Y2.set _ _) (by simp) (Nat.le_refl _) _)
 have SB3:Hid (w3.heap[w.heap.size]?=some (.cells #[.slice A0 nl c0,.slice zU nk wh] 25 (0,0))):=hid (by rw [← hw3];exact (ah (ah rH 0 (.slice A0 nl c0)) 1 (.slice zU nk wh)).trans rfl)
 have ne0:w0.heap.size≠w.heap.size:=by have:=Z0.out;omega
 have PR3:Hid (w3.heap[w0.heap.size]?=some (.cells #[.slice none 0 0,.slice none 0 0] 25 (0,0))):=hid (by rw [← hw3];exact av (av pr2 (p:=⟨w.heap.size,0,none⟩) ne0 _) (p:=⟨w.heap.size,1,none⟩) ne0 _)
 have B3:Hid (Below w.heap.size w w3):=hid ((B1.out.trans (hb2.mono B1.out.size)).trans T23.out.below)
 have L3:Hid (au w3 0 71 A0 (aJ ls0)):=hid (dD hL2 T23.out (by decide))
 have F3:Hid (∀ m∈ms0,m.iW w3):=hid fun m hm=>⟨dD (hF2 m hm) T23.out (by decide),by
  have:=(‹KL _ _ _›).2 m hm
  exact this.2⟩
 have O3:Hid (nk=0∨∃ g,zU=some ⟨g,0,none⟩∧w3.ownsRow w1.heap.size 74 7 (.slice (some ⟨g,0,none⟩) nk wh) nk (ai ms0)):=hid (by
  rcases hO2 with q | ⟨g,e,q⟩
  ·left;rw [hnk,q];rfl
  ·exact .inr ⟨g,e,bP q T23.out (by decide)⟩)
 have K3:Hid (KL w3 zU ms0):=hid (by
  refine⟨?_,fun m hm=>(F3.out m hm).fine⟩
  rcases O3.out with q | ⟨g,e,q⟩
  ·have:ms0=[]:=List.length_eq_zero_iff.1 (hnk.symm.trans q)
   subst this
   exact au.nil
  ·rw [e]
   exact (aG (B:=0) (t:=74) q).old)
 have NK:=hid hnk
 have NL:=hid hnl
 have nkb:nk≤1000000:=by rw [hnk,← aI,TK0.out];exact KLN.out
 have MK:Hid (∀ m∈ms0,m.t∈K):=hid fun m hm=>by rw [← TK0.out];exact List.mem_map.2 ⟨m,hm,rfl⟩
 have OC:=hid (order_c (A:=A0) (n1:=nl) (c:=c0) (c2:=wh) K3.out NK.out nkb (fun m hm=>(RO.out _ (MK.out m hm)).2) (fun m hm=>(RO.out _ (MK.out m hm)).1) list)
 obtain⟨q30,q31⟩:=aa SB3.out
 clear p0 p1 hst0 hb2 hL2 hF2 hO2 rH pr2 hnk hnl Y2 hlc hkc
 go_wp2_with fail
 refine OC.out.mono ?_
 rintro e w4 ⟨A3,c3,xs,rfl,hk4,hc4,ho4,h4,hx4,hf4⟩
 have B4:=hid (B3.out.trans (h4.mono B3.out.size))
 have H4:=hid h4
 have O4:Hid (T9.uz K list (ay xs)):=hid (by rw [TK0.out] at ho4;exact ho4)
 have X4:=hid hx4
 have F4:=hid hf4
 have K4:=hid hk4
 obtain⟨n3,hn3⟩:∃ n,n=xs.length:=⟨_,rfl⟩
 have N3:=hid hn3
 have UK:Hid (T9.rq K):=hid (KUP.out.imp fun q=>by omega)
 have UX:Hid (T9.rq (ay xs)):=hid ((UK.out.filter _).perm O4.out.perm)
 have n3b:n3≤1000000:=by
  have q:=O4.out.perm.length_eq
  rw [aI,← hn3] at q
  rw [q]
  exact Nat.le_trans (List.length_filter_le _ _) KLN.out
 rw [← hn3]
 have SB4:=hid ((h4.block w.heap.size (lt_of_block SB3.out)).trans SB3.out)
 have PR4:=hid ((h4.block w0.heap.size (lt_of_block PR3.out)).trans PR3.out)
 have LL4:Hid (au w4 0 71 A0 (aJ ls0)):=hid (L3.out.below (Nat.zero_le _) h4)
 have I4:Hid (ms0.length=nk∧ay ms0=K.map (T9.nN ((ay xs).take 0))∧(∀ m∈ms0,m.iW w4)∧(nk=0∨∃ g,zU=some ⟨g,0,none⟩∧g<w3.heap.size∧w4.ownsRow w1.heap.size 74 7 (.slice (some ⟨g,0,none⟩) nk wh) nk (ai ms0))):=hid ⟨NK.out.symm,by rw [TK0.out,List.take_zero];exact (List.map_id' K).symm,fun m hm=>(F3.out m hm).stay h4,O3.out.imp id fun ⟨g,e,q⟩=>⟨g,e,(q.lt g rfl).2,own_below q h4⟩⟩
 clear hk4 hc4 ho4 h4 hx4 hf4 hn3 q30 q31
 go_wp2_with fail
 go_loopw [15] (fun s15 wr=>∃ (i:Nat) (ms':List aL),s15=.int .i64 i∧i≤n3∧Aside (au wr wr.heap.size 0 A3 (ai xs))∧Aside (aN w.heap.size [74] w4 wr)∧Hid (ms'.length=nk∧ay ms'=K.map (T9.nN ((ay xs).take i))∧(∀ m∈ms',m.iW wr)∧(nk=0∨∃ g,zU=some ⟨g,0,none⟩∧g<w3.heap.size∧wr.ownsRow w1.heap.size 74 7 (.slice (some ⟨g,0,none⟩) nk wh) nk (ai ms')))) (fun s15 _=>n3 - (intOf s15).toNat)
 case atStart=>exact⟨0,ms0,rfl,Nat.zero_le _,K4.out.1,aN.refl _ _ _,I4⟩
 case round =>
  obtain⟨i,ms',rfl,hi,hLx,hT,HI⟩:=hrel
  have LX:=hid hLx.out
  have TT:=hid hT.out
  clear hLx hT
  have KX:Hid (KL wr A3 xs):=hid ⟨LX.out,fun m hm=>((F4.out m hm).bH TT.out (by decide)).fine⟩
  have SBR:Hid (wr.heap[w.heap.size]?=some (.cells #[.slice A0 nl c0,.slice zU nk wh] 25 (0,0))):=hid (TT.out.blk SB4.out (by decide))
  have PRR:Hid (wr.heap[w0.heap.size]?=some (.cells #[.slice none 0 0,.slice none 0 0] 25 (0,0))):=hid (TT.out.blk PR4.out (by decide))
  by_cases hlt:i<n3
  ·have hltz:(i:Int)<(n3:Int):=by omega
   obtain⟨ad,⟨tk,A5,c5⟩,hA,hx,hf,r0,r1,r2,r3,r4,r5,r6⟩:=KX.out.at_ (k:=i) (by have:=N3.out;omega)
   obtain⟨g3,hg3,hlo⟩:=X4.out.resolve_left (fun q=>by rw [q] at hx;simp at hx)
   have ead:ad=⟨g3,0,none⟩:=by rw [hg3] at hA;injection hA with hA;exact hA.symm
   have EAD:=hid ead
   have HLO:=hid hlo
   subst hA
   have X:Hid ((ay xs)[i]?=some tk):=hid (gZ hx)
   dsimp only at r0 r1 r2 r3 r4 r5 r6
   obtain⟨k,hk⟩:∃ k,K[k]?=some tk:=by
    have q:=(List.mem_filter.1 (O4.out.perm.mem_iff.1 (List.mem_of_getElem? X.out))).1
    obtain⟨k,hk,e⟩:=List.mem_iff_getElem.1 q
    exact⟨k,by rw [List.getElem?_eq_getElem hk,e]⟩
   have HK5:=hid hk
   have kl:k<nk:=by
    have q:=(List.getElem?_eq_some_iff.1 hk).1
    have e:=NK.out
    rw [← TK0.out,aI,← e] at q
    exact q
   obtain⟨g,hg,hgl,hown⟩:=HI.out.2.2.2.resolve_left (by omega)
   subst hg
   have OW:=hid hown
   have GL:=hid hgl
   have gl2:=hown.lt g rfl
   have GL2:=hid gl2
   obtain⟨mk,hmk⟩:∃ m,ms'[k]?=some m:=⟨_,List.getElem?_eq_getElem (by have:=HI.out.1;omega)⟩
   have MKK:=hid hmk
   have MT:Hid (mk.t=T9.nN ((ay xs).take i) tk):=hid (by
    have q:=gZ hmk
    rw [HI.out.2.1,List.getElem?_map,hk] at q
    injection q with q
    exact q.symm)
   obtain⟨w5,fQ⟩:∃ u,wr.alloc (.cells #[.int .u64 (tk.id:Int),.int .u64 (tk.list:Int),.string (str tk.title),.bool tk.done,.float .f64 tk.rank,.float .f64 tk.est,.slice A5 tk.tags.length c5] 74)=u:=⟨_,rfl⟩
   obtain⟨lb,b5,z5⟩:=bn fQ
   have B5:=hid b5
   have Z5:=hid z5
   obtain⟨l0,l1,l2,l3,l4,l5,l6⟩:=aj lb
   have sb5:=(b5.block w.heap.size (lt_of_block SBR.out)).trans SBR.out
   have SB5:=hid sb5
   obtain⟨d0,d1⟩:=aa sb5
   have kG:=hid (own_below hown b5)
   have K5:Hid (KL w5 (some ⟨g,0,none⟩) ms'):=hid (by
    exact⟨(aG (B:=0) (t:=74) kG.out).old,fun m hm=>((HI.out.2.2.1 m hm).stay b5).fine⟩)
   have BC:=hid (FP (c:=wh) (id:=tk.id) (k:=k) K5.out HI.out.1.symm nkb (by rw [HI.out.2.1];exact List.pairwise_map.2 (KUP.out.imp fun q=>by rw [T9.xz,T9.xz];exact q)) (by rw [HI.out.2.1,List.getElem?_map,hk,Option.map_some,Option.map_some,T9.xz]))
   have knz:(k:Int)<(nk:Int):=by omega
   have k0z:(0:Int)≤(k:Int):=by omega
   obtain⟨v,hv⟩:∃ v,Fl.xK (i+1)=v:=⟨_,rfl⟩
   have HV:=hid hv
   have hcv:=oM i
   rw [hv] at hcv
   clear hv
   clear hx hf hg3 hlo ead hk hgl hown gl2 hmk lb b5 z5 sb5
   go_wp2_with fail
   refine BC.out.mono ?_
   rintro e w6 ⟨rfl,h6⟩
   have H6:=hid h6
   have B6:=hid (B5.out.trans (h6.mono B5.out.size))
   have sb6:=(h6.block w.heap.size (lt_of_block SB5.out)).trans SB5.out
   have e0:=(aa sb6).1
   have e1:=(aa sb6).2
   have OW6:=hid (own_below kG.out h6)
   have gc:w6.cell? ⟨g,k * 7+4,none⟩=some (.float .f64 mk.t.rank):=cZ OW6.out ((iB (f:=az) (size:=7) (fun x _=>aU x) MKK.out (by decide:4<7)).trans rfl)
   have gf:w6.frozen? ⟨g,k * 7+4,none⟩=false:=OW6.out.frozenAt (g:=g) _
   clear h6 sb6
   have y6:Ty w6 g 74:=(by obtain⟨_,cs,fr,r⟩:=bM OW6.out g rfl;exact⟨cs,fr,r⟩)
   have wg:w.heap.size≤g:=by have:=GL2.out.1;have:=B1.out.size;omega
   obtain⟨w7,hw7⟩:∃ u,w6.setCell ⟨g,k * 7+4,none⟩ (.float .f64 v)=u:=⟨_,rfl⟩
   have T67:Hid (aN w.heap.size [74] w6 w7):=hid (by
    rw [← hw7]
    exact (aN.refl _ _ w6).aC (p:=⟨g,k * 7+4,none⟩) y6 (by simp) wg _)
   have T47:Hid (aN w.heap.size [74] w4 w7):=hid ((TT.out.trans (aN.of_below B6.out (by have:=TT.out.size;have:=B4.out.size;omega) _)).trans T67.out)
   have HW7:=hid hw7
   have O7:Hid (w7.ownsRow w1.heap.size 74 7 (.slice (some ⟨g,0,none⟩) nk wh) nk (ai (ms'.set k ⟨{ mk.t with rank:=v },mk.A,mk.c⟩))):=hid (by
    rw [← hw7]
    exact Iq OW6.out HI.out.1 MKK.out kl)
   clear y6
   go_wp2_with fail
   go_roundw
   case rel =>
    refine⟨i+1,ms'.set k ⟨{ mk.t with rank:=v },mk.A,mk.c⟩,by go_num,by omega,?_,T47.out,hid ⟨by rw [List.length_set];exact HI.out.1,?_,fun m hm=>?_,.inr ⟨g,rfl,GL.out,O7.out⟩⟩⟩
    ·have q:=au.stay LX.out B6.out
     rw [EAD.out] at q ⊢
     refine wV q ?_ T67.out.size
     rw [← HW7.out]
     exact Below.heap_setCell _ _ _ _ (by have:=HLO.out;have:=GL.out;show g3≠g;omega)
    ·have q:=T9.Je UX.out UK.out X.out HK5.out rfl
     have e:ay (ms'.set k ⟨{ mk.t with rank:=v },mk.A,mk.c⟩)=(ay ms').set k { mk.t with rank:=v }:=by unfold ay;rw [List.map_set]
     rw [e,HI.out.2.1,MT.out,← HV.out]
     exact q
    ·rcases List.mem_or_eq_of_mem_set hm with q | rfl
     ·exact ((HI.out.2.2.1 m q).stay B6.out).bH T67.out (by decide)
     ·exact aL.iW.bH (m:=mk) ((HI.out.2.2.1 mk (List.mem_of_getElem? MKK.out)).stay B6.out) T67.out (by decide)
   case measure=>simp [intOf];omega
  ·obtain rfl:i=n3:=by omega
   have hltz:¬ ((i:Int)<(i:Int)):=by omega
   obtain⟨d0,d1⟩:=aa SBR.out
   obtain⟨k0,k1⟩:=aa PRR.out
   have jC:=af PRR.out 0
   have jl:=af PRR.out 1
   have RF:Hid (((wr.setCell ⟨w0.heap.size,0,none⟩ (.slice A0 nl c0)).setCell ⟨w0.heap.size,1,none⟩ (.slice zU nk wh)).heap[w0.heap.size]?=some (.cells #[.slice A0 nl c0,.slice zU nk wh] 25 (0,0))):=hid ((ah (ah PRR.out 0 (.slice A0 nl c0)) 1 (.slice zU nk wh)).trans rfl)
   have TZ:Hid (aN w.heap.size [25] wr ((wr.setCell ⟨w0.heap.size,0,none⟩ (.slice A0 nl c0)).setCell ⟨w0.heap.size,1,none⟩ (.slice zU nk wh))):=hid (by
    have y:Ty wr w0.heap.size 25:=⟨_,_,PRR.out⟩
    have z:w.heap.size≤w0.heap.size:=by have:=Z0.out;omega
    exact ((aN.refl _ _ wr).aC (p:=⟨w0.heap.size,0,none⟩) y (by simp) z _).aC (p:=⟨w0.heap.size,1,none⟩) (y.set _ _) (by simp) z _)
   obtain⟨kf0,kf1⟩:=aa RF.out
   go_wp2
   refine bodyPost_ret (v:=.agg #[.slice A0 nl c0,.slice zU nk wh]) (by simp [results,results204,go_sem,kf0,kf1]) rfl ?_
   have FZ:∀ m∈ms',m.iW ((wr.setCell ⟨w0.heap.size,0,none⟩ (.slice A0 nl c0)).setCell ⟨w0.heap.size,1,none⟩ (.slice zU nk wh)):=fun m hm=>(HI.out.2.2.1 m hm).bH TZ.out (by decide)
   refine⟨⟨ls0,A0,c0,ms',zU,wh⟩,ay xs,?_,⟨?_,⟨?_,fun m hm=>(FZ m hm).fine⟩,HLC.out,?_⟩,(B4.out.trans TT.out.below).trans TZ.out.below,?_,?_,⟨dD (dD LL4.out TT.out (by decide)) TZ.out (by decide),?_,FZ,HLC.out,?_⟩⟩
   ·unfold aW.val
    rw [HI.out.1,← NL.out]
   ·exact (dD (dD LL4.out TT.out (by decide)) TZ.out (by decide)).old
   ·rcases HI.out.2.2.2 with q | ⟨g,e,_,q⟩
    ·have:ms'=[]:=List.length_eq_zero_iff.1 (HI.out.1.trans q)
     subst this
     exact au.nil
    ·have q2:=(aG (B:=0) (t:=74) (bP q TZ.out (by decide))).old (t':=0)
     rw [← e] at q2
     exact q2
   ·show ms'.length≤wh
    rw [HI.out.1,NK.out];exact EP.out
   ·rw [HKK.out];exact O4.out
   ·unfold aW.st
    dsimp only
    rw [HI.out.2.1,HKK.out,LS0.out,N3.out,← aI xs,List.take_length]
   ·rcases HI.out.2.2.2 with q | ⟨g,e,_,q⟩
    ·have:ms'=[]:=List.length_eq_zero_iff.1 (HI.out.1.trans q)
     subst this
     exact au.nil
    ·have q2:=aG (B:=0) (t:=74) (bP q TZ.out (by decide))
     rw [← e] at q2
     exact q2
   ·show ms'.length≤wh
    rw [HI.out.1,NK.out];exact EP.out
end
end
end Go.Proofs.YtcedlgedmkghgaaGreat
