import Derived.Test.YtcedlgedmkghgaaGreatZ24
import Derived.Test.YtcedlgedmkghgaaGreatZ25
import Derived.Test.YtcedlgedmkghgaaGreatZ21
import Derived.Test.YtcedlgedmkghgaaGreatZ16
import Derived.Test.YtcedlgedmkghgaaGreatZ20
namespace Go.Proofs.YtcedlgedmkghgaaGreat
set_option maxHeartbeats 16000000
open Go.Lib Go.Proofs.Tryz
set_option linter.unusedSimpArgs false
set_option maxRecDepth 100000
section
open Go.RowKit Go.Lib
theorem zi {ls:List T9.Li} {A1:Option Addr} {c1 n1:Nat} {ms:List aL} {A2:Option Addr} {c2 n2:Nat} {w:World} (hl:LL w A1 ls) (hk:KL w A2 ms) (en1:n1=ls.length) (en2:n2=ms.length) (h1:n1≤1000) (h2:n2≤1000) (h3:∀ t∈ms,t.t.tags.length≤1000) (list:Nat) (hr:∀ t∈(T9.canon ⟨ls,ay ms⟩).tasks,t.rank<18446744073709551616) :
  Calls prog 135 #[.agg #[.slice A1 n1 c1,.slice A2 n2 c2],.int .u64 (list:Int)] w (Fp ⟨(T9.canon ⟨ls,ay ms⟩).lists,(T9.canon ⟨ls,ay ms⟩).tasks.map (T9.nN (T9.kJ (T9.canon ⟨ls,ay ms⟩).tasks list))⟩ w):=by
 obtain⟨wx,hwx⟩:∃ u,w.alloc (.cells #[.slice A1 n1 c1,.slice A2 n2 c2] 25)=u:=⟨_,rfl⟩
 obtain⟨px,bx,zx⟩:=ak hwx
 obtain⟨wy,qY⟩:∃ u,wx.alloc (.cells #[.slice none 0 0,.slice none 0 0] 25)=u:=⟨_,rfl⟩
 obtain⟨py,bY,zy⟩:=ak qY
 have BY0:=bx.trans (bY.mono (by omega))
 have C1:=hid (p9 (n1:=n1) (n2:=n2) (c1:=c1) (c2:=c2) (hl.stay BY0) (hk.stay BY0) en1 en2 h1 h2 h3)
 obtain⟨cs,hcs⟩:∃ q,T9.canon ⟨ls,ay ms⟩=q:=⟨_,rfl⟩
 have UN:Hid (T9.rq cs.tasks):=hid (by rw [← hcs];exact (xW _).imp fun h=>Nat.ne_of_lt h)
 have CN:Hid (cs.tasks.length≤1000):=hid (by
  rw [← hcs]
  show ((Sr.canon T9.iT (ay ms)).map T9.norm).length≤1000
  rw [List.length_map]
  exact Nat.le_trans (Sr.dB _) (by rw [aI,← en2];exact h2))
 rw [hcs] at hr C1 ⊢
 have HR:=hid hr
 have B2:=hid BY0
 have PX:=hid (ae px bY)
 rw [zx] at py
 have PY:=hid py
 have ZY:=hid zy
 have ZX:=hid zx
 obtain⟨x0,x1⟩:=aa PX.out
 clear hl hk en1 en2 h1 h2 h3 hcs hr BY0 px py bx bY
 go_enter func135,ntmps135
 go_wp2_with fail
 refine C1.out.mono ?_
 rintro e w3 ⟨⟨Cu,A3,c3,O,B3,d3⟩,rfl,hst,l3,k3,t3,lc3,kc3,za3,zk3,hb3⟩
 dsimp only at hst l3 k3 t3 lc3 kc3 za3 zk3
 unfold aW.val
 dsimp only
 clear hwx qY C1
 have zyy:wy.heap.size=w.heap.size+2:=by rw [zy,zx]
 clear zx zy x0 x1
 have PX3:=(hb3.block w.heap.size (by omega)).trans PX.out
 have PY3:=(hb3.block (w.heap.size+1) (by omega)).trans PY.out
 obtain⟨q0,q1⟩:=aa PX3
 have fx0:=af PX3 0
 have fx1:=af PX3 1
 obtain⟨w4,hw4⟩:∃ u,(w3.setCell ⟨w.heap.size,0,none⟩ (.slice A3 Cu.length c3)).setCell ⟨w.heap.size,1,none⟩ (.slice B3 O.length d3)=u:=⟨_,rfl⟩
 have PX4:Hid (w4.heap[w.heap.size]?=some (.cells #[.slice A3 Cu.length c3,.slice B3 O.length d3] 25 (0,0))):=hid (by rw [← hw4];exact ah (ah PX3 0 _) 1 _)
 have PY4:Hid (w4.heap[w.heap.size+1]?=some (.cells #[.slice none 0 0,.slice none 0 0] 25 (0,0))):=hid (by
  rw [← hw4]
  exact av (av PY3 (p:=⟨w.heap.size,0,none⟩) (by show w.heap.size+1≠w.heap.size;omega) _) (p:=⟨w.heap.size,1,none⟩) (by show w.heap.size+1≠w.heap.size;omega) _)
 have yx:Ty w3 w.heap.size 25:=⟨_,_,PX3⟩
 have TF4:=((aN.refl 0 [25] w3).aC (p:=⟨w.heap.size,0,none⟩) yx (by simp) (Nat.zero_le _) (.slice A3 Cu.length c3)).aC (p:=⟨w.heap.size,1,none⟩) (yx.set _ _) (by simp) (Nat.zero_le _) (.slice B3 O.length d3)
 rw [hw4] at TF4
 have L4:=hid (l3.bH TF4 (by decide))
 have K4:=hid (k3.bH TF4 (by decide))
 have T4:Hid (∀ q∈O,q.bU w4):=hid fun q hq=>⟨(t3 q hq).1.bH TF4 (by decide),(t3 q hq).2⟩
 have B4:Hid (Below w.heap.size w w4):=hid (by rw [← hw4];exact ((B2.out.trans (hb3.mono B2.out.size)).setCell (Nat.le_refl _) _).setCell (Nat.le_refl _) _)
 have ZS4:Hid (w.heap.size+2≤w4.heap.size):=hid (by rw [← hw4];have:=hb3.size;simp;omega)
 have EL:Hid (Cu=cs.lists):=hid (by rw [← hst];rfl)
 have EK:Hid (ay O=cs.tasks):=hid (by rw [← hst];rfl)
 have LC:=hid lc3
 have KC:=hid kc3
 have ZA:=hid za3
 have ZK:=hid zk3
 have on:O.length≤1000:=by rw [← aI,EK.out];exact CN.out
 have KL4:Hid (KL w4 B3 O):=hid ⟨K4.out.old,fun q hq=>⟨(T4.out q hq).1.old,(T4.out q hq).2⟩⟩
 have C2:=hid (Bi (A1:=A3) (n1:=Cu.length) (c1:=c3) (c:=d3) KL4.out T4.out rfl on list (by rw [EK.out];exact UN.out) (fun m hm=>HR.out _ (by rw [← EK.out];exact List.mem_map.2 ⟨m,hm,rfl⟩)))
 rw [EK.out] at C2
 have ON:=hid on
 obtain⟨x0,x1⟩:=aa PX4.out
 clear hst l3 k3 t3 lc3 kc3 za3 zk3 hb3 PX3 PY3 yx TF4 on zyy
 go_wp2_with fail
 refine C2.out.mono ?_
 rintro e w5 ⟨A5,c5,ys,rfl,k5,t5,yc5,zy5,hys,hb5⟩
 clear hw4 fx0 fx1 C2 x0 x1 q0 q1
 have B5:=hid hb5
 have PX5:=hid ((hb5.block _ (lt_of_block PX4.out)).trans PX4.out)
 have KY:=hid (show KL w5 A5 ys from⟨k5.old,fun q hq=>⟨(t5 q hq).1.old,(t5 q hq).2⟩⟩)
 have HYS:=hid hys
 have YN:Hid (ys.length≤1000000):=hid (by
  rw [← aI,hys]
  refine Nat.le_trans (Sr.dB _) (Nat.le_trans (List.length_filter_le _ _) ?_)
  have:=CN.out
  omega)
 obtain⟨p,hp⟩:∃ z,z=ys.length:=⟨_,rfl⟩
 have HP:=hid hp
 rw [← hp]
 obtain⟨n,hn⟩:∃ z,z=O.length:=⟨_,rfl⟩
 have HN:=hid hn
 rw [← hn] at PX5 PX4 ON
 obtain⟨x0,x1⟩:=aa PX5.out
 have n1000:n≤1000:=ON.out
 clear hb5 k5 t5 yc5 zy5 hys hp hn
 go_wp2_with fail
 go_loopw [6,18] (fun s6 s18 wr=>∃ (i:Nat) (A6:Option Addr) (c6:Nat) (xs:List aL),s18=.int .i64 i∧i≤n∧s6=.slice A6 i c6∧Aside (wr.ownsRow w5.heap.size 74 7 (.slice A6 i c6) i (ai xs))∧Aside (Below w5.heap.size w5 wr)∧Hid (xs.length=i∧ay xs=(ay (O.take i)).map (T9.nN (ay ys))∧(∀ m∈xs,m.bU wr)∧(A6=none→c6=0))) (fun _ s18 _=>n - (intOf s18).toNat)
 case atStart=>exact⟨0,none,0,[],rfl,Nat.zero_le _,rfl,World.ownsRow_nil _ _ _ _,Below.refl _ _,hid ⟨rfl,rfl,by simp,fun _=>rfl⟩⟩
 case round =>
  obtain⟨i,A6,c6,xs,rfl,hi,rfl,hO,hB,HI⟩:=hrel
  obtain⟨wo,hwo⟩:∃ u,u=wr:=⟨_,rfl⟩
  subst hwo
  have OW:=hid hO.out
  have BR:=hid hB.out
  clear hO hB
  by_cases hlt:i<n
  ·have hltz:(i:Int)<(n:Int):=by omega
   have BRO:=hid (B5.out.trans (BR.out.mono B5.out.size))
   obtain⟨ad,⟨tk,A4,c4⟩,hA,hx,hf,r0,r1,r2,r3,r4,r5,r6⟩:=(KL4.out.stay BRO.out).at_ (k:=i) (by have:=HN.out;omega)
   subst hA
   have X:=hid hx
   have FT:Hid (aL.bU ⟨tk,A4,c4⟩ wo):=hid ((T4.out _ (List.mem_of_getElem? hx)).stay BRO.out)
   dsimp only at r0 r1 r2 r3 r4 r5 r6
   obtain⟨w6,uX⟩:∃ u,wo.alloc (.cells #[.int .u64 (tk.id:Int),.int .u64 (tk.list:Int),.string (str tk.title),.bool tk.done,.float .f64 tk.rank,.float .f64 tk.est,.slice A4 tk.tags.length c4] 74)=u:=⟨_,rfl⟩
   obtain⟨lb,b6,z6⟩:=bn uX
   have B6:=hid b6
   have LB:=hid lb
   obtain⟨l0,l1,l2,l3,l4,l5,l6⟩:=aj lb
   have CP:=hid (Bj (c:=c5) (id:=tk.id) ((KY.out.stay BR.out).stay b6) HP.out (by rw [HP.out];exact YN.out))
   have uA:Hid ((ay (O.take (i+1))).map (T9.nN (ay ys))=(ay (O.take i)).map (T9.nN (ay ys))++[T9.nN (ay ys) tk]):=hid (by rw [bL X.out,fC,List.map_append];rfl)
   have lz:wo.heap.size<w6.heap.size:=by omega
   clear hx hf lb b6 z6
   go_wp2_with fail
   refine CP.out.mono ?_
   rintro e w7 ⟨rfl,b7⟩
   have B7:=hid (B6.out.trans (b7.mono (Nat.le_of_lt lz)))
   have LB7:=hid ((b7.block _ lz).trans LB.out)
   clear r0 r1 r2 r3 r4 r5 r6 l0 l1 l2 l3 l4 l5 l6 uX CP x0 x1 lz b7
   obtain⟨m0,m1,m2,m3,m4,m5,m6⟩:=aj LB7.out
   unfold T9.y7
   cases hpl:T9.xM (ay ys) tk.id with
   | none =>
    dsimp only
    have BV:=B7
    have SP:Hid (T9.nN (ay ys) tk=tk):=hid (by unfold T9.nN;rw [hpl])
    clear hpl
    have hbs:=dZ (⟨tk,A4,c4⟩:aL) w7
    unfold az at hbs
    dsimp only at hbs
    have Dk:=hid (own_below OW.out BV.out)
    have lI:=hid (Dk.out.alloc (.cells #[.int .u64 (tk.id:Int),.int .u64 (tk.list:Int),.string (str tk.title),.bool tk.done,.float .f64 tk.rank,.float .f64 tk.est,.slice A4 tk.tags.length c4] 74))
    have LE:Hid (au (w7.alloc (.cells #[.int .u64 (tk.id:Int),.int .u64 (tk.list:Int),.string (str tk.title),.bool tk.done,.float .f64 tk.rank,.float .f64 tk.est,.slice A4 tk.tags.length c4] 74)) 0 74 (some ⟨w7.heap.size,0,none⟩) (az (⟨tk,A4,c4⟩:aL))):=hid (au.gY (heap_alloc_new w7 _))
    have zz:w5.heap.size≤w7.heap.size:=Nat.le_trans BR.out.size BV.out.size
    have ZZ:=hid zz
    obtain⟨vN,vM,vQ,vR,vS⟩:=info_parts Tryz.infoTk9
    go_wp2_with (at_builtin;refine bE _ rfl _ _ 23 rfl w5.heap.size 74 vN _ 7 80 underlying23 vM vQ vR vS rfl (by decide) _ i (ai xs) rfl lI.out 0 _ 1 1 (az (⟨tk,A4,c4⟩:aL)) 74 rfl rfl LE.out (dI _) (by unfold maxLen;omega) (by omega) (by simp;omega) ?_)
    intro v8 w8 ku lZ GM
    obtain⟨A8,k8,rfl⟩:=aA ku
    obtain⟨g8,e8,_⟩:=bO ku (Nat.succ_pos _)
    have T8:Hid (aN w5.heap.size [74] w7 w8):=hid (((aN.refl w5.heap.size [74] w7).alloc ZZ.out (.cells #[.int .u64 (tk.id:Int),.int .u64 (tk.list:Int),.string (str tk.title),.bool tk.done,.float .f64 tk.rank,.float .f64 tk.est,.slice A4 tk.tags.length c4] 74)).trans (dP (B:=w5.heap.size) (ts:=[74]) lI.out lZ (Nat.le_refl _) (by have:=ZZ.out;simp;omega) (by simp)))
    have HO8:=hid ku
    have E8:=hid e8
    clear ku lZ GM hbs m0 m1 m2 m3 m4 m5 m6 e8 zz
    go_wp2
    go_roundw
    case rel =>
     refine⟨i+1,A8,k8,xs++[(⟨tk,A4,c4⟩:aL)],by go_num,by omega,rfl,?_,(BR.out.trans (BV.out.mono BR.out.size)).trans T8.out.below,hid ⟨by rw [List.length_append,HI.out.1];rfl,by rw [fC,HI.out.2.1,uA.out,SP.out],fun m hm=>?_,fun z=>by rw [E8.out] at z;cases z⟩⟩
     ·rw [gQ];exact HO8.out
     ·rcases List.mem_append.1 hm with q | q
      ·exact ((HI.out.2.2.1 m q).stay BV.out).mG T8.out (by decide)
      ·rw [List.mem_singleton] at q
       subst q
       exact (FT.out.stay BV.out).mG T8.out (by decide)
    case measure=>simp [intOf];omega
   | some j =>
    dsimp only
    have hj:(0:Int)≤(j:Int):=Int.natCast_nonneg j
    have hj1:(j:Int)<1000000:=by
     obtain⟨h,_⟩:=List.findIdx?_eq_some_iff_getElem.1 hpl
     rw [aI] at h
     have:=YN.out
     omega
    have wj:IntKind.i64.wrap ((j:Int)+1)=(j:Int)+1:=by rw [IntKind.wrap_i64];omega
    clear hj1
    have cv:=oM j
    obtain⟨fl,hfl⟩:∃ z,Fl.xK (j+1)=z:=⟨_,rfl⟩
    rw [hfl] at cv
    have Jy:=hid hfl
    clear hfl
    have fm:=af LB7.out 4
    obtain⟨w9,jD⟩:∃ u,w7.setCell ⟨wo.heap.size,4,none⟩ (.float .f64 fl)=u:=⟨_,rfl⟩
    have LB9:Hid (w9.heap[wo.heap.size]?=some (.cells #[.int .u64 (tk.id:Int),.int .u64 (tk.list:Int),.string (str tk.title),.bool tk.done,.float .f64 fl,.float .f64 tk.est,.slice A4 tk.tags.length c4] 74 (0,0))):=hid (by rw [← jD];exact ah LB7.out 4 _)
    have BV:Hid (Below wo.heap.size wo w9):=hid (by rw [← jD];exact B7.out.setCell (Nat.le_refl _) _)
    clear m0 m1 m2 m3 m4 m5 m6
    obtain⟨_,_,_,_,u4,_,_⟩:=aj LB7.out
    obtain⟨m0,m1,m2,m3,m4,m5,m6⟩:=aj LB9.out
    have SP:Hid (T9.nN (ay ys) tk={ tk with rank:=fl }):=hid (by unfold T9.nN;rw [hpl];dsimp only;rw [Jy.out])
    clear hpl
    have hbs:=dZ (⟨{ tk with rank:=fl },A4,c4⟩:aL) w9
    unfold az at hbs
    dsimp only at hbs
    have Dk:=hid (own_below OW.out BV.out)
    have lI:=hid (Dk.out.alloc (.cells #[.int .u64 (tk.id:Int),.int .u64 (tk.list:Int),.string (str tk.title),.bool tk.done,.float .f64 fl,.float .f64 tk.est,.slice A4 tk.tags.length c4] 74))
    have LE:Hid (au (w9.alloc (.cells #[.int .u64 (tk.id:Int),.int .u64 (tk.list:Int),.string (str tk.title),.bool tk.done,.float .f64 fl,.float .f64 tk.est,.slice A4 tk.tags.length c4] 74)) 0 74 (some ⟨w9.heap.size,0,none⟩) (az (⟨{ tk with rank:=fl },A4,c4⟩:aL))):=hid (au.gY (heap_alloc_new w9 _))
    have zz:w5.heap.size≤w9.heap.size:=Nat.le_trans BR.out.size BV.out.size
    have ZZ:=hid zz
    obtain⟨vN,vM,vQ,vR,vS⟩:=info_parts Tryz.infoTk9
    go_wp2_with (at_builtin;refine bE _ rfl _ _ 23 rfl w5.heap.size 74 vN _ 7 80 underlying23 vM vQ vR vS rfl (by decide) _ i (ai xs) rfl lI.out 0 _ 1 1 (az (⟨{ tk with rank:=fl },A4,c4⟩:aL)) 74 rfl rfl LE.out (dI _) (by unfold maxLen;omega) (by omega) (by simp;omega) ?_)
    intro v8 w8 ku lZ GM
    obtain⟨A8,k8,rfl⟩:=aA ku
    obtain⟨g8,e8,_⟩:=bO ku (Nat.succ_pos _)
    have T8:Hid (aN w5.heap.size [74] w9 w8):=hid (((aN.refl w5.heap.size [74] w9).alloc ZZ.out (.cells #[.int .u64 (tk.id:Int),.int .u64 (tk.list:Int),.string (str tk.title),.bool tk.done,.float .f64 fl,.float .f64 tk.est,.slice A4 tk.tags.length c4] 74)).trans (dP (B:=w5.heap.size) (ts:=[74]) lI.out lZ (Nat.le_refl _) (by have:=ZZ.out;simp;omega) (by simp)))
    have HO8:=hid ku
    have E8:=hid e8
    clear ku lZ GM hbs m0 m1 m2 m3 m4 m5 m6 e8 zz
    go_wp2
    go_roundw
    case rel =>
     refine⟨i+1,A8,k8,xs++[(⟨{ tk with rank:=fl },A4,c4⟩:aL)],by go_num,by omega,rfl,?_,(BR.out.trans (BV.out.mono BR.out.size)).trans T8.out.below,hid ⟨by rw [List.length_append,HI.out.1];rfl,by rw [fC,HI.out.2.1,uA.out,SP.out],fun m hm=>?_,fun z=>by rw [E8.out] at z;cases z⟩⟩
     ·rw [gQ];exact HO8.out
     ·rcases List.mem_append.1 hm with q | q
      ·exact ((HI.out.2.2.1 m q).stay BV.out).mG T8.out (by decide)
      ·rw [List.mem_singleton] at q
       subst q
       exact (FT.out.stay BV.out).mG T8.out (by decide)
    case measure=>simp [intOf];omega
  ·obtain rfl:i=n:=by omega
   have hltz:¬ ((i:Int)<(i:Int)):=by omega
   have XT:Hid (ay xs=cs.tasks.map (T9.nN (T9.kJ cs.tasks list))):=hid (by rw [HI.out.2.1,HN.out,List.take_length,EK.out,HYS.out])
   have BW:=hid (B4.out.trans ((B5.out.trans (BR.out.mono B5.out.size)).mono B4.out.size))
   have PXo:=(BR.out.block w.heap.size (by have:=ZS4.out;have:=B5.out.size;omega)).trans PX5.out
   have PYo:=(BR.out.block (w.heap.size+1) (by have:=ZS4.out;have:=B5.out.size;omega)).trans ((B5.out.block (w.heap.size+1) (by have:=ZS4.out;omega)).trans PY4.out)
   obtain⟨x0,x1⟩:=aa PXo
   have fx:=af PXo 1
   obtain⟨wa,dA⟩:∃ u,wo.setCell ⟨w.heap.size,1,none⟩ (.slice A6 i c6)=u:=⟨_,rfl⟩
   have PXa:Hid (wa.heap[w.heap.size]?=some (.cells #[.slice A3 Cu.length c3,.slice A6 i c6] 25 (0,0))):=hid (by rw [← dA];exact ah PXo 1 _)
   have PYa:Hid (wa.heap[w.heap.size+1]?=some (.cells #[.slice none 0 0,.slice none 0 0] 25 (0,0))):=hid (by rw [← dA];exact av PYo (p:=⟨w.heap.size,1,none⟩) (by show w.heap.size+1≠w.heap.size;omega) _)
   have yxo:Ty wo w.heap.size 25:=⟨_,_,PXo⟩
   have TFa:=(aN.refl 0 [25] wo).aC (p:=⟨w.heap.size,1,none⟩) yxo (by simp) (Nat.zero_le _) (.slice A6 i c6)
   rw [dA] at TFa
   have yya:Ty wa (w.heap.size+1) 25:=⟨_,_,PYa.out⟩
   obtain⟨y0,y1⟩:=aa PXa.out
   obtain⟨z0,z1⟩:=aa PYa.out
   have fy0:=af PYa.out 0
   have fy1:=af PYa.out 1
   have RB:Hid (((wa.setCell ⟨w.heap.size+1,0,none⟩ (.slice A3 Cu.length c3)).setCell ⟨w.heap.size+1,1,none⟩ (.slice A6 i c6)).heap[w.heap.size+1]?=some (.cells #[.slice A3 Cu.length c3,.slice A6 i c6] 25 (0,0))):=hid (ah (ah PYa.out 0 _) 1 _)
   obtain⟨k0,k1⟩:=aa RB.out
   have TF:=hid (TFa.trans (((aN.refl 0 [25] wa).aC (p:=⟨w.heap.size+1,0,none⟩) yya (by simp) (Nat.zero_le _) (.slice A3 Cu.length c3)).aC (p:=⟨w.heap.size+1,1,none⟩) (yya.set _ _) (by simp) (Nat.zero_le _) (.slice A6 i c6)))
   have BF:Hid (Below w.heap.size w ((wa.setCell ⟨w.heap.size+1,0,none⟩ (.slice A3 Cu.length c3)).setCell ⟨w.heap.size+1,1,none⟩ (.slice A6 i c6))):=hid (by
    rw [← dA]
    exact ((BW.out.setCell (by show w.heap.size≤w.heap.size;omega) _).setCell (by show w.heap.size≤w.heap.size+1;omega) _).setCell (by show w.heap.size≤w.heap.size+1;omega) _)
   clear yxo TFa yya PXo PYo
   go_wp2
   refine bodyPost_ret (v:=.agg #[.slice A3 Cu.length c3,.slice A6 i c6]) (by simp [results,results135,go_sem,k0,k1]) rfl ?_
   refine⟨⟨Cu,A3,c3,xs,A6,c6⟩,?_,?_,?_,?_,?_,LC.out,?_,ZA.out,HI.out.2.2.2,BF.out⟩
   ·show _=Ending.returned (Value.agg #[.slice A3 Cu.length c3,.slice A6 xs.length c6])
    rw [HI.out.1]
   ·show (⟨Cu,ay xs⟩:T9.St)=_
    rw [EL.out,XT.out]
   ·exact (dD L4.out (aN.of_below (B5.out.trans (BR.out.mono B5.out.size)) (Nat.le_refl _) []) (by simp)).bH TF.out (by decide)
   ·exact (aG (B:=0) OW.out).bH TF.out (by decide)
   ·exact fun q hq=>⟨(HI.out.2.2.1 q hq).1.bH TF.out (by decide),(HI.out.2.2.1 q hq).2⟩
   ·show xs.length≤c6
    rw [HI.out.1]
    exact (aO OW.out).2
end
section
open Go.RowKit Go.Lib
def FKTOk (ms:List aL) (id:Nat) (w:World) (e:Ending) (w':World):Prop:=∃ m:aL,e=.returned (.tuple #[.agg (az m).toArray,.bool (T9.dH (ay ms) id).2])∧m.t=(T9.dH (ay ms) id).1∧m.bU w'∧Below w.heap.size w w'
theorem dE {A A2:Option Addr} {n1 n2 c c2:Nat} {ms:List aL} {w:World} (hk:KL w A2 ms) (e2:n2=ms.length) (hs:n2≤1000000) (hT:∀ q∈ms,q.bU w) (id:Nat) :
  Calls prog 133 #[.agg #[.slice A n1 c,.slice A2 n2 c2],.int .u64 (id:Int)] w (FKTOk ms id w):=by
 have E2:=hid e2
 have HT:=hid hT
 clear hT
 obtain⟨w0,hw0⟩:∃ u,w.alloc (.cells #[.slice A n1 c,.slice A2 n2 c2] 25)=u:=⟨_,rfl⟩
 obtain⟨pb0,b0,z0⟩:=ak hw0
 obtain⟨w1,hw1⟩:∃ u,w0.alloc (.cells #[.int .u64 0,.int .u64 0,.string ⟨#[]⟩,.bool false,.float .f64 0,.float .f64 0,.slice none 0 0] 74)=u:=⟨_,rfl⟩
 obtain⟨JF,b1,z1⟩:=bn hw1
 have z1':w1.heap.size=w.heap.size+2:=by omega
 have pb:=(b1.block w.heap.size (by omega)).trans pb0
 have PB:=hid pb
 rw [z0] at JF
 have PR:=hid JF
 have B1:Hid (Below w.heap.size w w1):=hid (b0.trans (b1.mono (by omega)))
 have HK:=hid (hk.stay B1.out)
 have HK0:=hid hk
 have Z0:=hid z0
 have Z1:=hid z1'
 obtain⟨p0,p1⟩:=aa pb
 clear hk e2 pb0 b0 JF b1 z1 z1' pb
 go_enter func133,ntmps133
 go_wp2
 go_loopw [11] (fun s11 wr=>∃ i:Nat,s11=.int .i64 i∧i≤n2∧Hid ((ms.take i).find? (fun m=>m.t.id==id)=none)∧Aside (Below w1.heap.size w1 wr)) (fun s11 _=>n2 - (intOf s11).toNat)
 case atStart=>exact⟨0,rfl,Nat.zero_le _,hid rfl,Below.refl _ _⟩
 case round =>
  obtain⟨i,rfl,hi,HU,hB⟩:=hrel
  have BR:=hid hB.out
  clear hB
  have zS:=(BR.out.block (w.heap.size+1) (by have:=Z1.out;omega)).trans PR.out
  have RB:=hid zS
  by_cases hlt:i<n2
  ·have hltz:(i:Int)<(n2:Int):=by omega
   obtain⟨ad,⟨tk,A3,c3⟩,hA,hx,hf,r0,r1,r2,r3,r4,r5,r6⟩:=(HK.out.stay BR.out).at_ (k:=i) (by have:=E2.out;omega)
   subst hA
   have X:=hid hx
   have FI:=hid hf
   dsimp only at r0 r1 r2 r3 r4 r5 r6
   obtain⟨w2,hw2⟩:∃ u,wr.alloc (.cells #[.int .u64 (tk.id:Int),.int .u64 (tk.list:Int),.string (str tk.title),.bool tk.done,.float .f64 tk.rank,.float .f64 tk.est,.slice A3 tk.tags.length c3] 74)=u:=⟨_,rfl⟩
   obtain⟨lb,b2,z2⟩:=bn hw2
   have B2:Hid (Below w1.heap.size w1 w2):=hid (BR.out.trans (b2.mono BR.out.size))
   have B2':=hid b2
   have Z2:=hid z2
   have LB:=hid lb
   obtain⟨l0,l1,l2,l3,l4,l5,l6⟩:=aj lb
   have uy:=(b2.block (w.heap.size+1) (by have:=lt_of_block RB.out;omega)).trans RB.out
   have Dl:=hid uy
   clear hx hf lb b2 z2 zS
   by_cases he:tk.id=id
   ·have uD:((tk.id:Int)==(id:Int))=true:=by simp [he]
    have F:Hid (T9.dH (ay ms) id=(tk,true)):=hid (by unfold T9.dH;rw [zL,yn HU.out X.out (by simp [he])];rfl)
    clear he
    rw [Z0.out] at *
    obtain⟨d0,d1,d2,d3,d4,d5,d6⟩:=aj uy
    have jC:=af uy 0
    have jl:=af uy 1
    have fr2:=af uy 2
    have fr3:=af uy 3
    have fr4:=af uy 4
    have fr5:=af uy 5
    have fr6:=af uy 6
    clear uy
    have uM:Hid ((((((((w2.setCell ⟨w.heap.size+1,0,none⟩ (.int .u64 (tk.id:Int))).setCell ⟨w.heap.size+1,1,none⟩ (.int .u64 (tk.list:Int))).setCell ⟨w.heap.size+1,2,none⟩ (.string (str tk.title))).setCell ⟨w.heap.size+1,3,none⟩ (.bool tk.done)).setCell ⟨w.heap.size+1,4,none⟩ (.float .f64 tk.rank)).setCell ⟨w.heap.size+1,5,none⟩ (.float .f64 tk.est)).setCell ⟨w.heap.size+1,6,none⟩ (.slice A3 tk.tags.length c3)).heap[w.heap.size+1]?=some (.cells #[.int .u64 (tk.id:Int),.int .u64 (tk.list:Int),.string (str tk.title),.bool tk.done,.float .f64 tk.rank,.float .f64 tk.est,.slice A3 tk.tags.length c3] 74 (0,0))):=hid ((ah (ah (ah (ah (ah (ah (ah Dl.out 0 (.int .u64 (tk.id:Int))) 1 (.int .u64 (tk.list:Int))) 2 (.string (str tk.title))) 3 (.bool tk.done)) 4 (.float .f64 tk.rank)) 5 (.float .f64 tk.est)) 6 (.slice A3 tk.tags.length c3)).trans rfl)
    obtain⟨k0,k1,k2,k3,k4,k5,k6⟩:=aj uM.out
    go_wp2
    refine bodyPost_ret (v:=.tuple #[.agg #[.int .u64 (tk.id:Int),.int .u64 (tk.list:Int),.string (str tk.title),.bool tk.done,.float .f64 tk.rank,.float .f64 tk.est,.slice A3 tk.tags.length c3],.bool true]) (by simp [results,results133,go_sem,k0,k1,k2,k3,k4,k5,k6]) rfl ?_
    refine⟨⟨tk,A3,c3⟩,by rw [F.out];rfl,by rw [F.out],HT.out _ (List.mem_of_getElem? X.out) |>.stay ?_,?_⟩
    all_goals exact ((((((((B1.out.trans (B2.out.mono B1.out.size)).setCell (by simp) _).setCell (by simp) _).setCell (by simp) _).setCell (by simp) _).setCell (by simp) _).setCell (by simp) _).setCell (by simp) _)
   ·have uD:((tk.id:Int)==(id:Int))=false:=by simp;omega
    have F:Hid ((ms.take (i+1)).find? (fun m=>m.t.id==id)=none):=hid (uV HU.out X.out (by simp [he]))
    clear he
    go_wp2
    go_roundw
    case rel=>exact⟨i+1,by go_num,by omega,F,B2.out⟩
    case measure=>simp [intOf];omega
  ·obtain rfl:i=n2:=by omega
   have hltz:¬ ((i:Int)<(i:Int)):=by omega
   have F:Hid (T9.dH (ay ms) id=(⟨0,0,[],false,0,0,[]⟩,false)):=hid (by
    have:=HU.out
    rw [E2.out,List.take_length] at this
    unfold T9.dH;rw [zL,this];rfl)
   obtain⟨d0,d1,d2,d3,d4,d5,d6⟩:=aj zS
   have jC:=af zS 0
   have jl:=af zS 1
   have fr2:=af zS 2
   have fr3:=af zS 3
   have fr4:=af zS 4
   have fr5:=af zS 5
   have fr6:=af zS 6
   have uM:Hid ((((((((wr.setCell ⟨w.heap.size+1,0,none⟩ (.int .u64 0)).setCell ⟨w.heap.size+1,1,none⟩ (.int .u64 0)).setCell ⟨w.heap.size+1,2,none⟩ (.string ⟨#[]⟩)).setCell ⟨w.heap.size+1,3,none⟩ (.bool false)).setCell ⟨w.heap.size+1,4,none⟩ (.float .f64 0)).setCell ⟨w.heap.size+1,5,none⟩ (.float .f64 0)).setCell ⟨w.heap.size+1,6,none⟩ (.slice none 0 0)).heap[w.heap.size+1]?=some (.cells #[.int .u64 0,.int .u64 0,.string ⟨#[]⟩,.bool false,.float .f64 0,.float .f64 0,.slice none 0 0] 74 (0,0))):=hid ((ah (ah (ah (ah (ah (ah (ah RB.out 0 (.int .u64 0)) 1 (.int .u64 0)) 2 (.string ⟨#[]⟩)) 3 (.bool false)) 4 (.float .f64 0)) 5 (.float .f64 0)) 6 (.slice none 0 0)).trans rfl)
   obtain⟨k0,k1,k2,k3,k4,k5,k6⟩:=aj uM.out
   go_wp2
   refine bodyPost_ret (v:=.tuple #[.agg #[.int .u64 0,.int .u64 0,.string ⟨#[]⟩,.bool false,.float .f64 0,.float .f64 0,.slice none 0 0],.bool false]) (by simp [results,results133,go_sem,k0,k1,k2,k3,k4,k5,k6]) rfl ?_
   refine⟨⟨⟨0,0,[],false,0,0,[]⟩,none,0⟩,by rw [F.out];rfl,by rw [F.out],⟨au.nil,Nat.le_refl _⟩,?_⟩
   exact ((((((((B1.out.trans (BR.out.mono B1.out.size)).setCell (by simp) _).setCell (by simp) _).setCell (by simp) _).setCell (by simp) _).setCell (by simp) _).setCell (by simp) _).setCell (by simp) _)
end
end Go.Proofs.YtcedlgedmkghgaaGreat
