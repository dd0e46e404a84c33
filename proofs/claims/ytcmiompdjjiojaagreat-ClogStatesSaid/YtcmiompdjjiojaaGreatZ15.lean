import Derived.Test.YtcmiompdjjiojaaGreatZ14
namespace Go.Proofs.YtcmiompdjjiojaaGreat
set_option maxHeartbeats 16000000
open Go.Lib Go.Proofs.Tryz
set_option linter.unusedSimpArgs false
set_option maxRecDepth 100000
section
open Go.RowKit Go.Lib
theorem BM {ls:List T9.Li} {A1:Option Addr} {c1 n1:Nat} {ms:List aN} {A2:Option Addr} {c2 n2:Nat} {w:World} (hl:LL w A1 ls) (hk:KL w A2 ms) (en1:n1=ls.length) (en2:n2=ms.length) (h1:n1≤1000) (h2:n2≤1000) (h3:∀ t∈ms,t.t.tags.length≤1000) (list:Nat) (hr:∀ t∈(T9.canon ⟨ls,ay ms⟩).tasks,t.rank<18446744073709551616) :
  Calls prog 69 #[.agg #[.slice A1 n1 c1,.slice A2 n2 c2],.int .u64 (list:Int)] w (I6 ⟨(T9.canon ⟨ls,ay ms⟩).lists,(T9.canon ⟨ls,ay ms⟩).tasks.map (T9.oP (T9.lw (T9.canon ⟨ls,ay ms⟩).tasks list))⟩ w):=by
 obtain⟨wx,hwx⟩:=nm (w.alloc (.cells #[.slice A1 n1 c1,.slice A2 n2 c2] 26))
 obtain⟨px,bx,zx⟩:=aj hwx
 obtain⟨wy,tF⟩:=nm (wx.alloc (.cells #[.slice none 0 0,.slice none 0 0] 26))
 obtain⟨py,bY,zy⟩:=aj tF
 have BY0:=bx.trans (bY.mono (by omega))
 have C1:=hid (rP (n1:=n1) (n2:=n2) (c1:=c1) (c2:=c2) (hl.stay BY0) (hk.stay BY0) en1 en2 h1 h2 h3)
 obtain⟨cs,hcs⟩:=nm (T9.canon ⟨ls,ay ms⟩)
 have UN:Hid (T9.tK cs.tasks):=hid (by rw [← hcs];exact (Aa _).imp fun h=>Nat.ne_of_lt h)
 have CN:Hid (cs.tasks.length≤1000):=hid (by
  rw [← hcs]
  show ((Sr.canon T9.jg (ay ms)).map T9.norm).length≤1000
  rw [List.length_map]
  exact Nat.le_trans (Sr.dD _) (by rw [aK,← en2];exact h2))
 rw [hcs] at hr C1 ⊢
 have HR:=hid hr
 have B2:=hid BY0
 have PX:=hid (ae px bY)
 rw [zx] at py
 have PY:=hid py
 have ZY:=hid zy
 have ZX:=hid zx
 obtain⟨x0,x1⟩:=aa PX.out
 clear hl hk en1 en2 h1 h2 h3 hcs hr BY0 px py bx bY
 go_enter func69,ntmps69
 go_wp2_with fail
 refine C1.out.mono ?_
 rintro e w3 ⟨⟨Fw,A3,c3,O,B3,d3⟩,rfl,hst,l3,k3,t3,lc3,kc3,za3,zk3,hb3⟩
 dsimp only at hst l3 k3 t3 lc3 kc3 za3 zk3
 unfold aQ.val
 dsimp only
 clear hwx tF C1
 have zyy:wy.heap.size=w.heap.size+2:=by rw [zy,zx]
 clear zx zy x0 x1
 have PX3:=(hb3.block w.heap.size (by omega)).trans PX.out
 have PY3:=(hb3.block (w.heap.size+1) (by omega)).trans PY.out
 obtain⟨q0,q1⟩:=aa PX3
 have fx0:=af PX3 0
 have fx1:=af PX3 1
 obtain⟨w4,hw4⟩:=nm ((w3.setCell ⟨w.heap.size,0,none⟩ (.slice A3 Fw.length c3)).setCell ⟨w.heap.size,1,none⟩ (.slice B3 O.length d3))
 have PX4:Hid (w4.heap[w.heap.size]?=some (.cells #[.slice A3 Fw.length c3,.slice B3 O.length d3] 26 (0,0))):=hid (by rw [← hw4];exact ah (ah PX3 0 _) 1 _)
 have PY4:Hid (w4.heap[w.heap.size+1]?=some (.cells #[.slice none 0 0,.slice none 0 0] 26 (0,0))):=hid (by
  rw [← hw4]
  exact az (az PY3 (p:=⟨w.heap.size,0,none⟩) (by show w.heap.size+1≠w.heap.size;omega) _) (p:=⟨w.heap.size,1,none⟩) (by show w.heap.size+1≠w.heap.size;omega) _)
 have yx:Ty w3 w.heap.size 26:=⟨_,_,PX3⟩
 have TF4:=((aM.refl 0 [26] w3).aB (p:=⟨w.heap.size,0,none⟩) yx (by simp) (Nat.zero_le _) (.slice A3 Fw.length c3)).aB (p:=⟨w.heap.size,1,none⟩) (yx.set _ _) (by simp) (Nat.zero_le _) (.slice B3 O.length d3)
 rw [hw4] at TF4
 have L4:=hid (l3.bE TF4 (by decide))
 have K4:=hid (k3.bE TF4 (by decide))
 have T4:Hid (∀ q∈O,q.bS w4):=hid fun q hq=>⟨(t3 q hq).1.bE TF4 (by decide),(t3 q hq).2⟩
 have B4:Hid (Below w.heap.size w w4):=hid (by rw [← hw4];exact ((B2.out.trans (hb3.mono B2.out.size)).setCell (Nat.le_refl _) _).setCell (Nat.le_refl _) _)
 have ZS4:Hid (w.heap.size+2≤w4.heap.size):=hid (by rw [← hw4];have:=hb3.size;simp;omega)
 have EL:Hid (Fw=cs.lists):=hid (by rw [← hst];rfl)
 have EK:Hid (ay O=cs.tasks):=hid (by rw [← hst];rfl)
 have LC:=hid lc3
 have KC:=hid kc3
 have ZA:=hid za3
 have ZK:=hid zk3
 have on:O.length≤1000:=by rw [← aK,EK.out];exact CN.out
 have KL4:Hid (KL w4 B3 O):=hid ⟨K4.out.old,fun q hq=>⟨(T4.out q hq).1.old,(T4.out q hq).2⟩⟩
 have C2:=hid (Er (A1:=A3) (n1:=Fw.length) (c1:=c3) (c:=d3) KL4.out T4.out rfl on list (by rw [EK.out];exact UN.out) (fun m hm=>HR.out _ (by rw [← EK.out];exact List.mem_map.2 ⟨m,hm,rfl⟩)))
 rw [EK.out] at C2
 have ON:=hid on
 obtain⟨x0,x1⟩:=aa PX4.out
 clear hst l3 k3 t3 lc3 kc3 za3 zk3 hb3 PX3 PY3 yx TF4 on zyy
 go_wp2_with fail
 refine C2.out.mono ?_
 rintro e w5 ⟨A5,c5,ys,rfl,k5,t5,yc5,zy5,hys,hb5⟩
 clear hw4 fx0 fx1 C2 x0 x1 q0 q1
 have B5:=hid hb5
 have PX5:=hid ((hb5.block _ (lt_of_block PX4.out)).trans PX4.out)
 have KY:=hid (show KL w5 A5 ys from⟨k5.old,fun q hq=>⟨(t5 q hq).1.old,(t5 q hq).2⟩⟩)
 have HYS:=hid hys
 have YN:Hid (ys.length≤1000000):=hid (by
  rw [← aK,hys]
  refine Nat.le_trans (Sr.dD _) (Nat.le_trans (List.length_filter_le _ _) ?_)
  have:=CN.out
  omega)
 obtain⟨p,hp⟩:∃ z,z=ys.length:=⟨_,rfl⟩
 have HP:=hid hp
 rw [← hp]
 obtain⟨n,hn⟩:∃ z,z=O.length:=⟨_,rfl⟩
 have HN:=hid hn
 rw [← hn] at PX5 PX4 ON
 obtain⟨x0,x1⟩:=aa PX5.out
 have n1000:n≤1000:=ON.out
 clear hb5 k5 t5 yc5 zy5 hys hp hn
 go_wp2_with fail
 go_loopw [6,18] (fun s6 s18 wr=>∃ (i:Nat) (A6:Option Addr) (c6:Nat) (xs:List aN),s18=.int .i64 i∧i≤n∧s6=.slice A6 i c6∧Aside (wr.ownsRow w5.heap.size 64 7 (.slice A6 i c6) i (ai xs))∧Aside (Below w5.heap.size w5 wr)∧Hid (xs.length=i∧ay xs=(ay (O.take i)).map (T9.oP (ay ys))∧(∀ m∈xs,m.bS wr)∧(A6=none→c6=0))) (fun _ s18 _=>n - (intOf s18).toNat)
 case atStart=>exact⟨0,none,0,[],rfl,Nat.zero_le _,rfl,World.ownsRow_nil _ _ _ _,Below.refl _ _,hid ⟨rfl,rfl,by simp,fun _=>rfl⟩⟩
 case round =>
  obtain⟨i,A6,c6,xs,rfl,hi,rfl,hO,hB,HI⟩:=hrel
  obtain⟨wo,hwo⟩:∃ u,u=wr:=⟨_,rfl⟩
  subst hwo
  have OW:=hid hO.out
  have BR:=hid hB.out
  clear hO hB
  by_cases hlt:i<n
  ·have hltz:(i:Int)<(n:Int):=by omega
   have BRO:=hid (B5.out.trans (BR.out.mono B5.out.size))
   obtain⟨ad,⟨tk,A4,c4⟩,hA,hx,hf,r0,r1,r2,r3,r4,r5,r6⟩:=(KL4.out.stay BRO.out).at_ (k:=i) (by have:=HN.out;omega)
   subst hA
   have X:=hid hx
   have FT:Hid (aN.bS ⟨tk,A4,c4⟩ wo):=hid ((T4.out _ (List.mem_of_getElem? hx)).stay BRO.out)
   dsimp only at r0 r1 r2 r3 r4 r5 r6
   obtain⟨w6,xI⟩:=nm (wo.alloc (.cells #[.int .u64 (tk.id:Int),.int .u64 (tk.list:Int),.string (str tk.title),.bool tk.done,.float .f64 tk.rank,.float .f64 tk.est,.slice A4 tk.tags.length c4] 64))
   obtain⟨lb,b6,z6⟩:=bf xI
   have B6:=hid b6
   have LB:=hid lb
   obtain⟨l0,l1,l2,l3,l4,l5,l6⟩:=ak lb
   have CP:=hid (Es (c:=c5) (id:=tk.id) ((KY.out.stay BR.out).stay b6) HP.out (by rw [HP.out];exact YN.out))
   have wO:Hid ((ay (O.take (i+1))).map (T9.oP (ay ys))=(ay (O.take i)).map (T9.oP (ay ys))++[T9.oP (ay ys) tk]):=hid (by rw [bH X.out,fG,List.map_append];rfl)
   have lz:wo.heap.size<w6.heap.size:=by omega
   clear hx hf lb b6 z6
   go_wp2_with fail
   refine CP.out.mono ?_
   rintro e w7 ⟨rfl,b7⟩
   have B7:=hid (B6.out.trans (b7.mono (Nat.le_of_lt lz)))
   have LB7:=hid ((b7.block _ lz).trans LB.out)
   clear r0 r1 r2 r3 r4 r5 r6 l0 l1 l2 l3 l4 l5 l6 xI CP x0 x1 lz b7
   obtain⟨m0,m1,m2,m3,m4,m5,m6⟩:=ak LB7.out
   unfold T9.Br
   cases hpl:T9.zR (ay ys) tk.id with
   | none =>
    dsimp only
    have BV:=B7
    have SP:Hid (T9.oP (ay ys) tk=tk):=hid (by unfold T9.oP;rw [hpl])
    clear hpl
    have hbs:=eu (⟨tk,A4,c4⟩:aN) w7
    unfold aA at hbs
    dsimp only at hbs
    have Gh:=hid (own_below OW.out BV.out)
    have mG:=hid (Gh.out.alloc (.cells #[.int .u64 (tk.id:Int),.int .u64 (tk.list:Int),.string (str tk.title),.bool tk.done,.float .f64 tk.rank,.float .f64 tk.est,.slice A4 tk.tags.length c4] 64))
    have LE:Hid (au (w7.alloc (.cells #[.int .u64 (tk.id:Int),.int .u64 (tk.list:Int),.string (str tk.title),.bool tk.done,.float .f64 tk.rank,.float .f64 tk.est,.slice A4 tk.tags.length c4] 64)) 0 64 (some ⟨w7.heap.size,0,none⟩) (aA (⟨tk,A4,c4⟩:aN))):=hid (au.iy (heap_alloc_new w7 _))
    have zz:w5.heap.size≤w7.heap.size:=Nat.le_trans BR.out.size BV.out.size
    have ZZ:=hid zz
    obtain⟨xX,xW,x8,x9,x_⟩:=info_parts Tryz.infoTk9
    go_wp2_with (at_builtin;refine bL _ rfl _ _ 24 rfl w5.heap.size 64 xX _ 7 80 underlying24 xW x8 x9 x_ rfl (by decide) _ i (ai xs) rfl mG.out 0 _ 1 1 (aA (⟨tk,A4,c4⟩:aN)) 64 rfl rfl LE.out (dL _) (by unfold maxLen;omega) (by omega) (by simp;omega) ?_)
    intro v8 w8 kT mY J8
    obtain⟨A8,k8,rfl⟩:=aD kT
    obtain⟨g8,e8,_⟩:=bO kT (Nat.succ_pos _)
    have T8:Hid (aM w5.heap.size [64] w7 w8):=hid (((aM.refl w5.heap.size [64] w7).alloc ZZ.out (.cells #[.int .u64 (tk.id:Int),.int .u64 (tk.list:Int),.string (str tk.title),.bool tk.done,.float .f64 tk.rank,.float .f64 tk.est,.slice A4 tk.tags.length c4] 64)).trans (ed (B:=w5.heap.size) (ts:=[64]) mG.out mY (Nat.le_refl _) (by have:=ZZ.out;simp;omega) (by simp)))
    have HO8:=hid kT
    have E8:=hid e8
    clear kT mY J8 hbs m0 m1 m2 m3 m4 m5 m6 e8 zz
    go_wp2
    go_roundw
    case rel =>
     refine⟨i+1,A8,k8,xs++[(⟨tk,A4,c4⟩:aN)],by go_num,by omega,rfl,?_,(BR.out.trans (BV.out.mono BR.out.size)).trans T8.out.below,hid ⟨by rw [List.length_append,HI.out.1];rfl,by rw [fG,HI.out.2.1,wO.out,SP.out],fun m hm=>?_,fun z=>by rw [E8.out] at z;cases z⟩⟩
     ·rw [g_];exact HO8.out
     ·rcases List.mem_append.1 hm with q | q
      ·exact ((HI.out.2.2.1 m q).stay BV.out).nP T8.out (by decide)
      ·rw [List.mem_singleton] at q
       subst q
       exact (FT.out.stay BV.out).nP T8.out (by decide)
    case measure=>simp [intOf];omega
   | some j =>
    dsimp only
    have hj:(0:Int)≤(j:Int):=Int.natCast_nonneg j
    have hj1:(j:Int)<1000000:=by
     obtain⟨h,_⟩:=List.findIdx?_eq_some_iff_getElem.1 hpl
     rw [aK] at h
     have:=YN.out
     omega
    have wj:IntKind.i64.wrap ((j:Int)+1)=(j:Int)+1:=by rw [IntKind.wrap_i64];omega
    clear hj1
    have cv:=qw j
    obtain⟨fl,hfl⟩:=nm (Fl.zP (j+1))
    rw [hfl] at cv
    have ME:=hid hfl
    clear hfl
    have fm:=af LB7.out 4
    obtain⟨w9,kQ⟩:=nm (w7.setCell ⟨wo.heap.size,4,none⟩ (.float .f64 fl))
    have LB9:Hid (w9.heap[wo.heap.size]?=some (.cells #[.int .u64 (tk.id:Int),.int .u64 (tk.list:Int),.string (str tk.title),.bool tk.done,.float .f64 fl,.float .f64 tk.est,.slice A4 tk.tags.length c4] 64 (0,0))):=hid (by rw [← kQ];exact ah LB7.out 4 _)
    have BV:Hid (Below wo.heap.size wo w9):=hid (by rw [← kQ];exact B7.out.setCell (Nat.le_refl _) _)
    clear m0 m1 m2 m3 m4 m5 m6
    obtain⟨_,_,_,_,u4,_,_⟩:=ak LB7.out
    obtain⟨m0,m1,m2,m3,m4,m5,m6⟩:=ak LB9.out
    have SP:Hid (T9.oP (ay ys) tk={ tk with rank:=fl }):=hid (by unfold T9.oP;rw [hpl];dsimp only;rw [ME.out])
    clear hpl
    have hbs:=eu (⟨{ tk with rank:=fl },A4,c4⟩:aN) w9
    unfold aA at hbs
    dsimp only at hbs
    have Gh:=hid (own_below OW.out BV.out)
    have mG:=hid (Gh.out.alloc (.cells #[.int .u64 (tk.id:Int),.int .u64 (tk.list:Int),.string (str tk.title),.bool tk.done,.float .f64 fl,.float .f64 tk.est,.slice A4 tk.tags.length c4] 64))
    have LE:Hid (au (w9.alloc (.cells #[.int .u64 (tk.id:Int),.int .u64 (tk.list:Int),.string (str tk.title),.bool tk.done,.float .f64 fl,.float .f64 tk.est,.slice A4 tk.tags.length c4] 64)) 0 64 (some ⟨w9.heap.size,0,none⟩) (aA (⟨{ tk with rank:=fl },A4,c4⟩:aN))):=hid (au.iy (heap_alloc_new w9 _))
    have zz:w5.heap.size≤w9.heap.size:=Nat.le_trans BR.out.size BV.out.size
    have ZZ:=hid zz
    obtain⟨xX,xW,x8,x9,x_⟩:=info_parts Tryz.infoTk9
    go_wp2_with (at_builtin;refine bL _ rfl _ _ 24 rfl w5.heap.size 64 xX _ 7 80 underlying24 xW x8 x9 x_ rfl (by decide) _ i (ai xs) rfl mG.out 0 _ 1 1 (aA (⟨{ tk with rank:=fl },A4,c4⟩:aN)) 64 rfl rfl LE.out (dL _) (by unfold maxLen;omega) (by omega) (by simp;omega) ?_)
    intro v8 w8 kT mY J8
    obtain⟨A8,k8,rfl⟩:=aD kT
    obtain⟨g8,e8,_⟩:=bO kT (Nat.succ_pos _)
    have T8:Hid (aM w5.heap.size [64] w9 w8):=hid (((aM.refl w5.heap.size [64] w9).alloc ZZ.out (.cells #[.int .u64 (tk.id:Int),.int .u64 (tk.list:Int),.string (str tk.title),.bool tk.done,.float .f64 fl,.float .f64 tk.est,.slice A4 tk.tags.length c4] 64)).trans (ed (B:=w5.heap.size) (ts:=[64]) mG.out mY (Nat.le_refl _) (by have:=ZZ.out;simp;omega) (by simp)))
    have HO8:=hid kT
    have E8:=hid e8
    clear kT mY J8 hbs m0 m1 m2 m3 m4 m5 m6 e8 zz
    go_wp2
    go_roundw
    case rel =>
     refine⟨i+1,A8,k8,xs++[(⟨{ tk with rank:=fl },A4,c4⟩:aN)],by go_num,by omega,rfl,?_,(BR.out.trans (BV.out.mono BR.out.size)).trans T8.out.below,hid ⟨by rw [List.length_append,HI.out.1];rfl,by rw [fG,HI.out.2.1,wO.out,SP.out],fun m hm=>?_,fun z=>by rw [E8.out] at z;cases z⟩⟩
     ·rw [g_];exact HO8.out
     ·rcases List.mem_append.1 hm with q | q
      ·exact ((HI.out.2.2.1 m q).stay BV.out).nP T8.out (by decide)
      ·rw [List.mem_singleton] at q
       subst q
       exact (FT.out.stay BV.out).nP T8.out (by decide)
    case measure=>simp [intOf];omega
  ·obtain rfl:i=n:=by omega
   have hltz:¬ ((i:Int)<(i:Int)):=by omega
   have XT:Hid (ay xs=cs.tasks.map (T9.oP (T9.lw cs.tasks list))):=hid (by rw [HI.out.2.1,HN.out,List.take_length,EK.out,HYS.out])
   have BW:=hid (B4.out.trans ((B5.out.trans (BR.out.mono B5.out.size)).mono B4.out.size))
   have PXo:=(BR.out.block w.heap.size (by have:=ZS4.out;have:=B5.out.size;omega)).trans PX5.out
   have PYo:=(BR.out.block (w.heap.size+1) (by have:=ZS4.out;have:=B5.out.size;omega)).trans ((B5.out.block (w.heap.size+1) (by have:=ZS4.out;omega)).trans PY4.out)
   obtain⟨x0,x1⟩:=aa PXo
   have fx:=af PXo 1
   obtain⟨wa,dB⟩:=nm (wo.setCell ⟨w.heap.size,1,none⟩ (.slice A6 i c6))
   have PXa:Hid (wa.heap[w.heap.size]?=some (.cells #[.slice A3 Fw.length c3,.slice A6 i c6] 26 (0,0))):=hid (by rw [← dB];exact ah PXo 1 _)
   have PYa:Hid (wa.heap[w.heap.size+1]?=some (.cells #[.slice none 0 0,.slice none 0 0] 26 (0,0))):=hid (by rw [← dB];exact az PYo (p:=⟨w.heap.size,1,none⟩) (by show w.heap.size+1≠w.heap.size;omega) _)
   have yxo:Ty wo w.heap.size 26:=⟨_,_,PXo⟩
   have TFa:=(aM.refl 0 [26] wo).aB (p:=⟨w.heap.size,1,none⟩) yxo (by simp) (Nat.zero_le _) (.slice A6 i c6)
   rw [dB] at TFa
   have yya:Ty wa (w.heap.size+1) 26:=⟨_,_,PYa.out⟩
   obtain⟨y0,y1⟩:=aa PXa.out
   obtain⟨z0,z1⟩:=aa PYa.out
   have fy0:=af PYa.out 0
   have fy1:=af PYa.out 1
   have RB:Hid (((wa.setCell ⟨w.heap.size+1,0,none⟩ (.slice A3 Fw.length c3)).setCell ⟨w.heap.size+1,1,none⟩ (.slice A6 i c6)).heap[w.heap.size+1]?=some (.cells #[.slice A3 Fw.length c3,.slice A6 i c6] 26 (0,0))):=hid (ah (ah PYa.out 0 _) 1 _)
   obtain⟨k0,k1⟩:=aa RB.out
   have TF:=hid (TFa.trans (((aM.refl 0 [26] wa).aB (p:=⟨w.heap.size+1,0,none⟩) yya (by simp) (Nat.zero_le _) (.slice A3 Fw.length c3)).aB (p:=⟨w.heap.size+1,1,none⟩) (yya.set _ _) (by simp) (Nat.zero_le _) (.slice A6 i c6)))
   have BF:Hid (Below w.heap.size w ((wa.setCell ⟨w.heap.size+1,0,none⟩ (.slice A3 Fw.length c3)).setCell ⟨w.heap.size+1,1,none⟩ (.slice A6 i c6))):=hid (by
    rw [← dB]
    exact ((BW.out.setCell (by show w.heap.size≤w.heap.size;omega) _).setCell (by show w.heap.size≤w.heap.size+1;omega) _).setCell (by show w.heap.size≤w.heap.size+1;omega) _)
   clear yxo TFa yya PXo PYo
   go_wp2
   refine bodyPost_ret (v:=.agg #[.slice A3 Fw.length c3,.slice A6 i c6]) (by simp [results,results69,go_sem,k0,k1]) rfl ?_
   refine⟨⟨Fw,A3,c3,xs,A6,c6⟩,?_,?_,?_,?_,?_,LC.out,?_,ZA.out,HI.out.2.2.2,BF.out⟩
   ·show _=Ending.returned (Value.agg #[.slice A3 Fw.length c3,.slice A6 xs.length c6])
    rw [HI.out.1]
   ·show (⟨Fw,ay xs⟩:T9.St)=_
    rw [EL.out,XT.out]
   ·exact (dF L4.out (aM.of_below (B5.out.trans (BR.out.mono B5.out.size)) (Nat.le_refl _) []) (by simp)).bE TF.out (by decide)
   ·exact (aH (B:=0) OW.out).bE TF.out (by decide)
   ·exact fun q hq=>⟨(HI.out.2.2.1 q hq).1.bE TF.out (by decide),(HI.out.2.2.1 q hq).2⟩
   ·show xs.length≤c6
    rw [HI.out.1]
    exact (aO OW.out).2
end
end Go.Proofs.YtcmiompdjjiojaaGreat
