import Derived.Test.YtcedlgedmkghgaaZ38
import Derived.Test.YtcedlgedmkghgaaZ40
namespace Go.Proofs.Ytcedlgedmkghgaa
set_option maxHeartbeats 16000000
open Go.Lib
set_option linter.unusedSimpArgs false
set_option maxRecDepth 100000
section
section
open Go.RowKit Go.Lib
def kD:Ending:=.panicked [{ v:=.iface 34 (.int .i64 150),recovered:=false }]
theorem oq:(60000:Int).toNat=60000:=rfl
theorem gm (w:World):Calls Try.prog 41 #[.bool true] w fun e w'=>e=.returned (.tuple #[])∧w=w':=by
 go_enter Try.func41,Try.ntmps41
 go_wp2
 go_end0
 exact⟨rfl,rfl⟩
theorem eU (w:World):Calls Try.prog 41 #[.bool false] w fun e w'=>e=.panicked [{ v:=.iface 34 (.int .i64 150),recovered:=false }]∧w=w':=by
 go_enter Try.func41,Try.ntmps41
 go_wp2
 exact⟨rfl,rfl,rfl⟩
@[go_sem] theorem buildI15 (n : Int) (w : World) : (Instr.build 51 #[(0, .int .u64 n)]).run Try.prog w = .ok (.agg #[.int .u64 n, .int .u64 0, .int .i64 0, .int .u64 0, .int .u64 0, .string ⟨#[]⟩, .float .f64 0, .bool false]) w := run_build w 51 _ _ (by kernel_rfl)
def fT (b:List UInt8) (w:World) (e:Ending) (w':World):Prop:=Below w.heap.size w w'∧((T9.gZ 60000 b).2=0→e=.returned (T9.gZ 60000 b).1.val)∧((T9.gZ 60000 b).2≠0→e=kD)
theorem fT.bad {b:List UInt8} {w w':World} (h:(T9.gZ 60000 b).2≠0) (hb:Below w.heap.size w w'):fT b w kD w':=⟨hb,fun q=>absurd q h,fun _=>rfl⟩
theorem fT.good {b:List UInt8} {x:It} {w w':World} (h:T9.gZ 60000 b=(x,0)) (hb:Below w.heap.size w w'):fT b w (.returned x.val) w':=⟨hb,fun _=>by rw [h],fun q=>absurd (by rw [h]) q⟩
theorem shr_i2 (s:Option (List UInt8)):St.jl s (T9.i2 s):=(St.bI Cd.full s).trans (St.bI Cd.full _)
theorem ry {A:Option Addr} {n c:Nat} {b:List UInt8} {w:World} {D:Nat} {td:TypeId} (h:ah w D td A (ae b)) (hn:n=b.length) (hb:n≤1000000000) (hD:D≤w.heap.size) :
  Calls Try.prog 44 #[.slice A n c] w (fT b w):=by
 obtain⟨w0,hw0⟩:∃ u,w.alloc (.cells #[.int .u64 0,.int .u64 0,.int .i64 0,.int .u64 0,.int .u64 0,.string ⟨#[]⟩,.float .f64 0,.bool false] 51)=u:=⟨_,rfl⟩
 obtain⟨pX,b0,z0⟩:=bR hw0
 have vg:=hid pX
 have B0:=hid b0
 have CR:=hid (nW (c:=c) ((h.more hD).old (t':=5) |>.below (Nat.le_refl _) b0) (by omega) hn (by omega))
 have HBL:Hid (b.length≤1000000000):=hid (by omega)
 clear h pX b0 hn hb
 go_enter Try.func44,Try.ntmps44
 go_wp2_with fail
 refine CR.out.mono ?_
 rintro e w1 ⟨p,rfl,hr,hb1⟩
 have yh:=hid (ak vg.out hb1)
 have B1:=hid (B0.out.trans (hb1.mono (by omega)))
 obtain⟨B,hB⟩:∃ v,v=w0.heap.size:=⟨_,rfl⟩
 rw [← hB] at hr
 have BZ:Hid (w.heap.size+1=B∧B≤w1.heap.size):=hid ⟨by omega,by have:=hb1.size;omega⟩
 have L0:Hid (∀ l,some b=some l→l.length≤1099511627776):=hid (by intro l e;injection e with e;subst e;have:=HBL.out;omega)
 have N1:=hid (cK (mz:=18446744073709551615) hr (by decide) L0.out (by decide))
 rw [aX] at N1
 clear hr hb1 hB hw0 z0
 go_wp2_with fail
 refine N1.out.mono ?_
 rintro e w2 ⟨rfl,hr,ht⟩
 obtain⟨i0,hi0⟩:∃ v,v=(Cd.aH Cd.full (some b)).1:=⟨_,rfl⟩
 rw [← hi0]
 have I0:=hid hi0
 have yj:=hid (St.bI Cd.full (some b))
 have hr:RS 104 B 5 w2 p (T9.i1 (some b)):=hr
 have RB2':=hid (ht.blk yh.out (by decide))
 have Tw1':Hid (ay B [104] w1 w2):=hid ht
 have GZ:Hid (w.heap.size+1≤w2.heap.size∧B≤w2.heap.size):=hid (by have:=ht.size;have:=BZ.out;omega)
 clear hi0 ht
 go_wp2_with fail
 obtain⟨w3,hw3⟩:∃ u,w2.alloc (.cells #[.int .u64 (i0:Int),.int .u64 0,.int .i64 0,.int .u64 0,.int .u64 0,.string ⟨#[]⟩,.float .f64 0,.bool false] 51)=u:=⟨_,rfl⟩
 rw [hw3]
 obtain⟨wu,b3,z3⟩:=bR hw3
 have R3:Hid (RS 104 B 5 w3 p (T9.i1 (some b))):=hid (by rw [← hw3];exact hr.alloc _)
 have RB3:=hid (ak RB2'.out b3)
 have LB3:=hid wu
 have B3:Hid (Below w.heap.size w w3):=hid ((B1.out.trans (Tw1'.out.below.mono (by have:=BZ.out;omega))).trans (b3.mono (by have:=GZ.out;omega)))
 have GG:Hid (w.heap.size<w2.heap.size∧B≤w2.heap.size):=hid (by have:=GZ.out;omega)
 clear hr wu b3 z3 hw3
 have C1:=hid (cK (mz:=18446744073709551615) R3.out (by decide) (yj.out.bound L0.out) (by decide))
 rw [aX] at C1
 refine C1.out.mono ?_
 rintro e w4 ⟨rfl,hr,ht⟩
 obtain⟨i1,hi1⟩:∃ v,v=(Cd.aH Cd.full (T9.i1 (some b))).1:=⟨_,rfl⟩
 rw [← hi1]
 have I1:=hid hi1
 have hr:RS 104 B 5 w4 p (T9.i2 (some b)):=hr
 have lb:=ht.blk LB3.out (by decide)
 have rb:=ht.blk RB3.out (by decide)
 have yy:Ty w4 w2.heap.size 51:=⟨_,_,lb⟩
 obtain⟨c0,c1,c2,c3,c4,c5,c6,c7⟩:=aA lb
 have f5:=aa lb 1
 obtain⟨w5,hw5⟩:∃ u,w4.setCell ⟨w2.heap.size,1,none⟩ (.int .u64 (i1:Int))=u:=⟨_,rfl⟩
 have LB5:Hid (w5.heap[w2.heap.size]?=some (.cells #[.int .u64 (i0:Int),.int .u64 (i1:Int),.int .i64 0,.int .u64 0,.int .u64 0,.string ⟨#[]⟩,.float .f64 0,.bool false] 51 (0,0))):=hid (by rw [← hw5];exact (af lb 1 (.int .u64 (i1:Int))).trans rfl)
 have RB5:Hid (w5.heap[w.heap.size]?=some (.cells #[.int .u64 0,.int .u64 0,.int .i64 0,.int .u64 0,.int .u64 0,.string ⟨#[]⟩,.float .f64 0,.bool false] 51 (0,0))):=hid (by rw [← hw5];exact aF rb (p:=⟨w2.heap.size,1,none⟩) (by have:=GG.out;show w.heap.size≠w2.heap.size;omega) (.int .u64 (i1:Int)))
 have R5:Hid (RS 104 B 5 w5 p (T9.i2 (some b))):=hid (by rw [← hw5];exact hr.jD yy GG.out.2 (by decide) (by decide) _ _)
 have B5:Hid (Below w.heap.size w w5):=hid (by rw [← hw5];exact (B3.out.trans (ht.below.mono (by have:=BZ.out;omega))).setCell (by have:=GG.out;show w.heap.size≤w2.heap.size;omega) _)
 clear hr ht hi1 lb rb yy
 have C2:=hid (lg (mz:=60000) R5.out (by decide) ((shr_i2 (some b)).bound L0.out) (by decide) (by decide))
 rw [oq] at C2
 go_wp2_with fail
 refine C2.out.mono ?_
 rintro e w6 ⟨Ab,nb,cb,rfl,jv,hr,ht⟩
 obtain⟨o6,_⟩:=aC jv
 obtain⟨bd,hbd⟩:∃ v,v=(Cd.bL 60000 (T9.i2 (some b))).1:=⟨_,rfl⟩
 have o7:w6.ownsRow w5.heap.size 5 1 (.slice Ab nb cb) bd.length (ae bd):=by rw [hbd];exact jv
 have hnb:nb=bd.length:=by rw [hbd];exact o6
 clear jv o6
 have BD:=hid hbd
 have lbd:bd.length≤60000:=by rw [hbd];exact iF 60000 _
 obtain⟨s3,hs3⟩:∃ v,v=T9.i3 60000 (some b):=⟨_,rfl⟩
 have hr:RS 104 B 5 w6 p s3:=by rw [hs3];exact hr
 have S3:=hid hs3
 have LB6:=hid (ht.blk LB5.out (by decide))
 have RB6:=hid (ht.blk RB5.out (by decide))
 have B6:Hid (Below w.heap.size w w6):=hid (B5.out.trans (ht.below.mono (by have:=BZ.out;omega)))
 have R6:=hid hr
 have MO:=hid (mutOf_c (c:=cb) (aB (B:=0) (t:=5) o7) hnb (by omega) (Nat.zero_le _))
 have GX:Hid (w2.heap.size<w6.heap.size):=hid (lt_of_block LB6.out)
 clear o7 hnb hbd hs3 hr ht lbd c0 c1 c2 c3 c4 c5 c6 c7 f5
 go_wp2_with fail
 refine MO.out.mono ?_
 rintro e w7 ⟨rfl,h7⟩
 obtain⟨mo,hmo⟩:∃ v,(T9.lV bd).1=v:=⟨_,rfl⟩
 obtain⟨er,her⟩:∃ v,(T9.lV bd).2=v:=⟨_,rfl⟩
 rw [hmo,her]
 have MM:=hid (And.intro hmo her)
 obtain⟨w8,hw8⟩:∃ u,w7.alloc (.cells #[.int .i64 mo.kind,.int .u64 (mo.id:Int),.int .u64 (mo.list:Int),.string (str mo.text),.float .f64 mo.f,.bool mo.flag] 49)=u:=⟨_,rfl⟩
 obtain⟨qb8,b8,z8⟩:=bu hw8
 have BE:Below w6.heap.size w6 w8:=h7.trans (b8.mono h7.size)
 have QB:=hid qb8
 have tL:=hid (ak LB6.out BE)
 have RB8:=hid (ak RB6.out BE)
 have B8:Hid (Below w.heap.size w w8):=hid (B6.out.trans (BE.mono B6.out.size))
 have R8:Hid (RS 104 B 5 w8 p s3):=hid (R6.out.below BE)
 have CE:=hid (nL R8.out)
 have G7:Hid (w2.heap.size<w7.heap.size∧w.heap.size<w7.heap.size):=hid (by have:=GX.out;have:=h7.size;have:=GG.out;omega)
 unfold T9.Mu.val
 clear h7 hmo her b8 z8 qb8 BE
 by_cases he:er=0
 case neg =>
  have OF:Hid ((T9.gZ 60000 b).2≠0):=hid (by
   unfold T9.gZ
   rw [if_neg (fun q=>he (by have q1:=q.1;unfold T9.jJ at q1;rw [← BD.out,MM.out.2] at q1;exact q1))]
   decide)
  have hz:(er==0)=false:=by simp [he]
  have hz2:(er != 0)=true:=by simp [he]
  clear he
  go_wp2_with (go_at_call 41;refine (eU _).mono ?_;rintro e w' ⟨rfl,rfl⟩)
  exact⟨rfl,fT.bad OF.out B8.out⟩
 subst he
 by_cases hs:s3=some []
 case neg =>
  have OF:Hid ((T9.gZ 60000 b).2≠0):=hid (by
   unfold T9.gZ
   rw [if_neg (fun q=>hs (S3.out.trans q.2.1))]
   decide)
  have ev:fI s3=20:=by
   unfold fI
   split
   ·exact absurd rfl hs
   ·rfl
  clear hs
  go_wp2_with (first | (go_at_call 47;refine CE.out.mono ?_;rintro e w' ⟨rfl,rfl⟩) | (go_at_call 41;refine (eU _).mono ?_;rintro e w' ⟨rfl,rfl⟩))
  exact⟨rfl,fT.bad OF.out B8.out⟩
 have ev:fI s3=0:=by rw [hs];rfl
 have HS:=hid hs
 clear hs
 obtain⟨q0,q1,q2,q3,q4,q5⟩:=au QB.out
 obtain⟨c0,c1,c2,c3,c4,c5,c6,c7⟩:=aA tL.out
 have f2:=aa tL.out 2
 have f3:=aa tL.out 3
 have f4:=aa tL.out 4
 have f5:=aa tL.out 5
 have f6:=aa tL.out 6
 have f7:=aa tL.out 7
 obtain⟨w9,hw9⟩:∃ u,((((((w8.setCell ⟨w2.heap.size,2,none⟩ (.int .i64 mo.kind)).setCell ⟨w2.heap.size,3,none⟩ (.int .u64 (mo.id:Int))).setCell ⟨w2.heap.size,4,none⟩ (.int .u64 (mo.list:Int))).setCell ⟨w2.heap.size,5,none⟩ (.string (str mo.text))).setCell ⟨w2.heap.size,6,none⟩ (.float .f64 mo.f)).setCell ⟨w2.heap.size,7,none⟩ (.bool mo.flag))=u:=⟨_,rfl⟩
 have LB9:Hid (w9.heap[w2.heap.size]?=some (.cells #[.int .u64 (i0:Int),.int .u64 (i1:Int),.int .i64 mo.kind,.int .u64 (mo.id:Int),.int .u64 (mo.list:Int),.string (str mo.text),.float .f64 mo.f,.bool mo.flag] 51 (0,0))):=hid (by rw [← hw9];exact (af (af (af (af (af (af tL.out 2 (.int .i64 mo.kind)) 3 (.int .u64 (mo.id:Int))) 4 (.int .u64 (mo.list:Int))) 5 (.string (str mo.text))) 6 (.float .f64 mo.f)) 7 (.bool mo.flag)).trans rfl)
 have RB9:Hid (w9.heap[w.heap.size]?=some (.cells #[.int .u64 0,.int .u64 0,.int .i64 0,.int .u64 0,.int .u64 0,.string ⟨#[]⟩,.float .f64 0,.bool false] 51 (0,0))):=hid (by
  have ne:w.heap.size≠w2.heap.size:=by have:=GG.out;omega
  rw [← hw9]
  exact aF (aF (aF (aF (aF (aF RB8.out (p:=⟨w2.heap.size,2,none⟩) ne _) (p:=⟨w2.heap.size,3,none⟩) ne _) (p:=⟨w2.heap.size,4,none⟩) ne _) (p:=⟨w2.heap.size,5,none⟩) ne _) (p:=⟨w2.heap.size,6,none⟩) ne _) (p:=⟨w2.heap.size,7,none⟩) ne _)
 have B9:Hid (Below w.heap.size w w9):=hid (by
  have le:w.heap.size≤w2.heap.size:=by have:=GG.out;omega
  rw [← hw9]
  exact (((((B8.out.setCell (p:=⟨w2.heap.size,2,none⟩) le _).setCell (p:=⟨w2.heap.size,3,none⟩) le _).setCell (p:=⟨w2.heap.size,4,none⟩) le _).setCell (p:=⟨w2.heap.size,5,none⟩) le _).setCell (p:=⟨w2.heap.size,6,none⟩) le _).setCell (p:=⟨w2.heap.size,7,none⟩) le _)
 obtain⟨d0,d1,d2,d3,d4,d5,d6,d7⟩:=aA LB9.out
 have SO:=hid (lM (x:=⟨i0,i1,mo⟩) (w:=w9))
 obtain⟨so,hso⟩:∃ v,(!(i0==0) && !(i1==0))=v:=⟨_,rfl⟩
 have HSO:=hid hso
 unfold It.val at SO
 dsimp only at SO
 rw [hso] at SO
 have RI:Hid (T9.lh 60000 b=⟨i0,i1,mo⟩):=hid (by
  unfold T9.lh T9.jJ
  rw [← I0.out,← I1.out,← BD.out,MM.out.1])
 clear hso
 cases so
 ·have OF:Hid ((T9.gZ 60000 b).2≠0):=hid (by
   unfold T9.gZ
   rw [if_neg (fun q=>by
    have q3:=q.2.2
    rw [RI.out] at q3
    have:=HSO.out
    simp [q3.1,q3.2] at this)]
   decide)
  go_wp2_with (first | (go_at_call 47;refine CE.out.mono ?_;rintro e w' ⟨rfl,rfl⟩) | (go_at_call 65;refine SO.out.mono ?_;rintro e qx ⟨rfl,h10⟩) | (go_at_call 41;first | (refine (gm _).mono ?_;rintro e w' ⟨rfl,rfl⟩) | (refine (eU _).mono ?_;rintro e w' ⟨rfl,rfl⟩)))
  exact⟨rfl,fT.bad OF.out (B9.out.trans (h10.mono B9.out.size))⟩
 have OF:Hid (T9.gZ 60000 b=(⟨i0,i1,mo⟩,0)):=hid (by
  unfold T9.gZ
  rw [RI.out,if_pos]
  have:=HSO.out
  simp only [Bool.and_eq_true,Bool.not_eq_true',beq_eq_false_iff_ne] at this
  refine⟨?_,S3.out.symm.trans HS.out,this.1,this.2⟩
  unfold T9.jJ
  rw [← BD.out,MM.out.2])
 go_wp2_with (first | (go_at_call 47;refine CE.out.mono ?_;rintro e w' ⟨rfl,rfl⟩) | (go_at_call 41;refine (gm _).mono ?_;rintro e w' ⟨rfl,rfl⟩))
 refine SO.out.mono ?_
 rintro e qx ⟨rfl,h10⟩
 have rb:=ak RB9.out h10
 obtain⟨r0,r1,r2,r3,r4,r5,r6,r7⟩:=aA rb
 obtain⟨d0,d1,d2,d3,d4,d5,d6,d7⟩:=aA (ak LB9.out h10)
 have fr0:=aa rb 0
 have fr1:=aa rb 1
 have fr2:=aa rb 2
 have fr3:=aa rb 3
 have fr4:=aa rb 4
 have fr5:=aa rb 5
 have fr6:=aa rb 6
 have fr7:=aa rb 7
 have ng:Hid (((((((((qx.setCell ⟨w.heap.size,0,none⟩ (.int .u64 (i0:Int))).setCell ⟨w.heap.size,1,none⟩ (.int .u64 (i1:Int))).setCell ⟨w.heap.size,2,none⟩ (.int .i64 mo.kind)).setCell ⟨w.heap.size,3,none⟩ (.int .u64 (mo.id:Int))).setCell ⟨w.heap.size,4,none⟩ (.int .u64 (mo.list:Int))).setCell ⟨w.heap.size,5,none⟩ (.string (str mo.text))).setCell ⟨w.heap.size,6,none⟩ (.float .f64 mo.f)).setCell ⟨w.heap.size,7,none⟩ (.bool mo.flag)).heap[w.heap.size]?=some (.cells #[.int .u64 (i0:Int),.int .u64 (i1:Int),.int .i64 mo.kind,.int .u64 (mo.id:Int),.int .u64 (mo.list:Int),.string (str mo.text),.float .f64 mo.f,.bool mo.flag] 51 (0,0))):=hid ((af (af (af (af (af (af (af (af rb 0 (.int .u64 (i0:Int))) 1 (.int .u64 (i1:Int))) 2 (.int .i64 mo.kind)) 3 (.int .u64 (mo.id:Int))) 4 (.int .u64 (mo.list:Int))) 5 (.string (str mo.text))) 6 (.float .f64 mo.f)) 7 (.bool mo.flag)).trans rfl)
 obtain⟨k0,k1,k2,k3,k4,k5,k6,k7⟩:=aA ng.out
 have BFF:Hid (Below w.heap.size w ((((((((qx.setCell ⟨w.heap.size,0,none⟩ (.int .u64 (i0:Int))).setCell ⟨w.heap.size,1,none⟩ (.int .u64 (i1:Int))).setCell ⟨w.heap.size,2,none⟩ (.int .i64 mo.kind)).setCell ⟨w.heap.size,3,none⟩ (.int .u64 (mo.id:Int))).setCell ⟨w.heap.size,4,none⟩ (.int .u64 (mo.list:Int))).setCell ⟨w.heap.size,5,none⟩ (.string (str mo.text))).setCell ⟨w.heap.size,6,none⟩ (.float .f64 mo.f)).setCell ⟨w.heap.size,7,none⟩ (.bool mo.flag))):=hid (((((((((B9.out.trans (h10.mono B9.out.size)).setCell (Nat.le_refl _) _).setCell (Nat.le_refl _) _).setCell (Nat.le_refl _) _).setCell (Nat.le_refl _) _).setCell (Nat.le_refl _) _).setCell (Nat.le_refl _) _).setCell (Nat.le_refl _) _).setCell (Nat.le_refl _) _)
 clear rb h10
 go_wp2_with (go_at_call 41;refine (gm _).mono ?_;rintro e w' ⟨rfl,rfl⟩)
 refine bodyPost_ret (v:=.agg #[.int .u64 (i0:Int),.int .u64 (i1:Int),.int .i64 mo.kind,.int .u64 (mo.id:Int),.int .u64 (mo.list:Int),.string (str mo.text),.float .f64 mo.f,.bool mo.flag]) (by simp [results,Try.results44,go_sem,k0,k1,k2,k3,k4,k5,k6,k7]) rfl ?_
 exact fT.good OF.out BFF.out
def RdSt15 (b:List UInt8) (w:World) (e:Ending) (w':World):Prop:=Below w.heap.size w w'∧((T9.of b).2=0→∃ m:jk,e=.returned m.val∧uW m w'∧m.st=(T9.of b).1)∧((T9.of b).2≠0→e=kD)
theorem p9 {A:Option Addr} {n c:Nat} {b:List UInt8} {w:World} {D:Nat} {td:TypeId} (h:ah w D td A (ae b)) (hn:n=b.length) (hb:n≤1000000000) (hD:D≤w.heap.size) :
  Calls Try.prog 46 #[.slice A n c] w (RdSt15 b w):=by
 obtain⟨w0,hw0⟩:∃ u,w.alloc (.cells #[.slice none 0 0,.slice none 0 0] 28)=u:=⟨_,rfl⟩
 obtain⟨pX,b0,z0⟩:=bg hw0
 have vg:=hid pX
 have B0:=hid b0
 have OF:=hid (of9T_c (c:=c) ((h.more hD).old (t':=5) |>.below (Nat.le_refl _) b0) hn hb (by omega))
 clear h pX b0 hn hb z0
 go_enter Try.func46,Try.ntmps46
 go_wp2_with fail
 refine OF.out.mono ?_
 rintro e w1 ⟨q,rfl,hq,hqs,h1⟩
 obtain⟨er,her⟩:∃ v,(T9.of b).2=v:=⟨_,rfl⟩
 rw [her]
 have HER:=hid her
 obtain⟨w2,hw2⟩:∃ u,w1.alloc (.cells #[.slice q.A q.ls.length q.c,.slice q.A2 q.ms.length q.c2] 28)=u:=⟨_,rfl⟩
 obtain⟨lb,b2,z2⟩:=bg hw2
 have BE:=h1.trans (b2.mono h1.size)
 have rb:=ak vg.out BE
 have B2:Hid (Below w.heap.size w w2):=hid (B0.out.trans (BE.mono B0.out.size))
 have HQ:=hid (And.intro (hq.stay b2) hqs)
 obtain⟨l0,l1⟩:=aj lb
 unfold jk.val
 clear h1 her hq hqs b2 z2 BE lb
 by_cases he:er=0
 case neg =>
  have hz:(er==0)=false:=by simp [he]
  have hz2:(er != 0)=true:=by simp [he]
  have HE:=hid he
  clear he rb
  go_wp2_with (go_at_call 41;refine (eU _).mono ?_;rintro e w' ⟨rfl,rfl⟩)
  exact⟨rfl,B2.out,fun z=>absurd (HER.out.symm.trans z) HE.out,fun _=>rfl⟩
 subst he
 obtain⟨r0,r1⟩:=aj rb
 have f0:=aa rb 0
 have f1:=aa rb 1
 have yy:Ty w2 w.heap.size 28:=⟨_,_,rb⟩
 have ng:Hid (((w2.setCell ⟨w.heap.size,0,none⟩ (.slice q.A q.ls.length q.c)).setCell ⟨w.heap.size,1,none⟩ (.slice q.A2 q.ms.length q.c2)).heap[w.heap.size]?=some (.cells #[.slice q.A q.ls.length q.c,.slice q.A2 q.ms.length q.c2] 28 (0,0))):=hid ((af (af rb 0 _) 1 _).trans rfl)
 have TF:Hid (ay w.heap.size [28] w2 ((w2.setCell ⟨w.heap.size,0,none⟩ (.slice q.A q.ls.length q.c)).setCell ⟨w.heap.size,1,none⟩ (.slice q.A2 q.ms.length q.c2))):=hid (((ay.refl _ _ w2).aW (p:=⟨w.heap.size,0,none⟩) yy (by simp) (Nat.le_refl _) _).aW (p:=⟨w.heap.size,1,none⟩) (yy.set _ _) (by simp) (Nat.le_refl _) _)
 obtain⟨k0,k1⟩:=aj ng.out
 clear rb yy
 go_wp2_with (go_at_call 41;refine (gm _).mono ?_;rintro e w' ⟨rfl,rfl⟩)
 refine bodyPost_ret (v:=.agg #[.slice q.A q.ls.length q.c,.slice q.A2 q.ms.length q.c2]) (by simp [results,Try.results46,go_sem,k0,k1]) rfl ?_
 exact⟨B2.out.trans TF.out.below,fun _=>⟨q,rfl,HQ.out.1.dB TF.out (by decide) (by decide) (by decide),HQ.out.2⟩,fun z=>absurd HER.out z⟩
end
end
end Go.Proofs.Ytcedlgedmkghgaa
