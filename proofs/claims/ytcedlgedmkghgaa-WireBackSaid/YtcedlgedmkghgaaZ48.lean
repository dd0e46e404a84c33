import Derived.Test.YtcedlgedmkghgaaZ16
import Derived.Test.YtcedlgedmkghgaaZ44
import Derived.Test.YtcedlgedmkghgaaZ47
import Derived.Test.YtcedlgedmkghgaaZ42
import Derived.Test.YtcedlgedmkghgaaZ29
namespace Go.Proofs.Ytcedlgedmkghgaa
set_option maxHeartbeats 16000000
open Go.Lib
set_option linter.unusedSimpArgs false
set_option maxRecDepth 100000
section
section
open Go.RowKit Go.Lib
theorem twok15:(2000:Int).toNat=2000:=rfl
theorem oU:(8:Int).toNat=8:=rfl
theorem Fr.only_le {b d:List UInt8} (h:Fr.only b=some d):d.length≤60000:=by
 unfold Fr.only at h
 cases hu:Fr.jH b with
 | none=>rw [hu] at h;cases h
 | some x =>
  rw [hu] at h
  dsimp only at h
  split at h
  ·injection h with h
   subst h
   exact (Fr.jg hu).2.1
  ·cases h
def dD (b:List UInt8) (w:World) (e:Ending) (w':World):Prop:=Below w.heap.size w w'∧((T9.ik b).2=0→∃ m:dL,e=.returned m.val∧qA m w'∧m.mg=(T9.ik b).1)∧((T9.ik b).2≠0→e=kD)
theorem dD.bad {b:List UInt8} {w w':World} (h:(T9.ik b).2≠0) (hb:Below w.heap.size w w'):dD b w (.panicked [{ v:=.iface 34 (.int .i64 150),recovered:=false }]) w':=⟨hb,fun q=>absurd q h,fun _=>rfl⟩
theorem dD.good {b:List UInt8} {m:dL} {w w':World} (h:T9.ik b=(m.mg,0)) (hm:qA m w') (hb:Below w.heap.size w w'):dD b w (.returned m.val) w':=⟨hb,fun _=>⟨m,rfl,hm,by rw [h]⟩,fun q=>absurd (by rw [h]) q⟩
theorem aD.far {rt:TypeId} {B p gb rb i0 i1 i2 i3 i4 c c1:Nat} {xs:List It} {A A1:Option Addr} {las:List La} {s:Option (List UInt8)} {wz w:World} (h:aD rt B p gb rb i0 i1 i2 i3 i4 xs A c las A1 c1 s wz w) (hm:rt≠55) {g:Nat} (hT:Ty w g 55) (hB:B≤g) (hne:∀ k,(Value.slice A1 las.length c1).ownBlock=some k→k≠g) (i:Nat) (u:Value):aD rt B p gb rb i0 i1 i2 i3 i4 xs A c las A1 c1 s wz (w.setCell ⟨g,i,none⟩ u):=by
 obtain⟨cs,fr,hg⟩:=hT
 have T:=(ay.refl B [55] w).aW (p:=⟨g,i,none⟩) ⟨_,_,hg⟩ (by simp) hB u
 refine⟨h.r.dB T (by simpa using hm) (by decide),bi h.i T (by decide),pV h.a fun k hk=>Below.heap_setCell w _ _ k (hne k hk),T.blk h.b (by decide),T.blk h.z (by decide),h.d.trans (T.below.mono (by have:=h.o;omega)),h.o⟩
theorem uL {A:Option Addr} {n c:Nat} {b:List UInt8} {w:World} {D:Nat} {td:TypeId} (h:ah w D td A (ae b)) (hn:n=b.length) (hc:n≤c) (hb:n≤1000000000) (hD:D≤w.heap.size) :
  Calls Try.prog 20 #[.slice A n c] w (dD b w):=by
 obtain⟨w0,hw0⟩:∃ u,w.alloc (.cells #[.int .i64 0,.int .u64 0,.int .u64 0,.int .u64 0,.int .u64 0,.slice none 0 0,.slice none 0 0,.slice none 0 0,.slice none 0 0] 30)=u:=⟨_,rfl⟩
 obtain⟨pX,b0,z0⟩:=bF hw0
 have vg:=hid pX
 have B0:=hid b0
 have Z0:=hid z0
 have FO:=hid (fonly_c (c:=c) ((h.more hD).old (t':=5) |>.below (Nat.le_refl _) b0) hn hc hb)
 clear h pX b0 hn hb hc z0
 go_enter Try.func20,Try.ntmps20
 go_wp2_with fail
 refine FO.out.mono ?_
 rintro e w1 ⟨Af,nf,cf,rfl,hnf,hcf,hof,hbf⟩
 cases ho:Fr.only b with
 | none =>
  have er:Fr.dH b=40:=by unfold Fr.dH;rw [ho];rfl
  have HO:=hid (T9.wU ho)
  have BF:=hid (B0.out.trans (hbf.mono B0.out.size))
  rw [er]
  clear er hnf hcf hof hbf ho
  go_wp2_with (go_at_call 41;refine (eU _).mono ?_;rintro e w' ⟨rfl,rfl⟩)
  exact⟨rfl,dD.bad HO.out BF.out⟩
 | some body =>
 have er:Fr.dH b=0:=by unfold Fr.dH;rw [ho];rfl
 have eb:Fr.ja b=body:=by unfold Fr.ja;rw [ho];rfl
 rw [er]
 rw [eb] at hnf hof
 have HO:=hid ho
 have lb:=Fr.only_le ho
 have LBD:=hid lb
 have CR:=hid (nW (c:=cf) (aB (B:=0) (t:=5) hof) (Nat.zero_le _) hnf (by omega))
 have B1:Hid (Below w.heap.size w w1):=hid (B0.out.trans (hbf.mono B0.out.size))
 have yh:=hid (ak vg.out hbf)
 have Z1:Hid (w.heap.size+1≤w1.heap.size):=hid (by have:=hbf.size;have:=Z0.out;omega)
 have L0:Hid (∀ l,some body=some l→l.length≤1099511627776):=hid (by intro l e;injection e with e;subst e;omega)
 clear er eb hnf hcf hof hbf ho lb
 go_wp2_with (go_at_call 41;refine (gm _).mono ?_;rintro e w' ⟨rfl,rfl⟩)
 refine CR.out.mono ?_
 rintro e w2 ⟨p,rfl,hr,hb2⟩
 obtain⟨B,hB⟩:∃ v,v=w1.heap.size:=⟨_,rfl⟩
 rw [← hB] at hr
 have RB2:=hid (ak yh.out hb2)
 have B2:Hid (Below w.heap.size w w2):=hid (B1.out.trans (hb2.mono B1.out.size))
 have BZ:Hid (w.heap.size+1≤B∧B≤w2.heap.size):=hid ⟨by have:=Z1.out;omega,by have:=hb2.size;omega⟩
 obtain⟨S,hS⟩:∃ v,v=some body:=⟨_,rfl⟩
 rw [← hS] at hr L0
 have HS:=hid hS
 have N1:=hid (cK (mz:=8) hr (by decide) L0.out (by decide))
 rw [oU] at N1
 clear hr hb2 hB hS
 go_wp2_with fail
 refine N1.out.mono ?_
 rintro e w3 ⟨rfl,hr,ht⟩
 have i8:(Cd.aH 8 S).1≤8:=(Cd.b_ 8 S).2
 obtain⟨i0,hi0⟩:∃ v,v=(Cd.aH 8 S).1:=⟨_,rfl⟩
 rw [← hi0] at i8 ⊢
 have I0:=hid hi0
 have hwr:IntKind.i64.wrap (i0:Int)=(i0:Int):=by rw [IntKind.wrap_i64];omega
 have hr:RS 104 B 5 w3 p (T9.g1 S):=hr
 have RB3:=hid (ht.blk RB2.out (by decide))
 have B3:Hid (Below w.heap.size w w3):=hid (B2.out.trans (ht.below.mono (by have:=BZ.out;omega)))
 have GZ:Hid (w.heap.size+1≤B∧B≤w3.heap.size):=hid (by have:=ht.size;have:=BZ.out;omega)
 clear hi0 ht i8
 go_wp2_with fail
 obtain⟨w4,hw4⟩:∃ u,w3.alloc (.cells #[.int .i64 (i0:Int),.int .u64 0,.int .u64 0,.int .u64 0,.int .u64 0,.slice none 0 0,.slice none 0 0,.slice none 0 0,.slice none 0 0] 30)=u:=⟨_,rfl⟩
 rw [hw4]
 obtain⟨lb4,b4,z4⟩:=bF hw4
 have M4:Hid (aD 104 B p w3.heap.size w.heap.size i0 0 0 0 0 [] none 0 [] none 0 (T9.g1 S) w w4):=hid ⟨by rw [← hw4];exact hr.alloc _,World.ownsRow_nil _ _ _ _,World.ownsRow_nil _ _ _ _,lb4,ak RB3.out b4,B3.out.trans (b4.mono (by have:=GZ.out;omega)),rfl,GZ.out.1,GZ.out.2⟩
 have yj:Hid (St.jl S (T9.g1 S)):=hid (St.bI 8 S)
 clear hr lb4 b4 z4 hw4
 have C1:=hid (cK (mz:=18446744073709551615) M4.out.r (by decide) (yj.out.bound L0.out) (by decide))
 rw [aX] at C1
 refine C1.out.mono ?_
 rintro e w5 ⟨rfl,hr,ht⟩
 obtain⟨i1,hi⟩:∃ v,v=(Cd.aH Cd.full (T9.g1 S)).1:=⟨_,rfl⟩
 rw [← hi]
 have I1:=hid hi
 have M5:Hid (aD 104 B p w3.heap.size w.heap.size i0 0 0 0 0 [] none 0 [] none 0 (T9.g2 S) w w5):=hid (M4.out.dB ht hr (by decide) (by decide) (by decide))
 obtain⟨c0,c1,c2,c3,c4,c5,c6,c7,c8⟩:=M5.out.cells
 have f5:=M5.out.free 1
 obtain⟨w6,hw6⟩:∃ u,w5.setCell ⟨w3.heap.size,1,none⟩ (.int .u64 (i1:Int))=u:=⟨_,rfl⟩
 have M6:Hid (aD 104 B p w3.heap.size w.heap.size i0 i1 0 0 0 [] none 0 [] none 0 (T9.g2 S) w w6):=hid (by rw [← hw6];exact M5.out.line (by decide) i1)
 have SH2:Hid (St.jl S (T9.g2 S)):=hid (yj.out.trans (St.bI Cd.full (T9.g1 S)))
 clear hr ht hi
 have C2:=hid (cK (mz:=18446744073709551615) M6.out.r (by decide) (SH2.out.bound L0.out) (by decide))
 rw [aX] at C2
 go_wp2_with fail
 refine C2.out.mono ?_
 rintro e w7 ⟨rfl,hr,ht⟩
 obtain⟨i2,hi⟩:∃ v,v=(Cd.aH Cd.full (T9.g2 S)).1:=⟨_,rfl⟩
 rw [← hi]
 have I2:=hid hi
 have M7:Hid (aD 104 B p w3.heap.size w.heap.size i0 i1 0 0 0 [] none 0 [] none 0 (T9.g3 S) w w7):=hid (M6.out.dB ht hr (by decide) (by decide) (by decide))
 obtain⟨c0,c1,c2,c3,c4,c5,c6,c7,c8⟩:=M7.out.cells
 have f5:=M7.out.free 2
 obtain⟨w8,hw8⟩:∃ u,w7.setCell ⟨w3.heap.size,2,none⟩ (.int .u64 (i2:Int))=u:=⟨_,rfl⟩
 have M8:Hid (aD 104 B p w3.heap.size w.heap.size i0 i1 i2 0 0 [] none 0 [] none 0 (T9.g3 S) w w8):=hid (by rw [← hw8];exact M7.out.aQ (by decide) i2)
 have SH3:Hid (St.jl S (T9.g3 S)):=hid (SH2.out.trans (St.bI Cd.full (T9.g2 S)))
 clear hr ht hi
 have C3:=hid (cK (mz:=18446744073709551615) M8.out.r (by decide) (SH3.out.bound L0.out) (by decide))
 rw [aX] at C3
 go_wp2_with fail
 refine C3.out.mono ?_
 rintro e w9 ⟨rfl,hr,ht⟩
 obtain⟨i3,hi⟩:∃ v,v=(Cd.aH Cd.full (T9.g3 S)).1:=⟨_,rfl⟩
 rw [← hi]
 have I3:=hid hi
 have M9:Hid (aD 104 B p w3.heap.size w.heap.size i0 i1 i2 0 0 [] none 0 [] none 0 (T9.g4 S) w w9):=hid (M8.out.dB ht hr (by decide) (by decide) (by decide))
 obtain⟨c0,c1,c2,c3,c4,c5,c6,c7,c8⟩:=M9.out.cells
 have f5:=M9.out.free 3
 obtain⟨qx,uo⟩:∃ u,w9.setCell ⟨w3.heap.size,3,none⟩ (.int .u64 (i3:Int))=u:=⟨_,rfl⟩
 have M10:Hid (aD 104 B p w3.heap.size w.heap.size i0 i1 i2 i3 0 [] none 0 [] none 0 (T9.g4 S) w qx):=hid (by rw [← uo];exact M9.out.bZ (by decide) i3)
 have SH4:Hid (St.jl S (T9.g4 S)):=hid (SH3.out.trans (St.bI Cd.full (T9.g3 S)))
 clear hr ht hi
 have C4:=hid (cK (mz:=18446744073709551615) M10.out.r (by decide) (SH4.out.bound L0.out) (by decide))
 rw [aX] at C4
 go_wp2_with fail
 refine C4.out.mono ?_
 rintro e rR ⟨rfl,hr,ht⟩
 obtain⟨i4,hi⟩:∃ v,v=(Cd.aH Cd.full (T9.g4 S)).1:=⟨_,rfl⟩
 rw [← hi]
 have I4:=hid hi
 have M11:Hid (aD 104 B p w3.heap.size w.heap.size i0 i1 i2 i3 0 [] none 0 [] none 0 (T9.g5 S) w rR):=hid (M10.out.dB ht hr (by decide) (by decide) (by decide))
 obtain⟨c0,c1,c2,c3,c4,c5,c6,c7,c8⟩:=M11.out.cells
 have f5:=M11.out.free 4
 obtain⟨qC,uq⟩:∃ u,rR.setCell ⟨w3.heap.size,4,none⟩ (.int .u64 (i4:Int))=u:=⟨_,rfl⟩
 have M12:Hid (aD 104 B p w3.heap.size w.heap.size i0 i1 i2 i3 i4 [] none 0 [] none 0 (T9.g5 S) w qC):=hid (by rw [← uq];exact M11.out.cu (by decide) i4)
 have SH5:Hid (St.jl S (T9.g5 S)):=hid (SH4.out.trans (St.bI Cd.full (T9.g4 S)))
 clear hr ht hi
 have C5:=hid (cK (mz:=8) M12.out.r (by decide) (SH5.out.bound L0.out) (by decide))
 rw [oU] at C5
 go_wp2_with fail
 refine C5.out.mono ?_
 rintro e u6 ⟨rfl,hr,ht⟩
 have nx:T9.n1 S≤8:=(Cd.b_ 8 (T9.g5 S)).2
 obtain⟨nI,hnI⟩:∃ v,v=T9.n1 S:=⟨_,rfl⟩
 have hnI':nI=(Cd.aH 8 (T9.g5 S)).1:=hnI
 rw [← hnI] at nx
 rw [← hnI']
 have NI:=hid hnI
 have M13:Hid (aD 104 B p w3.heap.size w.heap.size i0 i1 i2 i3 i4 [] none 0 [] none 0 (T9.g6 S) w u6):=hid (M12.out.dB ht hr (by decide) (by decide) (by decide))
 obtain⟨ti0,thi,tz0,tz1,tz2⟩:=info_parts Try.infoIt15
 obtain⟨ai0,ahi,az0,az1,az2⟩:=info_parts Try.infoLa15
 clear hr ht hnI hnI' c0 c1 c2 c3 c4 c5 c6 c7 c8 f5
 go_wp2_with fail
 go_loopw [36] (fun s36 wr=>∃ (j:Nat) (A:Option Addr) (c:Nat),s36=.int .u64 j∧j≤nI∧Hid (T9.okX S j)∧Aside (aD 104 B p w3.heap.size w.heap.size i0 i1 i2 i3 i4 (T9.xsW S j) A c [] none 0 ((T9.many (Cd.bL 60000) j (T9.g6 S)).2) w wr)) (fun s36 _=>nI - (intOf s36).toNat)
 case atStart=>exact⟨0,none,0,rfl,Nat.zero_le _,hid (T9.wY S),M13.out⟩
 case round =>
  obtain⟨j,A,c,rfl,hj,HX,hI⟩:=hrel
  obtain⟨xs,hxs⟩:∃ v,v=T9.xsW S j:=⟨_,rfl⟩
  have hI:aD 104 B p w3.heap.size w.heap.size i0 i1 i2 i3 i4 xs A c [] none 0 ((T9.many (Cd.bL 60000) j (T9.g6 S)).2) w wr:=by rw [hxs];exact hI.out
  have xl:xs.length≤8:=by rw [hxs,T9.xsW_len];omega
  have HXS:=hid hxs
  have HI:=hid hI
  clear hI hxs
  by_cases hlt:j<nI
  ·have hltz:(j:Int)<(nI:Int):=by omega
   have LJ:Hid (∀ l,(T9.many (Cd.bL 60000) j (T9.g6 S)).2=some l→l.length≤1099511627776):=hid (((T9.rJ S).trans (T9.oo j _)).bound L0.out)
   have CB:=hid (lg (w:=wr.drew) (mz:=60000) (HI.out.r.dB (ay.refl B [] wr).drew (by simp) (by simp)) (by decide) LJ.out (by decide) (by decide))
   rw [oq] at CB
   have S0:wr.drew.cell? ⟨w3.heap.size,5,none⟩=some (.slice A xs.length c):=HI.out.cells.2.2.2.2.2.1
   go_wp2_with fail
   refine Any.begin (S:=fun u=>u.cell? ⟨w3.heap.size,5,none⟩=some (.slice A xs.length c)) (st:=8) rf ?_
   refine Any.take (st:=8) (i:=0) (v:=?_) rfl (by kernel_rfl) (by kernel_rfl) (by kernel_rfl) rfl (by kernel_rfl) (fun _ _ _ h=>h) (Or.inl ⟨by rfl,?_⟩) S0 ?_
   rotate_left
   ·intro u hu
    have hu:u.cell? ⟨w3.heap.size,5,none⟩=some (.slice A xs.length c):=hu
    go_simp
    try rfl
   try simp only [Act.put,pS]
   refine Any.take (st:=8) (i:=1) (v:=?_) rfl (by kernel_rfl) (by kernel_rfl) (by kernel_rfl) rfl (by kernel_rfl) (fun _ _ _ h=>h) (Or.inl ⟨by rfl,?_⟩) S0 ?_
   rotate_left
   ·intro u hu
    have hu:u.cell? ⟨w3.heap.size,5,none⟩=some (.slice A xs.length c):=hu
    go_simp
    try rfl
   try simp only [Act.put,pS]
   refine Any.take (st:=8) (i:=2) (v:=?_) rfl (by kernel_rfl) (by kernel_rfl) (by kernel_rfl) rfl (by kernel_rfl) (fun _ _ _ h=>h) (Or.inl ⟨by rfl,?_⟩) S0 ?_
   rotate_left
   ·intro u hu
    have hu:u.cell? ⟨w3.heap.size,5,none⟩=some (.slice A xs.length c):=hu
    go_simp
    try rfl
   try simp only [Act.put,pS]
   clear S0
   refine Any.one (i:=3) (by kernel_rfl) rfl (fun K hK=>?_)
   go_simp
   refine CB.out.mono ?_
   rintro e wa ⟨Ab,nb,cb,rfl,jv,hr,ht⟩
   obtain⟨o6,_⟩:=aC jv
   obtain⟨bd,hbd⟩:∃ v,v=(Cd.bL 60000 (T9.many (Cd.bL 60000) j (T9.g6 S)).2).1:=⟨_,rfl⟩
   have o7:wa.ownsRow wr.drew.heap.size 5 1 (.slice Ab nb cb) bd.length (ae bd):=by rw [hbd];exact jv
   have hnb:nb=bd.length:=by rw [hbd];exact o6
   have lbd:bd.length≤60000:=by rw [hbd];exact iF 60000 _
   have BD:=hid hbd
   have MAq:Hid (aD 104 B p w3.heap.size w.heap.size i0 i1 i2 i3 i4 xs A c [] none 0 ((T9.many (Cd.bL 60000) (j+1) (T9.g6 S)).2) w wa):=hid (HI.out.dB ((ay.refl B [104] wr).drew.trans ht) (by rw [T9.aY];exact hr) (by decide) (by decide) (by decide))
   have RI:=hid (ry (c:=cb) (aB (B:=0) (t:=5) o7) hnb (by omega) (Nat.zero_le _))
   have xa:=MAq.out.cells.2.2.2.2.2.1
   clear jv o6 o7 hnb lbd hbd hr ht
   refine hK _ _ (fun _=>xa) ?_
   clear hK K
   try simp only [Act.put,pS]
   refine Any.one (i:=4) (by kernel_rfl) rfl (fun K hK=>?_)
   go_simp
   refine RI.out.mono ?_
   rintro e wb ⟨hbl,hok,hbad⟩
   have MBq:Hid (aD 104 B p w3.heap.size w.heap.size i0 i1 i2 i3 i4 xs A c [] none 0 ((T9.many (Cd.bL 60000) (j+1) (T9.g6 S)).2) w wb):=hid (MAq.out.below hbl)
   by_cases hz:(T9.gZ 60000 bd).2=0
   case neg =>
    have q:=hbad hz
    unfold kD at q
    subst q
    exact⟨rfl,dD.bad (T9.kg HO.out (by rw [← HS.out];exact T9.l9 (j:=j) (by rw [← NI.out];exact hlt) (by rw [← BD.out];exact hz))) MBq.out.d⟩
   obtain rfl:=hok hz
   obtain⟨x,hx⟩:∃ v,(T9.gZ 60000 bd).1=v:=⟨_,rfl⟩
   have HX2:Hid (T9.okX S (j+1)):=hid (T9.wX HX.out (by rw [← BD.out];exact hz))
   have HXX:Hid (T9.xsW S (j+1)=xs++[x]):=hid (by rw [T9.x9,← HXS.out,← BD.out,hx])
   rw [hx]
   unfold It.val
   have hbs:=qJ x wb
   have xb:=MBq.out.cells.2.2.2.2.2.1
   clear hz hx hok hbad hbl
   refine hK _ _ (fun _=>xb) ?_
   clear hK K xa
   try simp only [Act.put,pS]
   refine Any.one (i:=5) (by kernel_rfl) rfl (fun K hK=>?_)
   go_simp
   have MCq:Hid (aD 104 B p w3.heap.size w.heap.size i0 i1 i2 i3 i4 xs A c [] none 0 ((T9.many (Cd.bL 60000) (j+1) (T9.g6 S)).2) w (wb.alloc (.cells (encI x).toArray 51))):=hid (MBq.out.below ((Below.refl _ _).alloc (Nat.le_refl _) _))
   refine hK _ _ (fun _=>MCq.out.cells.2.2.2.2.2.1) ?_
   clear hK K hbs
   try simp only [Act.put,pS]
   refine Any.one (i:=6) (by kernel_rfl) rfl (fun K hK=>?_)
   refine lN rfl _ _ 23 rfl B 51 ti0 _ 8 72 Try.underlying23 thi tz0 tz1 tz2 rfl (by decide) _ xs.length _ rfl MCq.out.i 0 (some ⟨wb.heap.size,0,none⟩) 1 1 (encI x) 51 rfl rfl (ah.dG (heap_alloc_new wb _)) (vO x) (by unfold maxLen;omega) (by omega) (by first | exact MCq.out.size | (simp;have:=MBq.out.size;omega)) ?_
   intro v6 w6 hown6 a_ nO
   obtain⟨A6,k6,rfl⟩:=bv hown6
   have g6:=(MCq.out.sj (by decide) a_).2.2.1
   have e65:=(ai g6).2.2.2.2.2.1
   have f65:=aa g6 5
   have MD:Hid (aD 104 B p w3.heap.size w.heap.size i0 i1 i2 i3 i4 (xs++[x]) A6 k6 [] none 0 ((T9.many (Cd.bL 60000) (j+1) (T9.g6 S)).2) w (w6.setCell ⟨w3.heap.size,5,none⟩ (.slice A6 (xs.length+1) k6))):=hid (MCq.out.item (by decide) (by decide) a_ hown6)
   refine hK _ _ (fun _=>e65) ?_
   clear hK K g6 hown6 a_ nO xb
   try simp only [Act.put,pS]
   refine Any.one (i:=7) (by kernel_rfl) rfl (fun K hK=>?_)
   go_simp
   refine hK _ _ (fun _=>e65) ?_
   clear hK K
   try simp only [Act.put,pS]
   refine Any.one (i:=8) (by kernel_rfl) rfl (fun K hK=>?_)
   go_simp
   refine hK _ _ (fun e=>absurd rfl e) ?_
   clear hK K
   try simp only [Act.put,pS]
   refine Any.done (by kernel_rfl) ?_
   obtain⟨wf,hwf⟩:∃ u,w6.setCell ⟨w3.heap.size,5,none⟩ (.slice A6 (xs.length+1) k6)=u:=⟨_,rfl⟩
   rw [hwf] at MD
   try rw [hwf]
   clear e65 f65 hwf
   go_wp2
   go_roundw
   case rel=>exact⟨j+1,A6,k6,by go_num,by omega,HX2,by rw [HXX.out];exact MD.out⟩
   case measure=>simp [intOf];omega
  ·obtain rfl:j=nI:=by omega
   have hltz:¬ ((j:Int)<(j:Int)):=by omega
   have G7:Hid ((T9.many (Cd.bL 60000) j (T9.g6 S)).2=T9.g7 S):=hid (by unfold T9.g7;rw [← NI.out])
   rw [G7.out] at HI
   have C7:=hid (cK (mz:=2000) HI.out.r (by decide) (((T9.rJ S).trans (T9.oo (T9.n1 S) _)).bound L0.out) (by decide))
   rw [twok15] at C7
   go_wp2_with fail
   refine C7.out.mono ?_
   rintro e w20 ⟨rfl,hr,ht⟩
   have ny:T9.n2 S≤2000:=(Cd.b_ 2000 (T9.g7 S)).2
   obtain⟨nA,hnA⟩:∃ v,v=T9.n2 S:=⟨_,rfl⟩
   have hnA':nA=(Cd.aH 2000 (T9.g7 S)).1:=hnA
   rw [← hnA] at ny
   rw [← hnA']
   have NA:=hid hnA
   have M20:Hid (aD 104 B p w3.heap.size w.heap.size i0 i1 i2 i3 i4 xs A c [] none 0 (T9.g8 S) w w20):=hid (HI.out.dB ht hr (by decide) (by decide) (by decide))
   clear hr ht hnA hnA'
   go_wp2_with fail
   go_loopw [49] (fun s49 wr=>∃ (k:Nat) (A1:Option Addr) (c1:Nat),s49=.int .u64 k∧k≤nA∧Aside (aD 104 B p w3.heap.size w.heap.size i0 i1 i2 i3 i4 xs A c (T9.lsW S k) A1 c1 ((T9.many T9.fH k (T9.g8 S)).2) w wr)) (fun s49 _=>nA - (intOf s49).toNat)
   case atStart=>exact⟨0,none,0,rfl,Nat.zero_le _,M20.out⟩
   case round =>
    obtain⟨wo,hwo⟩:∃ u,u=wr:=⟨_,rfl⟩
    subst hwo
    obtain⟨k,A1,c1,rfl,hk,hI2⟩:=hrel
    obtain⟨las,hla⟩:∃ v,v=T9.lsW S k:=⟨_,rfl⟩
    have hI2:aD 104 B p w3.heap.size w.heap.size i0 i1 i2 i3 i4 xs A c las A1 c1 ((T9.many T9.fH k (T9.g8 S)).2) w wo:=by rw [hla];exact hI2.out
    have ll:las.length≤2000:=by rw [hla,T9.lsW_len];omega
    have HLA:=hid hla
    have HJ:=hid hI2
    clear hI2 hla
    by_cases hlt2:k<nA
    ·have iW:(k:Int)<(nA:Int):=by omega
     have LK:Hid (∀ l,(T9.many T9.fH k (T9.g8 S)).2=some l→l.length≤1099511627776):=hid (((T9.xH S).trans (T9.rM k _)).bound L0.out)
     have CN:=hid (cK (mz:=18446744073709551615) HJ.out.r (by decide) LK.out (by decide))
     rw [aX] at CN
     go_wp2_with fail
     refine CN.out.mono ?_
     rintro e wa ⟨rfl,hr,ht⟩
     obtain⟨ia,hia⟩:∃ v,v=(Cd.aH Cd.full (T9.many T9.fH k (T9.g8 S)).2).1:=⟨_,rfl⟩
     rw [← hia]
     have IA:=hid hia
     have MAq:Hid (aD 104 B p w3.heap.size w.heap.size i0 i1 i2 i3 i4 xs A c las A1 c1 (T9.i1 (T9.many T9.fH k (T9.g8 S)).2) w wa):=hid (HJ.out.dB ht hr (by decide) (by decide) (by decide))
     clear hr ht hia
     go_wp2_with fail
     obtain⟨wb,hwb⟩:∃ u,wa.alloc (.cells #[.int .u64 (ia:Int),.int .u64 0] 55)=u:=⟨_,rfl⟩
     rw [hwb]
     obtain⟨lbb,bb,zb⟩:=bg hwb
     have MBq:Hid (aD 104 B p w3.heap.size w.heap.size i0 i1 i2 i3 i4 xs A c las A1 c1 (T9.i1 (T9.many T9.fH k (T9.g8 S)).2) w wb):=hid (MAq.out.below bb)
     have LBB:=hid lbb
     have CN2:=hid (cK (mz:=18446744073709551615) MBq.out.r (by decide) ((St.bI Cd.full _).bound LK.out) (by decide))
     rw [aX] at CN2
     clear lbb bb zb hwb
     refine CN2.out.mono ?_
     rintro e wc ⟨rfl,hr,ht⟩
     obtain⟨ib,hib⟩:∃ v,v=(Cd.aH Cd.full (T9.i1 (T9.many T9.fH k (T9.g8 S)).2)).1:=⟨_,rfl⟩
     rw [← hib]
     have MCq:Hid (aD 104 B p w3.heap.size w.heap.size i0 i1 i2 i3 i4 xs A c las A1 c1 ((T9.many T9.fH (k+1) (T9.g8 S)).2) w wc):=hid (MBq.out.dB ht (by rw [T9.aY];exact hr) (by decide) (by decide) (by decide))
     have ym:=ht.blk LBB.out (by decide)
     obtain⟨l0,l1⟩:=aj ym
     have fl1:=aa ym 1
     have LN:Hid (T9.lsW S (k+1)=las++[⟨ia,ib⟩]):=hid (by rw [T9.wD,← HLA.out,IA.out,hib];rfl)
     have yy:Ty wc wa.heap.size 55:=⟨_,_,ym⟩
     obtain⟨wd,hwd⟩:∃ u,wc.setCell ⟨wa.heap.size,1,none⟩ (.int .u64 (ib:Int))=u:=⟨_,rfl⟩
     have ld:wd.heap[wa.heap.size]?=some (.cells #[.int .u64 (ia:Int),.int .u64 (ib:Int)] 55 (0,0)):=by rw [← hwd];exact (af ym 1 (.int .u64 (ib:Int))).trans rfl
     have MDq:Hid (aD 104 B p w3.heap.size w.heap.size i0 i1 i2 i3 i4 xs A c las A1 c1 ((T9.many T9.fH (k+1) (T9.g8 S)).2) w wd):=hid (by
      rw [← hwd]
      exact MCq.out.far (by decide) yy (by have:=MAq.out.size;exact this) (fun k2 hk2=>by have:=(MAq.out.a.lt k2 hk2).2;omega) _ _)
     obtain⟨d0,d1⟩:=aj ld
     obtain⟨m0,m1,m2,m3,m4,m5,m6,m7,m8⟩:=MDq.out.cells
     have hbs:=qI ia ib wd
     have MEq:Hid (aD 104 B p w3.heap.size w.heap.size i0 i1 i2 i3 i4 xs A c las A1 c1 ((T9.many T9.fH (k+1) (T9.g8 S)).2) w (wd.alloc (.cells #[.int .u64 (ia:Int),.int .u64 (ib:Int)] 55))):=hid (MDq.out.below ((Below.refl _ _).alloc (Nat.le_refl _) _))
     have LE:Hid (ah (wd.alloc (.cells #[.int .u64 (ia:Int),.int .u64 (ib:Int)] 55)) 0 55 (some ⟨wd.heap.size,0,none⟩) (iT ⟨ia,ib⟩)):=hid (ah.dG (heap_alloc_new wd _))
     have zB:=MDq.out.size
     clear hr ht hib ym yy ld
     go_wp2_with (at_builtin;refine bP _ rfl _ _ 24 rfl B 55 ai0 _ 2 16 Try.underlying24 ahi az0 az1 az2 rfl (by decide) _ las.length (eQ las) rfl MEq.out.a 0 _ 1 1 (iT ⟨ia,ib⟩) 55 rfl rfl LE.out (vN _) (by unfold maxLen;omega) (by omega) (by first | exact MEq.out.size | (simp;omega)) ?_)
     intro v6 w6 hown6 a_ nO
     obtain⟨A6,k6,rfl⟩:=bv hown6
     have g6:=(MEq.out.si (by decide) a_).2.2.1
     obtain⟨n0,n1,n2,n3,n4,n5,n6,n7,n8⟩:=ai g6
     have f66:=aa g6 6
     have MF:Hid (aD 104 B p w3.heap.size w.heap.size i0 i1 i2 i3 i4 xs A c (las++[⟨ia,ib⟩]) A6 k6 ((T9.many T9.fH (k+1) (T9.g8 S)).2) w (w6.setCell ⟨w3.heap.size,6,none⟩ (.slice A6 (las.length+1) k6))):=hid (MEq.out.last (by decide) (by decide) a_ hown6)
     clear g6 hown6 a_ nO hbs d0 d1 m0 m1 m2 m3 m4 m5 m6 m7 m8 l0 l1 fl1 zB
     go_wp2
     go_roundw
     case rel=>exact⟨k+1,A6,k6,by go_num,by omega,by rw [LN.out];exact MF.out⟩
     case measure=>simp [intOf];omega
    ·obtain rfl:k=nA:=by omega
     have iW:¬ ((k:Int)<(k:Int)):=by omega
     have G9:Hid ((T9.many T9.fH k (T9.g8 S)).2=T9.g9 S):=hid (by unfold T9.g9;rw [← NA.out])
     rw [G9.out] at HJ
     have C9:=hid (lg (mz:=60000) HJ.out.r (by decide) ((T9.shr_g9 S).bound L0.out) (by decide) (by decide))
     rw [oq] at C9
     go_wp2_with fail
     refine C9.out.mono ?_
     rintro e w30 ⟨Ab,nb,cb,rfl,jv,hr,ht⟩
     obtain⟨o6,_⟩:=aC jv
     obtain⟨sb,hsb⟩:∃ v,v=(Cd.bL 60000 (T9.g9 S)).1:=⟨_,rfl⟩
     have o7:w30.ownsRow wo.heap.size 5 1 (.slice Ab nb cb) sb.length (ae sb):=by rw [hsb];exact jv
     have hnb:nb=sb.length:=by rw [hsb];exact o6
     have lsb:sb.length≤60000:=by rw [hsb];exact iF 60000 _
     have SB:Hid ((T9.dI S).sb=sb):=hid hsb.symm
     obtain⟨s10,hs10⟩:∃ v,v=T9.g10 S:=⟨_,rfl⟩
     have S10:=hid hs10
     have M30:Hid (aD 104 B p w3.heap.size w.heap.size i0 i1 i2 i3 i4 xs A c las A1 c1 (s10) w w30):=hid (HJ.out.dB ht (by rw [hs10];exact hr) (by decide) (by decide) (by decide))
     have RS9:=hid (p9 (c:=cb) (aB (B:=0) (t:=5) o7) hnb (by omega) (Nat.zero_le _))
     clear jv o6 o7 hnb lsb hsb hr ht hs10
     go_wp2_with fail
     refine RS9.out.mono ?_
     rintro e w31 ⟨hbl,hok,hbad⟩
     have M31:Hid (aD 104 B p w3.heap.size w.heap.size i0 i1 i2 i3 i4 xs A c las A1 c1 (s10) w w31):=hid (M30.out.below hbl)
     by_cases hz:(T9.of sb).2=0
     case neg =>
      have q:=hbad hz
      unfold kD at q
      subst q
      exact⟨rfl,dD.bad (T9.kg HO.out (by rw [← HS.out];exact fun g=>hz (by have:=g.2.1;rw [SB.out] at this;exact this))) M31.out.d⟩
     obtain⟨q,rfl,hq,hqs⟩:=hok hz
     obtain⟨W1,W2,W3,W4,W5⟩:=M31.out.state hq
     have CE0:=W5 (by decide)
     obtain⟨c0,c1',c2,c3,c4,c5,c6,c7,c8⟩:=M31.out.cells
     have f7:=M31.out.free 7
     have f8:=M31.out.free 8
     obtain⟨w32,hw32⟩:∃ u,(w31.setCell ⟨w3.heap.size,7,none⟩ (.slice q.A q.ls.length q.c)).setCell ⟨w3.heap.size,8,none⟩ (.slice q.A2 q.ms.length q.c2)=u:=⟨_,rfl⟩
     rw [hw32] at W1 W2 W3 W4 CE0
     have CE:=hid (nL CE0)
     have HW1:=hid W1
     have HW2:=hid W2
     have HW3:=hid W3
     have HW4:=hid W4
     have OX:Hid (T9.okX S (T9.n1 S)):=hid (by rw [← NI.out];exact HX.out)
     have KS:Hid ((T9.of (T9.dI S).sb).2=0):=hid (by rw [SB.out];exact hz)
     have MG:Hid ((⟨(i0:Int),i1,i2,i3,i4,xs,A,c,las,A1,c1,q⟩:dL).mg=T9.kW (T9.dI S)):=hid (by
      show Mg.mk (i0:Int) i1 i2 i3 i4 xs las q.st=_
      unfold T9.kW
      rw [SB.out,hqs]
      have e1:xs=(T9.dI S).bs.map fun b=>(T9.gZ 60000 b).1:=by rw [HXS.out,NI.out];rfl
      have e2:las=(T9.dI S).las:=by rw [HLA.out,NA.out];rfl
      rw [e1,e2,I0.out,I1.out,I2.out,I3.out,I4.out]
      rfl)
     have CK:=hid (mG (w:=w32) W1.wm (by rw [MG.out];exact T9.mgOf_ok OX.out KS.out) (by show ∀ x∈xs,_;rw [HXS.out];exact T9.x_ HX.out) (by show q.st.short;rw [hqs];exact qh (T9.wV hz).2.2) (by show xs.length≤maxLen;unfold maxLen;omega) (by show las.length≤maxLen;unfold maxLen;omega))
     rw [MG.out] at CK
     unfold dL.val at CK
     dsimp only at CK
     obtain⟨ck,hck⟩:∃ v,T9.bU (T9.kW (T9.dI S))=v:=⟨_,rfl⟩
     rw [hck] at CK
     have HCK:=hid hck
     unfold jk.val
     clear W1 W2 W3 W4 W5 CE0 hq hqs hok hbad hbl hz hck
     by_cases he:s10=some []
     case neg =>
      have ev:fI s10=20:=by
       unfold fI
       split
       ·exact absurd rfl he
       ·rfl
      have HE:=hid he
      clear he
      go_wp2_with (first | (go_at_call 47;refine CE.out.mono ?_;rintro e w' ⟨rfl,rfl⟩) | (go_at_call 41;refine (eU _).mono ?_;rintro e w' ⟨rfl,rfl⟩))
      exact⟨rfl,dD.bad (T9.kg HO.out (by rw [← HS.out];exact fun g=>HE.out (S10.out.trans g.2.2.1))) HW4.out⟩
     have ev:fI s10=0:=by rw [he];rfl
     have HE:=hid he
     obtain⟨d0,d1,d2,d3,d4,d5,d6,d7,d8⟩:=ai HW2.out
     clear he
     by_cases hc0:ck=0
     case neg =>
      have hz:(ck==0)=false:=by simp [hc0]
      have hz2:(ck != 0)=true:=by simp [hc0]
      have HC:=hid hc0
      clear hc0
      go_wp2_with (first | (go_at_call 47;refine CE.out.mono ?_;rintro e w' ⟨rfl,rfl⟩) | (go_at_call 11;refine CK.out.mono ?_;rintro e w33 ⟨rfl,h33⟩;have B33:=hid (HW4.out.trans (h33.mono HW4.out.size));clear h33) | (go_at_call 41;refine (eU _).mono ?_;rintro e w' ⟨rfl,rfl⟩))
      exact⟨rfl,dD.bad (T9.kg HO.out (by rw [← HS.out];exact fun g=>HC.out (HCK.out.symm.trans g.2.2.2))) B33.out⟩
     subst hc0
     have GD:Hid (T9.ik b=(T9.kW (T9.dI S),0)):=hid (by
      rw [HS.out]
      exact T9.ofW_is HO.out (by rw [← HS.out];exact T9.good_of OX.out KS.out (S10.out.symm.trans HE.out) HCK.out))
     go_wp2_with (first | (go_at_call 47;refine CE.out.mono ?_;rintro e w' ⟨rfl,rfl⟩) | (go_at_call 41;refine (gm _).mono ?_;rintro e w' ⟨rfl,rfl⟩))
     refine CK.out.mono ?_
     rintro e w33 ⟨rfl,h33⟩
     have W33:=HW2.out.stay h33
     have rb:=ak HW3.out h33
     have HWT:=hid (HW1.out.stay h33)
     obtain⟨d0,d1,d2,d3,d4,d5,d6,d7,d8⟩:=ai W33
     obtain⟨r0,r1,r2,r3,r4,r5,r6,r7,r8⟩:=ai rb
     have yr:Ty w33 w.heap.size 30:=⟨_,_,rb⟩
     have fr0:=aa rb 0
     have fr1:=aa rb 1
     have fr2:=aa rb 2
     have fr3:=aa rb 3
     have fr4:=aa rb 4
     have fr5:=aa rb 5
     have fr6:=aa rb 6
     have fr7:=aa rb 7
     have fr8:=aa rb 8
     have ng:=hid (kZ rb (.int .i64 (i0:Int)) (.int .u64 (i1:Int)) (.int .u64 (i2:Int)) (.int .u64 (i3:Int)) (.int .u64 (i4:Int)) (.slice A xs.length c) (.slice A1 las.length c1) (.slice q.A q.ls.length q.c) (.slice q.A2 q.ms.length q.c2))
     have TF:Hid (ay w.heap.size [30] w33 _):=hid (lT yr (Nat.le_refl _) (.int .i64 (i0:Int)) (.int .u64 (i1:Int)) (.int .u64 (i2:Int)) (.int .u64 (i3:Int)) (.int .u64 (i4:Int)) (.slice A xs.length c) (.slice A1 las.length c1) (.slice q.A q.ls.length q.c) (.slice q.A2 q.ms.length q.c2))
     obtain⟨k0,k1,k2,k3,k4,k5,k6,k7,k8⟩:=ai ng.out
     have BFF:=hid ((HW4.out.trans (h33.mono HW4.out.size)).trans TF.out.below)
     clear rb yr h33 W33
     go_wp2_with (go_at_call 41;refine (gm _).mono ?_;rintro e w' ⟨rfl,rfl⟩)
     refine bodyPost_ret (v:=.agg #[.int .i64 (i0:Int),.int .u64 (i1:Int),.int .u64 (i2:Int),.int .u64 (i3:Int),.int .u64 (i4:Int),.slice A xs.length c,.slice A1 las.length c1,.slice q.A q.ls.length q.c,.slice q.A2 q.ms.length q.c2]) (by simp [results,Try.results20,go_sem,k0,k1,k2,k3,k4,k5,k6,k7,k8]) rfl ?_
     exact dD.good (m:=⟨(i0:Int),i1,i2,i3,i4,xs,A,c,las,A1,c1,q⟩) (by rw [MG.out];exact GD.out) (HWT.out.dB TF.out (by decide) (by decide) (by decide) (by decide) (by decide)) BFF.out
end
end
end Go.Proofs.Ytcedlgedmkghgaa
