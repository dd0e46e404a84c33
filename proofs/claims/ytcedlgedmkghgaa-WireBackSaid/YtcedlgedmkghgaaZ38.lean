import Derived.Test.YtcedlgedmkghgaaZ30
import Derived.Test.YtcedlgedmkghgaaZ31
import Derived.Test.YtcedlgedmkghgaaZ37
namespace Go.Proofs.Ytcedlgedmkghgaa
set_option maxHeartbeats 16000000
open Go.Lib
set_option linter.unusedSimpArgs false
set_option maxRecDepth 100000
section
section
open Go.RowKit Go.Lib
theorem wN3_c {B p g:Nat} {l:List UInt8} {w:World} (a b d:Nat) (hg:g=w.heap.size) (h:WS B w p l) (ha:a<18446744073709551616) (hb:b<18446744073709551616) (hd:d<18446744073709551616) (hs:l.length+27≤1000000000000) :
  Calls Try.prog 12 #[.pointer (some ⟨p,0,none⟩),.slice (some ⟨g,0,none⟩) 3 3] (w.alloc (.cells #[.int .u64 (a:Int),.int .u64 (b:Int),.int .u64 (d:Int)] 22)) fun e w'=>e=.returned (.tuple #[])∧WS B w' p (l++(Cd.num a++(Cd.num b++Cd.num d)))∧ay B [45,5] w w':=by
 subst hg
 have hL:ah (w.alloc (.cells #[.int .u64 (a:Int),.int .u64 (b:Int),.int .u64 (d:Int)] 22)) B 22 (some ⟨w.heap.size,0,none⟩) ([(a:Int),(b:Int),(d:Int)].map (Value.int .u64)):=ah.dG (heap_alloc_new w _)
 refine (wN_c (h.alloc _) hL rfl (by intro n hn;simp at hn;rcases hn with rfl | rfl | rfl <;> omega) (by simpa using hs)).mono fun e w' q=>⟨q.1,by simpa [nums] using q.2.1,?_⟩
 exact ((ay.refl B _ w).alloc h.size _).trans q.2.2
theorem wN5_c {B p g:Nat} {l:List UInt8} {w:World} (a b d e f:Nat) (hg:g=w.heap.size) (h:WS B w p l) (ha:a<18446744073709551616) (hb:b<18446744073709551616) (hd:d<18446744073709551616) (he:e<18446744073709551616) (hf:f<18446744073709551616) (hs:l.length+45≤1000000000000) :
  Calls Try.prog 12 #[.pointer (some ⟨p,0,none⟩),.slice (some ⟨g,0,none⟩) 5 5] (w.alloc (.cells #[.int .u64 (a:Int),.int .u64 (b:Int),.int .u64 (d:Int),.int .u64 (e:Int),.int .u64 (f:Int)] 22)) fun e' w'=>e'=.returned (.tuple #[])∧WS B w' p (l++(Cd.num a++(Cd.num b++(Cd.num d++(Cd.num e++Cd.num f)))))∧ay B [45,5] w w':=by
 subst hg
 have hL:ah (w.alloc (.cells #[.int .u64 (a:Int),.int .u64 (b:Int),.int .u64 (d:Int),.int .u64 (e:Int),.int .u64 (f:Int)] 22)) B 22 (some ⟨w.heap.size,0,none⟩) ([(a:Int),(b:Int),(d:Int),(e:Int),(f:Int)].map (Value.int .u64)):=ah.dG (heap_alloc_new w _)
 refine (wN_c (h.alloc _) hL rfl (by intro n hn;simp at hn;rcases hn with rfl | rfl | rfl | rfl | rfl <;> omega) (by simpa using hs)).mono fun e w' q=>⟨q.1,by simpa [nums] using q.2.1,?_⟩
 exact ((ay.refl B _ w).alloc h.size _).trans q.2.2
theorem RS.jD {B p:Nat} {tr tb t:TypeId} {w:World} {s:Option (List UInt8)} (h:RS tr B tb w p s) {g:Nat} (ht:Ty w g t) (hB:B≤g) (h1:tr≠t) (h2:tb≠t) (i:Nat) (u:Value):RS tr B tb (w.setCell ⟨g,i,none⟩ u) p s :=
 h.dB ((ay.refl B [t] w).aW (p:=⟨g,i,none⟩) ht (by simp) hB u) (by simpa using h1) (by simpa using h2)
theorem wE {m:T9.Mu} {w:World} (ho:m.ok) (hk:0≤m.kind∧m.kind≤13) (ht:m.text.length≤100) :
  Calls Try.prog 34 #[m.val] w (fo (T9.dh m) w):=by
 obtain⟨k,id,li,tx,f,fg⟩:=m
 obtain⟨h1,h2,h3⟩:=ho
 dsimp only at h1 h2 h3 hk ht
 obtain⟨kn,rfl⟩:∃ kn:Nat,k=(kn:Int):=⟨k.toNat,by omega⟩
 have hwrap:IntKind.u64.wrap (kn:Int)=(kn:Int):=by rw [Fl.wrap_u64];omega
 have kl:kn<18446744073709551616:=by omega
 have EN:Hid (T9.dh ⟨(kn:Int),id,li,tx,f,fg⟩=Cd.num kn++(Cd.num id++(Cd.num li++(St.wb tx++(Cd.fix (Fl.key f).toNat 8++St.fl fg))))):=hid (by unfold T9.dh;rw [Int.toNat_natCast])
 unfold T9.Mu.val
 dsimp only
 rw [EN.out]
 obtain⟨w0,hw0⟩:∃ u,w.alloc (.cells #[.int .i64 (kn:Int),.int .u64 (id:Int),.int .u64 (li:Int),.string (str tx),.float .f64 f,.bool fg] 49)=u:=⟨_,rfl⟩
 obtain⟨pb0,b0,z0⟩:=bu hw0
 obtain⟨w1,hw1⟩:∃ u,w0.alloc (.cells #[.slice none 0 0] 45)=u:=⟨_,rfl⟩
 have pw:WS w.heap.size w1 (w.heap.size+1) []:=by
  refine⟨Nat.le_succ _,none,0,?_,World.ownsRow_nil _ _ _ _⟩
  rw [← hw1,← z0]
  exact heap_alloc_new w0 _
 have b1:Below w.heap.size w w1:=by rw [← hw1];exact b0.alloc (by omega) _
 have uH:=aT pb0 (.cells #[.slice none 0 0] 45)
 rw [hw1] at uH
 have z1:w1.heap.size=w.heap.size+2:=by rw [← hw1,World.size_alloc,z0]
 have B1:=hid b1
 have Z1:=hid z1
 have PB:=hid uH
 have W0:=hid pw
 have Tw1:=hid (ay.refl w.heap.size [45,5] w1)
 obtain⟨p0,p1,p2,p3,p4,p5⟩:=au uH
 clear hk pb0 b0 pw b1 uH z1
 go_enter Try.func34,Try.ntmps34
 go_wp2_with fail
 refine (wN3_c kn id li rfl W0.out kl h1 h2 (by simp)).mono ?_
 rintro e w2 ⟨rfl,hw,ht2⟩
 clear p0 p1 p2 p3 p4 p5
 obtain⟨a1,nU⟩:∃ a,a=([]:List UInt8)++(Cd.num kn++(Cd.num id++Cd.num li)):=⟨_,rfl⟩
 have hw:WS w.heap.size w2 (w.heap.size+1) (([]:List UInt8)++(Cd.num kn++(Cd.num id++Cd.num li))):=hw
 rw [← nU] at hw
 have Wa1:=hid hw
 have Qa1:=hid nU
 have na1:a1.length≤27:=by
  rw [nU]
  simp only [List.length_append,Cd.aI]
  have:=av kn;have:=av id;have:=av li;simp only [List.length_nil]
  omega
 have tO:=hid (Tw1.out.trans ht2)
 clear hw nU ht2
 have pb:=tO.out.blk PB.out (by decide)
 obtain⟨p0,p1,p2,p3,p4,p5⟩:=au pb
 clear pb
 obtain⟨ck,hcv,hck⟩:=iR tx w2
 have W3:=hid (iN Wa1.out (.cells (bytesRow (str tx) ck) 5 ((bytesRow (str tx) ck).size,(bytesRow (str tx) ck).size+1)) (g:=w2.heap.size) rfl)
 have L3:=hid (fB tx ck w2 (fr:=((bytesRow (str tx) ck).size,(bytesRow (str tx) ck).size+1)) (g:=w2.heap.size) rfl)
 have PN:w2.heap.size≠w.heap.size+1:=by have:=tO.out.below.size;have:=Z1.out;omega
 have TA:=hid ((tO.out.alloc (by have:=tO.out.below.size;have:=Z1.out;omega) (.cells (bytesRow (str tx) ck) 5 ((bytesRow (str tx) ck).size,(bytesRow (str tx) ck).size+1))).drew)
 go_wp2_with fail
 refine (tH W3.out (by simp) PN L3.out rfl (by omega) (by omega)).mono ?_
 rintro e w3 ⟨rfl,hw,ht2⟩
 clear p0 p1 p2 p3 p4 p5
 obtain⟨a2,qa2⟩:∃ a,a=a1++St.wb tx:=⟨_,rfl⟩
 have hw:WS w.heap.size w3 (w.heap.size+1) (a1++St.wb tx):=hw
 rw [← qa2] at hw
 have Wa2:=hid hw
 have Qa2:=hid qa2
 have na2:a2.length≤200:=by
  rw [qa2]
  simp only [List.length_append,Cd.aI]
  have:=T9.d9 (b:=tx) ht
  omega
 have uX:=hid (TA.out.trans ht2)
 clear hw qa2 ht2
 have pb:=uX.out.blk PB.out (by decide)
 obtain⟨p0,p1,p2,p3,p4,p5⟩:=au pb
 clear pb
 clear hcv hck W3 L3 PN TA
 go_wp2_with fail
 refine (wF_c Wa2.out h3 (by omega)).mono ?_
 rintro e w4 ⟨rfl,hw,ht2⟩
 clear p0 p1 p2 p3 p4 p5
 obtain⟨a3,qa3⟩:∃ a,a=a2++Cd.fix (Fl.key f).toNat 8:=⟨_,rfl⟩
 have hw:WS w.heap.size w4 (w.heap.size+1) (a2++Cd.fix (Fl.key f).toNat 8):=hw
 rw [← qa3] at hw
 have Wa3:=hid hw
 have Qa3:=hid qa3
 have na3:a3.length≤208:=by
  rw [qa3]
  simp only [List.length_append,Cd.aI]
  skip
  omega
 have vz:=hid (uX.out.trans ht2)
 clear hw qa3 ht2
 have pb:=vz.out.blk PB.out (by decide)
 obtain⟨p0,p1,p2,p3,p4,p5⟩:=au pb
 clear pb
 go_wp2_with fail
 refine (wG_c Wa3.out (by omega)).mono ?_
 rintro e w5 ⟨rfl,hw,ht2⟩
 clear p0 p1 p2 p3 p4 p5
 obtain⟨a4,qa4⟩:∃ a,a=a3++St.fl fg:=⟨_,rfl⟩
 have hw:WS w.heap.size w5 (w.heap.size+1) (a3++St.fl fg):=hw
 rw [← qa4] at hw
 have Wa4:=hid hw
 have Qa4:=hid qa4
 have na4:a4.length≤209:=by
  rw [qa4]
  simp only [List.length_append,Cd.aI]
  have:(St.fl fg).length=1:=rfl
  omega
 have yl:=hid (vz.out.trans ht2)
 clear hw qa4 ht2
 have pb:=yl.out.blk PB.out (by decide)
 obtain⟨p0,p1,p2,p3,p4,p5⟩:=au pb
 clear pb
 have BY:=hid (gX Wa4.out (by omega))
 have EB:a4=Cd.num kn++(Cd.num id++(Cd.num li++(St.wb tx++(Cd.fix (Fl.key f).toNat 8++St.fl fg)))):=by
  rw [Qa4.out,Qa3.out,Qa2.out,Qa1.out]
  simp
 rw [EB] at BY
 clear EB
 go_wp2_with fail
 refine BY.out.mono ?_
 rintro e w6 ⟨A9,n9,c9,rfl,ho,hb⟩
 have HO9:=hid ho
 have HB9:=hid hb
 clear ho hb
 go_wp2
 go_ret
 have BF:=B1.out.trans yl.out.below
 exact⟨A9,n9,c9,rfl,fM HO9.out BF.size,BF.trans (HB9.out.mono BF.size)⟩
@[go_sem] theorem buildM15 (n : Int) (w : World) : (Instr.build 49 #[(0, .int .i64 n)]).run Try.prog w = .ok (.agg #[.int .i64 n, .int .u64 0, .int .u64 0, .string ⟨#[]⟩, .float .f64 0, .bool false]) w := run_build w 49 _ _ (by kernel_rfl)
@[go_sem] theorem buildM15z (w : World) : (Instr.build 49 #[]).run Try.prog w = .ok (.agg #[.int .i64 0, .int .u64 0, .int .u64 0, .string ⟨#[]⟩, .float .f64 0, .bool false]) w := run_build w 49 _ _ (by kernel_rfl)
def jI (b:List UInt8) (w:World) (e:Ending) (w':World):Prop:=e=.returned (.tuple #[(T9.lV b).1.val,.int .i64 (T9.lV b).2])∧Below w.heap.size w w'
theorem jI.good {b:List UInt8} {k:Int} {id li f:Nat} {tx:List UInt8} {fg:Bool} {w w':World} (h:T9.lV b=(⟨k,id,li,tx,f,fg⟩,0)) (hb:Below w.heap.size w w'):jI b w (.returned (.tuple #[.agg #[.int .i64 k,.int .u64 (id:Int),.int .u64 (li:Int),.string (str tx),.float .f64 f,.bool fg],.int .i64 0])) w':=⟨by rw [h];rfl,hb⟩
theorem jI.bad {b:List UInt8} {w w':World} (h:T9.lV b=(T9.Mu.no,110)) (hb:Below w.heap.size w w'):jI b w (.returned (.tuple #[.agg #[.int .i64 0,.int .u64 0,.int .u64 0,.string ⟨#[]⟩,.float .f64 0,.bool false],.int .i64 110])) w':=⟨by rw [h];rfl,hb⟩
theorem mutOf_c {A:Option Addr} {n c:Nat} {b:List UInt8} {w:World} {D:Nat} {td:TypeId} (h:ah w D td A (ae b)) (hn:n=b.length) (hb:n≤1000000000) (hD:D≤w.heap.size) :
  Calls Try.prog 64 #[.slice A n c] w (jI b w):=by
 obtain⟨w0,hw0⟩:∃ u,w.alloc (.cells #[.int .i64 0,.int .u64 0,.int .u64 0,.string ⟨#[]⟩,.float .f64 0,.bool false] 49)=u:=⟨_,rfl⟩
 obtain⟨pX,b0,z0⟩:=bu hw0
 have vg:=hid pX
 have B0:=hid b0
 have CR:=hid (nW (c:=c) ((h.more hD).old (t':=5) |>.below (Nat.le_refl _) b0) (by omega) hn (by omega))
 have HBL:Hid (b.length≤1000000000):=hid (by omega)
 clear h pX b0 hn hb
 go_enter Try.func64,Try.ntmps64
 go_wp2_with fail
 refine CR.out.mono ?_
 rintro e w1 ⟨p,rfl,hr,hb1⟩
 have yh:=hid (ak vg.out hb1)
 have B1:=hid (B0.out.trans (hb1.mono (by omega)))
 obtain⟨B,hB⟩:∃ v,v=w0.heap.size:=⟨_,rfl⟩
 rw [← hB] at hr
 have BZ:Hid (w.heap.size+1=B∧B≤w1.heap.size):=hid ⟨by omega,by have:=hb1.size;omega⟩
 have L0:Hid (∀ l,some b=some l→l.length≤1099511627776):=hid (by intro l e;injection e with e;subst e;have:=HBL.out;omega)
 have N1:=hid (cK (mz:=13) hr (by decide) L0.out (by decide))
 clear hr hb1 hB hw0 z0
 go_wp2_with fail
 refine N1.out.mono ?_
 rintro e w2 ⟨rfl,hr,ht⟩
 have i13:(Cd.aH (13:Int).toNat (some b)).1≤13:=(Cd.b_ 13 (some b)).2
 obtain⟨i0,hi0⟩:∃ v,v=(Cd.aH (13:Int).toNat (some b)).1:=⟨_,rfl⟩
 rw [← hi0] at i13 ⊢
 have I0:=hid hi0
 have hwr:IntKind.i64.wrap (i0:Int)=(i0:Int):=by rw [IntKind.wrap_i64];omega
 have yj:=hid (St.bI 13 (some b))
 have hr:RS 104 B 5 w2 p (T9.m1 (some b)):=hr
 have RB2':=hid (ht.blk yh.out (by decide))
 have Tw1':Hid (ay B [104] w1 w2):=hid ht
 have GZ:Hid (w.heap.size+1≤w2.heap.size∧B≤w2.heap.size):=hid (by have:=ht.size;have:=BZ.out;omega)
 clear hi0 ht i13
 go_wp2_with fail
 obtain⟨w3,hw3⟩:∃ u,w2.alloc (.cells #[.int .i64 (i0:Int),.int .u64 0,.int .u64 0,.string ⟨#[]⟩,.float .f64 0,.bool false] 49)=u:=⟨_,rfl⟩
 rw [hw3]
 obtain⟨wu,b3,z3⟩:=bu hw3
 have R3:Hid (RS 104 B 5 w3 p (T9.m1 (some b))):=hid (by rw [← hw3];exact hr.alloc _)
 have RB3:=hid (ak RB2'.out b3)
 have LB3:=hid wu
 have B3:Hid (Below w.heap.size w w3):=hid ((B1.out.trans (Tw1'.out.below.mono (by have:=BZ.out;omega))).trans (b3.mono (by have:=GZ.out;omega)))
 have GG:Hid (w.heap.size<w2.heap.size∧B≤w2.heap.size):=hid (by have:=GZ.out;omega)
 clear hr wu b3 z3 hw3
 have C1:=hid (cK (mz:=18446744073709551615) R3.out (by decide) (yj.out.bound L0.out) (by decide))
 rw [aX] at C1
 refine C1.out.mono ?_
 rintro e w4 ⟨rfl,hr,ht⟩
 obtain⟨i1,hi1⟩:∃ v,v=(Cd.aH Cd.full (T9.m1 (some b))).1:=⟨_,rfl⟩
 rw [← hi1]
 have I1:=hid hi1
 have hr:RS 104 B 5 w4 p (T9.m2 (some b)):=hr
 have lb:=ht.blk LB3.out (by decide)
 have rb:=ht.blk RB3.out (by decide)
 have yy:Ty w4 w2.heap.size 49:=⟨_,_,lb⟩
 obtain⟨c0,c1,c2,c3,c4,c5⟩:=au lb
 have f5:=aa lb 1
 obtain⟨w5,hw5⟩:∃ u,w4.setCell ⟨w2.heap.size,1,none⟩ (.int .u64 (i1:Int))=u:=⟨_,rfl⟩
 have LB5:Hid (w5.heap[w2.heap.size]?=some (.cells #[.int .i64 (i0:Int),.int .u64 (i1:Int),.int .u64 0,.string ⟨#[]⟩,.float .f64 0,.bool false] 49 (0,0))):=hid (by rw [← hw5];exact (af lb 1 (.int .u64 (i1:Int))).trans rfl)
 have RB5:Hid (w5.heap[w.heap.size]?=some (.cells #[.int .i64 0,.int .u64 0,.int .u64 0,.string ⟨#[]⟩,.float .f64 0,.bool false] 49 (0,0))):=hid (by rw [← hw5];exact aF rb (p:=⟨w2.heap.size,1,none⟩) (by have:=GG.out;show w.heap.size≠w2.heap.size;omega) (.int .u64 (i1:Int)))
 have R5:Hid (RS 104 B 5 w5 p (T9.m2 (some b))):=hid (by rw [← hw5];exact hr.jD yy GG.out.2 (by decide) (by decide) _ _)
 have B5:Hid (Below w.heap.size w w5):=hid (by rw [← hw5];exact (B3.out.trans (ht.below.mono (by have:=BZ.out;omega))).setCell (by have:=GG.out;show w.heap.size≤w2.heap.size;omega) _)
 have SH2:=hid (yj.out.trans (St.bI Cd.full (T9.m1 (some b))))
 clear hr ht hi1 lb rb yy
 have C2:=hid (cK (mz:=18446744073709551615) R5.out (by decide) (SH2.out.bound L0.out) (by decide))
 rw [aX] at C2
 go_wp2_with fail
 refine C2.out.mono ?_
 rintro e w6 ⟨rfl,hr,ht⟩
 obtain⟨i2,hi2⟩:∃ v,v=(Cd.aH Cd.full (T9.m2 (some b))).1:=⟨_,rfl⟩
 rw [← hi2]
 have I2:=hid hi2
 have hr:RS 104 B 5 w6 p (T9.m3 (some b)):=hr
 have lb:=ht.blk LB5.out (by decide)
 have rb:=ht.blk RB5.out (by decide)
 have yy:Ty w6 w2.heap.size 49:=⟨_,_,lb⟩
 obtain⟨c0,c1,c2,c3,c4,c5⟩:=au lb
 have f5:=aa lb 2
 obtain⟨w7,hw7⟩:∃ u,w6.setCell ⟨w2.heap.size,2,none⟩ (.int .u64 (i2:Int))=u:=⟨_,rfl⟩
 have LB7:Hid (w7.heap[w2.heap.size]?=some (.cells #[.int .i64 (i0:Int),.int .u64 (i1:Int),.int .u64 (i2:Int),.string ⟨#[]⟩,.float .f64 0,.bool false] 49 (0,0))):=hid (by rw [← hw7];exact (af lb 2 (.int .u64 (i2:Int))).trans rfl)
 have RB7:Hid (w7.heap[w.heap.size]?=some (.cells #[.int .i64 0,.int .u64 0,.int .u64 0,.string ⟨#[]⟩,.float .f64 0,.bool false] 49 (0,0))):=hid (by rw [← hw7];exact aF rb (p:=⟨w2.heap.size,2,none⟩) (by have:=GG.out;show w.heap.size≠w2.heap.size;omega) (.int .u64 (i2:Int)))
 have R7:Hid (RS 104 B 5 w7 p (T9.m3 (some b))):=hid (by rw [← hw7];exact hr.jD yy GG.out.2 (by decide) (by decide) _ _)
 have B7:Hid (Below w.heap.size w w7):=hid (by rw [← hw7];exact (B5.out.trans (ht.below.mono (by have:=BZ.out;omega))).setCell (by have:=GG.out;show w.heap.size≤w2.heap.size;omega) _)
 have SH3:=hid (SH2.out.trans (St.bI Cd.full (T9.m2 (some b))))
 clear hr ht hi2 lb rb yy
 have C3:=hid (lg (mz:=60) R7.out (by decide) (SH3.out.bound L0.out) (by decide) (by decide))
 go_wp2_with fail
 refine C3.out.mono ?_
 rintro e w8 ⟨Ab,nb,cb,rfl,jv,hr,ht⟩
 obtain⟨hnb,_⟩:=aC jv
 obtain⟨i3,hi3⟩:∃ v,v=(Cd.bL 60 (T9.m3 (some b))).1:=⟨_,rfl⟩
 have cv:=gP (c:=cb) (aB (B:=0) (t:=5) jv) hnb
 rw [show (Cd.bL (60:Int).toNat (T9.m3 (some b))).1=i3 from hi3.symm] at cv
 have I3:=hid hi3
 have hr:RS 104 B 5 w8 p (T9.m4 (some b)):=hr
 have lb:=ht.blk LB7.out (by decide)
 have rb:=ht.blk RB7.out (by decide)
 have yy:Ty w8 w2.heap.size 49:=⟨_,_,lb⟩
 obtain⟨c0,c1,c2,c3,c4,c5⟩:=au lb
 have f5:=aa lb 3
 obtain⟨w9,hw9⟩:∃ u,w8.setCell ⟨w2.heap.size,3,none⟩ (.string (str i3))=u:=⟨_,rfl⟩
 have LB9:Hid (w9.heap[w2.heap.size]?=some (.cells #[.int .i64 (i0:Int),.int .u64 (i1:Int),.int .u64 (i2:Int),.string (str i3),.float .f64 0,.bool false] 49 (0,0))):=hid (by rw [← hw9];exact (af lb 3 (.string (str i3))).trans rfl)
 have RB9:Hid (w9.heap[w.heap.size]?=some (.cells #[.int .i64 0,.int .u64 0,.int .u64 0,.string ⟨#[]⟩,.float .f64 0,.bool false] 49 (0,0))):=hid (by rw [← hw9];exact aF rb (p:=⟨w2.heap.size,3,none⟩) (by have:=GG.out;show w.heap.size≠w2.heap.size;omega) (.string (str i3)))
 have R9:Hid (RS 104 B 5 w9 p (T9.m4 (some b))):=hid (by rw [← hw9];exact hr.jD yy GG.out.2 (by decide) (by decide) _ _)
 have B9:Hid (Below w.heap.size w w9):=hid (by rw [← hw9];exact (B7.out.trans (ht.below.mono (by have:=BZ.out;omega))).setCell (by have:=GG.out;show w.heap.size≤w2.heap.size;omega) _)
 have SH4:=hid (SH3.out.trans (St.mX 60 (T9.m3 (some b))))
 clear hr ht hi3 lb rb yy jv hnb
 have C4:=hid (xh R9.out (by decide) (SH4.out.bound L0.out))
 go_wp2_with fail
 refine C4.out.mono ?_
 rintro e qx ⟨rfl,hr,ht⟩
 obtain⟨i4,hi4⟩:∃ v,v=(Cd.jB (T9.m4 (some b))).1:=⟨_,rfl⟩
 rw [← hi4]
 have I4:=hid hi4
 have hr:RS 104 B 5 qx p (T9.m5 (some b)):=hr
 have lb:=ht.blk LB9.out (by decide)
 have rb:=ht.blk RB9.out (by decide)
 have yy:Ty qx w2.heap.size 49:=⟨_,_,lb⟩
 obtain⟨c0,c1,c2,c3,c4,c5⟩:=au lb
 have f5:=aa lb 4
 obtain⟨rR,hw11⟩:∃ u,qx.setCell ⟨w2.heap.size,4,none⟩ (.float .f64 i4)=u:=⟨_,rfl⟩
 have LB11:Hid (rR.heap[w2.heap.size]?=some (.cells #[.int .i64 (i0:Int),.int .u64 (i1:Int),.int .u64 (i2:Int),.string (str i3),.float .f64 i4,.bool false] 49 (0,0))):=hid (by rw [← hw11];exact (af lb 4 (.float .f64 i4)).trans rfl)
 have RB11:Hid (rR.heap[w.heap.size]?=some (.cells #[.int .i64 0,.int .u64 0,.int .u64 0,.string ⟨#[]⟩,.float .f64 0,.bool false] 49 (0,0))):=hid (by rw [← hw11];exact aF rb (p:=⟨w2.heap.size,4,none⟩) (by have:=GG.out;show w.heap.size≠w2.heap.size;omega) (.float .f64 i4))
 have R11:Hid (RS 104 B 5 rR p (T9.m5 (some b))):=hid (by rw [← hw11];exact hr.jD yy GG.out.2 (by decide) (by decide) _ _)
 have B11:Hid (Below w.heap.size w rR):=hid (by rw [← hw11];exact (B9.out.trans (ht.below.mono (by have:=BZ.out;omega))).setCell (by have:=GG.out;show w.heap.size≤w2.heap.size;omega) _)
 have SH5:=hid (SH4.out.trans (lK (T9.m4 (some b))))
 clear hr ht hi4 lb rb yy
 have C5:=hid (rG_rd R11.out (by decide) (SH5.out.bound L0.out))
 go_wp2_with fail
 refine C5.out.mono ?_
 rintro e qC ⟨rfl,hr,ht⟩
 obtain⟨i5,hi5⟩:∃ v,v=(Cd.ku (T9.m5 (some b))).1:=⟨_,rfl⟩
 rw [← hi5]
 have I5:=hid hi5
 have hr:RS 104 B 5 qC p (T9.m6 (some b)):=hr
 have lb:=ht.blk LB11.out (by decide)
 have rb:=ht.blk RB11.out (by decide)
 have yy:Ty qC w2.heap.size 49:=⟨_,_,lb⟩
 obtain⟨c0,c1,c2,c3,c4,c5⟩:=au lb
 have f5:=aa lb 5
 obtain⟨u6,hw13⟩:∃ u,qC.setCell ⟨w2.heap.size,5,none⟩ (.bool i5)=u:=⟨_,rfl⟩
 have LB13:Hid (u6.heap[w2.heap.size]?=some (.cells #[.int .i64 (i0:Int),.int .u64 (i1:Int),.int .u64 (i2:Int),.string (str i3),.float .f64 i4,.bool i5] 49 (0,0))):=hid (by rw [← hw13];exact (af lb 5 (.bool i5)).trans rfl)
 have vk:Hid (u6.heap[w.heap.size]?=some (.cells #[.int .i64 0,.int .u64 0,.int .u64 0,.string ⟨#[]⟩,.float .f64 0,.bool false] 49 (0,0))):=hid (by rw [← hw13];exact aF rb (p:=⟨w2.heap.size,5,none⟩) (by have:=GG.out;show w.heap.size≠w2.heap.size;omega) (.bool i5))
 have R13:Hid (RS 104 B 5 u6 p (T9.m6 (some b))):=hid (by rw [← hw13];exact hr.jD yy GG.out.2 (by decide) (by decide) _ _)
 have B13:Hid (Below w.heap.size w u6):=hid (by rw [← hw13];exact (B11.out.trans (ht.below.mono (by have:=BZ.out;omega))).setCell (by have:=GG.out;show w.heap.size≤w2.heap.size;omega) _)
 have SH6:=hid (SH5.out.trans (St.xG (T9.m5 (some b))))
 clear hr ht hi5 lb rb yy
 have CE:=hid (nL R13.out)
 obtain⟨s6,hs6⟩:∃ v,v=T9.m6 (some b):=⟨_,rfl⟩
 rw [← hs6] at CE
 have S6:=hid hs6
 have ME:Hid ((T9.lm (some b))=(⟨(i0:Int),i1,i2,i3,i4,i5⟩,s6)):=hid (by
  unfold T9.lm
  rw [I1.out,I2.out,I3.out,I4.out,I5.out,hs6,I0.out]
  rfl)
 have TX:Hid (i3.length≤200):=hid (by rw [I3.out];have:=iF 60 (T9.m3 (some b));omega)
 clear hs6
 by_cases he:s6=some []
 ·have ev:fI s6=0:=by rw [he];rfl
  have HE:=hid he
  clear he
  obtain⟨c0,c1,c2,c3,c4,c5⟩:=au LB13.out
  have CC:=hid (kX (m:=⟨(i0:Int),i1,i2,i3,i4,i5⟩) (w:=u6) TX.out)
  unfold T9.Mu.val at CC
  dsimp only at CC
  by_cases hc:T9.aM ⟨(i0:Int),i1,i2,i3,i4,i5⟩=0
  ·rw [hc] at CC
   have OF:Hid (T9.lV b=(⟨(i0:Int),i1,i2,i3,i4,i5⟩,0)):=hid (by unfold T9.lV;rw [ME.out,if_pos ⟨HE.out,hc⟩])
   clear hc
   go_wp2_with (go_at_call 47;refine CE.out.mono ?_;rintro e w' ⟨rfl,rfl⟩)
   refine CC.out.mono ?_
   rintro e w90 ⟨rfl,h8⟩
   have eP:=ak vk.out h8
   obtain⟨c0,c1,c2,c3,c4,c5⟩:=au (ak LB13.out h8)
   have BW:=hid (B13.out.trans (h8.mono B13.out.size))
   clear h8
   obtain⟨d0,d1,d2,d3,d4,d5⟩:=au eP
   have fr0:=aa eP 0
   have fr1:=aa eP 1
   have fr2:=aa eP 2
   have fr3:=aa eP 3
   have fr4:=aa eP 4
   have fr5:=aa eP 5
   have ng:Hid (((((((w90.setCell ⟨w.heap.size,0,none⟩ (.int .i64 (i0:Int))).setCell ⟨w.heap.size,1,none⟩ (.int .u64 (i1:Int))).setCell ⟨w.heap.size,2,none⟩ (.int .u64 (i2:Int))).setCell ⟨w.heap.size,3,none⟩ (.string (str i3))).setCell ⟨w.heap.size,4,none⟩ (.float .f64 i4)).setCell ⟨w.heap.size,5,none⟩ (.bool i5)).heap[w.heap.size]?=some (.cells #[.int .i64 (i0:Int),.int .u64 (i1:Int),.int .u64 (i2:Int),.string (str i3),.float .f64 i4,.bool i5] 49 (0,0))):=hid ((af (af (af (af (af (af eP 0 (.int .i64 (i0:Int))) 1 (.int .u64 (i1:Int))) 2 (.int .u64 (i2:Int))) 3 (.string (str i3))) 4 (.float .f64 i4)) 5 (.bool i5)).trans rfl)
   obtain⟨k0,k1,k2,k3,k4,k5⟩:=au ng.out
   have BFF:Hid (Below w.heap.size w ((((((w90.setCell ⟨w.heap.size,0,none⟩ (.int .i64 (i0:Int))).setCell ⟨w.heap.size,1,none⟩ (.int .u64 (i1:Int))).setCell ⟨w.heap.size,2,none⟩ (.int .u64 (i2:Int))).setCell ⟨w.heap.size,3,none⟩ (.string (str i3))).setCell ⟨w.heap.size,4,none⟩ (.float .f64 i4)).setCell ⟨w.heap.size,5,none⟩ (.bool i5))):=hid ((((((BW.out.setCell (Nat.le_refl _) _).setCell (Nat.le_refl _) _).setCell (Nat.le_refl _) _).setCell (Nat.le_refl _) _).setCell (Nat.le_refl _) _).setCell (Nat.le_refl _) _)
   clear eP
   go_wp2
   refine bodyPost_ret (v:=.tuple #[.agg #[.int .i64 (i0:Int),.int .u64 (i1:Int),.int .u64 (i2:Int),.string (str i3),.float .f64 i4,.bool i5],.int .i64 0]) (by simp [results,Try.results64,go_sem,k0,k1,k2,k3,k4,k5]) rfl ?_
   exact jI.good OF.out BFF.out
  ·have OF:Hid (T9.lV b=(T9.Mu.no,110)):=hid (by unfold T9.lV;rw [ME.out,if_neg (fun q=>hc q.2)])
   obtain⟨ce,hce⟩:∃ v,T9.aM ⟨(i0:Int),i1,i2,i3,i4,i5⟩=v:=⟨_,rfl⟩
   rw [hce] at CC hc
   have hz:(ce==0)=false:=by simp [hc]
   have hz2:(ce != 0)=true:=by simp [hc]
   clear hc hce
   go_wp2_with (go_at_call 47;refine CE.out.mono ?_;rintro e w' ⟨rfl,rfl⟩)
   refine CC.out.mono ?_
   rintro e w90 ⟨rfl,h8⟩
   have eP:=ak vk.out h8
   have BW:=hid (B13.out.trans (h8.mono B13.out.size))
   clear h8 c0 c1 c2 c3 c4 c5
   obtain⟨d0,d1,d2,d3,d4,d5⟩:=au eP
   have fr0:=aa eP 0
   have fr1:=aa eP 1
   have fr2:=aa eP 2
   have fr3:=aa eP 3
   have fr4:=aa eP 4
   have fr5:=aa eP 5
   have ng:Hid (((((((w90.setCell ⟨w.heap.size,0,none⟩ (.int .i64 0)).setCell ⟨w.heap.size,1,none⟩ (.int .u64 0)).setCell ⟨w.heap.size,2,none⟩ (.int .u64 0)).setCell ⟨w.heap.size,3,none⟩ (.string ⟨#[]⟩)).setCell ⟨w.heap.size,4,none⟩ (.float .f64 0)).setCell ⟨w.heap.size,5,none⟩ (.bool false)).heap[w.heap.size]?=some (.cells #[.int .i64 0,.int .u64 0,.int .u64 0,.string ⟨#[]⟩,.float .f64 0,.bool false] 49 (0,0))):=hid ((af (af (af (af (af (af eP 0 (.int .i64 0)) 1 (.int .u64 0)) 2 (.int .u64 0)) 3 (.string ⟨#[]⟩)) 4 (.float .f64 0)) 5 (.bool false)).trans rfl)
   obtain⟨k0,k1,k2,k3,k4,k5⟩:=au ng.out
   have BFF:Hid (Below w.heap.size w ((((((w90.setCell ⟨w.heap.size,0,none⟩ (.int .i64 0)).setCell ⟨w.heap.size,1,none⟩ (.int .u64 0)).setCell ⟨w.heap.size,2,none⟩ (.int .u64 0)).setCell ⟨w.heap.size,3,none⟩ (.string ⟨#[]⟩)).setCell ⟨w.heap.size,4,none⟩ (.float .f64 0)).setCell ⟨w.heap.size,5,none⟩ (.bool false))):=hid ((((((BW.out.setCell (Nat.le_refl _) _).setCell (Nat.le_refl _) _).setCell (Nat.le_refl _) _).setCell (Nat.le_refl _) _).setCell (Nat.le_refl _) _).setCell (Nat.le_refl _) _)
   clear eP
   go_wp2
   refine bodyPost_ret (v:=.tuple #[.agg #[.int .i64 0,.int .u64 0,.int .u64 0,.string ⟨#[]⟩,.float .f64 0,.bool false],.int .i64 110]) (by simp [results,Try.results64,go_sem,k0,k1,k2,k3,k4,k5]) rfl ?_
   exact jI.bad OF.out BFF.out
 ·have OF:Hid (T9.lV b=(T9.Mu.no,110)):=hid (by unfold T9.lV;rw [ME.out,if_neg (fun q=>he q.1)])
  have ev:fI s6=20:=by
   unfold fI
   split
   ·exact absurd rfl he
   ·rfl
  have eP:=vk.out
  have BW:=hid B13.out
  clear he
  obtain⟨d0,d1,d2,d3,d4,d5⟩:=au eP
  have fr0:=aa eP 0
  have fr1:=aa eP 1
  have fr2:=aa eP 2
  have fr3:=aa eP 3
  have fr4:=aa eP 4
  have fr5:=aa eP 5
  have ng:Hid (((((((u6.setCell ⟨w.heap.size,0,none⟩ (.int .i64 0)).setCell ⟨w.heap.size,1,none⟩ (.int .u64 0)).setCell ⟨w.heap.size,2,none⟩ (.int .u64 0)).setCell ⟨w.heap.size,3,none⟩ (.string ⟨#[]⟩)).setCell ⟨w.heap.size,4,none⟩ (.float .f64 0)).setCell ⟨w.heap.size,5,none⟩ (.bool false)).heap[w.heap.size]?=some (.cells #[.int .i64 0,.int .u64 0,.int .u64 0,.string ⟨#[]⟩,.float .f64 0,.bool false] 49 (0,0))):=hid ((af (af (af (af (af (af eP 0 (.int .i64 0)) 1 (.int .u64 0)) 2 (.int .u64 0)) 3 (.string ⟨#[]⟩)) 4 (.float .f64 0)) 5 (.bool false)).trans rfl)
  obtain⟨k0,k1,k2,k3,k4,k5⟩:=au ng.out
  have BFF:Hid (Below w.heap.size w ((((((u6.setCell ⟨w.heap.size,0,none⟩ (.int .i64 0)).setCell ⟨w.heap.size,1,none⟩ (.int .u64 0)).setCell ⟨w.heap.size,2,none⟩ (.int .u64 0)).setCell ⟨w.heap.size,3,none⟩ (.string ⟨#[]⟩)).setCell ⟨w.heap.size,4,none⟩ (.float .f64 0)).setCell ⟨w.heap.size,5,none⟩ (.bool false))):=hid ((((((BW.out.setCell (Nat.le_refl _) _).setCell (Nat.le_refl _) _).setCell (Nat.le_refl _) _).setCell (Nat.le_refl _) _).setCell (Nat.le_refl _) _).setCell (Nat.le_refl _) _)
  clear eP
  go_wp2_with (go_at_call 47;refine CE.out.mono ?_;rintro e w' ⟨rfl,rfl⟩)
  refine bodyPost_ret (v:=.tuple #[.agg #[.int .i64 0,.int .u64 0,.int .u64 0,.string ⟨#[]⟩,.float .f64 0,.bool false],.int .i64 110]) (by simp [results,Try.results64,go_sem,k0,k1,k2,k3,k4,k5]) rfl ?_
  exact jI.bad OF.out BFF.out
namespace T9
def lI (a b:Mu):Bool:=a.kind==b.kind && (a.id==b.id && (a.list==b.list && (decide (a.text=b.text) && (Fl.same a.f b.f && a.flag==b.flag))))
def iq (a b:It):Bool:=a.who==b.who && (a.id==b.id && lI a.m b.m)
theorem rF (a:Mu):lI a a=true:=by simp [lI,Fl.same]
theorem rD (a:It):iq a a=true:=by simp [iq,rF]
end T9
theorem bE (a b:Nat):((a:Int)==(b:Int))=(a==b):=by
 cases h:(a==b) with
 | true=>simp only [beq_iff_eq] at h;simp [h]
 | false=>simp only [beq_eq_false_iff_ne] at h ⊢;omega
end
end
end Go.Proofs.Ytcedlgedmkghgaa
