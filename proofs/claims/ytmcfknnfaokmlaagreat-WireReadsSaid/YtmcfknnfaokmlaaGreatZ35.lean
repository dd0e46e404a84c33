import Derived.Test.YtmcfknnfaokmlaaGreatZ28
import Derived.Test.YtmcfknnfaokmlaaGreatZ29
import Derived.Test.YtmcfknnfaokmlaaGreatZ34
namespace Go.Proofs.YtmcfknnfaokmlaaGreat
set_option maxHeartbeats 16000000
open Go.Lib Go.Proofs.Tryz
set_option linter.unusedSimpArgs false
set_option maxRecDepth 100000
section
section
open Go.RowKit Go.Lib
theorem wN3_c {B p g:Nat} {l:List UInt8} {w:World} (a b d:Nat) (hg:g=w.heap.size) (h:WS B w p l) (ha:a<18446744073709551616) (hb:b<18446744073709551616) (hd:d<18446744073709551616) (hs:l.length+27≤1000000000000) :
  Calls prog 17 #[.pointer (some ⟨p,0,none⟩),.slice (some ⟨g,0,none⟩) 3 3] (w.alloc (.cells #[.int .u64 (a:Int),.int .u64 (b:Int),.int .u64 (d:Int)] 22)) fun e w'=>e=.returned (.tuple #[])∧WS B w' p (l++(Cd.num a++(Cd.num b++Cd.num d)))∧aG B [51,5] w w':=by
 subst hg
 have hL:av (w.alloc (.cells #[.int .u64 (a:Int),.int .u64 (b:Int),.int .u64 (d:Int)] 22)) B 22 (some ⟨w.heap.size,0,none⟩) ([(a:Int),(b:Int),(d:Int)].map (Value.int .u64)):=av.dD (heap_alloc_new w _)
 refine (wN_c (h.alloc _) hL rfl (by intro n hn;simp at hn;rcases hn with rfl | rfl | rfl <;> omega) (by simpa using hs)).mono fun e w' q=>⟨q.1,by simpa [nums] using q.2.1,?_⟩
 exact ((aG.refl B _ w).alloc h.size _).trans q.2.2
theorem wN5_c {B p g:Nat} {l:List UInt8} {w:World} (a b d e f:Nat) (hg:g=w.heap.size) (h:WS B w p l) (ha:a<18446744073709551616) (hb:b<18446744073709551616) (hd:d<18446744073709551616) (he:e<18446744073709551616) (hf:f<18446744073709551616) (hs:l.length+45≤1000000000000) :
  Calls prog 17 #[.pointer (some ⟨p,0,none⟩),.slice (some ⟨g,0,none⟩) 5 5] (w.alloc (.cells #[.int .u64 (a:Int),.int .u64 (b:Int),.int .u64 (d:Int),.int .u64 (e:Int),.int .u64 (f:Int)] 22)) fun e' w'=>e'=.returned (.tuple #[])∧WS B w' p (l++(Cd.num a++(Cd.num b++(Cd.num d++(Cd.num e++Cd.num f)))))∧aG B [51,5] w w':=by
 subst hg
 have hL:av (w.alloc (.cells #[.int .u64 (a:Int),.int .u64 (b:Int),.int .u64 (d:Int),.int .u64 (e:Int),.int .u64 (f:Int)] 22)) B 22 (some ⟨w.heap.size,0,none⟩) ([(a:Int),(b:Int),(d:Int),(e:Int),(f:Int)].map (Value.int .u64)):=av.dD (heap_alloc_new w _)
 refine (wN_c (h.alloc _) hL rfl (by intro n hn;simp at hn;rcases hn with rfl | rfl | rfl | rfl | rfl <;> omega) (by simpa using hs)).mono fun e w' q=>⟨q.1,by simpa [nums] using q.2.1,?_⟩
 exact ((aG.refl B _ w).alloc h.size _).trans q.2.2
theorem RS.gF {B p:Nat} {tr tb t:TypeId} {w:World} {s:Option (List UInt8)} (h:RS tr B tb w p s) {g:Nat} (ht:Ty w g t) (hB:B≤g) (h1:tr≠t) (h2:tb≠t) (i:Nat) (u:Value):RS tr B tb (w.setCell ⟨g,i,none⟩ u) p s :=
 h.cZ ((aG.refl B [t] w).bB (p:=⟨g,i,none⟩) ht (by simp) hB u) (by simpa using h1) (by simpa using h2)
theorem CY {m:T9.Mu} {w:World} (ho:m.ok) (hk:0≤m.kind∧m.kind≤13) (ht:m.text.length≤100) :
  Calls prog 56 #[m.val] w (dW (T9.dG m) w):=by
 obtain⟨k,id,li,tx,f,fg⟩:=m
 obtain⟨h1,h2,h3⟩:=ho
 dsimp only at h1 h2 h3 hk ht
 obtain⟨kn,rfl⟩:∃ kn:Nat,k=(kn:Int):=⟨k.toNat,by omega⟩
 have hwrap:IntKind.u64.wrap (kn:Int)=(kn:Int):=by rw [Fl.wrap_u64];omega
 have kl:kn<18446744073709551616:=by omega
 have EN:Hid (T9.dG ⟨(kn:Int),id,li,tx,f,fg⟩=Cd.num kn++(Cd.num id++(Cd.num li++(St.wb tx++(Cd.fix (Fl.key f).toNat 8++St.fl fg))))):=hid (by unfold T9.dG;rw [Int.toNat_natCast])
 unfold T9.Mu.val
 dsimp only
 rw [EN.out]
 obtain⟨w0,hw0⟩:∃ u,w.alloc (.cells #[.int .i64 (kn:Int),.int .u64 (id:Int),.int .u64 (li:Int),.string (str tx),.float .f64 f,.bool fg] 55)=u:=⟨_,rfl⟩
 obtain⟨Dw,b0,z0⟩:=a_ hw0
 obtain⟨w1,hw1⟩:∃ u,w0.alloc (.cells #[.slice none 0 0] 51)=u:=⟨_,rfl⟩
 have pw:WS w.heap.size w1 (w.heap.size+1) []:=by
  refine⟨Nat.le_succ _,none,0,?_,World.ownsRow_nil _ _ _ _⟩
  rw [← hw1,← z0]
  exact heap_alloc_new w0 _
 have b1:Below w.heap.size w w1:=by rw [← hw1];exact b0.alloc (by omega) _
 have m_:=aW Dw (.cells #[.slice none 0 0] 51)
 rw [hw1] at m_
 have z1:w1.heap.size=w.heap.size+2:=by rw [← hw1,World.size_alloc,z0]
 have B1:=hid b1
 have Z1:=hid z1
 have PB:=hid m_
 have W0:=hid pw
 have Tw1:=hid (aG.refl w.heap.size [51,5] w1)
 obtain⟨p0,p1,p2,p3,p4,p5⟩:=au m_
 clear hk Dw b0 pw b1 m_ z1
 go_enter func56,ntmps56
 go_wp2_with fail
 refine (wN3_c kn id li rfl W0.out kl h1 h2 (by simp)).mono ?_
 rintro e w2 ⟨rfl,hw,ht2⟩
 clear p0 p1 p2 p3 p4 p5
 obtain⟨a1,ma⟩:∃ a,a=([]:List UInt8)++(Cd.num kn++(Cd.num id++Cd.num li)):=⟨_,rfl⟩
 have hw:WS w.heap.size w2 (w.heap.size+1) (([]:List UInt8)++(Cd.num kn++(Cd.num id++Cd.num li))):=hw
 rw [← ma] at hw
 have Wa1:=hid hw
 have BC:=hid ma
 have na1:a1.length≤27:=by
  rw [ma]
  simp only [List.length_append,Cd.aC]
  have:=ax kn;have:=ax id;have:=ax li;simp only [List.length_nil]
  omega
 have xk:=hid (Tw1.out.trans ht2)
 clear hw ma ht2
 have pb:=xk.out.blk PB.out (by decide)
 obtain⟨p0,p1,p2,p3,p4,p5⟩:=au pb
 clear pb
 obtain⟨ck,hcv,hck⟩:=jl tx w2
 have W3:=hid (lG Wa1.out (.cells (bytesRow (str tx) ck) 5 ((bytesRow (str tx) ck).size,(bytesRow (str tx) ck).size+1)) (g:=w2.heap.size) rfl)
 have L3:=hid (iq tx ck w2 (fr:=((bytesRow (str tx) ck).size,(bytesRow (str tx) ck).size+1)) (g:=w2.heap.size) rfl)
 have PN:w2.heap.size≠w.heap.size+1:=by have:=xk.out.below.size;have:=Z1.out;omega
 have TA:=hid ((xk.out.alloc (by have:=xk.out.below.size;have:=Z1.out;omega) (.cells (bytesRow (str tx) ck) 5 ((bytesRow (str tx) ck).size,(bytesRow (str tx) ck).size+1))).drew)
 go_wp2_with fail
 refine (zw W3.out (by simp) PN L3.out rfl (by omega) (by omega)).mono ?_
 rintro e w3 ⟨rfl,hw,ht2⟩
 clear p0 p1 p2 p3 p4 p5
 obtain⟨a2,Aq⟩:∃ a,a=a1++St.wb tx:=⟨_,rfl⟩
 have hw:WS w.heap.size w3 (w.heap.size+1) (a1++St.wb tx):=hw
 rw [← Aq] at hw
 have Wa2:=hid hw
 have Qa2:=hid Aq
 have na2:a2.length≤200:=by
  rw [Aq]
  simp only [List.length_append,Cd.aC]
  have:=T9.fI (b:=tx) ht
  omega
 have yD:=hid (TA.out.trans ht2)
 clear hw Aq ht2
 have pb:=yD.out.blk PB.out (by decide)
 obtain⟨p0,p1,p2,p3,p4,p5⟩:=au pb
 clear pb
 clear hcv hck W3 L3 PN TA
 go_wp2_with fail
 refine (wF_c Wa2.out h3 (by omega)).mono ?_
 rintro e w4 ⟨rfl,hw,ht2⟩
 clear p0 p1 p2 p3 p4 p5
 obtain⟨a3,qa3⟩:∃ a,a=a2++Cd.fix (Fl.key f).toNat 8:=⟨_,rfl⟩
 have hw:WS w.heap.size w4 (w.heap.size+1) (a2++Cd.fix (Fl.key f).toNat 8):=hw
 rw [← qa3] at hw
 have Wa3:=hid hw
 have Qa3:=hid qa3
 have na3:a3.length≤208:=by
  rw [qa3]
  simp only [List.length_append,Cd.aC]
  skip
  omega
 have zH:=hid (yD.out.trans ht2)
 clear hw qa3 ht2
 have pb:=zH.out.blk PB.out (by decide)
 obtain⟨p0,p1,p2,p3,p4,p5⟩:=au pb
 clear pb
 go_wp2_with fail
 refine (wG_c Wa3.out (by omega)).mono ?_
 rintro e w5 ⟨rfl,hw,ht2⟩
 clear p0 p1 p2 p3 p4 p5
 obtain⟨a4,za⟩:∃ a,a=a3++St.fl fg:=⟨_,rfl⟩
 have hw:WS w.heap.size w5 (w.heap.size+1) (a3++St.fl fg):=hw
 rw [← za] at hw
 have Wa4:=hid hw
 have Qa4:=hid za
 have na4:a4.length≤209:=by
  rw [za]
  simp only [List.length_append,Cd.aC]
  have:(St.fl fg).length=1:=rfl
  omega
 have A_:=hid (zH.out.trans ht2)
 clear hw za ht2
 have pb:=A_.out.blk PB.out (by decide)
 obtain⟨p0,p1,p2,p3,p4,p5⟩:=au pb
 clear pb
 have BY:=hid (ku Wa4.out (by omega))
 have EB:a4=Cd.num kn++(Cd.num id++(Cd.num li++(St.wb tx++(Cd.fix (Fl.key f).toNat 8++St.fl fg)))):=by
  rw [Qa4.out,Qa3.out,Qa2.out,BC.out]
  simp
 rw [EB] at BY
 clear EB
 go_wp2_with fail
 refine BY.out.mono ?_
 rintro e w6 ⟨A9,n9,c9,rfl,ho,hb⟩
 have HO9:=hid ho
 have HB9:=hid hb
 clear ho hb
 go_wp2
 go_ret
 have BF:=B1.out.trans A_.out.below
 exact⟨A9,n9,c9,rfl,gp HO9.out BF.size,BF.trans (HB9.out.mono BF.size)⟩
@[go_sem] theorem buildM15 (n : Int) (w : World) : (Instr.build 55 #[(0, .int .i64 n)]).run prog w = .ok (.agg #[.int .i64 n, .int .u64 0, .int .u64 0, .string ⟨#[]⟩, .float .f64 0, .bool false]) w := run_build w 55 _ _ (by kernel_rfl)
@[go_sem] theorem buildM15z (w : World) : (Instr.build 55 #[]).run prog w = .ok (.agg #[.int .i64 0, .int .u64 0, .int .u64 0, .string ⟨#[]⟩, .float .f64 0, .bool false]) w := run_build w 55 _ _ (by kernel_rfl)
def jd (b:List UInt8) (w:World) (e:Ending) (w':World):Prop:=e=.returned (.tuple #[(T9.kS b).1.val,.int .i64 (T9.kS b).2])∧Below w.heap.size w w'
theorem jd.good {b:List UInt8} {k:Int} {id li f:Nat} {tx:List UInt8} {fg:Bool} {w w':World} (h:T9.kS b=(⟨k,id,li,tx,f,fg⟩,0)) (hb:Below w.heap.size w w'):jd b w (.returned (.tuple #[.agg #[.int .i64 k,.int .u64 (id:Int),.int .u64 (li:Int),.string (str tx),.float .f64 f,.bool fg],.int .i64 0])) w':=⟨by rw [h];rfl,hb⟩
theorem jd.bad {b:List UInt8} {w w':World} (h:T9.kS b=(T9.Mu.no,110)) (hb:Below w.heap.size w w'):jd b w (.returned (.tuple #[.agg #[.int .i64 0,.int .u64 0,.int .u64 0,.string ⟨#[]⟩,.float .f64 0,.bool false],.int .i64 110])) w':=⟨by rw [h];rfl,hb⟩
theorem mutOf_c {A:Option Addr} {n c:Nat} {b:List UInt8} {w:World} {D:Nat} {td:TypeId} (h:av w D td A (af b)) (hn:n=b.length) (hb:n≤1000000000) (hD:D≤w.heap.size) :
  Calls prog 118 #[.slice A n c] w (jd b w):=by
 obtain⟨w0,hw0⟩:∃ u,w.alloc (.cells #[.int .i64 0,.int .u64 0,.int .u64 0,.string ⟨#[]⟩,.float .f64 0,.bool false] 55)=u:=⟨_,rfl⟩
 obtain⟨kK,b0,z0⟩:=a_ hw0
 have qH:=hid kK
 have B0:=hid b0
 have CR:=hid (ul (c:=c) ((h.more hD).old (t':=5) |>.below (Nat.le_refl _) b0) (by omega) hn (by omega))
 have wY:Hid (b.length≤1000000000):=hid (by omega)
 clear h kK b0 hn hb
 go_enter func118,ntmps118
 go_wp2_with fail
 refine CR.out.mono ?_
 rintro e w1 ⟨p,rfl,hr,hb1⟩
 have oI:=hid (ah qH.out hb1)
 have B1:=hid (B0.out.trans (hb1.mono (by omega)))
 obtain⟨B,hB⟩:∃ v,v=w0.heap.size:=⟨_,rfl⟩
 rw [← hB] at hr
 have BZ:Hid (w.heap.size+1=B∧B≤w1.heap.size):=hid ⟨by omega,by have:=hb1.size;omega⟩
 have L0:Hid (∀ l,some b=some l→l.length≤1099511627776):=hid (by intro l e;injection e with e;subst e;have:=wY.out;omega)
 have N1:=hid (eG (mz:=13) hr (by decide) L0.out (by decide))
 clear hr hb1 hB hw0 z0
 go_wp2_with fail
 refine N1.out.mono ?_
 rintro e w2 ⟨rfl,hr,ht⟩
 have i13:(Cd.aS (13:Int).toNat (some b)).1≤13:=(Cd.b_ 13 (some b)).2
 obtain⟨i0,hi0⟩:∃ v,v=(Cd.aS (13:Int).toNat (some b)).1:=⟨_,rfl⟩
 rw [← hi0] at i13 ⊢
 have I0:=hid hi0
 have hwr:IntKind.i64.wrap (i0:Int)=(i0:Int):=by rw [IntKind.wrap_i64];omega
 have qJ:=hid (St.bN 13 (some b))
 have hr:RS 147 B 5 w2 p (T9.m1 (some b)):=hr
 have w_:=hid (ht.blk oI.out (by decide))
 have xh:Hid (aG B [147] w1 w2):=hid ht
 have GZ:Hid (w.heap.size+1≤w2.heap.size∧B≤w2.heap.size):=hid (by have:=ht.size;have:=BZ.out;omega)
 clear hi0 ht i13
 go_wp2_with fail
 obtain⟨w3,hw3⟩:∃ u,w2.alloc (.cells #[.int .i64 (i0:Int),.int .u64 0,.int .u64 0,.string ⟨#[]⟩,.float .f64 0,.bool false] 55)=u:=⟨_,rfl⟩
 rw [hw3]
 obtain⟨pE,b3,z3⟩:=a_ hw3
 have R3:Hid (RS 147 B 5 w3 p (T9.m1 (some b))):=hid (by rw [← hw3];exact hr.alloc _)
 have qI:=hid (ah w_.out b3)
 have LB3:=hid pE
 have B3:Hid (Below w.heap.size w w3):=hid ((B1.out.trans (xh.out.below.mono (by have:=BZ.out;omega))).trans (b3.mono (by have:=GZ.out;omega)))
 have GG:Hid (w.heap.size<w2.heap.size∧B≤w2.heap.size):=hid (by have:=GZ.out;omega)
 clear hr pE b3 z3 hw3
 have C1:=hid (eG (mz:=18446744073709551615) R3.out (by decide) (qJ.out.bound L0.out) (by decide))
 rw [aQ] at C1
 refine C1.out.mono ?_
 rintro e w4 ⟨rfl,hr,ht⟩
 obtain⟨i1,hi1⟩:∃ v,v=(Cd.aS Cd.full (T9.m1 (some b))).1:=⟨_,rfl⟩
 rw [← hi1]
 have I1:=hid hi1
 have hr:RS 147 B 5 w4 p (T9.m2 (some b)):=hr
 have lb:=ht.blk LB3.out (by decide)
 have rb:=ht.blk qI.out (by decide)
 have yy:Ty w4 w2.heap.size 55:=⟨_,_,lb⟩
 obtain⟨c0,c1,c2,c3,c4,c5⟩:=au lb
 have f5:=aa lb 1
 obtain⟨w5,qU⟩:∃ u,w4.setCell ⟨w2.heap.size,1,none⟩ (.int .u64 (i1:Int))=u:=⟨_,rfl⟩
 have LB5:Hid (w5.heap[w2.heap.size]?=some (.cells #[.int .i64 (i0:Int),.int .u64 (i1:Int),.int .u64 0,.string ⟨#[]⟩,.float .f64 0,.bool false] 55 (0,0))):=hid (by rw [← qU];exact (ae lb 1 (.int .u64 (i1:Int))).trans rfl)
 have RB5:Hid (w5.heap[w.heap.size]?=some (.cells #[.int .i64 0,.int .u64 0,.int .u64 0,.string ⟨#[]⟩,.float .f64 0,.bool false] 55 (0,0))):=hid (by rw [← qU];exact aI rb (p:=⟨w2.heap.size,1,none⟩) (by have:=GG.out;show w.heap.size≠w2.heap.size;omega) (.int .u64 (i1:Int)))
 have R5:Hid (RS 147 B 5 w5 p (T9.m2 (some b))):=hid (by rw [← qU];exact hr.gF yy GG.out.2 (by decide) (by decide) _ _)
 have B5:Hid (Below w.heap.size w w5):=hid (by rw [← qU];exact (B3.out.trans (ht.below.mono (by have:=BZ.out;omega))).setCell (by have:=GG.out;show w.heap.size≤w2.heap.size;omega) _)
 have rA:=hid (qJ.out.trans (St.bN Cd.full (T9.m1 (some b))))
 clear hr ht hi1 lb rb yy
 have C2:=hid (eG (mz:=18446744073709551615) R5.out (by decide) (rA.out.bound L0.out) (by decide))
 rw [aQ] at C2
 go_wp2_with fail
 refine C2.out.mono ?_
 rintro e w6 ⟨rfl,hr,ht⟩
 obtain⟨i2,hi2⟩:∃ v,v=(Cd.aS Cd.full (T9.m2 (some b))).1:=⟨_,rfl⟩
 rw [← hi2]
 have I2:=hid hi2
 have hr:RS 147 B 5 w6 p (T9.m3 (some b)):=hr
 have lb:=ht.blk LB5.out (by decide)
 have rb:=ht.blk RB5.out (by decide)
 have yy:Ty w6 w2.heap.size 55:=⟨_,_,lb⟩
 obtain⟨c0,c1,c2,c3,c4,c5⟩:=au lb
 have f5:=aa lb 2
 obtain⟨w7,hw7⟩:∃ u,w6.setCell ⟨w2.heap.size,2,none⟩ (.int .u64 (i2:Int))=u:=⟨_,rfl⟩
 have uH:Hid (w7.heap[w2.heap.size]?=some (.cells #[.int .i64 (i0:Int),.int .u64 (i1:Int),.int .u64 (i2:Int),.string ⟨#[]⟩,.float .f64 0,.bool false] 55 (0,0))):=hid (by rw [← hw7];exact (ae lb 2 (.int .u64 (i2:Int))).trans rfl)
 have xc:Hid (w7.heap[w.heap.size]?=some (.cells #[.int .i64 0,.int .u64 0,.int .u64 0,.string ⟨#[]⟩,.float .f64 0,.bool false] 55 (0,0))):=hid (by rw [← hw7];exact aI rb (p:=⟨w2.heap.size,2,none⟩) (by have:=GG.out;show w.heap.size≠w2.heap.size;omega) (.int .u64 (i2:Int)))
 have R7:Hid (RS 147 B 5 w7 p (T9.m3 (some b))):=hid (by rw [← hw7];exact hr.gF yy GG.out.2 (by decide) (by decide) _ _)
 have B7:Hid (Below w.heap.size w w7):=hid (by rw [← hw7];exact (B5.out.trans (ht.below.mono (by have:=BZ.out;omega))).setCell (by have:=GG.out;show w.heap.size≤w2.heap.size;omega) _)
 have uL:=hid (rA.out.trans (St.bN Cd.full (T9.m2 (some b))))
 clear hr ht hi2 lb rb yy
 have C3:=hid (pY (mz:=60) R7.out (by decide) (uL.out.bound L0.out) (by decide) (by decide))
 go_wp2_with fail
 refine C3.out.mono ?_
 rintro e w8 ⟨Ab,nb,cb,rfl,eT,hr,ht⟩
 obtain⟨hnb,_⟩:=aA eT
 obtain⟨i3,hi3⟩:∃ v,v=(Cd.bQ 60 (T9.m3 (some b))).1:=⟨_,rfl⟩
 have cv:=bR (c:=cb) (aD (B:=0) (t:=5) eT) hnb
 rw [show (Cd.bQ (60:Int).toNat (T9.m3 (some b))).1=i3 from hi3.symm] at cv
 have I3:=hid hi3
 have hr:RS 147 B 5 w8 p (T9.m4 (some b)):=hr
 have lb:=ht.blk uH.out (by decide)
 have rb:=ht.blk xc.out (by decide)
 have yy:Ty w8 w2.heap.size 55:=⟨_,_,lb⟩
 obtain⟨c0,c1,c2,c3,c4,c5⟩:=au lb
 have f5:=aa lb 3
 obtain⟨w9,vB⟩:∃ u,w8.setCell ⟨w2.heap.size,3,none⟩ (.string (str i3))=u:=⟨_,rfl⟩
 have Bv:Hid (w9.heap[w2.heap.size]?=some (.cells #[.int .i64 (i0:Int),.int .u64 (i1:Int),.int .u64 (i2:Int),.string (str i3),.float .f64 0,.bool false] 55 (0,0))):=hid (by rw [← vB];exact (ae lb 3 (.string (str i3))).trans rfl)
 have RB9:Hid (w9.heap[w.heap.size]?=some (.cells #[.int .i64 0,.int .u64 0,.int .u64 0,.string ⟨#[]⟩,.float .f64 0,.bool false] 55 (0,0))):=hid (by rw [← vB];exact aI rb (p:=⟨w2.heap.size,3,none⟩) (by have:=GG.out;show w.heap.size≠w2.heap.size;omega) (.string (str i3)))
 have R9:Hid (RS 147 B 5 w9 p (T9.m4 (some b))):=hid (by rw [← vB];exact hr.gF yy GG.out.2 (by decide) (by decide) _ _)
 have B9:Hid (Below w.heap.size w w9):=hid (by rw [← vB];exact (B7.out.trans (ht.below.mono (by have:=BZ.out;omega))).setCell (by have:=GG.out;show w.heap.size≤w2.heap.size;omega) _)
 have uM:=hid (uL.out.trans (St.nX 60 (T9.m3 (some b))))
 clear hr ht hi3 lb rb yy eT hnb
 have C4:=hid (Dy R9.out (by decide) (uM.out.bound L0.out))
 go_wp2_with fail
 refine C4.out.mono ?_
 rintro e lv ⟨rfl,hr,ht⟩
 obtain⟨i4,hi4⟩:∃ v,v=(Cd.jg (T9.m4 (some b))).1:=⟨_,rfl⟩
 rw [← hi4]
 have I4:=hid hi4
 have hr:RS 147 B 5 lv p (T9.m5 (some b)):=hr
 have lb:=ht.blk Bv.out (by decide)
 have rb:=ht.blk RB9.out (by decide)
 have yy:Ty lv w2.heap.size 55:=⟨_,_,lb⟩
 obtain⟨c0,c1,c2,c3,c4,c5⟩:=au lb
 have f5:=aa lb 4
 obtain⟨mI,tN⟩:∃ u,lv.setCell ⟨w2.heap.size,4,none⟩ (.float .f64 i4)=u:=⟨_,rfl⟩
 have Bu:Hid (mI.heap[w2.heap.size]?=some (.cells #[.int .i64 (i0:Int),.int .u64 (i1:Int),.int .u64 (i2:Int),.string (str i3),.float .f64 i4,.bool false] 55 (0,0))):=hid (by rw [← tN];exact (ae lb 4 (.float .f64 i4)).trans rfl)
 have RB11:Hid (mI.heap[w.heap.size]?=some (.cells #[.int .i64 0,.int .u64 0,.int .u64 0,.string ⟨#[]⟩,.float .f64 0,.bool false] 55 (0,0))):=hid (by rw [← tN];exact aI rb (p:=⟨w2.heap.size,4,none⟩) (by have:=GG.out;show w.heap.size≠w2.heap.size;omega) (.float .f64 i4))
 have R11:Hid (RS 147 B 5 mI p (T9.m5 (some b))):=hid (by rw [← tN];exact hr.gF yy GG.out.2 (by decide) (by decide) _ _)
 have B11:Hid (Below w.heap.size w mI):=hid (by rw [← tN];exact (B9.out.trans (ht.below.mono (by have:=BZ.out;omega))).setCell (by have:=GG.out;show w.heap.size≤w2.heap.size;omega) _)
 have xg:=hid (uM.out.trans (jK (T9.m4 (some b))))
 clear hr ht hi4 lb rb yy
 have C5:=hid (rG_rd R11.out (by decide) (xg.out.bound L0.out))
 go_wp2_with fail
 refine C5.out.mono ?_
 rintro e mK ⟨rfl,hr,ht⟩
 obtain⟨i5,hi5⟩:∃ v,v=(Cd.kz (T9.m5 (some b))).1:=⟨_,rfl⟩
 rw [← hi5]
 have I5:=hid hi5
 have hr:RS 147 B 5 mK p (T9.m6 (some b)):=hr
 have lb:=ht.blk Bu.out (by decide)
 have rb:=ht.blk RB11.out (by decide)
 have yy:Ty mK w2.heap.size 55:=⟨_,_,lb⟩
 obtain⟨c0,c1,c2,c3,c4,c5⟩:=au lb
 have f5:=aa lb 5
 obtain⟨n_,tO⟩:∃ u,mK.setCell ⟨w2.heap.size,5,none⟩ (.bool i5)=u:=⟨_,rfl⟩
 have sH:Hid (n_.heap[w2.heap.size]?=some (.cells #[.int .i64 (i0:Int),.int .u64 (i1:Int),.int .u64 (i2:Int),.string (str i3),.float .f64 i4,.bool i5] 55 (0,0))):=hid (by rw [← tO];exact (ae lb 5 (.bool i5)).trans rfl)
 have oJ:Hid (n_.heap[w.heap.size]?=some (.cells #[.int .i64 0,.int .u64 0,.int .u64 0,.string ⟨#[]⟩,.float .f64 0,.bool false] 55 (0,0))):=hid (by rw [← tO];exact aI rb (p:=⟨w2.heap.size,5,none⟩) (by have:=GG.out;show w.heap.size≠w2.heap.size;omega) (.bool i5))
 have R13:Hid (RS 147 B 5 n_ p (T9.m6 (some b))):=hid (by rw [← tO];exact hr.gF yy GG.out.2 (by decide) (by decide) _ _)
 have Bp:Hid (Below w.heap.size w n_):=hid (by rw [← tO];exact (B11.out.trans (ht.below.mono (by have:=BZ.out;omega))).setCell (by have:=GG.out;show w.heap.size≤w2.heap.size;omega) _)
 have SH6:=hid (xg.out.trans (St.wG (T9.m5 (some b))))
 clear hr ht hi5 lb rb yy
 have CE:=hid (sW R13.out)
 obtain⟨s6,hs6⟩:∃ v,v=T9.m6 (some b):=⟨_,rfl⟩
 rw [← hs6] at CE
 have S6:=hid hs6
 have ME:Hid ((T9.nu (some b))=(⟨(i0:Int),i1,i2,i3,i4,i5⟩,s6)):=hid (by
  unfold T9.nu
  rw [I1.out,I2.out,I3.out,I4.out,I5.out,hs6,I0.out]
  rfl)
 have TX:Hid (i3.length≤200):=hid (by rw [I3.out];have:=gX 60 (T9.m3 (some b));omega)
 clear hs6
 by_cases he:s6=some []
 ·have ev:dK s6=0:=by rw [he];rfl
  have HE:=hid he
  clear he
  obtain⟨c0,c1,c2,c3,c4,c5⟩:=au sH.out
  have CC:=hid (pO (m:=⟨(i0:Int),i1,i2,i3,i4,i5⟩) (w:=n_) TX.out)
  unfold T9.Mu.val at CC
  dsimp only at CC
  by_cases hc:T9.aU ⟨(i0:Int),i1,i2,i3,i4,i5⟩=0
  ·rw [hc] at CC
   have OF:Hid (T9.kS b=(⟨(i0:Int),i1,i2,i3,i4,i5⟩,0)):=hid (by unfold T9.kS;rw [ME.out,if_pos ⟨HE.out,hc⟩])
   clear hc
   go_wp2_with (go_at_call 93;refine CE.out.mono ?_;rintro e w' ⟨rfl,rfl⟩)
   refine CC.out.mono ?_
   rintro e Ec ⟨rfl,h8⟩
   have cu:=ah oJ.out h8
   obtain⟨c0,c1,c2,c3,c4,c5⟩:=au (ah sH.out h8)
   have BW:=hid (Bp.out.trans (h8.mono Bp.out.size))
   clear h8
   obtain⟨d0,d1,d2,d3,d4,d5⟩:=au cu
   have lL:=aa cu 0
   have lM:=aa cu 1
   have qN:=aa cu 2
   have qO:=aa cu 3
   have qP:=aa cu 4
   have qQ:=aa cu 5
   have fF:Hid (((((((Ec.setCell ⟨w.heap.size,0,none⟩ (.int .i64 (i0:Int))).setCell ⟨w.heap.size,1,none⟩ (.int .u64 (i1:Int))).setCell ⟨w.heap.size,2,none⟩ (.int .u64 (i2:Int))).setCell ⟨w.heap.size,3,none⟩ (.string (str i3))).setCell ⟨w.heap.size,4,none⟩ (.float .f64 i4)).setCell ⟨w.heap.size,5,none⟩ (.bool i5)).heap[w.heap.size]?=some (.cells #[.int .i64 (i0:Int),.int .u64 (i1:Int),.int .u64 (i2:Int),.string (str i3),.float .f64 i4,.bool i5] 55 (0,0))):=hid ((ae (ae (ae (ae (ae (ae cu 0 (.int .i64 (i0:Int))) 1 (.int .u64 (i1:Int))) 2 (.int .u64 (i2:Int))) 3 (.string (str i3))) 4 (.float .f64 i4)) 5 (.bool i5)).trans rfl)
   obtain⟨k0,k1,k2,k3,k4,k5⟩:=au fF.out
   have iN:Hid (Below w.heap.size w ((((((Ec.setCell ⟨w.heap.size,0,none⟩ (.int .i64 (i0:Int))).setCell ⟨w.heap.size,1,none⟩ (.int .u64 (i1:Int))).setCell ⟨w.heap.size,2,none⟩ (.int .u64 (i2:Int))).setCell ⟨w.heap.size,3,none⟩ (.string (str i3))).setCell ⟨w.heap.size,4,none⟩ (.float .f64 i4)).setCell ⟨w.heap.size,5,none⟩ (.bool i5))):=hid ((((((BW.out.setCell (Nat.le_refl _) _).setCell (Nat.le_refl _) _).setCell (Nat.le_refl _) _).setCell (Nat.le_refl _) _).setCell (Nat.le_refl _) _).setCell (Nat.le_refl _) _)
   clear cu
   go_wp2
   refine bodyPost_ret (v:=.tuple #[.agg #[.int .i64 (i0:Int),.int .u64 (i1:Int),.int .u64 (i2:Int),.string (str i3),.float .f64 i4,.bool i5],.int .i64 0]) (by simp [results,results118,go_sem,k0,k1,k2,k3,k4,k5]) rfl ?_
   exact jd.good OF.out iN.out
  ·have OF:Hid (T9.kS b=(T9.Mu.no,110)):=hid (by unfold T9.kS;rw [ME.out,if_neg (fun q=>hc q.2)])
   obtain⟨ce,hce⟩:∃ v,T9.aU ⟨(i0:Int),i1,i2,i3,i4,i5⟩=v:=⟨_,rfl⟩
   rw [hce] at CC hc
   have hz:(ce==0)=false:=by simp [hc]
   have hz2:(ce != 0)=true:=by simp [hc]
   clear hc hce
   go_wp2_with (go_at_call 93;refine CE.out.mono ?_;rintro e w' ⟨rfl,rfl⟩)
   refine CC.out.mono ?_
   rintro e Ec ⟨rfl,h8⟩
   have cu:=ah oJ.out h8
   have BW:=hid (Bp.out.trans (h8.mono Bp.out.size))
   clear h8 c0 c1 c2 c3 c4 c5
   obtain⟨d0,d1,d2,d3,d4,d5⟩:=au cu
   have lL:=aa cu 0
   have lM:=aa cu 1
   have qN:=aa cu 2
   have qO:=aa cu 3
   have qP:=aa cu 4
   have qQ:=aa cu 5
   have fF:Hid (((((((Ec.setCell ⟨w.heap.size,0,none⟩ (.int .i64 0)).setCell ⟨w.heap.size,1,none⟩ (.int .u64 0)).setCell ⟨w.heap.size,2,none⟩ (.int .u64 0)).setCell ⟨w.heap.size,3,none⟩ (.string ⟨#[]⟩)).setCell ⟨w.heap.size,4,none⟩ (.float .f64 0)).setCell ⟨w.heap.size,5,none⟩ (.bool false)).heap[w.heap.size]?=some (.cells #[.int .i64 0,.int .u64 0,.int .u64 0,.string ⟨#[]⟩,.float .f64 0,.bool false] 55 (0,0))):=hid ((ae (ae (ae (ae (ae (ae cu 0 (.int .i64 0)) 1 (.int .u64 0)) 2 (.int .u64 0)) 3 (.string ⟨#[]⟩)) 4 (.float .f64 0)) 5 (.bool false)).trans rfl)
   obtain⟨k0,k1,k2,k3,k4,k5⟩:=au fF.out
   have iN:Hid (Below w.heap.size w ((((((Ec.setCell ⟨w.heap.size,0,none⟩ (.int .i64 0)).setCell ⟨w.heap.size,1,none⟩ (.int .u64 0)).setCell ⟨w.heap.size,2,none⟩ (.int .u64 0)).setCell ⟨w.heap.size,3,none⟩ (.string ⟨#[]⟩)).setCell ⟨w.heap.size,4,none⟩ (.float .f64 0)).setCell ⟨w.heap.size,5,none⟩ (.bool false))):=hid ((((((BW.out.setCell (Nat.le_refl _) _).setCell (Nat.le_refl _) _).setCell (Nat.le_refl _) _).setCell (Nat.le_refl _) _).setCell (Nat.le_refl _) _).setCell (Nat.le_refl _) _)
   clear cu
   go_wp2
   refine bodyPost_ret (v:=.tuple #[.agg #[.int .i64 0,.int .u64 0,.int .u64 0,.string ⟨#[]⟩,.float .f64 0,.bool false],.int .i64 110]) (by simp [results,results118,go_sem,k0,k1,k2,k3,k4,k5]) rfl ?_
   exact jd.bad OF.out iN.out
 ·have OF:Hid (T9.kS b=(T9.Mu.no,110)):=hid (by unfold T9.kS;rw [ME.out,if_neg (fun q=>he q.1)])
  have ev:dK s6=20:=by
   unfold dK
   split
   ·exact absurd rfl he
   ·rfl
  have cu:=oJ.out
  have BW:=hid Bp.out
  clear he
  obtain⟨d0,d1,d2,d3,d4,d5⟩:=au cu
  have lL:=aa cu 0
  have lM:=aa cu 1
  have qN:=aa cu 2
  have qO:=aa cu 3
  have qP:=aa cu 4
  have qQ:=aa cu 5
  have fF:Hid (((((((n_.setCell ⟨w.heap.size,0,none⟩ (.int .i64 0)).setCell ⟨w.heap.size,1,none⟩ (.int .u64 0)).setCell ⟨w.heap.size,2,none⟩ (.int .u64 0)).setCell ⟨w.heap.size,3,none⟩ (.string ⟨#[]⟩)).setCell ⟨w.heap.size,4,none⟩ (.float .f64 0)).setCell ⟨w.heap.size,5,none⟩ (.bool false)).heap[w.heap.size]?=some (.cells #[.int .i64 0,.int .u64 0,.int .u64 0,.string ⟨#[]⟩,.float .f64 0,.bool false] 55 (0,0))):=hid ((ae (ae (ae (ae (ae (ae cu 0 (.int .i64 0)) 1 (.int .u64 0)) 2 (.int .u64 0)) 3 (.string ⟨#[]⟩)) 4 (.float .f64 0)) 5 (.bool false)).trans rfl)
  obtain⟨k0,k1,k2,k3,k4,k5⟩:=au fF.out
  have iN:Hid (Below w.heap.size w ((((((n_.setCell ⟨w.heap.size,0,none⟩ (.int .i64 0)).setCell ⟨w.heap.size,1,none⟩ (.int .u64 0)).setCell ⟨w.heap.size,2,none⟩ (.int .u64 0)).setCell ⟨w.heap.size,3,none⟩ (.string ⟨#[]⟩)).setCell ⟨w.heap.size,4,none⟩ (.float .f64 0)).setCell ⟨w.heap.size,5,none⟩ (.bool false))):=hid ((((((BW.out.setCell (Nat.le_refl _) _).setCell (Nat.le_refl _) _).setCell (Nat.le_refl _) _).setCell (Nat.le_refl _) _).setCell (Nat.le_refl _) _).setCell (Nat.le_refl _) _)
  clear cu
  go_wp2_with (go_at_call 93;refine CE.out.mono ?_;rintro e w' ⟨rfl,rfl⟩)
  refine bodyPost_ret (v:=.tuple #[.agg #[.int .i64 0,.int .u64 0,.int .u64 0,.string ⟨#[]⟩,.float .f64 0,.bool false],.int .i64 110]) (by simp [results,results118,go_sem,k0,k1,k2,k3,k4,k5]) rfl ?_
  exact jd.bad OF.out iN.out
namespace T9
def jI (a b:Mu):Bool:=a.kind==b.kind && (a.id==b.id && (a.list==b.list && (decide (a.text=b.text) && (Fl.same a.f b.f && a.flag==b.flag))))
def gZ (a b:It):Bool:=a.who==b.who && (a.id==b.id && jI a.m b.m)
theorem yl (a:Mu):jI a a=true:=by simp [jI,Fl.same]
theorem yh (a:It):gZ a a=true:=by simp [gZ,yl]
end T9
theorem aZ (a b:Nat):((a:Int)==(b:Int))=(a==b):=by
 cases h:(a==b) with
 | true=>simp only [beq_iff_eq] at h;simp [h]
 | false=>simp only [beq_eq_false_iff_ne] at h ⊢;omega
theorem Aa {a b:T9.Mu} {w:World} (oa:a.f<18446744073709551616) (ob:b.f<18446744073709551616) :
  Calls prog 78 #[a.val,b.val] w fun e w'=>e=.returned (.bool (T9.jI a b))∧Below w.heap.size w w':=by
 obtain⟨k,id,li,tx,f,fg⟩:=a
 obtain⟨k2,id2,li2,D_,f2,fg2⟩:=b
 dsimp only at oa ob
 obtain⟨R,hR⟩:∃ r,T9.jI ⟨k,id,li,tx,f,fg⟩ ⟨k2,id2,li2,D_,f2,fg2⟩=r:=⟨_,rfl⟩
 unfold T9.Mu.val
 rw [hR]
 unfold T9.jI at hR
 dsimp only at hR ⊢
 obtain⟨w1,hw1⟩:∃ u,w.alloc (.cells #[.int .i64 k,.int .u64 (id:Int),.int .u64 (li:Int),.string (str tx),.float .f64 f,.bool fg] 55)=u:=⟨_,rfl⟩
 obtain⟨pb,b1,z1⟩:=a_ hw1
 obtain⟨w2,hw2⟩:∃ u,w1.alloc (.cells #[.int .i64 k2,.int .u64 (id2:Int),.int .u64 (li2:Int),.string (str D_),.float .f64 f2,.bool fg2] 55)=u:=⟨_,rfl⟩
 obtain⟨fT,b2,z2⟩:=a_ hw2
 have B:Hid (Below w.heap.size w w2):=hid (b1.trans (b2.mono (by omega)))
 have iZ:=(b2.block w.heap.size (by omega)).trans pb
 obtain⟨p0,p1,p2,p3,p4,p5⟩:=au iZ
 obtain⟨q0,q1,q2,q3,q4,q5⟩:=au fT
 have HZ:=hid z1
 clear pb fT iZ b1 b2 z1 z2
 have e2:=aZ id id2
 have e3:=aZ li li2
 have e4:decide (tx=D_)=(tx==D_):=by rw [Bool.eq_iff_iff];simp
 rw [← e2,← e3,e4] at hR
 clear e2 e3 e4
 cases h1:(k==k2)
 rotate_left;cases h2:((id:Int)==(id2:Int))
 rotate_left;cases h3:((li:Int)==(li2:Int))
 rotate_left;cases h4:(tx==D_)
 rotate_left;cases h5:Fl.same f f2
 rotate_left;cases h6:(fg==fg2)
 all_goals
  simp only [*,Bool.true_and,Bool.false_and,Bool.and_true,Bool.and_false] at hR
  subst hR
  go_enter func78,ntmps78
  go_wp2_with (go_at_call 111;refine (jJ _ _ _ (by assumption) (by assumption)).mono ?_;rintro e w' ⟨rfl,rfl⟩)
  go_ret
  exact⟨rfl,B.out⟩
end
end
end Go.Proofs.YtmcfknnfaokmlaaGreat
