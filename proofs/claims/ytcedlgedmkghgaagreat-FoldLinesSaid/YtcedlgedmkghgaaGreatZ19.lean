import Derived.Test.YtcedlgedmkghgaaGreatZ18
import Derived.Test.YtcedlgedmkghgaaGreatZ16
import Derived.Test.YtcedlgedmkghgaaGreatZ17
import Derived.Test.YtcedlgedmkghgaaGreatZ4
import Derived.Test.YtcedlgedmkghgaaGreatZ14
import Derived.StillTailTactics
import Derived.Deep.RegionHeld3
namespace Go.Proofs.YtcedlgedmkghgaaGreat
set_option maxHeartbeats 16000000
open Go.Lib Go.Proofs.Tryz
set_option linter.unusedSimpArgs false
set_option maxRecDepth 100000
section
open Go.Shelf Go.RowKit Go.Lib Go.Sort
def OrdOk (ts:List T9.Tk) (list:Nat) (w:World) (e:Ending) (w':World):Prop :=
 ∃ A c ms,e=.returned (.slice A ms.length c)∧KL w' A ms∧ms.length≤c∧T9.uz ts list (ay ms)∧Below w.heap.size w w'∧(ms=[]∨∃ g,A=some ⟨g,0,none⟩∧w.heap.size≤g)∧∀ m∈ms,m.iW w'
theorem dZ (m:aL) (w:World):(Instr.buildSlice 23 1 #[(0,.agg (az m).toArray)]).run prog w=.ok (.slice (some ⟨w.heap.size,0,none⟩) 1 1) (w.alloc (.cells (az m).toArray 74)):=by
 obtain⟨i0,hi,hz0,hz1,hz2⟩:=info_parts Tryz.infoTk9
 exact dF w 23 74 (az m).toArray i0 _ underlying23 hi hz0 hz1 (by show 0<7;omega) (by show 7≤_;omega)
theorem vO {ms:List aL} (h:∀ m∈ms,m.t.rank<18446744073709551616):ms.flatMap encR=ai ms:=by
 unfold ai
 induction ms with
 | nil=>rfl
 | cons m ms ih =>
  rw [List.flatMap_cons,List.flatMap_cons,ih fun x hx=>h x (List.mem_cons_of_mem _ hx)]
  unfold encR
  rw [rkM_id (h m List.mem_cons_self)]
theorem tks_srt {W:List aL} (h:Sr.fO (ltOf F5) W):Sr.fO T9.kT (ay W):=by
 rw [Ba] at h
 exact List.pairwise_map.2 h
theorem tks_stb {D W:List aL} (h:Sr.gG (ltOf F5) D W):Sr.gG T9.kT (ay D) (ay W):=fun k=>by
 rw [Ba] at h
 have q:=congrArg (List.map (·.t)) (h ⟨k,none,0⟩)
 have e:∀ l:List aL,(ay l).filter (Sr.gX T9.kT k)=(l.filter (Sr.gX (fun x y:aL=>T9.kT x.t y.t) ⟨k,none,0⟩)).map (·.t):=fun l=>by
  unfold ay
  rw [List.filter_map]
  rfl
 rw [e,e]
 exact q
theorem order_c {A A2:Option Addr} {n1 n2 c c2:Nat} {ms:List aL} {w:World} (hk:KL w A2 ms) (e2:n2=ms.length) (hs:n2≤1000000) (hsh:∀ m∈ms,m.t.tags.length≤1000000) (hr:∀ m∈ms,m.t.rank<18446744073709551616) (list:Nat) :
  Calls prog 232 #[.agg #[.slice A n1 c,.slice A2 n2 c2],.int .u64 (list:Int)] w (OrdOk (ay ms) list w):=by
 have E2:=hid e2
 have SH:=hid hsh
 have HR:=hid hr
 obtain⟨w1,hw1⟩:∃ u,w.alloc (.cells #[.slice A n1 c,.slice A2 n2 c2] 25)=u:=⟨_,rfl⟩
 obtain⟨pb,b1,z1⟩:=ak hw1
 have B1:=hid b1
 have HK:=hid (hk.stay b1)
 have Z1:=hid z1
 obtain⟨p0,p1⟩:=aa pb
 clear hk e2 hsh hr pb b1 z1
 go_enter func232,ntmps232
 go_wp2_with fail
 go_loopw [5,11] (fun s5 s11 wr=>∃ (i k:Nat) (A3:Option Addr) (c3:Nat) (xs:List aL),s11=.int .i64 i∧i≤n2∧s5=.slice A3 k c3∧k≤i∧Aside (wr.ownsRow w1.heap.size 74 7 (.slice A3 k c3) k (ai xs))∧Aside (Below w1.heap.size w1 wr)∧Hid (xs.length=k∧ay xs=T9.fH (ay (ms.take i)) list∧(∀ m∈xs,m.iW wr)∧(∀ m∈xs,m.t.rank<18446744073709551616))) (fun _ s11 _=>n2 - (intOf s11).toNat)
 case atStart=>exact⟨0,0,none,0,[],rfl,Nat.zero_le _,rfl,Nat.le_refl _,World.ownsRow_nil _ _ _ _,Below.refl _ _,hid ⟨rfl,rfl,by simp,by simp⟩⟩
 case round =>
  obtain⟨i,k,A3,c3,xs,rfl,hi,rfl,hki,hO,hB,HI⟩:=hrel
  have OW:=hid hO.out
  have BR:=hid hB.out
  clear hO hB
  by_cases hlt:i<n2
  ·have hltz:(i:Int)<(n2:Int):=by omega
   obtain⟨ad,⟨tk,A4,c4⟩,hA,hx,hf,r0,r1,r2,r3,r4,r5,r6⟩:=(HK.out.stay BR.out).at_ (k:=i) (by have:=E2.out;omega)
   subst hA
   have X:=hid hx
   have FI:=hid hf
   dsimp only at r0 r1 r2 r3 r4 r5 r6
   obtain⟨w2,hw2⟩:∃ u,wr.alloc (.cells #[.int .u64 (tk.id:Int),.int .u64 (tk.list:Int),.string (str tk.title),.bool tk.done,.float .f64 tk.rank,.float .f64 tk.est,.slice A4 tk.tags.length c4] 74)=u:=⟨_,rfl⟩
   obtain⟨lb,b2,z2⟩:=bn hw2
   have B2:=hid b2
   have Z2:=hid z2
   have LB:=hid lb
   obtain⟨l0,l1,l2,l3,l4,l5,l6⟩:=aj lb
   have uA:Hid (ay (ms.take (i+1))=ay (ms.take i)++[tk]):=hid (by rw [bL X.out,fC])
   clear hx hf lb b2 z2
   by_cases he:tk.list=list
   ·have uD:((tk.list:Int)==(list:Int))=true:=by simp [he]
    have FL:Hid (T9.fH (ay (ms.take (i+1))) list=T9.fH (ay (ms.take i)) list++[tk]):=hid (by
     rw [uA.out]
     unfold T9.fH
     rw [List.filter_append]
     simp [he])
    have RK:Hid (tk.rank<18446744073709551616):=hid (HR.out _ (List.mem_of_getElem? X.out))
    have CL:=hid (Av (c:=c4) (FI.out.stay B2.out).gl rfl (by have:=SH.out _ (List.mem_of_getElem? X.out);simp at this;show tk.tags.length≤1000000000;omega))
    clear he
    dsimp only at CL
    go_wp2_with fail
    refine CL.out.mono ?_
    rintro e w3 ⟨A5,c5,rfl,hl5,hc5,hb3⟩
    have HL5:=hid hl5
    have HC5:=hid hc5
    have HB3:=hid hb3
    have lb3:=(hb3.block wr.heap.size (by have:=Z2.out;omega)).trans LB.out
    have g6:=(aj lb3).2.2.2.2.2.2
    have gf6:=af lb3 6
    have lb4:=(ah lb3 6 (.slice A5 tk.tags.length c5)).trans (show _=some (.cells #[.int .u64 (tk.id:Int),.int .u64 (tk.list:Int),.string (str tk.title),.bool tk.done,.float .f64 tk.rank,.float .f64 tk.est,.slice A5 tk.tags.length c5] 74 (0,0)) from rfl)
    have Y3:Hid (Ty w3 wr.heap.size 74):=hid ⟨_,_,lb3⟩
    obtain⟨w4,hw4⟩:∃ u,w3.setCell ⟨wr.heap.size,6,none⟩ (.slice A5 tk.tags.length c5)=u:=⟨_,rfl⟩
    rw [hw4] at lb4
    have B4:Hid (Below wr.heap.size wr w4):=hid (by
     rw [← hw4]
     exact (B2.out.trans (HB3.out.mono (by have:=Z2.out;omega))).setCell (Nat.le_refl _) _)
    have L5:Hid (au w4 0 9 A5 (aB tk.tags)):=hid (by
     rw [← hw4]
     exact HL5.out.bH (ts:=[74]) ((aN.refl 0 _ w3).aC (p:=⟨wr.heap.size,6,none⟩) Y3.out (by simp) (Nat.zero_le _) _) (by decide))
    obtain⟨l0,l1,l2,l3,l4,l5,l6⟩:=aj lb4
    have hbs:=dZ ⟨tk,A5,c5⟩ w4
    unfold az at hbs
    dsimp only at hbs
    have Dk:=hid (own_below OW.out B4.out)
    have lI:=hid (Dk.out.alloc (.cells #[.int .u64 (tk.id:Int),.int .u64 (tk.list:Int),.string (str tk.title),.bool tk.done,.float .f64 tk.rank,.float .f64 tk.est,.slice A5 tk.tags.length c5] 74))
    have LE:Hid (au (w4.alloc (.cells #[.int .u64 (tk.id:Int),.int .u64 (tk.list:Int),.string (str tk.title),.bool tk.done,.float .f64 tk.rank,.float .f64 tk.est,.slice A5 tk.tags.length c5] 74)) 0 74 (some ⟨w4.heap.size,0,none⟩) (az ⟨tk,A5,c5⟩)):=hid (au.gY (heap_alloc_new w4 _))
    have zz:w1.heap.size≤w4.heap.size:=Nat.le_trans BR.out.size B4.out.size
    have ZZ:=hid zz
    obtain⟨vN,vM,vQ,vR,vS⟩:=info_parts Tryz.infoTk9
    clear hl5 hc5 hb3 lb3 lb4
    go_wp2_with (at_builtin;refine bE _ rfl _ _ 23 rfl w1.heap.size 74 vN _ 7 80 underlying23 vM vQ vR vS rfl (by decide) _ k (ai xs) rfl lI.out 0 _ 1 1 (az ⟨tk,A5,c5⟩) 74 rfl rfl LE.out (dI _) (by unfold maxLen;omega) (by omega) (by simp;omega) ?_)
    intro v6 w6 hown6 aM ed
    obtain⟨A6,k6,rfl⟩:=aA hown6
    have T6:Hid (aN w1.heap.size [74] w4 w6):=hid (((aN.refl w1.heap.size [74] w4).alloc ZZ.out (.cells #[.int .u64 (tk.id:Int),.int .u64 (tk.list:Int),.string (str tk.title),.bool tk.done,.float .f64 tk.rank,.float .f64 tk.est,.slice A5 tk.tags.length c5] 74)).trans (dP (B:=w1.heap.size) (ts:=[74]) lI.out aM (Nat.le_refl _) (by have:=ZZ.out;simp;omega) (by simp)))
    have Df:=hid hown6
    clear hown6 aM ed hbs l0 l1 l2 l3 l4 l5 l6 zz
    go_wp2
    go_roundw
    case rel =>
     refine⟨i+1,k+1,A6,k6,xs++[⟨tk,A5,c5⟩],by go_num,by omega,rfl,by omega,?_,(BR.out.trans (B4.out.mono BR.out.size)).trans T6.out.below,hid ⟨by rw [List.length_append,HI.out.1];rfl,by rw [fC,HI.out.2.1,FL.out],fun m hm=>?_,fun m hm=>?_⟩⟩
     ·rw [gQ];exact Df.out
     ·rcases List.mem_append.1 hm with q | q
      ·exact ((HI.out.2.2.1 m q).stay B4.out).bH T6.out (by decide)
      ·simp only [List.mem_cons,List.not_mem_nil,or_false] at q
       subst q
       exact aL.iW.bH (m:=⟨tk,A5,c5⟩) ⟨L5.out,HC5.out⟩ T6.out (by decide)
     ·rcases List.mem_append.1 hm with q | q
      ·exact HI.out.2.2.2 m q
      ·simp only [List.mem_cons,List.not_mem_nil,or_false] at q
       subst q
       exact RK.out
    case measure=>simp [intOf];omega
   ·have uD:((tk.list:Int)==(list:Int))=false:=by simp;omega
    have FL:Hid (T9.fH (ay (ms.take (i+1))) list=T9.fH (ay (ms.take i)) list):=hid (by
     rw [uA.out]
     unfold T9.fH
     rw [List.filter_append]
     simp [he])
    clear he
    go_wp2
    go_roundw
    case rel=>exact⟨i+1,k,A3,c3,xs,by go_num,by omega,rfl,by omega,own_below OW.out B2.out,BR.out.trans (B2.out.mono BR.out.size),hid ⟨HI.out.1,by rw [HI.out.2.1,FL.out],fun m hm=>(HI.out.2.2.1 m hm).stay B2.out,HI.out.2.2.2⟩⟩
    case measure=>simp [intOf];omega
  ·obtain rfl:i=n2:=by omega
   have hltz:¬ ((i:Int)<(i:Int)):=by omega
   have XT:Hid (ay xs=T9.fH (ay ms) list):=hid (by rw [HI.out.2.1,E2.out,List.take_length])
   have BW:Hid (Below w.heap.size w wr):=hid (B1.out.trans (BR.out.mono B1.out.size))
   by_cases h0:k=0
   ·subst h0
    have hnil:xs=[]:=List.length_eq_zero_iff.1 HI.out.1
    have HN:=hid hnil
    clear hnil
    go_wp2_with (go_at_call 176;refine (zB _ _ _ _).mono ?_;rintro e w2 ⟨rfl,rfl⟩)
    go_wp2
    go_ret
    exact⟨A3,c3,[],rfl,KL.nil,Nat.zero_le _,⟨Sr.fO.nil,by rw [← XT.out,HN.out];exact Sr.gG.refl _⟩,BW.out,.inl rfl,by simp⟩
   ·obtain⟨g,hg,hBg⟩:=bO OW.out (by omega)
    subst hg
    have hown:=OW.out
    have gl:=hown.lt g rfl
    have zO:=hid gl
    obtain⟨_,gcs,gfr,hgb⟩:=bM hown g rfl
    have GB:=hid hgb
    have HR5:=HI.out.2.2.2
    have hown2:wr.ownsRow w1.heap.size 74 7 (.slice (some ⟨g,0,none⟩) k c3) k (xs.toArray.toList.flatMap encR):=by
     rw [vO HR5]
     exact hown
    have R:RowK encR 7 wr g 0 xs.toArray:=tQ (d:=xs.toArray) Gn Gp (by decide) rfl hown2
    have S0:SWK encR 7 wr g 0 xs.toArray wr:=SWK.start R.hH
    have RR:=hid R
    have Jv:=hid (sortR_c (cap:=c3) R S0 (fun args w=>Tryz.call253 args w) (cb:=#[]) (fun m os dk _ x y=>cmpR_w x y _) (by simp;have:=HI.out.1;omega) k (by simp;exact HI.out.1.symm))
    clear hown hown2 R S0 gl hBg hgb HR5
    go_wp2_with (go_at_call 176;refine Jv.out.mono ?_;rintro e w2 ⟨rfl,dk,W,hs2,hd2,hl2,hw2,D_,hst⟩)
    have S2:=hid hs2
    have SR:=hid (And.intro hd2 (And.intro hl2 (And.intro hw2 (And.intro D_ hst))))
    clear hs2 hd2 hl2 hw2 D_ hst
    go_wp2
    go_ret
    obtain⟨hd2,hl2,hw2,D_,hst⟩:=SR.out
    have hWl:W.length=k:=by rw [hw2];exact HI.out.1
    have hWm:∀ m∈W,m∈xs:=fun m hm=>Sr.gG.mem woRM hst hm
    have hlw:dk.toList=W:=by rw [hl2];simp
    have fin:∀ m∈W,m.iW w2:=fun m hm=>by
     have f:=HI.out.2.2.1 m (hWm m hm)
     refine⟨f.1.keep fun b hb=>?_,f.2⟩
     rcases hb with q | ⟨cs,fr,q⟩
     ·omega
     ·exact zC S2.out b (lt_of_block q) (rT q GB.out (by decide))
    refine⟨some ⟨g,0,none⟩,c3,W,(by rw [hWl];rfl),⟨?_,fun m hm=>(fin m hm).fine⟩,by rw [hWl];exact (aO OW.out).2,⟨tks_srt D_,?_⟩,?_,.inr ⟨g,rfl,by have:=zO.out.1;have:=B1.out.size;omega⟩,fin⟩
    ·rw [← vO (fun m hm=>HI.out.2.2.2 m (hWm m hm))]
     exact pQ S2.out RR.out hd2 (by rw [hlw,List.take_length]) (SWK.lt S2.out zO.out.2)
    ·rw [← XT.out]
     exact tks_stb hst
    ·exact BW.out.trans (qB S2.out (by have:=zO.out.1;have:=BW.out.size;have:=B1.out.size;omega) zO.out.2)
end
section
section
section
namespace T9
def many {α:Type} (f:Option (List UInt8)→α × Option (List UInt8)):Nat→Option (List UInt8)→List α × Option (List UInt8)
 | 0,s=>([],s)
 | n+1,s=>((f s).1 :: (many f n (f s).2).1,(many f n (f s).2).2)
def rdLi (s:Option (List UInt8)):Li × Option (List UInt8) :=
 (⟨(Cd.Bg Cd.full s).1,(Cd.rdB 60 (Cd.Bg Cd.full s).2).1⟩,(Cd.rdB 60 (Cd.Bg Cd.full s).2).2)
def s1 (s:Option (List UInt8)):=(Cd.Bg Cd.full s).2
def s2 (s:Option (List UInt8)):=(Cd.Bg Cd.full (s1 s)).2
def s3 (s:Option (List UInt8)):=(Cd.rdB 60 (s2 s)).2
def s4 (s:Option (List UInt8)):=(Cd.rdG (s3 s)).2
def s5 (s:Option (List UInt8)):=(Cd.rdF (s4 s)).2
def s6 (s:Option (List UInt8)):=(Cd.rdF (s5 s)).2
def s7 (s:Option (List UInt8)):=(Cd.Bg 60 (s6 s)).2
def tagsN (s:Option (List UInt8)):=(Cd.Bg 60 (s6 s)).1
def rdTk (s:Option (List UInt8)):Tk × Option (List UInt8) :=
 (⟨(Cd.Bg Cd.full s).1,(Cd.Bg Cd.full (s1 s)).1,(Cd.rdB 60 (s2 s)).1,(Cd.rdG (s3 s)).1,(Cd.rdF (s4 s)).1,(Cd.rdF (s5 s)).1,(many (Cd.rdB 60) (tagsN s) (s7 s)).1⟩,(many (Cd.rdB 60) (tagsN s) (s7 s)).2)
def rdSt (s:Option (List UInt8)):St × Option (List UInt8) :=
 let a:=Cd.Bg 60 s
 let ls:=many rdLi a.1 a.2
 let b:=Cd.Bg 60 ls.2
 let ts:=many rdTk b.1 b.2
 (⟨ls.1,ts.1⟩,ts.2)
def of (b:List UInt8):St × Int:=if (rdSt (some b)).2=some []∧aH (rdSt (some b)).1=0 then ((rdSt (some b)).1,0) else (⟨[],[]⟩,90)
end T9
end
section
namespace T9
end T9
end
end
section
open Go.RowKit Go.Lib
@[go_sem] theorem buildK9n (n : Int) (w : World) : (Instr.build 74 #[(0, .int .u64 n)]).run prog w = .ok (.agg #[.int .u64 n, .int .u64 0, .string ⟨#[]⟩, .bool false, .float .f64 0, .float .f64 0, .slice none 0 0]) w := run_build w 74 _ _ (by kernel_rfl)
theorem aN.zero {B:Nat} {ts:List TypeId} {w w':World} (h:aN B ts w w'):aN 0 ts w w':=⟨h.below.mono (Nat.zero_le _),h.typed⟩
end
section
open Go.RowKit Go.Lib
@[go_sem] theorem buildL9n (n : Int) (w : World) : (Instr.build 71 #[(0, .int .u64 n)]).run prog w = .ok (.agg #[.int .u64 n, .string ⟨#[]⟩]) w := run_build w 71 _ _ (by kernel_rfl)
theorem p8 (l:T9.Li) (w:World):(Instr.buildSlice 22 1 #[(0,.agg #[.int .u64 (l.id:Int),.string (str l.name)])]).run prog w=.ok (.slice (some ⟨w.heap.size,0,none⟩) 1 1) (w.alloc (.cells #[.int .u64 (l.id:Int),.string (str l.name)] 71)):=by
 obtain⟨i0,hi,hz0,hz1,hz2⟩:=info_parts Tryz.infoLi9
 exact dF w 22 71 #[.int .u64 (l.id:Int),.string (str l.name)] i0 _ underlying22 hi hz0 hz1 (by show 0<2;omega) (by show 2≤_;omega)
theorem pY (m:aL) (w:World):(Instr.buildSlice 23 1 #[(0,.agg (az m).toArray)]).run prog w=.ok (.slice (some ⟨w.heap.size,0,none⟩) 1 1) (w.alloc (.cells (az m).toArray 74)):=by
 obtain⟨i0,hi,hz0,hz1,hz2⟩:=info_parts Tryz.infoTk9
 exact dF w 23 74 (az m).toArray i0 _ underlying23 hi hz0 hz1 (by show 0<7;omega) (by show 7≤_;omega)
end
section
open Go.RowKit Go.Lib Go.Sort
section
variable {P : Program} {ops : Array Oper} {Q : Exit → Act → World → Prop} {md : Region.Mode} {S S' : World → Prop}
theorem ax {i:Nat} {oi:Oper} {f:Nat} {ls:Array Bool} {a:Act} {w:World} (hr:Region.ready md ops ls=[i]) (hi:ops[i]?=some oi)
  (h:∀ K:Act→World→Prop,(∀ b u,S u→wpAnyH P md ops Q S f (ls.setIfInBounds i true) b u→K b u)→if Region.wanted oi (yielded ops a.tmps)=true then Oper.wp P oi a w K Q else K (a.put oi.dst undef) w):wpAnyH P md ops Q S (f+1) ls a w:=by
 refine⟨fun e=>absurd e (by rw [hr];simp),fun j hj=>?_⟩
 rw [hr,List.mem_singleton] at hj
 subst hj
 exact wpOp_step hi (fun K hK=>h K (fun b u q1 q2=>hK b u ⟨q1,q2⟩))
end
theorem kS (l o:List UInt8):(str l==str o)=decide (l=o):=by
 by_cases h:l=o
 ·subst h
  rw [decide_eq_true rfl]
  exact (Go.MapKept.bytes_beq _ _).2 rfl
 ·rw [decide_eq_false h]
  cases q:str l==str o with
  | false=>rfl
  | true=>exact absurd (by have z:=(Go.MapKept.bytes_beq _ _).1 q;have z2:=congrArg (fun b=>b.data.toList) z;simpa [str] using z2) h
end
end
end Go.Proofs.YtcedlgedmkghgaaGreat
