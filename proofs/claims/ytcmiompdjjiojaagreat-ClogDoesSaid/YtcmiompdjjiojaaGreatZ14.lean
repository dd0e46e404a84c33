import Derived.Test.YtcmiompdjjiojaaGreatZ12
namespace Go.Proofs.YtcmiompdjjiojaaGreat
set_option maxHeartbeats 16000000
open Go.Lib Go.Proofs.Tryz
set_option linter.unusedSimpArgs false
set_option maxRecDepth 100000
section
open Go.RowKit Go.Lib
def OrdOk11 (ts:List T9.Tk) (w:World) (e:Ending) (w':World):Prop:=∃ A c ms,e=.returned (.slice A ms.length c)∧au w' 0 64 A (ai ms)∧(∀ m∈ms,m.bS w')∧ms.length≤c∧(A=none→c=0)∧ay ms=ts∧Below w.heap.size w w'
def ltRM (a b:aN):Bool:=T9.lM a.t b.t
theorem Fy {a b:T9.Tk} (h:T9.lM a b=false) (hi:a.id≠b.id):T9.lM b a=true:=by
 rw [T9.tX] at h
 rw [T9.og]
 omega
theorem ltR_or (a b:T9.Tk):T9.lM a b=(Fl.lt a.rank b.rank || Fl.same a.rank b.rank && decide (a.id<b.id)):=by
 rw [Bool.eq_iff_iff,T9.og,Bool.or_eq_true,Bool.and_eq_true,Fl.tY,Fl.Ij,decide_eq_true_iff]
theorem uI {l:List aN} {y:aN} {q:Nat} (h:l[q - 1]?=some y) (hq:0<q):l.drop (q - 1)=y :: l.drop q:=by
 obtain⟨hi,e⟩:=List.getElem?_eq_some_iff.1 h
 rw [List.drop_eq_getElem_cons hi,e,show q - 1+1=q by omega]
theorem Er {A1 A:Option Addr} {n1 c1 n c:Nat} {ms:List aN} {w:World} (hk:KL w A ms) (hf:∀ m∈ms,m.bS w) (hn:n=ms.length) (hs:n≤1000) (list:Nat) (hu:T9.tK (ay ms)) (hr:∀ m∈ms,m.t.rank<18446744073709551616) :
  Calls prog 88 #[.agg #[.slice A1 n1 c1,.slice A n c],.int .u64 (list:Int)] w (OrdOk11 (T9.lw (ay ms) list) w):=by
 have HN:=hid hn
 have HU:=hid hu
 have HR:=hid hr
 obtain⟨w1,hw1⟩:=nm (w.alloc (.cells #[.slice A1 n1 c1,.slice A n c] 26))
 obtain⟨pb,b1,z1⟩:=aj hw1
 obtain⟨p0,p1⟩:=aa pb
 have HK:=hid (hk.stay b1)
 have HF:Hid (∀ m∈ms,m.bS w1):=hid fun m hm=>(hf m hm).stay b1
 have B1:=hid b1
 clear hk hf hn hu hr pb b1 z1
 go_enter func88,ntmps88
 go_wp2
 go_loopw [5,12] (fun s5 s12 wr=>∃ (i k:Nat) (A3:Option Addr) (c3:Nat) (xs:List aN),s12=.int .i64 i∧i≤n∧s5=.slice A3 k c3∧k≤i∧k≤c3∧Aside (Below w1.heap.size w1 wr)∧Hid (au wr 0 64 A3 (ai xs)∧xs.length=k∧ay xs=T9.lw (ay (ms.take i)) list∧(∀ m∈xs,m.bS wr)∧(A3=none→c3=0))) (fun _ s12 _=>n - (intOf s12).toNat)
 case atStart=>exact⟨0,0,none,0,[],rfl,Nat.zero_le _,rfl,Nat.le_refl _,Nat.le_refl _,Below.refl _ _,hid ⟨au.nil,rfl,rfl,by simp,fun _=>rfl⟩⟩
 case round =>
  obtain⟨i,k,A3,c3,xs,rfl,hi,rfl,hki,hkc,hB,HI⟩:=hrel
  obtain⟨wo,hwo⟩:∃ u,u=wr:=⟨_,rfl⟩
  subst hwo
  have BR:=hid hB.out
  clear hB
  by_cases hlt:i<n
  ·have hltz:(i:Int)<(n:Int):=by omega
   obtain⟨ad,⟨tk,A4,c4⟩,hA,hx,hf,r0,r1,r2,r3,r4,r5,r6⟩:=(HK.out.stay BR.out).at_ (k:=i) (by have:=HN.out;omega)
   subst hA
   have X:=hid hx
   have FT:Hid (aN.bS ⟨tk,A4,c4⟩ wo):=hid ((HF.out _ (List.mem_of_getElem? hx)).stay BR.out)
   dsimp only at r0 r1 r2 r3 r4 r5 r6
   obtain⟨w2,hw2⟩:=nm (wo.alloc (.cells #[.int .u64 (tk.id:Int),.int .u64 (tk.list:Int),.string (str tk.title),.bool tk.done,.float .f64 tk.rank,.float .f64 tk.est,.slice A4 tk.tags.length c4] 64))
   obtain⟨lb,b2,z2⟩:=bf hw2
   have B2:=hid b2
   have LB:=hid lb
   obtain⟨l0,l1,l2,l3,l4,l5,l6⟩:=ak lb
   have Z2:=hid z2
   have wO:Hid (ay (ms.take (i+1))=ay (ms.take i)++[tk]):=hid (by rw [bH X.out,fG])
   clear hx hf lb b2 z2
   by_cases h1:tk.list=list
   ·have f1:((tk.list:Int) != (list:Int))=false:=by simp;omega
    have f1b:((tk.list:Int)==(list:Int))=true:=by rw [h1];exact beq_self_eq_true _
    have TKO:Hid (T9.lw (ay (ms.take (i+1))) list=Sr.ins T9.lM tk (T9.lw (ay (ms.take i)) list)):=hid (by rw [wO.out,T9.xN,if_pos h1])
    have RK:Hid (tk.rank<18446744073709551616):=hid (HR.out _ (List.mem_of_getElem? X.out))
    have L2:=hid (bG HI.out.1 B2.out)
    clear h1
    go_wp2_with fail
    go_loopw [8] (fun s8 wz=>∃ q:Nat,s8=.int .i64 q∧q≤k∧Aside (Below w2.heap.size w2 wz)∧Hid (∀ y∈xs.drop q,ltRM ⟨tk,A4,c4⟩ y=true)) (fun s8 _=>(intOf s8).toNat)
    case atStart=>exact⟨k,rfl,Nat.le_refl _,Below.refl _ _,hid (by rw [← HI.out.2.1,List.drop_length];simp)⟩
    case round =>
     obtain⟨q,rfl,hq,hB,HQ⟩:=hrel
     obtain⟨wz,hwz⟩:∃ u,u=wr:=⟨_,rfl⟩
     subst hwz
     have BZ:=hid hB.out
     have LZ:=hid (bG L2.out BZ.out)
     have PZ:=hid (ae LB.out BZ.out)
     obtain⟨l0,l1,l2,l3,l4,l5,l6⟩:=ak PZ.out
     clear hB
     by_cases hq0:0<q
     ·have hqz:(0:Int)<(q:Int):=by omega
      have hqd:decide ((0:Int)<(q:Int))=true:=decide_eq_true hqz
      have hqn:decide (0<q)=true:=decide_eq_true hq0
      have y1:(0:Int)≤(q:Int) - 1:=by omega
      have y1':(1:Int)≤(q:Int):=by omega
      have y2:(q:Int) - 1<(k:Int):=by omega
      have y3:((q:Int) - 1).toNat=q - 1:=by omega
      have y4:IntKind.i64.wrap ((q:Int) - 1)=(q:Int) - 1:=by rw [IntKind.wrap_i64];omega
      have KX:Hid (KL wz A3 xs):=hid ⟨LZ.out.old,fun m hm=>((HI.out.2.2.2.1 m hm).stay (B2.out.trans (BZ.out.mono B2.out.size))).fine⟩
      obtain⟨rE,⟨yk,A5,c5⟩,hA,hy,_,s0,s1,s2,s3,s4,s5,s6⟩:=KX.out.at_ (k:=q - 1) (by have:=HI.out.2.1;omega)
      subst hA
      have Y:=hid hy
      dsimp only at s0 s4
      have YM:Hid (yk∈T9.lw (ay (ms.take i)) list):=hid (by rw [← HI.out.2.2.1];exact List.mem_map.2 ⟨_,List.mem_of_getElem? hy,rfl⟩)
      have YN:Hid (tk.id≠yk.id∧yk.rank<18446744073709551616):=hid (by
       obtain⟨m2,hm2,e2⟩:=List.mem_map.1 (T9.KT YM.out).1
       refine⟨fun z=>?_,by rw [← e2];exact HR.out m2 (List.mem_of_mem_take hm2)⟩
       have:=T9.Mt (l:=ay ms) (t:=tk) (i:=i) HU.out (iA X.out) (y:=yk) (by rw [← e2,ay,← List.map_take];exact List.mem_map.2 ⟨m2,hm2,rfl⟩)
       exact this z.symm)
      have ha:tk.rank<18446744073709551616:=RK.out
      have hb:yk.rank<18446744073709551616:=YN.out.2
      clear hy s1 s2 s3 s5 s6
      obtain⟨bl,hbl⟩:=nm (Fl.lt tk.rank yk.rank)
      obtain⟨bs,hbs⟩:=nm (Fl.same tk.rank yk.rank)
      obtain⟨bi,hbi⟩:=nm (decide ((tk.id:Int)<(yk.id:Int)))
      have VB:Hid (T9.lM tk yk=(bl || bs && bi)):=hid (by
       rw [ltR_or,hbl,hbs,← hbi]
       congr 2
       rw [decide_eq_decide]
       omega)
      have BI2:decide (tk.id<yk.id)=bi:=by rw [← hbi,decide_eq_decide];omega
      have LC:=hid (H_ tk.rank yk.rank wz.drew ha hb)
      have SC:=hid (gY tk.rank yk.rank wz.drew ha hb)
      rw [hbl] at LC
      rw [hbs] at SC
      have YI:=hid YN.out.1
      clear hbl hbs ha hb
      cases bl with
      | true =>
       have VT:Hid (T9.lM tk yk=true):=hid (by rw [VB.out];rfl)
       go_wp2_with fail
       refine wp_region_held_drew (S:=fun u=>u.cell? ⟨wo.heap.size,4,none⟩=some (.float .f64 tk.rank)∧u.cell? ⟨wo.heap.size,0,none⟩=some (.int .u64 (tk.id:Int))∧u.cell? ⟨(rE.add ((q - 1) * 7)).block,(rE.add ((q - 1) * 7)).off+4,none⟩=some (.float .f64 yk.rank)∧u.cell? (rE.add ((q - 1) * 7))=some (.int .u64 (yk.id:Int))) (by kernel_rfl) ((⟨l4,l0,s4,s0⟩:wz.drew.cell? _=_∧_)) (fun S0=>?_)
       refine av 0 S0 ?_
       refine av 1 S0 ?_
       refine av 2 S0 ?_
       refine av 3 S0 ?_
       refine av 4 S0 ?_ (hy:=by intro u hu;obtain⟨h1,h2,h3,h4⟩:=hu;go_simp;try rfl)
       refine av 5 S0 ?_
       refine av 6 S0 ?_
       refine av 7 S0 ?_
       refine av 8 S0 ?_
       refine av 9 S0 ?_
       refine av 10 S0 ?_ (hy:=by intro u hu;obtain⟨h1,h2,h3,h4⟩:=hu;go_simp;try rfl)
       refine fw 11 fun K hK=>?_
       go_simp
       refine (LC.out).mono ?_
       rintro e w' ⟨rfl,rfl⟩
       have S1:=S0
       refine hK _ _ S1 ?_
       clear hK K S0
       have S0:=S1
       clear S1
       try simp only [Act.put,pS]
       refine av 12 S0 ?_
       refine eG 13 S0 ?_
       refine eG 14 S0 ?_
       refine eG 15 S0 ?_
       refine eG 16 S0 ?_
       refine eG 17 S0 ?_
       refine eG 18 S0 ?_
       refine eG 19 S0 ?_
       refine eG 20 S0 ?_
       refine eG 21 S0 ?_
       refine eG 22 S0 ?_
       refine eG 23 S0 ?_
       refine eG 24 S0 ?_
       refine eG 25 S0 ?_
       refine eG 26 S0 ?_
       refine eG 27 S0 ?_
       refine eG 28 S0 ?_
       refine eG 29 S0 ?_
       refine eG 30 S0 ?_
       refine eG 31 S0 ?_
       refine eG 32 S0 ?_
       refine av 33 S0 ?_
       refine av 34 S0 ?_
       refine wpAnyH_done (by kernel_rfl) ?_ _
       clear S0
       go_wp2
       go_roundw
       case rel=>exact⟨q - 1,by go_num,by omega,BZ.out.drew,hid fun y hy=>by
        rw [uI Y.out (by omega)] at hy
        rcases List.mem_cons.1 hy with h | h
        ·subst h
         exact VT.out
        ·exact HQ.out y h⟩
       case measure=>simp [intOf];omega
      | false =>
       cases bs with
       | false =>
        have VF:Hid (T9.lM tk yk=false):=hid (by rw [VB.out];rfl)
        have INS:Hid (ay (xs.take q++(⟨tk,A4,c4⟩:aN) :: xs.drop q)=Sr.ins T9.lM tk (ay xs)):=hid (by
         have st:Sr.Str T9.lM (ay xs):=by rw [HI.out.2.2.1];exact (Sr.gF T9.Iu _).1
         rw [Sr.uR T9.Iu (k:=q) st (by rw [aK,HI.out.2.1];exact hq) (fun y hy=>?_) (fun y h0 hy=>?_)]
         ·simp [ay,List.map_take,List.map_drop]
         ·unfold ay at hy
          rw [← List.map_drop] at hy
          obtain⟨m2,hm2,rfl⟩:=List.mem_map.1 hy
          exact HQ.out m2 hm2
         ·have e:yk=y:=by
           have z:=iA Y.out
           rw [z] at hy
           injection hy
          rw [← e]
          exact Fy VF.out YI.out)
        go_wp2_with fail
        refine wp_region_held_drew (S:=fun u=>u.cell? ⟨wo.heap.size,4,none⟩=some (.float .f64 tk.rank)∧u.cell? ⟨wo.heap.size,0,none⟩=some (.int .u64 (tk.id:Int))∧u.cell? ⟨(rE.add ((q - 1) * 7)).block,(rE.add ((q - 1) * 7)).off+4,none⟩=some (.float .f64 yk.rank)∧u.cell? (rE.add ((q - 1) * 7))=some (.int .u64 (yk.id:Int))) (by kernel_rfl) ((⟨l4,l0,s4,s0⟩:wz.drew.cell? _=_∧_)) (fun S0=>?_)
        refine av 0 S0 ?_
        refine av 1 S0 ?_
        refine av 2 S0 ?_
        refine av 3 S0 ?_
        refine av 4 S0 ?_ (hy:=by intro u hu;obtain⟨h1,h2,h3,h4⟩:=hu;go_simp;try rfl)
        refine av 5 S0 ?_
        refine av 6 S0 ?_
        refine av 7 S0 ?_
        refine av 8 S0 ?_
        refine av 9 S0 ?_
        refine av 10 S0 ?_ (hy:=by intro u hu;obtain⟨h1,h2,h3,h4⟩:=hu;go_simp;try rfl)
        refine fw 11 fun K hK=>?_
        go_simp
        refine (LC.out).mono ?_
        rintro e w' ⟨rfl,rfl⟩
        have S1:=S0
        refine hK _ _ S1 ?_
        clear hK K S0
        have S0:=S1
        clear S1
        try simp only [Act.put,pS]
        refine av 12 S0 ?_
        refine av 13 S0 ?_
        refine av 14 S0 ?_ (hy:=by intro u hu;obtain⟨h1,h2,h3,h4⟩:=hu;go_simp;try rfl)
        refine av 15 S0 ?_
        refine av 16 S0 ?_
        refine av 17 S0 ?_
        refine av 18 S0 ?_
        refine av 19 S0 ?_
        refine av 20 S0 ?_ (hy:=by intro u hu;obtain⟨h1,h2,h3,h4⟩:=hu;go_simp;try rfl)
        refine fw 21 fun K hK=>?_
        go_simp
        refine (SC.out).mono ?_
        rintro e w' ⟨rfl,rfl⟩
        have S1:=S0
        refine hK _ _ S1 ?_
        clear hK K S0
        have S0:=S1
        clear S1
        try simp only [Act.put,pS]
        refine av 22 S0 ?_
        refine eG 23 S0 ?_
        refine eG 24 S0 ?_
        refine eG 25 S0 ?_
        refine eG 26 S0 ?_
        refine eG 27 S0 ?_
        refine eG 28 S0 ?_
        refine eG 29 S0 ?_
        refine eG 30 S0 ?_
        refine eG 31 S0 ?_
        refine av 32 S0 ?_
        refine av 33 S0 ?_
        refine av 34 S0 ?_
        refine wpAnyH_done (by kernel_rfl) ?_ _
        clear S0
        have hqc:q≤c3:=by have:=hq;omega
        have hqk:q≤k:=by have:=hq;omega
        go_wp2_with fail
        obtain⟨wy,tF⟩:=nm wz.drew
        rw [tF]
        have BY:Hid (Below wo.heap.size wo wy):=hid (by rw [← tF];exact (B2.out.trans (BZ.out.mono B2.out.size)).drew)
        have PY:Hid (wy.heap[wo.heap.size]?=some (.cells #[.int .u64 (tk.id:Int),.int .u64 (tk.list:Int),.string (str tk.title),.bool tk.done,.float .f64 tk.rank,.float .f64 tk.est,.slice A4 tk.tags.length c4] 64 (0,0))):=hid (by rw [← tF];exact PZ.out)
        have LY:Hid (au wy 0 64 (some rE) (ai xs)):=hid (by rw [← tF];exact LZ.out.drew)
        obtain⟨i0,hi,hz0,hz1,hz2⟩:=info_parts Tryz.infoTk9
        refine wp_region_held_drew (S:=fun u=>u.heap[wo.heap.size]?=some (.cells #[.int .u64 (tk.id:Int),.int .u64 (tk.list:Int),.string (str tk.title),.bool tk.done,.float .f64 tk.rank,.float .f64 tk.est,.slice A4 tk.tags.length c4] 64 (0,0))) (by kernel_rfl) (PY.out) (fun S0=>?_)
        refine av 0 S0 ?_
        refine av 1 S0 ?_
        refine av 2 S0 ?_
        refine av 3 S0 ?_
        refine av 4 S0 ?_ (hy:=by intro u hu;obtain⟨p0,p1,p2,p3,p4,p5,p6⟩:=ak hu;go_simp;try rfl)
        refine av 6 S0 ?_
        refine av 7 S0 ?_
        refine av 8 S0 ?_
        refine fw 5 fun K hK=>?_
        have hbs:=eu (⟨tk,A4,c4⟩:aN) wy.drew
        go_simp
        clear hbs
        have S1:=bu S0 (.cells #[.int .u64 (tk.id:Int),.int .u64 (tk.list:Int),.string (str tk.title),.bool tk.done,.float .f64 tk.rank,.float .f64 tk.est,.slice A4 tk.tags.length c4] 64)
        refine hK _ _ S1 ?_
        clear hK K S0
        have S0:=S1
        clear S1
        try simp only [Act.put,pS]
        obtain⟨u5,iw⟩:=nm ((wy.alloc (.cells #[.int .u64 (tk.id:Int),.int .u64 (tk.list:Int),.string (str tk.title),.bool tk.done,.float .f64 tk.rank,.float .f64 tk.est,.slice A4 tk.tags.length c4] 64)).drew)
        rw [iw]
        clear S0
        have S0:u5.heap[wo.heap.size]?=some (.cells #[.int .u64 (tk.id:Int),.int .u64 (tk.list:Int),.string (str tk.title),.bool tk.done,.float .f64 tk.rank,.float .f64 tk.est,.slice A4 tk.tags.length c4] 64 (0,0)):=by rw [← iw];exact bu PY.out _
        have lC:u5.ownsRow wy.heap.size 64 7 (.slice (some ⟨wy.heap.size,0,none⟩) 1 1) 1 (aA (⟨tk,A4,c4⟩:aN)):=by
         have o5:=gX (w:=wy) (e:=64) (xs:=aA (⟨tk,A4,c4⟩:aN)) rfl (rfl:(aA (⟨tk,A4,c4⟩:aN)).length=7)
         rw [← iw]
         exact o5
        have B5:Below wy.heap.size wy u5:=by rw [← iw];exact ((Below.refl wy.heap.size wy).alloc (Nat.le_refl _) _).drew
        have L5:au u5 u5.heap.size 0 (if c3=q then some rE else (some rE).map (·.add (q * 7))) (ai (xs.drop q)):=by
         rw [← fP]
         exact ((au.stay LY.out.old B5).Dy 7 q c3 (by decide) (by rw [aP,HI.out.2.1];exact Nat.mul_le_mul_right _ hkc))
        have di:(ai (xs.drop q)).length=(k - q) * 7:=by rw [aP,List.length_drop,HI.out.2.1]
        have dn:∀ v∈(ai (xs.drop q)),v.oneCell'=true:=cB _
        have mF:∀ z,(Value.slice (some ⟨wy.heap.size,0,none⟩) 1 1).ownBlock=some z→wy.heap.size≤z:=fun z e=>by injection e with e;rw [← e];exact Nat.le_refl _
        refine fw 9 fun K hK=>?_
        refine eT rfl _ _ 24 rfl wy.heap.size 64 i0 _ 7 80 underlying24 hi hz0 hz1 hz2 rfl (by decide) _ 1 (aA (⟨tk,A4,c4⟩:aN)) rfl lC u5.heap.size _ (k - q) (c3 - q) (ai (xs.drop q)) 0 rfl di L5 dn (by unfold maxLen;omega) (by omega) B5.size ?_
        intro v6 w6 hown6 aX fA
        obtain⟨A6,k6,rfl⟩:=aD hown6
        obtain⟨a6,tC,_,hc6⟩:=(aH (B:=0) hown6) (by simp [aA])
        subst tC
        have B6:Below wy.heap.size wy w6:=B5.grown aX B5.size mF
        have S1:w6.heap[wo.heap.size]?=some (.cells #[.int .u64 (tk.id:Int),.int .u64 (tk.list:Int),.string (str tk.title),.bool tk.done,.float .f64 tk.rank,.float .f64 tk.est,.slice A4 tk.tags.length c4] 64 (0,0)):=(B6.block _ (lt_of_block PY.out)).trans PY.out
        refine hK _ _ S1 ?_
        clear aX fA L5 di dn mF B5 lC
        clear hK K S0
        have S0:=S1
        clear S1
        try simp only [Act.put,pS]
        have L6:au w6 w6.heap.size 0 (some rE) (ai (xs.take q)):=by
         rw [← eU]
         exact (au.stay LY.out.old B6).take _
        have dm:(ai (xs.take q)).length=q * 7:=by rw [aP,List.length_take,HI.out.2.1,Nat.min_eq_left (by omega)]
        refine fw 10 fun K hK=>?_
        refine fF rfl _ _ 24 rfl wy.heap.size 64 i0 _ 7 80 underlying24 hi hz0 hz1 hz2 rfl w6.heap.size 0 (some rE) q (ai (xs.take q)) rfl dm L6 (by intro z;first | rfl | cases z) a6 (1+(k - q)) k6 (aA (⟨tk,A4,c4⟩:aN)++(ai (xs.drop q))) rfl hown6.1 hc6 (fC (dL _) (cB _)) (by omega) (by unfold maxLen;omega) (by omega) B6.size ?_
        intro v7 w7 bR bQ hblk7
        obtain⟨A7,k7,rfl⟩:=aD bR
        have B7:Below wy.heap.size wy w7:=B6.grown bQ B6.size (fun z e=>by cases e)
        have S1:w7.heap[wo.heap.size]?=some (.cells #[.int .u64 (tk.id:Int),.int .u64 (tk.list:Int),.string (str tk.title),.bool tk.done,.float .f64 tk.rank,.float .f64 tk.est,.slice A4 tk.tags.length c4] 64 (0,0)):=(B7.block _ (lt_of_block PY.out)).trans PY.out
        refine hK _ _ S1 ?_
        clear bQ L6 dm
        clear hK K S0
        have S0:=S1
        clear S1
        try simp only [Act.put,pS]
        refine av 11 S0 ?_
        refine wpAnyH_done (by kernel_rfl) ?_ _
        clear S0
        have mE:=hid bR
        have pu:=hid B7
        have sZ:=hid hblk7
        clear bR B7 hblk7 hown6 hc6 B6
        generalize (if c3=q then some rE else some (rE.add (q * 7)))=A8
        go_wp2
        go_roundw
        case rel =>
         have Cz:Below wo.heap.size wo w7:=BY.out.trans (pu.out.mono BY.out.size)
         have iJ:(xs.take q++(⟨tk,A4,c4⟩:aN) :: xs.drop q).length=q+(1+(k - q)):=by rw [List.length_append,List.length_cons,List.length_take,List.length_drop,HI.out.2.1,Nat.min_eq_left (by omega)];omega
         have CELLS:ai (xs.take q++(⟨tk,A4,c4⟩:aN) :: xs.drop q)=(ai (xs.take q))++(aA (⟨tk,A4,c4⟩:aN)++(ai (xs.drop q))):=by simp [ai]
         refine⟨i+1,q+(1+(k - q)),A7,k7,xs.take q++(⟨tk,A4,c4⟩:aN) :: xs.drop q,by go_num,by omega,rfl,by omega,(aO mE.out).2,BR.out.trans (Cz.mono BR.out.size),hid ⟨?_,iJ,?_,fun m hm=>?_,fun z=>by subst z;cases sZ.out⟩⟩
         ·rw [CELLS]
          exact aH (B:=0) mE.out
         ·rw [TKO.out,← HI.out.2.2.1]
          exact INS.out
         ·have hm2:m=(⟨tk,A4,c4⟩:aN)∨m∈xs:=by
           rcases List.mem_append.1 hm with h | h
           ·exact .inr (List.mem_of_mem_take h)
           ·rcases List.mem_cons.1 h with h | h
            ·exact .inl h
            ·exact .inr (List.mem_of_mem_drop h)
          rcases hm2 with rfl | h
          ·exact FT.out.stay Cz
          ·exact (HI.out.2.2.2.1 m h).stay Cz
        case measure=>simp [intOf];omega
       | true =>
        cases bi with
        | true =>
         have VT:Hid (T9.lM tk yk=true):=hid (by rw [VB.out];rfl)
         go_wp2_with fail
         refine wp_region_held_drew (S:=fun u=>u.cell? ⟨wo.heap.size,4,none⟩=some (.float .f64 tk.rank)∧u.cell? ⟨wo.heap.size,0,none⟩=some (.int .u64 (tk.id:Int))∧u.cell? ⟨(rE.add ((q - 1) * 7)).block,(rE.add ((q - 1) * 7)).off+4,none⟩=some (.float .f64 yk.rank)∧u.cell? (rE.add ((q - 1) * 7))=some (.int .u64 (yk.id:Int))) (by kernel_rfl) ((⟨l4,l0,s4,s0⟩:wz.drew.cell? _=_∧_)) (fun S0=>?_)
         refine av 0 S0 ?_
         refine av 1 S0 ?_
         refine av 2 S0 ?_
         refine av 3 S0 ?_
         refine av 4 S0 ?_ (hy:=by intro u hu;obtain⟨h1,h2,h3,h4⟩:=hu;go_simp;try rfl)
         refine av 5 S0 ?_
         refine av 6 S0 ?_
         refine av 7 S0 ?_
         refine av 8 S0 ?_
         refine av 9 S0 ?_
         refine av 10 S0 ?_ (hy:=by intro u hu;obtain⟨h1,h2,h3,h4⟩:=hu;go_simp;try rfl)
         refine fw 11 fun K hK=>?_
         go_simp
         refine (LC.out).mono ?_
         rintro e w' ⟨rfl,rfl⟩
         have S1:=S0
         refine hK _ _ S1 ?_
         clear hK K S0
         have S0:=S1
         clear S1
         try simp only [Act.put,pS]
         refine av 12 S0 ?_
         refine av 13 S0 ?_
         refine av 14 S0 ?_ (hy:=by intro u hu;obtain⟨h1,h2,h3,h4⟩:=hu;go_simp;try rfl)
         refine av 15 S0 ?_
         refine av 16 S0 ?_
         refine av 17 S0 ?_
         refine av 18 S0 ?_
         refine av 19 S0 ?_
         refine av 20 S0 ?_ (hy:=by intro u hu;obtain⟨h1,h2,h3,h4⟩:=hu;go_simp;try rfl)
         refine fw 21 fun K hK=>?_
         go_simp
         refine (SC.out).mono ?_
         rintro e w' ⟨rfl,rfl⟩
         have S1:=S0
         refine hK _ _ S1 ?_
         clear hK K S0
         have S0:=S1
         clear S1
         try simp only [Act.put,pS]
         refine av 22 S0 ?_
         refine av 23 S0 ?_
         refine av 24 S0 ?_ (hy:=by intro u hu;obtain⟨h1,h2,h3,h4⟩:=hu;go_simp;try rfl)
         refine av 25 S0 ?_
         refine av 26 S0 ?_
         refine av 27 S0 ?_
         refine av 28 S0 ?_
         refine av 29 S0 ?_
         refine av 30 S0 ?_ (hy:=by intro u hu;obtain⟨h1,h2,h3,h4⟩:=hu;go_simp;try rfl)
         refine av 31 S0 ?_
         refine av 32 S0 ?_
         refine av 33 S0 ?_
         refine av 34 S0 ?_
         refine wpAnyH_done (by kernel_rfl) ?_ _
         clear S0
         go_wp2
         go_roundw
         case rel=>exact⟨q - 1,by go_num,by omega,BZ.out.drew,hid fun y hy=>by
          rw [uI Y.out (by omega)] at hy
          rcases List.mem_cons.1 hy with h | h
          ·subst h
           exact VT.out
          ·exact HQ.out y h⟩
         case measure=>simp [intOf];omega
        | false =>
         have VF:Hid (T9.lM tk yk=false):=hid (by rw [VB.out];rfl)
         have INS:Hid (ay (xs.take q++(⟨tk,A4,c4⟩:aN) :: xs.drop q)=Sr.ins T9.lM tk (ay xs)):=hid (by
          have st:Sr.Str T9.lM (ay xs):=by rw [HI.out.2.2.1];exact (Sr.gF T9.Iu _).1
          rw [Sr.uR T9.Iu (k:=q) st (by rw [aK,HI.out.2.1];exact hq) (fun y hy=>?_) (fun y h0 hy=>?_)]
          ·simp [ay,List.map_take,List.map_drop]
          ·unfold ay at hy
           rw [← List.map_drop] at hy
           obtain⟨m2,hm2,rfl⟩:=List.mem_map.1 hy
           exact HQ.out m2 hm2
          ·have e:yk=y:=by
            have z:=iA Y.out
            rw [z] at hy
            injection hy
           rw [← e]
           exact Fy VF.out YI.out)
         go_wp2_with fail
         refine wp_region_held_drew (S:=fun u=>u.cell? ⟨wo.heap.size,4,none⟩=some (.float .f64 tk.rank)∧u.cell? ⟨wo.heap.size,0,none⟩=some (.int .u64 (tk.id:Int))∧u.cell? ⟨(rE.add ((q - 1) * 7)).block,(rE.add ((q - 1) * 7)).off+4,none⟩=some (.float .f64 yk.rank)∧u.cell? (rE.add ((q - 1) * 7))=some (.int .u64 (yk.id:Int))) (by kernel_rfl) ((⟨l4,l0,s4,s0⟩:wz.drew.cell? _=_∧_)) (fun S0=>?_)
         refine av 0 S0 ?_
         refine av 1 S0 ?_
         refine av 2 S0 ?_
         refine av 3 S0 ?_
         refine av 4 S0 ?_ (hy:=by intro u hu;obtain⟨h1,h2,h3,h4⟩:=hu;go_simp;try rfl)
         refine av 5 S0 ?_
         refine av 6 S0 ?_
         refine av 7 S0 ?_
         refine av 8 S0 ?_
         refine av 9 S0 ?_
         refine av 10 S0 ?_ (hy:=by intro u hu;obtain⟨h1,h2,h3,h4⟩:=hu;go_simp;try rfl)
         refine fw 11 fun K hK=>?_
         go_simp
         refine (LC.out).mono ?_
         rintro e w' ⟨rfl,rfl⟩
         have S1:=S0
         refine hK _ _ S1 ?_
         clear hK K S0
         have S0:=S1
         clear S1
         try simp only [Act.put,pS]
         refine av 12 S0 ?_
         refine av 13 S0 ?_
         refine av 14 S0 ?_ (hy:=by intro u hu;obtain⟨h1,h2,h3,h4⟩:=hu;go_simp;try rfl)
         refine av 15 S0 ?_
         refine av 16 S0 ?_
         refine av 17 S0 ?_
         refine av 18 S0 ?_
         refine av 19 S0 ?_
         refine av 20 S0 ?_ (hy:=by intro u hu;obtain⟨h1,h2,h3,h4⟩:=hu;go_simp;try rfl)
         refine fw 21 fun K hK=>?_
         go_simp
         refine (SC.out).mono ?_
         rintro e w' ⟨rfl,rfl⟩
         have S1:=S0
         refine hK _ _ S1 ?_
         clear hK K S0
         have S0:=S1
         clear S1
         try simp only [Act.put,pS]
         refine av 22 S0 ?_
         refine av 23 S0 ?_
         refine av 24 S0 ?_ (hy:=by intro u hu;obtain⟨h1,h2,h3,h4⟩:=hu;go_simp;try rfl)
         refine av 25 S0 ?_
         refine av 26 S0 ?_
         refine av 27 S0 ?_
         refine av 28 S0 ?_
         refine av 29 S0 ?_
         refine av 30 S0 ?_ (hy:=by intro u hu;obtain⟨h1,h2,h3,h4⟩:=hu;go_simp;try rfl)
         refine av 31 S0 ?_
         refine av 32 S0 ?_
         refine av 33 S0 ?_
         refine av 34 S0 ?_
         refine wpAnyH_done (by kernel_rfl) ?_ _
         clear S0
         have hqc:q≤c3:=by have:=hq;omega
         have hqk:q≤k:=by have:=hq;omega
         go_wp2_with fail
         obtain⟨wy,tF⟩:=nm wz.drew
         rw [tF]
         have BY:Hid (Below wo.heap.size wo wy):=hid (by rw [← tF];exact (B2.out.trans (BZ.out.mono B2.out.size)).drew)
         have PY:Hid (wy.heap[wo.heap.size]?=some (.cells #[.int .u64 (tk.id:Int),.int .u64 (tk.list:Int),.string (str tk.title),.bool tk.done,.float .f64 tk.rank,.float .f64 tk.est,.slice A4 tk.tags.length c4] 64 (0,0))):=hid (by rw [← tF];exact PZ.out)
         have LY:Hid (au wy 0 64 (some rE) (ai xs)):=hid (by rw [← tF];exact LZ.out.drew)
         obtain⟨i0,hi,hz0,hz1,hz2⟩:=info_parts Tryz.infoTk9
         refine wp_region_held_drew (S:=fun u=>u.heap[wo.heap.size]?=some (.cells #[.int .u64 (tk.id:Int),.int .u64 (tk.list:Int),.string (str tk.title),.bool tk.done,.float .f64 tk.rank,.float .f64 tk.est,.slice A4 tk.tags.length c4] 64 (0,0))) (by kernel_rfl) (PY.out) (fun S0=>?_)
         refine av 0 S0 ?_
         refine av 1 S0 ?_
         refine av 2 S0 ?_
         refine av 3 S0 ?_
         refine av 4 S0 ?_ (hy:=by intro u hu;obtain⟨p0,p1,p2,p3,p4,p5,p6⟩:=ak hu;go_simp;try rfl)
         refine av 6 S0 ?_
         refine av 7 S0 ?_
         refine av 8 S0 ?_
         refine fw 5 fun K hK=>?_
         have hbs:=eu (⟨tk,A4,c4⟩:aN) wy.drew
         go_simp
         clear hbs
         have S1:=bu S0 (.cells #[.int .u64 (tk.id:Int),.int .u64 (tk.list:Int),.string (str tk.title),.bool tk.done,.float .f64 tk.rank,.float .f64 tk.est,.slice A4 tk.tags.length c4] 64)
         refine hK _ _ S1 ?_
         clear hK K S0
         have S0:=S1
         clear S1
         try simp only [Act.put,pS]
         obtain⟨u5,iw⟩:=nm ((wy.alloc (.cells #[.int .u64 (tk.id:Int),.int .u64 (tk.list:Int),.string (str tk.title),.bool tk.done,.float .f64 tk.rank,.float .f64 tk.est,.slice A4 tk.tags.length c4] 64)).drew)
         rw [iw]
         clear S0
         have S0:u5.heap[wo.heap.size]?=some (.cells #[.int .u64 (tk.id:Int),.int .u64 (tk.list:Int),.string (str tk.title),.bool tk.done,.float .f64 tk.rank,.float .f64 tk.est,.slice A4 tk.tags.length c4] 64 (0,0)):=by rw [← iw];exact bu PY.out _
         have lC:u5.ownsRow wy.heap.size 64 7 (.slice (some ⟨wy.heap.size,0,none⟩) 1 1) 1 (aA (⟨tk,A4,c4⟩:aN)):=by
          have o5:=gX (w:=wy) (e:=64) (xs:=aA (⟨tk,A4,c4⟩:aN)) rfl (rfl:(aA (⟨tk,A4,c4⟩:aN)).length=7)
          rw [← iw]
          exact o5
         have B5:Below wy.heap.size wy u5:=by rw [← iw];exact ((Below.refl wy.heap.size wy).alloc (Nat.le_refl _) _).drew
         have L5:au u5 u5.heap.size 0 (if c3=q then some rE else (some rE).map (·.add (q * 7))) (ai (xs.drop q)):=by
          rw [← fP]
          exact ((au.stay LY.out.old B5).Dy 7 q c3 (by decide) (by rw [aP,HI.out.2.1];exact Nat.mul_le_mul_right _ hkc))
         have di:(ai (xs.drop q)).length=(k - q) * 7:=by rw [aP,List.length_drop,HI.out.2.1]
         have dn:∀ v∈(ai (xs.drop q)),v.oneCell'=true:=cB _
         have mF:∀ z,(Value.slice (some ⟨wy.heap.size,0,none⟩) 1 1).ownBlock=some z→wy.heap.size≤z:=fun z e=>by injection e with e;rw [← e];exact Nat.le_refl _
         refine fw 9 fun K hK=>?_
         refine eT rfl _ _ 24 rfl wy.heap.size 64 i0 _ 7 80 underlying24 hi hz0 hz1 hz2 rfl (by decide) _ 1 (aA (⟨tk,A4,c4⟩:aN)) rfl lC u5.heap.size _ (k - q) (c3 - q) (ai (xs.drop q)) 0 rfl di L5 dn (by unfold maxLen;omega) (by omega) B5.size ?_
         intro v6 w6 hown6 aX fA
         obtain⟨A6,k6,rfl⟩:=aD hown6
         obtain⟨a6,tC,_,hc6⟩:=(aH (B:=0) hown6) (by simp [aA])
         subst tC
         have B6:Below wy.heap.size wy w6:=B5.grown aX B5.size mF
         have S1:w6.heap[wo.heap.size]?=some (.cells #[.int .u64 (tk.id:Int),.int .u64 (tk.list:Int),.string (str tk.title),.bool tk.done,.float .f64 tk.rank,.float .f64 tk.est,.slice A4 tk.tags.length c4] 64 (0,0)):=(B6.block _ (lt_of_block PY.out)).trans PY.out
         refine hK _ _ S1 ?_
         clear aX fA L5 di dn mF B5 lC
         clear hK K S0
         have S0:=S1
         clear S1
         try simp only [Act.put,pS]
         have L6:au w6 w6.heap.size 0 (some rE) (ai (xs.take q)):=by
          rw [← eU]
          exact (au.stay LY.out.old B6).take _
         have dm:(ai (xs.take q)).length=q * 7:=by rw [aP,List.length_take,HI.out.2.1,Nat.min_eq_left (by omega)]
         refine fw 10 fun K hK=>?_
         refine fF rfl _ _ 24 rfl wy.heap.size 64 i0 _ 7 80 underlying24 hi hz0 hz1 hz2 rfl w6.heap.size 0 (some rE) q (ai (xs.take q)) rfl dm L6 (by intro z;first | rfl | cases z) a6 (1+(k - q)) k6 (aA (⟨tk,A4,c4⟩:aN)++(ai (xs.drop q))) rfl hown6.1 hc6 (fC (dL _) (cB _)) (by omega) (by unfold maxLen;omega) (by omega) B6.size ?_
         intro v7 w7 bR bQ hblk7
         obtain⟨A7,k7,rfl⟩:=aD bR
         have B7:Below wy.heap.size wy w7:=B6.grown bQ B6.size (fun z e=>by cases e)
         have S1:w7.heap[wo.heap.size]?=some (.cells #[.int .u64 (tk.id:Int),.int .u64 (tk.list:Int),.string (str tk.title),.bool tk.done,.float .f64 tk.rank,.float .f64 tk.est,.slice A4 tk.tags.length c4] 64 (0,0)):=(B7.block _ (lt_of_block PY.out)).trans PY.out
         refine hK _ _ S1 ?_
         clear bQ L6 dm
         clear hK K S0
         have S0:=S1
         clear S1
         try simp only [Act.put,pS]
         refine av 11 S0 ?_
         refine wpAnyH_done (by kernel_rfl) ?_ _
         clear S0
         have mE:=hid bR
         have pu:=hid B7
         have sZ:=hid hblk7
         clear bR B7 hblk7 hown6 hc6 B6
         generalize (if c3=q then some rE else some (rE.add (q * 7)))=A8
         go_wp2
         go_roundw
         case rel =>
          have Cz:Below wo.heap.size wo w7:=BY.out.trans (pu.out.mono BY.out.size)
          have iJ:(xs.take q++(⟨tk,A4,c4⟩:aN) :: xs.drop q).length=q+(1+(k - q)):=by rw [List.length_append,List.length_cons,List.length_take,List.length_drop,HI.out.2.1,Nat.min_eq_left (by omega)];omega
          have CELLS:ai (xs.take q++(⟨tk,A4,c4⟩:aN) :: xs.drop q)=(ai (xs.take q))++(aA (⟨tk,A4,c4⟩:aN)++(ai (xs.drop q))):=by simp [ai]
          refine⟨i+1,q+(1+(k - q)),A7,k7,xs.take q++(⟨tk,A4,c4⟩:aN) :: xs.drop q,by go_num,by omega,rfl,by omega,(aO mE.out).2,BR.out.trans (Cz.mono BR.out.size),hid ⟨?_,iJ,?_,fun m hm=>?_,fun z=>by subst z;cases sZ.out⟩⟩
          ·rw [CELLS]
           exact aH (B:=0) mE.out
          ·rw [TKO.out,← HI.out.2.2.1]
           exact INS.out
          ·have hm2:m=(⟨tk,A4,c4⟩:aN)∨m∈xs:=by
            rcases List.mem_append.1 hm with h | h
            ·exact .inr (List.mem_of_mem_take h)
            ·rcases List.mem_cons.1 h with h | h
             ·exact .inl h
             ·exact .inr (List.mem_of_mem_drop h)
           rcases hm2 with rfl | h
           ·exact FT.out.stay Cz
           ·exact (HI.out.2.2.2.1 m h).stay Cz
         case measure=>simp [intOf];omega
     ·have hq00:q=0:=by omega
      have hqz:¬ ((0:Int)<((0:Nat):Int)):=by omega
      have hqd:decide ((0:Int)<((0:Nat):Int))=false:=rfl
      have INS:Hid (ay (xs.take q++(⟨tk,A4,c4⟩:aN) :: xs.drop q)=Sr.ins T9.lM tk (ay xs)):=hid (by
       have st:Sr.Str T9.lM (ay xs):=by rw [HI.out.2.2.1];exact (Sr.gF T9.Iu _).1
       rw [Sr.uR T9.Iu (k:=q) st (by rw [aK,HI.out.2.1];exact hq) (fun y hy=>?_) (fun y h0 hy=>?_)]
       ·simp [ay,List.map_take,List.map_drop]
       ·unfold ay at hy
        rw [← List.map_drop] at hy
        obtain⟨m2,hm2,rfl⟩:=List.mem_map.1 hy
        exact HQ.out m2 hm2
       ·omega)
      cases A3 with
      | none =>
       obtain rfl:c3=0:=HI.out.2.2.2.2 rfl
       obtain rfl:k=0:=by omega
       obtain rfl:xs=[]:=List.eq_nil_of_length_eq_zero HI.out.2.1
       go_wp2_with fail
       refine wp_region_held_drew (S:=fun _=>True) (by kernel_rfl) (trivial) (fun S0=>?_)
       refine av 0 S0 ?_
       refine av 1 S0 ?_
       refine av 2 S0 ?_
       refine eG 3 S0 ?_
       refine eG 4 S0 ?_
       refine eG 5 S0 ?_
       refine eG 6 S0 ?_
       refine eG 7 S0 ?_
       refine eG 8 S0 ?_
       refine eG 9 S0 ?_
       refine eG 10 S0 ?_
       refine eG 11 S0 ?_
       refine eG 12 S0 ?_
       refine eG 13 S0 ?_
       refine eG 14 S0 ?_
       refine eG 15 S0 ?_
       refine eG 16 S0 ?_
       refine eG 17 S0 ?_
       refine eG 18 S0 ?_
       refine eG 19 S0 ?_
       refine eG 20 S0 ?_
       refine eG 21 S0 ?_
       refine eG 22 S0 ?_
       refine eG 23 S0 ?_
       refine eG 24 S0 ?_
       refine eG 25 S0 ?_
       refine eG 26 S0 ?_
       refine eG 27 S0 ?_
       refine eG 28 S0 ?_
       refine eG 29 S0 ?_
       refine eG 30 S0 ?_
       refine eG 31 S0 ?_
       refine eG 32 S0 ?_
       refine eG 33 S0 ?_
       refine av 34 S0 ?_
       refine wpAnyH_done (by kernel_rfl) ?_ _
       clear S0
       go_wp2_with fail
       obtain⟨wy,tF⟩:=nm wz.drew
       rw [tF]
       have BY:Hid (Below wo.heap.size wo wy):=hid (by rw [← tF];exact (B2.out.trans (BZ.out.mono B2.out.size)).drew)
       have PY:Hid (wy.heap[wo.heap.size]?=some (.cells #[.int .u64 (tk.id:Int),.int .u64 (tk.list:Int),.string (str tk.title),.bool tk.done,.float .f64 tk.rank,.float .f64 tk.est,.slice A4 tk.tags.length c4] 64 (0,0))):=hid (by rw [← tF];exact PZ.out)
       have LY:Hid (au wy 0 64 none (ai ([]:List aN))):=hid (by rw [← tF];exact LZ.out.drew)
       obtain⟨i0,hi,hz0,hz1,hz2⟩:=info_parts Tryz.infoTk9
       refine wp_region_held_drew (S:=fun u=>u.heap[wo.heap.size]?=some (.cells #[.int .u64 (tk.id:Int),.int .u64 (tk.list:Int),.string (str tk.title),.bool tk.done,.float .f64 tk.rank,.float .f64 tk.est,.slice A4 tk.tags.length c4] 64 (0,0))) (by kernel_rfl) (PY.out) (fun S0=>?_)
       refine av 0 S0 ?_
       refine av 1 S0 ?_
       refine av 2 S0 ?_
       refine av 3 S0 ?_
       refine av 4 S0 ?_ (hy:=by intro u hu;obtain⟨p0,p1,p2,p3,p4,p5,p6⟩:=ak hu;go_simp;try rfl)
       refine av 6 S0 ?_
       refine av 7 S0 ?_
       refine av 8 S0 ?_
       refine fw 5 fun K hK=>?_
       have hbs:=eu (⟨tk,A4,c4⟩:aN) wy.drew
       go_simp
       clear hbs
       have S1:=bu S0 (.cells #[.int .u64 (tk.id:Int),.int .u64 (tk.list:Int),.string (str tk.title),.bool tk.done,.float .f64 tk.rank,.float .f64 tk.est,.slice A4 tk.tags.length c4] 64)
       refine hK _ _ S1 ?_
       clear hK K S0
       have S0:=S1
       clear S1
       try simp only [Act.put,pS]
       obtain⟨u5,iw⟩:=nm ((wy.alloc (.cells #[.int .u64 (tk.id:Int),.int .u64 (tk.list:Int),.string (str tk.title),.bool tk.done,.float .f64 tk.rank,.float .f64 tk.est,.slice A4 tk.tags.length c4] 64)).drew)
       rw [iw]
       clear S0
       have S0:u5.heap[wo.heap.size]?=some (.cells #[.int .u64 (tk.id:Int),.int .u64 (tk.list:Int),.string (str tk.title),.bool tk.done,.float .f64 tk.rank,.float .f64 tk.est,.slice A4 tk.tags.length c4] 64 (0,0)):=by rw [← iw];exact bu PY.out _
       have lC:u5.ownsRow wy.heap.size 64 7 (.slice (some ⟨wy.heap.size,0,none⟩) 1 1) 1 (aA (⟨tk,A4,c4⟩:aN)):=by
        have o5:=gX (w:=wy) (e:=64) (xs:=aA (⟨tk,A4,c4⟩:aN)) rfl (rfl:(aA (⟨tk,A4,c4⟩:aN)).length=7)
        rw [← iw]
        exact o5
       have B5:Below wy.heap.size wy u5:=by rw [← iw];exact ((Below.refl wy.heap.size wy).alloc (Nat.le_refl _) _).drew
       have L5:au u5 u5.heap.size 0 none ([]:List Value):=au.nil
       have di:([]:List Value).length=0 * 7:=by rfl
       have dn:∀ v∈([]:List Value),v.oneCell'=true:=by simp
       have mF:∀ z,(Value.slice (some ⟨wy.heap.size,0,none⟩) 1 1).ownBlock=some z→wy.heap.size≤z:=fun z e=>by injection e with e;rw [← e];exact Nat.le_refl _
       refine fw 9 fun K hK=>?_
       refine eT rfl _ _ 24 rfl wy.heap.size 64 i0 _ 7 80 underlying24 hi hz0 hz1 hz2 rfl (by decide) _ 1 (aA (⟨tk,A4,c4⟩:aN)) rfl lC u5.heap.size _ 0 0 ([]:List Value) 0 rfl di L5 dn (by unfold maxLen;omega) (by omega) B5.size ?_
       intro v6 w6 hown6 aX fA
       obtain⟨A6,k6,rfl⟩:=aD hown6
       obtain⟨a6,tC,_,hc6⟩:=(aH (B:=0) hown6) (by simp [aA])
       subst tC
       have B6:Below wy.heap.size wy w6:=B5.grown aX B5.size mF
       have S1:w6.heap[wo.heap.size]?=some (.cells #[.int .u64 (tk.id:Int),.int .u64 (tk.list:Int),.string (str tk.title),.bool tk.done,.float .f64 tk.rank,.float .f64 tk.est,.slice A4 tk.tags.length c4] 64 (0,0)):=(B6.block _ (lt_of_block PY.out)).trans PY.out
       refine hK _ _ S1 ?_
       clear aX fA L5 di dn mF B5 lC
       clear hK K S0
       have S0:=S1
       clear S1
       try simp only [Act.put,pS]
       have L6:au w6 w6.heap.size 0 none ([]:List Value):=au.nil
       have dm:([]:List Value).length=0 * 7:=by rfl
       refine fw 10 fun K hK=>?_
       refine fF rfl _ _ 24 rfl wy.heap.size 64 i0 _ 7 80 underlying24 hi hz0 hz1 hz2 rfl w6.heap.size 0 none 0 ([]:List Value) rfl dm L6 (by intro z;first | rfl | cases z) a6 (1+0) k6 (aA (⟨tk,A4,c4⟩:aN)++([]:List Value)) rfl hown6.1 hc6 (fC (dL _) (by simp)) (by omega) (by unfold maxLen;omega) (by omega) B6.size ?_
       intro v7 w7 bR bQ hblk7
       obtain⟨A7,k7,rfl⟩:=aD bR
       have B7:Below wy.heap.size wy w7:=B6.grown bQ B6.size (fun z e=>by cases e)
       have S1:w7.heap[wo.heap.size]?=some (.cells #[.int .u64 (tk.id:Int),.int .u64 (tk.list:Int),.string (str tk.title),.bool tk.done,.float .f64 tk.rank,.float .f64 tk.est,.slice A4 tk.tags.length c4] 64 (0,0)):=(B7.block _ (lt_of_block PY.out)).trans PY.out
       refine hK _ _ S1 ?_
       clear bQ L6 dm
       clear hK K S0
       have S0:=S1
       clear S1
       try simp only [Act.put,pS]
       refine av 11 S0 ?_
       refine wpAnyH_done (by kernel_rfl) ?_ _
       clear S0
       have mE:=hid bR
       have pu:=hid B7
       have sZ:=hid hblk7
       clear bR B7 hblk7 hown6 hc6 B6
       go_wp2
       go_roundw
       case rel =>
        have Cz:Below wo.heap.size wo w7:=BY.out.trans (pu.out.mono BY.out.size)
        have iJ:(([]:List aN)++(⟨tk,A4,c4⟩:aN) :: []).length=0+(1+0):=by rfl
        have CELLS:ai (([]:List aN)++(⟨tk,A4,c4⟩:aN) :: [])=([]:List Value)++(aA (⟨tk,A4,c4⟩:aN)++([]:List Value)):=by simp [ai]
        refine⟨i+1,0+(1+0),A7,k7,([]:List aN)++(⟨tk,A4,c4⟩:aN) :: [],by go_num,by omega,rfl,by omega,(aO mE.out).2,BR.out.trans (Cz.mono BR.out.size),hid ⟨?_,iJ,?_,fun m hm=>?_,fun z=>by subst z;cases sZ.out⟩⟩
        ·rw [CELLS]
         exact aH (B:=0) mE.out
        ·rw [TKO.out,← HI.out.2.2.1]
         have e:=INS.out
         rw [List.take_nil,List.drop_nil] at e
         exact e
        ·have hm2:m=(⟨tk,A4,c4⟩:aN)∨m∈([]:List aN):=by
          exact .inl (by simpa using hm)
         rcases hm2 with rfl | h
         ·exact FT.out.stay Cz
         ·exact (HI.out.2.2.2.1 m h).stay Cz
       case measure=>simp [intOf];omega
      | some ad =>
       have hqh:=hid hq00
       clear hq00 hqz hqd
       have hqz:¬ ((0:Int)<(q:Int)):=by have:=hqh.out;omega
       have hqd:decide ((0:Int)<(q:Int))=false:=by rw [decide_eq_false_iff_not];exact hqz
       have hqn:decide (0<q)=false:=by rw [decide_eq_false_iff_not];have:=hqh.out;omega
       have hqm:¬ 0<q:=by have:=hqh.out;omega
       go_wp2_with fail
       refine wp_region_held_drew (S:=fun _=>True) (by kernel_rfl) (trivial) (fun S0=>?_)
       refine av 0 S0 ?_
       refine av 1 S0 ?_
       refine av 2 S0 ?_
       refine eG 3 S0 ?_
       refine eG 4 S0 ?_
       refine eG 5 S0 ?_
       refine eG 6 S0 ?_
       refine eG 7 S0 ?_
       refine eG 8 S0 ?_
       refine eG 9 S0 ?_
       refine eG 10 S0 ?_
       refine eG 11 S0 ?_
       refine eG 12 S0 ?_
       refine eG 13 S0 ?_
       refine eG 14 S0 ?_
       refine eG 15 S0 ?_
       refine eG 16 S0 ?_
       refine eG 17 S0 ?_
       refine eG 18 S0 ?_
       refine eG 19 S0 ?_
       refine eG 20 S0 ?_
       refine eG 21 S0 ?_
       refine eG 22 S0 ?_
       refine eG 23 S0 ?_
       refine eG 24 S0 ?_
       refine eG 25 S0 ?_
       refine eG 26 S0 ?_
       refine eG 27 S0 ?_
       refine eG 28 S0 ?_
       refine eG 29 S0 ?_
       refine eG 30 S0 ?_
       refine eG 31 S0 ?_
       refine eG 32 S0 ?_
       refine eG 33 S0 ?_
       refine av 34 S0 ?_
       refine wpAnyH_done (by kernel_rfl) ?_ _
       clear S0
       have hqc:q≤c3:=by have:=hq;omega
       have hqk:q≤k:=by have:=hq;omega
       go_wp2_with fail
       obtain⟨wy,tF⟩:=nm wz.drew
       rw [tF]
       have BY:Hid (Below wo.heap.size wo wy):=hid (by rw [← tF];exact (B2.out.trans (BZ.out.mono B2.out.size)).drew)
       have PY:Hid (wy.heap[wo.heap.size]?=some (.cells #[.int .u64 (tk.id:Int),.int .u64 (tk.list:Int),.string (str tk.title),.bool tk.done,.float .f64 tk.rank,.float .f64 tk.est,.slice A4 tk.tags.length c4] 64 (0,0))):=hid (by rw [← tF];exact PZ.out)
       have LY:Hid (au wy 0 64 (some ad) (ai xs)):=hid (by rw [← tF];exact LZ.out.drew)
       obtain⟨i0,hi,hz0,hz1,hz2⟩:=info_parts Tryz.infoTk9
       refine wp_region_held_drew (S:=fun u=>u.heap[wo.heap.size]?=some (.cells #[.int .u64 (tk.id:Int),.int .u64 (tk.list:Int),.string (str tk.title),.bool tk.done,.float .f64 tk.rank,.float .f64 tk.est,.slice A4 tk.tags.length c4] 64 (0,0))) (by kernel_rfl) (PY.out) (fun S0=>?_)
       refine av 0 S0 ?_
       refine av 1 S0 ?_
       refine av 2 S0 ?_
       refine av 3 S0 ?_
       refine av 4 S0 ?_ (hy:=by intro u hu;obtain⟨p0,p1,p2,p3,p4,p5,p6⟩:=ak hu;go_simp;try rfl)
       refine av 6 S0 ?_
       refine av 7 S0 ?_
       refine av 8 S0 ?_
       refine fw 5 fun K hK=>?_
       have hbs:=eu (⟨tk,A4,c4⟩:aN) wy.drew
       go_simp
       clear hbs
       have S1:=bu S0 (.cells #[.int .u64 (tk.id:Int),.int .u64 (tk.list:Int),.string (str tk.title),.bool tk.done,.float .f64 tk.rank,.float .f64 tk.est,.slice A4 tk.tags.length c4] 64)
       refine hK _ _ S1 ?_
       clear hK K S0
       have S0:=S1
       clear S1
       try simp only [Act.put,pS]
       obtain⟨u5,iw⟩:=nm ((wy.alloc (.cells #[.int .u64 (tk.id:Int),.int .u64 (tk.list:Int),.string (str tk.title),.bool tk.done,.float .f64 tk.rank,.float .f64 tk.est,.slice A4 tk.tags.length c4] 64)).drew)
       rw [iw]
       clear S0
       have S0:u5.heap[wo.heap.size]?=some (.cells #[.int .u64 (tk.id:Int),.int .u64 (tk.list:Int),.string (str tk.title),.bool tk.done,.float .f64 tk.rank,.float .f64 tk.est,.slice A4 tk.tags.length c4] 64 (0,0)):=by rw [← iw];exact bu PY.out _
       have lC:u5.ownsRow wy.heap.size 64 7 (.slice (some ⟨wy.heap.size,0,none⟩) 1 1) 1 (aA (⟨tk,A4,c4⟩:aN)):=by
        have o5:=gX (w:=wy) (e:=64) (xs:=aA (⟨tk,A4,c4⟩:aN)) rfl (rfl:(aA (⟨tk,A4,c4⟩:aN)).length=7)
        rw [← iw]
        exact o5
       have B5:Below wy.heap.size wy u5:=by rw [← iw];exact ((Below.refl wy.heap.size wy).alloc (Nat.le_refl _) _).drew
       have L5:au u5 u5.heap.size 0 (if c3=q then some ad else (some ad).map (·.add (q * 7))) (ai (xs.drop q)):=by
        rw [← fP]
        exact ((au.stay LY.out.old B5).Dy 7 q c3 (by decide) (by rw [aP,HI.out.2.1];exact Nat.mul_le_mul_right _ hkc))
       have di:(ai (xs.drop q)).length=(k - q) * 7:=by rw [aP,List.length_drop,HI.out.2.1]
       have dn:∀ v∈(ai (xs.drop q)),v.oneCell'=true:=cB _
       have mF:∀ z,(Value.slice (some ⟨wy.heap.size,0,none⟩) 1 1).ownBlock=some z→wy.heap.size≤z:=fun z e=>by injection e with e;rw [← e];exact Nat.le_refl _
       refine fw 9 fun K hK=>?_
       refine eT rfl _ _ 24 rfl wy.heap.size 64 i0 _ 7 80 underlying24 hi hz0 hz1 hz2 rfl (by decide) _ 1 (aA (⟨tk,A4,c4⟩:aN)) rfl lC u5.heap.size _ (k - q) (c3 - q) (ai (xs.drop q)) 0 rfl di L5 dn (by unfold maxLen;omega) (by omega) B5.size ?_
       intro v6 w6 hown6 aX fA
       obtain⟨A6,k6,rfl⟩:=aD hown6
       obtain⟨a6,tC,_,hc6⟩:=(aH (B:=0) hown6) (by simp [aA])
       subst tC
       have B6:Below wy.heap.size wy w6:=B5.grown aX B5.size mF
       have S1:w6.heap[wo.heap.size]?=some (.cells #[.int .u64 (tk.id:Int),.int .u64 (tk.list:Int),.string (str tk.title),.bool tk.done,.float .f64 tk.rank,.float .f64 tk.est,.slice A4 tk.tags.length c4] 64 (0,0)):=(B6.block _ (lt_of_block PY.out)).trans PY.out
       refine hK _ _ S1 ?_
       clear aX fA L5 di dn mF B5 lC
       clear hK K S0
       have S0:=S1
       clear S1
       try simp only [Act.put,pS]
       have L6:au w6 w6.heap.size 0 (some ad) (ai (xs.take q)):=by
        rw [← eU]
        exact (au.stay LY.out.old B6).take _
       have dm:(ai (xs.take q)).length=q * 7:=by rw [aP,List.length_take,HI.out.2.1,Nat.min_eq_left (by omega)]
       refine fw 10 fun K hK=>?_
       refine fF rfl _ _ 24 rfl wy.heap.size 64 i0 _ 7 80 underlying24 hi hz0 hz1 hz2 rfl w6.heap.size 0 (some ad) q (ai (xs.take q)) rfl dm L6 (by intro z;first | rfl | cases z) a6 (1+(k - q)) k6 (aA (⟨tk,A4,c4⟩:aN)++(ai (xs.drop q))) rfl hown6.1 hc6 (fC (dL _) (cB _)) (by omega) (by unfold maxLen;omega) (by omega) B6.size ?_
       intro v7 w7 bR bQ hblk7
       obtain⟨A7,k7,rfl⟩:=aD bR
       have B7:Below wy.heap.size wy w7:=B6.grown bQ B6.size (fun z e=>by cases e)
       have S1:w7.heap[wo.heap.size]?=some (.cells #[.int .u64 (tk.id:Int),.int .u64 (tk.list:Int),.string (str tk.title),.bool tk.done,.float .f64 tk.rank,.float .f64 tk.est,.slice A4 tk.tags.length c4] 64 (0,0)):=(B7.block _ (lt_of_block PY.out)).trans PY.out
       refine hK _ _ S1 ?_
       clear bQ L6 dm
       clear hK K S0
       have S0:=S1
       clear S1
       try simp only [Act.put,pS]
       refine av 11 S0 ?_
       refine wpAnyH_done (by kernel_rfl) ?_ _
       clear S0
       have mE:=hid bR
       have pu:=hid B7
       have sZ:=hid hblk7
       clear bR B7 hblk7 hown6 hc6 B6
       generalize (if c3=q then some ad else some (ad.add (q * 7)))=A8
       go_wp2
       go_roundw
       case rel =>
        have Cz:Below wo.heap.size wo w7:=BY.out.trans (pu.out.mono BY.out.size)
        have iJ:(xs.take q++(⟨tk,A4,c4⟩:aN) :: xs.drop q).length=q+(1+(k - q)):=by rw [List.length_append,List.length_cons,List.length_take,List.length_drop,HI.out.2.1,Nat.min_eq_left (by omega)];omega
        have CELLS:ai (xs.take q++(⟨tk,A4,c4⟩:aN) :: xs.drop q)=(ai (xs.take q))++(aA (⟨tk,A4,c4⟩:aN)++(ai (xs.drop q))):=by simp [ai]
        refine⟨i+1,q+(1+(k - q)),A7,k7,xs.take q++(⟨tk,A4,c4⟩:aN) :: xs.drop q,by go_num,by omega,rfl,by omega,(aO mE.out).2,BR.out.trans (Cz.mono BR.out.size),hid ⟨?_,iJ,?_,fun m hm=>?_,fun z=>by subst z;cases sZ.out⟩⟩
        ·rw [CELLS]
         exact aH (B:=0) mE.out
        ·rw [TKO.out,← HI.out.2.2.1]
         exact INS.out
        ·have hm2:m=(⟨tk,A4,c4⟩:aN)∨m∈xs:=by
          rcases List.mem_append.1 hm with h | h
          ·exact .inr (List.mem_of_mem_take h)
          ·rcases List.mem_cons.1 h with h | h
           ·exact .inl h
           ·exact .inr (List.mem_of_mem_drop h)
         rcases hm2 with rfl | h
         ·exact FT.out.stay Cz
         ·exact (HI.out.2.2.2.1 m h).stay Cz
       case measure=>simp [intOf];omega
   ·have f1:((tk.list:Int) != (list:Int))=true:=by simp;omega
    have TKO:Hid (T9.lw (ay (ms.take (i+1))) list=T9.lw (ay (ms.take i)) list):=hid (by rw [wO.out,T9.xN,if_neg h1])
    clear h1
    go_wp2
    go_roundw
    case rel=>exact⟨i+1,k,A3,c3,xs,by go_num,by omega,rfl,by omega,hkc,BR.out.trans (B2.out.mono BR.out.size),hid ⟨bG HI.out.1 B2.out,HI.out.2.1,by rw [TKO.out];exact HI.out.2.2.1,fun m hm=>(HI.out.2.2.2.1 m hm).stay B2.out,HI.out.2.2.2.2⟩⟩
    case measure=>simp [intOf];omega
  ·obtain rfl:i=n:=by omega
   have hltz:¬ ((i:Int)<(i:Int)):=by omega
   have XT:Hid (ay xs=T9.lw (ay ms) list):=hid (by rw [HI.out.2.2.1,HN.out,List.take_length])
   go_wp2
   go_ret
   exact⟨A3,c3,xs,by rw [HI.out.2.1];rfl,HI.out.1,HI.out.2.2.2.1,by rw [HI.out.2.1];exact hkc,HI.out.2.2.2.2,XT.out,B1.out.trans (BR.out.mono B1.out.size)⟩
end
end Go.Proofs.YtcmiompdjjiojaaGreat
