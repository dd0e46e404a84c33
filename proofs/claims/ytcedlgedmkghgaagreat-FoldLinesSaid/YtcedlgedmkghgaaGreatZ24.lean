import Derived.Test.YtcedlgedmkghgaaGreatZ14
import Derived.Test.YtcedlgedmkghgaaGreatZ23
import Derived.Test.YtcedlgedmkghgaaGreatZ19
namespace Go.Proofs.YtcedlgedmkghgaaGreat
set_option maxHeartbeats 16000000
open Go.Lib Go.Proofs.Tryz
set_option linter.unusedSimpArgs false
set_option maxRecDepth 100000
section
open Go.RowKit Go.Lib
def OrdOk11 (ts:List T9.Tk) (w:World) (e:Ending) (w':World):Prop:=∃ A c ms,e=.returned (.slice A ms.length c)∧au w' 0 74 A (ai ms)∧(∀ m∈ms,m.bU w')∧ms.length≤c∧(A=none→c=0)∧ay ms=ts∧Below w.heap.size w w'
def ltRM (a b:aL):Bool:=T9.kT a.t b.t
theorem Cw {a b:T9.Tk} (h:T9.kT a b=false) (hi:a.id≠b.id):T9.kT b a=true:=by
 rw [T9.rD] at h
 rw [T9.mU]
 omega
theorem ltR_or (a b:T9.Tk):T9.kT a b=(Fl.lt a.rank b.rank || Fl.same a.rank b.rank && decide (a.id<b.id)):=by
 rw [Bool.eq_iff_iff,T9.mU,Bool.or_eq_true,Bool.and_eq_true,Fl.rE,Fl.EG,decide_eq_true_iff]
theorem sj {l:List aL} {y:aL} {q:Nat} (h:l[q - 1]?=some y) (hq:0<q):l.drop (q - 1)=y :: l.drop q:=by
 obtain⟨hi,e⟩:=List.getElem?_eq_some_iff.1 h
 rw [List.drop_eq_getElem_cons hi,e,show q - 1+1=q by omega]
theorem Bi {A1 A:Option Addr} {n1 c1 n c:Nat} {ms:List aL} {w:World} (hk:KL w A ms) (hf:∀ m∈ms,m.bU w) (hn:n=ms.length) (hs:n≤1000) (list:Nat) (hu:T9.rq (ay ms)) (hr:∀ m∈ms,m.t.rank<18446744073709551616) :
  Calls prog 188 #[.agg #[.slice A1 n1 c1,.slice A n c],.int .u64 (list:Int)] w (OrdOk11 (T9.kJ (ay ms) list) w):=by
 have HN:=hid hn
 have HU:=hid hu
 have HR:=hid hr
 obtain⟨w1,hw1⟩:∃ u,w.alloc (.cells #[.slice A1 n1 c1,.slice A n c] 25)=u:=⟨_,rfl⟩
 obtain⟨pb,b1,z1⟩:=ak hw1
 obtain⟨p0,p1⟩:=aa pb
 have HK:=hid (hk.stay b1)
 have HF:Hid (∀ m∈ms,m.bU w1):=hid fun m hm=>(hf m hm).stay b1
 have B1:=hid b1
 clear hk hf hn hu hr pb b1 z1
 go_enter func188,ntmps188
 go_wp2
 go_loopw [5,12] (fun s5 s12 wr=>∃ (i k:Nat) (A3:Option Addr) (c3:Nat) (xs:List aL),s12=.int .i64 i∧i≤n∧s5=.slice A3 k c3∧k≤i∧k≤c3∧Aside (Below w1.heap.size w1 wr)∧Hid (au wr 0 74 A3 (ai xs)∧xs.length=k∧ay xs=T9.kJ (ay (ms.take i)) list∧(∀ m∈xs,m.bU wr)∧(A3=none→c3=0))) (fun _ s12 _=>n - (intOf s12).toNat)
 case atStart=>exact⟨0,0,none,0,[],rfl,Nat.zero_le _,rfl,Nat.le_refl _,Nat.le_refl _,Below.refl _ _,hid ⟨au.nil,rfl,rfl,by simp,fun _=>rfl⟩⟩
 case round =>
  obtain⟨i,k,A3,c3,xs,rfl,hi,rfl,hki,hkc,hB,HI⟩:=hrel
  obtain⟨wo,hwo⟩:∃ u,u=wr:=⟨_,rfl⟩
  subst hwo
  have BR:=hid hB.out
  clear hB
  by_cases hlt:i<n
  ·have hltz:(i:Int)<(n:Int):=by omega
   obtain⟨ad,⟨tk,A4,c4⟩,hA,hx,hf,r0,r1,r2,r3,r4,r5,r6⟩:=(HK.out.stay BR.out).at_ (k:=i) (by have:=HN.out;omega)
   subst hA
   have X:=hid hx
   have FT:Hid (aL.bU ⟨tk,A4,c4⟩ wo):=hid ((HF.out _ (List.mem_of_getElem? hx)).stay BR.out)
   dsimp only at r0 r1 r2 r3 r4 r5 r6
   obtain⟨w2,hw2⟩:∃ u,wo.alloc (.cells #[.int .u64 (tk.id:Int),.int .u64 (tk.list:Int),.string (str tk.title),.bool tk.done,.float .f64 tk.rank,.float .f64 tk.est,.slice A4 tk.tags.length c4] 74)=u:=⟨_,rfl⟩
   obtain⟨lb,b2,z2⟩:=bn hw2
   have B2:=hid b2
   have LB:=hid lb
   obtain⟨l0,l1,l2,l3,l4,l5,l6⟩:=aj lb
   have Z2:=hid z2
   have uA:Hid (ay (ms.take (i+1))=ay (ms.take i)++[tk]):=hid (by rw [bL X.out,fC])
   clear hx hf lb b2 z2
   by_cases h1:tk.list=list
   ·have f1:((tk.list:Int) != (list:Int))=false:=by simp;omega
    have f1b:((tk.list:Int)==(list:Int))=true:=by rw [h1];exact beq_self_eq_true _
    have TKO:Hid (T9.kJ (ay (ms.take (i+1))) list=Sr.ins T9.kT tk (T9.kJ (ay (ms.take i)) list)):=hid (by rw [uA.out,T9.vo,if_pos h1])
    have RK:Hid (tk.rank<18446744073709551616):=hid (HR.out _ (List.mem_of_getElem? X.out))
    have L2:=hid (bG HI.out.1 B2.out)
    clear h1
    go_wp2_with fail
    go_loopw [8] (fun s8 wz=>∃ q:Nat,s8=.int .i64 q∧q≤k∧Aside (Below w2.heap.size w2 wz)∧Hid (∀ y∈xs.drop q,ltRM ⟨tk,A4,c4⟩ y=true)) (fun s8 _=>(intOf s8).toNat)
    case atStart=>exact⟨k,rfl,Nat.le_refl _,Below.refl _ _,hid (by rw [← HI.out.2.1,List.drop_length];simp)⟩
    case round =>
     obtain⟨q,rfl,hq,hB,HQ⟩:=hrel
     obtain⟨wz,hwz⟩:∃ u,u=wr:=⟨_,rfl⟩
     subst hwz
     have BZ:=hid hB.out
     have LZ:=hid (bG L2.out BZ.out)
     have PZ:=hid (ae LB.out BZ.out)
     obtain⟨l0,l1,l2,l3,l4,l5,l6⟩:=aj PZ.out
     clear hB
     by_cases hq0:0<q
     ·have hqz:(0:Int)<(q:Int):=by omega
      have hqd:decide ((0:Int)<(q:Int))=true:=decide_eq_true hqz
      have hqn:decide (0<q)=true:=decide_eq_true hq0
      have y1:(0:Int)≤(q:Int) - 1:=by omega
      have y1':(1:Int)≤(q:Int):=by omega
      have y2:(q:Int) - 1<(k:Int):=by omega
      have y3:((q:Int) - 1).toNat=q - 1:=by omega
      have y4:IntKind.i64.wrap ((q:Int) - 1)=(q:Int) - 1:=by rw [IntKind.wrap_i64];omega
      have KX:Hid (KL wz A3 xs):=hid ⟨LZ.out.old,fun m hm=>((HI.out.2.2.2.1 m hm).stay (B2.out.trans (BZ.out.mono B2.out.size))).fine⟩
      obtain⟨pV,⟨yk,A5,c5⟩,hA,hy,_,s0,s1,s2,s3,s4,s5,s6⟩:=KX.out.at_ (k:=q - 1) (by have:=HI.out.2.1;omega)
      subst hA
      have Y:=hid hy
      dsimp only at s0 s4
      have YM:Hid (yk∈T9.kJ (ay (ms.take i)) list):=hid (by rw [← HI.out.2.2.1];exact List.mem_map.2 ⟨_,List.mem_of_getElem? hy,rfl⟩)
      have YN:Hid (tk.id≠yk.id∧yk.rank<18446744073709551616):=hid (by
       obtain⟨m2,hm2,e2⟩:=List.mem_map.1 (T9.Ik YM.out).1
       refine⟨fun z=>?_,by rw [← e2];exact HR.out m2 (List.mem_of_mem_take hm2)⟩
       have:=T9.Jr (l:=ay ms) (t:=tk) (i:=i) HU.out (gZ X.out) (y:=yk) (by rw [← e2,ay,← List.map_take];exact List.mem_map.2 ⟨m2,hm2,rfl⟩)
       exact this z.symm)
      have ha:tk.rank<18446744073709551616:=RK.out
      have hb:yk.rank<18446744073709551616:=YN.out.2
      clear hy s1 s2 s3 s5 s6
      obtain⟨bl,hbl⟩:∃ b,Fl.lt tk.rank yk.rank=b:=⟨_,rfl⟩
      obtain⟨bs,hbs⟩:∃ b,Fl.same tk.rank yk.rank=b:=⟨_,rfl⟩
      obtain⟨bi,hbi⟩:∃ b,decide ((tk.id:Int)<(yk.id:Int))=b:=⟨_,rfl⟩
      have VB:Hid (T9.kT tk yk=(bl || bs && bi)):=hid (by
       rw [ltR_or,hbl,hbs,← hbi]
       congr 2
       rw [decide_eq_decide]
       omega)
      have BI2:decide (tk.id<yk.id)=bi:=by rw [← hbi,decide_eq_decide];omega
      have LC:=hid (Ex tk.rank yk.rank wz.drew ha hb)
      have SC:=hid (iH tk.rank yk.rank wz.drew ha hb)
      rw [hbl] at LC
      rw [hbs] at SC
      have YI:=hid YN.out.1
      clear hbl hbs ha hb
      cases bl with
      | true =>
       have VT:Hid (T9.kT tk yk=true):=hid (by rw [VB.out];rfl)
       go_wp2_with fail
       refine wp_region_held_drew (S:=fun u=>u.cell? ⟨wo.heap.size,4,none⟩=some (.float .f64 tk.rank)∧u.cell? ⟨wo.heap.size,0,none⟩=some (.int .u64 (tk.id:Int))∧u.cell? ⟨(pV.add ((q - 1) * 7)).block,(pV.add ((q - 1) * 7)).off+4,none⟩=some (.float .f64 yk.rank)∧u.cell? (pV.add ((q - 1) * 7))=some (.int .u64 (yk.id:Int))) (by kernel_rfl) ((⟨l4,l0,s4,s0⟩:wz.drew.cell? _=_∧_)) (fun S0=>?_)
       refine aK 0 ?_ rfl (by kernel_rfl) rfl ?_ S0 ?_
       rotate_left
       ·intro u hu;go_simp;try rfl
       try simp only [Act.put,pS]
       refine aK 1 ?_ rfl (by kernel_rfl) rfl ?_ S0 ?_
       rotate_left
       ·intro u hu;go_simp;try rfl
       try simp only [Act.put,pS]
       refine aK 2 ?_ rfl (by kernel_rfl) rfl ?_ S0 ?_
       rotate_left
       ·intro u hu;go_simp;try rfl
       try simp only [Act.put,pS]
       refine aK 3 ?_ rfl (by kernel_rfl) rfl ?_ S0 ?_
       rotate_left
       ·intro u hu;go_simp;try rfl
       try simp only [Act.put,pS]
       refine aK 4 ?_ rfl (by kernel_rfl) rfl ?_ S0 ?_
       rotate_left
       ·intro u hu;obtain⟨h1,h2,h3,h4⟩:=hu;go_simp;try rfl
       try simp only [Act.put,pS]
       refine aK 5 ?_ rfl (by kernel_rfl) rfl ?_ S0 ?_
       rotate_left
       ·intro u hu;go_simp;try rfl
       try simp only [Act.put,pS]
       refine aK 6 ?_ rfl (by kernel_rfl) rfl ?_ S0 ?_
       rotate_left
       ·intro u hu;go_simp;try rfl
       try simp only [Act.put,pS]
       refine aK 7 ?_ rfl (by kernel_rfl) rfl ?_ S0 ?_
       rotate_left
       ·intro u hu;go_simp;try rfl
       try simp only [Act.put,pS]
       refine aK 8 ?_ rfl (by kernel_rfl) rfl ?_ S0 ?_
       rotate_left
       ·intro u hu;go_simp;try rfl
       try simp only [Act.put,pS]
       refine aK 9 ?_ rfl (by kernel_rfl) rfl ?_ S0 ?_
       rotate_left
       ·intro u hu;go_simp;try rfl
       try simp only [Act.put,pS]
       refine aK 10 ?_ rfl (by kernel_rfl) rfl ?_ S0 ?_
       rotate_left
       ·intro u hu;obtain⟨h1,h2,h3,h4⟩:=hu;go_simp;try rfl
       try simp only [Act.put,pS]
       refine ax (i:=11) (by kernel_rfl) rfl (fun K hK=>?_)
       go_simp
       refine (LC.out).mono ?_
       rintro e w' ⟨rfl,rfl⟩
       have S1:=S0
       refine hK _ _ S1 ?_
       clear hK K S0
       have S0:=S1
       clear S1
       try simp only [Act.put,pS]
       refine aK 12 ?_ rfl (by kernel_rfl) rfl ?_ S0 ?_
       rotate_left
       ·intro u hu;go_simp;try rfl
       try simp only [Act.put,pS]
       refine eF 13 rfl (by kernel_rfl) rfl S0 ?_
       try simp only [Act.put,pS]
       refine eF 14 rfl (by kernel_rfl) rfl S0 ?_
       try simp only [Act.put,pS]
       refine eF 15 rfl (by kernel_rfl) rfl S0 ?_
       try simp only [Act.put,pS]
       refine eF 16 rfl (by kernel_rfl) rfl S0 ?_
       try simp only [Act.put,pS]
       refine eF 17 rfl (by kernel_rfl) rfl S0 ?_
       try simp only [Act.put,pS]
       refine eF 18 rfl (by kernel_rfl) rfl S0 ?_
       try simp only [Act.put,pS]
       refine eF 19 rfl (by kernel_rfl) rfl S0 ?_
       try simp only [Act.put,pS]
       refine eF 20 rfl (by kernel_rfl) rfl S0 ?_
       try simp only [Act.put,pS]
       refine eF 21 rfl (by kernel_rfl) rfl S0 ?_
       try simp only [Act.put,pS]
       refine eF 22 rfl (by kernel_rfl) rfl S0 ?_
       try simp only [Act.put,pS]
       refine eF 23 rfl (by kernel_rfl) rfl S0 ?_
       try simp only [Act.put,pS]
       refine eF 24 rfl (by kernel_rfl) rfl S0 ?_
       try simp only [Act.put,pS]
       refine eF 25 rfl (by kernel_rfl) rfl S0 ?_
       try simp only [Act.put,pS]
       refine eF 26 rfl (by kernel_rfl) rfl S0 ?_
       try simp only [Act.put,pS]
       refine eF 27 rfl (by kernel_rfl) rfl S0 ?_
       try simp only [Act.put,pS]
       refine eF 28 rfl (by kernel_rfl) rfl S0 ?_
       try simp only [Act.put,pS]
       refine eF 29 rfl (by kernel_rfl) rfl S0 ?_
       try simp only [Act.put,pS]
       refine eF 30 rfl (by kernel_rfl) rfl S0 ?_
       try simp only [Act.put,pS]
       refine eF 31 rfl (by kernel_rfl) rfl S0 ?_
       try simp only [Act.put,pS]
       refine eF 32 rfl (by kernel_rfl) rfl S0 ?_
       try simp only [Act.put,pS]
       refine aK 33 ?_ rfl (by kernel_rfl) rfl ?_ S0 ?_
       rotate_left
       ·intro u hu;go_simp;try rfl
       try simp only [Act.put,pS]
       refine aK 34 ?_ rfl (by kernel_rfl) rfl ?_ S0 ?_
       rotate_left
       ·intro u hu;go_simp;try rfl
       try simp only [Act.put,pS]
       refine wpAnyH_done (by kernel_rfl) ?_ _
       clear S0
       go_wp2
       go_roundw
       case rel=>exact⟨q - 1,by go_num,by omega,BZ.out.drew,hid fun y hy=>by
        rw [sj Y.out (by omega)] at hy
        rcases List.mem_cons.1 hy with h | h
        ·subst h
         exact VT.out
        ·exact HQ.out y h⟩
       case measure=>simp [intOf];omega
      | false =>
       cases bs with
       | false =>
        have VF:Hid (T9.kT tk yk=false):=hid (by rw [VB.out];rfl)
        have INS:Hid (ay (xs.take q++(⟨tk,A4,c4⟩:aL) :: xs.drop q)=Sr.ins T9.kT tk (ay xs)):=hid (by
         have st:Sr.Str T9.kT (ay xs):=by rw [HI.out.2.2.1];exact (Sr.gp T9.EO _).1
         rw [Sr.sM T9.EO (k:=q) st (by rw [aI,HI.out.2.1];exact hq) (fun y hy=>?_) (fun y h0 hy=>?_)]
         ·simp [ay,List.map_take,List.map_drop]
         ·unfold ay at hy
          rw [← List.map_drop] at hy
          obtain⟨m2,hm2,rfl⟩:=List.mem_map.1 hy
          exact HQ.out m2 hm2
         ·have e:yk=y:=by
           have z:=gZ Y.out
           rw [z] at hy
           injection hy
          rw [← e]
          exact Cw VF.out YI.out)
        go_wp2_with fail
        refine wp_region_held_drew (S:=fun u=>u.cell? ⟨wo.heap.size,4,none⟩=some (.float .f64 tk.rank)∧u.cell? ⟨wo.heap.size,0,none⟩=some (.int .u64 (tk.id:Int))∧u.cell? ⟨(pV.add ((q - 1) * 7)).block,(pV.add ((q - 1) * 7)).off+4,none⟩=some (.float .f64 yk.rank)∧u.cell? (pV.add ((q - 1) * 7))=some (.int .u64 (yk.id:Int))) (by kernel_rfl) ((⟨l4,l0,s4,s0⟩:wz.drew.cell? _=_∧_)) (fun S0=>?_)
        refine aK 0 ?_ rfl (by kernel_rfl) rfl ?_ S0 ?_
        rotate_left
        ·intro u hu;go_simp;try rfl
        try simp only [Act.put,pS]
        refine aK 1 ?_ rfl (by kernel_rfl) rfl ?_ S0 ?_
        rotate_left
        ·intro u hu;go_simp;try rfl
        try simp only [Act.put,pS]
        refine aK 2 ?_ rfl (by kernel_rfl) rfl ?_ S0 ?_
        rotate_left
        ·intro u hu;go_simp;try rfl
        try simp only [Act.put,pS]
        refine aK 3 ?_ rfl (by kernel_rfl) rfl ?_ S0 ?_
        rotate_left
        ·intro u hu;go_simp;try rfl
        try simp only [Act.put,pS]
        refine aK 4 ?_ rfl (by kernel_rfl) rfl ?_ S0 ?_
        rotate_left
        ·intro u hu;obtain⟨h1,h2,h3,h4⟩:=hu;go_simp;try rfl
        try simp only [Act.put,pS]
        refine aK 5 ?_ rfl (by kernel_rfl) rfl ?_ S0 ?_
        rotate_left
        ·intro u hu;go_simp;try rfl
        try simp only [Act.put,pS]
        refine aK 6 ?_ rfl (by kernel_rfl) rfl ?_ S0 ?_
        rotate_left
        ·intro u hu;go_simp;try rfl
        try simp only [Act.put,pS]
        refine aK 7 ?_ rfl (by kernel_rfl) rfl ?_ S0 ?_
        rotate_left
        ·intro u hu;go_simp;try rfl
        try simp only [Act.put,pS]
        refine aK 8 ?_ rfl (by kernel_rfl) rfl ?_ S0 ?_
        rotate_left
        ·intro u hu;go_simp;try rfl
        try simp only [Act.put,pS]
        refine aK 9 ?_ rfl (by kernel_rfl) rfl ?_ S0 ?_
        rotate_left
        ·intro u hu;go_simp;try rfl
        try simp only [Act.put,pS]
        refine aK 10 ?_ rfl (by kernel_rfl) rfl ?_ S0 ?_
        rotate_left
        ·intro u hu;obtain⟨h1,h2,h3,h4⟩:=hu;go_simp;try rfl
        try simp only [Act.put,pS]
        refine ax (i:=11) (by kernel_rfl) rfl (fun K hK=>?_)
        go_simp
        refine (LC.out).mono ?_
        rintro e w' ⟨rfl,rfl⟩
        have S1:=S0
        refine hK _ _ S1 ?_
        clear hK K S0
        have S0:=S1
        clear S1
        try simp only [Act.put,pS]
        refine aK 12 ?_ rfl (by kernel_rfl) rfl ?_ S0 ?_
        rotate_left
        ·intro u hu;go_simp;try rfl
        try simp only [Act.put,pS]
        refine aK 13 ?_ rfl (by kernel_rfl) rfl ?_ S0 ?_
        rotate_left
        ·intro u hu;go_simp;try rfl
        try simp only [Act.put,pS]
        refine aK 14 ?_ rfl (by kernel_rfl) rfl ?_ S0 ?_
        rotate_left
        ·intro u hu;obtain⟨h1,h2,h3,h4⟩:=hu;go_simp;try rfl
        try simp only [Act.put,pS]
        refine aK 15 ?_ rfl (by kernel_rfl) rfl ?_ S0 ?_
        rotate_left
        ·intro u hu;go_simp;try rfl
        try simp only [Act.put,pS]
        refine aK 16 ?_ rfl (by kernel_rfl) rfl ?_ S0 ?_
        rotate_left
        ·intro u hu;go_simp;try rfl
        try simp only [Act.put,pS]
        refine aK 17 ?_ rfl (by kernel_rfl) rfl ?_ S0 ?_
        rotate_left
        ·intro u hu;go_simp;try rfl
        try simp only [Act.put,pS]
        refine aK 18 ?_ rfl (by kernel_rfl) rfl ?_ S0 ?_
        rotate_left
        ·intro u hu;go_simp;try rfl
        try simp only [Act.put,pS]
        refine aK 19 ?_ rfl (by kernel_rfl) rfl ?_ S0 ?_
        rotate_left
        ·intro u hu;go_simp;try rfl
        try simp only [Act.put,pS]
        refine aK 20 ?_ rfl (by kernel_rfl) rfl ?_ S0 ?_
        rotate_left
        ·intro u hu;obtain⟨h1,h2,h3,h4⟩:=hu;go_simp;try rfl
        try simp only [Act.put,pS]
        refine ax (i:=21) (by kernel_rfl) rfl (fun K hK=>?_)
        go_simp
        refine (SC.out).mono ?_
        rintro e w' ⟨rfl,rfl⟩
        have S1:=S0
        refine hK _ _ S1 ?_
        clear hK K S0
        have S0:=S1
        clear S1
        try simp only [Act.put,pS]
        refine aK 22 ?_ rfl (by kernel_rfl) rfl ?_ S0 ?_
        rotate_left
        ·intro u hu;go_simp;try rfl
        try simp only [Act.put,pS]
        refine eF 23 rfl (by kernel_rfl) rfl S0 ?_
        try simp only [Act.put,pS]
        refine eF 24 rfl (by kernel_rfl) rfl S0 ?_
        try simp only [Act.put,pS]
        refine eF 25 rfl (by kernel_rfl) rfl S0 ?_
        try simp only [Act.put,pS]
        refine eF 26 rfl (by kernel_rfl) rfl S0 ?_
        try simp only [Act.put,pS]
        refine eF 27 rfl (by kernel_rfl) rfl S0 ?_
        try simp only [Act.put,pS]
        refine eF 28 rfl (by kernel_rfl) rfl S0 ?_
        try simp only [Act.put,pS]
        refine eF 29 rfl (by kernel_rfl) rfl S0 ?_
        try simp only [Act.put,pS]
        refine eF 30 rfl (by kernel_rfl) rfl S0 ?_
        try simp only [Act.put,pS]
        refine eF 31 rfl (by kernel_rfl) rfl S0 ?_
        try simp only [Act.put,pS]
        refine aK 32 ?_ rfl (by kernel_rfl) rfl ?_ S0 ?_
        rotate_left
        ·intro u hu;go_simp;try rfl
        try simp only [Act.put,pS]
        refine aK 33 ?_ rfl (by kernel_rfl) rfl ?_ S0 ?_
        rotate_left
        ·intro u hu;go_simp;try rfl
        try simp only [Act.put,pS]
        refine aK 34 ?_ rfl (by kernel_rfl) rfl ?_ S0 ?_
        rotate_left
        ·intro u hu;go_simp;try rfl
        try simp only [Act.put,pS]
        refine wpAnyH_done (by kernel_rfl) ?_ _
        clear S0
        have hqc:q≤c3:=by have:=hq;omega
        have hqk:q≤k:=by have:=hq;omega
        go_wp2_with fail
        obtain⟨wy,qY⟩:∃ u,wz.drew=u:=⟨_,rfl⟩
        rw [qY]
        have BY:Hid (Below wo.heap.size wo wy):=hid (by rw [← qY];exact (B2.out.trans (BZ.out.mono B2.out.size)).drew)
        have PY:Hid (wy.heap[wo.heap.size]?=some (.cells #[.int .u64 (tk.id:Int),.int .u64 (tk.list:Int),.string (str tk.title),.bool tk.done,.float .f64 tk.rank,.float .f64 tk.est,.slice A4 tk.tags.length c4] 74 (0,0))):=hid (by rw [← qY];exact PZ.out)
        have LY:Hid (au wy 0 74 (some pV) (ai xs)):=hid (by rw [← qY];exact LZ.out.drew)
        obtain⟨i0,hi,hz0,hz1,hz2⟩:=info_parts Tryz.infoTk9
        refine wp_region_held_drew (S:=fun u=>u.heap[wo.heap.size]?=some (.cells #[.int .u64 (tk.id:Int),.int .u64 (tk.list:Int),.string (str tk.title),.bool tk.done,.float .f64 tk.rank,.float .f64 tk.est,.slice A4 tk.tags.length c4] 74 (0,0))) (by kernel_rfl) (PY.out) (fun S0=>?_)
        refine aK 0 ?_ rfl (by kernel_rfl) rfl ?_ S0 ?_
        rotate_left
        ·intro u hu;go_simp;try rfl
        try simp only [Act.put,pS]
        refine aK 1 ?_ rfl (by kernel_rfl) rfl ?_ S0 ?_
        rotate_left
        ·intro u hu;go_simp;try rfl
        try simp only [Act.put,pS]
        refine aK 2 ?_ rfl (by kernel_rfl) rfl ?_ S0 ?_
        rotate_left
        ·intro u hu;go_simp;try rfl
        try simp only [Act.put,pS]
        refine aK 3 ?_ rfl (by kernel_rfl) rfl ?_ S0 ?_
        rotate_left
        ·intro u hu;go_simp;try rfl
        try simp only [Act.put,pS]
        refine aK 4 ?_ rfl (by kernel_rfl) rfl ?_ S0 ?_
        rotate_left
        ·intro u hu;obtain⟨p0,p1,p2,p3,p4,p5,p6⟩:=aj hu;go_simp;try rfl
        try simp only [Act.put,pS]
        refine aK 6 ?_ rfl (by kernel_rfl) rfl ?_ S0 ?_
        rotate_left
        ·intro u hu;go_simp;try rfl
        try simp only [Act.put,pS]
        refine aK 7 ?_ rfl (by kernel_rfl) rfl ?_ S0 ?_
        rotate_left
        ·intro u hu;go_simp;try rfl
        try simp only [Act.put,pS]
        refine aK 8 ?_ rfl (by kernel_rfl) rfl ?_ S0 ?_
        rotate_left
        ·intro u hu;go_simp;try rfl
        try simp only [Act.put,pS]
        refine ax (i:=5) (by kernel_rfl) rfl (fun K hK=>?_)
        have hbs:=dZ (⟨tk,A4,c4⟩:aL) wy.drew
        go_simp
        clear hbs
        have S1:=aY S0 (.cells #[.int .u64 (tk.id:Int),.int .u64 (tk.list:Int),.string (str tk.title),.bool tk.done,.float .f64 tk.rank,.float .f64 tk.est,.slice A4 tk.tags.length c4] 74)
        refine hK _ _ S1 ?_
        clear hK K S0
        have S0:=S1
        clear S1
        try simp only [Act.put,pS]
        obtain⟨u5,iL⟩:∃ u,(wy.alloc (.cells #[.int .u64 (tk.id:Int),.int .u64 (tk.list:Int),.string (str tk.title),.bool tk.done,.float .f64 tk.rank,.float .f64 tk.est,.slice A4 tk.tags.length c4] 74)).drew=u:=⟨_,rfl⟩
        rw [iL]
        clear S0
        have S0:u5.heap[wo.heap.size]?=some (.cells #[.int .u64 (tk.id:Int),.int .u64 (tk.list:Int),.string (str tk.title),.bool tk.done,.float .f64 tk.rank,.float .f64 tk.est,.slice A4 tk.tags.length c4] 74 (0,0)):=by rw [← iL];exact aY PY.out _
        have kG:u5.ownsRow wy.heap.size 74 7 (.slice (some ⟨wy.heap.size,0,none⟩) 1 1) 1 (az (⟨tk,A4,c4⟩:aL)):=by
         have o5:=gN (w:=wy) (e:=74) (xs:=az (⟨tk,A4,c4⟩:aL)) rfl (rfl:(az (⟨tk,A4,c4⟩:aL)).length=7)
         rw [← iL]
         exact o5
        have B5:Below wy.heap.size wy u5:=by rw [← iL];exact ((Below.refl wy.heap.size wy).alloc (Nat.le_refl _) _).drew
        have L5:au u5 u5.heap.size 0 (if c3=q then some pV else (some pV).map (·.add (q * 7))) (ai (xs.drop q)):=by
         rw [← fI]
         exact ((au.stay LY.out.old B5).AA 7 q c3 (by decide) (by rw [aQ,HI.out.2.1];exact Nat.mul_le_mul_right _ hkc))
        have dh:(ai (xs.drop q)).length=(k - q) * 7:=by rw [aQ,List.length_drop,HI.out.2.1]
        have dm:∀ v∈(ai (xs.drop q)),v.oneCell'=true:=cB _
        have lG:∀ z,(Value.slice (some ⟨wy.heap.size,0,none⟩) 1 1).ownBlock=some z→wy.heap.size≤z:=fun z e=>by injection e with e;rw [← e];exact Nat.le_refl _
        refine ax (i:=9) (by kernel_rfl) rfl (fun K hK=>?_)
        refine eP rfl _ _ 23 rfl wy.heap.size 74 i0 _ 7 80 underlying23 hi hz0 hz1 hz2 rfl (by decide) _ 1 (az (⟨tk,A4,c4⟩:aL)) rfl kG u5.heap.size _ (k - q) (c3 - q) (ai (xs.drop q)) 0 rfl dh L5 dm (by unfold maxLen;omega) (by omega) B5.size ?_
        intro v6 w6 hown6 aM ed
        obtain⟨A6,k6,rfl⟩:=aA hown6
        obtain⟨a6,qX,_,hc6⟩:=(aG (B:=0) hown6) (by simp [az])
        subst qX
        have B6:Below wy.heap.size wy w6:=B5.grown aM B5.size lG
        have S1:w6.heap[wo.heap.size]?=some (.cells #[.int .u64 (tk.id:Int),.int .u64 (tk.list:Int),.string (str tk.title),.bool tk.done,.float .f64 tk.rank,.float .f64 tk.est,.slice A4 tk.tags.length c4] 74 (0,0)):=(B6.block _ (lt_of_block PY.out)).trans PY.out
        refine hK _ _ S1 ?_
        clear aM ed L5 dh dm lG B5 kG
        clear hK K S0
        have S0:=S1
        clear S1
        try simp only [Act.put,pS]
        have L6:au w6 w6.heap.size 0 (some pV) (ai (xs.take q)):=by
         rw [← eQ]
         exact (au.stay LY.out.old B6).take _
        have di:(ai (xs.take q)).length=q * 7:=by rw [aQ,List.length_take,HI.out.2.1,Nat.min_eq_left (by omega)]
        refine ax (i:=10) (by kernel_rfl) rfl (fun K hK=>?_)
        refine fB rfl _ _ 23 rfl wy.heap.size 74 i0 _ 7 80 underlying23 hi hz0 hz1 hz2 rfl w6.heap.size 0 (some pV) q (ai (xs.take q)) rfl di L6 (by intro z;first | rfl | cases z) a6 (1+(k - q)) k6 (az (⟨tk,A4,c4⟩:aL)++(ai (xs.drop q))) rfl hown6.1 hc6 (fo (dI _) (cB _)) (by omega) (by unfold maxLen;omega) (by omega) B6.size ?_
        intro v7 w7 bS bR hblk7
        obtain⟨A7,k7,rfl⟩:=aA bS
        have B7:Below wy.heap.size wy w7:=B6.grown bR B6.size (fun z e=>by cases e)
        have S1:w7.heap[wo.heap.size]?=some (.cells #[.int .u64 (tk.id:Int),.int .u64 (tk.list:Int),.string (str tk.title),.bool tk.done,.float .f64 tk.rank,.float .f64 tk.est,.slice A4 tk.tags.length c4] 74 (0,0)):=(B7.block _ (lt_of_block PY.out)).trans PY.out
        refine hK _ _ S1 ?_
        clear bR L6 di
        clear hK K S0
        have S0:=S1
        clear S1
        try simp only [Act.put,pS]
        refine aK 11 ?_ rfl (by kernel_rfl) rfl ?_ S0 ?_
        rotate_left
        ·intro u hu;go_simp;try rfl
        try simp only [Act.put,pS]
        refine wpAnyH_done (by kernel_rfl) ?_ _
        clear S0
        have lF:=hid bS
        have nV:=hid B7
        have qV:=hid hblk7
        clear bS B7 hblk7 hown6 hc6 B6
        generalize (if c3=q then some pV else some (pV.add (q * 7)))=A8
        go_wp2
        go_roundw
        case rel =>
         have zV:Below wo.heap.size wo w7:=BY.out.trans (nV.out.mono BY.out.size)
         have iA:(xs.take q++(⟨tk,A4,c4⟩:aL) :: xs.drop q).length=q+(1+(k - q)):=by rw [List.length_append,List.length_cons,List.length_take,List.length_drop,HI.out.2.1,Nat.min_eq_left (by omega)];omega
         have CELLS:ai (xs.take q++(⟨tk,A4,c4⟩:aL) :: xs.drop q)=(ai (xs.take q))++(az (⟨tk,A4,c4⟩:aL)++(ai (xs.drop q))):=by simp [ai]
         refine⟨i+1,q+(1+(k - q)),A7,k7,xs.take q++(⟨tk,A4,c4⟩:aL) :: xs.drop q,by go_num,by omega,rfl,by omega,(aO lF.out).2,BR.out.trans (zV.mono BR.out.size),hid ⟨?_,iA,?_,fun m hm=>?_,fun z=>by subst z;cases qV.out⟩⟩
         ·rw [CELLS]
          exact aG (B:=0) lF.out
         ·rw [TKO.out,← HI.out.2.2.1]
          exact INS.out
         ·have hm2:m=(⟨tk,A4,c4⟩:aL)∨m∈xs:=by
           rcases List.mem_append.1 hm with h | h
           ·exact .inr (List.mem_of_mem_take h)
           ·rcases List.mem_cons.1 h with h | h
            ·exact .inl h
            ·exact .inr (List.mem_of_mem_drop h)
          rcases hm2 with rfl | h
          ·exact FT.out.stay zV
          ·exact (HI.out.2.2.2.1 m h).stay zV
        case measure=>simp [intOf];omega
       | true =>
        cases bi with
        | true =>
         have VT:Hid (T9.kT tk yk=true):=hid (by rw [VB.out];rfl)
         go_wp2_with fail
         refine wp_region_held_drew (S:=fun u=>u.cell? ⟨wo.heap.size,4,none⟩=some (.float .f64 tk.rank)∧u.cell? ⟨wo.heap.size,0,none⟩=some (.int .u64 (tk.id:Int))∧u.cell? ⟨(pV.add ((q - 1) * 7)).block,(pV.add ((q - 1) * 7)).off+4,none⟩=some (.float .f64 yk.rank)∧u.cell? (pV.add ((q - 1) * 7))=some (.int .u64 (yk.id:Int))) (by kernel_rfl) ((⟨l4,l0,s4,s0⟩:wz.drew.cell? _=_∧_)) (fun S0=>?_)
         refine aK 0 ?_ rfl (by kernel_rfl) rfl ?_ S0 ?_
         rotate_left
         ·intro u hu;go_simp;try rfl
         try simp only [Act.put,pS]
         refine aK 1 ?_ rfl (by kernel_rfl) rfl ?_ S0 ?_
         rotate_left
         ·intro u hu;go_simp;try rfl
         try simp only [Act.put,pS]
         refine aK 2 ?_ rfl (by kernel_rfl) rfl ?_ S0 ?_
         rotate_left
         ·intro u hu;go_simp;try rfl
         try simp only [Act.put,pS]
         refine aK 3 ?_ rfl (by kernel_rfl) rfl ?_ S0 ?_
         rotate_left
         ·intro u hu;go_simp;try rfl
         try simp only [Act.put,pS]
         refine aK 4 ?_ rfl (by kernel_rfl) rfl ?_ S0 ?_
         rotate_left
         ·intro u hu;obtain⟨h1,h2,h3,h4⟩:=hu;go_simp;try rfl
         try simp only [Act.put,pS]
         refine aK 5 ?_ rfl (by kernel_rfl) rfl ?_ S0 ?_
         rotate_left
         ·intro u hu;go_simp;try rfl
         try simp only [Act.put,pS]
         refine aK 6 ?_ rfl (by kernel_rfl) rfl ?_ S0 ?_
         rotate_left
         ·intro u hu;go_simp;try rfl
         try simp only [Act.put,pS]
         refine aK 7 ?_ rfl (by kernel_rfl) rfl ?_ S0 ?_
         rotate_left
         ·intro u hu;go_simp;try rfl
         try simp only [Act.put,pS]
         refine aK 8 ?_ rfl (by kernel_rfl) rfl ?_ S0 ?_
         rotate_left
         ·intro u hu;go_simp;try rfl
         try simp only [Act.put,pS]
         refine aK 9 ?_ rfl (by kernel_rfl) rfl ?_ S0 ?_
         rotate_left
         ·intro u hu;go_simp;try rfl
         try simp only [Act.put,pS]
         refine aK 10 ?_ rfl (by kernel_rfl) rfl ?_ S0 ?_
         rotate_left
         ·intro u hu;obtain⟨h1,h2,h3,h4⟩:=hu;go_simp;try rfl
         try simp only [Act.put,pS]
         refine ax (i:=11) (by kernel_rfl) rfl (fun K hK=>?_)
         go_simp
         refine (LC.out).mono ?_
         rintro e w' ⟨rfl,rfl⟩
         have S1:=S0
         refine hK _ _ S1 ?_
         clear hK K S0
         have S0:=S1
         clear S1
         try simp only [Act.put,pS]
         refine aK 12 ?_ rfl (by kernel_rfl) rfl ?_ S0 ?_
         rotate_left
         ·intro u hu;go_simp;try rfl
         try simp only [Act.put,pS]
         refine aK 13 ?_ rfl (by kernel_rfl) rfl ?_ S0 ?_
         rotate_left
         ·intro u hu;go_simp;try rfl
         try simp only [Act.put,pS]
         refine aK 14 ?_ rfl (by kernel_rfl) rfl ?_ S0 ?_
         rotate_left
         ·intro u hu;obtain⟨h1,h2,h3,h4⟩:=hu;go_simp;try rfl
         try simp only [Act.put,pS]
         refine aK 15 ?_ rfl (by kernel_rfl) rfl ?_ S0 ?_
         rotate_left
         ·intro u hu;go_simp;try rfl
         try simp only [Act.put,pS]
         refine aK 16 ?_ rfl (by kernel_rfl) rfl ?_ S0 ?_
         rotate_left
         ·intro u hu;go_simp;try rfl
         try simp only [Act.put,pS]
         refine aK 17 ?_ rfl (by kernel_rfl) rfl ?_ S0 ?_
         rotate_left
         ·intro u hu;go_simp;try rfl
         try simp only [Act.put,pS]
         refine aK 18 ?_ rfl (by kernel_rfl) rfl ?_ S0 ?_
         rotate_left
         ·intro u hu;go_simp;try rfl
         try simp only [Act.put,pS]
         refine aK 19 ?_ rfl (by kernel_rfl) rfl ?_ S0 ?_
         rotate_left
         ·intro u hu;go_simp;try rfl
         try simp only [Act.put,pS]
         refine aK 20 ?_ rfl (by kernel_rfl) rfl ?_ S0 ?_
         rotate_left
         ·intro u hu;obtain⟨h1,h2,h3,h4⟩:=hu;go_simp;try rfl
         try simp only [Act.put,pS]
         refine ax (i:=21) (by kernel_rfl) rfl (fun K hK=>?_)
         go_simp
         refine (SC.out).mono ?_
         rintro e w' ⟨rfl,rfl⟩
         have S1:=S0
         refine hK _ _ S1 ?_
         clear hK K S0
         have S0:=S1
         clear S1
         try simp only [Act.put,pS]
         refine aK 22 ?_ rfl (by kernel_rfl) rfl ?_ S0 ?_
         rotate_left
         ·intro u hu;go_simp;try rfl
         try simp only [Act.put,pS]
         refine aK 23 ?_ rfl (by kernel_rfl) rfl ?_ S0 ?_
         rotate_left
         ·intro u hu;go_simp;try rfl
         try simp only [Act.put,pS]
         refine aK 24 ?_ rfl (by kernel_rfl) rfl ?_ S0 ?_
         rotate_left
         ·intro u hu;obtain⟨h1,h2,h3,h4⟩:=hu;go_simp;try rfl
         try simp only [Act.put,pS]
         refine aK 25 ?_ rfl (by kernel_rfl) rfl ?_ S0 ?_
         rotate_left
         ·intro u hu;go_simp;try rfl
         try simp only [Act.put,pS]
         refine aK 26 ?_ rfl (by kernel_rfl) rfl ?_ S0 ?_
         rotate_left
         ·intro u hu;go_simp;try rfl
         try simp only [Act.put,pS]
         refine aK 27 ?_ rfl (by kernel_rfl) rfl ?_ S0 ?_
         rotate_left
         ·intro u hu;go_simp;try rfl
         try simp only [Act.put,pS]
         refine aK 28 ?_ rfl (by kernel_rfl) rfl ?_ S0 ?_
         rotate_left
         ·intro u hu;go_simp;try rfl
         try simp only [Act.put,pS]
         refine aK 29 ?_ rfl (by kernel_rfl) rfl ?_ S0 ?_
         rotate_left
         ·intro u hu;go_simp;try rfl
         try simp only [Act.put,pS]
         refine aK 30 ?_ rfl (by kernel_rfl) rfl ?_ S0 ?_
         rotate_left
         ·intro u hu;obtain⟨h1,h2,h3,h4⟩:=hu;go_simp;try rfl
         try simp only [Act.put,pS]
         refine aK 31 ?_ rfl (by kernel_rfl) rfl ?_ S0 ?_
         rotate_left
         ·intro u hu;go_simp;try rfl
         try simp only [Act.put,pS]
         refine aK 32 ?_ rfl (by kernel_rfl) rfl ?_ S0 ?_
         rotate_left
         ·intro u hu;go_simp;try rfl
         try simp only [Act.put,pS]
         refine aK 33 ?_ rfl (by kernel_rfl) rfl ?_ S0 ?_
         rotate_left
         ·intro u hu;go_simp;try rfl
         try simp only [Act.put,pS]
         refine aK 34 ?_ rfl (by kernel_rfl) rfl ?_ S0 ?_
         rotate_left
         ·intro u hu;go_simp;try rfl
         try simp only [Act.put,pS]
         refine wpAnyH_done (by kernel_rfl) ?_ _
         clear S0
         go_wp2
         go_roundw
         case rel=>exact⟨q - 1,by go_num,by omega,BZ.out.drew,hid fun y hy=>by
          rw [sj Y.out (by omega)] at hy
          rcases List.mem_cons.1 hy with h | h
          ·subst h
           exact VT.out
          ·exact HQ.out y h⟩
         case measure=>simp [intOf];omega
        | false =>
         have VF:Hid (T9.kT tk yk=false):=hid (by rw [VB.out];rfl)
         have INS:Hid (ay (xs.take q++(⟨tk,A4,c4⟩:aL) :: xs.drop q)=Sr.ins T9.kT tk (ay xs)):=hid (by
          have st:Sr.Str T9.kT (ay xs):=by rw [HI.out.2.2.1];exact (Sr.gp T9.EO _).1
          rw [Sr.sM T9.EO (k:=q) st (by rw [aI,HI.out.2.1];exact hq) (fun y hy=>?_) (fun y h0 hy=>?_)]
          ·simp [ay,List.map_take,List.map_drop]
          ·unfold ay at hy
           rw [← List.map_drop] at hy
           obtain⟨m2,hm2,rfl⟩:=List.mem_map.1 hy
           exact HQ.out m2 hm2
          ·have e:yk=y:=by
            have z:=gZ Y.out
            rw [z] at hy
            injection hy
           rw [← e]
           exact Cw VF.out YI.out)
         go_wp2_with fail
         refine wp_region_held_drew (S:=fun u=>u.cell? ⟨wo.heap.size,4,none⟩=some (.float .f64 tk.rank)∧u.cell? ⟨wo.heap.size,0,none⟩=some (.int .u64 (tk.id:Int))∧u.cell? ⟨(pV.add ((q - 1) * 7)).block,(pV.add ((q - 1) * 7)).off+4,none⟩=some (.float .f64 yk.rank)∧u.cell? (pV.add ((q - 1) * 7))=some (.int .u64 (yk.id:Int))) (by kernel_rfl) ((⟨l4,l0,s4,s0⟩:wz.drew.cell? _=_∧_)) (fun S0=>?_)
         refine aK 0 ?_ rfl (by kernel_rfl) rfl ?_ S0 ?_
         rotate_left
         ·intro u hu;go_simp;try rfl
         try simp only [Act.put,pS]
         refine aK 1 ?_ rfl (by kernel_rfl) rfl ?_ S0 ?_
         rotate_left
         ·intro u hu;go_simp;try rfl
         try simp only [Act.put,pS]
         refine aK 2 ?_ rfl (by kernel_rfl) rfl ?_ S0 ?_
         rotate_left
         ·intro u hu;go_simp;try rfl
         try simp only [Act.put,pS]
         refine aK 3 ?_ rfl (by kernel_rfl) rfl ?_ S0 ?_
         rotate_left
         ·intro u hu;go_simp;try rfl
         try simp only [Act.put,pS]
         refine aK 4 ?_ rfl (by kernel_rfl) rfl ?_ S0 ?_
         rotate_left
         ·intro u hu;obtain⟨h1,h2,h3,h4⟩:=hu;go_simp;try rfl
         try simp only [Act.put,pS]
         refine aK 5 ?_ rfl (by kernel_rfl) rfl ?_ S0 ?_
         rotate_left
         ·intro u hu;go_simp;try rfl
         try simp only [Act.put,pS]
         refine aK 6 ?_ rfl (by kernel_rfl) rfl ?_ S0 ?_
         rotate_left
         ·intro u hu;go_simp;try rfl
         try simp only [Act.put,pS]
         refine aK 7 ?_ rfl (by kernel_rfl) rfl ?_ S0 ?_
         rotate_left
         ·intro u hu;go_simp;try rfl
         try simp only [Act.put,pS]
         refine aK 8 ?_ rfl (by kernel_rfl) rfl ?_ S0 ?_
         rotate_left
         ·intro u hu;go_simp;try rfl
         try simp only [Act.put,pS]
         refine aK 9 ?_ rfl (by kernel_rfl) rfl ?_ S0 ?_
         rotate_left
         ·intro u hu;go_simp;try rfl
         try simp only [Act.put,pS]
         refine aK 10 ?_ rfl (by kernel_rfl) rfl ?_ S0 ?_
         rotate_left
         ·intro u hu;obtain⟨h1,h2,h3,h4⟩:=hu;go_simp;try rfl
         try simp only [Act.put,pS]
         refine ax (i:=11) (by kernel_rfl) rfl (fun K hK=>?_)
         go_simp
         refine (LC.out).mono ?_
         rintro e w' ⟨rfl,rfl⟩
         have S1:=S0
         refine hK _ _ S1 ?_
         clear hK K S0
         have S0:=S1
         clear S1
         try simp only [Act.put,pS]
         refine aK 12 ?_ rfl (by kernel_rfl) rfl ?_ S0 ?_
         rotate_left
         ·intro u hu;go_simp;try rfl
         try simp only [Act.put,pS]
         refine aK 13 ?_ rfl (by kernel_rfl) rfl ?_ S0 ?_
         rotate_left
         ·intro u hu;go_simp;try rfl
         try simp only [Act.put,pS]
         refine aK 14 ?_ rfl (by kernel_rfl) rfl ?_ S0 ?_
         rotate_left
         ·intro u hu;obtain⟨h1,h2,h3,h4⟩:=hu;go_simp;try rfl
         try simp only [Act.put,pS]
         refine aK 15 ?_ rfl (by kernel_rfl) rfl ?_ S0 ?_
         rotate_left
         ·intro u hu;go_simp;try rfl
         try simp only [Act.put,pS]
         refine aK 16 ?_ rfl (by kernel_rfl) rfl ?_ S0 ?_
         rotate_left
         ·intro u hu;go_simp;try rfl
         try simp only [Act.put,pS]
         refine aK 17 ?_ rfl (by kernel_rfl) rfl ?_ S0 ?_
         rotate_left
         ·intro u hu;go_simp;try rfl
         try simp only [Act.put,pS]
         refine aK 18 ?_ rfl (by kernel_rfl) rfl ?_ S0 ?_
         rotate_left
         ·intro u hu;go_simp;try rfl
         try simp only [Act.put,pS]
         refine aK 19 ?_ rfl (by kernel_rfl) rfl ?_ S0 ?_
         rotate_left
         ·intro u hu;go_simp;try rfl
         try simp only [Act.put,pS]
         refine aK 20 ?_ rfl (by kernel_rfl) rfl ?_ S0 ?_
         rotate_left
         ·intro u hu;obtain⟨h1,h2,h3,h4⟩:=hu;go_simp;try rfl
         try simp only [Act.put,pS]
         refine ax (i:=21) (by kernel_rfl) rfl (fun K hK=>?_)
         go_simp
         refine (SC.out).mono ?_
         rintro e w' ⟨rfl,rfl⟩
         have S1:=S0
         refine hK _ _ S1 ?_
         clear hK K S0
         have S0:=S1
         clear S1
         try simp only [Act.put,pS]
         refine aK 22 ?_ rfl (by kernel_rfl) rfl ?_ S0 ?_
         rotate_left
         ·intro u hu;go_simp;try rfl
         try simp only [Act.put,pS]
         refine aK 23 ?_ rfl (by kernel_rfl) rfl ?_ S0 ?_
         rotate_left
         ·intro u hu;go_simp;try rfl
         try simp only [Act.put,pS]
         refine aK 24 ?_ rfl (by kernel_rfl) rfl ?_ S0 ?_
         rotate_left
         ·intro u hu;obtain⟨h1,h2,h3,h4⟩:=hu;go_simp;try rfl
         try simp only [Act.put,pS]
         refine aK 25 ?_ rfl (by kernel_rfl) rfl ?_ S0 ?_
         rotate_left
         ·intro u hu;go_simp;try rfl
         try simp only [Act.put,pS]
         refine aK 26 ?_ rfl (by kernel_rfl) rfl ?_ S0 ?_
         rotate_left
         ·intro u hu;go_simp;try rfl
         try simp only [Act.put,pS]
         refine aK 27 ?_ rfl (by kernel_rfl) rfl ?_ S0 ?_
         rotate_left
         ·intro u hu;go_simp;try rfl
         try simp only [Act.put,pS]
         refine aK 28 ?_ rfl (by kernel_rfl) rfl ?_ S0 ?_
         rotate_left
         ·intro u hu;go_simp;try rfl
         try simp only [Act.put,pS]
         refine aK 29 ?_ rfl (by kernel_rfl) rfl ?_ S0 ?_
         rotate_left
         ·intro u hu;go_simp;try rfl
         try simp only [Act.put,pS]
         refine aK 30 ?_ rfl (by kernel_rfl) rfl ?_ S0 ?_
         rotate_left
         ·intro u hu;obtain⟨h1,h2,h3,h4⟩:=hu;go_simp;try rfl
         try simp only [Act.put,pS]
         refine aK 31 ?_ rfl (by kernel_rfl) rfl ?_ S0 ?_
         rotate_left
         ·intro u hu;go_simp;try rfl
         try simp only [Act.put,pS]
         refine aK 32 ?_ rfl (by kernel_rfl) rfl ?_ S0 ?_
         rotate_left
         ·intro u hu;go_simp;try rfl
         try simp only [Act.put,pS]
         refine aK 33 ?_ rfl (by kernel_rfl) rfl ?_ S0 ?_
         rotate_left
         ·intro u hu;go_simp;try rfl
         try simp only [Act.put,pS]
         refine aK 34 ?_ rfl (by kernel_rfl) rfl ?_ S0 ?_
         rotate_left
         ·intro u hu;go_simp;try rfl
         try simp only [Act.put,pS]
         refine wpAnyH_done (by kernel_rfl) ?_ _
         clear S0
         have hqc:q≤c3:=by have:=hq;omega
         have hqk:q≤k:=by have:=hq;omega
         go_wp2_with fail
         obtain⟨wy,qY⟩:∃ u,wz.drew=u:=⟨_,rfl⟩
         rw [qY]
         have BY:Hid (Below wo.heap.size wo wy):=hid (by rw [← qY];exact (B2.out.trans (BZ.out.mono B2.out.size)).drew)
         have PY:Hid (wy.heap[wo.heap.size]?=some (.cells #[.int .u64 (tk.id:Int),.int .u64 (tk.list:Int),.string (str tk.title),.bool tk.done,.float .f64 tk.rank,.float .f64 tk.est,.slice A4 tk.tags.length c4] 74 (0,0))):=hid (by rw [← qY];exact PZ.out)
         have LY:Hid (au wy 0 74 (some pV) (ai xs)):=hid (by rw [← qY];exact LZ.out.drew)
         obtain⟨i0,hi,hz0,hz1,hz2⟩:=info_parts Tryz.infoTk9
         refine wp_region_held_drew (S:=fun u=>u.heap[wo.heap.size]?=some (.cells #[.int .u64 (tk.id:Int),.int .u64 (tk.list:Int),.string (str tk.title),.bool tk.done,.float .f64 tk.rank,.float .f64 tk.est,.slice A4 tk.tags.length c4] 74 (0,0))) (by kernel_rfl) (PY.out) (fun S0=>?_)
         refine aK 0 ?_ rfl (by kernel_rfl) rfl ?_ S0 ?_
         rotate_left
         ·intro u hu;go_simp;try rfl
         try simp only [Act.put,pS]
         refine aK 1 ?_ rfl (by kernel_rfl) rfl ?_ S0 ?_
         rotate_left
         ·intro u hu;go_simp;try rfl
         try simp only [Act.put,pS]
         refine aK 2 ?_ rfl (by kernel_rfl) rfl ?_ S0 ?_
         rotate_left
         ·intro u hu;go_simp;try rfl
         try simp only [Act.put,pS]
         refine aK 3 ?_ rfl (by kernel_rfl) rfl ?_ S0 ?_
         rotate_left
         ·intro u hu;go_simp;try rfl
         try simp only [Act.put,pS]
         refine aK 4 ?_ rfl (by kernel_rfl) rfl ?_ S0 ?_
         rotate_left
         ·intro u hu;obtain⟨p0,p1,p2,p3,p4,p5,p6⟩:=aj hu;go_simp;try rfl
         try simp only [Act.put,pS]
         refine aK 6 ?_ rfl (by kernel_rfl) rfl ?_ S0 ?_
         rotate_left
         ·intro u hu;go_simp;try rfl
         try simp only [Act.put,pS]
         refine aK 7 ?_ rfl (by kernel_rfl) rfl ?_ S0 ?_
         rotate_left
         ·intro u hu;go_simp;try rfl
         try simp only [Act.put,pS]
         refine aK 8 ?_ rfl (by kernel_rfl) rfl ?_ S0 ?_
         rotate_left
         ·intro u hu;go_simp;try rfl
         try simp only [Act.put,pS]
         refine ax (i:=5) (by kernel_rfl) rfl (fun K hK=>?_)
         have hbs:=dZ (⟨tk,A4,c4⟩:aL) wy.drew
         go_simp
         clear hbs
         have S1:=aY S0 (.cells #[.int .u64 (tk.id:Int),.int .u64 (tk.list:Int),.string (str tk.title),.bool tk.done,.float .f64 tk.rank,.float .f64 tk.est,.slice A4 tk.tags.length c4] 74)
         refine hK _ _ S1 ?_
         clear hK K S0
         have S0:=S1
         clear S1
         try simp only [Act.put,pS]
         obtain⟨u5,iL⟩:∃ u,(wy.alloc (.cells #[.int .u64 (tk.id:Int),.int .u64 (tk.list:Int),.string (str tk.title),.bool tk.done,.float .f64 tk.rank,.float .f64 tk.est,.slice A4 tk.tags.length c4] 74)).drew=u:=⟨_,rfl⟩
         rw [iL]
         clear S0
         have S0:u5.heap[wo.heap.size]?=some (.cells #[.int .u64 (tk.id:Int),.int .u64 (tk.list:Int),.string (str tk.title),.bool tk.done,.float .f64 tk.rank,.float .f64 tk.est,.slice A4 tk.tags.length c4] 74 (0,0)):=by rw [← iL];exact aY PY.out _
         have kG:u5.ownsRow wy.heap.size 74 7 (.slice (some ⟨wy.heap.size,0,none⟩) 1 1) 1 (az (⟨tk,A4,c4⟩:aL)):=by
          have o5:=gN (w:=wy) (e:=74) (xs:=az (⟨tk,A4,c4⟩:aL)) rfl (rfl:(az (⟨tk,A4,c4⟩:aL)).length=7)
          rw [← iL]
          exact o5
         have B5:Below wy.heap.size wy u5:=by rw [← iL];exact ((Below.refl wy.heap.size wy).alloc (Nat.le_refl _) _).drew
         have L5:au u5 u5.heap.size 0 (if c3=q then some pV else (some pV).map (·.add (q * 7))) (ai (xs.drop q)):=by
          rw [← fI]
          exact ((au.stay LY.out.old B5).AA 7 q c3 (by decide) (by rw [aQ,HI.out.2.1];exact Nat.mul_le_mul_right _ hkc))
         have dh:(ai (xs.drop q)).length=(k - q) * 7:=by rw [aQ,List.length_drop,HI.out.2.1]
         have dm:∀ v∈(ai (xs.drop q)),v.oneCell'=true:=cB _
         have lG:∀ z,(Value.slice (some ⟨wy.heap.size,0,none⟩) 1 1).ownBlock=some z→wy.heap.size≤z:=fun z e=>by injection e with e;rw [← e];exact Nat.le_refl _
         refine ax (i:=9) (by kernel_rfl) rfl (fun K hK=>?_)
         refine eP rfl _ _ 23 rfl wy.heap.size 74 i0 _ 7 80 underlying23 hi hz0 hz1 hz2 rfl (by decide) _ 1 (az (⟨tk,A4,c4⟩:aL)) rfl kG u5.heap.size _ (k - q) (c3 - q) (ai (xs.drop q)) 0 rfl dh L5 dm (by unfold maxLen;omega) (by omega) B5.size ?_
         intro v6 w6 hown6 aM ed
         obtain⟨A6,k6,rfl⟩:=aA hown6
         obtain⟨a6,qX,_,hc6⟩:=(aG (B:=0) hown6) (by simp [az])
         subst qX
         have B6:Below wy.heap.size wy w6:=B5.grown aM B5.size lG
         have S1:w6.heap[wo.heap.size]?=some (.cells #[.int .u64 (tk.id:Int),.int .u64 (tk.list:Int),.string (str tk.title),.bool tk.done,.float .f64 tk.rank,.float .f64 tk.est,.slice A4 tk.tags.length c4] 74 (0,0)):=(B6.block _ (lt_of_block PY.out)).trans PY.out
         refine hK _ _ S1 ?_
         clear aM ed L5 dh dm lG B5 kG
         clear hK K S0
         have S0:=S1
         clear S1
         try simp only [Act.put,pS]
         have L6:au w6 w6.heap.size 0 (some pV) (ai (xs.take q)):=by
          rw [← eQ]
          exact (au.stay LY.out.old B6).take _
         have di:(ai (xs.take q)).length=q * 7:=by rw [aQ,List.length_take,HI.out.2.1,Nat.min_eq_left (by omega)]
         refine ax (i:=10) (by kernel_rfl) rfl (fun K hK=>?_)
         refine fB rfl _ _ 23 rfl wy.heap.size 74 i0 _ 7 80 underlying23 hi hz0 hz1 hz2 rfl w6.heap.size 0 (some pV) q (ai (xs.take q)) rfl di L6 (by intro z;first | rfl | cases z) a6 (1+(k - q)) k6 (az (⟨tk,A4,c4⟩:aL)++(ai (xs.drop q))) rfl hown6.1 hc6 (fo (dI _) (cB _)) (by omega) (by unfold maxLen;omega) (by omega) B6.size ?_
         intro v7 w7 bS bR hblk7
         obtain⟨A7,k7,rfl⟩:=aA bS
         have B7:Below wy.heap.size wy w7:=B6.grown bR B6.size (fun z e=>by cases e)
         have S1:w7.heap[wo.heap.size]?=some (.cells #[.int .u64 (tk.id:Int),.int .u64 (tk.list:Int),.string (str tk.title),.bool tk.done,.float .f64 tk.rank,.float .f64 tk.est,.slice A4 tk.tags.length c4] 74 (0,0)):=(B7.block _ (lt_of_block PY.out)).trans PY.out
         refine hK _ _ S1 ?_
         clear bR L6 di
         clear hK K S0
         have S0:=S1
         clear S1
         try simp only [Act.put,pS]
         refine aK 11 ?_ rfl (by kernel_rfl) rfl ?_ S0 ?_
         rotate_left
         ·intro u hu;go_simp;try rfl
         try simp only [Act.put,pS]
         refine wpAnyH_done (by kernel_rfl) ?_ _
         clear S0
         have lF:=hid bS
         have nV:=hid B7
         have qV:=hid hblk7
         clear bS B7 hblk7 hown6 hc6 B6
         generalize (if c3=q then some pV else some (pV.add (q * 7)))=A8
         go_wp2
         go_roundw
         case rel =>
          have zV:Below wo.heap.size wo w7:=BY.out.trans (nV.out.mono BY.out.size)
          have iA:(xs.take q++(⟨tk,A4,c4⟩:aL) :: xs.drop q).length=q+(1+(k - q)):=by rw [List.length_append,List.length_cons,List.length_take,List.length_drop,HI.out.2.1,Nat.min_eq_left (by omega)];omega
          have CELLS:ai (xs.take q++(⟨tk,A4,c4⟩:aL) :: xs.drop q)=(ai (xs.take q))++(az (⟨tk,A4,c4⟩:aL)++(ai (xs.drop q))):=by simp [ai]
          refine⟨i+1,q+(1+(k - q)),A7,k7,xs.take q++(⟨tk,A4,c4⟩:aL) :: xs.drop q,by go_num,by omega,rfl,by omega,(aO lF.out).2,BR.out.trans (zV.mono BR.out.size),hid ⟨?_,iA,?_,fun m hm=>?_,fun z=>by subst z;cases qV.out⟩⟩
          ·rw [CELLS]
           exact aG (B:=0) lF.out
          ·rw [TKO.out,← HI.out.2.2.1]
           exact INS.out
          ·have hm2:m=(⟨tk,A4,c4⟩:aL)∨m∈xs:=by
            rcases List.mem_append.1 hm with h | h
            ·exact .inr (List.mem_of_mem_take h)
            ·rcases List.mem_cons.1 h with h | h
             ·exact .inl h
             ·exact .inr (List.mem_of_mem_drop h)
           rcases hm2 with rfl | h
           ·exact FT.out.stay zV
           ·exact (HI.out.2.2.2.1 m h).stay zV
         case measure=>simp [intOf];omega
     ·have hq00:q=0:=by omega
      have hqz:¬ ((0:Int)<((0:Nat):Int)):=by omega
      have hqd:decide ((0:Int)<((0:Nat):Int))=false:=rfl
      have INS:Hid (ay (xs.take q++(⟨tk,A4,c4⟩:aL) :: xs.drop q)=Sr.ins T9.kT tk (ay xs)):=hid (by
       have st:Sr.Str T9.kT (ay xs):=by rw [HI.out.2.2.1];exact (Sr.gp T9.EO _).1
       rw [Sr.sM T9.EO (k:=q) st (by rw [aI,HI.out.2.1];exact hq) (fun y hy=>?_) (fun y h0 hy=>?_)]
       ·simp [ay,List.map_take,List.map_drop]
       ·unfold ay at hy
        rw [← List.map_drop] at hy
        obtain⟨m2,hm2,rfl⟩:=List.mem_map.1 hy
        exact HQ.out m2 hm2
       ·omega)
      cases A3 with
      | none =>
       obtain rfl:c3=0:=HI.out.2.2.2.2 rfl
       obtain rfl:k=0:=by omega
       obtain rfl:xs=[]:=List.eq_nil_of_length_eq_zero HI.out.2.1
       go_wp2_with fail
       refine wp_region_held_drew (S:=fun _=>True) (by kernel_rfl) (trivial) (fun S0=>?_)
       refine aK 0 ?_ rfl (by kernel_rfl) rfl ?_ S0 ?_
       rotate_left
       ·intro u hu;go_simp;try rfl
       try simp only [Act.put,pS]
       refine aK 1 ?_ rfl (by kernel_rfl) rfl ?_ S0 ?_
       rotate_left
       ·intro u hu;go_simp;try rfl
       try simp only [Act.put,pS]
       refine aK 2 ?_ rfl (by kernel_rfl) rfl ?_ S0 ?_
       rotate_left
       ·intro u hu;go_simp;try rfl
       try simp only [Act.put,pS]
       refine eF 3 rfl (by kernel_rfl) rfl S0 ?_
       try simp only [Act.put,pS]
       refine eF 4 rfl (by kernel_rfl) rfl S0 ?_
       try simp only [Act.put,pS]
       refine eF 5 rfl (by kernel_rfl) rfl S0 ?_
       try simp only [Act.put,pS]
       refine eF 6 rfl (by kernel_rfl) rfl S0 ?_
       try simp only [Act.put,pS]
       refine eF 7 rfl (by kernel_rfl) rfl S0 ?_
       try simp only [Act.put,pS]
       refine eF 8 rfl (by kernel_rfl) rfl S0 ?_
       try simp only [Act.put,pS]
       refine eF 9 rfl (by kernel_rfl) rfl S0 ?_
       try simp only [Act.put,pS]
       refine eF 10 rfl (by kernel_rfl) rfl S0 ?_
       try simp only [Act.put,pS]
       refine eF 11 rfl (by kernel_rfl) rfl S0 ?_
       try simp only [Act.put,pS]
       refine eF 12 rfl (by kernel_rfl) rfl S0 ?_
       try simp only [Act.put,pS]
       refine eF 13 rfl (by kernel_rfl) rfl S0 ?_
       try simp only [Act.put,pS]
       refine eF 14 rfl (by kernel_rfl) rfl S0 ?_
       try simp only [Act.put,pS]
       refine eF 15 rfl (by kernel_rfl) rfl S0 ?_
       try simp only [Act.put,pS]
       refine eF 16 rfl (by kernel_rfl) rfl S0 ?_
       try simp only [Act.put,pS]
       refine eF 17 rfl (by kernel_rfl) rfl S0 ?_
       try simp only [Act.put,pS]
       refine eF 18 rfl (by kernel_rfl) rfl S0 ?_
       try simp only [Act.put,pS]
       refine eF 19 rfl (by kernel_rfl) rfl S0 ?_
       try simp only [Act.put,pS]
       refine eF 20 rfl (by kernel_rfl) rfl S0 ?_
       try simp only [Act.put,pS]
       refine eF 21 rfl (by kernel_rfl) rfl S0 ?_
       try simp only [Act.put,pS]
       refine eF 22 rfl (by kernel_rfl) rfl S0 ?_
       try simp only [Act.put,pS]
       refine eF 23 rfl (by kernel_rfl) rfl S0 ?_
       try simp only [Act.put,pS]
       refine eF 24 rfl (by kernel_rfl) rfl S0 ?_
       try simp only [Act.put,pS]
       refine eF 25 rfl (by kernel_rfl) rfl S0 ?_
       try simp only [Act.put,pS]
       refine eF 26 rfl (by kernel_rfl) rfl S0 ?_
       try simp only [Act.put,pS]
       refine eF 27 rfl (by kernel_rfl) rfl S0 ?_
       try simp only [Act.put,pS]
       refine eF 28 rfl (by kernel_rfl) rfl S0 ?_
       try simp only [Act.put,pS]
       refine eF 29 rfl (by kernel_rfl) rfl S0 ?_
       try simp only [Act.put,pS]
       refine eF 30 rfl (by kernel_rfl) rfl S0 ?_
       try simp only [Act.put,pS]
       refine eF 31 rfl (by kernel_rfl) rfl S0 ?_
       try simp only [Act.put,pS]
       refine eF 32 rfl (by kernel_rfl) rfl S0 ?_
       try simp only [Act.put,pS]
       refine eF 33 rfl (by kernel_rfl) rfl S0 ?_
       try simp only [Act.put,pS]
       refine aK 34 ?_ rfl (by kernel_rfl) rfl ?_ S0 ?_
       rotate_left
       ·intro u hu;go_simp;try rfl
       try simp only [Act.put,pS]
       refine wpAnyH_done (by kernel_rfl) ?_ _
       clear S0
       go_wp2_with fail
       obtain⟨wy,qY⟩:∃ u,wz.drew=u:=⟨_,rfl⟩
       rw [qY]
       have BY:Hid (Below wo.heap.size wo wy):=hid (by rw [← qY];exact (B2.out.trans (BZ.out.mono B2.out.size)).drew)
       have PY:Hid (wy.heap[wo.heap.size]?=some (.cells #[.int .u64 (tk.id:Int),.int .u64 (tk.list:Int),.string (str tk.title),.bool tk.done,.float .f64 tk.rank,.float .f64 tk.est,.slice A4 tk.tags.length c4] 74 (0,0))):=hid (by rw [← qY];exact PZ.out)
       have LY:Hid (au wy 0 74 none (ai ([]:List aL))):=hid (by rw [← qY];exact LZ.out.drew)
       obtain⟨i0,hi,hz0,hz1,hz2⟩:=info_parts Tryz.infoTk9
       refine wp_region_held_drew (S:=fun u=>u.heap[wo.heap.size]?=some (.cells #[.int .u64 (tk.id:Int),.int .u64 (tk.list:Int),.string (str tk.title),.bool tk.done,.float .f64 tk.rank,.float .f64 tk.est,.slice A4 tk.tags.length c4] 74 (0,0))) (by kernel_rfl) (PY.out) (fun S0=>?_)
       refine aK 0 ?_ rfl (by kernel_rfl) rfl ?_ S0 ?_
       rotate_left
       ·intro u hu;go_simp;try rfl
       try simp only [Act.put,pS]
       refine aK 1 ?_ rfl (by kernel_rfl) rfl ?_ S0 ?_
       rotate_left
       ·intro u hu;go_simp;try rfl
       try simp only [Act.put,pS]
       refine aK 2 ?_ rfl (by kernel_rfl) rfl ?_ S0 ?_
       rotate_left
       ·intro u hu;go_simp;try rfl
       try simp only [Act.put,pS]
       refine aK 3 ?_ rfl (by kernel_rfl) rfl ?_ S0 ?_
       rotate_left
       ·intro u hu;go_simp;try rfl
       try simp only [Act.put,pS]
       refine aK 4 ?_ rfl (by kernel_rfl) rfl ?_ S0 ?_
       rotate_left
       ·intro u hu;obtain⟨p0,p1,p2,p3,p4,p5,p6⟩:=aj hu;go_simp;try rfl
       try simp only [Act.put,pS]
       refine aK 6 ?_ rfl (by kernel_rfl) rfl ?_ S0 ?_
       rotate_left
       ·intro u hu;go_simp;try rfl
       try simp only [Act.put,pS]
       refine aK 7 ?_ rfl (by kernel_rfl) rfl ?_ S0 ?_
       rotate_left
       ·intro u hu;go_simp;try rfl
       try simp only [Act.put,pS]
       refine aK 8 ?_ rfl (by kernel_rfl) rfl ?_ S0 ?_
       rotate_left
       ·intro u hu;go_simp;try rfl
       try simp only [Act.put,pS]
       refine ax (i:=5) (by kernel_rfl) rfl (fun K hK=>?_)
       have hbs:=dZ (⟨tk,A4,c4⟩:aL) wy.drew
       go_simp
       clear hbs
       have S1:=aY S0 (.cells #[.int .u64 (tk.id:Int),.int .u64 (tk.list:Int),.string (str tk.title),.bool tk.done,.float .f64 tk.rank,.float .f64 tk.est,.slice A4 tk.tags.length c4] 74)
       refine hK _ _ S1 ?_
       clear hK K S0
       have S0:=S1
       clear S1
       try simp only [Act.put,pS]
       obtain⟨u5,iL⟩:∃ u,(wy.alloc (.cells #[.int .u64 (tk.id:Int),.int .u64 (tk.list:Int),.string (str tk.title),.bool tk.done,.float .f64 tk.rank,.float .f64 tk.est,.slice A4 tk.tags.length c4] 74)).drew=u:=⟨_,rfl⟩
       rw [iL]
       clear S0
       have S0:u5.heap[wo.heap.size]?=some (.cells #[.int .u64 (tk.id:Int),.int .u64 (tk.list:Int),.string (str tk.title),.bool tk.done,.float .f64 tk.rank,.float .f64 tk.est,.slice A4 tk.tags.length c4] 74 (0,0)):=by rw [← iL];exact aY PY.out _
       have kG:u5.ownsRow wy.heap.size 74 7 (.slice (some ⟨wy.heap.size,0,none⟩) 1 1) 1 (az (⟨tk,A4,c4⟩:aL)):=by
        have o5:=gN (w:=wy) (e:=74) (xs:=az (⟨tk,A4,c4⟩:aL)) rfl (rfl:(az (⟨tk,A4,c4⟩:aL)).length=7)
        rw [← iL]
        exact o5
       have B5:Below wy.heap.size wy u5:=by rw [← iL];exact ((Below.refl wy.heap.size wy).alloc (Nat.le_refl _) _).drew
       have L5:au u5 u5.heap.size 0 none ([]:List Value):=au.nil
       have dh:([]:List Value).length=0 * 7:=by rfl
       have dm:∀ v∈([]:List Value),v.oneCell'=true:=by simp
       have lG:∀ z,(Value.slice (some ⟨wy.heap.size,0,none⟩) 1 1).ownBlock=some z→wy.heap.size≤z:=fun z e=>by injection e with e;rw [← e];exact Nat.le_refl _
       refine ax (i:=9) (by kernel_rfl) rfl (fun K hK=>?_)
       refine eP rfl _ _ 23 rfl wy.heap.size 74 i0 _ 7 80 underlying23 hi hz0 hz1 hz2 rfl (by decide) _ 1 (az (⟨tk,A4,c4⟩:aL)) rfl kG u5.heap.size _ 0 0 ([]:List Value) 0 rfl dh L5 dm (by unfold maxLen;omega) (by omega) B5.size ?_
       intro v6 w6 hown6 aM ed
       obtain⟨A6,k6,rfl⟩:=aA hown6
       obtain⟨a6,qX,_,hc6⟩:=(aG (B:=0) hown6) (by simp [az])
       subst qX
       have B6:Below wy.heap.size wy w6:=B5.grown aM B5.size lG
       have S1:w6.heap[wo.heap.size]?=some (.cells #[.int .u64 (tk.id:Int),.int .u64 (tk.list:Int),.string (str tk.title),.bool tk.done,.float .f64 tk.rank,.float .f64 tk.est,.slice A4 tk.tags.length c4] 74 (0,0)):=(B6.block _ (lt_of_block PY.out)).trans PY.out
       refine hK _ _ S1 ?_
       clear aM ed L5 dh dm lG B5 kG
       clear hK K S0
       have S0:=S1
       clear S1
       try simp only [Act.put,pS]
       have L6:au w6 w6.heap.size 0 none ([]:List Value):=au.nil
       have di:([]:List Value).length=0 * 7:=by rfl
       refine ax (i:=10) (by kernel_rfl) rfl (fun K hK=>?_)
       refine fB rfl _ _ 23 rfl wy.heap.size 74 i0 _ 7 80 underlying23 hi hz0 hz1 hz2 rfl w6.heap.size 0 none 0 ([]:List Value) rfl di L6 (by intro z;first | rfl | cases z) a6 (1+0) k6 (az (⟨tk,A4,c4⟩:aL)++([]:List Value)) rfl hown6.1 hc6 (fo (dI _) (by simp)) (by omega) (by unfold maxLen;omega) (by omega) B6.size ?_
       intro v7 w7 bS bR hblk7
       obtain⟨A7,k7,rfl⟩:=aA bS
       have B7:Below wy.heap.size wy w7:=B6.grown bR B6.size (fun z e=>by cases e)
       have S1:w7.heap[wo.heap.size]?=some (.cells #[.int .u64 (tk.id:Int),.int .u64 (tk.list:Int),.string (str tk.title),.bool tk.done,.float .f64 tk.rank,.float .f64 tk.est,.slice A4 tk.tags.length c4] 74 (0,0)):=(B7.block _ (lt_of_block PY.out)).trans PY.out
       refine hK _ _ S1 ?_
       clear bR L6 di
       clear hK K S0
       have S0:=S1
       clear S1
       try simp only [Act.put,pS]
       refine aK 11 ?_ rfl (by kernel_rfl) rfl ?_ S0 ?_
       rotate_left
       ·intro u hu;go_simp;try rfl
       try simp only [Act.put,pS]
       refine wpAnyH_done (by kernel_rfl) ?_ _
       clear S0
       have lF:=hid bS
       have nV:=hid B7
       have qV:=hid hblk7
       clear bS B7 hblk7 hown6 hc6 B6
       go_wp2
       go_roundw
       case rel =>
        have zV:Below wo.heap.size wo w7:=BY.out.trans (nV.out.mono BY.out.size)
        have iA:(([]:List aL)++(⟨tk,A4,c4⟩:aL) :: []).length=0+(1+0):=by rfl
        have CELLS:ai (([]:List aL)++(⟨tk,A4,c4⟩:aL) :: [])=([]:List Value)++(az (⟨tk,A4,c4⟩:aL)++([]:List Value)):=by simp [ai]
        refine⟨i+1,0+(1+0),A7,k7,([]:List aL)++(⟨tk,A4,c4⟩:aL) :: [],by go_num,by omega,rfl,by omega,(aO lF.out).2,BR.out.trans (zV.mono BR.out.size),hid ⟨?_,iA,?_,fun m hm=>?_,fun z=>by subst z;cases qV.out⟩⟩
        ·rw [CELLS]
         exact aG (B:=0) lF.out
        ·rw [TKO.out,← HI.out.2.2.1]
         have e:=INS.out
         rw [List.take_nil,List.drop_nil] at e
         exact e
        ·have hm2:m=(⟨tk,A4,c4⟩:aL)∨m∈([]:List aL):=by
          exact .inl (by simpa using hm)
         rcases hm2 with rfl | h
         ·exact FT.out.stay zV
         ·exact (HI.out.2.2.2.1 m h).stay zV
       case measure=>simp [intOf];omega
      | some ad =>
       have hqh:=hid hq00
       clear hq00 hqz hqd
       have hqz:¬ ((0:Int)<(q:Int)):=by have:=hqh.out;omega
       have hqd:decide ((0:Int)<(q:Int))=false:=by rw [decide_eq_false_iff_not];exact hqz
       have hqn:decide (0<q)=false:=by rw [decide_eq_false_iff_not];have:=hqh.out;omega
       have hqm:¬ 0<q:=by have:=hqh.out;omega
       go_wp2_with fail
       refine wp_region_held_drew (S:=fun _=>True) (by kernel_rfl) (trivial) (fun S0=>?_)
       refine aK 0 ?_ rfl (by kernel_rfl) rfl ?_ S0 ?_
       rotate_left
       ·intro u hu;go_simp;try rfl
       try simp only [Act.put,pS]
       refine aK 1 ?_ rfl (by kernel_rfl) rfl ?_ S0 ?_
       rotate_left
       ·intro u hu;go_simp;try rfl
       try simp only [Act.put,pS]
       refine aK 2 ?_ rfl (by kernel_rfl) rfl ?_ S0 ?_
       rotate_left
       ·intro u hu;go_simp;try rfl
       try simp only [Act.put,pS]
       refine eF 3 rfl (by kernel_rfl) rfl S0 ?_
       try simp only [Act.put,pS]
       refine eF 4 rfl (by kernel_rfl) rfl S0 ?_
       try simp only [Act.put,pS]
       refine eF 5 rfl (by kernel_rfl) rfl S0 ?_
       try simp only [Act.put,pS]
       refine eF 6 rfl (by kernel_rfl) rfl S0 ?_
       try simp only [Act.put,pS]
       refine eF 7 rfl (by kernel_rfl) rfl S0 ?_
       try simp only [Act.put,pS]
       refine eF 8 rfl (by kernel_rfl) rfl S0 ?_
       try simp only [Act.put,pS]
       refine eF 9 rfl (by kernel_rfl) rfl S0 ?_
       try simp only [Act.put,pS]
       refine eF 10 rfl (by kernel_rfl) rfl S0 ?_
       try simp only [Act.put,pS]
       refine eF 11 rfl (by kernel_rfl) rfl S0 ?_
       try simp only [Act.put,pS]
       refine eF 12 rfl (by kernel_rfl) rfl S0 ?_
       try simp only [Act.put,pS]
       refine eF 13 rfl (by kernel_rfl) rfl S0 ?_
       try simp only [Act.put,pS]
       refine eF 14 rfl (by kernel_rfl) rfl S0 ?_
       try simp only [Act.put,pS]
       refine eF 15 rfl (by kernel_rfl) rfl S0 ?_
       try simp only [Act.put,pS]
       refine eF 16 rfl (by kernel_rfl) rfl S0 ?_
       try simp only [Act.put,pS]
       refine eF 17 rfl (by kernel_rfl) rfl S0 ?_
       try simp only [Act.put,pS]
       refine eF 18 rfl (by kernel_rfl) rfl S0 ?_
       try simp only [Act.put,pS]
       refine eF 19 rfl (by kernel_rfl) rfl S0 ?_
       try simp only [Act.put,pS]
       refine eF 20 rfl (by kernel_rfl) rfl S0 ?_
       try simp only [Act.put,pS]
       refine eF 21 rfl (by kernel_rfl) rfl S0 ?_
       try simp only [Act.put,pS]
       refine eF 22 rfl (by kernel_rfl) rfl S0 ?_
       try simp only [Act.put,pS]
       refine eF 23 rfl (by kernel_rfl) rfl S0 ?_
       try simp only [Act.put,pS]
       refine eF 24 rfl (by kernel_rfl) rfl S0 ?_
       try simp only [Act.put,pS]
       refine eF 25 rfl (by kernel_rfl) rfl S0 ?_
       try simp only [Act.put,pS]
       refine eF 26 rfl (by kernel_rfl) rfl S0 ?_
       try simp only [Act.put,pS]
       refine eF 27 rfl (by kernel_rfl) rfl S0 ?_
       try simp only [Act.put,pS]
       refine eF 28 rfl (by kernel_rfl) rfl S0 ?_
       try simp only [Act.put,pS]
       refine eF 29 rfl (by kernel_rfl) rfl S0 ?_
       try simp only [Act.put,pS]
       refine eF 30 rfl (by kernel_rfl) rfl S0 ?_
       try simp only [Act.put,pS]
       refine eF 31 rfl (by kernel_rfl) rfl S0 ?_
       try simp only [Act.put,pS]
       refine eF 32 rfl (by kernel_rfl) rfl S0 ?_
       try simp only [Act.put,pS]
       refine eF 33 rfl (by kernel_rfl) rfl S0 ?_
       try simp only [Act.put,pS]
       refine aK 34 ?_ rfl (by kernel_rfl) rfl ?_ S0 ?_
       rotate_left
       ·intro u hu;go_simp;try rfl
       try simp only [Act.put,pS]
       refine wpAnyH_done (by kernel_rfl) ?_ _
       clear S0
       have hqc:q≤c3:=by have:=hq;omega
       have hqk:q≤k:=by have:=hq;omega
       go_wp2_with fail
       obtain⟨wy,qY⟩:∃ u,wz.drew=u:=⟨_,rfl⟩
       rw [qY]
       have BY:Hid (Below wo.heap.size wo wy):=hid (by rw [← qY];exact (B2.out.trans (BZ.out.mono B2.out.size)).drew)
       have PY:Hid (wy.heap[wo.heap.size]?=some (.cells #[.int .u64 (tk.id:Int),.int .u64 (tk.list:Int),.string (str tk.title),.bool tk.done,.float .f64 tk.rank,.float .f64 tk.est,.slice A4 tk.tags.length c4] 74 (0,0))):=hid (by rw [← qY];exact PZ.out)
       have LY:Hid (au wy 0 74 (some ad) (ai xs)):=hid (by rw [← qY];exact LZ.out.drew)
       obtain⟨i0,hi,hz0,hz1,hz2⟩:=info_parts Tryz.infoTk9
       refine wp_region_held_drew (S:=fun u=>u.heap[wo.heap.size]?=some (.cells #[.int .u64 (tk.id:Int),.int .u64 (tk.list:Int),.string (str tk.title),.bool tk.done,.float .f64 tk.rank,.float .f64 tk.est,.slice A4 tk.tags.length c4] 74 (0,0))) (by kernel_rfl) (PY.out) (fun S0=>?_)
       refine aK 0 ?_ rfl (by kernel_rfl) rfl ?_ S0 ?_
       rotate_left
       ·intro u hu;go_simp;try rfl
       try simp only [Act.put,pS]
       refine aK 1 ?_ rfl (by kernel_rfl) rfl ?_ S0 ?_
       rotate_left
       ·intro u hu;go_simp;try rfl
       try simp only [Act.put,pS]
       refine aK 2 ?_ rfl (by kernel_rfl) rfl ?_ S0 ?_
       rotate_left
       ·intro u hu;go_simp;try rfl
       try simp only [Act.put,pS]
       refine aK 3 ?_ rfl (by kernel_rfl) rfl ?_ S0 ?_
       rotate_left
       ·intro u hu;go_simp;try rfl
       try simp only [Act.put,pS]
       refine aK 4 ?_ rfl (by kernel_rfl) rfl ?_ S0 ?_
       rotate_left
       ·intro u hu;obtain⟨p0,p1,p2,p3,p4,p5,p6⟩:=aj hu;go_simp;try rfl
       try simp only [Act.put,pS]
       refine aK 6 ?_ rfl (by kernel_rfl) rfl ?_ S0 ?_
       rotate_left
       ·intro u hu;go_simp;try rfl
       try simp only [Act.put,pS]
       refine aK 7 ?_ rfl (by kernel_rfl) rfl ?_ S0 ?_
       rotate_left
       ·intro u hu;go_simp;try rfl
       try simp only [Act.put,pS]
       refine aK 8 ?_ rfl (by kernel_rfl) rfl ?_ S0 ?_
       rotate_left
       ·intro u hu;go_simp;try rfl
       try simp only [Act.put,pS]
       refine ax (i:=5) (by kernel_rfl) rfl (fun K hK=>?_)
       have hbs:=dZ (⟨tk,A4,c4⟩:aL) wy.drew
       go_simp
       clear hbs
       have S1:=aY S0 (.cells #[.int .u64 (tk.id:Int),.int .u64 (tk.list:Int),.string (str tk.title),.bool tk.done,.float .f64 tk.rank,.float .f64 tk.est,.slice A4 tk.tags.length c4] 74)
       refine hK _ _ S1 ?_
       clear hK K S0
       have S0:=S1
       clear S1
       try simp only [Act.put,pS]
       obtain⟨u5,iL⟩:∃ u,(wy.alloc (.cells #[.int .u64 (tk.id:Int),.int .u64 (tk.list:Int),.string (str tk.title),.bool tk.done,.float .f64 tk.rank,.float .f64 tk.est,.slice A4 tk.tags.length c4] 74)).drew=u:=⟨_,rfl⟩
       rw [iL]
       clear S0
       have S0:u5.heap[wo.heap.size]?=some (.cells #[.int .u64 (tk.id:Int),.int .u64 (tk.list:Int),.string (str tk.title),.bool tk.done,.float .f64 tk.rank,.float .f64 tk.est,.slice A4 tk.tags.length c4] 74 (0,0)):=by rw [← iL];exact aY PY.out _
       have kG:u5.ownsRow wy.heap.size 74 7 (.slice (some ⟨wy.heap.size,0,none⟩) 1 1) 1 (az (⟨tk,A4,c4⟩:aL)):=by
        have o5:=gN (w:=wy) (e:=74) (xs:=az (⟨tk,A4,c4⟩:aL)) rfl (rfl:(az (⟨tk,A4,c4⟩:aL)).length=7)
        rw [← iL]
        exact o5
       have B5:Below wy.heap.size wy u5:=by rw [← iL];exact ((Below.refl wy.heap.size wy).alloc (Nat.le_refl _) _).drew
       have L5:au u5 u5.heap.size 0 (if c3=q then some ad else (some ad).map (·.add (q * 7))) (ai (xs.drop q)):=by
        rw [← fI]
        exact ((au.stay LY.out.old B5).AA 7 q c3 (by decide) (by rw [aQ,HI.out.2.1];exact Nat.mul_le_mul_right _ hkc))
       have dh:(ai (xs.drop q)).length=(k - q) * 7:=by rw [aQ,List.length_drop,HI.out.2.1]
       have dm:∀ v∈(ai (xs.drop q)),v.oneCell'=true:=cB _
       have lG:∀ z,(Value.slice (some ⟨wy.heap.size,0,none⟩) 1 1).ownBlock=some z→wy.heap.size≤z:=fun z e=>by injection e with e;rw [← e];exact Nat.le_refl _
       refine ax (i:=9) (by kernel_rfl) rfl (fun K hK=>?_)
       refine eP rfl _ _ 23 rfl wy.heap.size 74 i0 _ 7 80 underlying23 hi hz0 hz1 hz2 rfl (by decide) _ 1 (az (⟨tk,A4,c4⟩:aL)) rfl kG u5.heap.size _ (k - q) (c3 - q) (ai (xs.drop q)) 0 rfl dh L5 dm (by unfold maxLen;omega) (by omega) B5.size ?_
       intro v6 w6 hown6 aM ed
       obtain⟨A6,k6,rfl⟩:=aA hown6
       obtain⟨a6,qX,_,hc6⟩:=(aG (B:=0) hown6) (by simp [az])
       subst qX
       have B6:Below wy.heap.size wy w6:=B5.grown aM B5.size lG
       have S1:w6.heap[wo.heap.size]?=some (.cells #[.int .u64 (tk.id:Int),.int .u64 (tk.list:Int),.string (str tk.title),.bool tk.done,.float .f64 tk.rank,.float .f64 tk.est,.slice A4 tk.tags.length c4] 74 (0,0)):=(B6.block _ (lt_of_block PY.out)).trans PY.out
       refine hK _ _ S1 ?_
       clear aM ed L5 dh dm lG B5 kG
       clear hK K S0
       have S0:=S1
       clear S1
       try simp only [Act.put,pS]
       have L6:au w6 w6.heap.size 0 (some ad) (ai (xs.take q)):=by
        rw [← eQ]
        exact (au.stay LY.out.old B6).take _
       have di:(ai (xs.take q)).length=q * 7:=by rw [aQ,List.length_take,HI.out.2.1,Nat.min_eq_left (by omega)]
       refine ax (i:=10) (by kernel_rfl) rfl (fun K hK=>?_)
       refine fB rfl _ _ 23 rfl wy.heap.size 74 i0 _ 7 80 underlying23 hi hz0 hz1 hz2 rfl w6.heap.size 0 (some ad) q (ai (xs.take q)) rfl di L6 (by intro z;first | rfl | cases z) a6 (1+(k - q)) k6 (az (⟨tk,A4,c4⟩:aL)++(ai (xs.drop q))) rfl hown6.1 hc6 (fo (dI _) (cB _)) (by omega) (by unfold maxLen;omega) (by omega) B6.size ?_
       intro v7 w7 bS bR hblk7
       obtain⟨A7,k7,rfl⟩:=aA bS
       have B7:Below wy.heap.size wy w7:=B6.grown bR B6.size (fun z e=>by cases e)
       have S1:w7.heap[wo.heap.size]?=some (.cells #[.int .u64 (tk.id:Int),.int .u64 (tk.list:Int),.string (str tk.title),.bool tk.done,.float .f64 tk.rank,.float .f64 tk.est,.slice A4 tk.tags.length c4] 74 (0,0)):=(B7.block _ (lt_of_block PY.out)).trans PY.out
       refine hK _ _ S1 ?_
       clear bR L6 di
       clear hK K S0
       have S0:=S1
       clear S1
       try simp only [Act.put,pS]
       refine aK 11 ?_ rfl (by kernel_rfl) rfl ?_ S0 ?_
       rotate_left
       ·intro u hu;go_simp;try rfl
       try simp only [Act.put,pS]
       refine wpAnyH_done (by kernel_rfl) ?_ _
       clear S0
       have lF:=hid bS
       have nV:=hid B7
       have qV:=hid hblk7
       clear bS B7 hblk7 hown6 hc6 B6
       generalize (if c3=q then some ad else some (ad.add (q * 7)))=A8
       go_wp2
       go_roundw
       case rel =>
        have zV:Below wo.heap.size wo w7:=BY.out.trans (nV.out.mono BY.out.size)
        have iA:(xs.take q++(⟨tk,A4,c4⟩:aL) :: xs.drop q).length=q+(1+(k - q)):=by rw [List.length_append,List.length_cons,List.length_take,List.length_drop,HI.out.2.1,Nat.min_eq_left (by omega)];omega
        have CELLS:ai (xs.take q++(⟨tk,A4,c4⟩:aL) :: xs.drop q)=(ai (xs.take q))++(az (⟨tk,A4,c4⟩:aL)++(ai (xs.drop q))):=by simp [ai]
        refine⟨i+1,q+(1+(k - q)),A7,k7,xs.take q++(⟨tk,A4,c4⟩:aL) :: xs.drop q,by go_num,by omega,rfl,by omega,(aO lF.out).2,BR.out.trans (zV.mono BR.out.size),hid ⟨?_,iA,?_,fun m hm=>?_,fun z=>by subst z;cases qV.out⟩⟩
        ·rw [CELLS]
         exact aG (B:=0) lF.out
        ·rw [TKO.out,← HI.out.2.2.1]
         exact INS.out
        ·have hm2:m=(⟨tk,A4,c4⟩:aL)∨m∈xs:=by
          rcases List.mem_append.1 hm with h | h
          ·exact .inr (List.mem_of_mem_take h)
          ·rcases List.mem_cons.1 h with h | h
           ·exact .inl h
           ·exact .inr (List.mem_of_mem_drop h)
         rcases hm2 with rfl | h
         ·exact FT.out.stay zV
         ·exact (HI.out.2.2.2.1 m h).stay zV
       case measure=>simp [intOf];omega
   ·have f1:((tk.list:Int) != (list:Int))=true:=by simp;omega
    have TKO:Hid (T9.kJ (ay (ms.take (i+1))) list=T9.kJ (ay (ms.take i)) list):=hid (by rw [uA.out,T9.vo,if_neg h1])
    clear h1
    go_wp2
    go_roundw
    case rel=>exact⟨i+1,k,A3,c3,xs,by go_num,by omega,rfl,by omega,hkc,BR.out.trans (B2.out.mono BR.out.size),hid ⟨bG HI.out.1 B2.out,HI.out.2.1,by rw [TKO.out];exact HI.out.2.2.1,fun m hm=>(HI.out.2.2.2.1 m hm).stay B2.out,HI.out.2.2.2.2⟩⟩
    case measure=>simp [intOf];omega
  ·obtain rfl:i=n:=by omega
   have hltz:¬ ((i:Int)<(i:Int)):=by omega
   have XT:Hid (ay xs=T9.kJ (ay ms) list):=hid (by rw [HI.out.2.2.1,HN.out,List.take_length])
   go_wp2
   go_ret
   exact⟨A3,c3,xs,by rw [HI.out.2.1];rfl,HI.out.1,HI.out.2.2.2.1,by rw [HI.out.2.1];exact hkc,HI.out.2.2.2.2,XT.out,B1.out.trans (BR.out.mono B1.out.size)⟩
end
end Go.Proofs.YtcedlgedmkghgaaGreat
