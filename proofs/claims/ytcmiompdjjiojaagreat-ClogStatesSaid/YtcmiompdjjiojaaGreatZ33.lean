import Derived.Test.YtcmiompdjjiojaaGreatZ19
import Derived.Test.YtcmiompdjjiojaaGreatZ32
namespace Go.Proofs.YtcmiompdjjiojaaGreat
set_option maxHeartbeats 16000000
open Go.Lib Go.Proofs.Tryz
set_option linter.unusedSimpArgs false
set_option maxRecDepth 100000
section
open Go.RowKit Go.Lib
theorem chg_c {s:aQ} {u:T9.Mu} {B:Nat} {w:World} (h:OS s B w) (hB:B≤w.heap.size) (hr:T9.aJ s.st=0) (ho:s.st.ok) (hk:1≤u.kind∧u.kind≤13) :
  Calls prog 79 #[s.val,u.val] w (dO (T9.eD s.st u) B w):=by
 obtain⟨kd,id,list,text,f,flag⟩:=u
 have hk:1≤kd∧kd≤13:=hk
 have c:kd=1∨kd=2∨kd=3∨kd=6∨kd=11∨kd=12∨kd=13∨kd=4∨kd=5∨kd=7∨kd=8∨kd=9∨kd=10:=by omega
 rcases c with rfl | rfl | rfl | rfl | rfl | rfl | rfl | rfl | rfl | rfl | rfl | rfl | rfl
 ·exact chg1_c h hB hr rfl
 ·exact chg2_c h hB hr rfl
 ·exact chg3_c h hB hr rfl
 ·exact chg6_c h hB hr rfl
 ·exact chg11_c h hB hr rfl
 ·exact chg12_c h hB hr rfl
 ·exact chg13_c h hB hr rfl ho
 ·exact rT h hB hr (by simp) fun g n c i ms x w' k hx hB' _ _=>chT4_c (u:=⟨4,id,list,text,f,flag⟩) k hx hB'
 ·exact rT h hB hr (by simp) fun g n c i ms x w' k hx hB' _ _=>chT5_c (u:=⟨5,id,list,text,f,flag⟩) k hx hB'
 ·exact rT h hB hr (by simp) fun g n c i ms x w' k hx hB' _ _=>chT7_c (u:=⟨7,id,list,text,f,flag⟩) k hx hB'
 ·exact rT h hB hr (by simp) fun g n c i ms x w' k hx hB' _ _=>chT8_c (u:=⟨8,id,list,text,f,flag⟩) k hx hB'
 ·exact rT h hB hr (by simp) fun g n c i ms x w' k hx hB' hu hl=>chT9_c (u:=⟨9,id,list,text,f,flag⟩) k hx hB' hu hl
 ·exact rT h hB hr (by simp) fun g n c i ms x w' k hx hB' hu hl=>chT10_c (u:=⟨10,id,list,text,f,flag⟩) k hx hB' hu hl
theorem tq (p:Addr) (x er:Int) (older:List PanicEntry) (w:World) (hc:w.cell? p=some (.int .i64 x)) (hz:w.frozen? p=false) :
  CallsD prog 94 #[.pointer (some p)] (.panicking ({ v:=.iface 92 (.int .i64 er),recovered:=false } :: older)) w fun e u' w' =>
   e=.returned (.tuple #[])∧u'=.panicking ({ v:=.iface 92 (.int .i64 er),recovered:=true } :: older)∧w'=w.setCell p (.int .i64 er):=by
 refine callsD_of_wpS func94 rfl fun c₀ cs hu=>?_
 apply wpS_seq
 apply wpS_region
 simp [wpOpsS,go_sem,recoverD,hu,ntmps94,Exit.thenS]
 apply wpS_seq
 apply wpS_region
 simp [wpOpsS,go_sem,Exit.thenS,Array.replicate]
 refine wpS_cond (t:=true) (by simp [Act.eval]) ?_
 simp only [if_true]
 apply wpS_region
 have hta:(Instr.typeAssert (.iface 92 (.int .i64 er)) 20 92 false).run prog w=.ok (.int .i64 er) w:=by kernel_rfl
 simp [wpOpsS,go_sem,hta,hc,hz,bodyPostS,results,results94]
theorem Dn (p:Addr) (w:World) :
  CallsD prog 94 #[.pointer (some p)] .returning w fun e u' w'=>e=.returned (.tuple #[])∧u'=.returning∧w'=w:=by
 refine callsD_of_wpS func94 rfl fun c₀ cs hu=>?_
 apply wpS_seq
 apply wpS_region
 simp [wpOpsS,go_sem,recoverD,hu,ntmps94,Exit.thenS]
 apply wpS_seq
 apply wpS_region
 simp [wpOpsS,go_sem,Exit.thenS,Array.replicate]
 refine wpS_cond (t:=false) (by simp [Act.eval]) ?_
 simp only [Bool.false_eq_true,if_false]
 refine wpS_of_wp (wp_skip ?_)
 cases c₀
 simp_all [bodyPostS]
 simp [results,results94]
def F9 (s:T9.St) (m:T9.Mu) (b:Nat) (w:World) (e:Ending) (w':World):Prop :=
 w.grownBy w' (some (b+3))∧((T9.bA s m).2=0→∃ q:aQ,e=.returned (.tuple #[])∧kR q w'∧q.st=(T9.bA s m).1∧w'.heap[b+3]?=some (.cells #[.slice q.A q.ls.length q.c,.slice q.A2 q.ms.length q.c2] 26 (0,0))) ∧
 ((T9.bA s m).2≠0→e=.panicked [{ v:=.iface 92 (.int .i64 (T9.bA s m).2),recovered:=false }]∧w'.heap[b+3]?=w.heap[b+3]?)
theorem Je {s:T9.St} {m:T9.Mu} (h:T9.aJ s≠0):T9.bA s m=(⟨[],[]⟩,T9.aJ s):=by unfold T9.bA;rw [if_pos h]
theorem Jf {s:T9.St} {m:T9.Mu} (h:T9.aJ s=0) (h2:T9.bN m≠0):T9.bA s m=(⟨[],[]⟩,T9.bN m):=by unfold T9.bA;rw [if_neg (fun q=>q h),if_pos h2]
theorem Jg {s:T9.St} {m:T9.Mu} (h:T9.aJ s=0) (h2:T9.bN m=0) (h3:(T9.eD s m).1≠0):T9.bA s m=(⟨[],[]⟩,(T9.eD s m).1):=by unfold T9.bA;rw [if_neg (fun q=>q h),if_neg (fun q=>q h2),if_pos h3]
theorem Jh {s:T9.St} {m:T9.Mu} (h:T9.aJ s=0) (h2:T9.bN m=0) (h3:(T9.eD s m).1=0):T9.bA s m=((T9.eD s m).2,0):=by unfold T9.bA;rw [if_neg (fun q=>q h),if_neg (fun q=>q h2),if_neg (fun q=>q h3)]
theorem F9.bad {s:T9.St} {m:T9.Mu} {b:Nat} {w w':World} {er:Int} (hb:Below w.heap.size w w') (hn:b+3<w.heap.size) (h:(T9.bA s m).2=er) (h0:er≠0):F9 s m b w (.panicked [{ v:=.iface 92 (.int .i64 er),recovered:=false }]) w':=⟨eP hb,fun z=>absurd (h.symm.trans z) h0,fun _=>⟨by rw [h],hb.block _ hn⟩⟩
theorem clo_c {s:aQ} {m:T9.Mu} {b:Nat} {w:World} (hs:SM s w) (hl:s.st.short) (ho:s.st.ok) (ht:m.text.length≤200) (hst:w.heap[b]?=some (.cells #[.slice s.A s.ls.length s.c,.slice s.A2 s.ms.length s.c2] 26 (0,0))) (hmu:kP m (b+1) w) (hn:w.heap[b+3]?=some (.cells #[.slice none 0 0,.slice none 0 0] 26 (0,0))) :
  Calls prog 76 #[.pointer (some ⟨b,0,none⟩),.pointer (some ⟨b+1,0,none⟩),.pointer (some ⟨b+3,0,none⟩)] w (F9 s.st m b w):=by
 have HS:=hid hs
 have HST:=hid hst
 have HMU:=hid hmu
 have HN:=hid hn
 obtain⟨s0,s1⟩:=aa hst
 obtain⟨m0,m1,m2,m3,m4,m5⟩:=ag hmu
 have RC:=hid (FJ (c:=s.c) (c2:=s.c2) hs.l hs.k rfl rfl hl ⟨hs.lc,hs.kc⟩)
 have HO:=hid ho
 have HT:=hid ht
 have HL:=hid hl
 obtain⟨re,hre⟩:=nm (T9.aJ s.st)
 have MH:=hid hre
 rw [show T9.aJ ⟨s.ls,ay s.ms⟩=re from hre] at RC
 clear hs hst hmu hn ho ht hl hre
 by_cases h1:re=0
 case neg =>
  go_enter func76,ntmps76
  go_wp2_with fail
  refine RC.out.mono ?_
  rintro e w1 ⟨rfl,b1⟩
  have B1:=hid b1
  clear b1
  go_wp2_with (go_at_call 77;refine (Bo h1 _).mono ?_;rintro e w' ⟨rfl,rfl⟩)
  exact⟨rfl,F9.bad B1.out (lt_of_block HN.out) (by rw [Je (by rw [MH.out];exact h1)];exact MH.out) h1⟩
 subst h1
 obtain⟨ce,hce⟩:=nm (T9.bN m)
 have HCE:=hid hce
 by_cases h2:ce=0
 case neg =>
  go_enter func76,ntmps76
  go_wp2_with fail
  refine RC.out.mono ?_
  rintro e w1 ⟨rfl,b1⟩
  have B1:=hid b1
  clear s0 s1 m0 m1 m2 m3 m4 m5
  obtain⟨m0,m1,m2,m3,m4,m5⟩:=ag (HMU.out.stay b1)
  have CC:=hid (vk (m:=m) (w:=w1) HT.out)
  rw [hce] at CC
  unfold T9.Mu.val at CC
  clear b1 hce
  go_wp2_with (go_at_call 77;refine (y8 _).mono ?_;rintro e w' ⟨rfl,rfl⟩)
  refine CC.out.mono ?_
  rintro e w2 ⟨rfl,b2⟩
  have B2:=hid (B1.out.trans (b2.mono B1.out.size))
  clear b2
  go_wp2_with (go_at_call 77;refine (Bo h2 _).mono ?_;rintro e w' ⟨rfl,rfl⟩)
  exact⟨rfl,F9.bad B2.out (lt_of_block HN.out) (by rw [Jf MH.out (by rw [HCE.out];exact h2)];exact HCE.out) h2⟩
 subst h2
 go_enter func76,ntmps76
 go_wp2_with fail
 refine RC.out.mono ?_
 rintro e w1 ⟨rfl,b1⟩
 have B1:=hid b1
 clear s0 s1 m0 m1 m2 m3 m4 m5
 obtain⟨m0,m1,m2,m3,m4,m5⟩:=ag (HMU.out.stay b1)
 have CC:=hid (vk (m:=m) (w:=w1) HT.out)
 rw [hce] at CC
 unfold T9.Mu.val at CC
 clear b1 hce
 go_wp2_with (go_at_call 77;refine (y8 _).mono ?_;rintro e w' ⟨rfl,rfl⟩)
 refine CC.out.mono ?_
 rintro e w2 ⟨rfl,b2⟩
 have B2:=hid (B1.out.trans (b2.mono B1.out.size))
 clear b2
 go_wp2_with (go_at_call 77;refine (y8 _).mono ?_;rintro e w' ⟨rfl,rfl⟩)
 have S2:Hid (w2.drew.heap[b]?=some (.cells #[.slice s.A s.ls.length s.c,.slice s.A2 s.ms.length s.c2] 26 (0,0))∧kP m (b+1) w2.drew):=hid ⟨ae HST.out B2.out.drew,HMU.out.stay B2.out.drew⟩
 have hs2:SM s w2.drew:=(HS.out.stay B2.out).stay (Below.refl _ w2).drew
 have CN:=hid (uy (c:=s.c) (c2:=s.c2) hs2.l hs2.k rfl rfl (by have:=(T9.aF MH.out).1;have:s.ls.length≤20:=this;omega) (by have:=(T9.aF MH.out).2.1;have:(ay s.ms).length≤60:=this;rw [aK] at this;omega) (fun x hx=>by
  have q:=((T9.cz.1 (T9.aF MH.out).2.2.2).1 x.t (List.mem_map.2 ⟨x,hx,rfl⟩)).2.1
  have:=(T9.cu q).2.2.2.2.1
  omega))
 clear hs2 m0 m1 m2 m3 m4 m5
 refine wp_region_held_drew (S:=fun v=>v.heap[b]?=some (.cells #[.slice s.A s.ls.length s.c,.slice s.A2 s.ms.length s.c2] 26 (0,0))∧kP m (b+1) v) (by kernel_rfl) (S2.out) (fun S0=>?_)
 refine av 0 S0 ?_ (hy:=by intro u hu;obtain⟨x0,x1⟩:=aa hu.1;go_simp;try rfl)
 refine av 2 S0 ?_ (hy:=by intro u hu;obtain⟨x0,x1,x2,x3,x4,x5⟩:=ag hu.2;go_simp;try rfl)
 refine fw 1 fun K hK=>?_
 go_simp
 refine (CN.out).mono ?_
 rintro e w3 ⟨q0,rfl,_,hst,b3,_,hL,hK,hTG⟩
 have O3:Hid (OS q0 w2.heap.size w3):=hid ⟨hL,hK,hTG⟩
 have Q0:Hid (q0.st=s.st):=hid (hst.trans (T9.kS MH.out))
 have B3:Hid (Below w.heap.size w w3):=hid (B2.out.trans (((Below.refl _ w2).drew.trans b3).mono B2.out.size))
 have CG:=hid (chg_c (u:=m) O3.out b3.size (by rw [Q0.out];exact MH.out) (by rw [Q0.out];exact HO.out) (T9.lU HCE.out).1)
 rw [Q0.out] at CG
 unfold aQ.val T9.Mu.val at CG
 unfold aQ.val
 have S1:w3.heap[b]?=some (.cells #[.slice s.A s.ls.length s.c,.slice s.A2 s.ms.length s.c2] 26 (0,0))∧kP m (b+1) w3:=⟨ae HST.out B3.out,HMU.out.stay B3.out⟩
 clear hst b3 hL hK hTG
 refine hK _ _ S1 ?_
 clear hK K S0
 have S0:=S1
 clear S1
 try simp only [Act.put,pS]
 refine fw 3 fun K hK=>?_
 go_simp
 refine CG.out.mono ?_
 rintro e w4 ⟨t4,hok,hbad⟩
 have D4:Hid (Below w.heap.size w w4):=hid (B3.out.trans (t4.mono B2.out.size))
 by_cases h3:(T9.eD s.st m).1=0
 case neg =>
  obtain rfl:=hbad h3
  exact⟨rfl,F9.bad D4.out (lt_of_block HN.out) (by rw [Jg MH.out HCE.out h3]) h3⟩
 obtain⟨q,rfl,hq,sM⟩:=hok h3
 have HQ:=hid hq
 have HQS:=hid sM
 have H3:=hid h3
 have S1:w4.heap[b]?=some (.cells #[.slice s.A s.ls.length s.c,.slice s.A2 s.ms.length s.c2] 26 (0,0))∧kP m (b+1) w4:=⟨ae HST.out D4.out,HMU.out.stay D4.out⟩
 have N4:=hid (ae HN.out D4.out)
 obtain⟨n0,n1⟩:=aa N4.out
 have f0:=af N4.out 0
 have f1:=af N4.out 1
 obtain⟨w5,fV⟩:=nm ((w4.setCell ⟨b+3,0,none⟩ (.slice q.A q.ls.length q.c)).setCell ⟨b+3,1,none⟩ (.slice q.A2 q.ms.length q.c2))
 have HW5:=hid fV
 have y4:Ty w4 (b+3) 26:=⟨_,_,N4.out⟩
 have T5:Hid (aM 0 [26] w4 w5):=hid (by
  rw [← fV]
  exact ((aM.refl _ _ w4).aB (p:=⟨b+3,0,none⟩) y4 (by simp) (Nat.zero_le _) _).aB (p:=⟨b+3,1,none⟩) (y4.set _ _) (by simp) (Nat.zero_le _) _)
 have S5:w5.heap[b]?=some (.cells #[.slice s.A s.ls.length s.c,.slice s.A2 s.ms.length s.c2] 26 (0,0))∧kP m (b+1) w5:=by
  rw [← fV]
  exact⟨az (az S1.1 (p:=⟨b+3,0,none⟩) (by show b≠b+3;omega) _) (p:=⟨b+3,1,none⟩) (by show b≠b+3;omega) _,az (az S1.2 (p:=⟨b+3,0,none⟩) (by show b+1≠b+3;omega) _) (p:=⟨b+3,1,none⟩) (by show b+1≠b+3;omega) _⟩
 unfold aQ.val
 refine hK _ _ S1 ?_
 clear hK K S0 t4 hok hbad hq sM h3
 try simp only [Act.put,pS]
 refine fw 4 fun K hK=>?_
 go_simp
 refine hK _ _ S5 ?_
 clear hK K S1
 try simp only [Act.put,pS]
 refine wpAnyH_done (by kernel_rfl) ?_ _
 go_wp2
 go_end0
 have e:=Jh MH.out HCE.out H3.out
 refine⟨(eP (r:=some (b+3)) D4.out |> fun g=>dM g ?_),fun _=>⟨q,rfl,HQ.out.bE T5.out (by decide) (by decide) (by decide),by rw [e];exact HQS.out,?_⟩,fun z=>absurd (by rw [e]) z⟩
 ·rw [← HW5.out]
  exact⟨rfl,rfl,rfl,by simp,fun k _ hk=>(Below.heap_setCell _ ⟨b+3,1,none⟩ _ k (fun z=>hk (congrArg some z))).trans (Below.heap_setCell _ ⟨b+3,0,none⟩ _ k (fun z=>hk (congrArg some z)))⟩
 ·rw [← HW5.out]
  exact (ah (ah N4.out 0 _) 1 _).trans rfl
def IZ (s:T9.St) (m:T9.Mu) (b:Nat) (w:World) (e:Ending) (w':World):Prop :=
 w.grownBy w' (some (b+3))∧e=.returned (.int .i64 (T9.bA s m).2)∧((T9.bA s m).2=0→∃ q:aQ,kR q w'∧q.st=(T9.bA s m).1∧w'.heap[b+3]?=some (.cells #[.slice q.A q.ls.length q.c,.slice q.A2 q.ms.length q.c2] 26 (0,0)))∧((T9.bA s m).2≠0→w'.heap[b+3]?=w.heap[b+3]?)
theorem Ia {s:aQ} {m:T9.Mu} {b:Nat} {w:World} (hs:SM s w) (hl:s.st.short) (ho:s.st.ok) (ht:m.text.length≤200) (hst:w.heap[b]?=some (.cells #[.slice s.A s.ls.length s.c,.slice s.A2 s.ms.length s.c2] 26 (0,0))) (hmu:kP m (b+1) w) (hn:w.heap[b+3]?=some (.cells #[.slice none 0 0,.slice none 0 0] 26 (0,0))) :
  Calls prog 75 #[.func (.func 76) #[] #[.pointer (some ⟨b,0,none⟩),.pointer (some ⟨b+1,0,none⟩),.pointer (some ⟨b+3,0,none⟩)]] w (IZ s.st m b w):=by
 have hmf:∀ (fn:Fn) (first cap:Array Value) (w:World),(Instr.makeFunc fn first cap).run prog w=.ok (.func fn first cap) w:=fun _ _ _ _=>rfl
 have nb:b+3<w.heap.size:=lt_of_block hn
 obtain⟨w1,hw1⟩:=nm (w.alloc (.cells #[.int .i64 0] 92))
 have b1:Below w.heap.size w w1:=by rw [← hw1];exact (Below.refl _ w).alloc (Nat.le_refl _) _
 have k1:w1.heap[w.heap.size]?=some (.cells #[.int .i64 0] 92 (0,0)):=by rw [← hw1];exact heap_alloc_new w _
 have z1:w1.heap.size=w.heap.size+1:=by rw [← hw1];simp
 have B1:=hid b1
 have K1:=hid k1
 have Z1:=hid z1
 have CL:=hid (clo_c (hs.stay b1) hl ho ht (ae hst b1) (hmu.stay b1) (ae hn b1))
 clear hs hl ho ht hst hmu hn b1 k1 z1
 obtain⟨ap,hap⟩:=nm (T9.bA s.st m)
 have HAP:=hid hap
 clear hap
 go_enter_defers func75,ntmps75
 go_wp2_with fail
 refine CL.out.mono ?_
 rintro e w2 ⟨hg,hok,hbad⟩
 have HG:=hid hg
 have K2:Hid (w2.heap[w.heap.size]?=some (.cells #[.int .i64 0] 92 (0,0))):=hid ((hg.block w.heap.size (by have:=Z1.out;omega) (fun e=>by injection e with e;omega)).trans K1.out)
 have c2:=cell_of_one K2.out
 have f2:=af K2.out 0
 have y2:Ty w2 w.heap.size 92:=⟨_,_,K2.out⟩
 have GW:∀ (v:Value),w.grownBy (w2.setCell ⟨w.heap.size,0,none⟩ v) (some (b+3)):=fun v =>
  ⟨(aR w.heap.size [v] 0 w2).os.trans (HG.out.os.trans B1.out.os),(aR w.heap.size [v] 0 w2).tape.trans (HG.out.tape.trans B1.out.tape),(aR w.heap.size [v] 0 w2).output.trans (HG.out.output.trans B1.out.output),by have:=HG.out.size;have:=B1.out.size;simp;omega,fun k hk hne=>by
   rw [Below.heap_setCell _ ⟨w.heap.size,0,none⟩ _ k (by show k≠w.heap.size;omega),HG.out.block k (by have:=Z1.out;omega) hne,B1.out.block k hk]⟩
 have TW:∀ (v:Value),aM 0 [92] w2 (w2.setCell ⟨w.heap.size,0,none⟩ v):=fun v=>(aM.refl _ _ w2).aB (p:=⟨w.heap.size,0,none⟩) y2 (by simp) (Nat.zero_le _) v
 by_cases h0:(T9.bA s.st m).2=0
 case neg =>
  obtain⟨rfl,hnb⟩:=hbad h0
  have NB:Hid (w2.heap[b+3]?=w.heap[b+3]?):=hid (hnb.trans (B1.out.block _ nb))
  have GWH:=hid GW
  have H0:=hid h0
  have TWH:=hid TW
  clear GW TW hok hbad hg h0 hnb
  refine leaves_cons (f:=94) (args:=#[.pointer (some ⟨w.heap.size,0,none⟩)]) (by simp) (by simp [go_sem]) ?_
  refine (tq ⟨w.heap.size,0,none⟩ 0 _ [] _ c2 f2).mono ?_
  rintro e u' w'' ⟨rfl,rfl,rfl⟩
  have c3:(w2.setCell ⟨w.heap.size,0,none⟩ (.int .i64 (T9.bA s.st m).2)).cell? ⟨w.heap.size,0,none⟩=some (.int .i64 (T9.bA s.st m).2):=cell_of_one ((ah K2.out 0 _).trans rfl)
  have FIN:IZ s.st m b w (.returned (.int .i64 (T9.bA s.st m).2)) (w2.setCell ⟨w.heap.size,0,none⟩ (.int .i64 (T9.bA s.st m).2)):=⟨GWH.out _,rfl,fun z=>absurd z H0.out,fun _=>(Below.heap_setCell _ ⟨w.heap.size,0,none⟩ _ (b+3) (by show b+3≠w.heap.size;omega)).trans NB.out⟩
  have FH:=hid FIN
  clear FIN
  simp [Leaves,settle,results,results75,go_sem,c3]
  exact FH.out
 obtain⟨q,rfl,hq,sM,hn⟩:=hok h0
 have GWH:=hid GW
 have TWH:=hid TW
 have H0:=hid h0
 have HQ:=hid (And.intro hq (And.intro sM hn))
 clear GW TW hok hbad hg h0 hq sM hn
 go_wp2_with fail
 refine leaves_cons (f:=94) (args:=#[.pointer (some ⟨w.heap.size,0,none⟩)]) (by simp) (by simp [go_sem]) ?_
 refine (Dn ⟨w.heap.size,0,none⟩ _).mono ?_
 rintro e u' w'' ⟨rfl,rfl,rfl⟩
 have c3:(w2.setCell ⟨w.heap.size,0,none⟩ (.int .i64 0)).cell? ⟨w.heap.size,0,none⟩=some (.int .i64 0):=cell_of_one ((ah K2.out 0 _).trans rfl)
 have FIN:IZ s.st m b w (.returned (.int .i64 0)) (w2.setCell ⟨w.heap.size,0,none⟩ (.int .i64 0)):=⟨GWH.out _,by rw [H0.out],fun _=>⟨q,HQ.out.1.bE (TWH.out _) (by decide) (by decide) (by decide),HQ.out.2.1,(TWH.out _).blk HQ.out.2.2 (by decide)⟩,fun z=>absurd H0.out z⟩
 have FH:=hid FIN
 clear FIN
 simp [Leaves,settle,results,results75,go_sem,c3]
 exact FH.out
theorem Be {s:aQ} {m:T9.Mu} {w:World} (hs:SM s w) (hl:s.st.short) (ho:s.st.ok) (ht:m.text.length≤200) :
  Calls prog 63 #[s.val,m.val] w (yh s.st m w):=by
 have hmf:∀ (fn:Fn) (first cap:Array Value) (w:World),(Instr.makeFunc fn first cap).run prog w=.ok (.func fn first cap) w:=fun _ _ _ _=>rfl
 obtain⟨w1,hw1⟩:=nm (w.alloc (.cells #[.slice s.A s.ls.length s.c,.slice s.A2 s.ms.length s.c2] 26))
 obtain⟨w2,hw2⟩:=nm (w1.alloc (.cells #[.int .i64 m.kind,.int .u64 (m.id:Int),.int .u64 (m.list:Int),.string (str m.text),.float .f64 m.f,.bool m.flag] 57))
 obtain⟨w3,hw3⟩:=nm (w2.alloc (.cells #[.slice none 0 0,.slice none 0 0] 26))
 obtain⟨w4,hw4⟩:=nm (w3.alloc (.cells #[.slice none 0 0,.slice none 0 0] 26))
 obtain⟨cf,b3,z1,z2⟩:=CF.start (s:=s) (m:=m) (B:=0) hw1 hw2 hw3
 obtain⟨p4,b4,z4⟩:=aj hw4
 have z3:w3.heap.size=w.heap.size+3:=by rw [← hw3];simp;omega
 rw [z3] at p4
 have B4:=hid (b3.trans (b4.mono b3.size))
 have C4:=hid (cf.stay b4)
 have P4:=hid p4
 have Z3:=hid z3
 have Z4:=hid z4
 have RF:=hid (Ia (b:=w.heap.size) (hs.stay B4.out) hl ho ht C4.out.st C4.out.mu p4)
 unfold aQ.val T9.Mu.val
 clear hs hl ho ht cf b3 b4 p4 z4
 go_enter func63,ntmps63
 go_wp2_with fail
 refine RF.out.mono ?_
 rintro e w5 ⟨hg,rfl,hok,hbad⟩
 have R5:Hid (w5.heap[w.heap.size+2]?=some (.cells #[.slice none 0 0,.slice none 0 0] 26 (0,0))):=hid ((hg.block _ (lt_of_block C4.out.rv) (fun e=>by injection e with e;omega)).trans C4.out.rv)
 have B5:Hid (Below w.heap.size w w5):=hid (B4.out.grown hg B4.out.size (fun k e=>by injection e with e;omega))
 have y5:Ty w5 (w.heap.size+2) 26:=⟨_,_,R5.out⟩
 obtain⟨q,hq,sM,hn⟩:∃ q:aQ,kR q w5∧q.st=(T9.bA s.st m).1∧w5.heap[w.heap.size+3]?=some (.cells #[.slice q.A q.ls.length q.c,.slice q.A2 q.ms.length q.c2] 26 (0,0)):=by
  by_cases h0:(T9.bA s.st m).2=0
  ·exact hok h0
  ·refine⟨⟨[],none,0,[],none,0⟩,⟨au.nil,au.nil,by simp,Nat.le_refl _,Nat.le_refl _⟩,?_,(hbad h0).trans P4.out⟩
   rw [Dc h0]
   rfl
 have HQ:=hid hq
 have HQS:=hid sM
 obtain⟨n0,n1⟩:=aa hn
 obtain⟨v0,v1⟩:=aa R5.out
 have f0:=af R5.out 0
 have f1:=af R5.out 1
 obtain⟨w6,xI⟩:=nm ((w5.setCell ⟨w.heap.size+2,0,none⟩ (.slice q.A q.ls.length q.c)).setCell ⟨w.heap.size+2,1,none⟩ (.slice q.A2 q.ms.length q.c2))
 have T6:Hid (aM w.heap.size [26] w5 w6):=hid (by
  rw [← xI]
  exact ((aM.refl _ _ w5).aB (p:=⟨w.heap.size+2,0,none⟩) y5 (by simp) (Nat.le_add_right _ _) _).aB (p:=⟨w.heap.size+2,1,none⟩) (y5.set _ _) (by simp) (Nat.le_add_right _ _) _)
 obtain⟨x0,x1⟩:=aa (show w6.heap[w.heap.size+2]?=some (.cells #[.slice q.A q.ls.length q.c,.slice q.A2 q.ms.length q.c2] 26 (0,0)) by rw [← xI];exact (ah (ah R5.out 0 _) 1 _).trans rfl)
 obtain⟨er,her⟩:=nm ((T9.bA s.st m).2)
 have HER:=hid her
 rw [her]
 clear hq sM hn hg hok hbad y5 her
 go_wp2
 refine bodyPost_ret (v:=.tuple #[.agg #[.slice q.A q.ls.length q.c,.slice q.A2 q.ms.length q.c2],.int .i64 er]) (by simp [results,results63,go_sem,x0,x1]) rfl ?_
 exact⟨q,er,rfl,HQ.out.bE T6.out (by decide) (by decide) (by decide),B5.out.trans T6.out.below,HQS.out,HER.out.symm⟩
end
section
open Go.RowKit Go.Lib
end
end Go.Proofs.YtcmiompdjjiojaaGreat
