import Derived.Test.YtcmiompdjjiojaaGreatZ35
namespace Go.Proofs.YtcmiompdjjiojaaGreat
set_option maxHeartbeats 16000000
open Go.Lib Go.Proofs.Tryz
set_option linter.unusedSimpArgs false
set_option maxRecDepth 100000
section
section
open Go.RowKit Go.Lib Go.Shelf
def NewOk14 (s:T9.St) (w:World) (e:Ending) (w':World):Prop:=∃ (lp:Nat) (A:Option Addr) (c:Nat) (q:aQ),e=.returned (.pointer (some ⟨lp,0,none⟩))∧oD w.heap.size lp 0 A c [q] w'∧q.st=s∧w.heap.size≤lp∧Below w.heap.size w w'
theorem new14_c {s:aQ} {w:World} (hs:SM s w) (hf:jF s):Calls prog 41 #[s.val] w (NewOk14 (T9.bV s.st) w):=by
 obtain⟨w0,hw0⟩:=nm (w.alloc (.cells #[.slice s.A s.ls.length s.c,.slice s.A2 s.ms.length s.c2] 26))
 obtain⟨lb,b1,z1⟩:=aj hw0
 have B0:=hid b1
 have BG:=hid (Im (hs.stay b1) hf.cs hf.n1 hf.n2 hf.n3)
 obtain⟨s0,hs0⟩:=nm (T9.bV s.st)
 rw [hs0] at BG ⊢
 obtain⟨l0,l1⟩:=aa lb
 unfold sI aQ.val at BG
 unfold aQ.val
 clear lb b1 hs hf hs0
 go_enter func41,ntmps41
 go_wp2_with fail
 refine BG.out.mono ?_
 rintro e w2 ⟨q,rfl,hq,sM,hb2⟩
 have B2:Hid (Below w.heap.size w w2):=hid (B0.out.trans (hb2.mono B0.out.size))
 have Q2:=hid hq
 have QS:=hid sM
 have lit:=World.ownsRow_lit (base:=w.heap.size) (e:=26) (size:=2) w2 #[.slice q.A q.ls.length q.c,.slice q.A2 q.ms.length q.c2] 1 B2.out.size (by unfold maxLen;omega) rfl
 have LIT:=hid lit
 obtain⟨g,hg⟩:=nm w2.heap.size
 obtain⟨i0,hi,hz0,hz1,hz2⟩:=info_parts Tryz.infoS14
 have hbs:∀ u:World,(Instr.buildSlice 85 1 #[(0,.agg #[.slice q.A q.ls.length q.c,.slice q.A2 q.ms.length q.c2])]).run prog u=.ok (.slice (some ⟨u.heap.size,0,none⟩) 1 1) (u.alloc (.cells #[.slice q.A q.ls.length q.c,.slice q.A2 q.ms.length q.c2] 26)):=fun u=>dH u 85 26 #[.slice q.A q.ls.length q.c,.slice q.A2 q.ms.length q.c2] i0 _ underlying85 hi hz0 hz1 (by show 0<2;omega) (by show 2≤16777216;omega)
 have hbd:∀ u:World,(Instr.build 88 #[(1,.slice (some ⟨g,0,none⟩) 1 1)]).run prog u=.ok (.agg #[.int .i64 0,.slice (some ⟨g,0,none⟩) 1 1]) u:=fun u=>run_build u 88 _ _ (by kernel_rfl)
 clear hq sM hb2 l0 l1 lit
 go_wp2
 go_ret
 obtain⟨w3,hw3⟩:=nm (w2.alloc (.cells #[.slice q.A q.ls.length q.c,.slice q.A2 q.ms.length q.c2] 26))
 obtain⟨gb,b3,z3⟩:=aj hw3
 rw [hw3] at LIT ⊢
 obtain⟨w4,hw4⟩:=nm (w3.alloc (.cells #[.int .i64 0,.slice (some ⟨g,0,none⟩) 1 1] 88))
 obtain⟨nb,b4,z4⟩:=aj hw4
 rw [hw4]
 have e:w3.heap.size=g+1:=by rw [z3,hg]
 rw [e] at nb
 rw [hg] at LIT
 exact⟨g+1,some ⟨g,0,none⟩,1,q,rfl,⟨nb,by simpa [eF,pI] using own_below LIT.out b4,fun x hx=>by rw [List.mem_singleton] at hx;subst hx;exact (Q2.out.stay b3).stay b4⟩,QS.out,by rw [← hg];exact Nat.le_succ_of_le B2.out.size,(B2.out.trans (b3.mono B2.out.size)).trans (b4.mono (Nat.le_trans B2.out.size b3.size))⟩
theorem Ba {w:World} {B:Nat} {t:TypeId} {ad:Addr} {qs:List aQ} (h:au w B t (some ad) (eF qs)) (i:Nat):au w B t (some (ad.add (i * 2))) (eF (qs.drop i)):=by
 have e:eF qs=eF (qs.take i)++eF (qs.drop i):=by rw [← vY,List.take_append_drop]
 intro hx
 obtain⟨ad2,e1,h1,h2⟩:=h (by rw [e];intro q;exact hx (List.append_eq_nil_iff.1 q).2)
 injection e1 with e1
 subst e1
 refine⟨_,rfl,by rw [iK];exact h1,fun j u hj=>?_⟩
 rw [addr_add]
 refine h2 _ _ ?_
 have hl:i≤qs.length:=by
  rcases Nat.lt_or_ge qs.length i with q | q
  ·rw [List.drop_eq_nil_of_le (Nat.le_of_lt q)] at hj
   cases hj
  ·exact q
 rw [e,List.getElem?_append_right (by rw [kL,List.length_take,Nat.min_eq_left hl];omega),kL,List.length_take,Nat.min_eq_left hl,Nat.add_sub_cancel_left]
 exact hj
section
variable {base lp fst c : Nat} {A : Option Addr} {qs : List aQ} {W W' : World}
theorem Ir {k N:Nat} {n:Int} (h0:W.cell? ⟨lp,0,none⟩=some (.int .i64 (fst:Int))) (h1:W.cell? ⟨lp,1,none⟩=some (.slice A k c)) (hk:0<k) (hN:fst+k=N+1) (hs:N≤1000000) (hn:¬ ((fst:Int)≤n∧n≤(N:Int))):Calls prog 32 #[.pointer (some ⟨lp,0,none⟩),.int .i64 n] W fun e w'=>e=.returned (.bool false)∧∃ j,w'=W.drewN j:=by
 have TE:=hid (sH (n:=n) (b:=false) (decide_eq_false hn).symm h0 h1 hk hN hs)
 clear h0 h1 hk hN hs hn
 go_enter func32,ntmps32
 go_wp2_with fail
 refine TE.out.mono ?_
 rintro e w2 ⟨rfl,j,rfl⟩
 go_wp2
 go_ret
 exact⟨rfl,j,rfl⟩
def I8 (base lp fst:Nat) (qs:List aQ) (w:World) (e:Ending) (w':World):Prop:=∃ (A:Option Addr) (c:Nat),e=.returned (.bool true)∧oD base lp fst A c qs w'∧aM base [88] w w'∧∀ k,k<w.heap.size→k≠lp→w'.heap[k]?=w.heap[k]?
theorem EJ {N i:Nat} {n:Int} (hL:oD base lp fst A c qs W) (hb:base≤lp) (hN:fst+qs.length=N+1) (hs:N≤100000) (hn:n=((fst+i:Nat):Int)) (hi:i<qs.length):Calls prog 32 #[.pointer (some ⟨lp,0,none⟩),.int .i64 n] W (I8 base lp (fst+i) (qs.drop i) W):=by
 have TE:=hid (sH (n:=n) (b:=true) (decide_eq_true (show (fst:Int)≤n∧n≤(N:Int) by omega)).symm hL.cells.1 hL.cells.2 (by omega) hN (Nat.le_trans hs (by decide)))
 obtain⟨ad,q,rfl,hq,a0,a1⟩:=sj (aH (B:=0) hL.row) hi
 obtain⟨k,hk⟩:=nm qs.length
 have hkc:k≤c:=by rw [← hk];exact (aO hL.row).2
 have hw:IntKind.i64.wrap (n - (fst:Int))=(i:Int):=by rw [IntKind.wrap_i64];omega
 have hi0:0≤(i:Int):=by omega
 have hik:(i:Int)≤(k:Int):=by omega
 have hci:¬ (c=i):=by omega
 have hld:(qs.drop i).length=k - i:=by rw [List.length_drop,hk]
 have LD:=hid (Ba (aH (B:=0) hL.row) i)
 have HC:=hid (show ∀ u,Below W.heap.size W u→u.cell? ⟨lp,0,none⟩=some (.int .i64 (fst:Int))∧u.cell? ⟨lp,1,none⟩=some (.slice (some ad) k c) from fun u hu=>by rw [← hk];exact (hL.stay hu).cells)
 have HL:=hid hL
 have HK:=hid hk
 have HLD:=hid hld
 have HB:=hid hb
 have HN:=hid hn
 have HS:Hid (k - i≤1000000):=hid (by omega)
 have bl:base≤W.heap.size:=Nat.le_trans hb (Nat.le_of_lt (lt_of_block hL.blk))
 clear hL hb hN hs hn hq a0 a1 hld hk
 go_enter func32,ntmps32
 go_wp2_with fail
 refine TE.out.mono ?_
 rintro e w2 ⟨rfl,j,rfl⟩
 go_wp2_with fail
 refine (wpIn_wide (n:=9)).1 (dK.begin (S:=fun u=>Below W.heap.size W u) (st:=15) (by kernel_rfl) ?_)
 have S0:Below W.heap.size W (W.drewN j).drew:=(lg (Below.refl _ W) j).drew
 generalize (W.drewN j).drew=wd at S0 ⊢
 refine mr 0 S0 ?_
 refine mr 1 S0 ?_
 refine mr 2 S0 ?_
 refine mr 3 S0 ?_
 refine mr 4 S0 ?_ (hy:=by intro u hu;obtain⟨c0,c1⟩:=HC.out u hu;clear hu;go_simp;try rfl)
 refine mr 5 S0 ?_
 refine mr 6 S0 ?_
 refine mr 7 S0 ?_
 refine mr 8 S0 ?_
 refine mr 9 S0 ?_ (hy:=by intro u hu;obtain⟨c0,c1⟩:=HC.out u hu;clear hu;go_simp;try rfl)
 refine mr 10 S0 ?_
 refine mr 11 S0 ?_
 refine dK.nH (fun _=>trivial) (by kernel_rfl) eH (i:=12) (by kernel_rfl) rfl (fun K hK=>?_)
 go_simp
 have CP:=Dv (A:=some (ad.add (i * 2))) (n:=k - i) (c:=c - i) (w:=wd) (LD.out.below (Nat.zero_le _) S0) (Nat.zero_le _) HLD.out.symm HS.out
 unfold p8 at CP
 refine CP.mono ?_
 rintro e w3 ⟨A3,c3,rfl,ho3,hb3⟩
 have S1:Below W.heap.size W w3:=S0.trans (hb3.mono S0.size)
 refine hK _ _ (fun _ _=>S1) ?_
 have O3:=hid (l_ ho3 (Nat.le_trans bl S0.size))
 clear hK K S0 ho3 hb3 CP
 have S0:=S1
 clear S1
 try simp only [Act.put,pS]
 refine dK.nH (fun _=>trivial) (by kernel_rfl) eH (i:=13) (by kernel_rfl) rfl (fun K hK=>?_)
 go_simp
 refine hK _ _ (fun _ _=>S0) ?_
 clear hK K
 try simp only [Act.put,pS]
 refine dK.nH (fun _=>trivial) (by kernel_rfl) eH (i:=14) (by kernel_rfl) rfl (fun K hK=>?_)
 go_simp
 refine hK _ _ (fun _ _=>S0) ?_
 clear hK K
 try simp only [Act.put,pS]
 refine dK.nH (fun _=>trivial) (by kernel_rfl) eH (i:=15) (by kernel_rfl) rfl (fun K hK=>?_)
 have B3:=hid S0
 have L3:=HL.out.stay S0
 have lb:=L3.blk
 rw [HK.out] at lb
 obtain⟨g0,g1⟩:=aa lb
 have xG:=af lb 0
 have xH:=af lb 1
 go_simp
 obtain⟨vz,jQ⟩:=nm (w3.setCell ⟨lp,1,none⟩ (.slice A3 (k - i) c3))
 try rw [jQ]
 have lz:vz.heap[lp]?=some (.cells #[.int .i64 (fst:Int),.slice A3 (k - i) c3] 88 (0,0)):=by rw [← jQ];exact ah lb 1 _
 have tz:aM base [88] w3 vz:=by rw [← jQ];exact (aM.refl _ _ w3).setCell (p:=⟨lp,1,none⟩) lb (by simp) HB.out _
 have LZ:=hid lz
 have TZ:=hid tz
 have FZ:Hid (∀ k,k≠lp→vz.heap[k]?=w3.heap[k]?):=hid (fun k hk=>by rw [← jQ];exact Below.heap_setCell _ _ _ k hk)
 have L3':=hid L3
 refine hK _ _ (fun _ h=>absurd rfl h) ?_
 clear hK K S0 g0 g1 xG xH tz jQ lz lb L3
 try simp only [Act.put,pS]
 refine dK.done (by kernel_rfl) ⟨rfl,?_⟩
 obtain⟨vy,hvy⟩:=nm (vz.setCell ⟨lp,0,none⟩ (.int .i64 n))
 have fz0:=af LZ.out 0
 obtain⟨y0,y1⟩:=aa LZ.out
 have ly:vy.heap[lp]?=some (.cells #[.int .i64 n,.slice A3 (k - i) c3] 88 (0,0)):=by rw [← hvy];exact ah LZ.out 0 _
 have ty:aM base [88] vz vy:=by rw [← hvy];exact (aM.refl _ _ vz).setCell (p:=⟨lp,0,none⟩) LZ.out (by simp) HB.out _
 have LY:=hid ly
 have TY:=hid ty
 have FY:Hid (∀ k,k≠lp→vy.heap[k]?=vz.heap[k]?):=hid (fun k hk=>by rw [← hvy];exact Below.heap_setCell _ _ _ k hk)
 clear ly ty
 go_wp2
 go_ret
 have tt:=TZ.out.trans TY.out
 refine⟨A3,c3,rfl,⟨?_,?_,fun x hx=>(L3'.out.sm x (List.mem_of_mem_drop hx)).bE tt (by decide) (by decide) (by decide)⟩,(aM.of_below B3.out bl _).trans tt,fun k hk hne=>((FY.out k hne).trans (FZ.out k hne)).trans (B3.out.block k hk)⟩
 ·rw [HLD.out,← HN.out]
  exact LY.out
 ·rw [HLD.out]
  exact bX O3.out tt (by decide)
end
end
end
section
section
open Go.RowKit Go.Lib Go.Shelf
attribute [local go_sem] Oper.semAt_some
theorem aM.ql {B:Nat} {ts:List TypeId} {w W W':World} (h:aM B ts w W) (hB:B≤w.heap.size) (hb:Below w.heap.size W W'):aM B ts w W':=⟨h.below.trans (hb.mono hB),fun k cs t fr hk ht=>(hb.block k (lt_of_block hk)).trans (h.typed k cs t fr hk ht)⟩
structure yg (w:World) (base lp fst eb:Nat) (bad:List Nat) (qs:List aQ) (s:T9.St) (ms:List T9.Mu) (pre:List (Int × aQ)) (W:World):Prop where
 line:∃ A c,oD base lp fst A c (qs++pre.map (·.2)) W∧∀ g,(Value.slice A (qs++pre.map (·.2)).length c).ownBlock=some g→g ∉ bad
 err:EB14 w eb (T9.fK s (ms.take pre.length)) W
 xb:W.heap[w.heap.size]?=some (.cells #[.pointer (some ⟨lp,0,none⟩)] 70 (0,0))
 fr:aM base [88,26] w W
theorem yg.bE {w W W':World} {base lp fst eb B:Nat} {bad:List Nat} {qs:List aQ} {s:T9.St} {ms:List T9.Mu} {pre:List (Int × aQ)} (h:yg w base lp fst eb bad qs s ms pre W) (hB:w.heap.size≤B) (hw:base≤w.heap.size) (hT:aM B [] W W'):yg w base lp fst eb bad qs s ms pre W':=by
 obtain⟨A,c,h1,h2⟩:=h.line
 exact⟨⟨A,c,h1.bE hT (by simp) (by simp) (by simp) (by simp) (by simp),h2⟩,h.err.bE hT (by simp) (by simp),hT.blk h.xb (by simp),h.fr.ql hw (hT.below.mono hB)⟩
theorem yg.stp {w W W':World} {base lp fst eb B:Nat} {qs:List aQ} {s:T9.St} {ms:List T9.Mu} {pre:List (Int × aQ)} (h:yg w base lp fst eb [B] qs s ms pre W) (hB:w.heap.size<B) (hw:base≤w.heap.size) (hl:lp<B) (hT:St14 B W W'):yg w base lp fst eb [B] qs s ms pre W':=by
 obtain⟨A,c,h1,h2⟩:=h.line
 have keep:∀ k,(Value.slice A (qs++pre.map (·.2)).length c).ownBlock=some k→W'.heap[k]?=W.heap[k]?:=fun k hk=>by
  obtain⟨_,cs,fr,r⟩:=bM h1.row k hk
  exact hT.o k (lt_of_block r) (fun e=>h2 k hk (by rw [e];exact List.mem_singleton.2 rfl))
 exact⟨⟨A,c,⟨(hT.o lp (lt_of_block h1.blk) (by omega)).trans h1.blk,dh h1.row keep,fun q hq=>(h1.sm q hq).bE hT.t (by decide) (by decide) (by decide)⟩,h2⟩,h.err.bE hT.t (by decide) (by decide),(hT.o _ (lt_of_block h.xb) (by omega)).trans h.xb,h.fr.ql hw (hT.t.below.mono (by omega))⟩
def AddOk14 (base lp fst:Nat) (qs:List aQ) (s:T9.St) (ms:List T9.Mu) (n:Nat) (w:World) (e:Ending) (w':World):Prop:=∃ (A:Option Addr) (c:Nat) (rs:List aQ) (eA:Option Addr) (ec:Nat),e=.returned (.slice eA n ec)∧oD base lp fst A c (qs++rs) w'∧rs.length=n∧(∀ (i:Nat) (q:aQ),rs[i]?=some q→q.st=T9.bZ s (ms.take (i+1))) ∧
 w'.ownsRow w.heap.size 92 1 (.slice eA n ec) n ((T9.fK s ms).map encZ)∧aM base [88,26] w w'
theorem add14_c {base lp fst c n cI:Nat} {A AI:Option Addr} {qs:List aQ} {xs:List It} {s:T9.St} {w:World} (hL:oD base lp fst A c qs w) (hb:base≤lp) (hpos:0<qs.length) (hq:qs.length≤1000) (hs:∀ q,qs[qs.length - 1]?=some q→q.st=s) (hd:T9.dX s)
  (hI:au w base 0 AI (ax xs)) (hn:n=xs.length) (hx:n≤1000) (km:∀ x∈xs,x.m.ok∧x.m.text.length≤200) :
  Calls prog 34 #[.pointer (some ⟨lp,0,none⟩),.slice AI n cI] w (AddOk14 base lp fst qs s (cZ xs) n w):=by
 have hlw:=lt_of_block hL.blk
 have hbw:base≤w.heap.size:=by omega
 obtain⟨w1,hw1⟩:=nm (w.alloc (.cells #[.pointer (some ⟨lp,0,none⟩)] 70))
 have b1:Below w.heap.size w w1:=by rw [← hw1];exact (Below.refl _ w).alloc (Nat.le_refl _) _
 have z1:w1.heap.size=w.heap.size+1:=by rw [← hw1];simp
 have xb1:w1.heap[w.heap.size]?=some (.cells #[.pointer (some ⟨lp,0,none⟩)] 70 (0,0)):=by rw [← hw1];exact heap_alloc_new w _
 have L1:=hL.stay b1
 have MD:=hid (ve L1.cells.2 hpos)
 have x1:=lT xb1
 obtain⟨Z,hZ,hmk⟩:=G_ n (by omega)
 have made:=World.ownsRow_made (base:=w.heap.size) (e:=92) (size:=1) w1 Z n b1.size (by unfold maxLen;omega) (by rw [hZ,Nat.mul_one])
 obtain⟨w2,hw2⟩:=nm (w1.alloc (.cells Z 92))
 rw [hw2] at made
 have b2:Below w1.heap.size w1 w2:=by rw [← hw2];exact (Below.refl _ w1).alloc (Nat.le_refl _) _
 have z2:w2.heap.size=w1.heap.size+1:=by rw [← hw2];simp
 obtain⟨w3,hw3⟩:=nm (w2.alloc (.cells #[.slice (some ⟨w1.heap.size,0,none⟩) 0 n] 74))
 have eb3:w3.heap[w2.heap.size]?=some (.cells #[.slice (some ⟨w1.heap.size,0,none⟩) 0 n] 74 (0,0)):=by rw [← hw3];exact heap_alloc_new w2 _
 have b3:Below w2.heap.size w2 w3:=by rw [← hw3];exact (Below.refl _ w2).alloc (Nat.le_refl _) _
 have z3:w3.heap.size=w2.heap.size+1:=by rw [← hw3];simp
 have b13:=b2.trans (b3.mono (by omega))
 have b03:=b1.trans (b13.mono (by omega))
 have L3:=hL.stay b03
 obtain⟨ad,q0,rfl,hq0,a0,a1⟩:=sj (aH (B:=0) L3.row) (k:=qs.length - 1) (by omega)
 obtain⟨k,hk⟩:=nm qs.length
 have hwr:IntKind.i64.wrap ((k:Int) - 1)=((k - 1:Nat):Int):=by rw [IntKind.wrap_i64];omega
 have hi0:0≤((k - 1:Nat):Int):=by omega
 have hik:((k - 1:Nat):Int)<(k:Int):=by omega
 rw [hk] at hq0 a0 a1 hs
 have Q0:=hid (L3.sm q0 (List.mem_of_getElem? hq0))
 have QS:=hid (hs q0 hq0)
 have HL3:=hid L3
 have XB3:=hid (ae xb1 b13)
 have EB3:=hid eb3
 have Gg:=hid (own_below made b3)
 have B03:=hid b03
 have ZZ:Hid (w1.heap.size=w.heap.size+1∧w2.heap.size=w.heap.size+2∧w3.heap.size=w.heap.size+3∧lp<w.heap.size∧base≤w.heap.size):=hid (by omega)
 have I0:=hid hI
 have HN:=hid hn
 have HX:=hid hx
 have KM:=hid km
 have D:=hid hd
 have HB:=hid hb
 have HQ:=hid hq
 have HK:=hid hk
 have c3:w3.cell? ⟨lp,1,none⟩=some (.slice (some ad) k c):=by rw [← hk];exact L3.cells.2
 have x3:=lT (ae xb1 b13)
 have r2:=hmk w1
 rw [hw2] at r2
 have HC:=hid (show ∀ u,Below w3.heap.size w3 u→u.cell? ⟨w.heap.size,0,none⟩=some (.pointer (some ⟨lp,0,none⟩))∧u.cell? ⟨lp,1,none⟩=some (.slice (some ad) k c)∧u.cell? (ad.add ((k - 1) * 2))=some (.slice q0.A q0.ls.length q0.c)∧u.cell? ⟨(ad.add ((k - 1) * 2)).block,(ad.add ((k - 1) * 2)).off+1,none⟩=some (.slice q0.A2 q0.ms.length q0.c2) from fun u hu=>⟨(hu.cell (World.block_lt_of_cell? _ _ x3)).trans x3,(hu.cell (World.block_lt_of_cell? _ _ c3)).trans c3,(hu.cell (World.block_lt_of_cell? _ _ a0)).trans a0,(hu.cell (World.block_lt_of_cell? _ _ a1)).trans a1⟩)
 clear hL hb hpos hq hs hd hI hn hx km hlw hbw b1 z1 xb1 L1 hZ hmk made b2 z2 eb3 b3 z3 b13 b03 L3 hq0 a0 a1 hk c3 x3
 refine rO func34 rfl ?_
 simp only [ntmps34,List.size_toArray,List.length_cons,List.length_nil,Nat.reduceAdd,Nat.reduceSub,Array.replicate_succ,Array.replicate_zero,List.push_toArray,List.append_toArray,List.nil_append,List.cons_append]
 go_wp2_with fail
 refine MD.out.mono ?_
 rintro e wq ⟨rfl,rfl⟩
 go_wp2_with fail
 refine wp_region_held_drew (S:=fun u=>Below w3.heap.size w3 u) (by kernel_rfl) ((Below.refl w3.heap.size w3).drew) (fun S0=>?_)
 generalize w3.drew=wd at S0 ⊢
 refine av 0 S0 ?_ (hy:=by intro u hu;obtain⟨c0,c1,c2,c3⟩:=HC.out u hu;clear hu;go_simp;try rfl)
 refine av 1 S0 ?_
 refine av 2 S0 ?_
 refine av 3 S0 ?_ (hy:=by intro u hu;obtain⟨c0,c1,c2,c3⟩:=HC.out u hu;clear hu;go_simp;try rfl)
 refine av 4 S0 ?_ (hy:=by intro u hu;obtain⟨c0,c1,c2,c3⟩:=HC.out u hu;clear hu;go_simp;try rfl)
 refine av 5 S0 ?_
 refine av 6 S0 ?_
 refine av 7 S0 ?_ (hy:=by intro u hu;obtain⟨c0,c1,c2,c3⟩:=HC.out u hu;clear hu;go_simp;try rfl)
 refine av 8 S0 ?_
 refine av 9 S0 ?_
 refine av 10 S0 ?_
 refine av 11 S0 ?_ (hy:=by intro u hu;obtain⟨c0,c1,c2,c3⟩:=HC.out u hu;clear hu;go_simp;try rfl)
 refine av 12 S0 ?_
 refine fw 13 fun K hK=>?_
 go_simp
 have CST:=Io (s:=q0) (A:=AI) (n:=n) (c:=cI) (w:=wd)
 unfold StpOk aQ.val at CST
 refine CST.mono ?_
 rintro e w5 ⟨rfl,hb5,hl5,h5,z5⟩
 refine hK _ _ (S0.trans (h5.mono S0.size)) ?_
 have H5:Hid (Below w3.heap.size w3 w5):=hid (S0.trans (h5.mono S0.size))
 clear hK K
 try simp only [Act.put,pS]
 refine wpAnyH_done (by kernel_rfl) ?_ _
 have LT5:=hid (And.intro S0.size z5)
 have HB5:=hid hb5
 have HL5:=hid hl5
 have SG:Hid (∀ W,Below w5.heap.size w5 W→W.heap.size=w5.heap.size+2→EX (9 - 1) prog 62 #[.pointer (some ⟨wd.heap.size,0,none⟩),.pointer (some ⟨wd.heap.size+1,0,none⟩)] uJ St14 (CU base [88,26,92,74]) (fun _ _ _=>True) (fun B x W=>kR x.2 W∧Ty W B 26) (SE14 s (cZ xs)) (EY s (cZ xs)) n W):=hid (fun W hW hz=>by
  have zz:=ZZ.out
  have h35:=H5.out.size
  rw [← QS.out]
  exact Ip (ae hb5 hW) (ae hl5 hW) ((Q0.out.stay H5.out).stay hW) (by rw [QS.out];exact D.out) (((I0.out.below (by omega) B03.out).below (by omega) H5.out).below (by omega) hW) HN.out (Nat.le_trans HX.out (by decide)) KM.out (by have:=hW.size;omega) (by decide) (by decide) (by decide) (by decide) (by decide))
 have I5:Hid (yg w base lp fst w2.heap.size [w5.heap.size+2] qs s (cZ xs) [] w5):=hid ⟨⟨some ad,c,by simpa using HL3.out.stay H5.out,fun g hg=>by
  have hlt:=lt_of_block (bM HL3.out.row g (by rw [HK.out];simpa [HK.out] using hg)).2.choose_spec.choose_spec
  have:=H5.out.size
  simp
  omega⟩,⟨_,_,ae EB3.out H5.out,own_below Gg.out H5.out⟩,ae XB3.out H5.out,(aM.of_below (B03.out.trans (H5.out.mono B03.out.size)) ZZ.out.2.2.2.2 _)⟩
 clear hb5 hl5 h5 z5 CST S0 x1 r2
 go_wp2_with fail
 refine (wpIn_wide (n:=9)).1 ?_
 refine' range14 (α:=Int × aQ) (n:=9) (by decide) (gf:=62) rfl (enters_of func62 (by kernel_rfl) rfl) SG.out (fun _=>rfl) (fun h=>h.t.below) (fun h k=>h.trans k) (fun o h=>Kn o h (by have:=ZZ.out;have:=H5.out.size;omega) (by omega)) (fun _ _=>trivial) (fun _ _ _=>trivial)
  (yg w base lp fst w2.heap.size [w5.heap.size+2] qs s (cZ xs)) (fun _ _=>False) (fun _ _ _ h hT=>h.bE (B:=w5.heap.size) (by have:=ZZ.out;have:=H5.out.size;omega) ZZ.out.2.2.2.2 hT) (fun _ _ _ h _=>h) (fun _ _ _ h hT=>h.stp (by have:=ZZ.out;have:=H5.out.size;omega) ZZ.out.2.2.2.2 (by have:=ZZ.out;have:=H5.out.size;omega) hT) (fun _ _ _ h _=>h) I5.out (fun x b=>{ tmps:=#[.pointer (some ⟨lp,0,none⟩),.slice AI n cI,.pointer (some ⟨w.heap.size,0,none⟩),undef,.slice none 0 0,.pointer (some ⟨w2.heap.size,0,none⟩),.int .i64 x.1,.pointer (some ⟨b,0,none⟩),.pointer (some ⟨lp,0,none⟩),.bool true,.bool false,.slice AI n cI,.int .i64 (n:Int),.slice (some ⟨w1.heap.size,0,none⟩) 0 n,.pointer (some ⟨lp,0,none⟩),.pointer (some ⟨lp,0,none⟩),.pointer (some ⟨lp,1,none⟩),.slice (some ad) k c,.pointer (some ⟨lp,0,none⟩),.pointer (some ⟨lp,0,none⟩),.pointer (some ⟨lp,1,none⟩),.slice (some ad) k c,.int .i64 (k:Int),.int .i64 ((k - 1:Nat):Int),.pointer (some (ad.add ((k - 1) * 2))),.agg #[.slice q0.A q0.ls.length q0.c,.slice q0.A2 q0.ms.length q0.c2],.slice AI n cI,.func (.func 62) #[] #[.pointer (some ⟨wd.heap.size,0,none⟩),.pointer (some ⟨wd.heap.size+1,0,none⟩)],.int .i64 x.1,.agg #[.slice x.2.A x.2.ls.length x.2.c,.slice x.2.A2 x.2.ms.length x.2.c2],undef,undef,undef,undef,undef,undef,undef,undef,undef,undef,undef,undef,undef,undef,undef],defers:=[] })
  (fun pre x b W=>yg w base lp fst w2.heap.size [w5.heap.size+2,b] qs s (cZ xs) pre W∧kR x.2 W∧W.heap[b]?=some (.cells #[.slice x.2.A x.2.ls.length x.2.c,.slice x.2.A2 x.2.ms.length x.2.c2] 26 (0,0))∧Ty W (w5.heap.size+2) 26∧w5.heap.size+2<b)
  (fun pre x b A A' h hT=>⟨h.1.bE (B:=w5.heap.size) (by have:=ZZ.out;have:=H5.out.size;omega) ZZ.out.2.2.2.2 hT,h.2.1.bE hT (by simp) (by simp) (by simp),hT.blk h.2.2.1 (by simp),(by obtain⟨cs,fr,y⟩:=h.2.2.2.1;exact⟨cs,fr,hT.blk y (by simp)⟩),h.2.2.2.2⟩) ?assign ?body ?done ?stop
 case assign =>
  rintro pre x W IB ⟨hq,hty⟩ hpn hzW
  unfold uJ aQ.val
  dsimp only at hq ⊢
  obtain⟨b,hb⟩:=nm W.heap.size
  obtain⟨W1,hW1⟩:=nm (W.alloc (.cells #[.slice x.2.A x.2.ls.length x.2.c,.slice x.2.A2 x.2.ms.length x.2.c2] 26))
  obtain⟨xb,bx,zx⟩:=aj hW1
  rw [hb] at xb
  have XB:=hid xb
  have BX:=hid bx
  have DIH:=hid IB
  have HQ:=hid hq
  have TY:=hid hty
  have HZ:=hid hzW
  have HB':=hid hb
  have LT:Hid (w5.heap.size+2<W.heap.size):=hid (by obtain⟨cs,fr,y⟩:=hty;exact lt_of_block y)
  clear xb bx zx IB hq hty hb
  gi_wp2
  rw [HB'.out]
  have zz:=ZZ.out
  have h35:=H5.out.size
  have lt:=LT.out
  have d1:=DIH.out.bE (W':=W1) (B:=W.heap.size) (by omega) zz.2.2.2.2 (aM.of_below BX.out (Nat.le_refl _) _)
  refine⟨⟨BX.out.block _ HZ.out,BX.out.block _ (by have:=HZ.out;omega)⟩,⟨aM.of_below BX.out (by omega) _,BX.out.block _ lt⟩,b,rfl,⟨?_,d1.err,d1.xb,d1.fr⟩,HQ.out.stay BX.out,XB.out,?_,by rw [← HB'.out];exact lt⟩
  ·obtain⟨A9,c9,h1,h2⟩:=DIH.out.line
   refine⟨A9,c9,h1.stay BX.out,fun g hg=>?_⟩
   have hlt:=lt_of_block (bM h1.row g hg).2.choose_spec.choose_spec
   have hne:=h2 g hg
   rw [List.mem_singleton] at hne
   simp only [List.mem_cons,List.not_mem_nil,or_false,not_or]
   exact⟨hne,by rw [← HB'.out];omega⟩
  ·obtain⟨cs,fr,y⟩:=TY.out
   exact⟨cs,fr,ae y BX.out⟩
 case body =>
  rintro pre x b W ⟨IB,hq,hb,hty,hbB⟩ hpn hsp hz hn1 hn2
  obtain⟨A9,c9,hL9,hbad⟩:=IB.line
  obtain⟨eA,ec,heb,hrow⟩:=IB.err.row
  obtain⟨hsE,hsS⟩:=hsp.last
  have zz:=ZZ.out
  have h35:=H5.out.size
  have esl:(T9.fK s ((cZ xs).take pre.length)).length≤1000:=by have:=HX.out;rw [T9.uM,List.length_take];omega
  obtain⟨es,hes⟩:=nm (T9.fK s ((cZ xs).take pre.length))
  rw [hes] at heb hrow hsE esl
  obtain⟨rs,hrs⟩:=nm (qs++pre.map (·.2))
  rw [hrs] at hL9 hbad
  obtain⟨m,hm⟩:=nm rs.length
  have ml:m≤2000:=by rw [← hm,← hrs,List.length_append,List.length_map];have:=HQ.out;have:=HX.out;omega
  have LT:Hid (w5.heap.size+2<W.heap.size):=hid (by obtain⟨cs,fr,y⟩:=hty;exact lt_of_block y)
  have bW:=lt_of_block hb
  have ce:=lT heb
  have fe:=af heb 0
  obtain⟨i0,hi,iz0,iz1,iz2⟩:=info_parts Tryz.infoE14
  obtain⟨j0,hj,jz0,jz1,jz2⟩:=info_parts Tryz.infoS14
  have HNW:Hid (∀ j u,[Value.int .i64 x.1][j]?=some u→(W.alloc (.cells #[.int .i64 x.1] 92)).cell? ((⟨W.heap.size,0,none⟩:Addr).add j)=some u):=hid (fun j u hj=>by
   have hn':=lT (heap_alloc_new W (.cells #[.int .i64 x.1] 92))
   cases j with
   | zero=>simpa [Addr.add] using hn'.trans hj
   | succ j=>simp at hj)
  have HR:=hid hrow
  have HEB:=hid heb
  have HL9:=hid hL9
  have HBAD:=hid hbad
  have HBB:=hid hb
  have HQX:=hid hq
  have DIH:=hid IB
  have N1:=hid hn1
  have N2:=hid hn2
  have TY:=hid hty
  have HSE:=hid hsE
  have HSS:=hid hsS
  have HBZ:=hid hbB
  have HZW:=hid hz
  have HM:=hid hm
  have HRS:=hid hrs
  have BW:=hid bW
  have wsz:w.heap.size≤W.heap.size:=by have:=LT.out;omega
  clear hrow heb hL9 hbad hq IB hn1 hn2 hty hsE hsS hes hsp hpn hz hm hrs hb hbB bW zz h35
  gi_wp2_with (gi_at_builtin;refine wpListIn_append_own _ rfl _ _ 74 rfl w.heap.size 92 i0 _ 1 8 underlying74 hi iz0 iz1 iz2 rfl (by decide) _ es.length (es.map encZ) rfl (HR.out.alloc _) ⟨W.heap.size,0,none⟩ 1 1 [.int .i64 x.1] rfl rfl HNW.out (by intro u hu;rw [List.mem_singleton] at hu;subst hu;rfl) (by unfold maxLen;omega) (by omega) (by simp;omega) ?_)
  intro v' w7 hown' hgrow hor
  obtain⟨A8,k8,rfl⟩:=aD hown'
  have zz:=ZZ.out
  have e7:=rY (HR.out.alloc _) hgrow (bu HEB.out _) (by decide)
  have T7:aM w.heap.size [92] W w7:=((aM.refl w.heap.size [92] W).alloc wsz _).trans (ed (HR.out.alloc _) hgrow (Nat.le_refl _) (by simp;omega) (by decide))
  obtain⟨w8,hw8⟩:=nm (w7.setCell ⟨w2.heap.size,0,none⟩ (.slice A8 (es.length+1) k8))
  have e8:w8.heap[w2.heap.size]?=some (.cells #[.slice A8 (es.length+1) k8] 74 (0,0)):=by rw [← hw8];exact ah e7 0 _
  have T8:aM w.heap.size [74] w7 w8:=by rw [← hw8];exact (aM.refl _ _ w7).setCell (p:=⟨w2.heap.size,0,none⟩) e7 (by decide) (by show _≤w2.heap.size;omega) _
  have O8:=bX hown' T8 (by decide)
  have T78:aM w.heap.size [92,74] W w8:=(T7.more (by simp)).trans (T8.more (by simp))
  have far8:∀ k,(∀ cs t fr,W.heap[k]?≠some (.cells cs t fr))→k<W.heap.size→k≠w2.heap.size→w8.heap[k]?=W.heap[k]?:=fun k h1 h2 h3=>by
   rw [← hw8]
   exact (Below.heap_setCell _ _ _ k h3).trans (keep14 h1 h2 HR.out hgrow)
  have L8:=HL9.out.bE T78 (by decide) (by decide) (by decide) (by decide) (by decide)
  have lb8:=L8.blk
  rw [HM.out] at lb8
  have xb8:=T78.blk DIH.out.xb (by decide)
  have bb8:=T78.blk HBB.out (by decide)
  have E8:=hid e8
  have HO8:=hid O8
  have CQ:=hid T78
  have FAR8:=hid far8
  have HL8:=hid L8
  have LB8:=hid lb8
  have XB8:=hid xb8
  have BB8:=hid bb8
  have fe7:=af e7 0
  have ce7:=lT e7
  clear hown' hgrow hor e7 T7 e8 T8 O8 T78 far8 L8 lb8 xb8 bb8 ce fe zz
  gi_wp2_with fail
  clear fe7 ce7 hw8
  have HC:=hid (show ∀ u:World,(u.heap[w.heap.size]?=some (.cells #[.pointer (some ⟨lp,0,none⟩)] 70 (0,0))∧u.heap[lp]?=some (.cells #[.int .i64 (fst:Int),.slice A9 m c9] 88 (0,0))∧u.heap[b]?=some (.cells #[.slice x.2.A x.2.ls.length x.2.c,.slice x.2.A2 x.2.ms.length x.2.c2] 26 (0,0)))→u.cell? ⟨w.heap.size,0,none⟩=some (.pointer (some ⟨lp,0,none⟩))∧(u.cell? ⟨lp,0,none⟩=some (.int .i64 (fst:Int))∧u.cell? ⟨lp,1,none⟩=some (.slice A9 m c9))∧u.cell? ⟨b,0,none⟩=some (.slice x.2.A x.2.ls.length x.2.c)∧u.cell? ⟨b,1,none⟩=some (.slice x.2.A2 x.2.ms.length x.2.c2) from fun u h=>⟨lT h.1,aa h.2.1,aa h.2.2⟩)
  refine dK.begin (S:=fun u=>u.heap[w.heap.size]?=some (.cells #[.pointer (some ⟨lp,0,none⟩)] 70 (0,0))∧u.heap[lp]?=some (.cells #[.int .i64 (fst:Int),.slice A9 m c9] 88 (0,0))∧u.heap[b]?=some (.cells #[.slice x.2.A x.2.ls.length x.2.c,.slice x.2.A2 x.2.ms.length x.2.c2] 26 (0,0))) (st:=10) (by kernel_rfl) ?_
  have S0:w8.drew.heap[w.heap.size]?=some (.cells #[.pointer (some ⟨lp,0,none⟩)] 70 (0,0))∧w8.drew.heap[lp]?=some (.cells #[.int .i64 (fst:Int),.slice A9 m c9] 88 (0,0))∧w8.drew.heap[b]?=some (.cells #[.slice x.2.A x.2.ls.length x.2.c,.slice x.2.A2 x.2.ms.length x.2.c2] 26 (0,0)):=⟨XB8.out,LB8.out,BB8.out⟩
  have BD:Hid (Below w8.heap.size w8 w8.drew):=hid (Below.refl _ w8).drew
  generalize w8.drew=wx at S0 BD ⊢
  refine mr 0 S0 ?_ (hy:=by intro u hu;obtain⟨c0,⟨c1,c2⟩,c3,c4⟩:=HC.out u hu;clear hu;go_simp;try rfl)
  refine mr 1 S0 ?_ (hy:=by intro u hu;obtain⟨c0,⟨c1,c2⟩,c3,c4⟩:=HC.out u hu;clear hu;go_simp;try rfl)
  refine mr 2 S0 ?_
  refine mr 3 S0 ?_
  refine mr 4 S0 ?_ (hy:=by intro u hu;obtain⟨c0,⟨c1,c2⟩,c3,c4⟩:=HC.out u hu;clear hu;go_simp;try rfl)
  refine mr 5 S0 ?_ (hy:=by intro u hu;obtain⟨c0,⟨c1,c2⟩,c3,c4⟩:=HC.out u hu;clear hu;go_simp;try rfl)
  refine dK.nH (fun _=>trivial) (by kernel_rfl) kI (i:=6) (by kernel_rfl) rfl (fun K hK=>?_)
  have hbs:=dH (P:=prog) wx 85 26 #[.slice x.2.A x.2.ls.length x.2.c,.slice x.2.A2 x.2.ms.length x.2.c2] j0 _ underlying85 hj jz0 jz1 (by show 0<2;omega) (by show 2≤16777216;omega)
  go_simp
  obtain⟨wg,hwg⟩:=nm (wx.alloc (.cells #[.slice x.2.A x.2.ls.length x.2.c,.slice x.2.A2 x.2.ms.length x.2.c2] 26))
  obtain⟨gb,bg,zg⟩:=aj hwg
  try rw [hwg]
  refine hK _ _ (fun _ _=>⟨ae S0.1 bg,ae S0.2.1 bg,ae S0.2.2 bg⟩) ?_
  obtain⟨gx,hgx⟩:=nm wx.heap.size
  rw [hgx] at gb
  try rw [hgx]
  have S1:=And.intro (ae S0.1 bg) (And.intro (ae S0.2.1 bg) (ae S0.2.2 bg))
  have GB:=hid gb
  have BG:Hid (Below w8.heap.size w8 wg):=hid (BD.out.trans (bg.mono BD.out.size))
  clear hK K S0 hbs gb bg zg hwg hgx BD
  have S0:=S1
  clear S1
  try simp only [Act.put,pS]
  refine dK.nH (fun _=>trivial) (by kernel_rfl) kI (i:=7) (by kernel_rfl) rfl (fun K hK=>?_)
  refine eT rfl _ _ 85 rfl base 26 j0 _ 2 48 underlying85 hj jz0 jz1 jz2 rfl (by decide) (.slice A9 m c9) m (eF rs) rfl (by rw [← HM.out];exact own_below HL8.out.row BG.out) 0 (some ⟨gx,0,none⟩) 1 1 (pI x.2) 26 rfl rfl (au.iy GB.out) (by intro v hv;exact vZ [x.2] v (by simpa [eF] using hv)) (by unfold maxLen;omega) (by omega) (by have:=CQ.out.size;have:=BG.out.size;have:=LT.out;have:=ZZ.out;have:=H5.out.size;omega) ?_
  intro v' wk hown hgrow hor
  obtain⟨bU,c10,rfl⟩:=aD hown
  have LM:wg.ownsRow base 26 2 (.slice A9 m c9) m (eF rs):=by rw [← HM.out];exact own_below HL8.out.row BG.out
  have bad9:∀ g,(Value.slice A9 m c9).ownBlock=some g→g ∉ [w5.heap.size+2,b]:=by rw [← HM.out];exact HBAD.out
  have S1:=And.intro (rY LM hgrow S0.1 (by decide)) (And.intro (rY LM hgrow S0.2.1 (by decide)) ((hgrow.block b (lt_of_block S0.2.2) (fun e=>bad9 b e.symm (by simp))).trans S0.2.2))
  refine hK _ _ (fun _ _=>S1) ?_
  have TK:Hid (aM base [26] wg wk):=hid (ed LM hgrow (Nat.le_refl _) (by have:=CQ.out.size;have:=BG.out.size;have:=LT.out;have:=ZZ.out;have:=H5.out.size;omega) (by decide))
  have OK:=hid hown
  have GK:Hid (∀ k,k<w8.heap.size→(Value.slice A9 m c9).ownBlock≠some k→wk.heap[k]?=w8.heap[k]?):=hid (fun k h1 h2=>(hgrow.block k (Nat.lt_of_lt_of_le h1 BG.out.size) (fun e=>h2 e.symm)).trans (BG.out.block k h1))
  have RG:=hid LM
  have B10:Hid (∀ g,(Value.slice bU (m+1) c10).ownBlock=some g→g≠w5.heap.size+2):=hid (fun g hg e=>by
   rcases hor with h | h
   ·rw [h] at hg
    have:=bad9 g hg
    simp only [List.mem_cons,List.not_mem_nil,or_false,not_or] at this
    exact this.1 e
   ·rw [h] at hg
    injection hg with hg
    have:=BG.out.size
    have:=CQ.out.size
    have:=LT.out
    omega)
  clear hK K S0 hown hgrow hor LM bad9
  have S0:=S1
  clear S1
  try simp only [Act.put,pS]
  refine dK.nH (fun _=>trivial) (by kernel_rfl) kI (i:=8) (by kernel_rfl) rfl (fun K hK=>?_)
  go_simp
  refine hK _ _ (fun _ _=>S0) ?_
  clear hK K
  try simp only [Act.put,pS]
  refine dK.nH (fun _=>trivial) (by kernel_rfl) kI (i:=9) (by kernel_rfl) rfl (fun K hK=>?_)
  go_simp
  refine hK _ _ (fun _ _=>S0) ?_
  clear hK K
  try simp only [Act.put,pS]
  refine dK.nH (fun _=>trivial) (by kernel_rfl) kI (i:=10) (by kernel_rfl) rfl (fun K hK=>?_)
  obtain⟨g0,g1⟩:=aa S0.2.1
  have xG:=af S0.2.1 0
  have xH:=af S0.2.1 1
  go_simp
  obtain⟨vz,jQ⟩:=nm (wk.setCell ⟨lp,1,none⟩ (.slice bU (m+1) c10))
  try rw [jQ]
  refine hK _ _ (fun _ h=>absurd rfl h) ?_
  have lz:vz.heap[lp]?=some (.cells #[.int .i64 (fst:Int),.slice bU (m+1) c10] 88 (0,0)):=by rw [← jQ];exact ah S0.2.1 1 _
  have tz:aM base [88] wk vz:=by rw [← jQ];exact (aM.refl _ _ wk).setCell (p:=⟨lp,1,none⟩) S0.2.1 (by simp) HB.out _
  have LZ:=hid lz
  have TZ:=hid tz
  have FZ:Hid (∀ k,k≠lp→vz.heap[k]?=wk.heap[k]?):=hid (fun k hk=>by rw [← jQ];exact Below.heap_setCell _ _ _ k hk)
  clear hK K S0 g0 g1 xG xH tz lz jQ
  try simp only [Act.put,pS]
  refine dK.done (by kernel_rfl) ⟨rfl,?_⟩
  gi_wp2
  have zz:=ZZ.out
  have h35:=H5.out.size
  have lt:=LT.out
  have t78:=CQ.out.size
  have T8k:aM base [88,26] w8 vz:=((aM.of_below BG.out (by omega) _).trans (TK.out.more (by simp))).trans (TZ.out.more (by simp))
  have TW:aM base [88,26,92,74] W vz:=((CQ.out.mono (by omega)).more (by decide)).trans (T8k.more (by decide))
  have rowb:∀ k,(Value.slice A9 m c9).ownBlock=some k→∃ cs fr,wg.heap[k]?=some (.cells cs 26 fr):=fun k h=>(bM RG.out k h).2
  have farn:∀ k,(∀ cs t fr,W.heap[k]?≠some (.cells cs t fr))→k<W.heap.size→k≠w2.heap.size→k≠lp→vz.heap[k]?=W.heap[k]?:=fun k h1 h2 h3 h4=>by
   have e8:=FAR8.out k h1 h2 h3
   refine (FZ.out k h4).trans ((GK.out k (by omega) (fun e=>?_)).trans e8)
   obtain⟨cs,fr,r⟩:=rowb k e
   exact h1 _ _ _ (by rw [← e8,← BG.out.block k (by omega)];exact r)
  have ll:(qs++(pre++[x]).map (·.2))=rs++[x.2]:=by rw [List.map_append,← List.append_assoc,HRS.out];rfl
  have ln:(rs++[x.2]).length=m+1:=by rw [List.length_append,HM.out];rfl
  refine⟨⟨farn _ N2.out HZW.out (by omega) (by omega),farn _ N1.out (by have:=HZW.out;omega) (by omega) (by omega)⟩,⟨TW,?_⟩,⟨⟨bU,c10,?_,?_⟩,?_,?_,?_⟩⟩
  ·obtain⟨cs,fr,y⟩:=TY.out
   refine (FZ.out _ (by omega)).trans ((GK.out _ (by omega) (fun e=>?_)).trans (CQ.out.typed _ _ _ _ y (by decide)))
   have:=HBAD.out _ (by rw [HM.out];exact e)
   exact this (by simp)
  ·rw [ll]
   refine⟨by rw [ln];exact LZ.out,?_,fun q hq=>?_⟩
   ·rw [ln,vY]
    exact bX (by simpa [eF] using OK.out) TZ.out (by decide)
   ·rcases List.mem_append.1 hq with hq | hq
    ·exact (HL9.out.sm q hq).bE TW (by decide) (by decide) (by decide)
    ·rw [List.mem_singleton] at hq
     subst hq
     exact HQX.out.bE TW (by decide) (by decide) (by decide)
  ·rw [ll,ln]
   intro g hg
   rw [List.mem_singleton]
   exact B10.out g hg
  ·refine⟨A8,k8,?_⟩
   rw [List.length_append,List.length_singleton,HSE.out,List.length_append,List.length_singleton,List.map_append]
   exact⟨T8k.blk E8.out (by decide),bX HO8.out T8k (by decide)⟩
  ·exact T8k.blk XB8.out (by decide)
  ·exact (DIH.out.fr.ql (by omega) CQ.out.below).trans T8k
 case done =>
  rintro ys W ⟨hsp,hsl⟩ IB hD
  obtain⟨A9,c9,hL9,_⟩:=IB.line
  obtain⟨eA,ec,heb,hrow⟩:=IB.err.row
  rw [hsl,List.take_length,T9.uM,gI,← HN.out] at heb hrow
  have ce:=lT heb
  have HL9:=hid hL9
  have HR:=hid hrow
  have HD:=hid hD
  have FR:=hid IB.fr
  have HSP:=hid hsp
  have HSL:=hid hsl
  clear hL9 heb hrow hD IB hsp hsl
  go_wp2
  have zz:=ZZ.out
  have h35:=H5.out.size
  have TF:aM w.heap.size [] W (W.putObj w5.heap.size (.deferred none)):=EI _ HD.out (by omega)
  refine⟨by simp,.inl ⟨_,_,rfl,run_takeDeferred HD.out,?_⟩⟩
  refine⟨_,results_tmp rfl _ _ _,A9,c9,ys.map (·.2),eA,ec,rfl,HL9.out.bE TF (by simp) (by simp) (by simp) (by simp) (by simp),by rw [List.length_map,HSL.out,gI];exact HN.out.symm,fun i q hq=>?_,bX HR.out TF (by simp),FR.out.ql zz.2.2.2.2 TF.below⟩
  rw [List.getElem?_map,Option.map_eq_some_iff] at hq
  obtain⟨y,hy,rfl⟩:=hq
  exact HSP.out.2.2 i y hy
 case stop =>
  rintro pre W _ h _
  exact h.elim
end
end
section
section
open Go.RowKit Go.Lib Go.Shelf
structure lN (base lp:Nat) (bs:T9.St) (ms:List T9.Mu) (fr:Nat) (W:World):Prop where
 line:∃ A c qs,oD base lp fr A c qs W∧fr+qs.length=ms.length+1∧0<qs.length∧∀ (j:Nat) (q:aQ),qs[j]?=some q→q.st=T9.bZ bs (ms.take (fr+j))
 low:base≤lp
section
variable {base lp fr : Nat} {bs : T9.St} {ms : List T9.Mu} {W W' : World}
theorem lN.bE {B:Nat} {ts:List TypeId} (h:lN base lp bs ms fr W) (hT:aM B ts W W') (h1:88 ∉ ts) (h2:26 ∉ ts) (h3:61 ∉ ts) (h4:64 ∉ ts) (h5:9 ∉ ts):lN base lp bs ms fr W':=by
 obtain⟨A,c,qs,a,b⟩:=h.line
 exact⟨⟨A,c,qs,a.bE hT h1 h2 h3 h4 h5,b⟩,h.low⟩
theorem lN.len (h:lN base lp bs ms fr W) (hs:ms.length≤100000):Calls prog 36 #[.pointer (some ⟨lp,0,none⟩)] W fun e w'=>e=.returned (.int .i64 (ms.length:Int))∧∃ j,w'=W.drewN j:=by
 obtain⟨A,c,qs,a,b,d,_⟩:=h.line
 exact Fv a.cells.1 a.cells.2 d b (Nat.le_trans hs (by decide))
def Gi (base lp:Nat) (bs:T9.St) (ms:List T9.Mu) (fr:Nat) (t:Int) (b:Bool) (w:World) (e:Ending) (w':World):Prop:=∃ fr':Nat,e=.returned (.bool b)∧lN base lp bs ms fr' w'∧aM base [88] w w'∧(b=true→(fr':Int)=t)∧(b=false→fr'=fr)∧∀ k,k<w.heap.size→k≠lp→w'.heap[k]?=w.heap[k]?
theorem lN.trim {t:Int} {b:Bool} (h:lN base lp bs ms fr W) (hs:ms.length≤100000) (hb:b=decide ((fr:Int)≤t∧t≤(ms.length:Int))):Calls prog 32 #[.pointer (some ⟨lp,0,none⟩),.int .i64 t] W (Gi base lp bs ms fr t b W):=by
 obtain⟨A,c,qs,a,hk,hp,hst⟩:=h.line
 by_cases ht:(fr:Int)≤t∧t≤(ms.length:Int)
 ·rw [decide_eq_true ht] at hb
  subst hb
  obtain⟨i,hi⟩:∃ i:Nat,t=((fr+i:Nat):Int):=⟨(t - fr).toNat,by omega⟩
  refine (EJ a h.low hk hs hi (by omega)).mono ?_
  rintro e w' ⟨A',c',rfl,hl,hT,hf⟩
  exact⟨fr+i,rfl,⟨⟨A',c',_,hl,by rw [List.length_drop];omega,by rw [List.length_drop];omega,fun j q hq=>by
   rw [List.getElem?_drop] at hq
   have:=hst (i+j) q hq
   rwa [← Nat.add_assoc] at this⟩,h.low⟩,hT,fun _=>hi.symm,fun q=>(by cases q),hf⟩
 ·rw [decide_eq_false ht] at hb
  subst hb
  refine (Ir a.cells.1 a.cells.2 hp hk (Nat.le_trans hs (by decide)) ht).mono ?_
  rintro e w' ⟨rfl,j,rfl⟩
  have hT:aM base [88] W (W.drewN j):=(aM.refl _ _ W).drewN j
  exact⟨fr,rfl,h.bE ((aM.refl base [] W).drewN j) (by simp) (by simp) (by simp) (by simp) (by simp),hT,fun q=>(by cases q),fun _=>rfl,fun _ _ _=>rfl⟩
theorem lN.at_in {t:Int} {i:Nat} (h:lN base lp bs ms fr W) (hs:ms.length≤100000) (hd:T9.dX bs) (km:∀ m∈ms,m.ok) (ht:(fr:Int)≤t) (hi:t=(i:Int)) (hu:i≤ms.length):Calls prog 35 #[.pointer (some ⟨lp,0,none⟩),.int .i64 t] W (dC true (T9.bZ bs (ms.take i)) W):=by
 obtain⟨A,c,qs,a,hk,hp,hst⟩:=h.line
 obtain⟨j,rfl⟩:∃ j,i=fr+j:=⟨i - fr,by omega⟩
 exact Ji a hk (Nat.le_trans hs (by decide)) hi (by omega) (fun q hq=>by
  obtain⟨x,hx⟩:=List.getElem?_of_mem hq
  rw [hst x q hx]
  exact T9.jd hd (fun m hm=>km m (List.mem_of_mem_take hm))) (fun q hq=>hst j q hq)
end
theorem T9.Cf:T9.dX ⟨[],[]⟩:=⟨by decide,by simp [T9.St.ok]⟩
end
end
section
open Go.RowKit Go.Lib
namespace D17
structure Lg where
 base:Nat
 s:T9.St
 xs:List It
def Lg.iW (g:Lg):Nat:=g.base+g.xs.length
def Lg.has (g:Lg) (v:Nat):Prop:=g.base≤v∧v≤g.iW
instance (g:Lg) (v:Nat):Decidable (g.has v):=inferInstanceAs (Decidable (_∧_))
def Lg.at_ (g:Lg) (v:Nat):T9.St:=if g.has v then T9.bZ g.s (cZ (g.xs.take (v - g.base))) else ⟨[],[]⟩
def Lg.from_ (g:Lg) (v:Nat) (most:Int):List It:=if g.has v then (g.xs.drop (v - g.base)).take most.toNat else []
def Lg.cut (g:Lg) (t:Nat):Lg:=if g.has t then ⟨t,g.at_ t,g.xs.drop (t - g.base)⟩ else g
def Lg.add (g:Lg) (ys:List It):Lg:=⟨g.base,g.s,g.xs++ys⟩
theorem Lg.rV {g:Lg} {t:Nat} (h:¬ g.has t):g.cut t=g:=if_neg h
theorem Lg.jA {g:Lg} {t:Nat} (h:g.has t):g.cut t=⟨t,g.at_ t,g.xs.drop (t - g.base)⟩:=if_pos h
theorem Lg.lQ {g:Lg} {v:Nat} (h:g.has v):g.at_ v=T9.bZ g.s (cZ (g.xs.take (v - g.base))):=if_pos h
theorem Lg.uu {g:Lg} {v:Nat} (h:¬ g.has v):g.at_ v=⟨[],[]⟩:=if_neg h
theorem Lg.kG {g:Lg} {v:Nat} {most:Int} (h:g.has v):g.from_ v most=(g.xs.drop (v - g.base)).take most.toNat:=if_pos h
theorem Lg.qC {g:Lg} {v:Nat} {most:Int} (h:¬ g.has v):g.from_ v most=[]:=if_neg h
theorem Lg.tO (g:Lg) (t:Nat):(g.cut t).iW=g.iW:=by
 by_cases h:g.has t
 ·rw [jA h]
  obtain⟨h1,h2⟩:=h
  show t+(g.xs.drop (t - g.base)).length=_
  rw [List.length_drop]
  unfold iW at h2 ⊢
  omega
 ·rw [rV h]
theorem Lg.nX {g:Lg} {t v:Nat} (h:g.has t):(g.cut t).has v↔t≤v∧v≤g.iW:=by
 unfold has
 rw [tO,jA h]
theorem Lg.lq {g:Lg} {t v:Nat} (h:g.has t) (hv:t≤v):(g.cut t).at_ v=g.at_ v:=by
 by_cases q:v≤g.iW
 ·have h1:(g.cut t).has v:=(nX h).2 ⟨hv,q⟩
  have h2:g.has v:=⟨Nat.le_trans h.1 hv,q⟩
  rw [lQ h1,lQ h2,jA h]
  show T9.bZ (g.at_ t) (cZ ((g.xs.drop (t - g.base)).take (v - t)))=_
  have e:g.xs.take (v - g.base)=g.xs.take (t - g.base)++(g.xs.drop (t - g.base)).take (v - t):=by
   have:=h.1
   rw [show v - g.base=(t - g.base)+(v - t) by omega,List.take_add]
  rw [lQ h,e,Bf,T9.kF]
 ·rw [uu (fun z=>q ((nX h).1 z).2),uu (fun z=>q z.2)]
theorem Lg.JA {g:Lg} {t v:Nat} {most:Int} (h:g.has t) (hv:t≤v):(g.cut t).from_ v most=g.from_ v most:=by
 by_cases q:v≤g.iW
 ·have h1:(g.cut t).has v:=(nX h).2 ⟨hv,q⟩
  have h2:g.has v:=⟨Nat.le_trans h.1 hv,q⟩
  rw [kG h1,kG h2,jA h]
  show ((g.xs.drop (t - g.base)).drop (v - t)).take most.toNat=_
  have:=h.1
  rw [List.drop_drop,show t - g.base+(v - t)=v - g.base by omega]
 ·rw [qC (fun z=>q ((nX h).1 z).2),qC (fun z=>q z.2)]
theorem Lg.lH (g:Lg):g.has g.base:=⟨Nat.le_refl _,Nat.le_add_right _ _⟩
theorem Lg.tL (g:Lg):g.at_ g.base=g.s:=by
 rw [lQ g.lH,Nat.sub_self]
 rfl
theorem Lg.xE (g:Lg) (v:Nat):g.from_ g.base ((v - g.base:Nat):Int)=g.xs.take (v - g.base):=by
 rw [kG g.lH,Nat.sub_self]
 rfl
theorem Lg.wS {g:Lg} {v:Nat} (h:g.has v):(g.from_ g.base ((v - g.base:Nat):Int)).length=v - g.base:=by
 rw [xE,List.length_take]
 obtain⟨h1,h2⟩:=h
 unfold iW at h2
 omega
theorem Lg.states {g:Lg} {v:Nat} (h:g.has v):T9.bZ (g.at_ g.base) (cZ (g.from_ g.base ((v - g.base:Nat):Int)))=g.at_ v:=by
 rw [tL,xE,lQ h]
structure Lg.Ok (g:Lg):Prop where
 s:T9.dX g.s
 m:∀ x∈g.xs,x.ok
theorem Lg.muts_ok {xs:List It} (h:∀ x∈xs,x.ok):∀ m∈cZ xs,m.ok:=fun m hm=>by
 obtain⟨x,hx,rfl⟩:=List.mem_map.1 hm
 exact h x hx
theorem Lg.Ok.at_ {g:Lg} (h:g.Ok) {v:Nat} (hv:g.has v):T9.dX (g.at_ v):=by
 rw [Lg.lQ hv]
 exact T9.jd h.s (Lg.muts_ok fun x hx=>h.m x (List.mem_of_mem_take hx))
theorem Lg.Ok.cut {g:Lg} (h:g.Ok) (t:Nat):(g.cut t).Ok:=by
 by_cases q:g.has t
 ·rw [Lg.jA q]
  exact⟨h.at_ q,fun x hx=>h.m x (List.mem_of_mem_drop hx)⟩
 ·rw [Lg.rV q];exact h
theorem Lg.Ok.add {g:Lg} (h:g.Ok) {ys:List It} (hy:∀ x∈ys,x.ok):(g.add ys).Ok:=⟨h.s,fun x hx=>by
 rcases List.mem_append.1 hx with q | q
 ·exact h.m x q
 ·exact hy x q⟩
theorem Lg.cut_len (g:Lg) (t:Nat):(g.cut t).xs.length≤g.xs.length:=by
 by_cases q:g.has t
 ·rw [Lg.jA q]
  show (g.xs.drop _).length≤_
  rw [List.length_drop]
  omega
 ·rw [Lg.rV q];exact Nat.le_refl _
theorem Lg.Jz {g:Lg} {t:Nat} (h:g.has t):(g.cut t).base=t:=by rw [Lg.jA h]
end D17
end
section
section
open Go.RowKit Go.Lib Go.Shelf
theorem f_ {w:World} {p:Nat} {t:TypeId} {a b c:Value} {fr:Nat × Nat} (q:w.heap[p]?=some (.cells #[a,b,c] t fr)):w.cell? ⟨p,0,none⟩=some a∧w.cell? ⟨p,1,none⟩=some b∧w.cell? ⟨p,2,none⟩=some c:=by
 refine⟨?_,?_,?_⟩ <;> simp [World.cell?,q]
theorem fQ {z:Int} (h0:0≤z) (h1:z<18446744073709551616):IntKind.u64.wrap z=z:=by
 simp only [IntKind.wrap,IntKind.bits,IntKind.signed]
 simp
 omega
theorem zL {z:Int} (h0:0≤z) (h1:z<9223372036854775808):IntKind.i64.wrap z=z:=by rw [IntKind.wrap_i64];omega
structure iZ (base g lp first fr n c:Nat) (bs:T9.St) (ms:List T9.Mu) (A:Option Addr) (W:World):Prop where
 blk:W.heap[g]?=some (.cells #[.int .u64 (first:Int),.pointer (some ⟨lp,0,none⟩),.slice A n c] 72 (0,0))
 line:lN base lp bs ms fr W
 len:fr+n=ms.length
 mb:ms.length≤1000
 vb:first+ms.length≤4398046511104
 bd:T9.dX bs
 km:∀ m∈ms,m.ok
section
variable {base g lp first fr n c : Nat} {bs : T9.St} {ms : List T9.Mu} {A : Option Addr} {W W' : World}
theorem iZ.bE {B:Nat} {ts:List TypeId} (h:iZ base g lp first fr n c bs ms A W) (hT:aM B ts W W') (h0:72 ∉ ts) (h1:88 ∉ ts) (h2:26 ∉ ts) (h3:61 ∉ ts) (h4:64 ∉ ts) (h5:9 ∉ ts):iZ base g lp first fr n c bs ms A W':=⟨hT.blk h.blk h0,h.line.bE hT h1 h2 h3 h4 h5,h.len,h.mb,h.vb,h.bd,h.km⟩
theorem iZ.stay (h:iZ base g lp first fr n c bs ms A W) (hb:Below W.heap.size W W'):iZ base g lp first fr n c bs ms A W':=h.bE (aM.of_below hb (Nat.le_refl _) []) (by simp) (by simp) (by simp) (by simp) (by simp) (by simp)
theorem iZ.cells (h:iZ base g lp first fr n c bs ms A W):W.cell? ⟨g,0,none⟩=some (.int .u64 (first:Int))∧W.cell? ⟨g,1,none⟩=some (.pointer (some ⟨lp,0,none⟩))∧W.cell? ⟨g,2,none⟩=some (.slice A n c):=f_ h.blk
theorem qL (h1:W.cell? ⟨g,1,none⟩=some (.pointer (some ⟨lp,0,none⟩))):Calls prog 33 #[.pointer (some ⟨g,0,none⟩)] W fun e w'=>e=.returned (.bool true)∧W=w':=by
 go_enter func33,ntmps33
 go_wp2
 go_ret
 exact⟨aI (by simp),rfl⟩
theorem pK (W:World):Calls prog 33 #[.pointer none] W fun e w'=>e=.returned (.bool false)∧W=w':=by
 go_enter func33,ntmps33
 go_wp2
 go_ret
 exact⟨aI (by simp),rfl⟩
theorem yc (W:World):Calls prog 19 #[.pointer none] W fun e w'=>e=.returned (.int .u64 0)∧W=w':=by
 have MD:=hid (pK W)
 go_enter func19,ntmps19
 go_wp2_with fail
 refine MD.out.mono ?_
 rintro e w ⟨rfl,rfl⟩
 go_wp2
 go_ret
 exact⟨rfl,rfl⟩
theorem Dh (W:World):Calls prog 18 #[.pointer none] W fun e w'=>e=.returned (.int .u64 0)∧W=w':=by
 have MD:=hid (pK W)
 go_enter func18,ntmps18
 go_wp2_with fail
 refine MD.out.mono ?_
 rintro e w ⟨rfl,rfl⟩
 go_wp2
 go_ret
 exact⟨rfl,rfl⟩
theorem sS (v:Nat) (W:World):Calls prog 30 #[.pointer none,.int .u64 (v:Int)] W fun e w'=>e=.returned (.bool false)∧W=w':=by
 have MD:=hid (pK W)
 go_enter func30,ntmps30
 go_wp2_with fail
 refine MD.out.mono ?_
 rintro e w ⟨rfl,rfl⟩
 go_wp2
 go_ret
 exact⟨rfl,rfl⟩
theorem zJ (h:iZ base g lp first fr n c bs ms A W):Calls prog 19 #[.pointer (some ⟨g,0,none⟩)] W fun e w'=>e=.returned (.int .u64 ((first+ms.length:Nat):Int))∧Below W.heap.size W w':=by
 have MD:=hid (qL h.cells.2.1)
 obtain⟨k,hk⟩:=nm ms.length
 have mb:=h.mb
 have vb:=h.vb
 rw [hk] at mb vb
 have LE:=hid (show ∀ u,Below W.heap.size W u→Calls prog 36 #[.pointer (some ⟨lp,0,none⟩)] u fun e w'=>e=.returned (.int .i64 (k:Int))∧∃ j,w'=u.drewN j from fun u hu=>by rw [← hk];exact (h.stay hu).line.len (by omega))
 have HC:=hid (show ∀ u,Below W.heap.size W u→u.cell? ⟨g,0,none⟩=some (.int .u64 (first:Int))∧u.cell? ⟨g,1,none⟩=some (.pointer (some ⟨lp,0,none⟩)) from fun u hu=>⟨(h.stay hu).cells.1,(h.stay hu).cells.2.1⟩)
 have w1:IntKind.u64.wrap (k:Int)=(k:Int):=fQ (by omega) (by omega)
 obtain⟨V,hV⟩:=nm (first+k)
 have w2:IntKind.u64.wrap ((first:Int)+(k:Int))=(V:Int):=by rw [fQ] <;> omega
 rw [hk,hV]
 clear h mb vb hk hV
 go_enter func19,ntmps19
 go_wp2_with fail
 refine MD.out.mono ?_
 rintro e w ⟨rfl,rfl⟩
 go_wp2_with fail
 refine wp_region_held_drew (S:=fun u=>Below W.heap.size W u) (by kernel_rfl) ((Below.refl _ W).drew) (fun S0=>?_)
 generalize W.drew=wd at S0 ⊢
 refine av 0 S0 ?_
 refine av 1 S0 ?_
 refine av 2 S0 ?_
 refine av 3 S0 ?_ (hy:=by intro u hu;obtain⟨c0,c1⟩:=HC.out u hu;clear hu;go_simp;try rfl)
 refine av 4 S0 ?_
 refine av 5 S0 ?_
 refine av 6 S0 ?_
 refine av 7 S0 ?_ (hy:=by intro u hu;obtain⟨c0,c1⟩:=HC.out u hu;clear hu;go_simp;try rfl)
 refine fw 8 fun K hK=>?_
 go_simp
 refine (LE.out wd S0).mono ?_
 rintro e w3 ⟨rfl,j,rfl⟩
 have S1:=lg S0 j
 refine hK _ _ S1 ?_
 clear hK K S0
 have S0:=S1
 clear S1
 try simp only [Act.put,pS]
 refine av 9 S0 ?_
 refine av 10 S0 ?_
 refine av 11 S0 ?_
 refine wpAnyH_done (by kernel_rfl) ?_ _
 go_wp2
 go_ret
 exact⟨rfl,S0⟩
theorem qh (h:iZ base g lp first fr n c bs ms A W):Calls prog 18 #[.pointer (some ⟨g,0,none⟩)] W fun e w'=>e=.returned (.int .u64 ((first+fr:Nat):Int))∧Below W.heap.size W w':=by
 have MD:=hid (qL h.cells.2.1)
 obtain⟨V,hV⟩:=nm (first+ms.length)
 obtain⟨b,hb⟩:=nm (first+fr)
 have vb:=h.vb
 have mb:=h.mb
 have hl:=h.len
 have VE:=hid (show ∀ u,Below W.heap.size W u→Calls prog 19 #[.pointer (some ⟨g,0,none⟩)] u fun e w'=>e=.returned (.int .u64 (V:Int))∧Below u.heap.size u w' from fun u hu=>by rw [← hV];exact zJ (h.stay hu))
 have HC:=hid (show ∀ u,Below W.heap.size W u→u.cell? ⟨g,2,none⟩=some (.slice A n c) from fun u hu=>(h.stay hu).cells.2.2)
 have w1:IntKind.u64.wrap (n:Int)=(n:Int):=fQ (by omega) (by omega)
 have w2:IntKind.u64.wrap ((V:Int) - (n:Int))=(b:Int):=by rw [fQ] <;> omega
 rw [hb]
 clear h mb vb hV hb hl
 go_enter func18,ntmps18
 go_wp2_with fail
 refine MD.out.mono ?_
 rintro e w ⟨rfl,rfl⟩
 go_wp2_with fail
 refine wp_region_held_drew (S:=fun u=>Below W.heap.size W u) (by kernel_rfl) ((Below.refl _ W).drew) (fun S0=>?_)
 generalize W.drew=wd at S0 ⊢
 refine av 0 S0 ?_
 refine av 2 S0 ?_
 refine av 3 S0 ?_
 refine av 4 S0 ?_
 refine av 5 S0 ?_ (hy:=by intro u hu;have c2:=HC.out u hu;clear hu;go_simp;try rfl)
 refine av 6 S0 ?_
 refine av 7 S0 ?_
 refine fw 1 fun K hK=>?_
 go_simp
 refine (VE.out wd S0).mono ?_
 rintro e w3 ⟨rfl,h3⟩
 have S1:=S0.trans (h3.mono S0.size)
 refine hK _ _ S1 ?_
 clear h3
 clear hK K S0
 have S0:=S1
 clear S1
 try simp only [Act.put,pS]
 refine av 8 S0 ?_
 refine av 9 S0 ?_
 refine wpAnyH_done (by kernel_rfl) ?_ _
 go_wp2
 go_ret
 exact⟨rfl,S0⟩
theorem kw {v:Nat} {b:Bool} (h:iZ base g lp first fr n c bs ms A W) (hb:b=decide (first+fr≤v∧v≤first+ms.length)):Calls prog 30 #[.pointer (some ⟨g,0,none⟩),.int .u64 (v:Int)] W fun e w'=>e=.returned (.bool b)∧Below W.heap.size W w':=by
 have MD:=hid (qL h.cells.2.1)
 obtain⟨V,hV⟩:=nm (first+ms.length)
 obtain⟨q,hq⟩:=nm (first+fr)
 rw [hV,hq] at hb
 have BE:=hid (qh h)
 rw [hq] at BE
 have VE:=hid (show ∀ u,Below W.heap.size W u→Calls prog 19 #[.pointer (some ⟨g,0,none⟩)] u fun e w'=>e=.returned (.int .u64 (V:Int))∧Below u.heap.size u w' from fun u hu=>by rw [← hV];exact zJ (h.stay hu))
 clear h hV hq
 by_cases h1:q≤v
 ·have d1:decide ((q:Int)≤(v:Int))=true:=by simp;omega
  have d2:(q:Int)≤(v:Int):=by omega
  have d3:decide (q≤v)=true:=by simp [h1]
  by_cases h2:v≤V
  ·have e1:decide ((v:Int)≤(V:Int))=true:=by simp;omega
   have e2:(v:Int)≤(V:Int):=by omega
   have e3:decide (v≤V)=true:=by simp [h2]
   obtain rfl:b=true:=by rw [hb];exact decide_eq_true ⟨h1,h2⟩
   clear hb
   go_enter func30,ntmps30
   go_wp2_with fail
   refine MD.out.mono ?_
   rintro e w ⟨rfl,rfl⟩
   go_wp2_with fail
   refine BE.out.mono ?_
   rintro e w3 ⟨rfl,b3⟩
   have B3:=hid b3
   clear b3
   go_wp2_with fail
   refine (VE.out w3 B3.out).mono ?_
   rintro e w4 ⟨rfl,b4⟩
   have B4:=hid (B3.out.trans (b4.mono B3.out.size))
   clear b4
   go_wp2
   go_ret
   exact⟨aI (by simp),B4.out⟩
  ·have e1:decide ((v:Int)≤(V:Int))=false:=by simp;omega
   have e2:¬ (v:Int)≤(V:Int):=by omega
   have e3:decide (v≤V)=false:=by simp [h2]
   obtain rfl:b=false:=by rw [hb];exact decide_eq_false (fun z=>h2 z.2)
   clear hb
   go_enter func30,ntmps30
   go_wp2_with fail
   refine MD.out.mono ?_
   rintro e w ⟨rfl,rfl⟩
   go_wp2_with fail
   refine BE.out.mono ?_
   rintro e w3 ⟨rfl,b3⟩
   have B3:=hid b3
   clear b3
   go_wp2_with fail
   refine (VE.out w3 B3.out).mono ?_
   rintro e w4 ⟨rfl,b4⟩
   have B4:=hid (B3.out.trans (b4.mono B3.out.size))
   clear b4
   go_wp2
   go_ret
   exact⟨aI (by simp),B4.out⟩
 ·have d1:decide ((q:Int)≤(v:Int))=false:=by simp;omega
  have d2:¬ (q:Int)≤(v:Int):=by omega
  have d3:decide (q≤v)=false:=by simp [h1]
  obtain rfl:b=false:=by rw [hb];exact decide_eq_false (fun z=>h1 z.1)
  clear hb
  go_enter func30,ntmps30
  go_wp2_with fail
  refine MD.out.mono ?_
  rintro e w ⟨rfl,rfl⟩
  go_wp2_with fail
  refine BE.out.mono ?_
  rintro e w3 ⟨rfl,b3⟩
  have B3:=hid b3
  clear b3
  go_wp2
  go_ret
  exact⟨aI (by simp),B3.out⟩
theorem uq (v:Nat) (W:World):Calls prog 16 #[.pointer none,.int .u64 (v:Int)] W (dC false ⟨[],[]⟩ W):=by
 have hbl:=j_
 obtain⟨w1,hw1⟩:=nm (W.alloc (.cells #[.slice none 0 0,.slice none 0 0] 26))
 obtain⟨rb,b1,z1⟩:=aj hw1
 have TE:=hid (sS v w1)
 have RB:=hid rb
 have B1:=hid b1
 have f0:=af RB.out 0
 have f1:=af RB.out 1
 obtain⟨r0,r1⟩:=aa RB.out
 clear rb b1 z1
 go_enter func16,ntmps16
 go_wp2_with fail
 refine TE.out.mono ?_
 rintro e w2 ⟨rfl,rfl⟩
 go_wp2
 obtain⟨wz,hwz⟩:=nm ((w1.setCell ⟨W.heap.size,0,none⟩ (.slice none 0 0)).setCell ⟨W.heap.size,1,none⟩ (.slice none 0 0))
 rw [hwz]
 have YR:Ty w1 W.heap.size 26:=⟨_,_,RB.out⟩
 have TZ:aM W.heap.size [26] w1 wz:=by
  rw [← hwz]
  exact ((aM.refl _ _ w1).aB (p:=⟨W.heap.size,0,none⟩) YR (by simp) (Nat.le_refl _) _).aB (p:=⟨W.heap.size,1,none⟩) (YR.set _ _) (by simp) (Nat.le_refl _) _
 have RZ:wz.heap[W.heap.size]?=some (.cells #[.slice none 0 0,.slice none 0 0] 26 (0,0)):=by rw [← hwz];exact ah (ah RB.out 0 _) 1 _
 obtain⟨y0,y1⟩:=aa RZ
 refine bodyPost_ret (v:=.tuple #[.agg #[.slice none 0 0,.slice none 0 0],.bool false]) (by simp [results,results16,go_sem,y0,y1]) rfl ?_
 exact⟨⟨[],none,0,[],none,0⟩,rfl,kR.qN,rfl,B1.out.trans TZ.below⟩
theorem at17_no {v:Nat} (h:iZ base g lp first fr n c bs ms A W) (hv:¬ (first+fr≤v∧v≤first+ms.length)):Calls prog 16 #[.pointer (some ⟨g,0,none⟩),.int .u64 (v:Int)] W (dC false ⟨[],[]⟩ W):=by
 have hbl:=j_
 obtain⟨w1,hw1⟩:=nm (W.alloc (.cells #[.slice none 0 0,.slice none 0 0] 26))
 obtain⟨rb,b1,z1⟩:=aj hw1
 have TE:=hid (kw (v:=v) (b:=false) (h.stay b1) (decide_eq_false hv).symm)
 have RB:=hid rb
 have B1:=hid b1
 clear h rb b1 z1 hv
 go_enter func16,ntmps16
 go_wp2_with fail
 refine TE.out.mono ?_
 rintro e w2 ⟨rfl,b2⟩
 have R2:=hid (ae RB.out b2)
 have B2:Hid (Below W.heap.size W w2):=hid (B1.out.trans (b2.mono B1.out.size))
 have f0:=af R2.out 0
 have f1:=af R2.out 1
 obtain⟨r0,r1⟩:=aa R2.out
 clear b2
 go_wp2
 obtain⟨wz,hwz⟩:=nm ((w2.setCell ⟨W.heap.size,0,none⟩ (.slice none 0 0)).setCell ⟨W.heap.size,1,none⟩ (.slice none 0 0))
 rw [hwz]
 have YR:Ty w2 W.heap.size 26:=⟨_,_,R2.out⟩
 have TZ:aM W.heap.size [26] w2 wz:=by
  rw [← hwz]
  exact ((aM.refl _ _ w2).aB (p:=⟨W.heap.size,0,none⟩) YR (by simp) (Nat.le_refl _) _).aB (p:=⟨W.heap.size,1,none⟩) (YR.set _ _) (by simp) (Nat.le_refl _) _
 have RZ:wz.heap[W.heap.size]?=some (.cells #[.slice none 0 0,.slice none 0 0] 26 (0,0)):=by rw [← hwz];exact ah (ah R2.out 0 _) 1 _
 obtain⟨y0,y1⟩:=aa RZ
 refine bodyPost_ret (v:=.tuple #[.agg #[.slice none 0 0,.slice none 0 0],.bool false]) (by simp [results,results16,go_sem,y0,y1]) rfl ?_
 exact⟨⟨[],none,0,[],none,0⟩,rfl,kR.qN,rfl,B2.out.trans TZ.below⟩
theorem Jj {v i:Nat} (h:iZ base g lp first fr n c bs ms A W) (hv:v=first+i) (hi:fr≤i) (hu:i≤ms.length):Calls prog 16 #[.pointer (some ⟨g,0,none⟩),.int .u64 (v:Int)] W (dC true (T9.bZ bs (ms.take i)) W):=by
 obtain⟨w1,hw1⟩:=nm (W.alloc (.cells #[.slice none 0 0,.slice none 0 0] 26))
 obtain⟨rb,b1,z1⟩:=aj hw1
 have TE:=hid (kw (v:=v) (b:=true) (h.stay b1) (decide_eq_true (by omega)).symm)
 have RB:=hid rb
 have B1:=hid b1
 have mb:=h.mb
 have vb:=h.vb
 have w2:IntKind.u64.wrap ((v:Int) - (first:Int))=(i:Int):=by rw [fQ] <;> omega
 have w3:IntKind.i64.wrap (i:Int)=(i:Int):=zL (by omega) (by omega)
 have AE:=hid (show ∀ u,Below W.heap.size W u→Calls prog 35 #[.pointer (some ⟨lp,0,none⟩),.int .i64 (i:Int)] u (dC true (T9.bZ bs (ms.take i)) u) from fun u hu'=>(h.stay hu').line.at_in (by omega) h.bd h.km (by omega) rfl hu)
 have HC:=hid (show ∀ u,Below W.heap.size W u→u.cell? ⟨g,0,none⟩=some (.int .u64 (first:Int))∧u.cell? ⟨g,1,none⟩=some (.pointer (some ⟨lp,0,none⟩)) from fun u hu=>⟨(h.stay hu).cells.1,(h.stay hu).cells.2.1⟩)
 clear h rb b1 z1 hv hi hu mb vb
 go_enter func16,ntmps16
 go_wp2_with fail
 refine TE.out.mono ?_
 rintro e w2' ⟨rfl,b2⟩
 have zV:=hid (ae RB.out b2)
 have B2:Hid (Below W.heap.size W w2'):=hid (B1.out.trans (b2.mono B1.out.size))
 clear b2
 go_wp2_with fail
 refine wp_region_held_drew (S:=fun u=>Below W.heap.size W u) (by kernel_rfl) (B2.out.drew) (fun S0=>?_)
 have RD:Hid (w2'.drew.heap[W.heap.size]?=some (.cells #[.slice none 0 0,.slice none 0 0] 26 (0,0))):=hid zV.out
 generalize w2'.drew=wd at S0 RD ⊢
 refine av 0 S0 ?_
 refine av 1 S0 ?_
 refine av 2 S0 ?_
 refine av 3 S0 ?_ (hy:=by intro u hu;obtain⟨c0,c1⟩:=HC.out u hu;clear hu;go_simp;try rfl)
 refine av 4 S0 ?_
 refine av 5 S0 ?_
 refine av 6 S0 ?_
 refine av 7 S0 ?_
 refine av 8 S0 ?_ (hy:=by intro u hu;obtain⟨c0,c1⟩:=HC.out u hu;clear hu;go_simp;try rfl)
 refine av 9 S0 ?_
 refine av 10 S0 ?_
 refine fw 11 fun K hK=>?_
 go_simp
 have CP:=AE.out wd S0
 unfold dC aQ.val at CP
 refine CP.mono ?_
 rintro e w3' ⟨q,rfl,hq,sM,hb3⟩
 have S1:Below W.heap.size W w3':=S0.trans (hb3.mono S0.size)
 refine hK _ _ S1 ?_
 have Q:=hid hq
 have QS:=hid sM
 have R3:=hid (ae RD.out hb3)
 clear hK K S0 hq sM hb3 CP
 have S0:=S1
 clear S1
 try simp only [Act.put,pS]
 refine av 12 S0 ?_
 refine av 13 S0 ?_
 refine fw 14 fun K hK=>?_
 have rb:=R3.out
 obtain⟨g0,g1⟩:=aa rb
 have xG:=af rb 0
 have xH:=af rb 1
 go_simp
 obtain⟨vz,jQ⟩:=nm ((w3'.setCell ⟨W.heap.size,0,none⟩ (.slice q.A q.ls.length q.c)).setCell ⟨W.heap.size,1,none⟩ (.slice q.A2 q.ms.length q.c2))
 try rw [jQ]
 have Y:Ty w3' W.heap.size 26:=⟨_,_,rb⟩
 have tz:aM W.heap.size [26] w3' vz:=by
  rw [← jQ]
  exact ((aM.refl _ _ w3').aB (p:=⟨W.heap.size,0,none⟩) Y (by simp) (Nat.le_refl _) _).aB (p:=⟨W.heap.size,1,none⟩) (Y.set _ _) (by simp) (Nat.le_refl _) _
 have RZ:Hid (vz.cell? ⟨W.heap.size,0,none⟩=some (.slice q.A q.ls.length q.c)∧vz.cell? ⟨W.heap.size,1,none⟩=some (.slice q.A2 q.ms.length q.c2)):=hid (by rw [← jQ];exact aa (ah (ah rb 0 _) 1 _))
 have Q3:=hid (Q.out.bE tz (by decide) (by decide) (by decide))
 have S1:Below W.heap.size W vz:=S0.trans tz.below
 refine hK _ _ S1 ?_
 clear hK K S0 rb g0 g1 xG xH Y tz jQ
 have S0:=S1
 clear S1
 try simp only [Act.put,pS]
 refine av 15 S0 ?_
 refine wpAnyH_done (by kernel_rfl) ?_ _
 go_wp2
 refine bodyPost_ret (v:=.tuple #[.agg #[.slice q.A q.ls.length q.c,.slice q.A2 q.ms.length q.c2],.bool true]) (by simp [results,results16,go_sem,RZ.out.1,RZ.out.2]) rfl ?_
 exact⟨q,rfl,Q3.out,QS.out,S0⟩
end
end
end
end Go.Proofs.YtcmiompdjjiojaaGreat
