import Derived.Test.YtcmiompdjjiojaaGreatZ13
namespace Go.Proofs.YtcmiompdjjiojaaGreat
set_option maxHeartbeats 16000000
open Go.Lib Go.Proofs.Tryz
set_option linter.unusedSimpArgs false
set_option maxRecDepth 100000
section
section
open Go.RowKit Go.Lib
def oJ (A:Option Addr) (c:Nat):Option Nat:=if c=0 then none else A.map (·.block)
def pE (t:TypeId) (k:Nat) (A:Option Addr) (c:Nat) (cells:List Value) (n B:Nat) (w:World) (e:Ending) (w':World):Prop :=
 ∃ A' c',e=.returned (.slice A' n c')∧dZ w' B t k A' n c' cells∧w.grownBy w' (oJ A c)∧(oJ A' c'=oJ A c∨∃ g,oJ A' c'=some g∧w.heap.size≤g)
theorem dZ.parts {w:World} {B:Nat} {t:TypeId} {k n c:Nat} {A:Option Addr} {xs:List Value} (h:dZ w B t k A n c xs):(n=0∧c=0)∨∃ g,A=some ⟨g,0,none⟩∧0<c∧w.ownsRow B t k (.slice (some ⟨g,0,none⟩) n c) n xs:=by
 rcases h with q | ⟨g,e,q⟩
 ·exact .inl q
 ·rcases Nat.eq_zero_or_pos c with z | z
  ·subst z;exact .inl ⟨by have:=(aO q).2;omega,rfl⟩
  ·exact .inr ⟨g,e,z,q⟩
theorem aY {g c:Nat} (h:0<c):oJ (some ⟨g,0,none⟩) c=some g:=by unfold oJ;rw [if_neg (by omega)];rfl
theorem j6 {w:World} {g:Nat} {cs:Array Value} {t:TypeId} {fr:Nat × Nat} (h:w.heap[g]?=some (.cells cs t fr)):w.shape? g=some (t,cs.size):=by
 simp [World.shape?,h]
theorem ku {w:World} {g:Nat} {v:List Value} {t:TypeId} {fr:Nat × Nat} (h:w.heap[g]?=some (.cells v.toArray t fr)):∀ j u,v[j]?=some u→w.cell? ((⟨g,0,none⟩:Addr).add j)=some u:=fun j u hu=>by
 rw [dP]
 simp [World.cell?,h,hu]
section
variable {P : Program}
theorem kN (w:World) {ops:Array Oper} {rest:List Oper} {o:Oper} {a:Act} {Q:Exit→Act→World→Prop} (hgd:o.guard=none) (d s:Operand) (t t':TypeId)
  (ho:o.op=.call { callee:=.builtin .append,args:=#[d,s],argTypes:=#[t,t'] }) (v u:Value) (hd:a.eval d=v) (hs:a.eval s=u) {v':Value} {w':World}
  (hr:(Builtin.append_ #[t,t'] o.type #[v,u]).run P w=.ok v' w') (h:wpList P ops Q rest (a.put o.dst v') w'):wpList P ops Q (o :: rest) a w :=
 wpList_plain hgd fun K hK=>by
  unfold Oper.wp execOp
  simp only [ho,resolve,invoke,builtin,Sem.run_bind,Sem.run_pure,Result.andThen_ok,List.map_toArray,List.map_cons,List.map_nil,hd,hs,hr]
  exact hK _ _ h
theorem b_ {w:World} {B:Nat} {t:TypeId} {k n:Nat} {v:Value} {xs:List Value} (h:w.ownsRow B t k v n xs):w.drew.ownsRow B t k v n xs:=h
theorem jo {w w':World} {r:Option Nat} (h:w.drew.grownBy w' r):w.grownBy w' r:=⟨h.os,h.tape,h.output,h.size,h.block⟩
theorem dM {w w1 w2:World} {r:Option Nat} (h:w.grownBy w1 r) (k:w1.grownBy w2 r):w.grownBy w2 r :=
 ⟨k.os.trans h.os,k.tape.trans h.tape,k.output.trans h.output,Nat.le_trans h.size k.size,fun j hj hr=>(k.block j (Nat.lt_of_lt_of_le hj h.size) hr).trans (h.block j hj hr)⟩
theorem eP {w w':World} {r:Option Nat} (h:Below w.heap.size w w'):w.grownBy w' r:=⟨h.os,h.tape,h.output,h.size,fun k hk _=>h.block k hk⟩
end
theorem AJ {A:Option Addr} {n c gv B:Nat} {xs v:List Value} {w:World} (h:dZ w B 61 2 A n c xs) (hx:xs.length=n * 2) (hv:w.heap[gv]?=some (.cells v.toArray 61 (0,0))) (hl:v.length=2) (hv1:∀ u∈v,u.oneCell'=true) (hs:n≤1000) (hB:B≤w.heap.size) :
  Calls prog 102 #[.slice A n c,.int .i64 (n:Int),.slice (some ⟨gv,0,none⟩) 1 1] w (pE 61 2 A c (xs++v) (n+1) B w):=by
 obtain⟨i0,hi,hz0,hz1,hz2⟩:=info_parts Tryz.infoLi9
 have VC:=hid (ku hv)
 have HX:=hid hx
 have HL:=hid hl
 have V1:=hid hv1
 have LV:Hid (au w 0 61 (some ⟨gv,0,none⟩) v):=hid (by have q:=au.iy (B:=0) hv;exact q)
 rcases h.parts with⟨rfl,rfl⟩ | ⟨g,rfl,c0,own⟩
 ·clear h hx hl hv hv1
  go_enter func102,ntmps102
  go_wp2_with (at_builtin;refine jy _ rfl _ _ 23 rfl w.heap.size 61 i0 _ 2 24 underlying23 hi hz0 hz1 hz2 rfl 0 0 A 0 [] rfl rfl au.nil (by simp) ⟨gv,0,none⟩ 1 1 v rfl (by rw [HL.out]) VC.out V1.out (by omega) (by unfold maxLen;omega) (by omega) (Nat.le_refl _) ?_)
  intro v' w1 hown hgrow
  obtain⟨A',c',rfl⟩:=aD hown
  obtain⟨g,rfl,hg⟩:=bO hown (by omega)
  have hr:=(aO hown).2
  have HO:=hid hown
  have HG:=hid hgrow
  have HGB:=hid hg
  clear hown hgrow hg
  go_wp2
  go_ret
  have xn:xs=[]:=List.length_eq_zero_iff.1 (by have:=HX.out;omega)
  subst xn
  exact⟨_,c',rfl,.inr ⟨g,rfl,dA HO.out hB⟩,HG.out,.inr ⟨g,aY (by omega),HGB.out⟩⟩
 ·have OW:=hid own
  have nc:=(aO own).2
  have nci:(n:Int)≤(c:Int):=by omega
  clear h hx hl hv hv1 own
  rcases Nat.eq_or_lt_of_le nc with q0 | q0
  ·subst q0
   go_enter func102,ntmps102
   go_wp2_with (at_builtin;refine bL _ rfl _ _ 23 rfl B 61 i0 _ 2 24 underlying23 hi hz0 hz1 hz2 rfl (by decide) _ n xs rfl OW.out 0 (some ⟨gv,0,none⟩) 1 1 v 61 rfl (by rw [HL.out]) LV.out V1.out (by unfold maxLen;omega) (by omega) hB ?_)
   intro v' w1 hown hgrow hb
   obtain⟨A',c',rfl⟩:=aD hown
   obtain⟨g',rfl,hg⟩:=bO hown (by omega)
   have hr:=(aO hown).2
   have HO:=hid hown
   have HG:=hid hgrow
   have HB:=hid hb
   clear hown hgrow hg hb
   go_wp2
   go_ret
   refine⟨_,c',rfl,.inr ⟨g',rfl,HO.out⟩,by rw [aY c0];exact HG.out,?_⟩
   rw [aY c0,aY (by omega)]
   rcases HB.out with q | q
   ·left;exact q
   ·right;exact⟨_,q,Nat.le_refl _⟩
  ·have hb4:¬ (c=n):=by omega
   have hb5:¬ (c≤n):=by omega
   go_enter func102,ntmps102
   go_wp2_with (at_builtin;refine bL _ rfl _ _ 23 rfl B 61 i0 _ 2 24 underlying23 hi hz0 hz1 hz2 rfl (by decide) _ n xs rfl OW.out 0 (some ⟨gv,0,none⟩) 1 1 v 61 rfl (by rw [HL.out]) LV.out V1.out (by unfold maxLen;omega) (by omega) hB ?_)
   intro v' w1 hown hgrow hb
   obtain⟨A',c',rfl⟩:=aD hown
   obtain⟨g',rfl,hg⟩:=bO hown (by omega)
   have hr:=(aO hown).2
   have HO:=hid hown
   have HG:=hid hgrow
   have HB:=hid hb
   clear hown hgrow hg hb
   go_wp2
   go_ret
   refine⟨_,c',rfl,.inr ⟨g',rfl,HO.out⟩,by rw [aY c0];exact HG.out,?_⟩
   rw [aY c0,aY (by omega)]
   rcases HB.out with q | q
   ·left;exact q
   ·right;exact⟨_,q,Nat.le_refl _⟩
theorem AO {n c gv g p B:Nat} {xs v:List Value} {w:World} (own:w.ownsRow B 61 2 (.slice (some ⟨g,0,none⟩) n c) n xs) (h1:∀ u∈xs,u.oneCell'=true) (hv:w.heap[gv]?=some (.cells v.toArray 61 (0,0))) (hl:v.length=2) (hv1:∀ u∈v,u.oneCell'=true) (hp:p<n) (hne:gv≠g) (hs:n≤1000) (hB:B≤w.heap.size) :
  Calls prog 102 #[.slice (some ⟨g,0,none⟩) n c,.int .i64 (p:Int),.slice (some ⟨gv,0,none⟩) 1 1] w (pE 61 2 (some ⟨g,0,none⟩) c (xs.take (p * 2)++v++xs.drop (p * 2)) (n+1) B w):=by
 obtain⟨i0,hi,hz0,hz1,hz2⟩:=info_parts Tryz.infoLi9
 have VC:=hid (ku hv)
 have HX:Hid (xs.length=n * 2):=hid own.1
 have HL:=hid hl
 have V1:=hid hv1
 have H1:=hid h1
 have OW:=hid own
 obtain⟨cur,_,gb,nc,cm,cs,_⟩:=fB own
 have VL:v.length=1 * 2:=hl
 have hz9:¬ ((p:Int)=(n:Int)):=by omega
 have mixed:prog.follows .mixedOrders=true:=by kernel_rfl
 have hb3:(p:Int)≤(n:Int)+1:=by omega
 obtain⟨CS,hCS⟩:=nm (xs.take (p * 2)++v++xs.drop (p * 2))
 have MC:=hid hCS
 rw [hCS]
 have hpn:p≤n:=by omega
 have hpc:¬ (c=p):=by omega
 have hpi:(p:Int)≤(n:Int):=by omega
 have hw1:IntKind.i64.wrap ((p:Int)+1)=(p:Int)+1:=by rw [IntKind.wrap_i64];omega
 have hw2:IntKind.i64.wrap ((n:Int)+1)=(n:Int)+1:=by rw [IntKind.wrap_i64];omega
 have hb1:(0:Int)≤(p:Int)+1:=by omega
 have htn:((p:Int)+1).toNat=p+1:=by omega
 have Ka:((n:Int)+1).toNat=n+1:=by omega
 have hpm:p * 2≤xs.length:=by rw [HX.out];omega
 have DC:Hid (∀ j u,(xs.drop (p * 2))[j]?=some u→w.cell? ((⟨g,p * 2,none⟩:Addr).add j)=some u):=hid fun j u hj=>by
  rw [Addr.add_lit]
  rw [List.getElem?_drop] at hj
  exact df OW.out hj
 have DL:Hid ((xs.drop (p * 2)).length=(n - p) * 2):=hid (by rw [List.length_drop,HX.out];omega)
 have D1:Hid (∀ u∈xs.drop (p * 2),u.oneCell'=true):=hid fun u hu=>H1.out u (List.mem_of_mem_drop hu)
 by_cases room:n+1≤c
 ·obtain⟨ys,hy,ow2⟩:=vF own room
  have xg:=hid (b_ ow2)
  have hg1:¬ ((c:Int)<(n:Int)+1):=by omega
  have J9:¬ (c=p+1):=by omega
  have J_:(p:Int)+1≤(n:Int)+1:=by omega
  have hov:∀ lb cb,(callFunc 140 #[.slice (some ⟨gv,0,none⟩) 1 1,.slice (some ⟨g,(p+1) * 2,none⟩) lb cb]).run prog w=.ok (.value (.bool false)) w:=fun lb cb=>by
   rw [run_callFunc_extern func140 (by kernel_rfl) (by kernel_rfl) (by kernel_rfl) (e:=Extern.SlicesOverlaps.overlaps #[23,23] #[4]) (by kernel_rfl),
    Lib.run_overlaps_apart w 23 4 61 underlying23 2 (fun w=>by simp [sizeOf,typeInfo,hi,hz1]) ⟨gv,0,none⟩ ⟨g,(p+1) * 2,none⟩ 1 1 lb cb hne 61 61 v.toArray.size cur.size (j6 hv) (j6 gb) (by rw [cs];omega) (af hv _) (af hv _)]
   rfl
  obtain⟨w1,mZ⟩:=nm (w.drew.setCells g ((p+1) * 2) (xs.drop (p * 2)))
  have hcp1:∀ ty dc sc,(Builtin.copy_ #[23,23] ty #[.slice (some ⟨g,(p+1) * 2,none⟩) (n - p) dc,.slice (some ⟨g,p * 2,none⟩) (n+1 - p) sc]).run prog w.drew=.ok (goInt ((n - p:Nat):Int)) w1:=fun ty dc sc=>by
   rw [← mZ]
   have q:=dQ (P:=prog) (dT:=23) (sT:=23) ty underlying23 hi hz1 xg.out (p:=p+1) (m:=n - p) (dc:=dc) (sl:=n+1 - p) (sc:=sc) (a:=⟨g,p * 2,none⟩) DL.out (by simp only [Nat.min_def];split <;> omega) (by omega) (fun j u hj=>DC.out j u hj) D1.out
   rw [Nat.add_sub_add_right] at q
   skip
   exact q
  have Gg:Hid (w1.ownsRow B 61 2 (.slice (some ⟨g,0,none⟩) (n+1) c) (n+1) (splice (xs++ys) ((p+1) * 2) (xs.drop (p * 2)))):=hid (by
   rw [← mZ]
   exact aV xg.out (by rw [List.length_append,hy,DL.out,HX.out];omega))
  have I9:Hid (∀ j u,v[j]?=some u→w1.cell? ((⟨gv,0,none⟩:Addr).add j)=some u):=hid fun j u hu=>by
   rw [dP,← mZ,World.cell?_setCells_out g _ _ _ _ (fun q _=>absurd q hne)]
   have:=VC.out j u hu
   rw [dP] at this
   exact this
  obtain⟨w2,iE⟩:=nm (w1.setCells g (p * 2) v)
  have hcp2:∀ ty dc,(Builtin.copy_ #[23,23] ty #[.slice (some ⟨g,p * 2,none⟩) (n+1 - p) dc,.slice (some ⟨gv,0,none⟩) 1 1]).run prog w1=.ok (goInt 1) w2:=fun ty dc=>by
   rw [← iE]
   have q:=dQ (P:=prog) (dT:=23) (sT:=23) ty underlying23 hi hz1 Gg.out (p:=p) (m:=1) (dc:=dc) (sl:=1) (sc:=1) (a:=⟨gv,0,none⟩) VL (by simp only [Nat.min_def];split <;> omega) (by omega) I9.out V1.out
   skip
   exact q
  have FIN:Hid (w2.ownsRow B 61 2 (.slice (some ⟨g,0,none⟩) (n+1) c) (n+1) CS):=hid (by
   have q:=aV (o:=p * 2) (vs:=v) Gg.out (by rw [Gg.out.1,HL.out];omega)
   rw [iE] at q
   have e:=uS (xs:=xs) (ys:=ys) (v:=v) (k:=2) (n:=n) (p:=p) HX.out (by rw [hy]) HL.out hpn
   skip
   rw [e,hCS] at q
   exact q)
  have GR:Hid (w.grownBy w2 (some g)):=hid (by
   rw [← iE,← mZ]
   exact jo (dM (aR g _ _ _) (aR g _ _ _)))
  clear own h1 hv hl hv1 gb cs cm hy ow2 VL mZ iE hpm hne hCS
  go_enter func102,ntmps102
  go_wp2_with (simp only [hov])
  go_region_law_o (refine step_copy_runI rfl _ _ 23 23 rfl _ _ (by simp [Act.eval,Act.put]) (by simp [Act.eval,Act.put]) (hcp1 _ _ _) ?_)
  go_wp2_with (at_builtin;refine wpList_copy_runI _ rfl _ _ 23 23 rfl _ _ rfl rfl (hcp2 _ _) ?_)
  go_ret
  exact⟨_,c,rfl,.inr ⟨g,rfl,FIN.out⟩,by rw [aY (by omega)];exact GR.out,.inl rfl⟩
 ·obtain rfl:c=n:=by omega
  obtain⟨c',zs,w1,hzl,hc',hra,KZ,hb1'⟩:=jT (P:=prog) (t:=23) (tx:=3) (kx:=.i64) (kd:=.i64) 3 underlying23 underlying3 hi hz0 hz1 rfl (by decide) (gW own hpn) (m:=c+1 - p) (base:=w.heap.size) (by omega) (by omega) (by unfold maxLen;omega) (by rw [hz2];omega) (Nat.le_refl _)
  rw [show p+(c+1 - p)=c+1 by omega] at hc' hra KZ
  rw [show ((c+1 - p:Nat):Int)=(c:Int)+1 - (p:Int) by omega] at hra
  have hg1:(c:Int)<(c:Int)+1:=by omega
  have hw3:IntKind.i64.wrap ((c:Int)+1 - (p:Int))=(c:Int)+1 - (p:Int):=by rw [IntKind.wrap_i64];omega
  have J9:¬ (c'=p+1):=by omega
  have hpc2:¬ (c'=p):=by omega
  have J_:(p:Int)+1≤(c:Int)+1:=by omega
  have sJ:=hid KZ
  have HB1:=hid hb1'
  have ne1:w.heap.size≠g:=by have:=lt_of_block gb;omega
  have ne2:gv≠w.heap.size:=by have:=lt_of_block hv;omega
  have I9:Hid (∀ j u,v[j]?=some u→w1.cell? ((⟨gv,0,none⟩:Addr).add j)=some u):=hid fun j u hu=>by
   rw [dP]
   have:=VC.out j u hu
   rw [dP] at this
   rw [HB1.out.cell (p:=⟨gv,j,none⟩) (lt_of_block hv)]
   exact this
  obtain⟨w2,iE⟩:=nm (w1.setCells w.heap.size (p * 2) v)
  have hcp1:∀ ty dc,(Builtin.copy_ #[23,23] ty #[.slice (some ⟨w.heap.size,p * 2,none⟩) (c+1 - p) dc,.slice (some ⟨gv,0,none⟩) 1 1]).run prog w1=.ok (goInt 1) w2:=fun ty dc=>by
   rw [← iE]
   have q:=dQ (P:=prog) (dT:=23) (sT:=23) ty underlying23 hi hz1 sJ.out (p:=p) (m:=1) (dc:=dc) (sl:=1) (sc:=1) (a:=⟨gv,0,none⟩) VL (by simp only [Nat.min_def];split <;> omega) (by omega) I9.out V1.out
   skip
   exact q
  have TL:Hid ((xs.take (p * 2)++zs).length=(c+1) * 2):=hid (by have:=sJ.out.1;exact this)
  have xg:Hid (w2.drew.ownsRow w.heap.size 61 2 (.slice (some ⟨w.heap.size,0,none⟩) (c+1) c') (c+1) (splice (xs.take (p * 2)++zs) (p * 2) v)):=hid (by
   rw [← iE]
   have q:=sJ.out
   skip
   exact b_ (aV q (by rw [TL.out,HL.out];omega)))
  have DC2:Hid (∀ j u,(xs.drop (p * 2))[j]?=some u→w2.drew.cell? ((⟨g,p * 2,none⟩:Addr).add j)=some u):=hid fun j u hj=>by
   have q:=DC.out j u hj
   rw [Addr.add_lit] at q ⊢
   show w2.cell? _=_
   rw [← iE,World.cell?_setCells_out w.heap.size _ _ _ _ (fun q _=>absurd q (Ne.symm ne1)),HB1.out.cell (p:=⟨g,p * 2+j,none⟩) (lt_of_block gb)]
   exact q
  obtain⟨w3,qH⟩:=nm (w2.drew.setCells w.heap.size ((p+1) * 2) (xs.drop (p * 2)))
  have hcp2:∀ ty dc sc,(Builtin.copy_ #[23,23] ty #[.slice (some ⟨w.heap.size,(p+1) * 2,none⟩) (c - p) dc,.slice (some ⟨g,p * 2,none⟩) (c - p) sc]).run prog w2.drew=.ok (goInt ((c - p:Nat):Int)) w3:=fun ty dc sc=>by
   rw [← qH]
   have q:=dQ (P:=prog) (dT:=23) (sT:=23) ty underlying23 hi hz1 xg.out (p:=p+1) (m:=c - p) (dc:=dc) (sl:=c - p) (sc:=sc) (a:=⟨g,p * 2,none⟩) DL.out (by simp only [Nat.min_def];split <;> omega) (by omega) (fun j u hj=>DC2.out j u hj) D1.out
   rw [Nat.add_sub_add_right] at q
   skip
   exact q
  have FIN:Hid (w3.ownsRow w.heap.size 61 2 (.slice (some ⟨w.heap.size,0,none⟩) (c+1) c') (c+1) CS):=hid (by
   have q:=aV (o:=(p+1) * 2) (vs:=xs.drop (p * 2)) xg.out (by rw [xg.out.1,DL.out];omega)
   rw [qH] at q
   have e:=gV (xs:=xs) (zs:=zs) (v:=v) (k:=2) (n:=c) (p:=p) HX.out hzl HL.out hpn
   skip
   rw [e,hCS] at q
   exact q)
  have GR:Hid (w.grownBy w3 (some g)):=hid (by
   have a1:Below w.heap.size w w3:=by
    rw [← qH,← iE]
    exact ((HB1.out.grown (aR _ _ _ _) HB1.out.size (fun k e=>by injection e with e;omega)).drew).grown (aR _ _ _ _) (by have:=HB1.out.size;have:=(iG w.heap.size v (p * 2) w1).2.2.2;simp only [World.size_drew];omega) (fun k e=>by injection e with e;omega)
   exact eP a1)
  clear own h1 hv hl hv1 gb cs nc cm VL iE qH hpm hne hCS KZ hb1' hzl ne1 ne2
  go_enter func102,ntmps102
  go_wp2_with (at_builtin;refine kN _ rfl _ _ 23 3 rfl _ _ rfl rfl (hra) ?_)
  go_wp2_with (at_builtin;refine wpList_copy_runI _ rfl _ _ 23 23 rfl _ _ rfl rfl (hcp1 _ _) ?_)
  go_region_law_o (refine step_copy_runI rfl _ _ 23 23 rfl _ _ (by simp [Act.eval,Act.put]) (by simp [Act.eval,Act.put]) (hcp2 _ _ _) ?_)
  go_wp2
  go_ret
  exact⟨_,c',rfl,.inr ⟨_,rfl,dA FIN.out hB⟩,by rw [aY (by omega)];exact GR.out,.inr ⟨_,aY (by omega),Nat.le_refl _⟩⟩
theorem GM {A:Option Addr} {n c gv p B:Nat} {xs v:List Value} {w:World} (h:dZ w B 61 2 A n c xs) (hx:xs.length=n * 2) (h1:∀ u∈xs,u.oneCell'=true) (hv:w.heap[gv]?=some (.cells v.toArray 61 (0,0))) (hl:v.length=2) (hv1:∀ u∈v,u.oneCell'=true) (hp:p≤n) (hne:oJ A c≠some gv) (hs:n≤1000) (hB:B≤w.heap.size) :
  Calls prog 102 #[.slice A n c,.int .i64 (p:Int),.slice (some ⟨gv,0,none⟩) 1 1] w (pE 61 2 A c (xs.take (p * 2)++v++xs.drop (p * 2)) (n+1) B w):=by
 rcases Nat.eq_or_lt_of_le hp with q | q
 ·subst q
  have e:xs.take (p * 2)++v++xs.drop (p * 2)=xs++v:=by rw [List.take_of_length_le (by omega),List.drop_eq_nil_of_le (by omega),List.append_nil]
  rw [e]
  exact AJ h hx hv hl hv1 hs hB
 ·rcases h.parts with⟨r,_⟩ | ⟨g,rfl,c0,own⟩
  ·omega
  ·exact AO own h1 hv hl hv1 q (fun e=>hne (by rw [aY c0,e])) hs hB
theorem AA {A:Option Addr} {n c gv B:Nat} {xs v:List Value} {w:World} (h:dZ w B 64 7 A n c xs) (hx:xs.length=n * 7) (hv:w.heap[gv]?=some (.cells v.toArray 64 (0,0))) (hl:v.length=7) (hv1:∀ u∈v,u.oneCell'=true) (hs:n≤1000) (hB:B≤w.heap.size) :
  Calls prog 110 #[.slice A n c,.int .i64 (n:Int),.slice (some ⟨gv,0,none⟩) 1 1] w (pE 64 7 A c (xs++v) (n+1) B w):=by
 obtain⟨i0,hi,hz0,hz1,hz2⟩:=info_parts Tryz.infoTk9
 have VC:=hid (ku hv)
 have HX:=hid hx
 have HL:=hid hl
 have V1:=hid hv1
 have LV:Hid (au w 0 64 (some ⟨gv,0,none⟩) v):=hid (by have q:=au.iy (B:=0) hv;exact q)
 rcases h.parts with⟨rfl,rfl⟩ | ⟨g,rfl,c0,own⟩
 ·clear h hx hl hv hv1
  go_enter func110,ntmps110
  go_wp2_with (at_builtin;refine jy _ rfl _ _ 24 rfl w.heap.size 64 i0 _ 7 80 underlying24 hi hz0 hz1 hz2 rfl 0 0 A 0 [] rfl rfl au.nil (by simp) ⟨gv,0,none⟩ 1 1 v rfl (by rw [HL.out]) VC.out V1.out (by omega) (by unfold maxLen;omega) (by omega) (Nat.le_refl _) ?_)
  intro v' w1 hown hgrow
  obtain⟨A',c',rfl⟩:=aD hown
  obtain⟨g,rfl,hg⟩:=bO hown (by omega)
  have hr:=(aO hown).2
  have HO:=hid hown
  have HG:=hid hgrow
  have HGB:=hid hg
  clear hown hgrow hg
  go_wp2
  go_ret
  have xn:xs=[]:=List.length_eq_zero_iff.1 (by have:=HX.out;omega)
  subst xn
  exact⟨_,c',rfl,.inr ⟨g,rfl,dA HO.out hB⟩,HG.out,.inr ⟨g,aY (by omega),HGB.out⟩⟩
 ·have OW:=hid own
  have nc:=(aO own).2
  have nci:(n:Int)≤(c:Int):=by omega
  clear h hx hl hv hv1 own
  rcases Nat.eq_or_lt_of_le nc with q0 | q0
  ·subst q0
   go_enter func110,ntmps110
   go_wp2_with (at_builtin;refine bL _ rfl _ _ 24 rfl B 64 i0 _ 7 80 underlying24 hi hz0 hz1 hz2 rfl (by decide) _ n xs rfl OW.out 0 (some ⟨gv,0,none⟩) 1 1 v 64 rfl (by rw [HL.out]) LV.out V1.out (by unfold maxLen;omega) (by omega) hB ?_)
   intro v' w1 hown hgrow hb
   obtain⟨A',c',rfl⟩:=aD hown
   obtain⟨g',rfl,hg⟩:=bO hown (by omega)
   have hr:=(aO hown).2
   have HO:=hid hown
   have HG:=hid hgrow
   have HB:=hid hb
   clear hown hgrow hg hb
   go_wp2
   go_ret
   refine⟨_,c',rfl,.inr ⟨g',rfl,HO.out⟩,by rw [aY c0];exact HG.out,?_⟩
   rw [aY c0,aY (by omega)]
   rcases HB.out with q | q
   ·left;exact q
   ·right;exact⟨_,q,Nat.le_refl _⟩
  ·have hb4:¬ (c=n):=by omega
   have hb5:¬ (c≤n):=by omega
   go_enter func110,ntmps110
   go_wp2_with (at_builtin;refine bL _ rfl _ _ 24 rfl B 64 i0 _ 7 80 underlying24 hi hz0 hz1 hz2 rfl (by decide) _ n xs rfl OW.out 0 (some ⟨gv,0,none⟩) 1 1 v 64 rfl (by rw [HL.out]) LV.out V1.out (by unfold maxLen;omega) (by omega) hB ?_)
   intro v' w1 hown hgrow hb
   obtain⟨A',c',rfl⟩:=aD hown
   obtain⟨g',rfl,hg⟩:=bO hown (by omega)
   have hr:=(aO hown).2
   have HO:=hid hown
   have HG:=hid hgrow
   have HB:=hid hb
   clear hown hgrow hg hb
   go_wp2
   go_ret
   refine⟨_,c',rfl,.inr ⟨g',rfl,HO.out⟩,by rw [aY c0];exact HG.out,?_⟩
   rw [aY c0,aY (by omega)]
   rcases HB.out with q | q
   ·left;exact q
   ·right;exact⟨_,q,Nat.le_refl _⟩
theorem AB {n c gv g p B:Nat} {xs v:List Value} {w:World} (own:w.ownsRow B 64 7 (.slice (some ⟨g,0,none⟩) n c) n xs) (h1:∀ u∈xs,u.oneCell'=true) (hv:w.heap[gv]?=some (.cells v.toArray 64 (0,0))) (hl:v.length=7) (hv1:∀ u∈v,u.oneCell'=true) (hp:p<n) (hne:gv≠g) (hs:n≤1000) (hB:B≤w.heap.size) :
  Calls prog 110 #[.slice (some ⟨g,0,none⟩) n c,.int .i64 (p:Int),.slice (some ⟨gv,0,none⟩) 1 1] w (pE 64 7 (some ⟨g,0,none⟩) c (xs.take (p * 7)++v++xs.drop (p * 7)) (n+1) B w):=by
 obtain⟨i0,hi,hz0,hz1,hz2⟩:=info_parts Tryz.infoTk9
 have VC:=hid (ku hv)
 have HX:Hid (xs.length=n * 7):=hid own.1
 have HL:=hid hl
 have V1:=hid hv1
 have H1:=hid h1
 have OW:=hid own
 obtain⟨cur,_,gb,nc,cm,cs,_⟩:=fB own
 have VL:v.length=1 * 7:=hl
 have hz9:¬ ((p:Int)=(n:Int)):=by omega
 have mixed:prog.follows .mixedOrders=true:=by kernel_rfl
 have hb3:(p:Int)≤(n:Int)+1:=by omega
 obtain⟨CS,hCS⟩:=nm (xs.take (p * 7)++v++xs.drop (p * 7))
 have MC:=hid hCS
 rw [hCS]
 have hpn:p≤n:=by omega
 have hpc:¬ (c=p):=by omega
 have hpi:(p:Int)≤(n:Int):=by omega
 have hw1:IntKind.i64.wrap ((p:Int)+1)=(p:Int)+1:=by rw [IntKind.wrap_i64];omega
 have hw2:IntKind.i64.wrap ((n:Int)+1)=(n:Int)+1:=by rw [IntKind.wrap_i64];omega
 have hb1:(0:Int)≤(p:Int)+1:=by omega
 have htn:((p:Int)+1).toNat=p+1:=by omega
 have Ka:((n:Int)+1).toNat=n+1:=by omega
 have hpm:p * 7≤xs.length:=by rw [HX.out];omega
 have DC:Hid (∀ j u,(xs.drop (p * 7))[j]?=some u→w.cell? ((⟨g,p * 7,none⟩:Addr).add j)=some u):=hid fun j u hj=>by
  rw [Addr.add_lit]
  rw [List.getElem?_drop] at hj
  exact df OW.out hj
 have DL:Hid ((xs.drop (p * 7)).length=(n - p) * 7):=hid (by rw [List.length_drop,HX.out];omega)
 have D1:Hid (∀ u∈xs.drop (p * 7),u.oneCell'=true):=hid fun u hu=>H1.out u (List.mem_of_mem_drop hu)
 by_cases room:n+1≤c
 ·obtain⟨ys,hy,ow2⟩:=vF own room
  have xg:=hid (b_ ow2)
  have hg1:¬ ((c:Int)<(n:Int)+1):=by omega
  have J9:¬ (c=p+1):=by omega
  have J_:(p:Int)+1≤(n:Int)+1:=by omega
  have hov:∀ lb cb,(callFunc 147 #[.slice (some ⟨gv,0,none⟩) 1 1,.slice (some ⟨g,(p+1) * 7,none⟩) lb cb]).run prog w=.ok (.value (.bool false)) w:=fun lb cb=>by
   rw [run_callFunc_extern func147 (by kernel_rfl) (by kernel_rfl) (by kernel_rfl) (e:=Extern.SlicesOverlaps.overlaps #[24,24] #[4]) (by kernel_rfl),
    Lib.run_overlaps_apart w 24 4 64 underlying24 7 (fun w=>by simp [sizeOf,typeInfo,hi,hz1]) ⟨gv,0,none⟩ ⟨g,(p+1) * 7,none⟩ 1 1 lb cb hne 64 64 v.toArray.size cur.size (j6 hv) (j6 gb) (by rw [cs];omega) (af hv _) (af hv _)]
   rfl
  obtain⟨w1,mZ⟩:=nm (w.drew.setCells g ((p+1) * 7) (xs.drop (p * 7)))
  have hcp1:∀ ty dc sc,(Builtin.copy_ #[24,24] ty #[.slice (some ⟨g,(p+1) * 7,none⟩) (n - p) dc,.slice (some ⟨g,p * 7,none⟩) (n+1 - p) sc]).run prog w.drew=.ok (goInt ((n - p:Nat):Int)) w1:=fun ty dc sc=>by
   rw [← mZ]
   have q:=dQ (P:=prog) (dT:=24) (sT:=24) ty underlying24 hi hz1 xg.out (p:=p+1) (m:=n - p) (dc:=dc) (sl:=n+1 - p) (sc:=sc) (a:=⟨g,p * 7,none⟩) DL.out (by simp only [Nat.min_def];split <;> omega) (by omega) (fun j u hj=>DC.out j u hj) D1.out
   rw [Nat.add_sub_add_right] at q
   skip
   exact q
  have Gg:Hid (w1.ownsRow B 64 7 (.slice (some ⟨g,0,none⟩) (n+1) c) (n+1) (splice (xs++ys) ((p+1) * 7) (xs.drop (p * 7)))):=hid (by
   rw [← mZ]
   exact aV xg.out (by rw [List.length_append,hy,DL.out,HX.out];omega))
  have I9:Hid (∀ j u,v[j]?=some u→w1.cell? ((⟨gv,0,none⟩:Addr).add j)=some u):=hid fun j u hu=>by
   rw [dP,← mZ,World.cell?_setCells_out g _ _ _ _ (fun q _=>absurd q hne)]
   have:=VC.out j u hu
   rw [dP] at this
   exact this
  obtain⟨w2,iE⟩:=nm (w1.setCells g (p * 7) v)
  have hcp2:∀ ty dc,(Builtin.copy_ #[24,24] ty #[.slice (some ⟨g,p * 7,none⟩) (n+1 - p) dc,.slice (some ⟨gv,0,none⟩) 1 1]).run prog w1=.ok (goInt 1) w2:=fun ty dc=>by
   rw [← iE]
   have q:=dQ (P:=prog) (dT:=24) (sT:=24) ty underlying24 hi hz1 Gg.out (p:=p) (m:=1) (dc:=dc) (sl:=1) (sc:=1) (a:=⟨gv,0,none⟩) VL (by simp only [Nat.min_def];split <;> omega) (by omega) I9.out V1.out
   skip
   exact q
  have FIN:Hid (w2.ownsRow B 64 7 (.slice (some ⟨g,0,none⟩) (n+1) c) (n+1) CS):=hid (by
   have q:=aV (o:=p * 7) (vs:=v) Gg.out (by rw [Gg.out.1,HL.out];omega)
   rw [iE] at q
   have e:=uS (xs:=xs) (ys:=ys) (v:=v) (k:=7) (n:=n) (p:=p) HX.out (by rw [hy]) HL.out hpn
   skip
   rw [e,hCS] at q
   exact q)
  have GR:Hid (w.grownBy w2 (some g)):=hid (by
   rw [← iE,← mZ]
   exact jo (dM (aR g _ _ _) (aR g _ _ _)))
  clear own h1 hv hl hv1 gb cs cm hy ow2 VL mZ iE hpm hne hCS
  go_enter func110,ntmps110
  go_wp2_with (simp only [hov])
  go_region_law_o (refine step_copy_runI rfl _ _ 24 24 rfl _ _ (by simp [Act.eval,Act.put]) (by simp [Act.eval,Act.put]) (hcp1 _ _ _) ?_)
  go_wp2_with (at_builtin;refine wpList_copy_runI _ rfl _ _ 24 24 rfl _ _ rfl rfl (hcp2 _ _) ?_)
  go_ret
  exact⟨_,c,rfl,.inr ⟨g,rfl,FIN.out⟩,by rw [aY (by omega)];exact GR.out,.inl rfl⟩
 ·obtain rfl:c=n:=by omega
  obtain⟨c',zs,w1,hzl,hc',hra,KZ,hb1'⟩:=jT (P:=prog) (t:=24) (tx:=3) (kx:=.i64) (kd:=.i64) 3 underlying24 underlying3 hi hz0 hz1 rfl (by decide) (gW own hpn) (m:=c+1 - p) (base:=w.heap.size) (by omega) (by omega) (by unfold maxLen;omega) (by rw [hz2];omega) (Nat.le_refl _)
  rw [show p+(c+1 - p)=c+1 by omega] at hc' hra KZ
  rw [show ((c+1 - p:Nat):Int)=(c:Int)+1 - (p:Int) by omega] at hra
  have hg1:(c:Int)<(c:Int)+1:=by omega
  have hw3:IntKind.i64.wrap ((c:Int)+1 - (p:Int))=(c:Int)+1 - (p:Int):=by rw [IntKind.wrap_i64];omega
  have J9:¬ (c'=p+1):=by omega
  have hpc2:¬ (c'=p):=by omega
  have J_:(p:Int)+1≤(c:Int)+1:=by omega
  have sJ:=hid KZ
  have HB1:=hid hb1'
  have ne1:w.heap.size≠g:=by have:=lt_of_block gb;omega
  have ne2:gv≠w.heap.size:=by have:=lt_of_block hv;omega
  have I9:Hid (∀ j u,v[j]?=some u→w1.cell? ((⟨gv,0,none⟩:Addr).add j)=some u):=hid fun j u hu=>by
   rw [dP]
   have:=VC.out j u hu
   rw [dP] at this
   rw [HB1.out.cell (p:=⟨gv,j,none⟩) (lt_of_block hv)]
   exact this
  obtain⟨w2,iE⟩:=nm (w1.setCells w.heap.size (p * 7) v)
  have hcp1:∀ ty dc,(Builtin.copy_ #[24,24] ty #[.slice (some ⟨w.heap.size,p * 7,none⟩) (c+1 - p) dc,.slice (some ⟨gv,0,none⟩) 1 1]).run prog w1=.ok (goInt 1) w2:=fun ty dc=>by
   rw [← iE]
   have q:=dQ (P:=prog) (dT:=24) (sT:=24) ty underlying24 hi hz1 sJ.out (p:=p) (m:=1) (dc:=dc) (sl:=1) (sc:=1) (a:=⟨gv,0,none⟩) VL (by simp only [Nat.min_def];split <;> omega) (by omega) I9.out V1.out
   skip
   exact q
  have TL:Hid ((xs.take (p * 7)++zs).length=(c+1) * 7):=hid (by have:=sJ.out.1;exact this)
  have xg:Hid (w2.drew.ownsRow w.heap.size 64 7 (.slice (some ⟨w.heap.size,0,none⟩) (c+1) c') (c+1) (splice (xs.take (p * 7)++zs) (p * 7) v)):=hid (by
   rw [← iE]
   have q:=sJ.out
   skip
   exact b_ (aV q (by rw [TL.out,HL.out];omega)))
  have DC2:Hid (∀ j u,(xs.drop (p * 7))[j]?=some u→w2.drew.cell? ((⟨g,p * 7,none⟩:Addr).add j)=some u):=hid fun j u hj=>by
   have q:=DC.out j u hj
   rw [Addr.add_lit] at q ⊢
   show w2.cell? _=_
   rw [← iE,World.cell?_setCells_out w.heap.size _ _ _ _ (fun q _=>absurd q (Ne.symm ne1)),HB1.out.cell (p:=⟨g,p * 7+j,none⟩) (lt_of_block gb)]
   exact q
  obtain⟨w3,qH⟩:=nm (w2.drew.setCells w.heap.size ((p+1) * 7) (xs.drop (p * 7)))
  have hcp2:∀ ty dc sc,(Builtin.copy_ #[24,24] ty #[.slice (some ⟨w.heap.size,(p+1) * 7,none⟩) (c - p) dc,.slice (some ⟨g,p * 7,none⟩) (c - p) sc]).run prog w2.drew=.ok (goInt ((c - p:Nat):Int)) w3:=fun ty dc sc=>by
   rw [← qH]
   have q:=dQ (P:=prog) (dT:=24) (sT:=24) ty underlying24 hi hz1 xg.out (p:=p+1) (m:=c - p) (dc:=dc) (sl:=c - p) (sc:=sc) (a:=⟨g,p * 7,none⟩) DL.out (by simp only [Nat.min_def];split <;> omega) (by omega) (fun j u hj=>DC2.out j u hj) D1.out
   rw [Nat.add_sub_add_right] at q
   skip
   exact q
  have FIN:Hid (w3.ownsRow w.heap.size 64 7 (.slice (some ⟨w.heap.size,0,none⟩) (c+1) c') (c+1) CS):=hid (by
   have q:=aV (o:=(p+1) * 7) (vs:=xs.drop (p * 7)) xg.out (by rw [xg.out.1,DL.out];omega)
   rw [qH] at q
   have e:=gV (xs:=xs) (zs:=zs) (v:=v) (k:=7) (n:=c) (p:=p) HX.out hzl HL.out hpn
   skip
   rw [e,hCS] at q
   exact q)
  have GR:Hid (w.grownBy w3 (some g)):=hid (by
   have a1:Below w.heap.size w w3:=by
    rw [← qH,← iE]
    exact ((HB1.out.grown (aR _ _ _ _) HB1.out.size (fun k e=>by injection e with e;omega)).drew).grown (aR _ _ _ _) (by have:=HB1.out.size;have:=(iG w.heap.size v (p * 7) w1).2.2.2;simp only [World.size_drew];omega) (fun k e=>by injection e with e;omega)
   exact eP a1)
  clear own h1 hv hl hv1 gb cs nc cm VL iE qH hpm hne hCS KZ hb1' hzl ne1 ne2
  go_enter func110,ntmps110
  go_wp2_with (at_builtin;refine kN _ rfl _ _ 24 3 rfl _ _ rfl rfl (hra) ?_)
  go_wp2_with (at_builtin;refine wpList_copy_runI _ rfl _ _ 24 24 rfl _ _ rfl rfl (hcp1 _ _) ?_)
  go_region_law_o (refine step_copy_runI rfl _ _ 24 24 rfl _ _ (by simp [Act.eval,Act.put]) (by simp [Act.eval,Act.put]) (hcp2 _ _ _) ?_)
  go_wp2
  go_ret
  exact⟨_,c',rfl,.inr ⟨_,rfl,dA FIN.out hB⟩,by rw [aY (by omega)];exact GR.out,.inr ⟨_,aY (by omega),Nat.le_refl _⟩⟩
theorem GJ {A:Option Addr} {n c gv p B:Nat} {xs v:List Value} {w:World} (h:dZ w B 64 7 A n c xs) (hx:xs.length=n * 7) (h1:∀ u∈xs,u.oneCell'=true) (hv:w.heap[gv]?=some (.cells v.toArray 64 (0,0))) (hl:v.length=7) (hv1:∀ u∈v,u.oneCell'=true) (hp:p≤n) (hne:oJ A c≠some gv) (hs:n≤1000) (hB:B≤w.heap.size) :
  Calls prog 110 #[.slice A n c,.int .i64 (p:Int),.slice (some ⟨gv,0,none⟩) 1 1] w (pE 64 7 A c (xs.take (p * 7)++v++xs.drop (p * 7)) (n+1) B w):=by
 rcases Nat.eq_or_lt_of_le hp with q | q
 ·subst q
  have e:xs.take (p * 7)++v++xs.drop (p * 7)=xs++v:=by rw [List.take_of_length_le (by omega),List.drop_eq_nil_of_le (by omega),List.append_nil]
  rw [e]
  exact AA h hx hv hl hv1 hs hB
 ·rcases h.parts with⟨r,_⟩ | ⟨g,rfl,c0,own⟩
  ·omega
  ·exact AB own h1 hv hl hv1 q (fun e=>hne (by rw [aY c0,e])) hs hB
theorem AQ {A:Option Addr} {n c gv B:Nat} {xs v:List Value} {w:World} (h:dZ w B 9 1 A n c xs) (hx:xs.length=n * 1) (hv:w.heap[gv]?=some (.cells v.toArray 9 (0,0))) (hl:v.length=1) (hv1:∀ u∈v,u.oneCell'=true) (hs:n≤1000) (hB:B≤w.heap.size) :
  Calls prog 150 #[.slice A n c,.int .i64 (n:Int),.slice (some ⟨gv,0,none⟩) 1 1] w (pE 9 1 A c (xs++v) (n+1) B w):=by
 obtain⟨i0,hi,hz0,hz1,hz2⟩:=info_parts Tryz.infoStr9
 have VC:=hid (ku hv)
 have HX:=hid hx
 have HL:=hid hl
 have V1:=hid hv1
 have LV:Hid (au w 0 9 (some ⟨gv,0,none⟩) v):=hid (by have q:=au.iy (B:=0) hv;exact q)
 rcases h.parts with⟨rfl,rfl⟩ | ⟨g,rfl,c0,own⟩
 ·clear h hx hl hv hv1
  go_enter func150,ntmps150
  go_wp2_with (at_builtin;refine jy _ rfl _ _ 62 rfl w.heap.size 9 i0 _ 1 16 underlying62 hi hz0 hz1 hz2 rfl 0 0 A 0 [] rfl rfl au.nil (by simp) ⟨gv,0,none⟩ 1 1 v rfl (by rw [HL.out]) VC.out V1.out (by omega) (by unfold maxLen;omega) (by omega) (Nat.le_refl _) ?_)
  intro v' w1 hown hgrow
  obtain⟨A',c',rfl⟩:=aD hown
  obtain⟨g,rfl,hg⟩:=bO hown (by omega)
  have hr:=(aO hown).2
  have HO:=hid hown
  have HG:=hid hgrow
  have HGB:=hid hg
  clear hown hgrow hg
  go_wp2
  go_ret
  have xn:xs=[]:=List.length_eq_zero_iff.1 (by have:=HX.out;omega)
  subst xn
  exact⟨_,c',rfl,.inr ⟨g,rfl,dA HO.out hB⟩,HG.out,.inr ⟨g,aY (by omega),HGB.out⟩⟩
 ·have OW:=hid own
  have nc:=(aO own).2
  have nci:(n:Int)≤(c:Int):=by omega
  clear h hx hl hv hv1 own
  rcases Nat.eq_or_lt_of_le nc with q0 | q0
  ·subst q0
   go_enter func150,ntmps150
   go_wp2_with (at_builtin;refine bL _ rfl _ _ 62 rfl B 9 i0 _ 1 16 underlying62 hi hz0 hz1 hz2 rfl (by decide) _ n xs rfl OW.out 0 (some ⟨gv,0,none⟩) 1 1 v 9 rfl (by rw [HL.out]) LV.out V1.out (by unfold maxLen;omega) (by omega) hB ?_)
   intro v' w1 hown hgrow hb
   obtain⟨A',c',rfl⟩:=aD hown
   obtain⟨g',rfl,hg⟩:=bO hown (by omega)
   have hr:=(aO hown).2
   have HO:=hid hown
   have HG:=hid hgrow
   have HB:=hid hb
   clear hown hgrow hg hb
   go_wp2
   go_ret
   refine⟨_,c',rfl,.inr ⟨g',rfl,HO.out⟩,by rw [aY c0];exact HG.out,?_⟩
   rw [aY c0,aY (by omega)]
   rcases HB.out with q | q
   ·left;exact q
   ·right;exact⟨_,q,Nat.le_refl _⟩
  ·have hb4:¬ (c=n):=by omega
   have hb5:¬ (c≤n):=by omega
   go_enter func150,ntmps150
   go_wp2_with (at_builtin;refine bL _ rfl _ _ 62 rfl B 9 i0 _ 1 16 underlying62 hi hz0 hz1 hz2 rfl (by decide) _ n xs rfl OW.out 0 (some ⟨gv,0,none⟩) 1 1 v 9 rfl (by rw [HL.out]) LV.out V1.out (by unfold maxLen;omega) (by omega) hB ?_)
   intro v' w1 hown hgrow hb
   obtain⟨A',c',rfl⟩:=aD hown
   obtain⟨g',rfl,hg⟩:=bO hown (by omega)
   have hr:=(aO hown).2
   have HO:=hid hown
   have HG:=hid hgrow
   have HB:=hid hb
   clear hown hgrow hg hb
   go_wp2
   go_ret
   refine⟨_,c',rfl,.inr ⟨g',rfl,HO.out⟩,by rw [aY c0];exact HG.out,?_⟩
   rw [aY c0,aY (by omega)]
   rcases HB.out with q | q
   ·left;exact q
   ·right;exact⟨_,q,Nat.le_refl _⟩
theorem AR {n c gv g p B:Nat} {xs v:List Value} {w:World} (own:w.ownsRow B 9 1 (.slice (some ⟨g,0,none⟩) n c) n xs) (h1:∀ u∈xs,u.oneCell'=true) (hv:w.heap[gv]?=some (.cells v.toArray 9 (0,0))) (hl:v.length=1) (hv1:∀ u∈v,u.oneCell'=true) (hp:p<n) (hne:gv≠g) (hs:n≤1000) (hB:B≤w.heap.size) :
  Calls prog 150 #[.slice (some ⟨g,0,none⟩) n c,.int .i64 (p:Int),.slice (some ⟨gv,0,none⟩) 1 1] w (pE 9 1 (some ⟨g,0,none⟩) c (xs.take (p)++v++xs.drop (p)) (n+1) B w):=by
 obtain⟨i0,hi,hz0,hz1,hz2⟩:=info_parts Tryz.infoStr9
 have VC:=hid (ku hv)
 have HX:Hid (xs.length=n * 1):=hid own.1
 have HL:=hid hl
 have V1:=hid hv1
 have H1:=hid h1
 have OW:=hid own
 obtain⟨cur,_,gb,nc,cm,cs,_⟩:=fB own
 have VL:v.length=1 * 1:=hl
 have hz9:¬ ((p:Int)=(n:Int)):=by omega
 have mixed:prog.follows .mixedOrders=true:=by kernel_rfl
 have hb3:(p:Int)≤(n:Int)+1:=by omega
 obtain⟨CS,hCS⟩:=nm (xs.take (p)++v++xs.drop (p))
 have MC:=hid hCS
 rw [hCS]
 have hpn:p≤n:=by omega
 have hpc:¬ (c=p):=by omega
 have hpi:(p:Int)≤(n:Int):=by omega
 have hw1:IntKind.i64.wrap ((p:Int)+1)=(p:Int)+1:=by rw [IntKind.wrap_i64];omega
 have hw2:IntKind.i64.wrap ((n:Int)+1)=(n:Int)+1:=by rw [IntKind.wrap_i64];omega
 have hb1:(0:Int)≤(p:Int)+1:=by omega
 have htn:((p:Int)+1).toNat=p+1:=by omega
 have Ka:((n:Int)+1).toNat=n+1:=by omega
 have hpm:p≤xs.length:=by rw [HX.out];omega
 have DC:Hid (∀ j u,(xs.drop (p))[j]?=some u→w.cell? ((⟨g,p,none⟩:Addr).add j)=some u):=hid fun j u hj=>by
  rw [Addr.add_lit]
  rw [List.getElem?_drop] at hj
  exact df OW.out hj
 have DL:Hid ((xs.drop (p)).length=(n - p) * 1):=hid (by rw [List.length_drop,HX.out];omega)
 have D1:Hid (∀ u∈xs.drop (p),u.oneCell'=true):=hid fun u hu=>H1.out u (List.mem_of_mem_drop hu)
 by_cases room:n+1≤c
 ·obtain⟨ys,hy,ow2⟩:=vF own room
  have xg:=hid (b_ ow2)
  have hg1:¬ ((c:Int)<(n:Int)+1):=by omega
  have J9:¬ (c=p+1):=by omega
  have J_:(p:Int)+1≤(n:Int)+1:=by omega
  have hov:∀ lb cb,(callFunc 166 #[.slice (some ⟨gv,0,none⟩) 1 1,.slice (some ⟨g,(p+1),none⟩) lb cb]).run prog w=.ok (.value (.bool false)) w:=fun lb cb=>by
   rw [run_callFunc_extern func166 (by kernel_rfl) (by kernel_rfl) (by kernel_rfl) (e:=Extern.SlicesOverlaps.overlaps #[62,62] #[4]) (by kernel_rfl),
    Lib.run_overlaps_apart w 62 4 9 underlying62 1 (fun w=>by simp [sizeOf,typeInfo,hi,hz1]) ⟨gv,0,none⟩ ⟨g,(p+1),none⟩ 1 1 lb cb hne 9 9 v.toArray.size cur.size (j6 hv) (j6 gb) (by rw [cs];omega) (af hv _) (af hv _)]
   rfl
  obtain⟨w1,mZ⟩:=nm (w.drew.setCells g ((p+1)) (xs.drop (p)))
  have hcp1:∀ ty dc sc,(Builtin.copy_ #[62,62] ty #[.slice (some ⟨g,(p+1),none⟩) (n - p) dc,.slice (some ⟨g,p,none⟩) (n+1 - p) sc]).run prog w.drew=.ok (goInt ((n - p:Nat):Int)) w1:=fun ty dc sc=>by
   rw [← mZ]
   have q:=dQ (P:=prog) (dT:=62) (sT:=62) ty underlying62 hi hz1 xg.out (p:=p+1) (m:=n - p) (dc:=dc) (sl:=n+1 - p) (sc:=sc) (a:=⟨g,p,none⟩) DL.out (by simp only [Nat.min_def];split <;> omega) (by omega) (fun j u hj=>DC.out j u hj) D1.out
   rw [Nat.add_sub_add_right] at q
   rw [Nat.mul_one] at q
   exact q
  have Gg:Hid (w1.ownsRow B 9 1 (.slice (some ⟨g,0,none⟩) (n+1) c) (n+1) (splice (xs++ys) ((p+1)) (xs.drop (p)))):=hid (by
   rw [← mZ]
   exact aV xg.out (by rw [List.length_append,hy,DL.out,HX.out];omega))
  have I9:Hid (∀ j u,v[j]?=some u→w1.cell? ((⟨gv,0,none⟩:Addr).add j)=some u):=hid fun j u hu=>by
   rw [dP,← mZ,World.cell?_setCells_out g _ _ _ _ (fun q _=>absurd q hne)]
   have:=VC.out j u hu
   rw [dP] at this
   exact this
  obtain⟨w2,iE⟩:=nm (w1.setCells g (p) v)
  have hcp2:∀ ty dc,(Builtin.copy_ #[62,62] ty #[.slice (some ⟨g,p,none⟩) (n+1 - p) dc,.slice (some ⟨gv,0,none⟩) 1 1]).run prog w1=.ok (goInt 1) w2:=fun ty dc=>by
   rw [← iE]
   have q:=dQ (P:=prog) (dT:=62) (sT:=62) ty underlying62 hi hz1 Gg.out (p:=p) (m:=1) (dc:=dc) (sl:=1) (sc:=1) (a:=⟨gv,0,none⟩) VL (by simp only [Nat.min_def];split <;> omega) (by omega) I9.out V1.out
   rw [Nat.mul_one] at q
   exact q
  have FIN:Hid (w2.ownsRow B 9 1 (.slice (some ⟨g,0,none⟩) (n+1) c) (n+1) CS):=hid (by
   have q:=aV (o:=p) (vs:=v) Gg.out (by rw [Gg.out.1,HL.out];omega)
   rw [iE] at q
   have e:=uS (xs:=xs) (ys:=ys) (v:=v) (k:=1) (n:=n) (p:=p) HX.out (by rw [hy]) HL.out hpn
   simp only [Nat.mul_one] at e
   rw [e,hCS] at q
   exact q)
  have GR:Hid (w.grownBy w2 (some g)):=hid (by
   rw [← iE,← mZ]
   exact jo (dM (aR g _ _ _) (aR g _ _ _)))
  clear own h1 hv hl hv1 gb cs cm hy ow2 VL mZ iE hpm hne hCS
  go_enter func150,ntmps150
  go_wp2_with (simp only [hov])
  go_region_law_o (refine step_copy_runI rfl _ _ 62 62 rfl _ _ (by simp [Act.eval,Act.put]) (by simp [Act.eval,Act.put]) (hcp1 _ _ _) ?_)
  go_wp2_with (at_builtin;refine wpList_copy_runI _ rfl _ _ 62 62 rfl _ _ rfl rfl (hcp2 _ _) ?_)
  go_ret
  exact⟨_,c,rfl,.inr ⟨g,rfl,FIN.out⟩,by rw [aY (by omega)];exact GR.out,.inl rfl⟩
 ·obtain rfl:c=n:=by omega
  obtain⟨c',zs,w1,hzl,hc',hra,KZ,hb1'⟩:=jT (P:=prog) (t:=62) (tx:=3) (kx:=.i64) (kd:=.i64) 3 underlying62 underlying3 hi hz0 hz1 rfl (by decide) (gW own hpn) (m:=c+1 - p) (base:=w.heap.size) (by omega) (by omega) (by unfold maxLen;omega) (by rw [hz2];omega) (Nat.le_refl _)
  rw [show p+(c+1 - p)=c+1 by omega] at hc' hra KZ
  rw [show ((c+1 - p:Nat):Int)=(c:Int)+1 - (p:Int) by omega] at hra
  have hg1:(c:Int)<(c:Int)+1:=by omega
  have hw3:IntKind.i64.wrap ((c:Int)+1 - (p:Int))=(c:Int)+1 - (p:Int):=by rw [IntKind.wrap_i64];omega
  have J9:¬ (c'=p+1):=by omega
  have hpc2:¬ (c'=p):=by omega
  have J_:(p:Int)+1≤(c:Int)+1:=by omega
  have sJ:=hid KZ
  have HB1:=hid hb1'
  have ne1:w.heap.size≠g:=by have:=lt_of_block gb;omega
  have ne2:gv≠w.heap.size:=by have:=lt_of_block hv;omega
  have I9:Hid (∀ j u,v[j]?=some u→w1.cell? ((⟨gv,0,none⟩:Addr).add j)=some u):=hid fun j u hu=>by
   rw [dP]
   have:=VC.out j u hu
   rw [dP] at this
   rw [HB1.out.cell (p:=⟨gv,j,none⟩) (lt_of_block hv)]
   exact this
  obtain⟨w2,iE⟩:=nm (w1.setCells w.heap.size (p) v)
  have hcp1:∀ ty dc,(Builtin.copy_ #[62,62] ty #[.slice (some ⟨w.heap.size,p,none⟩) (c+1 - p) dc,.slice (some ⟨gv,0,none⟩) 1 1]).run prog w1=.ok (goInt 1) w2:=fun ty dc=>by
   rw [← iE]
   have q:=dQ (P:=prog) (dT:=62) (sT:=62) ty underlying62 hi hz1 sJ.out (p:=p) (m:=1) (dc:=dc) (sl:=1) (sc:=1) (a:=⟨gv,0,none⟩) VL (by simp only [Nat.min_def];split <;> omega) (by omega) I9.out V1.out
   rw [Nat.mul_one] at q
   exact q
  have TL:Hid ((xs.take (p)++zs).length=(c+1) * 1):=hid (by have:=sJ.out.1;simpa using this)
  have xg:Hid (w2.drew.ownsRow w.heap.size 9 1 (.slice (some ⟨w.heap.size,0,none⟩) (c+1) c') (c+1) (splice (xs.take (p)++zs) (p) v)):=hid (by
   rw [← iE]
   have q:=sJ.out
   rw [Nat.mul_one] at q
   exact b_ (aV q (by rw [TL.out,HL.out];omega)))
  have DC2:Hid (∀ j u,(xs.drop (p))[j]?=some u→w2.drew.cell? ((⟨g,p,none⟩:Addr).add j)=some u):=hid fun j u hj=>by
   have q:=DC.out j u hj
   rw [Addr.add_lit] at q ⊢
   show w2.cell? _=_
   rw [← iE,World.cell?_setCells_out w.heap.size _ _ _ _ (fun q _=>absurd q (Ne.symm ne1)),HB1.out.cell (p:=⟨g,p+j,none⟩) (lt_of_block gb)]
   exact q
  obtain⟨w3,qH⟩:=nm (w2.drew.setCells w.heap.size ((p+1)) (xs.drop (p)))
  have hcp2:∀ ty dc sc,(Builtin.copy_ #[62,62] ty #[.slice (some ⟨w.heap.size,(p+1),none⟩) (c - p) dc,.slice (some ⟨g,p,none⟩) (c - p) sc]).run prog w2.drew=.ok (goInt ((c - p:Nat):Int)) w3:=fun ty dc sc=>by
   rw [← qH]
   have q:=dQ (P:=prog) (dT:=62) (sT:=62) ty underlying62 hi hz1 xg.out (p:=p+1) (m:=c - p) (dc:=dc) (sl:=c - p) (sc:=sc) (a:=⟨g,p,none⟩) DL.out (by simp only [Nat.min_def];split <;> omega) (by omega) (fun j u hj=>DC2.out j u hj) D1.out
   rw [Nat.add_sub_add_right] at q
   rw [Nat.mul_one] at q
   exact q
  have FIN:Hid (w3.ownsRow w.heap.size 9 1 (.slice (some ⟨w.heap.size,0,none⟩) (c+1) c') (c+1) CS):=hid (by
   have q:=aV (o:=(p+1)) (vs:=xs.drop (p)) xg.out (by rw [xg.out.1,DL.out];omega)
   rw [qH] at q
   have e:=gV (xs:=xs) (zs:=zs) (v:=v) (k:=1) (n:=c) (p:=p) HX.out hzl HL.out hpn
   simp only [Nat.mul_one] at e
   rw [e,hCS] at q
   exact q)
  have GR:Hid (w.grownBy w3 (some g)):=hid (by
   have a1:Below w.heap.size w w3:=by
    rw [← qH,← iE]
    exact ((HB1.out.grown (aR _ _ _ _) HB1.out.size (fun k e=>by injection e with e;omega)).drew).grown (aR _ _ _ _) (by have:=HB1.out.size;have:=(iG w.heap.size v (p) w1).2.2.2;simp only [World.size_drew];omega) (fun k e=>by injection e with e;omega)
   exact eP a1)
  clear own h1 hv hl hv1 gb cs nc cm VL iE qH hpm hne hCS KZ hb1' hzl ne1 ne2
  go_enter func150,ntmps150
  go_wp2_with (at_builtin;refine kN _ rfl _ _ 62 3 rfl _ _ rfl rfl (hra) ?_)
  go_wp2_with (at_builtin;refine wpList_copy_runI _ rfl _ _ 62 62 rfl _ _ rfl rfl (hcp1 _ _) ?_)
  go_region_law_o (refine step_copy_runI rfl _ _ 62 62 rfl _ _ (by simp [Act.eval,Act.put]) (by simp [Act.eval,Act.put]) (hcp2 _ _ _) ?_)
  go_wp2
  go_ret
  exact⟨_,c',rfl,.inr ⟨_,rfl,dA FIN.out hB⟩,by rw [aY (by omega)];exact GR.out,.inr ⟨_,aY (by omega),Nat.le_refl _⟩⟩
theorem GQ {A:Option Addr} {n c gv p B:Nat} {xs v:List Value} {w:World} (h:dZ w B 9 1 A n c xs) (hx:xs.length=n * 1) (h1:∀ u∈xs,u.oneCell'=true) (hv:w.heap[gv]?=some (.cells v.toArray 9 (0,0))) (hl:v.length=1) (hv1:∀ u∈v,u.oneCell'=true) (hp:p≤n) (hne:oJ A c≠some gv) (hs:n≤1000) (hB:B≤w.heap.size) :
  Calls prog 150 #[.slice A n c,.int .i64 (p:Int),.slice (some ⟨gv,0,none⟩) 1 1] w (pE 9 1 A c (xs.take (p)++v++xs.drop (p)) (n+1) B w):=by
 rcases Nat.eq_or_lt_of_le hp with q | q
 ·subst q
  have e:xs.take (p)++v++xs.drop (p)=xs++v:=by rw [List.take_of_length_le (by omega),List.drop_eq_nil_of_le (by omega),List.append_nil]
  rw [e]
  exact AQ h hx hv hl hv1 hs hB
 ·rcases h.parts with⟨r,_⟩ | ⟨g,rfl,c0,own⟩
  ·omega
  ·exact AR own h1 hv hl hv1 q (fun e=>hne (by rw [aY c0,e])) hs hB
end
section
open Go.RowKit Go.Lib
theorem Gv {n c g p B:Nat} {xs:List Value} {w:World} (own:w.ownsRow B 61 2 (.slice (some ⟨g,0,none⟩) (n+1) c) (n+1) xs) (h1:∀ u∈xs,u.oneCell'=true) (hp:p≤n) (hs:n≤1000) :
  Calls prog 104 #[.slice (some ⟨g,0,none⟩) (n+1) c,.int .i64 (p:Int),.int .i64 ((p:Int)+1)] w (pE 61 2 (some ⟨g,0,none⟩) c (xs.take (p * 2)++xs.drop ((p+1) * 2)) n B w):=by
 obtain⟨i0,hi,hz0,hz1,hz2⟩:=info_parts Tryz.infoLi9
 have HX:Hid (xs.length=(n+1) * 2):=hid own.1
 have H1:=hid h1
 have OW:=hid own
 obtain⟨cur,_,gb,nc,cm,cs,_⟩:=fB own
 have mixed:prog.follows .mixedOrders=true:=by kernel_rfl
 have hz9:¬ ((p:Int)=(p:Int)+1):=by omega
 have hpi:(p:Int)+1≤(n:Int)+1:=by omega
 have hpj:(p:Int)≤(n:Int)+1:=by omega
 have hpk:(p:Int)≤(n:Int):=by omega
 have hnci:(n:Int)+1≤(c:Int):=by omega
 have hnc2:(n:Int)≤(c:Int):=by omega
 have hb1:(0:Int)≤(p:Int)+1:=by omega
 have hb2:(p:Int)≤(p:Int)+1:=by omega
 have htn:((p:Int)+1).toNat=p+1:=by omega
 have Ka:((n:Int)+1).toNat=n+1:=by omega
 have hpc:¬ (c=p):=by omega
 have hcn:¬ (c=n):=by omega
 have hpcn:p≤c:=by omega
 have hncn:n≤c:=by omega
 have hnp:¬ (n+1=p):=by omega
 obtain⟨CS,hCS⟩:=nm (xs.take (p * 2)++xs.drop ((p+1) * 2))
 rw [hCS]
 have DL:Hid ((xs.drop ((p+1) * 2)).length=(n - p) * 2):=hid (by rw [List.length_drop,HX.out];omega)
 have D1:Hid (∀ u∈xs.drop ((p+1) * 2),u.oneCell'=true):=hid fun u hu=>H1.out u (List.mem_of_mem_drop hu)
 obtain⟨w1,hw1⟩:=nm (w.drew.setCells g (p * 2) (xs.drop ((p+1) * 2)))
 have sJ:Hid (w1.ownsRow B 61 2 (.slice (some ⟨g,0,none⟩) (n+1) c) (n+1) (splice xs (p * 2) (xs.drop ((p+1) * 2)))):=hid (by
  rw [← hw1]
  exact aV (b_ OW.out) (by rw [DL.out,HX.out];omega))
 have hcl:∃ cs:List Value,cs.length=1 * 2∧∀ ty,(Builtin.clear_ #[23] ty #[.slice (some ⟨g,n * 2,none⟩) 1 (c - n)]).run prog w1=.ok (.tuple #[]) (w1.setCells g (n * 2) cs):=by
  have q:=fun ty=>kY (P:=prog) (k:=2) (t:=23) (z:=.agg #[.int .u64 0,.string ⟨#[]⟩]) (p:=n) (m:=1) (sc:=c - n) ty underlying23 (fun w=>zeroValue61 w) rfl (by decide) sJ.out
  skip
  exact⟨_,(q 0).choose_spec.1,fun ty=>by obtain⟨cs,h1,h2⟩:=q ty;exact (q 0).choose_spec.2⟩
 obtain⟨Dp,qG,hcr⟩:=hcl
 obtain⟨w2,hw2⟩:=nm (w1.setCells g (n * 2) Dp)
 rw [hw2] at hcr
 have FIN:Hid (w2.ownsRow B 61 2 (.slice (some ⟨g,0,none⟩) n c) n CS):=hid (by
  have q:=gW (aV (o:=n * 2) (vs:=Dp) sJ.out (by rw [sJ.out.1,qG];omega)) (m:=n) (Nat.le_succ n)
  rw [hw2] at q
  have e:=uH (xs:=xs) (k:=2) (n:=n+1) (p:=p) HX.out (by omega)
  skip
  rw [Nat.add_sub_cancel] at e
  have e2:(splice (splice xs (p * 2) (xs.drop ((p+1) * 2))) (n * 2) Dp).take (n * 2)=CS:=by
   rw [← hCS,← e]
   unfold splice
   skip
   rw [List.take_left' (by rw [List.length_take];have:=sJ.out.1;unfold splice at this;rw [this];omega)]
  rw [e2] at q
  exact q)
 have GR:Hid (w.grownBy w2 (some g)):=hid (by
  rw [← hw2,← hw1]
  exact jo (dM (aR g _ _ _) (aR g _ _ _)))
 by_cases last:c=p+1
 ·obtain rfl:n=p:=by omega
  subst last
  have hnil:xs.drop ((n+1) * 2)=[]:=List.drop_eq_nil_of_le (by rw [HX.out];omega)
  have hra:∀ ty,(Builtin.append_ #[23,23] ty #[.slice (some ⟨g,0,none⟩) n (n+1),.slice (some ⟨g,0,none⟩) 0 0]).run prog w.drew=.ok (.slice (some ⟨g,0,none⟩) n (n+1)) w1:=fun ty=>by
   rw [← hw1,hnil]
   have q:=fE (P:=prog) (t:=23) ty underlying23 hi hz1 (p:=n) (m:=0) (sc:=0) (a:=⟨g,0,none⟩) (cs:=[]) (b_ (by have q:=gW OW.out (m:=n) (by omega);exact q)) (by simp) (by simp) (by simp)
   skip
   exact q
  rw [Nat.add_sub_cancel_left] at hcr
  clear own h1 gb cs cm hCS hw1 hw2 qG
  go_enter func104,ntmps104
  go_wp2_with fail
  go_region_law_o (refine jK rfl _ _ 23 23 rfl (by simp [Act.eval,Act.put]) (by simp [Act.eval,Act.put]) (hra _) ?_)
  go_wp2_with (refine dI rfl _ 23 rfl _ rfl (hcr _) ?_)
  go_ret
  exact⟨_,n+1,rfl,.inr ⟨g,rfl,FIN.out⟩,by rw [aY (by omega)];exact GR.out,.inl rfl⟩
 ·have hra:∀ ty,(Builtin.append_ #[23,23] ty #[.slice (some ⟨g,0,none⟩) p c,.slice (some ⟨g,(p+1) * 2,none⟩) (n - p) (c - (p+1))]).run prog w.drew=.ok (.slice (some ⟨g,0,none⟩) n c) w1:=fun ty=>by
   rw [← hw1]
   have q:=fE (P:=prog) (t:=23) ty underlying23 hi hz1 (p:=p) (m:=n - p) (sc:=(c - (p+1))) (a:=⟨g,(p+1) * 2,none⟩) (cs:=xs.drop ((p+1) * 2)) (b_ (by have q:=gW OW.out (m:=n) (by omega);rw [show n=p+(n - p) by omega] at q;exact q)) DL.out (fun j u hj=>by rw [Addr.add_lit];rw [List.getElem?_drop] at hj;exact df (b_ OW.out) hj) D1.out
   rw [show p+(n - p)=n by omega] at q
   exact q
  clear own h1 gb cs cm hCS hw1 hw2 qG
  go_enter func104,ntmps104
  go_wp2_with fail
  go_region_law_o (refine jK rfl _ _ 23 23 rfl (by simp [Act.eval,Act.put]) (by simp [Act.eval,Act.put]) (hra _) ?_)
  go_wp2_with (refine dI rfl _ 23 rfl _ rfl (hcr _) ?_)
  go_ret
  exact⟨_,c,rfl,.inr ⟨g,rfl,FIN.out⟩,by rw [aY (by omega)];exact GR.out,.inl rfl⟩
theorem Gu {n c g p B:Nat} {xs:List Value} {w:World} (own:w.ownsRow B 64 7 (.slice (some ⟨g,0,none⟩) (n+1) c) (n+1) xs) (h1:∀ u∈xs,u.oneCell'=true) (hp:p≤n) (hs:n≤1000) :
  Calls prog 112 #[.slice (some ⟨g,0,none⟩) (n+1) c,.int .i64 (p:Int),.int .i64 ((p:Int)+1)] w (pE 64 7 (some ⟨g,0,none⟩) c (xs.take (p * 7)++xs.drop ((p+1) * 7)) n B w):=by
 obtain⟨i0,hi,hz0,hz1,hz2⟩:=info_parts Tryz.infoTk9
 have HX:Hid (xs.length=(n+1) * 7):=hid own.1
 have H1:=hid h1
 have OW:=hid own
 obtain⟨cur,_,gb,nc,cm,cs,_⟩:=fB own
 have mixed:prog.follows .mixedOrders=true:=by kernel_rfl
 have hz9:¬ ((p:Int)=(p:Int)+1):=by omega
 have hpi:(p:Int)+1≤(n:Int)+1:=by omega
 have hpj:(p:Int)≤(n:Int)+1:=by omega
 have hpk:(p:Int)≤(n:Int):=by omega
 have hnci:(n:Int)+1≤(c:Int):=by omega
 have hnc2:(n:Int)≤(c:Int):=by omega
 have hb1:(0:Int)≤(p:Int)+1:=by omega
 have hb2:(p:Int)≤(p:Int)+1:=by omega
 have htn:((p:Int)+1).toNat=p+1:=by omega
 have Ka:((n:Int)+1).toNat=n+1:=by omega
 have hpc:¬ (c=p):=by omega
 have hcn:¬ (c=n):=by omega
 have hpcn:p≤c:=by omega
 have hncn:n≤c:=by omega
 have hnp:¬ (n+1=p):=by omega
 obtain⟨CS,hCS⟩:=nm (xs.take (p * 7)++xs.drop ((p+1) * 7))
 rw [hCS]
 have DL:Hid ((xs.drop ((p+1) * 7)).length=(n - p) * 7):=hid (by rw [List.length_drop,HX.out];omega)
 have D1:Hid (∀ u∈xs.drop ((p+1) * 7),u.oneCell'=true):=hid fun u hu=>H1.out u (List.mem_of_mem_drop hu)
 obtain⟨w1,hw1⟩:=nm (w.drew.setCells g (p * 7) (xs.drop ((p+1) * 7)))
 have sJ:Hid (w1.ownsRow B 64 7 (.slice (some ⟨g,0,none⟩) (n+1) c) (n+1) (splice xs (p * 7) (xs.drop ((p+1) * 7)))):=hid (by
  rw [← hw1]
  exact aV (b_ OW.out) (by rw [DL.out,HX.out];omega))
 have hcl:∃ cs:List Value,cs.length=1 * 7∧∀ ty,(Builtin.clear_ #[24] ty #[.slice (some ⟨g,n * 7,none⟩) 1 (c - n)]).run prog w1=.ok (.tuple #[]) (w1.setCells g (n * 7) cs):=by
  have q:=fun ty=>kY (P:=prog) (k:=7) (t:=24) (z:=.agg #[.int .u64 0,.int .u64 0,.string ⟨#[]⟩,.bool false,.float .f64 0,.float .f64 0,.slice none 0 0]) (p:=n) (m:=1) (sc:=c - n) ty underlying24 (fun w=>zeroValue64 w) rfl (by decide) sJ.out
  skip
  exact⟨_,(q 0).choose_spec.1,fun ty=>by obtain⟨cs,h1,h2⟩:=q ty;exact (q 0).choose_spec.2⟩
 obtain⟨Dp,qG,hcr⟩:=hcl
 obtain⟨w2,hw2⟩:=nm (w1.setCells g (n * 7) Dp)
 rw [hw2] at hcr
 have FIN:Hid (w2.ownsRow B 64 7 (.slice (some ⟨g,0,none⟩) n c) n CS):=hid (by
  have q:=gW (aV (o:=n * 7) (vs:=Dp) sJ.out (by rw [sJ.out.1,qG];omega)) (m:=n) (Nat.le_succ n)
  rw [hw2] at q
  have e:=uH (xs:=xs) (k:=7) (n:=n+1) (p:=p) HX.out (by omega)
  skip
  rw [Nat.add_sub_cancel] at e
  have e2:(splice (splice xs (p * 7) (xs.drop ((p+1) * 7))) (n * 7) Dp).take (n * 7)=CS:=by
   rw [← hCS,← e]
   unfold splice
   skip
   rw [List.take_left' (by rw [List.length_take];have:=sJ.out.1;unfold splice at this;rw [this];omega)]
  rw [e2] at q
  exact q)
 have GR:Hid (w.grownBy w2 (some g)):=hid (by
  rw [← hw2,← hw1]
  exact jo (dM (aR g _ _ _) (aR g _ _ _)))
 by_cases last:c=p+1
 ·obtain rfl:n=p:=by omega
  subst last
  have hnil:xs.drop ((n+1) * 7)=[]:=List.drop_eq_nil_of_le (by rw [HX.out];omega)
  have hra:∀ ty,(Builtin.append_ #[24,24] ty #[.slice (some ⟨g,0,none⟩) n (n+1),.slice (some ⟨g,0,none⟩) 0 0]).run prog w.drew=.ok (.slice (some ⟨g,0,none⟩) n (n+1)) w1:=fun ty=>by
   rw [← hw1,hnil]
   have q:=fE (P:=prog) (t:=24) ty underlying24 hi hz1 (p:=n) (m:=0) (sc:=0) (a:=⟨g,0,none⟩) (cs:=[]) (b_ (by have q:=gW OW.out (m:=n) (by omega);exact q)) (by simp) (by simp) (by simp)
   skip
   exact q
  rw [Nat.add_sub_cancel_left] at hcr
  clear own h1 gb cs cm hCS hw1 hw2 qG
  go_enter func112,ntmps112
  go_wp2_with fail
  go_region_law_o (refine jK rfl _ _ 24 24 rfl (by simp [Act.eval,Act.put]) (by simp [Act.eval,Act.put]) (hra _) ?_)
  go_wp2_with (refine dI rfl _ 24 rfl _ rfl (hcr _) ?_)
  go_ret
  exact⟨_,n+1,rfl,.inr ⟨g,rfl,FIN.out⟩,by rw [aY (by omega)];exact GR.out,.inl rfl⟩
 ·have hra:∀ ty,(Builtin.append_ #[24,24] ty #[.slice (some ⟨g,0,none⟩) p c,.slice (some ⟨g,(p+1) * 7,none⟩) (n - p) (c - (p+1))]).run prog w.drew=.ok (.slice (some ⟨g,0,none⟩) n c) w1:=fun ty=>by
   rw [← hw1]
   have q:=fE (P:=prog) (t:=24) ty underlying24 hi hz1 (p:=p) (m:=n - p) (sc:=(c - (p+1))) (a:=⟨g,(p+1) * 7,none⟩) (cs:=xs.drop ((p+1) * 7)) (b_ (by have q:=gW OW.out (m:=n) (by omega);rw [show n=p+(n - p) by omega] at q;exact q)) DL.out (fun j u hj=>by rw [Addr.add_lit];rw [List.getElem?_drop] at hj;exact df (b_ OW.out) hj) D1.out
   rw [show p+(n - p)=n by omega] at q
   exact q
  clear own h1 gb cs cm hCS hw1 hw2 qG
  go_enter func112,ntmps112
  go_wp2_with fail
  go_region_law_o (refine jK rfl _ _ 24 24 rfl (by simp [Act.eval,Act.put]) (by simp [Act.eval,Act.put]) (hra _) ?_)
  go_wp2_with (refine dI rfl _ 24 rfl _ rfl (hcr _) ?_)
  go_ret
  exact⟨_,c,rfl,.inr ⟨g,rfl,FIN.out⟩,by rw [aY (by omega)];exact GR.out,.inl rfl⟩
theorem Gw {n c g p B:Nat} {xs:List Value} {w:World} (own:w.ownsRow B 9 1 (.slice (some ⟨g,0,none⟩) (n+1) c) (n+1) xs) (h1:∀ u∈xs,u.oneCell'=true) (hp:p≤n) (hs:n≤1000) :
  Calls prog 151 #[.slice (some ⟨g,0,none⟩) (n+1) c,.int .i64 (p:Int),.int .i64 ((p:Int)+1)] w (pE 9 1 (some ⟨g,0,none⟩) c (xs.take (p)++xs.drop ((p+1))) n B w):=by
 obtain⟨i0,hi,hz0,hz1,hz2⟩:=info_parts Tryz.infoStr9
 have HX:Hid (xs.length=(n+1) * 1):=hid own.1
 have H1:=hid h1
 have OW:=hid own
 obtain⟨cur,_,gb,nc,cm,cs,_⟩:=fB own
 have mixed:prog.follows .mixedOrders=true:=by kernel_rfl
 have hz9:¬ ((p:Int)=(p:Int)+1):=by omega
 have hpi:(p:Int)+1≤(n:Int)+1:=by omega
 have hpj:(p:Int)≤(n:Int)+1:=by omega
 have hpk:(p:Int)≤(n:Int):=by omega
 have hnci:(n:Int)+1≤(c:Int):=by omega
 have hnc2:(n:Int)≤(c:Int):=by omega
 have hb1:(0:Int)≤(p:Int)+1:=by omega
 have hb2:(p:Int)≤(p:Int)+1:=by omega
 have htn:((p:Int)+1).toNat=p+1:=by omega
 have Ka:((n:Int)+1).toNat=n+1:=by omega
 have hpc:¬ (c=p):=by omega
 have hcn:¬ (c=n):=by omega
 have hpcn:p≤c:=by omega
 have hncn:n≤c:=by omega
 have hnp:¬ (n+1=p):=by omega
 obtain⟨CS,hCS⟩:=nm (xs.take (p)++xs.drop ((p+1)))
 rw [hCS]
 have DL:Hid ((xs.drop ((p+1))).length=(n - p) * 1):=hid (by rw [List.length_drop,HX.out];omega)
 have D1:Hid (∀ u∈xs.drop ((p+1)),u.oneCell'=true):=hid fun u hu=>H1.out u (List.mem_of_mem_drop hu)
 obtain⟨w1,hw1⟩:=nm (w.drew.setCells g (p) (xs.drop ((p+1))))
 have sJ:Hid (w1.ownsRow B 9 1 (.slice (some ⟨g,0,none⟩) (n+1) c) (n+1) (splice xs (p) (xs.drop ((p+1))))):=hid (by
  rw [← hw1]
  exact aV (b_ OW.out) (by rw [DL.out,HX.out];omega))
 have hcl:∃ cs:List Value,cs.length=1 * 1∧∀ ty,(Builtin.clear_ #[62] ty #[.slice (some ⟨g,n,none⟩) 1 (c - n)]).run prog w1=.ok (.tuple #[]) (w1.setCells g (n) cs):=by
  have q:=fun ty=>kY (P:=prog) (k:=1) (t:=62) (z:=.string ⟨#[]⟩) (p:=n) (m:=1) (sc:=c - n) ty underlying62 (fun w=>zeroValue9 w) rfl (by decide) sJ.out
  try simp only [Nat.mul_one] at q
  exact⟨_,(q 0).choose_spec.1,fun ty=>by obtain⟨cs,h1,h2⟩:=q ty;exact (q 0).choose_spec.2⟩
 obtain⟨Dp,qG,hcr⟩:=hcl
 obtain⟨w2,hw2⟩:=nm (w1.setCells g (n) Dp)
 rw [hw2] at hcr
 have FIN:Hid (w2.ownsRow B 9 1 (.slice (some ⟨g,0,none⟩) n c) n CS):=hid (by
  have q:=gW (aV (o:=n) (vs:=Dp) sJ.out (by rw [sJ.out.1,qG];omega)) (m:=n) (Nat.le_succ n)
  rw [hw2] at q
  have e:=uH (xs:=xs) (k:=1) (n:=n+1) (p:=p) HX.out (by omega)
  try simp only [Nat.mul_one] at e
  rw [Nat.add_sub_cancel] at e
  have e2:(splice (splice xs (p) (xs.drop ((p+1)))) (n) Dp).take (n * 1)=CS:=by
   rw [← hCS,← e]
   unfold splice
   rw [Nat.mul_one]
   rw [List.take_left' (by rw [List.length_take];have:=sJ.out.1;unfold splice at this;rw [this];omega)]
  rw [e2] at q
  exact q)
 have GR:Hid (w.grownBy w2 (some g)):=hid (by
  rw [← hw2,← hw1]
  exact jo (dM (aR g _ _ _) (aR g _ _ _)))
 by_cases last:c=p+1
 ·obtain rfl:n=p:=by omega
  subst last
  have hnil:xs.drop ((n+1))=[]:=List.drop_eq_nil_of_le (by rw [HX.out];omega)
  have hra:∀ ty,(Builtin.append_ #[62,62] ty #[.slice (some ⟨g,0,none⟩) n (n+1),.slice (some ⟨g,0,none⟩) 0 0]).run prog w.drew=.ok (.slice (some ⟨g,0,none⟩) n (n+1)) w1:=fun ty=>by
   rw [← hw1,hnil]
   have q:=fE (P:=prog) (t:=62) ty underlying62 hi hz1 (p:=n) (m:=0) (sc:=0) (a:=⟨g,0,none⟩) (cs:=[]) (b_ (by have q:=gW OW.out (m:=n) (by omega);exact q)) (by simp) (by simp) (by simp)
   try simp only [Nat.mul_one] at q
   exact q
  rw [Nat.add_sub_cancel_left] at hcr
  clear own h1 gb cs cm hCS hw1 hw2 qG
  go_enter func151,ntmps151
  go_wp2_with fail
  go_region_law_o (refine jK rfl _ _ 62 62 rfl (by simp [Act.eval,Act.put]) (by simp [Act.eval,Act.put]) (hra _) ?_)
  go_wp2_with (refine dI rfl _ 62 rfl _ rfl (hcr _) ?_)
  go_ret
  exact⟨_,n+1,rfl,.inr ⟨g,rfl,FIN.out⟩,by rw [aY (by omega)];exact GR.out,.inl rfl⟩
 ·have hra:∀ ty,(Builtin.append_ #[62,62] ty #[.slice (some ⟨g,0,none⟩) p c,.slice (some ⟨g,(p+1),none⟩) (n - p) (c - (p+1))]).run prog w.drew=.ok (.slice (some ⟨g,0,none⟩) n c) w1:=fun ty=>by
   rw [← hw1]
   have q:=fE (P:=prog) (t:=62) ty underlying62 hi hz1 (p:=p) (m:=n - p) (sc:=(c - (p+1))) (a:=⟨g,(p+1),none⟩) (cs:=xs.drop ((p+1))) (b_ (by have q:=gW OW.out (m:=n) (by omega);rw [show n=p+(n - p) by omega] at q;exact q)) DL.out (fun j u hj=>by rw [Addr.add_lit];rw [List.getElem?_drop] at hj;exact df (b_ OW.out) hj) D1.out
   rw [show p+(n - p)=n by omega,Nat.mul_one] at q
   exact q
  clear own h1 gb cs cm hCS hw1 hw2 qG
  go_enter func151,ntmps151
  go_wp2_with fail
  go_region_law_o (refine jK rfl _ _ 62 62 rfl (by simp [Act.eval,Act.put]) (by simp [Act.eval,Act.put]) (hra _) ?_)
  go_wp2_with (refine dI rfl _ 62 rfl _ rfl (hcr _) ?_)
  go_ret
  exact⟨_,c,rfl,.inr ⟨g,rfl,FIN.out⟩,by rw [aY (by omega)];exact GR.out,.inl rfl⟩
end
end
end Go.Proofs.YtcmiompdjjiojaaGreat
