import Derived.Test.YtmcfknnfaokmlaaGreatZ9
import Derived.Test.YtmcfknnfaokmlaaGreatZ18
import Derived.Laws.IdiomStrings
namespace Go.Proofs.YtmcfknnfaokmlaaGreat
set_option maxHeartbeats 16000000
open Go.Lib Go.Proofs.Tryz
set_option linter.unusedSimpArgs false
set_option maxRecDepth 100000
section
section
section
open Go.RowKit
theorem jl (l:List UInt8) (w:World):∃ c,(convert 9 33 (.string (str l))).run prog w=.ok (.slice (some ⟨w.heap.size,0,none⟩) l.length c)
  (w.drew.alloc (.cells (bytesRow (str l) c) 5 ((bytesRow (str l) c).size,(bytesRow (str l) c).size+1)))∧l.length≤c:=by
 have q:=run_bytes_of_string (P:=prog) w 9 33 5 (str l) underlying9 underlying33 underlying5
 have e:(str l).size=l.length:=rfl
 rw [e] at q
 exact⟨_,q,grownCap_ge _ _ _ _⟩
theorem vH (l:List UInt8) (c:Nat) (w:World) {fr:Nat × Nat}:av (w.alloc (.cells (bytesRow (str l) c) 5 fr)) 0 5 (some ⟨w.heap.size,0,none⟩) (af l):=by
 have h:=av.dD (B:=0) (heap_alloc_new w (.cells (bytesRow (str l) c) 5 fr))
 have e:(bytesRow (str l) c).toList=af l++List.replicate (c - l.length) (.int .u8 0):=by
  unfold bytesRow
  rw [Array.toList_append,Array.toList_replicate,Array.toList_map]
  rfl
 rw [e] at h
 have q:=h.take l.length
 rwa [List.take_left' (aT l)] at q
def WG (g:Nat) (B:Nat) (w:World) (p:Nat) (l:List UInt8):Prop :=
 B≤p∧∃ A c,w.heap[p]?=some (.cells #[.slice A l.length c] 51 (0,0))∧w.ownsRow B 5 1 (.slice A l.length c) l.length (af l)∧∀ k,(Value.slice A l.length c).ownBlock=some k→k≠g
section
variable {g B p : Nat} {w w' : World} {l : List UInt8}
theorem WG.ws (h:WG g B w p l):WS B w p l:=by
 obtain⟨hB,A,c,hp,ho,_⟩:=h
 exact⟨hB,A,c,hp,ho⟩
theorem WG.alloc (h:WG g B w p l) (o:Obj):WG g B (w.alloc o) p l:=by
 obtain⟨hB,A,c,hp,ho,hg⟩:=h
 exact⟨hB,A,c,aW hp o,ho.alloc o,hg⟩
theorem WS.apart (h:WS B w p l) (o:Obj):WG w.heap.size B (w.alloc o) p l:=by
 obtain⟨hB,A,c,hp,ho⟩:=h
 refine⟨hB,A,c,aW hp o,ho.alloc o,fun k hk e=>?_⟩
 obtain⟨_,cs,fr,r⟩:=j3 ho k hk
 have:=lt_of_block r
 omega
end
theorem Ca {g B p:Nat} {l m:List UInt8} {A:Option Addr} {n c:Nat} {w:World} {D:Nat} {t':TypeId} (h:WG g B w p l) (hg:g<w.heap.size) (vw:g≠p) (hL:av w D t' A (af m)) (hn:n=m.length) (hs:l.length+m.length≤1099511627776) :
  Calls prog 54 #[.pointer (some ⟨p,0,none⟩),.slice A n c] w fun e w'=>e=.returned (.tuple #[])∧WG g B w' p (l++m)∧w'.heap[g]?=w.heap[g]?∧aG B [51,5] w w':=by
 have hz:=h.ws.size
 obtain⟨hB,A0,c0,hp,hown,hne⟩:=h
 have c1:=cell_of_one hp
 have f1:=free_of_one hp
 obtain⟨i0,hi,hz0,hz1,hz2⟩:=info_parts Tryz.infoU8
 have HL:=hid hL
 have HS:=hid hs
 have HN:=hid hne
 clear hL hs hne
 subst hn
 go_enter func54,ntmps54
 go_wp2_with (at_builtin;refine aO _ rfl _ _ 33 rfl B 5 i0 (.int .u8 0) 1 1 underlying33 hi hz0 hz1 hz2 rfl (by decide) _ l.length (af l) rfl hown D A m.length c (af m) t' rfl (by rw [aT];omega) HL.out (aX _) (by unfold maxLen;have:=HS.out;omega) (by have:=HS.out;omega) hz ?_)
 intro v' w1 hown' hgrow hor
 obtain⟨A1,k1,rfl⟩:=aL hown'
 have hp1:=bV hown hgrow hp (by decide)
 have c2:=cell_of_one hp1
 have f2:=free_of_one hp1
 have T1:=dB (B:=B) (ts:=[51,5]) hown hgrow (Nat.le_refl _) hz (by decide)
 have G1:=hid (hgrow.block g hg (fun q=>HN.out g q.symm rfl))
 have G2:Hid (∀ k,(Value.slice A1 (l.length+m.length) k1).ownBlock=some k→k≠g):=by
  intro k hk e
  rcases hor with q | q
  ·exact HN.out k (q.symm.trans hk) e
  ·rw [q] at hk
   injection hk with hk
   omega
 clear hgrow hown hor
 have HO:=hid hown'
 clear hown'
 go_wp2
 go_end0
 refine⟨rfl,⟨hB,A1,k1,?_,?_,?_⟩,?_,?_⟩
 ·rw [List.length_append]
  exact one_setCell hp1
 ·rw [List.length_append,bF]
  exact dY HO.out hp1 (by decide) _
 ·rw [List.length_append]
  exact G2
 ·exact (Below.heap_setCell w1 _ _ g vw).trans G1.out
 ·exact T1.setCell hp1 (by decide) hB _
theorem wNg_c {g B p:Nat} {l:List UInt8} {w:World} (m:Nat) (h:WG g B w p l) (hg:g<w.heap.size) (vw:g≠p) (hm:m<128) (hs:l.length+9≤1000000000000) :
  Calls prog 17 #[.pointer (some ⟨p,0,none⟩),.slice (some ⟨w.heap.size,0,none⟩) 1 1] (w.alloc (.cells #[.int .u64 (m:Int)] 22)) fun e w'=>e=.returned (.tuple #[])∧WG g B w' p (l++Cd.num m)∧w'.heap[g]?=w.heap[g]?∧aG B [51,5] w w':=by
 have hz:=h.ws.size
 have h0:(w.alloc (.cells #[.int .u64 (m:Int)] 22)).heap[w.heap.size]?=some (.cells #[.int .u64 (m:Int)] 22 (0,0)):=heap_alloc_new w _
 have HW:=hid (h.alloc (.cells #[.int .u64 (m:Int)] 22))
 have HT0:=hid ((aG.refl B [51,5] w).alloc hz (.cells #[.int .u64 (m:Int)] 22))
 have HG0:=hid (Below.heap_alloc w (.cells #[.int .u64 (m:Int)] 22) g hg)
 obtain⟨w0,hw0⟩:∃ w0,w.alloc (.cells #[.int .u64 (m:Int)] 22)=w0:=⟨_,rfl⟩
 have hz0:w0.heap.size=w.heap.size+1:=by rw [← hw0];simp
 have hne:w.heap.size≠p:=by
  obtain⟨_,_,_,hp,_⟩:=h
  have:=lt_of_block hp
  omega
 rw [hw0] at h0 HW HT0 HG0 ⊢
 clear h hw0
 have E:=hid (ug (n:=(m:Int)) (by omega) (by omega))
 rw [Int.toNat_natCast] at E
 have hlo:(m:Int)<128:=by omega
 have q0:0≤(m:Int):=by omega
 go_enter func17,ntmps17
 go_wp2_with fail
 go_loopw [9] (fun i wr=>∃ k:Nat,k≤1∧i=.int .i64 (k:Int)∧WG g B wr p (l++(Cd.num m).take k)∧wr.heap[g]?=w0.heap[g]?∧aG B [51,5] w0 wr) (fun i _=>1 - (intOf i).toNat)
 case atStart=>exact⟨0,Nat.zero_le _,rfl,by simpa using HW.out,rfl,aG.refl _ _ _⟩
 case round =>
  obtain⟨k,hk,rfl,hws,hgb,ht⟩:=hrel
  by_cases hz1:k<1
  ·obtain rfl:k=0:=by omega
   have hc:wr.cell? ⟨w.heap.size,0,none⟩=some (.int .u64 (m:Int)):=cell_of_one (ht.blk h0 (by decide))
   have hws':WG g B wr p l:=by simpa using hws
   have hgs:g<wr.heap.size:=by have:=ht.size;omega
   have HT:=hid ht
   have HGB:=hid hgb
   clear hws ht hgb
   go_wp2_with (go_at_call 53;refine (jo _ _ q0 hlo).mono ?_;rintro e w' ⟨rfl,rfl⟩)
   have hL:av (wr.alloc (.cells #[.int .u8 (m:Int)] 5)) 0 5 (some ⟨wr.heap.size,0,none⟩) (af [Cd.iP m 0]):=lS E.out.1 rfl
   refine (Ca (hws'.alloc _) (by simp;omega) vw hL rfl (by simp;omega)).mono ?_
   rintro e w' ⟨rfl,hw2,hg2,t2⟩
   have HT2:=hid t2
   have HG2:=hid hg2
   clear t2 hg2
   go_wp2
   go_roundw
   case rel =>
    refine⟨1,by omega,by go_num,?_,(HG2.out.trans (Below.heap_alloc wr _ g hgs)).trans HGB.out,(HT.out.alloc (by have:=HT.out.size;omega) _).trans HT2.out⟩
    rw [E.out.2]
    exact hw2
   case measure=>simp [intOf]
  ·obtain rfl:k=1:=by omega
   have e1:(Cd.num m).take 1=Cd.num m:=by rw [E.out.2];rfl
   rw [e1] at hws
   go_wp2
   go_end0
   exact⟨rfl,hws,hgb.trans HG0.out,HT0.out.trans ht⟩
theorem zw {g B p:Nat} {l b:List UInt8} {n c:Nat} {w:World} (h:WG g B w p l) (hg:g<w.heap.size) (vw:g≠p) (hL:av w 0 5 (some ⟨g,0,none⟩) (af b)) (hn:n=b.length) (hb:n<128) (hs:l.length+b.length+9≤1000000000000) :
  Calls prog 18 #[.pointer (some ⟨p,0,none⟩),.slice (some ⟨g,0,none⟩) n c] w fun e w'=>e=.returned (.tuple #[])∧WS B w' p (l++St.wb b)∧aG B [51,5] w w':=by
 have HL:=hid hL
 clear hL
 subst hn
 have nl:=ax b.length
 go_enter func18,ntmps18
 go_wp2_with fail
 refine (wNg_c b.length h hg vw hb (by omega)).mono ?_
 rintro e w' ⟨rfl,hw,hg2,t⟩
 have HT:=hid t
 have HL2:Hid (av w' 0 5 (some ⟨g,0,none⟩) (af b)):=fun q=>by
  obtain⟨ad,e1,h1,h2⟩:=HL.out q
  injection e1 with e1
  subst e1
  refine⟨_,rfl,.inr ?_,fun j u hu=>(World.cell?_of_block (by rw [dM];exact hg2)).trans (h2 j u hu)⟩
  rcases h1 with h1 | ⟨cs,fr,h1⟩
  ·omega
  ·exact⟨cs,fr,hg2.trans h1⟩
 clear t
 go_wp2_with fail
 refine (B_ hw.ws HL2.out rfl (by rw [List.length_append];omega)).mono ?_
 rintro e w' ⟨rfl,hw2,t2⟩
 have HT2:=hid t2
 clear t2
 go_wp2
 go_end0
 exact⟨rfl,by unfold St.wb;rw [← List.append_assoc];exact hw2,HT.out.trans HT2.out⟩
theorem lG {B:Nat} {w0:World} {p:Nat} {l:List UInt8} (h:WS B w0 p l) (o:Obj) {g:Nat} (hg:g=w0.heap.size):WG g B (w0.alloc o).drew p l:=by
 subst hg
 exact h.apart o
theorem iq (l:List UInt8) (c:Nat) (w0:World) {fr:Nat × Nat} {g:Nat} (hg:g=w0.heap.size):av (w0.alloc (.cells (bytesRow (str l) c) 5 fr)).drew 0 5 (some ⟨g,0,none⟩) (af l):=by
 subst hg
 exact vH l c w0
end
end
section
open Go.RowKit
def AppG (g B:Nat) (l:List UInt8) (w:World) (e:Ending) (w':World):Prop :=
 ∃ A n c,e=.returned (.slice A n c)∧w'.ownsRow B 5 1 (.slice A n c) l.length (af l)∧aG B [5] w w'∧w'.heap[g]?=w.heap[g]?∧∀ k,(Value.slice A n c).ownBlock=some k→k≠g
theorem mM {g z:Nat} {v v':Value} (hne:∀ k,v.ownBlock=some k→k≠g) (hor:v'.ownBlock=v.ownBlock∨v'.ownBlock=some z) (hz:g<z):∀ k,v'.ownBlock=some k→k≠g:=by
 intro k hk e
 rcases hor with q | q
 ·exact hne k (q.symm.trans hk) e
 ·rw [q] at hk
  injection hk with hk
  omega
theorem Cr {g B:Nat} {l:List UInt8} {A:Option Addr} {c m:Nat} {n z:Int} {k:Nat} {w:World} (hz:z=(k:Int)) (h:w.ownsRow B 5 1 (.slice A m c) l.length (af l)) (hB:B≤w.heap.size) (hg:g<w.heap.size) (hne:∀ k,(Value.slice A m c).ownBlock=some k→k≠g)
  (h0:0≤n) (h1:n<18446744073709551616) (hk:k≤8) (hs:l.length+8≤1099511627776) :
  Calls prog 62 #[.slice A m c,.int .u64 n,.int .i64 z] w (AppG g B (l++Cd.fix n.toNat k) w):=by
 have H1:=hid h1
 have HW:=hid h
 obtain⟨rfl,_⟩:=aA h
 have HNE:=hid hne
 clear h1 h hne
 subst hz
 obtain⟨i0,hi,hz0,hz1,hz2⟩:=info_parts Tryz.infoU8
 go_enter func62,ntmps62
 go_wp2_with fail
 go_loopw [0,7] (fun b i wr=>∃ (j:Nat) (d:List UInt8) (A1:Option Addr) (c1:Nat),j≤k∧i=.int .i64 ((j:Int) - 1)∧b=.slice A1 (l.length+d.length) c1∧d++Cd.fix n.toNat j=Cd.fix n.toNat k∧wr.ownsRow B 5 1 (.slice A1 (l.length+d.length) c1) (l.length+d.length) (af (l++d))∧aG B [5] w wr∧wr.heap[g]?=w.heap[g]?∧∀ q,(Value.slice A1 (l.length+d.length) c1).ownBlock=some q→q≠g) (fun _ i _=>(intOf i+1).toNat)
 case atStart=>exact⟨k,[],A,c,Nat.le_refl _,rfl,by simp,rfl,by simpa using HW.out,aG.refl _ _ _,rfl,by simpa using HNE.out⟩
 case round =>
  obtain⟨j,d,A1,c1,hj,rfl,rfl,hd,ho,ht,hgb,hng⟩:=hrel
  have HD:=hid hd
  have dl:d.length+j=k:=by have:=congrArg List.length hd;simpa [Cd.aC] using this
  have dk:d.length≤8:=by omega
  have DL:=hid dl
  have HO:=hid ho
  have hB2:=ht.size
  have hgr:g<wr.heap.size:=by have:=ht.size;omega
  have HT:=hid ht
  have HGB:=hid hgb
  have HNG:=hid hng
  clear hd dl ho ht hgb hng
  by_cases hz:0<j
  ·obtain⟨j,rfl⟩:∃ i,j=i+1:=⟨j - 1,by omega⟩
   go_wp2_with (at_builtin;refine aO _ rfl _ _ 33 rfl B 5 i0 (.int .u8 0) 1 1 underlying33 hi hz0 hz1 hz2 rfl (by decide) _ (l.length+d.length) (af (l++d)) rfl (HO.out.alloc _) 0 _ 1 1 (af [Cd.iP n.toNat j]) 5 rfl rfl (lS (oz h0 j) rfl) (aX _) (by unfold maxLen;omega) (by omega) (by simp;omega) ?_)
   intro v' w1 hown' hgrow hor
   obtain⟨A2,k2,rfl⟩:=aL hown'
   have T1:=cB (HO.out.alloc _) hgrow (by simp;omega)
   have HT1:=hid (HT.out.trans (((aG.refl B _ wr).alloc (by omega) _).trans T1))
   have G1:=hid (((hgrow.block g (by simp;omega) (fun q=>HNG.out g q.symm rfl)).trans (Below.heap_alloc wr _ g hgr)).trans HGB.out)
   have G2:=hid (mM (g:=g) HNG.out hor (by first | omega | (simp;omega)))
   have oH:=hid hown'
   clear hown' hgrow hor T1
   go_wp2
   go_roundw
   case rel=>exact⟨j,d++[Cd.iP n.toNat j],A2,k2,by omega,by go_num,by simp [Nat.add_assoc],by rw [← HD.out,Cd.fix];simp,by rw [← List.append_assoc,bF (l++d)];simpa [Nat.add_assoc] using oH.out,HT1.out,G1.out,by simpa [Nat.add_assoc] using G2.out⟩
   case measure=>simp [intOf] <;> omega
  ·obtain rfl:j=0:=by omega
   go_wp2
   go_ret
   have e:d=Cd.fix n.toNat k:=by simpa [Cd.fix] using HD.out
   subst e
   exact⟨A1,_,c1,rfl,by rw [List.length_append];exact HO.out,HT.out,HGB.out,HNG.out⟩
theorem vU {g B:Nat} {l:List UInt8} {A:Option Addr} {c m:Nat} {n:Int} {w:World} (h:w.ownsRow B 5 1 (.slice A m c) l.length (af l)) (hB:B≤w.heap.size) (hg:g<w.heap.size) (hne:∀ k,(Value.slice A m c).ownBlock=some k→k≠g)
  (h0:0≤n) (h1:n<18446744073709551616) (hs:l.length+9≤1000000000000) :
  Calls prog 23 #[.slice A m c,.int .u64 n] w (AppG g B (l++Cd.num n.toNat) w):=by
 have H1:=hid h1
 have HO:=hid h
 obtain⟨rfl,_⟩:=aA h
 have HNE:=hid hne
 clear h1 h hne
 obtain⟨i0,hi,hz0,hz1,hz2⟩:=info_parts Tryz.infoU8
 by_cases hlo:n<128
 ·have E:=hid (ug h0 hlo)
  go_enter func23,ntmps23
  go_wp2_with (at_builtin;refine aO _ rfl _ _ 33 rfl B 5 i0 (.int .u8 0) 1 1 underlying33 hi hz0 hz1 hz2 rfl (by decide) _ l.length (af l) rfl (HO.out.alloc _) 0 _ 1 1 (af [Cd.iP n.toNat 0]) 5 rfl rfl (lS E.out.1 rfl) (aX _) (by unfold maxLen;omega) (by omega) (by simp;omega) ?_)
  intro v' w1 hown' hgrow hor
  obtain⟨A2,k2,rfl⟩:=aL hown'
  have T1:=cB (HO.out.alloc _) hgrow (by simp;omega)
  have HT1:=hid (((aG.refl B _ w).alloc (by omega) _).trans T1)
  have G1:=hid ((hgrow.block g (by simp;omega) (fun q=>HNE.out g q.symm rfl)).trans (Below.heap_alloc w _ g hg))
  have G2:=hid (mM (g:=g) HNE.out hor (by first | omega | (simp;omega)))
  have oH:=hid hown'
  clear hown' hgrow hor T1
  go_wp2
  go_ret
  exact⟨A2,_,k2,rfl,by rw [E.out.2,bF,List.length_append];exact oH.out,HT1.out,G1.out,G2.out⟩
 ·obtain⟨b,E⟩:∃ b:UInt8,Hid (128+(Cd.wid n.toNat:Int)=(b.toNat:Int)∧Cd.num n.toNat=[b]++Cd.fix n.toNat (Cd.wid n.toNat)):=⟨_,uf (by omega)⟩
  have wp:=Cd.dZ n.toNat
  go_enter func23,ntmps23
  go_wp2_with (first
   | (go_at_call 61;refine (nH _ _ h0).mono ?_;rintro e w' ⟨rfl,rfl⟩)
   | (at_builtin;refine aO _ rfl _ _ 33 rfl B 5 i0 (.int .u8 0) 1 1 underlying33 hi hz0 hz1 hz2 rfl (by decide) _ l.length (af l) rfl (HO.out.alloc _) 0 _ 1 1 (af [b]) 5 rfl rfl (lS E.out.1 rfl) (aX _) (by unfold maxLen;omega) (by omega) (by simp;omega) ?_))
  intro v' w1 hown' hgrow hor
  obtain⟨A2,k2,rfl⟩:=aL hown'
  have T1:=cB (HO.out.alloc _) hgrow (by simp;omega)
  have hz1:=T1.size
  have g1:g<w1.heap.size:=by have:=T1.size;simp at this;omega
  have HT1:=hid (((aG.refl B _ w).alloc (by omega) _).trans T1)
  have G1:=hid ((hgrow.block g (by simp;omega) (fun q=>HNE.out g q.symm rfl)).trans (Below.heap_alloc w _ g hg))
  have G2:=hid (mM (g:=g) HNE.out hor (by first | omega | (simp;omega)))
  have ho2:w1.ownsRow B 5 1 (.slice A2 (l.length+1) k2) (l++[b]).length (af (l++[b])):=by
   rw [bF,List.length_append];exact hown'
  have oH:=hid ho2
  clear hown' hgrow hor T1 ho2
  go_wp2_with fail
  refine (Cr (g:=g) (l:=l++[b]) (k:=Cd.wid n.toNat) rfl oH.out (by simp at hz1;omega) g1 G2.out h0 H1.out wp.2 (by simp;omega)).mono ?_
  rintro e w' ⟨A3,m3,k3,rfl,ho3,t3,g3,n3⟩
  have HO3:=hid ho3
  have HT3:=hid t3
  have G3:=hid (g3.trans G1.out)
  have N3:=hid n3
  clear ho3 t3 g3 n3
  go_wp2
  go_ret
  exact⟨A3,m3,k3,rfl,by rw [E.out.2,← List.append_assoc];exact HO3.out,HT1.out.trans HT3.out,G3.out,N3.out⟩
theorem kJ {B g:Nat} {l b:List UInt8} {A:Option Addr} {c m n cb:Nat} {w:World} (h:w.ownsRow B 5 1 (.slice A m c) l.length (af l)) (hB:B≤w.heap.size) (hg:g<w.heap.size) (hne:∀ k,(Value.slice A m c).ownBlock=some k→k≠g)
  (hL:av w 0 5 (some ⟨g,0,none⟩) (af b)) (hn:n=b.length) (hs:l.length+b.length+9≤1000000000000) :
  Calls prog 24 #[.slice A m c,.slice (some ⟨g,0,none⟩) n cb] w (nK B (l++(Cd.num b.length++b)) w):=by
 have HO:=hid h
 have HL:=hid hL
 have HNE:=hid hne
 clear h hL hne
 subst hn
 have nl:=ax b.length
 obtain⟨i0,hi,hz0,hz1,hz2⟩:=info_parts Tryz.infoU8
 go_enter func24,ntmps24
 go_wp2_with fail
 refine (vU (g:=g) (n:=(b.length:Int)) HO.out hB hg HNE.out (by omega) (by omega) (by omega)).mono ?_
 rintro e w' ⟨A3,m3,k3,rfl,ho3,t3,hg3,_⟩
 rw [Int.toNat_natCast] at ho3
 have hz3:=t3.size
 have HO3:=hid ho3
 have HT3:=hid t3
 have HL3:Hid (av w' 0 5 (some ⟨g,0,none⟩) (af b)):=fun q=>by
  obtain⟨ad,e1,h1,h2⟩:=HL.out q
  injection e1 with e1
  subst e1
  refine⟨_,rfl,.inr ?_,fun j u hu=>(World.cell?_of_block (by rw [dM];exact hg3)).trans (h2 j u hu)⟩
  rcases h1 with h1 | ⟨cs,fr,h1⟩
  ·omega
  ·exact⟨cs,fr,hg3.trans h1⟩
 clear ho3 t3 hg3
 go_wp2_with (at_builtin;refine aO _ rfl _ _ 33 rfl B 5 i0 (.int .u8 0) 1 1 underlying33 hi hz0 hz1 hz2 rfl (by decide) _ (l++Cd.num b.length).length (af (l++Cd.num b.length)) rfl HO3.out 0 _ b.length _ (af b) 5 rfl (by rw [aT];omega) HL3.out (aX _) (by rw [List.length_append];unfold maxLen;omega) (by rw [List.length_append];omega) (by omega) ?_)
 intro v' w1 hown' hgrow _
 obtain⟨A2,k2,rfl⟩:=aL hown'
 have T1:=cB HO3.out hgrow (by omega)
 have HT1:=hid (HT3.out.trans T1)
 have ho2:w1.ownsRow B 5 1 (.slice A2 (l.length+(Cd.num b.length).length+b.length) k2) (l++(Cd.num b.length++b)).length (af (l++(Cd.num b.length++b))):=by
  rw [← List.append_assoc,bF (l++Cd.num b.length) b];simp only [List.length_append];simpa using hown'
 have oH:=hid ho2
 clear hown' hgrow T1 ho2
 go_wp2
 go_ret
 exact⟨A2,_,k2,rfl,oH.out,HT1.out⟩
end
end
end Go.Proofs.YtmcfknnfaokmlaaGreat
