import Derived.Test.YtcedlgedmkghgaaZ7
import Derived.Test.YtcedlgedmkghgaaZ18
import Derived.Laws.IdiomStrings
namespace Go.Proofs.Ytcedlgedmkghgaa
set_option maxHeartbeats 16000000
open Go.Lib
set_option linter.unusedSimpArgs false
set_option maxRecDepth 100000
section
section
section
open Go.RowKit
theorem iR (l:List UInt8) (w:World):∃ c,(convert 9 33 (.string (str l))).run Try.prog w=.ok (.slice (some ⟨w.heap.size,0,none⟩) l.length c)
  (w.drew.alloc (.cells (bytesRow (str l) c) 5 ((bytesRow (str l) c).size,(bytesRow (str l) c).size+1)))∧l.length≤c:=by
 have q:=run_bytes_of_string (P:=Try.prog) w 9 33 5 (str l) Try.underlying9 Try.underlying33 Try.underlying5
 have e:(str l).size=l.length:=rfl
 rw [e] at q
 exact⟨_,q,grownCap_ge _ _ _ _⟩
theorem wB (l:List UInt8) (c:Nat) (w:World) {fr:Nat × Nat}:ah (w.alloc (.cells (bytesRow (str l) c) 5 fr)) 0 5 (some ⟨w.heap.size,0,none⟩) (ae l):=by
 have h:=ah.dG (B:=0) (heap_alloc_new w (.cells (bytesRow (str l) c) 5 fr))
 have e:(bytesRow (str l) c).toList=ae l++List.replicate (c - l.length) (.int .u8 0):=by
  unfold bytesRow
  rw [Array.toList_append,Array.toList_replicate,Array.toList_map]
  rfl
 rw [e] at h
 have q:=h.take l.length
 rwa [List.take_left' (aO l)] at q
def WG (g:Nat) (B:Nat) (w:World) (p:Nat) (l:List UInt8):Prop :=
 B≤p∧∃ A c,w.heap[p]?=some (.cells #[.slice A l.length c] 45 (0,0))∧w.ownsRow B 5 1 (.slice A l.length c) l.length (ae l)∧∀ k,(Value.slice A l.length c).ownBlock=some k→k≠g
section
variable {g B p : Nat} {w w' : World} {l : List UInt8}
theorem WG.ws (h:WG g B w p l):WS B w p l:=by
 obtain⟨hB,A,c,hp,ho,_⟩:=h
 exact⟨hB,A,c,hp,ho⟩
theorem WG.alloc (h:WG g B w p l) (o:Obj):WG g B (w.alloc o) p l:=by
 obtain⟨hB,A,c,hp,ho,hg⟩:=h
 exact⟨hB,A,c,aT hp o,ho.alloc o,hg⟩
theorem WS.apart (h:WS B w p l) (o:Obj):WG w.heap.size B (w.alloc o) p l:=by
 obtain⟨hB,A,c,hp,ho⟩:=h
 refine⟨hB,A,c,aT hp o,ho.alloc o,fun k hk e=>?_⟩
 obtain⟨_,cs,fr,r⟩:=ko ho k hk
 have:=lt_of_block r
 omega
end
theorem vE {g B p:Nat} {l m:List UInt8} {A:Option Addr} {n c:Nat} {w:World} {D:Nat} {t':TypeId} (h:WG g B w p l) (hg:g<w.heap.size) (o5:g≠p) (hL:ah w D t' A (ae m)) (hn:n=m.length) (hs:l.length+m.length≤1099511627776) :
  Calls Try.prog 32 #[.pointer (some ⟨p,0,none⟩),.slice A n c] w fun e w'=>e=.returned (.tuple #[])∧WG g B w' p (l++m)∧w'.heap[g]?=w.heap[g]?∧ay B [45,5] w w':=by
 have hz:=h.ws.size
 obtain⟨hB,A0,c0,hp,hown,hne⟩:=h
 have c1:=cell_of_one hp
 have f1:=free_of_one hp
 obtain⟨i0,hi,hz0,hz1,hz2⟩:=info_parts Try.infoU8
 have HL:=hid hL
 have HS:=hid hs
 have HN:=hid hne
 clear hL hs hne
 subst hn
 go_enter Try.func32,Try.ntmps32
 go_wp2_with (at_builtin;refine bP _ rfl _ _ 33 rfl B 5 i0 (.int .u8 0) 1 1 Try.underlying33 hi hz0 hz1 hz2 rfl (by decide) _ l.length (ae l) rfl hown D A m.length c (ae m) t' rfl (by rw [aO];omega) HL.out (df _) (by unfold maxLen;have:=HS.out;omega) (by have:=HS.out;omega) hz ?_)
 intro v' w1 hown' hgrow hor
 obtain⟨A1,k1,rfl⟩:=bv hown'
 have hp1:=dw hown hgrow hp (by decide)
 have c2:=cell_of_one hp1
 have f2:=free_of_one hp1
 have T1:=dx (B:=B) (ts:=[45,5]) hown hgrow (Nat.le_refl _) hz (by decide)
 have G1:=hid (hgrow.block g hg (fun q=>HN.out g q.symm rfl))
 have G2:Hid (∀ k,(Value.slice A1 (l.length+m.length) k1).ownBlock=some k→k≠g):=by
  intro k hk e
  rcases hor with q | q
  ·exact HN.out k (q.symm.trans hk) e
  ·rw [q] at hk
   injection hk with hk
   omega
 clear hgrow hown hor
 have HO:=hid hown'
 clear hown'
 go_wp2
 go_end0
 refine⟨rfl,⟨hB,A1,k1,?_,?_,?_⟩,?_,?_⟩
 ·rw [List.length_append]
  exact one_setCell hp1
 ·rw [List.length_append,fU]
  exact dV HO.out hp1 (by decide) _
 ·rw [List.length_append]
  exact G2
 ·exact (Below.heap_setCell w1 _ _ g o5).trans G1.out
 ·exact T1.setCell hp1 (by decide) hB _
theorem wNg_c {g B p:Nat} {l:List UInt8} {w:World} (m:Nat) (h:WG g B w p l) (hg:g<w.heap.size) (o5:g≠p) (hm:m<128) (hs:l.length+9≤1000000000000) :
  Calls Try.prog 12 #[.pointer (some ⟨p,0,none⟩),.slice (some ⟨w.heap.size,0,none⟩) 1 1] (w.alloc (.cells #[.int .u64 (m:Int)] 22)) fun e w'=>e=.returned (.tuple #[])∧WG g B w' p (l++Cd.num m)∧w'.heap[g]?=w.heap[g]?∧ay B [45,5] w w':=by
 have hz:=h.ws.size
 have h0:(w.alloc (.cells #[.int .u64 (m:Int)] 22)).heap[w.heap.size]?=some (.cells #[.int .u64 (m:Int)] 22 (0,0)):=heap_alloc_new w _
 have HW:=hid (h.alloc (.cells #[.int .u64 (m:Int)] 22))
 have HT0:=hid ((ay.refl B [45,5] w).alloc hz (.cells #[.int .u64 (m:Int)] 22))
 have HG0:=hid (Below.heap_alloc w (.cells #[.int .u64 (m:Int)] 22) g hg)
 obtain⟨w0,hw0⟩:∃ w0,w.alloc (.cells #[.int .u64 (m:Int)] 22)=w0:=⟨_,rfl⟩
 have hz0:w0.heap.size=w.heap.size+1:=by rw [← hw0];simp
 have hne:w.heap.size≠p:=by
  obtain⟨_,_,_,hp,_⟩:=h
  have:=lt_of_block hp
  omega
 rw [hw0] at h0 HW HT0 HG0 ⊢
 clear h hw0
 have E:=hid (wQ (n:=(m:Int)) (by omega) (by omega))
 rw [Int.toNat_natCast] at E
 have hlo:(m:Int)<128:=by omega
 have q0:0≤(m:Int):=by omega
 go_enter Try.func12,Try.ntmps12
 go_wp2_with fail
 go_loopw [9] (fun i wr=>∃ k:Nat,k≤1∧i=.int .i64 (k:Int)∧WG g B wr p (l++(Cd.num m).take k)∧wr.heap[g]?=w0.heap[g]?∧ay B [45,5] w0 wr) (fun i _=>1 - (intOf i).toNat)
 case atStart=>exact⟨0,Nat.zero_le _,rfl,by simpa using HW.out,rfl,ay.refl _ _ _⟩
 case round =>
  obtain⟨k,hk,rfl,hws,hgb,ht⟩:=hrel
  by_cases hz1:k<1
  ·obtain rfl:k=0:=by omega
   have hc:wr.cell? ⟨w.heap.size,0,none⟩=some (.int .u64 (m:Int)):=cell_of_one (ht.blk h0 (by decide))
   have hws':WG g B wr p l:=by simpa using hws
   have hgs:g<wr.heap.size:=by have:=ht.size;omega
   have HT:=hid ht
   have HGB:=hid hgb
   clear hws ht hgb
   go_wp2_with (go_at_call 31;refine (gD _ _ q0 hlo).mono ?_;rintro e w' ⟨rfl,rfl⟩)
   have hL:ah (wr.alloc (.cells #[.int .u8 (m:Int)] 5)) 0 5 (some ⟨wr.heap.size,0,none⟩) (ae [Cd.gY m 0]):=lies1 E.out.1 rfl
   refine (vE (hws'.alloc _) (by simp;omega) o5 hL rfl (by simp;omega)).mono ?_
   rintro e w' ⟨rfl,hw2,hg2,t2⟩
   have HT2:=hid t2
   have HG2:=hid hg2
   clear t2 hg2
   go_wp2
   go_roundw
   case rel =>
    refine⟨1,by omega,by go_num,?_,(HG2.out.trans (Below.heap_alloc wr _ g hgs)).trans HGB.out,(HT.out.alloc (by have:=HT.out.size;omega) _).trans HT2.out⟩
    rw [E.out.2]
    exact hw2
   case measure=>simp [intOf]
  ·obtain rfl:k=1:=by omega
   have e1:(Cd.num m).take 1=Cd.num m:=by rw [E.out.2];rfl
   rw [e1] at hws
   go_wp2
   go_end0
   exact⟨rfl,hws,hgb.trans HG0.out,HT0.out.trans ht⟩
theorem tH {g B p:Nat} {l b:List UInt8} {n c:Nat} {w:World} (h:WG g B w p l) (hg:g<w.heap.size) (o5:g≠p) (hL:ah w 0 5 (some ⟨g,0,none⟩) (ae b)) (hn:n=b.length) (hb:n<128) (hs:l.length+b.length+9≤1000000000000) :
  Calls Try.prog 13 #[.pointer (some ⟨p,0,none⟩),.slice (some ⟨g,0,none⟩) n c] w fun e w'=>e=.returned (.tuple #[])∧WS B w' p (l++St.wb b)∧ay B [45,5] w w':=by
 have HL:=hid hL
 clear hL
 subst hn
 have nl:=av b.length
 go_enter Try.func13,Try.ntmps13
 go_wp2_with fail
 refine (wNg_c b.length h hg o5 hb (by omega)).mono ?_
 rintro e w' ⟨rfl,hw,hg2,t⟩
 have HT:=hid t
 have HL2:Hid (ah w' 0 5 (some ⟨g,0,none⟩) (ae b)):=fun q=>by
  obtain⟨ad,e1,h1,h2⟩:=HL.out q
  injection e1 with e1
  subst e1
  refine⟨_,rfl,.inr ?_,fun j u hu=>(World.cell?_of_block (by rw [dM];exact hg2)).trans (h2 j u hu)⟩
  rcases h1 with h1 | ⟨cs,fr,h1⟩
  ·omega
  ·exact⟨cs,fr,hg2.trans h1⟩
 clear t
 go_wp2_with fail
 refine (vD hw.ws HL2.out rfl (by rw [List.length_append];omega)).mono ?_
 rintro e w' ⟨rfl,hw2,t2⟩
 have HT2:=hid t2
 clear t2
 go_wp2
 go_end0
 exact⟨rfl,by unfold St.wb;rw [← List.append_assoc];exact hw2,HT.out.trans HT2.out⟩
theorem iN {B:Nat} {w0:World} {p:Nat} {l:List UInt8} (h:WS B w0 p l) (o:Obj) {g:Nat} (hg:g=w0.heap.size):WG g B (w0.alloc o).drew p l:=by
 subst hg
 exact h.apart o
theorem fB (l:List UInt8) (c:Nat) (w0:World) {fr:Nat × Nat} {g:Nat} (hg:g=w0.heap.size):ah (w0.alloc (.cells (bytesRow (str l) c) 5 fr)).drew 0 5 (some ⟨g,0,none⟩) (ae l):=by
 subst hg
 exact wB l c w0
end
end
section
open Go.RowKit
end
end
end Go.Proofs.Ytcedlgedmkghgaa
