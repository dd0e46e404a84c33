import Derived.Test.YtmcfknnfaokmlaaGreatZ19
namespace Go.Proofs.YtmcfknnfaokmlaaGreat
set_option maxHeartbeats 16000000
open Go.Lib Go.Proofs.Tryz
set_option linter.unusedSimpArgs false
set_option maxRecDepth 100000
section
section
open Go.RowKit Go.Lib
theorem yE {g B p:Nat} {l:List UInt8} {x:Int} {w:World} (b:UInt8) (h:WG g B w p l) (hg:g<w.heap.size) (vw:g≠p) (hx:x=(b.toNat:Int)) (hs:l.length+1≤1099511627776) :
  Calls prog 54 #[.pointer (some ⟨p,0,none⟩),.slice (some ⟨w.heap.size,0,none⟩) 1 1] (w.alloc (.cells #[.int .u8 x] 5)) fun e w'=>e=.returned (.tuple #[])∧WG g B w' p (l++[b])∧w'.heap[g]?=w.heap[g]?∧aG B [51,5] w w':=by
 subst hx
 have hL:av (w.alloc (.cells #[.int .u8 (b.toNat:Int)] 5)) 0 5 (some ⟨w.heap.size,0,none⟩) (af [b]):=av.dD (heap_alloc_new w _)
 refine (Ca (h.alloc _) (by simp;omega) vw hL rfl hs).mono fun e w' q=>⟨q.1,q.2.1,q.2.2.1.trans (Below.heap_alloc w _ g hg),((aG.refl B _ w).alloc h.ws.size _).trans q.2.2.2⟩
theorem Eg {g B p:Nat} {l:List UInt8} {n z:Int} {k:Nat} {w:World} (hz:z=(k:Int)) (h:WG g B w p l) (hg:g<w.heap.size) (vw:g≠p) (h0:0≤n) (h1:n<18446744073709551616) (hk:k≤8) (hs:l.length+8≤1099511627776) :
  Calls prog 55 #[.pointer (some ⟨p,0,none⟩),.int .u64 n,.int .i64 z] w fun e w'=>e=.returned (.tuple #[])∧WG g B w' p (l++Cd.fix n.toNat k)∧w'.heap[g]?=w.heap[g]?∧aG B [51,5] w w':=by
 have H1:=hid h1
 have HW:=hid h
 clear h1 h
 subst hz
 go_enter func55,ntmps55
 go_wp2_with fail
 go_loopw [2] (fun i wr=>∃ (j:Nat) (d:List UInt8),j≤k∧i=.int .i64 (j:Int)∧d++Cd.fix n.toNat j=Cd.fix n.toNat k∧WG g B wr p (l++d)∧Hid (wr.heap[g]?=w.heap[g]?)∧aG B [51,5] w wr) (fun i _=>(intOf i).toNat)
 case atStart=>exact⟨k,[],Nat.le_refl _,rfl,rfl,by simpa using HW.out,hid rfl,aG.refl _ _ _⟩
 case round =>
  obtain⟨j,d,hj,rfl,hd,hws,hgb,ht⟩:=hrel
  have HD:=hid hd
  clear hd
  have dl:d.length+j=k:=by have:=congrArg List.length HD.out;simpa [Cd.aC] using this
  by_cases hz:0<j
  ·obtain⟨j,rfl⟩:∃ i,j=i+1:=⟨j - 1,by omega⟩
   have hgs:g<wr.heap.size:=by have:=ht.size;omega
   go_wp2_with fail
   refine (yE (Cd.iP n.toNat j) hws hgs vw (oz h0 j) (by rw [List.length_append];omega)).mono ?_
   rintro e w' ⟨rfl,hw2,hg2,t2⟩
   have HT:=hid t2
   have HG2:=hid (hg2.trans hgb.out)
   clear t2 hg2
   go_wp2
   go_roundw
   case rel=>exact⟨j,d++[Cd.iP n.toNat j],by omega,rfl,by rw [← HD.out,Cd.fix];simp,by rw [← List.append_assoc];exact hw2,HG2,ht.trans HT.out⟩
   case measure=>simp [intOf] <;> omega
  ·obtain rfl:j=0:=by omega
   go_wp2
   go_end0
   refine⟨rfl,?_,hgb.out,ht⟩
   rw [← HD.out]
   simpa [Cd.fix] using hws
theorem wNG_x {g B p:Nat} {l:List UInt8} {w:World} {x:Int} (h:WG g B w p l) (hg:g<w.heap.size) (vw:g≠p) (q0:0≤x) (hlo:¬ x<128) (hx:x<18446744073709551616) (hs:l.length+9≤1000000000000) :
  Calls prog 17 #[.pointer (some ⟨p,0,none⟩),.slice (some ⟨w.heap.size,0,none⟩) 1 1] (w.alloc (.cells #[.int .u64 x] 22)) fun e w'=>e=.returned (.tuple #[])∧WG g B w' p (l++Cd.num x.toNat)∧w'.heap[g]?=w.heap[g]?∧aG B [51,5] w w':=by
 have hz:=h.ws.size
 have h0:(w.alloc (.cells #[.int .u64 x] 22)).heap[w.heap.size]?=some (.cells #[.int .u64 x] 22 (0,0)):=heap_alloc_new w _
 have HW:=hid (h.alloc (.cells #[.int .u64 x] 22))
 have HT0:=hid ((aG.refl B [51,5] w).alloc hz (.cells #[.int .u64 x] 22))
 have HG0:=hid (Below.heap_alloc w (.cells #[.int .u64 x] 22) g hg)
 obtain⟨w0,hw0⟩:∃ w0,w.alloc (.cells #[.int .u64 x] 22)=w0:=⟨_,rfl⟩
 have HZ0:Hid (w0.heap.size=w.heap.size+1):=hid (by rw [← hw0];simp)
 rw [hw0] at h0 HW HT0 HG0 ⊢
 have Q1:=hid hx
 clear h hw0 hx
 go_enter func17,ntmps17
 go_wp2_with fail
 go_loopw [9] (fun i wr=>∃ k:Nat,k≤1∧i=.int .i64 (k:Int)∧WG g B wr p (l++(if k=0 then [] else Cd.num x.toNat))∧Hid (wr.heap[g]?=w0.heap[g]?)∧aG B [51,5] w0 wr) (fun i _=>1 - (intOf i).toNat)
 case atStart=>exact⟨0,Nat.zero_le _,rfl,by simpa using HW.out,hid rfl,aG.refl _ _ _⟩
 case round =>
  obtain⟨k,hk,rfl,hws,hgb,ht⟩:=hrel
  by_cases hz1:k<1
  ·obtain rfl:k=0:=by omega
   have hc:wr.cell? ⟨w.heap.size,0,none⟩=some (.int .u64 x):=cell_of_one (ht.blk h0 (by decide))
   have hws':WG g B wr p l:=by simpa using hws
   have hgs:g<wr.heap.size:=by have:=ht.size;have:=HZ0.out;omega
   have HT:=hid ht
   have e:=uf (n:=x) (by omega)
   have E:=hid e
   have wp:=Cd.dZ x.toNat
   clear hws ht e
   go_wp2_with (go_at_call 53;refine (lK _ _ (by omega) Q1.out).mono ?_;rintro e w' ⟨rfl,rfl⟩)
   refine (yE (UInt8.ofNat (128+Cd.wid x.toNat)) hws' hgs vw E.out.1 (by omega)).mono ?_
   rintro e w' ⟨rfl,hw2,hg2,t2⟩
   have HT2:=hid t2
   have HG2:=hid hg2
   have hgs2:g<w'.heap.size:=by have:=t2.size;omega
   clear t2 hg2
   go_wp2_with fail
   refine (Eg (k:=Cd.wid x.toNat) (by omega) hw2 hgs2 vw q0 Q1.out wp.2 (by rw [List.length_append,List.length_singleton];omega)).mono ?_
   rintro e w' ⟨rfl,hw3,hg3,t3⟩
   have HT3:=hid t3
   have HG3:=hid hg3
   clear t3 hg3
   go_wp2
   go_roundw
   case rel =>
    refine⟨1,by omega,by go_num,?_,hid ((HG3.out.trans HG2.out).trans hgb.out),(HT.out.trans HT2.out).trans HT3.out⟩
    rw [if_neg (by omega),E.out.2,← List.append_assoc]
    exact hw3
   case measure=>simp [intOf]
  ·obtain rfl:k=1:=by omega
   rw [if_neg (by omega)] at hws
   go_wp2
   go_end0
   exact⟨rfl,hws,hgb.out.trans HG0.out,HT0.out.trans ht⟩
theorem wNG_c {g B p:Nat} {l:List UInt8} {w:World} (m:Nat) (h:WG g B w p l) (hg:g<w.heap.size) (vw:g≠p) (hm:m<1000000000) (hs:l.length+9≤1000000000000) :
  Calls prog 17 #[.pointer (some ⟨p,0,none⟩),.slice (some ⟨w.heap.size,0,none⟩) 1 1] (w.alloc (.cells #[.int .u64 (m:Int)] 22)) fun e w'=>e=.returned (.tuple #[])∧WG g B w' p (l++Cd.num m)∧w'.heap[g]?=w.heap[g]?∧aG B [51,5] w w':=by
 by_cases hlo:m<128
 ·exact wNg_c m h hg vw hlo hs
 have q:=wNG_x (x:=(m:Int)) h hg vw (by omega) (by omega) (by omega) hs
 rw [Int.toNat_natCast] at q
 exact q
theorem Ed {g B p:Nat} {l b:List UInt8} {n c:Nat} {w:World} (h:WG g B w p l) (hg:g<w.heap.size) (vw:g≠p) (hL:av w 0 5 (some ⟨g,0,none⟩) (af b)) (hn:n=b.length) (hb:n<1000000000) (hs:l.length+b.length+9≤1000000000000) :
  Calls prog 18 #[.pointer (some ⟨p,0,none⟩),.slice (some ⟨g,0,none⟩) n c] w fun e w'=>e=.returned (.tuple #[])∧WS B w' p (l++St.wb b)∧aG B [51,5] w w':=by
 have HL:=hid hL
 clear hL
 subst hn
 have nl:=ax b.length
 go_enter func18,ntmps18
 go_wp2_with fail
 refine (wNG_c b.length h hg vw hb (by omega)).mono ?_
 rintro e w' ⟨rfl,hw,hg2,t⟩
 have HT:=hid t
 have HL2:Hid (av w' 0 5 (some ⟨g,0,none⟩) (af b)):=fun q=>by
  obtain⟨ad,e1,h1,h2⟩:=HL.out q
  injection e1 with e1
  subst e1
  refine⟨_,rfl,.inr ?_,fun j u hu=>(World.cell?_of_block (by rw [dM];exact hg2)).trans (h2 j u hu)⟩
  rcases h1 with h1 | ⟨cs,fr,h1⟩
  ·omega
  ·exact⟨cs,fr,hg2.trans h1⟩
 clear t
 go_wp2_with fail
 refine (B_ hw.ws HL2.out rfl (by rw [List.length_append];omega)).mono ?_
 rintro e w' ⟨rfl,hw2,t2⟩
 have HT2:=hid t2
 clear t2
 go_wp2
 go_end0
 exact⟨rfl,by unfold St.wb;rw [← List.append_assoc];exact hw2,HT.out.trans HT2.out⟩
theorem WS.mO {B p:Nat} {l b:List UInt8} {w0 w:World} {A:Option Addr} {n c:Nat} (h:WS B w0 p l) (hb:Below w0.heap.size w0 w) (ho:w.ownsRow w0.heap.size 5 1 (.slice A n c) b.length (af b)) (hn:0<b.length):∃ g,A=some ⟨g,0,none⟩∧g<w.heap.size∧g≠p∧WG g B w p l∧av w 0 5 (some ⟨g,0,none⟩) (af b)∧n=b.length:=by
 obtain⟨e,_⟩:=aA ho
 subst e
 obtain⟨g,rfl,h1,h2,_⟩:=ui ho hn
 refine⟨g,rfl,h2,?_,?_,aD ho,rfl⟩
 ·obtain⟨_,_,_,hp,_⟩:=h
  have:=lt_of_block hp
  omega
 ·obtain⟨hB,A0,c0,hp,hown⟩:=h
  refine⟨hB,A0,c0,(hb.block p (lt_of_block hp)).trans hp,own_below hown hb,fun k hk e=>?_⟩
  obtain⟨_,cs,fr,r⟩:=j3 hown k hk
  have:=lt_of_block r
  omega
end
end
end Go.Proofs.YtmcfknnfaokmlaaGreat
