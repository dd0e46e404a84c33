import Derived.Test.YtmcfknnfaokmlaaGreatZ8
import Derived.Test.YtmcfknnfaokmlaaGreatZ3
import Derived.Test.YtmcfknnfaokmlaaGreatZ7
import Derived.Lib.SliceRun
namespace Go.Proofs.YtmcfknnfaokmlaaGreat
set_option maxHeartbeats 16000000
open Go.Lib Go.Proofs.Tryz
set_option linter.unusedSimpArgs false
set_option maxRecDepth 100000
section
section
open Go.RowKit
def WS (B:Nat) (w:World) (p:Nat) (l:List UInt8):Prop :=
 B≤p∧∃ A c,w.heap[p]?=some (.cells #[.slice A l.length c] 51 (0,0))∧w.ownsRow B 5 1 (.slice A l.length c) l.length (af l)
section
variable {B : Nat} {w w' : World} {p : Nat} {l : List UInt8}
theorem WS.cZ (h:WS B w p l) {B':Nat} {ts:List TypeId} (hT:aG B' ts w w') (h1:51 ∉ ts) (h2:5 ∉ ts):WS B w' p l:=by
 obtain⟨hB,A,c,hp,ho⟩:=h
 exact⟨hB,A,c,hT.blk hp h1,bu ho hT h2⟩
theorem WS.below (h:WS B w p l) (hT:Below w.heap.size w w'):WS B w' p l:=h.cZ (aG.of_below hT (Nat.le_refl _) []) (by simp) (by simp)
theorem WS.alloc (h:WS B w p l) (o:Obj):WS B (w.alloc o) p l:=h.below ((Below.refl _ _).alloc (Nat.le_refl _) o)
theorem WS.size (h:WS B w p l):B≤w.heap.size:=by
 obtain⟨hB,_,_,hp,_⟩:=h
 have:=lt_of_block hp
 omega
end
theorem B_ {B p:Nat} {l m:List UInt8} {A:Option Addr} {n c:Nat} {w:World} {D:Nat} {t':TypeId} (h:WS B w p l) (hL:av w D t' A (af m)) (hn:n=m.length) (hs:l.length+m.length≤1099511627776) :
  Calls prog 54 #[.pointer (some ⟨p,0,none⟩),.slice A n c] w fun e w'=>e=.returned (.tuple #[])∧WS B w' p (l++m)∧aG B [51,5] w w':=by
 have hz:=h.size
 obtain⟨hB,A0,c0,hp,hown⟩:=h
 have c1:=cell_of_one hp
 have f1:=free_of_one hp
 obtain⟨i0,hi,hz0,hz1,hz2⟩:=info_parts Tryz.infoU8
 have HL:=hid hL
 have HS:=hid hs
 clear hL hs
 subst hn
 go_enter func54,ntmps54
 go_wp2_with (at_builtin;refine aO _ rfl _ _ 33 rfl B 5 i0 (.int .u8 0) 1 1 underlying33 hi hz0 hz1 hz2 rfl (by decide) _ l.length (af l) rfl hown D A m.length c (af m) t' rfl (by rw [aT];omega) HL.out (aX _) (by unfold maxLen;have:=HS.out;omega) (by have:=HS.out;omega) hz ?_)
 intro v' w1 hown' hgrow _
 obtain⟨A1,k1,rfl⟩:=aL hown'
 have hp1:=bV hown hgrow hp (by decide)
 have c2:=cell_of_one hp1
 have f2:=free_of_one hp1
 have T1:=dB (B:=B) (ts:=[51,5]) hown hgrow (Nat.le_refl _) hz (by decide)
 clear hgrow hown
 have HO:=hid hown'
 clear hown'
 go_wp2
 go_end0
 refine⟨rfl,⟨hB,A1,k1,?_,?_⟩,?_⟩
 ·rw [List.length_append]
  exact one_setCell hp1
 ·rw [List.length_append,bF]
  exact dY HO.out hp1 (by decide) _
 ·exact T1.setCell hp1 (by decide) hB _
theorem oL {B p:Nat} {l:List UInt8} {x:Int} {w:World} (b:UInt8) (h:WS B w p l) (hx:x=(b.toNat:Int)) (hs:l.length+1≤1099511627776) :
  Calls prog 54 #[.pointer (some ⟨p,0,none⟩),.slice (some ⟨w.heap.size,0,none⟩) 1 1] (w.alloc (.cells #[.int .u8 x] 5)) fun e w'=>e=.returned (.tuple #[])∧WS B w' p (l++[b])∧aG B [51,5] w w':=by
 subst hx
 have hL:av (w.alloc (.cells #[.int .u8 (b.toNat:Int)] 5)) 0 5 (some ⟨w.heap.size,0,none⟩) (af [b]):=av.dD (heap_alloc_new w _)
 refine (B_ (h.alloc _) hL rfl hs).mono fun e w' q=>⟨q.1,q.2.1,?_⟩
 exact (((aG.refl B _ w).alloc h.size _).trans q.2.2)
theorem zy {B p:Nat} {l:List UInt8} {n z:Int} {k:Nat} {w:World} (hz:z=(k:Int)) (h:WS B w p l) (h0:0≤n) (h1:n<18446744073709551616) (hk:k≤8) (hs:l.length+8≤1099511627776) :
  Calls prog 55 #[.pointer (some ⟨p,0,none⟩),.int .u64 n,.int .i64 z] w fun e w'=>e=.returned (.tuple #[])∧WS B w' p (l++Cd.fix n.toNat k)∧aG B [51,5] w w':=by
 have H1:=hid h1
 have HW:=hid h
 clear h1 h
 subst hz
 go_enter func55,ntmps55
 go_wp2_with fail
 go_loopw [2] (fun i wr=>∃ (j:Nat) (d:List UInt8),j≤k∧i=.int .i64 (j:Int)∧d++Cd.fix n.toNat j=Cd.fix n.toNat k∧WS B wr p (l++d)∧aG B [51,5] w wr) (fun i _=>(intOf i).toNat)
 case atStart=>exact⟨k,[],Nat.le_refl _,rfl,rfl,by simpa using HW.out,aG.refl _ _ _⟩
 case round =>
  obtain⟨j,d,hj,rfl,hd,hws,ht⟩:=hrel
  have HD:=hid hd
  clear hd
  have dl:d.length+j=k:=by have:=congrArg List.length HD.out;simpa [Cd.aC] using this
  by_cases hz:0<j
  ·obtain⟨j,rfl⟩:∃ i,j=i+1:=⟨j - 1,by omega⟩
   go_wp2_with fail
   refine (oL (Cd.iP n.toNat j) hws (oz h0 j) (by rw [List.length_append];omega)).mono ?_
   rintro e w' ⟨rfl,hw2,t2⟩
   have HT:=hid t2
   clear t2
   go_wp2
   go_roundw
   case rel=>exact⟨j,d++[Cd.iP n.toNat j],by omega,rfl,by rw [← HD.out,Cd.fix];simp,by rw [← List.append_assoc];exact hw2,ht.trans HT.out⟩
   case measure=>simp [intOf] <;> omega
  ·obtain rfl:j=0:=by omega
   go_wp2
   go_end0
   refine⟨rfl,?_,ht⟩
   rw [← HD.out]
   simpa [Cd.fix] using hws
def nums (ns:List Int):List UInt8:=ns.flatMap fun n=>Cd.num n.toNat
theorem rX (ns:List Int) (n:Int):nums (ns++[n])=nums ns++Cd.num n.toNat:=by simp [nums]
theorem ax (n:Nat):(Cd.num n).length≤9:=by
 have:=Cd.dZ n
 unfold Cd.num
 split
 ·simp
 ·simp [Cd.aC];omega
theorem Dl (ns:List Int):(nums ns).length≤9 * ns.length:=by
 induction ns with
 | nil=>simp [nums]
 | cons n ns ih =>
  have:=ax n.toNat
  simp only [nums,List.flatMap_cons,List.length_append,List.length_cons] at ih ⊢
  omega
theorem ug {n:Int} (h0:0≤n) (h:n<128):n=((Cd.iP n.toNat 0).toNat:Int)∧Cd.num n.toNat=[Cd.iP n.toNat 0]:=by
 refine⟨?_,by unfold Cd.num;rw [if_pos (by omega)]⟩
 rw [Cd.fq];simp;omega
theorem uf {n:Int} (h:128≤n):128+(Cd.wid n.toNat:Int)=((UInt8.ofNat (128+Cd.wid n.toNat)).toNat:Int)∧Cd.num n.toNat=[UInt8.ofNat (128+Cd.wid n.toNat)]++Cd.fix n.toNat (Cd.wid n.toNat):=by
 have w:=Cd.dZ n.toNat
 refine⟨?_,by unfold Cd.num;rw [if_neg (by omega)];rfl⟩
 rw [UInt8.toNat_ofNat'];omega
theorem wN_c {B p:Nat} {l:List UInt8} {A:Option Addr} {c:Nat} {ns:List Int} {w:World} {n:Nat} (h:WS B w p l) (hL:av w B 22 A (ns.map (Value.int .u64))) (hn:n=ns.length)
  (hb:∀ n∈ns,0≤n∧n<18446744073709551616) (hs:l.length+9 * ns.length≤1000000000000) :
  Calls prog 17 #[.pointer (some ⟨p,0,none⟩),.slice A n c] w fun e w'=>e=.returned (.tuple #[])∧WS B w' p (l++nums ns)∧aG B [51,5] w w':=by
 have HB:=hid hb
 have HW:=hid h
 have HL:=hid hL
 clear hb h hL
 subst hn
 go_enter func17,ntmps17
 go_wp2_with fail
 go_loopw [9] (fun i wr=>∃ k:Nat,k≤ns.length∧i=.int .i64 (k:Int)∧WS B wr p (l++nums (ns.take k))∧aG B [51,5] w wr) (fun i _=>ns.length - (intOf i).toNat)
 case atStart=>exact⟨0,Nat.zero_le _,rfl,by simpa [nums] using HW.out,aG.refl _ _ _⟩
 case round =>
  obtain⟨k,hk,rfl,hws,ht⟩:=hrel
  by_cases hz:k<ns.length
  ·obtain⟨ad,x,rfl,hx,hc⟩:=(HL.out.cZ ht (by decide)).int hz
   have hxb:=HB.out x (List.mem_of_getElem? hx)
   have q0:=hxb.1
   have Q1:=hid hxb.2
   have ll:=Dl (ns.take k)
   rw [List.length_take,Nat.min_eq_left hk] at ll
   have HN:=hid (ko hx)
   have HT:=hid ht
   clear hxb ht hx
   by_cases hlo:x<128
   ·have e:=ug q0 hlo
    have E:=hid e
    clear e
    go_wp2_with (go_at_call 53;refine (jo _ _ q0 hlo).mono ?_;rintro e w' ⟨rfl,rfl⟩)
    refine (oL (Cd.iP x.toNat 0) hws E.out.1 (by rw [List.length_append];omega)).mono ?_
    rintro e w' ⟨rfl,hw2,t2⟩
    have HT2:=hid t2
    clear t2
    go_wp2
    go_roundw
    case rel=>exact⟨k+1,by omega,by go_num,by rw [HN.out,rX,E.out.2,← List.append_assoc];exact hw2,HT.out.trans HT2.out⟩
    case measure=>simp [intOf];omega
   ·have e:=uf (n:=x) (by omega)
    have E:=hid e
    have wp:=Cd.dZ x.toNat
    clear e
    go_wp2_with (go_at_call 53;refine (lK _ _ (by omega) Q1.out).mono ?_;rintro e w' ⟨rfl,rfl⟩)
    refine (oL (UInt8.ofNat (128+Cd.wid x.toNat)) hws E.out.1 (by rw [List.length_append];omega)).mono ?_
    rintro e w' ⟨rfl,hw2,t2⟩
    have HT2:=hid t2
    clear t2
    go_wp2_with fail
    refine (zy (k:=Cd.wid x.toNat) (by omega) hw2 q0 Q1.out wp.2 (by rw [List.length_append,List.length_append,List.length_singleton];omega)).mono ?_
    rintro e w' ⟨rfl,hw3,t3⟩
    have HT3:=hid t3
    clear t3
    go_wp2
    go_roundw
    case rel=>exact⟨k+1,by omega,by go_num,by rw [HN.out,rX,E.out.2,← List.append_assoc,← List.append_assoc];exact hw3,(HT.out.trans HT2.out).trans HT3.out⟩
    case measure=>simp [intOf];omega
  ·obtain rfl:k=ns.length:=by omega
   go_wp2
   go_end0
   refine⟨rfl,?_,ht⟩
   rw [List.take_length] at hws
   exact hws
theorem sD {B p g:Nat} {l:List UInt8} {x:Int} {w:World} (m:Nat) (hg:g=w.heap.size) (h:WS B w p l) (hx:x=(m:Int)) (hm:m<18446744073709551616) (hs:l.length+9≤1000000000000) :
  Calls prog 17 #[.pointer (some ⟨p,0,none⟩),.slice (some ⟨g,0,none⟩) 1 1] (w.alloc (.cells #[.int .u64 x] 22)) fun e w'=>e=.returned (.tuple #[])∧WS B w' p (l++Cd.num m)∧aG B [51,5] w w':=by
 subst hg
 subst hx
 have hL:av (w.alloc (.cells #[.int .u64 (m:Int)] 22)) B 22 (some ⟨w.heap.size,0,none⟩) ([(m:Int)].map (Value.int .u64)):=av.dD (heap_alloc_new w _)
 refine (wN_c (h.alloc _) hL rfl (by intro n hn;simp at hn;subst hn;omega) (by simpa using hs)).mono fun e w' q=>⟨q.1,by simpa [nums] using q.2.1,?_⟩
 exact (((aG.refl B _ w).alloc h.size _).trans q.2.2)
theorem wF_c {B p:Nat} {l:List UInt8} {f:Nat} {w:World} (h:WS B w p l) (h1:f<18446744073709551616) (hs:l.length+9≤1000000000000) :
  Calls prog 58 #[.pointer (some ⟨p,0,none⟩),.float .f64 f] w fun e w'=>e=.returned (.tuple #[])∧WS B w' p (l++Cd.fix (Fl.key f).toNat 8)∧aG B [51,5] w w':=by
 have kb:=hid (Fl.eX f)
 have H1:=hid h1
 clear h1
 go_enter func58,ntmps58
 go_wp2_with (go_at_call 99;refine (rW _ _ H1.out).mono ?_;rintro e w' ⟨rfl,rfl⟩)
 refine (zy (k:=8) rfl h kb.out.1 kb.out.2 (by omega) (by omega)).mono ?_
 rintro e w' ⟨rfl,hw,t⟩
 have HT:=hid t
 clear t
 go_wp2
 go_end0
 exact⟨rfl,hw,HT.out⟩
theorem wG_c {B p:Nat} {l:List UInt8} {g:Bool} {w:World} (h:WS B w p l) (hs:l.length+9≤1000000000000) :
  Calls prog 57 #[.pointer (some ⟨p,0,none⟩),.bool g] w fun e w'=>e=.returned (.tuple #[])∧WS B w' p (l++[if g=true then 1 else 0])∧aG B [51,5] w w':=by
 cases g
 ·go_enter func57,ntmps57
  go_wp2_with fail
  refine (oL 0 h rfl (by omega)).mono ?_
  rintro e w' ⟨rfl,hw,t⟩
  have HT:=hid t
  clear t
  go_wp2
  go_end0
  exact⟨rfl,hw,HT.out⟩
 ·go_enter func57,ntmps57
  go_wp2_with fail
  refine (oL 1 h rfl (by omega)).mono ?_
  rintro e w' ⟨rfl,hw,t⟩
  have HT:=hid t
  clear t
  go_wp2
  refine bodyPost_ret (results_none rfl _ _ _) rfl ?_
  exact⟨rfl,hw,HT.out⟩
end
section
open Go.RowKit
structure AY where
 pt:Cd.Pt
 A:Option Addr
 c:Nat
def AY.cells (m:AY):List Value:=[.int .i64 m.pt.kind,.int .u64 m.pt.n,.int .i64 m.pt.i,.float .f64 m.pt.f,.slice m.A m.pt.b.length m.c,.bool m.pt.is]
def flat (ms:List AY):List Value:=ms.flatMap AY.cells
def AY.fine (m:AY) (w:World) (B:Nat) (tb:TypeId):Prop:=av w B tb m.A (af m.pt.b)∧m.pt.b.length≤m.c
def PL (w:World) (B:Nat) (tp tb:TypeId) (A:Option Addr) (ms:List AY):Prop:=av w B tp A (flat ms)∧∀ m∈ms,m.fine w B tb
theorem Cs (ms:List AY):(flat ms).length=ms.length * 6:=by
 induction ms with
 | nil=>rfl
 | cons m ms ih=>simp only [flat,List.flatMap_cons,List.length_append,List.length_cons] at ih ⊢;rw [ih];simp [AY.cells];omega
theorem flat_at {ms:List AY} {k:Nat} {m:AY} (h:ms[k]?=some m) {j:Nat} (hj:j<6):(flat ms)[k * 6+j]?=m.cells[j]?:=by
 induction ms generalizing k with
 | nil=>simp at h
 | cons q ms ih =>
  have hq:q.cells.length=6:=rfl
  cases k with
  | zero =>
   simp only [List.getElem?_cons_zero,Option.some.injEq] at h
   subst h
   simp only [flat,List.flatMap_cons,Nat.zero_mul,Nat.zero_add]
   rw [List.getElem?_append_left (by omega)]
  | succ k =>
   simp only [List.getElem?_cons_succ] at h
   have:=ih h
   simp only [flat,List.flatMap_cons] at this ⊢
   rw [List.getElem?_append_right (by omega),hq,show (k+1) * 6+j - 6=k * 6+j by omega]
   exact this
theorem PL.nil {w:World} {B:Nat} {tp tb:TypeId} {A:Option Addr}:PL w B tp tb A []:=⟨av.nil,by simp⟩
section
variable {w w' : World} {B B' : Nat} {tp tb tp' tb' : TypeId} {A : Option Addr} {ms : List AY}
theorem PL.at_ (h:PL w B tp tb A ms) {k:Nat} (hk:k<ms.length):∃ ad m,A=some ad∧ms[k]?=some m∧m.fine w B tb ∧
  w.cell? (ad.add (k * 6))=some (.int .i64 m.pt.kind)∧w.cell? ⟨(ad.add (k * 6)).block,(ad.add (k * 6)).off+1,none⟩=some (.int .u64 m.pt.n) ∧
  w.cell? ⟨(ad.add (k * 6)).block,(ad.add (k * 6)).off+2,none⟩=some (.int .i64 m.pt.i)∧w.cell? ⟨(ad.add (k * 6)).block,(ad.add (k * 6)).off+3,none⟩=some (.float .f64 m.pt.f) ∧
  w.cell? ⟨(ad.add (k * 6)).block,(ad.add (k * 6)).off+4,none⟩=some (.slice m.A m.pt.b.length m.c)∧w.cell? ⟨(ad.add (k * 6)).block,(ad.add (k * 6)).off+5,none⟩=some (.bool m.pt.is):=by
 have hx:ms[k]?=some ms[k]:=List.getElem?_eq_getElem hk
 obtain⟨ad,e,_,hc⟩:=h.1 (fun q=>by
  have:=Cs ms
  rw [q] at this
  simp at this
  omega)
 have c:∀ j u,j<6→(ms[k]).cells[j]?=some u→w.cell? ((ad.add (k * 6)).add j)=some u:=fun j u hj hu=>by
  rw [addr_add]
  exact hc _ _ ((flat_at hx hj).trans hu)
 refine⟨ad,ms[k],e,hx,h.2 _ (List.getElem_mem hk),?_,?_,?_,?_,?_,?_⟩
 ·exact c 0 _ (by omega) rfl
 ·exact c 1 _ (by omega) rfl
 ·exact c 2 _ (by omega) rfl
 ·exact c 3 _ (by omega) rfl
 ·exact c 4 _ (by omega) rfl
 ·exact c 5 _ (by omega) rfl
end
end
section
open Go.RowKit
theorem kV {B:Nat} {l:List UInt8} {A:Option Addr} {c m:Nat} {n:Int} {w:World} (h:w.ownsRow B 5 1 (.slice A m c) l.length (af l)) (hB:B≤w.heap.size)
  (h0:0≤n) (h1:n<18446744073709551616) (hs:l.length+9≤1000000000000) :
  Calls prog 23 #[.slice A m c,.int .u64 n] w (nK B (l++Cd.num n.toNat) w):=by
 have H1:=hid h1
 have HO:=hid h
 obtain⟨rfl,_⟩:=aA h
 clear h1 h
 obtain⟨i0,hi,hz0,hz1,hz2⟩:=info_parts Tryz.infoU8
 by_cases hlo:n<128
 ·have E:=hid (ug h0 hlo)
  go_enter func23,ntmps23
  go_wp2_with (at_builtin;refine aO _ rfl _ _ 33 rfl B 5 i0 (.int .u8 0) 1 1 underlying33 hi hz0 hz1 hz2 rfl (by decide) _ l.length (af l) rfl (HO.out.alloc _) 0 _ 1 1 (af [Cd.iP n.toNat 0]) 5 rfl rfl (lS E.out.1 rfl) (aX _) (by unfold maxLen;omega) (by omega) (by simp;omega) ?_)
  intro v' w1 hown' hgrow _
  obtain⟨A2,k2,rfl⟩:=aL hown'
  have T1:=cB (HO.out.alloc _) hgrow (by simp;omega)
  have HT1:=hid (((aG.refl B _ w).alloc (by omega) _).trans T1)
  have oH:=hid hown'
  clear hown' hgrow T1
  go_wp2
  go_ret
  exact⟨A2,_,k2,rfl,by rw [E.out.2,bF,List.length_append];exact oH.out,HT1.out⟩
 ·obtain⟨b,E⟩:∃ b:UInt8,Hid (128+(Cd.wid n.toNat:Int)=(b.toNat:Int)∧Cd.num n.toNat=[b]++Cd.fix n.toNat (Cd.wid n.toNat)):=⟨_,uf (by omega)⟩
  have wp:=Cd.dZ n.toNat
  go_enter func23,ntmps23
  go_wp2_with (first
   | (go_at_call 61;refine (nH _ _ h0).mono ?_;rintro e w' ⟨rfl,rfl⟩)
   | (at_builtin;refine aO _ rfl _ _ 33 rfl B 5 i0 (.int .u8 0) 1 1 underlying33 hi hz0 hz1 hz2 rfl (by decide) _ l.length (af l) rfl (HO.out.alloc _) 0 _ 1 1 (af [b]) 5 rfl rfl (lS E.out.1 rfl) (aX _) (by unfold maxLen;omega) (by omega) (by simp;omega) ?_))
  intro v' w1 hown' hgrow _
  obtain⟨A2,k2,rfl⟩:=aL hown'
  have T1:=cB (HO.out.alloc _) hgrow (by simp;omega)
  have hz1:=T1.size
  have HT1:=hid (((aG.refl B _ w).alloc (by omega) _).trans T1)
  have ho2:w1.ownsRow B 5 1 (.slice A2 (l.length+1) k2) (l++[b]).length (af (l++[b])):=by
   rw [bF,List.length_append];exact hown'
  have oH:=hid ho2
  clear hown' hgrow T1 ho2
  go_wp2_with fail
  refine (oD (l:=l++[b]) (k:=Cd.wid n.toNat) rfl oH.out (by simp at hz1;omega) h0 H1.out wp.2 (by simp;omega)).mono ?_
  rintro e w' ⟨A3,m3,k3,rfl,ho3,t3⟩
  have HO3:=hid ho3
  have HT3:=hid t3
  clear ho3 t3
  go_wp2
  go_ret
  exact⟨A3,m3,k3,rfl,by rw [E.out.2,← List.append_assoc];exact HO3.out,HT1.out.trans HT3.out⟩
theorem rF_c {B:Nat} {l:List UInt8} {A:Option Addr} {c m:Nat} {f:Nat} {w:World} (h:w.ownsRow B 5 1 (.slice A m c) l.length (af l)) (hB:B≤w.heap.size)
  (h1:f<18446744073709551616) (hs:l.length+9≤1000000000000) :
  Calls prog 65 #[.slice A m c,.float .f64 f] w (nK B (l++Cd.fix (Fl.key f).toNat 8) w):=by
 have kb:=hid (Fl.eX f)
 have H1:=hid h1
 have HO:=hid h
 clear h1 h
 go_enter func65,ntmps65
 go_wp2_with (go_at_call 102;refine (dU _ _ H1.out).mono ?_;rintro e w' ⟨rfl,rfl⟩)
 refine (oD (k:=8) rfl HO.out hB kb.out.1 kb.out.2 (by omega) (by omega)).mono ?_
 rintro e w' ⟨A3,m3,k3,rfl,ho3,t3⟩
 have HO3:=hid ho3
 have HT3:=hid t3
 clear ho3 t3
 go_wp2
 go_ret
 exact⟨A3,m3,k3,rfl,HO3.out,HT3.out⟩
theorem rG_c {B:Nat} {l:List UInt8} {A:Option Addr} {c m:Nat} {g:Bool} {w:World} (h:w.ownsRow B 5 1 (.slice A m c) l.length (af l)) (hB:B≤w.heap.size) (hs:l.length+9≤1000000000000) :
  Calls prog 66 #[.slice A m c,.bool g] w (nK B (l++[if g=true then 1 else 0]) w):=by
 have HO:=hid h
 obtain⟨rfl,_⟩:=aA h
 clear h
 obtain⟨i0,hi,hz0,hz1,hz2⟩:=info_parts Tryz.infoU8
 cases g
 ·go_enter func66,ntmps66
  go_wp2_with (at_builtin;refine aO _ rfl _ _ 33 rfl B 5 i0 (.int .u8 0) 1 1 underlying33 hi hz0 hz1 hz2 rfl (by decide) _ l.length (af l) rfl (HO.out.alloc _) 0 _ 1 1 (af [0]) 5 rfl rfl (lS rfl rfl) (aX _) (by unfold maxLen;omega) (by omega) (by simp;omega) ?_)
  intro v' w1 hown' hgrow _
  obtain⟨A2,k2,rfl⟩:=aL hown'
  have T1:=cB (HO.out.alloc _) hgrow (by simp;omega)
  have HT1:=hid (((aG.refl B _ w).alloc (by omega) _).trans T1)
  have oH:=hid hown'
  clear hown' hgrow T1
  go_wp2
  go_ret
  exact⟨A2,_,k2,rfl,by rw [bF,List.length_append];exact oH.out,HT1.out⟩
 ·go_enter func66,ntmps66
  go_wp2_with (at_builtin;refine aO _ rfl _ _ 33 rfl B 5 i0 (.int .u8 0) 1 1 underlying33 hi hz0 hz1 hz2 rfl (by decide) _ l.length (af l) rfl (HO.out.alloc _) 0 _ 1 1 (af [1]) 5 rfl rfl (lS rfl rfl) (aX _) (by unfold maxLen;omega) (by omega) (by simp;omega) ?_)
  intro v' w1 hown' hgrow _
  obtain⟨A2,k2,rfl⟩:=aL hown'
  have T1:=cB (HO.out.alloc _) hgrow (by simp;omega)
  have HT1:=hid (((aG.refl B _ w).alloc (by omega) _).trans T1)
  have oH:=hid hown'
  clear hown' hgrow T1
  go_wp2
  go_ret
  exact⟨A2,_,k2,rfl,by rw [bF,List.length_append];exact oH.out,HT1.out⟩
end
end
end Go.Proofs.YtmcfknnfaokmlaaGreat
