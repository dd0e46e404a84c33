import Derived.Test.YtcmiompdjjiojaaGreatZ36
namespace Go.Proofs.YtcmiompdjjiojaaGreat
set_option maxHeartbeats 16000000
open Go.Lib Go.Proofs.Tryz
set_option linter.unusedSimpArgs false
set_option maxRecDepth 100000
section
section
open Go.RowKit Go.Lib Go.Shelf
theorem ni (xs:List It) {i:Nat} (hi:i≤xs.length):(ax xs).drop (i * 8)=ax (xs.drop i):=by
 have e:ax xs=ax (xs.take i)++ax (xs.drop i):=by rw [← jH,List.take_append_drop]
 rw [e,List.drop_left' (by rw [dw,List.length_take,Nat.min_eq_left hi])]
theorem uW (xs:List It) {i:Nat} (hi:i≤xs.length):(ax xs).take (i * 8)=ax (xs.take i):=by
 have e:ax xs=ax (xs.take i)++ax (xs.drop i):=by rw [← jH,List.take_append_drop]
 rw [e,List.take_left' (by rw [dw,List.length_take,Nat.min_eq_left hi])]
theorem nz {A:Option Addr} {c i B:Nat} {t:TypeId} {xs:List It} {w:World} (h:au w B t A (ax xs)) (hi:i≤xs.length) (hc:xs.length≤c):au w B t (if c=i then A else A.map (·.add (i * 8))) (ax (xs.drop i)):=by
 rw [← ni xs hi]
 by_cases e:c=i
 ·rw [if_pos e]
  have:(ax xs).drop (i * 8)=[]:=List.drop_eq_nil_of_le (by rw [dw];omega)
  rw [this]
  exact au.nil
 ·rw [if_neg e]
  have q:=h.cut (i * 8) (i * 8+(ax xs).length+1) (by omega)
  rwa [if_neg (by omega)] at q
theorem nA {A:Option Addr} {i B:Nat} {t:TypeId} {xs:List It} {w:World} (h:au w B t A (ax xs)) (hi:i≤xs.length):au w B t A (ax (xs.take i)):=by
 rw [← uW xs hi]
 exact h.take _
def gP (b:Bool) (xs:List It) (w:World) (e:Ending) (w':World):Prop:=∃ (A:Option Addr) (c:Nat),e=.returned (.tuple #[.slice A xs.length c,.bool b])∧w'.ownsRow w.heap.size 59 8 (.slice A xs.length c) xs.length (ax xs)∧Below w.heap.size w w'
section
variable {base g lp first fr n c : Nat} {bs : T9.St} {ms : List T9.Mu} {A : Option Addr} {W W' : World}
theorem DU {v:Nat} {m:Int} (h:iZ base g lp first fr n c bs ms A W) (hv:¬ (first+fr≤v∧v≤first+ms.length)):Calls prog 17 #[.pointer (some ⟨g,0,none⟩),.int .u64 (v:Int),.int .i64 m] W (gP false [] W):=by
 have TE:=hid (kw (v:=v) (b:=false) h (decide_eq_false hv).symm)
 clear h hv
 go_enter func17,ntmps17
 go_wp2_with fail
 refine TE.out.mono ?_
 rintro e w2 ⟨rfl,b2⟩
 have B2:=hid b2
 clear b2
 go_wp2
 go_ret2
 exact⟨none,0,rfl,World.ownsRow_nil _ _ _ _,B2.out⟩
theorem AX {v i:Nat} {m:Int} {xs:List It} (h:iZ base g lp first fr n c bs ms A W) (row:W.ownsRow base 59 8 (.slice A n c) n (ax xs)) (hx:n=xs.length) (hv:v=first+fr+i) (hi:i≤n):Calls prog 17 #[.pointer (some ⟨g,0,none⟩),.int .u64 (v:Int),.int .i64 m] W (gP true ((xs.drop i).take m.toNat) W):=by
 have mb:=h.mb
 have vb:=h.vb
 have hl:=h.len
 have TE:=hid (kw (v:=v) (b:=true) h (decide_eq_true (by omega)).symm)
 obtain⟨b,hb⟩:=nm (first+fr)
 have BE:=hid (show ∀ u,Below W.heap.size W u→Calls prog 18 #[.pointer (some ⟨g,0,none⟩)] u fun e w'=>e=.returned (.int .u64 (b:Int))∧Below u.heap.size u w' from fun u hu=>by rw [← hb];exact qh (h.stay hu))
 have HC:=hid (show ∀ u,Below W.heap.size W u→u.cell? ⟨g,2,none⟩=some (.slice A n c) from fun u hu=>(h.stay hu).cells.2.2)
 have hw:IntKind.u64.wrap ((v:Int) - (b:Int))=(i:Int):=by rw [fQ] <;> omega
 have nc:n≤c:=(aO row).2
 have i0:0≤(i:Int):=by omega
 have i1:(i:Int)≤(n:Int):=by omega
 obtain⟨AC,hAC⟩:=nm ((if c=i then A else A.map (·.add (i * 8))))
 have LI:Hid (∀ u,Below W.heap.size W u→au u 0 59 AC (ax (xs.drop i))):=hid fun u hu=>by
  rw [← hAC]
  exact nz (aH (B:=0) (own_below row hu)) (by omega) (by omega)
 obtain⟨r,hr⟩:=nm (n - i)
 have HR:Hid ((xs.drop i).length=r):=hid (by rw [List.length_drop];omega)
 obtain⟨cc,hcc⟩:=nm (c - i)
 have rc:(r:Int)≤(cc:Int):=by omega
 have rs:Hid (r≤1000000):=hid (by omega)
 obtain⟨j,hj⟩:=nm (min m.toNat r)
 have jr:Hid (j≤r):=hid (by omega)
 have TK:Hid ((xs.drop i).take m.toNat=(xs.drop i).take j):=hid (by
  rw [← hj]
  rcases Nat.le_total m.toNat r with q | q
  ·rw [Nat.min_eq_left q]
  ·rw [Nat.min_eq_right q,List.take_of_length_le (by rw [HR.out];exact q),List.take_of_length_le (by rw [HR.out];exact Nat.le_refl _)])
 have jc:(j:Int)≤(cc:Int):=by omega
 have j0:0≤(j:Int):=by omega
 have hmm:∃ M:Int,max m 0=M∧min M (r:Int)=(j:Int):=⟨_,rfl,by omega⟩
 obtain⟨M,hm1,hm2⟩:=hmm
 clear h row hb mb vb hl hv hx hj
 go_enter func17,ntmps17
 go_wp2_with fail
 refine TE.out.mono ?_
 rintro e w2 ⟨rfl,b2⟩
 have B2:=hid b2
 clear b2
 go_wp2_with fail
 refine wp_region_held_drew (S:=fun u=>Below W.heap.size W u) (by kernel_rfl) (B2.out.drew) (fun S0=>?_)
 generalize w2.drew=wd at S0 ⊢
 refine av 0 S0 ?_
 refine av 1 S0 ?_
 refine av 2 S0 ?_
 refine av 3 S0 ?_ (hy:=by intro u hu;have c2:=HC.out u hu;clear hu;go_simp;try rfl)
 refine av 4 S0 ?_
 refine av 5 S0 ?_
 refine fw 6 fun K hK=>?_
 go_simp
 refine (BE.out wd S0).mono ?_
 rintro e w3 ⟨rfl,h3⟩
 have S1:=S0.trans (h3.mono S0.size)
 refine hK _ _ S1 ?_
 clear h3
 clear hK K S0
 have S0:=S1
 clear S1
 try simp only [Act.put,pS]
 refine av 7 S0 ?_
 refine av 8 S0 ?_
 refine av 9 S0 ?_
 refine wpAnyH_done (by kernel_rfl) ?_ _
 have CI:=hid (uE (A:=AC) (n:=j) (c:=cc) (B:=0) (t:=59) (xs:=(xs.drop i).take j) (w:=w3) (nA (LI.out w3 S0) (by rw [HR.out];exact jr.out)) (Nat.zero_le _) (by rw [List.length_take,HR.out];have:=jr.out;omega) (by have:=jr.out;have:=rs.out;omega))
 unfold p8 at CI
 have S3:=hid S0
 clear S0
 go_wp2_with fail
 refine CI.out.mono ?_
 rintro e w4 ⟨A4,c4,rfl,II,hb4⟩
 have O4:=hid II
 have B4:=hid (S3.out.trans (hb4.mono S3.out.size))
 clear II hb4
 go_wp2
 go_ret2
 rw [TK.out]
 have hl:((xs.drop i).take j).length=j:=by rw [List.length_take,HR.out];have:=jr.out;omega
 exact⟨A4,c4,by rw [hl] <;> rfl,by rw [hl];exact l_ O4.out S3.out.size,B4.out⟩
theorem Cr {t:Nat} (h:lN base lp bs ms fr W) (hs:ms.length≤100000) (h1:fr≤t) (h2:t≤ms.length):Calls prog 32 #[.pointer (some ⟨lp,0,none⟩),.int .i64 (t:Int)] W fun e w'=>e=.returned (.bool true)∧lN base lp bs ms t w'∧aM base [88] W w'∧∀ k,k<W.heap.size→k≠lp→w'.heap[k]?=W.heap[k]?:=by
 refine (h.trim (t:=(t:Int)) (b:=true) hs (decide_eq_true (by omega)).symm).mono ?_
 rintro e w' ⟨fr',rfl,a,b,y,_,f⟩
 obtain rfl:fr'=t:=by have:=y rfl;omega
 exact⟨rfl,a,b,f⟩
theorem yC {v:Nat} (h:iZ base g lp first fr n c bs ms A W) (hv:¬ (first+fr≤v∧v≤first+ms.length)):Calls prog 12 #[.pointer (some ⟨g,0,none⟩),.int .u64 (v:Int)] W fun e w'=>e=.returned (.bool false)∧Below W.heap.size W w':=by
 have TE:=hid (kw (v:=v) (b:=false) h (decide_eq_false hv).symm)
 clear h hv
 go_enter func12,ntmps12
 go_wp2_with fail
 refine TE.out.mono ?_
 rintro e w2 ⟨rfl,b2⟩
 have B2:=hid b2
 clear b2
 go_wp2
 go_ret
 exact⟨rfl,B2.out⟩
theorem oQ (v:Nat) (W:World):Calls prog 12 #[.pointer none,.int .u64 (v:Int)] W fun e w'=>e=.returned (.bool false)∧W=w':=by
 have TE:=hid (sS v W)
 go_enter func12,ntmps12
 go_wp2_with fail
 refine TE.out.mono ?_
 rintro e w2 ⟨rfl,rfl⟩
 go_wp2
 go_ret
 exact⟨rfl,rfl⟩
def IU (base g lp first fr n:Nat) (bs:T9.St) (ms:List T9.Mu) (xs:List It) (w:World) (e:Ending) (w':World):Prop:=∃ (A:Option Addr) (c:Nat),e=.returned (.bool true)∧iZ base g lp first fr n c bs ms A w'∧w'.ownsRow base 59 8 (.slice A n c) n (ax xs) ∧
 aM base [72,88] w w'∧(∀ k,k<w.heap.size→k≠g→k≠lp→w'.heap[k]?=w.heap[k]?)∧∀ k,(Value.slice A n c).ownBlock=some k→w.heap.size≤k
theorem wR {v i:Nat} {xs:List It} (h:iZ base g lp first fr n c bs ms A W) (row:W.ownsRow base 59 8 (.slice A n c) n (ax xs)) (hx:n=xs.length) (low:base≤g) (hv:v=first+fr+i) (hi:i≤n):Calls prog 12 #[.pointer (some ⟨g,0,none⟩),.int .u64 (v:Int)] W (IU base g lp first (fr+i) (n - i) bs ms (xs.drop i) W):=by
 have mb:=h.mb
 have vb:=h.vb
 have hl:=h.len
 have bl:base≤W.heap.size:=Nat.le_trans low (Nat.le_of_lt (lt_of_block h.blk))
 have TE:=hid (kw (v:=v) (b:=true) h (decide_eq_true (by omega)).symm)
 obtain⟨b,hb⟩:=nm (first+fr)
 have BE:=hid (show ∀ u,Below W.heap.size W u→Calls prog 18 #[.pointer (some ⟨g,0,none⟩)] u fun e w'=>e=.returned (.int .u64 (b:Int))∧Below u.heap.size u w' from fun u hu=>by rw [← hb];exact qh (h.stay hu))
 have HH:=hid h
 have HC:=hid (show ∀ u,Below W.heap.size W u→u.cell? ⟨g,2,none⟩=some (.slice A n c) from fun u hu=>(h.stay hu).cells.2.2)
 have hw:IntKind.u64.wrap ((v:Int) - (b:Int))=(i:Int):=by rw [fQ] <;> omega
 obtain⟨q,hq⟩:=nm (fr+i)
 have hw2:IntKind.u64.wrap ((v:Int) - (first:Int))=(q:Int):=by rw [fQ] <;> omega
 have hw3:IntKind.i64.wrap (q:Int)=(q:Int):=zL (by omega) (by omega)
 have nc:n≤c:=(aO row).2
 have i0:0≤(i:Int):=by omega
 have i1:(i:Int)≤(n:Int):=by omega
 obtain⟨AC,hAC⟩:=nm ((if c=i then A else A.map (·.add (i * 8))))
 have LI:Hid (∀ u,Below W.heap.size W u→au u 0 59 AC (ax (xs.drop i))):=hid fun u hu=>by
  rw [← hAC]
  exact nz (aH (B:=0) (own_below row hu)) (by omega) (by omega)
 obtain⟨r,hr⟩:=nm (n - i)
 have HR:Hid ((xs.drop i).length=r):=hid (by rw [List.length_drop];omega)
 obtain⟨cc,hcc⟩:=nm (c - i)
 have QR:Hid (fr≤q∧q+r=ms.length∧ms.length≤100000∧r≤1000000):=hid (by omega)
 have LOW:=hid low
 have BL:=hid bl
 rw [hq,hr]
 clear h row hb mb vb hl hv hx hi hq low bl
 go_enter func12,ntmps12
 go_wp2_with fail
 refine TE.out.mono ?_
 rintro e w2 ⟨rfl,b2⟩
 have B2:=hid b2
 clear b2
 go_upto_region 3 with fail
 refine (wpIn_wide (n:=9)).1 (dK.begin (S:=fun u=>Below W.heap.size W u) (st:=13) (by kernel_rfl) ?_)
 have S0:Below W.heap.size W w2.drew:=B2.out.drew
 generalize w2.drew=wd at S0 ⊢
 refine mr 0 S0 ?_
 refine mr 1 S0 ?_
 refine mr 2 S0 ?_
 refine mr 3 S0 ?_
 refine mr 4 S0 ?_ (hy:=by intro u hu;have c2:=HC.out u hu;clear hu;go_simp;try rfl)
 refine mr 5 S0 ?_
 refine mr 6 S0 ?_
 refine dK.nH (fun _=>trivial) (by kernel_rfl) eH (i:=7) (by kernel_rfl) rfl (fun K hK=>?_)
 go_simp
 refine (BE.out wd S0).mono ?_
 rintro e w3 ⟨rfl,h3⟩
 have S1:Below W.heap.size W w3:=S0.trans (h3.mono S0.size)
 refine hK _ _ (fun _ _=>S1) ?_
 clear hK K S0 h3
 have S0:=S1
 clear S1
 try simp only [Act.put,pS]
 refine mr 8 S0 ?_
 refine mr 9 S0 ?_
 refine dK.nH (fun _=>trivial) (by kernel_rfl) eH (i:=10) (by kernel_rfl) rfl (fun K hK=>?_)
 go_simp
 have CI:=uE (A:=AC) (n:=r) (c:=cc) (B:=0) (t:=59) (xs:=xs.drop i) (w:=w3) (LI.out w3 S0) (Nat.zero_le _) HR.out.symm QR.out.2.2.2
 unfold p8 at CI
 refine CI.mono ?_
 rintro e w4 ⟨A4,c4,rfl,II,hb4⟩
 have S1:Below W.heap.size W w4:=S0.trans (hb4.mono S0.size)
 refine hK _ _ (fun _ _=>S1) ?_
 have O4:=hid II
 have Z3:=hid S0.size
 clear hK K S0 II hb4 CI
 have S0:=S1
 clear S1
 try simp only [Act.put,pS]
 refine dK.nH (fun _=>trivial) (by kernel_rfl) eH (i:=11) (by kernel_rfl) rfl (fun K hK=>?_)
 go_simp
 refine hK _ _ (fun _ _=>S0) ?_
 clear hK K
 try simp only [Act.put,pS]
 refine dK.nH (fun _=>trivial) (by kernel_rfl) eH (i:=12) (by kernel_rfl) rfl (fun K hK=>?_)
 go_simp
 refine hK _ _ (fun _ _=>S0) ?_
 clear hK K
 try simp only [Act.put,pS]
 refine dK.nH (fun _=>trivial) (by kernel_rfl) eH (i:=13) (by kernel_rfl) rfl (fun K hK=>?_)
 have H4:=HH.out.stay S0
 have gb:=H4.blk
 obtain⟨g0,g1,g2⟩:=f_ gb
 have xG:=af gb 0
 have xH:=af gb 1
 have gf2:=af gb 2
 go_simp
 obtain⟨vz,jQ⟩:=nm (w4.setCell ⟨g,2,none⟩ (.slice A4 r c4))
 try rw [jQ]
 refine hK _ _ (fun _ h=>absurd rfl h) ?_
 have lz:vz.heap[g]?=some (.cells #[.int .u64 (first:Int),.pointer (some ⟨lp,0,none⟩),.slice A4 r c4] 72 (0,0)):=by rw [← jQ];exact ah gb 2 _
 have tz:aM base [72] w4 vz:=by rw [← jQ];exact (aM.refl _ _ w4).setCell (p:=⟨g,2,none⟩) gb (by simp) LOW.out _
 have FZ:Hid (∀ k,k≠g→vz.heap[k]?=w4.heap[k]?):=hid (fun k hk=>by rw [← jQ];exact Below.heap_setCell _ _ _ k hk)
 have LZ:=hid lz
 have TZ:=hid tz
 have S4:=hid S0
 have LINE:=hid (H4.line.bE tz (by decide) (by decide) (by decide) (by decide) (by decide))
 clear hK K S0 H4 gb g0 g1 g2 xG xH gf2 jQ lz tz
 try simp only [Act.put,pS]
 refine dK.done (by kernel_rfl) ⟨rfl,?_⟩
 go_wp2_with fail
 refine wp_region_held_drew (S:=fun u=>aM base [88] vz u) (by kernel_rfl) ((aM.refl base [88] vz).drew) (fun S0=>?_)
 have LD:Hid (lN base lp bs ms fr vz.drew∧vz.drew.heap.size=vz.heap.size∧∀ k:Nat,vz.drew.heap[k]?=vz.heap[k]?):=hid ⟨LINE.out.bE ((aM.refl base [] vz).drew) (by simp) (by simp) (by simp) (by simp) (by simp),rfl,fun _=>rfl⟩
 generalize vz.drew=wd at S0 LD ⊢
 refine av 0 S0 ?_
 refine av 1 S0 ?_
 refine av 2 S0 ?_
 refine av 3 S0 ?_ (hy:=by intro u hu;obtain⟨d0,d1,d2⟩:=f_ (hu.blk LZ.out (by decide));clear hu;go_simp;try rfl)
 refine av 4 S0 ?_
 refine av 5 S0 ?_
 refine av 6 S0 ?_
 refine av 7 S0 ?_
 refine av 8 S0 ?_ (hy:=by intro u hu;obtain⟨d0,d1,d2⟩:=f_ (hu.blk LZ.out (by decide));clear hu;go_simp;try rfl)
 refine av 9 S0 ?_
 refine av 10 S0 ?_
 refine fw 11 fun K hK=>?_
 go_simp
 have CT:=Cr (t:=q) LD.out.1 QR.out.2.2.1 QR.out.1 (by have:=QR.out;omega)
 refine CT.mono ?_
 rintro e w5 ⟨rfl,hf5,ht5,hk5⟩
 have S1:aM base [88] vz w5:=S0.trans ht5
 refine hK _ _ S1 ?_
 have LF:=hid hf5
 have K5:Hid (∀ k,k<vz.heap.size→k≠lp→w5.heap[k]?=vz.heap[k]?):=hid (fun k h1 h2=>(hk5 k (by rw [LD.out.2.1];exact h1) h2).trans (LD.out.2.2 k))
 clear hK K S0 hf5 ht5 hk5 CT
 have S0:=S1
 clear S1
 try simp only [Act.put,pS]
 refine av 12 S0 ?_
 refine wpAnyH_done (by kernel_rfl) ?_ _
 have T5:=hid S0
 clear S0
 go_wp2
 go_ret
 have h4:=S4.out
 have ow:=bX (bX (l_ O4.out (Nat.le_trans BL.out Z3.out)) TZ.out (by decide)) T5.out (by decide)
 refine⟨A4,c4,rfl,⟨T5.out.blk LZ.out (by decide),LF.out,QR.out.2.1,HH.out.mb,HH.out.vb,HH.out.bd,HH.out.km⟩,ow,((aM.of_below h4 BL.out _).trans (TZ.out.more (by simp))).trans (T5.out.more (by simp)),fun k h1 h2 h3=>?_,fun k hk=>?_⟩
 ·exact ((K5.out k (Nat.lt_of_lt_of_le h1 (Nat.le_trans h4.size TZ.out.size)) h3).trans (FZ.out k h2)).trans (h4.block k h1)
 ·exact Nat.le_trans Z3.out (bM O4.out k hk).1
end
end
end
section
section
open Go.RowKit Go.Lib Go.Shelf
section
variable {base g lp first fr n c : Nat} {bs : T9.St} {ms : List T9.Mu} {A : Option Addr} {W W' : World}
def LAdd17 (base lp fr:Nat) (bs:T9.St) (ms:List T9.Mu) (w:World) (e:Ending) (w':World):Prop:=∃ (eA:Option Addr) (en ec:Nat),e=.returned (.slice eA en ec)∧lN base lp bs ms fr w'∧aM base [88,26] w w'
theorem Ea {m cI:Nat} {AI:Option Addr} {ys:List It} (h:lN base lp bs ms fr W) (hm:ms.length≤900) (hd:T9.dX bs) (km:∀ m∈ms,m.ok) (hI:au W base 0 AI (ax ys)) (hn:m=ys.length) (hx:m≤1000) (ky:∀ x∈ys,x.m.ok∧x.m.text.length≤200):Calls prog 34 #[.pointer (some ⟨lp,0,none⟩),.slice AI m cI] W (LAdd17 base lp fr bs (ms++cZ ys) W):=by
 obtain⟨A,c,qs,a,hk,hp,hst⟩:=h.line
 have lastq:∀ q,qs[qs.length - 1]?=some q→q.st=T9.bZ bs ms:=fun q hq=>by
  rw [hst _ q hq,List.take_of_length_le (by omega)]
 refine (add14_c a h.low hp (by omega) lastq (T9.jd hd km) hI hn hx ky).mono ?_
 rintro e w' ⟨A',c',rs,eA,ec,rfl,hl,hrl,hrs,_,hT⟩
 refine⟨eA,m,ec,rfl,⟨⟨A',c',qs++rs,hl,by rw [List.length_append,List.length_append,gI];omega,by rw [List.length_append];omega,fun j q hq=>?_⟩,h.low⟩,hT⟩
 by_cases hj:j<qs.length
 ·rw [List.getElem?_append_left hj] at hq
  rw [hst j q hq,List.take_append_of_le_length (by omega)]
 ·rw [List.getElem?_append_right (by omega)] at hq
  rw [hrs _ q hq,List.take_append,List.take_of_length_le (show ms.length≤fr+j by omega),T9.kF,show fr+j - ms.length=j - qs.length+1 by omega]
def AddOk17 (base g lp first fr n:Nat) (bs:T9.St) (ms:List T9.Mu) (xs:List It) (v0:Value) (w:World) (e:Ending) (w':World):Prop:=∃ (A:Option Addr) (c:Nat),e=.returned (.tuple #[])∧iZ base g lp first fr n c bs ms A w'∧w'.ownsRow base 59 8 (.slice A n c) n (ax xs)∧aM base [72,88,26,59] w w' ∧
 (∀ k cs f,w.heap[k]?=some (.cells cs 59 f)→v0.ownBlock≠some k→w'.heap[k]?=w.heap[k]?)∧∀ k,(Value.slice A n c).ownBlock=some k→v0.ownBlock=some k∨w.heap.size≤k
theorem EZ {m cI:Nat} {AI:Option Addr} {xs ys:List It} (h:iZ base g lp first fr n c bs ms A W) (row:W.ownsRow base 59 8 (.slice A n c) n (ax xs)) (low:base≤g) (hm:ms.length≤500) (hv:first+ms.length+m≤4398046511104) (hI:au W base 0 AI (ax ys)) (hn:m=ys.length) (hx:m≤500) (ky:∀ x∈ys,x.m.ok∧x.m.text.length≤200) :
  Calls prog 14 #[.pointer (some ⟨g,0,none⟩),.slice AI m cI] W (AddOk17 base g lp first fr (n+m) bs (ms++cZ ys) (xs++ys) (.slice A n c) W):=by
 obtain⟨i0,hi,hz0,hz1,hz2⟩:=info_parts Tryz.infoI14
 have MD:=hid (qL h.cells.2.1)
 have LE:=hid (Ea (cI:=cI) h.line (by omega) h.bd h.km hI hn (by omega) ky)
 have bl:base≤W.heap.size:=Nat.le_trans low (Nat.le_of_lt (lt_of_block h.blk))
 obtain⟨c0,c1,c2⟩:=h.cells
 have HH:=hid h
 have LOW:=hid low
 have BL:=hid bl
 have HN:=hid hn
 have HI:=hid hI
 have RW:=hid row
 have NM:Hid (n+m≤1000∧first+(ms++cZ ys).length≤4398046511104∧(ms++cZ ys).length≤1000∧fr+(n+m)=(ms++cZ ys).length):=hid (by
  have:=h.len
  rw [List.length_append,gI]
  omega)
 have KM:Hid (∀ x∈ms++cZ ys,x.ok):=hid fun x hx=>by
  rcases List.mem_append.1 hx with q | q
  ·exact h.km x q
  ·exact Ha (fun y hy=>(ky y hy).1) x q
 clear h row low hm hv hI hn hx ky bl
 go_enter func14,ntmps14
 go_wp2_with fail
 refine MD.out.mono ?_
 rintro e w2 ⟨rfl,rfl⟩
 go_wp2_with fail
 refine LE.out.mono ?_
 rintro e w3 ⟨eA,en,ec,rfl,hf,ht⟩
 have B3:=ht.blk HH.out.blk (by decide)
 have LN:=hid hf
 have T3:=hid ht
 have R3:=hid (bX RW.out ht (by decide))
 have I3:=hid (HI.out.bE ht (by decide))
 clear c0 c1 c2
 obtain⟨c0,c1,c2⟩:=f_ B3
 have BK:=hid B3
 have z3:=ht.size
 clear B3 hf ht
 go_wp2_with (at_builtin;refine bL _ rfl _ _ 27 rfl base 59 i0 _ 8 72 underlying27 hi hz0 hz1 hz2 rfl (by decide) _ n (ax xs) rfl R3.out base AI m cI (ax ys) 0 rfl (by rw [dw,← HN.out]) I3.out (nu _) (by have:=NM.out;unfold maxLen;omega) (by have:=NM.out;omega) (by have:=BL.out;omega) ?_)
 intro v4 w4 hown hgrow hor
 obtain⟨A4,c4,rfl⟩:=aD hown
 have t4:aM base [59] w3 w4:=ed R3.out hgrow (Nat.le_refl _) (by have:=BL.out;omega) (by simp)
 have B4:=t4.blk BK.out (by decide)
 have O4:Hid (w4.ownsRow base 59 8 (.slice A4 (n+m) c4) (n+m) (ax (xs++ys))):=hid (by rw [jH];exact hown)
 have G4:=hid hgrow
 have OR:=hid hor
 have T4:=hid t4
 obtain⟨d0,d1,d2⟩:=f_ B4
 have xG:=af B4 0
 have xH:=af B4 1
 have gf2:=af B4 2
 have BK4:=hid B4
 clear hown hgrow hor t4 B4 c0 c1 c2
 go_wp2
 go_end0
 have tz:aM base [72] w4 (w4.setCell ⟨g,2,none⟩ (.slice A4 (n+m) c4)):=(aM.refl _ _ w4).setCell (p:=⟨g,2,none⟩) BK4.out (by simp) LOW.out _
 have lz:=ah BK4.out 2 (.slice A4 (n+m) c4)
 have LN2:=(LN.out.bE T4.out (by decide) (by decide) (by decide) (by decide) (by decide)).bE tz (by decide) (by decide) (by decide) (by decide) (by decide)
 refine⟨A4,c4,rfl,⟨lz,LN2,NM.out.2.2.2,NM.out.2.2.1,NM.out.2.1,HH.out.bd,KM.out⟩,bX O4.out tz (by decide),((T3.out.more (by decide)).trans (T4.out.more (by decide))).trans (tz.more (by decide)),fun k cs f hk hne=>?_,fun k hk=>?_⟩
 ·have e3:=T3.out.typed k cs _ f hk (by decide)
  have hk3:=e3.trans hk
  have e4:=G4.out.block k (lt_of_block hk3) (fun q=>hne q.symm)
  exact ((tz.typed k cs _ f (e4.trans hk3) (by decide)).trans e4).trans e3
 ·rcases OR.out with q | q
  ·exact .inl (q ▸ hk)
  ·right
   have:k=w3.heap.size:=by
    have:=hk.symm.trans q
    injection this
   have:=T3.out.size
   omega
theorem lN.less17 {b:Nat} (h:lN base lp bs ms fr W) (hb:b≤base):lN b lp bs ms fr W:=by
 obtain⟨A,c,qs,a,r⟩:=h.line
 exact⟨⟨A,c,qs,⟨a.blk,dA a.row hb,a.sm⟩,r⟩,Nat.le_trans hb h.low⟩
theorem iZ.less {b:Nat} (h:iZ base g lp first fr n c bs ms A W) (hb:b≤base):iZ b g lp first fr n c bs ms A W:=⟨h.blk,h.line.less17 hb,h.len,h.mb,h.vb,h.bd,h.km⟩
end
def vw (A:Option Addr):Option Nat:=A.map (·.block)
theorem uf (A:Option Addr) (n c:Nat):(Value.slice A n c).ownBlock=vw A:=by cases A <;> rfl
structure fq (base g lp:Nat) (A:Option Addr) (c N:Nat) (L:D17.Lg) (W:World):Prop where
 ex:∃ (first fr:Nat) (bs:T9.St) (ms:List T9.Mu),iZ base g lp first fr L.xs.length c bs ms A W∧first+fr=L.base∧T9.bZ bs (ms.take fr)=L.s∧ms.drop fr=cZ L.xs∧ms.length≤N
 row:W.ownsRow base 59 8 (.slice A L.xs.length c) L.xs.length (ax L.xs)
 low:base≤g
section
variable {base g lp c N : Nat} {A : Option Addr} {L : D17.Lg} {W W' : World}
theorem fq.less {b:Nat} (h:fq base g lp A c N L W) (hb:b≤base):fq b g lp A c N L W:=by
 obtain⟨first,fr,bs,ms,a,r⟩:=h.ex
 exact⟨⟨first,fr,bs,ms,a.less hb,r⟩,dA h.row hb,Nat.le_trans hb h.low⟩
theorem fq.bE {B:Nat} {ts:List TypeId} (h:fq base g lp A c N L W) (hT:aM B ts W W') (h0:72 ∉ ts) (h1:88 ∉ ts) (h2:26 ∉ ts) (h3:61 ∉ ts) (h4:64 ∉ ts) (h5:9 ∉ ts) (h6:59 ∉ ts):fq base g lp A c N L W':=by
 obtain⟨first,fr,bs,ms,a,r⟩:=h.ex
 exact⟨⟨first,fr,bs,ms,a.bE hT h0 h1 h2 h3 h4 h5,r⟩,bX h.row hT h6,h.low⟩
theorem fq.stay (h:fq base g lp A c N L W) (hb:Below W.heap.size W W'):fq base g lp A c N L W':=h.bE (aM.of_below hb (Nat.le_refl _) []) (by simp) (by simp) (by simp) (by simp) (by simp) (by simp) (by simp)
theorem fq.lt (h:fq base g lp A c N L W):g<W.heap.size∧lp<W.heap.size∧base≤lp:=by
 obtain⟨first,fr,bs,ms,a,r⟩:=h.ex
 obtain⟨A',c',qs,q,_⟩:=a.line.line
 exact⟨lt_of_block a.blk,lt_of_block q.blk,a.line.low⟩
theorem fq.plain (h:fq base g lp A c N L W):∃ (first fr:Nat) (bs:T9.St) (ms:List T9.Mu),iZ base g lp first fr L.xs.length c bs ms A W∧first+fr=L.base∧first+ms.length=L.iW∧∀ v,L.has v→T9.bZ bs (ms.take (v - first))=L.at_ v:=by
 obtain⟨first,fr,bs,ms,a,h1,h2,h3,_⟩:=h.ex
 have hl:=a.len
 have hv:first+ms.length=L.iW:=by unfold D17.Lg.iW;omega
 refine⟨first,fr,bs,ms,a,h1,hv,fun v hh=>?_⟩
 rw [D17.Lg.lQ hh]
 obtain⟨p,q⟩:=hh
 have e:ms.take (v - first)=ms.take fr++(cZ L.xs).take (v - L.base):=by
  rw [← h3,← List.take_append_drop fr (ms.take (v - first)),List.take_take,Nat.min_eq_left (by omega),List.drop_take]
  congr 2
  omega
 rw [e,T9.kF,h2,xM]
theorem fq.bound (h:fq base g lp A c N L W):L.iW≤4398046511104∧L.xs.length≤1000:=by
 obtain⟨first,fr,bs,ms,a,_,h2,_⟩:=h.plain
 have:=a.vb
 have:=a.mb
 have:=a.len
 omega
theorem fq.iW (h:fq base g lp A c N L W):Calls prog 19 #[.pointer (some ⟨g,0,none⟩)] W fun e w'=>e=.returned (.int .u64 (L.iW:Int))∧Below W.heap.size W w':=by
 obtain⟨first,fr,bs,ms,a,_,h2,_⟩:=h.plain
 rw [← h2]
 exact zJ a
theorem fq.mO (h:fq base g lp A c N L W):Calls prog 18 #[.pointer (some ⟨g,0,none⟩)] W fun e w'=>e=.returned (.int .u64 (L.base:Int))∧Below W.heap.size W w':=by
 obtain⟨first,fr,bs,ms,a,h1,_⟩:=h.plain
 rw [← h1]
 exact qh a
theorem fq.at_ (h:fq base g lp A c N L W) {v:Nat} {b:Bool} (hb:b=decide (L.has v)):Calls prog 16 #[.pointer (some ⟨g,0,none⟩),.int .u64 (v:Int)] W (dC b (L.at_ v) W):=by
 obtain⟨first,fr,bs,ms,a,h1,h2,h3⟩:=h.plain
 by_cases hv:L.has v
 ·rw [decide_eq_true hv] at hb
  subst hb
  rw [← h3 v hv]
  obtain⟨p,q⟩:=hv
  exact Jj a (i:=v - first) (by omega) (by omega) (by omega)
 ·rw [decide_eq_false hv] at hb
  subst hb
  rw [D17.Lg.uu hv]
  exact at17_no a (fun q=>hv ⟨by omega,by omega⟩)
theorem fq.items (h:fq base g lp A c N L W) {v:Nat} {m:Int} {b:Bool} (hb:b=decide (L.has v)):Calls prog 17 #[.pointer (some ⟨g,0,none⟩),.int .u64 (v:Int),.int .i64 m] W (gP b (L.from_ v m) W):=by
 obtain⟨first,fr,bs,ms,a,h1,h2,h3⟩:=h.plain
 by_cases hv:L.has v
 ·rw [decide_eq_true hv] at hb
  subst hb
  rw [D17.Lg.kG hv]
  obtain⟨p,q⟩:=hv
  have:=a.len
  exact AX a h.row rfl (i:=v - L.base) (by omega) (by omega)
 ·rw [decide_eq_false hv] at hb
  subst hb
  rw [D17.Lg.qC hv]
  exact DU a (fun q=>hv ⟨by omega,by omega⟩)
def nT (base g lp N:Nat) (A0:Option Addr) (L:D17.Lg) (t:Nat) (b:Bool) (w:World) (e:Ending) (w':World):Prop:=∃ (A:Option Addr) (c:Nat),e=.returned (.bool b)∧fq base g lp A c N (L.cut t) w'∧aM base [72,88] w w'∧(∀ k,k<w.heap.size→k≠g→k≠lp→w'.heap[k]?=w.heap[k]?)∧(b=false→Below w.heap.size w w')∧∀ k,vw A=some k→vw A0=some k∨w.heap.size≤k
theorem fq.compact (h:fq base g lp A c N L W) {t:Nat} {b:Bool} (hb:b=decide (L.has t)):Calls prog 12 #[.pointer (some ⟨g,0,none⟩),.int .u64 (t:Int)] W (nT base g lp N A L t b W):=by
 obtain⟨first,fr,bs,ms,a,h1,h2,h3⟩:=h.plain
 obtain⟨first',fr',bs',ms',a',k1,k2,k3,k4⟩:=h.ex
 by_cases hv:L.has t
 ·rw [decide_eq_true hv] at hb
  subst hb
  obtain⟨p,q⟩:=hv
  have l':=a'.len
  have hvv:L.iW=L.base+L.xs.length:=rfl
  refine (wR a' h.row rfl h.low (v:=t) (i:=t - L.base) (by omega) (by omega)).mono ?_
  rintro e w' ⟨A',c',rfl,hc,ho,hT,hk,hn⟩
  refine⟨A',c',rfl,?_,hT,hk,fun q=>(by cases q),fun k hk=>.inr (hn k (by rw [uf];exact hk))⟩
  have e1:(L.xs.drop (t - L.base)).length=L.xs.length - (t - L.base):=List.length_drop ..
  rw [D17.Lg.jA ⟨p,q⟩]
  refine⟨⟨first',fr'+(t - L.base),bs',ms',by show iZ base g lp first' (fr'+(t - L.base)) (L.xs.drop (t - L.base)).length c' bs' ms' A' w';rw [e1];exact hc,by show first'+(fr'+(t - L.base))=t;omega,?_,?_,k4⟩,by show w'.ownsRow base 59 8 (.slice A' (L.xs.drop (t - L.base)).length c') (L.xs.drop (t - L.base)).length (ax (L.xs.drop (t - L.base)));rw [e1];exact ho,h.low⟩
  ·show T9.bZ bs' (ms'.take (fr'+(t - L.base)))=L.at_ t
   rw [D17.Lg.lQ ⟨p,q⟩,List.take_add,T9.kF,k2,k3,xM]
  ·show ms'.drop (fr'+(t - L.base))=cZ (L.xs.drop (t - L.base))
   rw [← List.drop_drop,k3]
   unfold cZ
   rw [List.map_drop]
 ·rw [decide_eq_false hv] at hb
  subst hb
  refine (yC a (v:=t) (fun q=>hv ⟨by omega,by omega⟩)).mono ?_
  rintro e w' ⟨rfl,hw⟩
  rw [nT,D17.Lg.rV hv]
  exact⟨A,c,rfl,h.stay hw,aM.of_below hw (Nat.le_trans h.low (Nat.le_of_lt h.lt.1)) _,fun k hk _ _=>hw.block k hk,fun _=>hw,fun _ hk=>.inl hk⟩
def IM (base g lp:Nat) (A:Option Addr) (N:Nat) (L:D17.Lg) (ys:List It) (w:World) (e:Ending) (w':World):Prop:=∃ (A':Option Addr) (c':Nat),e=.returned (.tuple #[])∧fq base g lp A' c' N (L.add ys) w'∧aM base [72,88,26,59] w w' ∧
 (∀ k cs f,w.heap[k]?=some (.cells cs 59 f)→vw A≠some k→w'.heap[k]?=w.heap[k]?)∧∀ k,vw A'=some k→vw A=some k∨w.heap.size≤k
theorem fq.add (h:fq base g lp A c N L W) {m cI:Nat} {AI:Option Addr} {ys:List It} (hb:L.iW+m≤4398046511104) (hI:au W base 0 AI (ax ys)) (hn:m=ys.length) (hx:m≤500) (ky:∀ x∈ys,x.m.ok∧x.m.text.length≤200) (hs:N≤500) :
  Calls prog 14 #[.pointer (some ⟨g,0,none⟩),.slice AI m cI] W (IM base g lp A (N+m) L ys W):=by
 obtain⟨first,fr,bs,ms,a,h1,h2,h3,h4⟩:=h.ex
 have hl:=a.len
 have hv:L.iW=L.base+L.xs.length:=rfl
 refine (EZ (cI:=cI) a h.row h.low (by omega) (by omega) hI hn hx ky).mono ?_
 rintro e w' ⟨A',c',rfl,hc,ho,hT,hk,hq⟩
 simp only [uf] at hk hq
 have e1:(L.xs++ys).length=L.xs.length+m:=by rw [List.length_append,hn]
 refine⟨A',c',rfl,⟨⟨first,fr,bs,ms++cZ ys,by show iZ base g lp first fr (L.xs++ys).length c' bs (ms++cZ ys) A' w';rw [e1];exact hc,h1,?_,?_,by rw [List.length_append,gI];omega⟩,by show w'.ownsRow base 59 8 (.slice A' (L.xs++ys).length c') (L.xs++ys).length (ax (L.xs++ys));rw [e1];exact ho,h.low⟩,hT,hk,hq⟩
 ·rw [List.take_append_of_le_length (by omega)]
  exact h2
 ·rw [List.drop_append_of_le_length (by omega),h3]
  exact (Bf _ _).symm
end
def nU (L:D17.Lg) (w:World) (e:Ending) (w':World):Prop:=∃ (g lp:Nat) (A:Option Addr) (c:Nat),e=.returned (.pointer (some ⟨g,0,none⟩))∧fq w.heap.size g lp A c L.xs.length L w'∧Below w.heap.size w w'
theorem Jn (b lp:Nat) (w:World):(Instr.build 72 #[(0,.int .u64 (b:Int)),(1,.pointer (some ⟨lp,0,none⟩))]).run prog w=.ok (.agg #[.int .u64 (b:Int),.pointer (some ⟨lp,0,none⟩),.slice none 0 0]) w:=run_build w 72 _ _ (by kernel_rfl)
theorem Bg {w:World} {a b c:Value} {t:TypeId} {u:World} (q:w.alloc (.cells #[a,b,c] t)=u):u.heap[w.heap.size]?=some (.cells #[a,b,c] t (0,0))∧Below w.heap.size w u∧u.heap.size=w.heap.size+1:=by
 rw [← q]
 exact⟨heap_alloc_new w _,(Below.refl _ w).alloc (Nat.le_refl _) _,by simp⟩
theorem xq {b m cI:Nat} {s:aQ} {AI:Option Addr} {ys:List It} {W:World} (hs:SM s W) (hf:jF s) (ho:s.st.ok) (hb:b+m≤4398046511104) (hI:au W W.heap.size 0 AI (ax ys)) (hn:m=ys.length) (hx:m≤500) (ky:∀ x∈ys,x.m.ok∧x.m.text.length≤200) :
  Calls prog 25 #[.int .u64 (b:Int),s.val,.slice AI m cI] W (nU ⟨b,T9.bV s.st,ys⟩ W):=by
 obtain⟨w1,hw1⟩:=nm (W.alloc (.cells #[.slice s.A s.ls.length s.c,.slice s.A2 s.ms.length s.c2] 26))
 obtain⟨sb,b1,z1⟩:=aj hw1
 have NC:=hid (new14_c (hs.stay b1) hf)
 have BS:Hid (T9.dX (T9.bV s.st)):=hid (T9.iC ho)
 obtain⟨bs,hbs⟩:=nm (T9.bV s.st)
 rw [hbs] at NC BS ⊢
 obtain⟨l0,l1⟩:=aa sb
 have HB:=hid hb
 have HI:=hid hI
 have HN:=hid hn
 have HX:=hid hx
 have KY:=hid ky
 have B1:=hid b1
 unfold aQ.val
 clear hs hf ho hb hI hn hx ky sb b1 z1 hbs
 go_enter func25,ntmps25
 go_wp2_with fail
 refine NC.out.mono ?_
 rintro e w2 ⟨lp,A2,c2,q,rfl,hl,hq,hlp,hb2⟩
 have B2:Hid (Below W.heap.size W w2):=hid (B1.out.trans (hb2.mono B1.out.size))
 have hbd:=Jn b lp
 obtain⟨w3,hw3⟩:=nm (w2.alloc (.cells #[.int .u64 (b:Int),.pointer (some ⟨lp,0,none⟩),.slice none 0 0] 72))
 obtain⟨gb,b3,z3⟩:=Bg hw3
 have B3:Hid (Below W.heap.size W w3):=hid (B2.out.trans (b3.mono B2.out.size))
 have LB:Hid (iZ W.heap.size w2.heap.size lp b 0 0 0 bs [] none w3):=hid ⟨gb,⟨⟨A2,c2,[q],⟨(hl.stay b3).blk,dA (hl.stay b3).row B1.out.size,(hl.stay b3).sm⟩,rfl,Nat.zero_lt_one,fun j x hj=>by
  cases j with
  | zero=>simp at hj;subst hj;exact hq
  | succ j=>simp at hj⟩,Nat.le_trans B1.out.size hlp⟩,rfl,Nat.zero_le _,by have:=HB.out;simp;omega,BS.out,fun m hm=>by cases hm⟩
 have G2:Hid (W.heap.size≤w2.heap.size):=hid B2.out.size
 have AC:=hid (EZ (cI:=cI) (xs:=[]) LB.out (World.ownsRow_nil _ _ _ _) G2.out (Nat.zero_le _) (by have:=HB.out;simp;omega) (HI.out.below (Nat.le_refl _) B3.out) HN.out HX.out KY.out)
 rw [Nat.zero_add] at AC
 obtain⟨g,hg⟩:=nm w2.heap.size
 rw [hg] at AC G2
 clear hl hq hlp hb2 gb b3 z3 l0 l1
 go_wp2_with fail
 refine AC.out.mono ?_
 rintro e w4 ⟨A4,c4,rfl,hc,hrow,hT,_,_⟩
 have C4:=hid hc
 have R4:=hid hrow
 have B4:=hid (B3.out.trans (hT.below))
 clear hc hrow hT
 go_wp2
 go_ret
 have e0:ys.length=m:=HN.out.symm
 refine⟨g,lp,A4,c4,rfl,⟨⟨b,0,bs,[]++cZ ys,by show iZ W.heap.size g lp b 0 ys.length c4 bs ([]++cZ ys) A4 w4;rw [e0];exact C4.out,rfl,rfl,rfl,by show ([]++cZ ys).length≤ys.length;rw [List.nil_append,gI];exact Nat.le_refl _⟩,by show w4.ownsRow W.heap.size 59 8 (.slice A4 ys.length c4) ys.length (ax ys);rw [e0];exact R4.out,G2.out⟩,B4.out⟩
theorem t_ {b m cI:Nat} {s:aQ} {AI:Option Addr} {ys:List It} {W:World} (hs:SM s W) (hf:jF s) (ho:s.st.ok) (hI:au W W.heap.size 0 AI (ax ys)) (hn:m=ys.length) (hx:m≤500) (ky:∀ x∈ys,x.m.ok∧x.m.text.length≤200) :
  Calls prog 9 #[.int .u64 (b:Int),s.val,.slice AI m cI] W (nU ⟨min b 1099511627776,T9.bV s.st,ys⟩ W):=by
 obtain⟨w1,hw1⟩:=nm (W.alloc (.cells #[.slice s.A s.ls.length s.c,.slice s.A2 s.ms.length s.c2] 26))
 obtain⟨sb,b1,z1⟩:=aj hw1
 have BC:=hid (xq (b:=min b 1099511627776) (cI:=cI) (hs.stay b1) hf ho (by omega) ((hI.below (Nat.le_refl _) b1).more b1.size) hn hx ky)
 obtain⟨l0,l1⟩:=aa sb
 have B1:=hid b1
 obtain⟨k,hk⟩:=nm (min b 1099511627776)
 have hm:min (b:Int) 1099511627776=(k:Int):=by omega
 rw [hk] at BC ⊢
 unfold aQ.val at BC ⊢
 clear hs hf ho hI hn hx ky sb b1 z1 hk
 go_enter func9,ntmps9
 go_wp2_with fail
 refine BC.out.mono ?_
 rintro e w4 ⟨g,lp,A,c,rfl,hc,hb⟩
 have C4:=hid hc
 have B4:=hid (B1.out.trans (hb.mono B1.out.size))
 clear hc hb
 go_wp2
 go_ret
 exact⟨g,lp,A,c,rfl,C4.out.less B1.out.size,B4.out⟩
theorem uG (W:World):Calls prog 15 #[.pointer none] W fun e w'=>e=.returned (.pointer none)∧Below W.heap.size W w':=by
 have BN:=hid (Dh W)
 have AN:=hid (uq 0 W)
 unfold dC aQ.val at AN
 go_enter func15,ntmps15
 go_wp2_with fail
 refine BN.out.mono ?_
 rintro e w ⟨rfl,rfl⟩
 go_wp2_with fail
 refine AN.out.mono ?_
 rintro e w4 ⟨q,rfl,_,_,hb4⟩
 have B4:=hid hb4
 obtain⟨w5,fV⟩:=nm (w4.alloc (.cells #[.slice q.A q.ls.length q.c,.slice q.A2 q.ms.length q.c2] 26))
 obtain⟨sb,b5,z5⟩:=aj fV
 have B5:=hid (B4.out.trans (b5.mono B4.out.size))
 clear hb4 sb b5 z5
 go_wp2
 go_ret
 try rw [fV]
 exact⟨rfl,B5.out⟩
theorem fq.copy {base g lp c N:Nat} {A:Option Addr} {L:D17.Lg} {W:World} (h:fq base g lp A c N L W) (hx:L.xs.length≤500) (ok:L.Ok) (ky:∀ x∈L.xs,x.m.text.length≤200):Calls prog 15 #[.pointer (some ⟨g,0,none⟩)] W (nU L W):=by
 have BE:=hid h.mO
 have HAT:=hid (show ∀ u,Below W.heap.size W u→Calls prog 16 #[.pointer (some ⟨g,0,none⟩),.int .u64 (L.base:Int)] u (dC true L.s u) from fun u hu=>by
  have q:=(h.stay hu).at_ (v:=L.base) (b:=true) (decide_eq_true L.lH).symm
  rwa [L.tL] at q)
 have BE2:=hid (show ∀ u,Below W.heap.size W u→Calls prog 18 #[.pointer (some ⟨g,0,none⟩)] u fun e w'=>e=.returned (.int .u64 (L.base:Int))∧Below u.heap.size u w' from fun u hu=>(h.stay hu).mO)
 obtain⟨k,hk⟩:=nm L.xs.length
 have HC:=hid (show ∀ u,Below W.heap.size W u→u.cell? ⟨g,2,none⟩=some (.slice A k c) from fun u hu=>by
  obtain⟨_,_,_,_,a,_⟩:=(h.stay hu).ex
  rw [← hk]
  exact a.cells.2.2)
 have BG:=hid (show ∀ (u:World) (q:aQ),Below W.heap.size W u→kR q u→q.st=L.s→Calls prog 25 #[.int .u64 (L.base:Int),q.val,.slice A k c] u (nU L u) from fun u q hu hq hs=>by
  have sd:T9.dX q.st:=by rw [hs];exact ok.s
  have bb:=xq (b:=L.base) (m:=k) (cI:=c) (AI:=A) (ys:=L.xs) hq.sm (jF.sound sd) sd.2 (by have:=h.bound.1;unfold D17.Lg.iW at this;omega) ((aH (B:=0) (own_below h.row hu)).old) hk.symm (by omega) (fun x hx=>⟨ok.m x hx,ky x hx⟩)
  rwa [T9.qj sd,hs] at bb)
 obtain⟨b,hb⟩:=nm L.base
 rw [hb] at BE HAT BE2 BG
 unfold dC aQ.val at HAT
 unfold aQ.val at BG
 clear h hx ok ky hk hb
 go_enter func15,ntmps15
 go_wp2_with fail
 refine BE.out.mono ?_
 rintro e w2 ⟨rfl,b2⟩
 have B2:=hid b2
 have AT:=hid (HAT.out w2 b2)
 clear b2
 go_wp2_with fail
 refine AT.out.mono ?_
 rintro e w4 ⟨q,rfl,hq,sM,hb4⟩
 have B4:Hid (Below W.heap.size W w4):=hid (B2.out.trans (hb4.mono B2.out.size))
 obtain⟨w5,fV⟩:=nm (w4.alloc (.cells #[.slice q.A q.ls.length q.c,.slice q.A2 q.ms.length q.c2] 26))
 obtain⟨sb,b5,z5⟩:=aj fV
 have Q5:=hid (hq.stay b5)
 have QS:=hid sM
 have SB:=hid sb
 have B5:Hid (Below W.heap.size W w5):=hid (B4.out.trans (b5.mono B4.out.size))
 have HW5:=hid fV
 have Z4:Hid (W.heap.size≤w4.heap.size):=hid B4.out.size
 clear hq sM hb4 sb b5 z5 fV AT
 go_upto_region 4 with fail
 rw [HW5.out]
 refine wp_region_held_drew (S:=fun u=>Below W.heap.size W u∧Below w5.heap.size w5 u) (by kernel_rfl) (⟨B5.out.drew,(Below.refl _ w5).drew⟩) (fun S0=>?_)
 generalize w5.drew=wd at S0 ⊢
 refine av 0 S0 ?_
 refine av 2 S0 ?_ (hy:=by intro u hu;obtain⟨x0,x1⟩:=aa (ae SB.out hu.2);clear hu;go_simp;try rfl)
 refine av 3 S0 ?_
 refine av 4 S0 ?_
 refine av 5 S0 ?_
 refine av 6 S0 ?_ (hy:=by intro u hu;have c2:=HC.out u hu.1;clear hu;go_simp;try rfl)
 refine fw 1 fun K hK=>?_
 go_simp
 refine (BE2.out wd S0.1).mono ?_
 rintro e w6 ⟨rfl,h6⟩
 have S1:=And.intro (S0.1.trans (h6.mono S0.1.size)) (S0.2.trans (h6.mono S0.2.size))
 refine hK _ _ S1 ?_
 clear h6
 clear hK K S0
 have S0:=S1
 clear S1
 try simp only [Act.put,pS]
 refine fw 7 fun K hK=>?_
 go_simp
 have CB:=BG.out w6 q S0.1 (Q5.out.stay S0.2) QS.out
 refine CB.mono ?_
 rintro e w7 ⟨g7,lp7,A7,c7,rfl,hc7,Cv⟩
 have S1:Below W.heap.size W w7∧Below w5.heap.size w5 w7:=⟨S0.1.trans (Cv.mono S0.1.size),S0.2.trans (Cv.mono S0.2.size)⟩
 refine hK _ _ S1 ?_
 have C7:=hid (hc7.less S0.1.size)
 clear hK K S0 hc7 Cv CB
 have S0:=S1
 clear S1
 try simp only [Act.put,pS]
 refine av 8 S0 ?_
 refine wpAnyH_done (by kernel_rfl) ?_ _
 go_wp2
 go_ret
 exact⟨g7,lp7,A7,c7,rfl,C7.out,S0.1⟩
end
end
section
section
open Go.RowKit Go.Lib Go.Shelf
structure eO (base:Nat) (A:Option Addr) (n c:Nat) (xs:List It) (W:World):Prop where
 le:n≤c
 mx:c≤maxLen
 len:n=xs.length
 own:c=0∨∃ b off,A=some ⟨b,off,none⟩∧base≤b∧Ty W b 59∧(∀ j,j<c * 8→(W.cell? ⟨b,off+j,none⟩).isSome=true∧W.frozen? ⟨b,off+j,none⟩=false)∧∀ j u,(ax xs)[j]?=some u→W.cell? ⟨b,off+j,none⟩=some u
def iP (A:Option Addr) (c:Nat):Option Nat:=if c=0 then none else A.map (·.block)
section
variable {base n c : Nat} {A : Option Addr} {xs : List It} {W W' : World}
theorem eO.keep (h:eO base A n c xs W) (hk:∀ k,iP A c=some k→W'.heap[k]?=W.heap[k]?):eO base A n c xs W':=by
 refine⟨h.le,h.mx,h.len,?_⟩
 rcases h.own with q | ⟨b,off,rfl,hb,ht,h1,h2⟩
 ·exact .inl q
 ·by_cases e:c=0
  ·exact .inl e
  have q:=hk b (by unfold iP;rw [if_neg e];rfl)
  refine .inr ⟨b,off,rfl,hb,?_,fun j hj=>⟨?_,?_⟩,fun j u hu=>?_⟩
  ·obtain⟨cs,f,r⟩:=ht
   exact⟨cs,f,q.trans r⟩
  ·rw [World.cell?_of_block (a:=⟨b,off+j,none⟩) q];exact (h1 j hj).1
  ·rw [World.frozen?_of_block (a:=⟨b,off+j,none⟩) q];exact (h1 j hj).2
  ·exact (World.cell?_of_block (a:=⟨b,off+j,none⟩) q).trans (h2 j u hu)
theorem eO.blk (h:eO base A n c xs W) {k:Nat} (hk:iP A c=some k):base≤k∧Ty W k 59:=by
 unfold iP at hk
 split at hk
 ·cases hk
 ·rename_i e
  rcases h.own with q | ⟨b,off,rfl,hb,ht,_⟩
  ·exact absurd q e
  ·injection hk with hk
   subst hk
   exact⟨hb,ht⟩
theorem eO.lt (h:eO base A n c xs W) {k:Nat} (hk:iP A c=some k):k<W.heap.size:=by
 obtain⟨_,cs,f,q⟩:=h.blk hk
 exact lt_of_block q
theorem eO.bE {B:Nat} {ts:List TypeId} (h:eO base A n c xs W) (hT:aM B ts W W') (ht:59 ∉ ts):eO base A n c xs W':=h.keep fun k hk=>by
 obtain⟨_,cs,f,q⟩:=h.blk hk
 exact hT.typed k cs _ f q ht
theorem eO.stay (h:eO base A n c xs W) (hb:Below W.heap.size W W'):eO base A n c xs W':=h.keep fun k hk=>hb.block k (h.lt hk)
theorem eO.lies (h:eO base A n c xs W):au W 0 59 A (ax xs):=fun hx=>by
 rcases h.own with q | ⟨b,off,rfl,hb,ht,_,h2⟩
 ·have l:=h.le
  have e:=h.len
  exact absurd (List.eq_nil_of_length_eq_zero (by rw [dw];omega)) hx
 ·refine⟨_,rfl,.inr ?_,fun j u hu=>?_⟩
  ·obtain⟨cs,f,r⟩:=ht
   exact⟨cs,f,r⟩
  ·rw [Addr.add_lit]
   exact h2 j u hu
theorem eO.nil (c:Nat) (hc:c=0):eO base A 0 c [] W:=⟨Nat.zero_le _,by rw [hc];exact Nat.zero_le _,rfl,.inl hc⟩
theorem eO.cut (h:eO base A n c xs W) {k:Nat} (hk:k≤n):eO base (if c=k then A else A.map (·.add (k * 8))) (n - k) (c - k) (xs.drop k) W:=by
 have l:=h.le
 have m:=h.mx
 have e:=h.len
 refine⟨by omega,Nat.le_trans (Nat.sub_le _ _) m,by rw [List.length_drop];omega,?_⟩
 by_cases q:c=k
 ·exact .inl (by omega)
 ·rw [if_neg q]
  rcases h.own with r | ⟨b,off,rfl,hb,ht,h1,h2⟩
  ·exact .inl (by omega)
  ·refine .inr ⟨b,off+k * 8,by rw [Option.map_some,Addr.add_lit],hb,ht,fun j hj=>?_,fun j u hu=>?_⟩
   ·rw [Nat.add_assoc]
    exact h1 _ (by omega)
   ·rw [Nat.add_assoc]
    refine h2 _ u ?_
    rw [← ni xs (by omega),List.getElem?_drop] at hu
    exact hu
theorem eO.cut_blk (h:eO base A n c xs W) {k:Nat} (hk:k≤n) {j:Nat} (hj:iP (if c=k then A else A.map (·.add (k * 8))) (c - k)=some j):iP A c=some j:=by
 have l:=h.le
 unfold iP at hj ⊢
 by_cases q:c=k
 ·rw [if_pos (show c - k=0 by omega)] at hj
  cases hj
 ·rw [if_neg (show ¬ c - k=0 by omega),if_neg q] at hj
  rw [if_neg (show ¬ c=0 by omega)]
  cases A with
  | none=>cases hj
  | some a =>
   injection hj with hj
   rw [← hj,Option.map_some]
   show some a.block=some (a.add (k * 8)).block
   rw [iK]
end
theorem v_ {b B:Nat} {t:TypeId}:∀ (vs:List Value) (o:Nat) (w:World),Ty w b t→B≤b→aM B [t] w (w.setCells b o vs)∧Ty (w.setCells b o vs) b t∧∀ k,k≠b→(w.setCells b o vs).heap[k]?=w.heap[k]?
 | [],_,w,h,_=>⟨aM.refl _ _ w,h,fun _ _=>rfl⟩
 | v :: r,o,w,h,hB=>by
  have t1:aM B [t] w (w.setCell ⟨b,o,none⟩ v):=(aM.refl _ _ w).aB (p:=⟨b,o,none⟩) h (by simp) hB v
  obtain⟨a1,a2,a3⟩:=v_ (B:=B) r (o+1) (w.setCell ⟨b,o,none⟩ v) (h.set _ _) hB
  exact⟨t1.trans a1,a2,fun k hk=>(a3 k hk).trans (Below.heap_setCell _ _ _ k hk)⟩
structure App17 (base:Nat) (A:Option Addr) (n c:Nat) (xs ys:List It) (W:World) (A':Option Addr) (c':Nat) (W':World):Prop where
 row:eO base A' (n+ys.length) c' (xs++ys) W'
 bE:aM base [59] W W'
 far:∀ k,k<W.heap.size→iP A c≠some k→W'.heap[k]?=W.heap[k]?
 new:∀ k,iP A' c'=some k→iP A c=some k∨W.heap.size≤k
theorem src17 {B m cI:Nat} {t:TypeId} {AI:Option Addr} {ys:List It} {W:World} (hL:au W B t AI (ax ys)) (hm:m=ys.length):Src prog 8 27 (.slice AI m cI) m (ax ys) W:=by
 rcases AI with _ | ad
 ·have:ys=[]:=by
   rcases ys with _ | ⟨y,r⟩
   ·rfl
   ·obtain⟨ad,q,_⟩:=hL (by simp [ax,encI])
    cases q
  subst this
  subst hm
  exact Src.ofNil W underlying27 cI
 ·refine Src.ofSlice W underlying27 ad m cI (ax ys) (by rw [dw,hm]) (fun j u hu=>?_) (nu _)
  obtain⟨IA,q,_,hc⟩:=hL (fun e=>by rw [e] at hu;simp at hu)
  injection q with q
  subst q
  exact hc j u hu
theorem Ih {base n c m cI B:Nat} {t ty:TypeId} {A AI:Option Addr} {xs ys:List It} {W:World} (h:eO base A n c xs W) (hB:base≤W.heap.size) (hL:au W B t AI (ax ys)) (hm:m=ys.length) (hs:n+m≤100000) :
  ∃ A' c' W',(Builtin.append_ #[27,27] ty #[.slice A n c,.slice AI m cI]).run prog W=.ok (.slice A' (n+m) c') W'∧App17 base A n c xs ys W A' c' W':=by
 obtain⟨i0,hi,hz0,hz1,hz2⟩:=info_parts Tryz.infoI14
 have src:=src17 (cI:=cI) hL hm
 have l:=h.le
 have e:=h.len
 have hl8:(ax ys).length=m * 8:=by rw [dw,hm]
 by_cases hroom:n+m≤c∧0<c
 ·obtain⟨hroom,hc0⟩:=hroom
  rcases h.own with q | ⟨b,off,rfl,hb,ht,h1,h2⟩
  ·omega
  have hsome:∀ j,j<(ax ys).length→(W.cell? ⟨b,off+n * 8+j,none⟩).isSome=true:=fun j hj=>by
   rw [Nat.add_assoc];exact (h1 _ (by omega)).1
  have r:=run_append_room_src (P:=prog) W 27 27 ty 59 i0 underlying27 hi b off n c (.slice AI m cI) m (ax ys) (by rw [hz1];exact src) hroom (by rw [hz1];exact hsome) (by rw [hz1];exact fun j hj=>by rw [Nat.add_assoc];exact (h1 _ (by omega)).2)
  rw [hz1] at r
  obtain⟨t1,t2,t3⟩:=v_ (B:=base) (ax ys) (off+n * 8) W ht hb
  have far:∀ k,k<W.heap.size→iP (some ⟨b,off,none⟩) c≠some k→(W.setCells b (off+n * 8) (ax ys)).heap[k]?=W.heap[k]?:=fun k _ hk=>t3 k (fun e=>hk (by unfold iP;rw [if_neg (by omega),e];rfl))
  refine⟨_,_,_,r,⟨by rw [← hm];exact hroom,h.mx,by rw [List.length_append];omega,.inr ⟨b,off,rfl,hb,t2,fun j hj=>⟨?_,?_⟩,fun j u hu=>?_⟩⟩,t1,far,fun k hk=>.inl hk⟩
  ·by_cases q:n * 8≤j∧j<n * 8+m * 8
   ·have:=World.cell?_setCells_in b (ax ys) (off+n * 8) W hsome (j - n * 8) (by omega)
    rw [show off+n * 8+(j - n * 8)=off+j by omega] at this
    rw [this]
    rfl
   ·rw [World.cell?_setCells_out b _ _ _ _ (fun _ _=>by show off+j<off+n * 8∨off+n * 8+(ax ys).length≤off+j;omega)]
    exact (h1 j hj).1
  ·rw [World.frozen?_setCells]
   exact (h1 j hj).2
  ·rw [jH] at hu
   have lx:(ax xs).length=n * 8:=by rw [dw,← e]
   by_cases q:j<n * 8
   ·rw [List.getElem?_append_left (by omega)] at hu
    rw [World.cell?_setCells_out b _ _ _ _ (fun _ _=>by show off+j<off+n * 8∨off+n * 8+(ax ys).length≤off+j;omega)]
    exact h2 j u hu
   ·rw [List.getElem?_append_right (by omega),lx] at hu
    obtain⟨hlt,hget⟩:=List.getElem?_eq_some_iff.1 hu
    have:=World.cell?_setCells_in b (ax ys) (off+n * 8) W hsome (j - n * 8) hlt
    rw [show off+n * 8+(j - n * 8)=off+j by omega] at this
    rw [this,hget]
 ·by_cases hz:n+m≤c
  ·
   have c0:c=0:=by omega
   have m0:m=0:=by omega
   have n0:n=0:=by omega
   have ey:ys=[]:=List.length_eq_zero_iff.1 (by omega)
   have ex:xs=[]:=List.length_eq_zero_iff.1 (by omega)
   subst ey ex c0 m0 n0
   have r:(Builtin.append_ #[27,27] ty #[.slice A 0 0,.slice AI 0 cI]).run prog W=.ok (.slice A (0+0) 0) W:=by
    rcases src.kind with⟨e',hk⟩ | hk <;> cases A <;> simp [Builtin.append_,run_underlying underlying27,sizeOf,typeInfo,hi,hz1,src.len,src.cells,storeCells,ax]
   exact⟨A,0,W,r,h,aM.refl _ _ W,fun _ _ _=>rfl,fun k hk=>.inl hk⟩
  ·have hg:c<n+m:=by omega
   have lx:(ax xs).length=n * 8:=by rw [dw,← e]
   have hold:(Builtin.firstCells 8 n (.slice A n c)).run prog W.drew=.ok (ax xs).toArray W.drew:=by
    rcases A with _ | ad
    ·have:xs=[]:=by
      rcases xs with _ | ⟨y,r⟩
      ·rfl
      ·obtain⟨ad,q,_⟩:=h.lies (by simp [ax,encI])
       cases q
     subst this
     exact run_firstCells_none _ _ _ _ _
    ·refine run_firstCells_some W.drew 8 n ad n c (ax xs) lx (fun j u hu=>?_)
     obtain⟨IA,q,_,hc⟩:=h.lies (fun e=>by rw [e] at hu;simp at hu)
     injection q with q
     subst q
     exact hc j u hu
   have h63:((n+m:Nat):Int)≤9223372036854775807:=by omega
   have r:=run_append_grow_src (P:=prog) W 27 27 ty 59 i0 _ underlying27 hi hz0 A n c (ax xs) (by rw [hz1];exact hold) (.slice AI m cI) m (ax ys) (by rw [hz1];exact src) hg h63 (by rw [hz2];exact growslice_fits hg (by omega))
   have hge:=grownCap_ge W (n+m) c 59
   have hcm:=grownCap_le_maxLen W (n+m) c 59 (by unfold maxLen;omega)
   obtain⟨cap,hcap⟩:=nm (grownCap W (n+m) c 59)
   rw [hcap] at r hge hcm
   obtain⟨Z,hZ⟩:=nm (Builtin.zeroCells (Value.cells (.agg #[.int .u64 0,.int .u64 0,.int .i64 0,.int .u64 0,.int .u64 0,.string ⟨#[]⟩,.float .f64 0,.bool false])) (cap - (n+m)))
   have zs:Z.size=(cap - (n+m)) * 8:=by rw [← hZ,size_zeroCells];rfl
   rw [hZ] at r
   have hL8:(ax xs++ax ys).length=(n+m) * 8:=by rw [List.length_append,lx,hl8];omega
   have hsz:((ax xs++ax ys).toArray++Z).size=cap * 8:=by
    rw [Array.size_append,List.size_toArray,hL8,zs];omega
   obtain⟨w',hw'⟩:=nm (W.drew.alloc (.cells ((ax xs++ax ys).toArray++Z) 59))
   have cell:∀ j,w'.cell? ⟨W.heap.size,0+j,none⟩=((ax xs++ax ys).toArray++Z)[j]?:=fun j=>by
    rw [← hw',Nat.zero_add]
    exact World.cell?_alloc_new W.drew _ _ j
   have frz:∀ j,w'.frozen? ⟨W.heap.size,0+j,none⟩=false:=fun j=>by
    rw [← hw',Nat.zero_add]
    exact World.frozen?_alloc_new W.drew _ _ j
   have hnew:w'.heap[W.heap.size]?=some (.cells ((ax xs++ax ys).toArray++Z) 59 (0,0)):=by rw [← hw'];exact heap_alloc_new W.drew _
   have bel:Below W.heap.size W w':=by rw [← hw'];exact (Below.refl _ W).drew.alloc (Nat.le_refl _) _
   rw [hw'] at r
   refine⟨_,_,_,r,⟨by rw [← hm];exact hge,hcm,by rw [List.length_append];omega,.inr ⟨W.heap.size,0,rfl,hB,⟨_,_,hnew⟩,fun j hj=>⟨?_,frz j⟩,fun j u hu=>?_⟩⟩,aM.of_below bel hB _,fun k hk _=>bel.block k hk,fun k hk=>.inr ?_⟩
   ·rw [cell,Array.getElem?_eq_getElem (by rw [hsz];exact hj)]
    rfl
   ·rw [cell]
    rw [jH] at hu
    obtain⟨hlt,_⟩:=List.getElem?_eq_some_iff.1 hu
    rw [Array.getElem?_append_left (by simpa using hlt),List.getElem?_toArray]
    exact hu
   ·unfold iP at hk
    split at hk
    ·cases hk
    ·injection hk with hk
     rw [← hk]
     exact Nat.le_refl _
theorem mD {ops:Array Oper} {rest:List Oper} {o:Oper} {a:Act} {Q:Exit→Act→World→Prop} {base n c m cI B:Nat} {t:TypeId} {A AI:Option Addr} {xs ys:List It} {W:World} (hgd:o.guard=none) (s x:Operand)
  (ho:o.op=.call { callee:=.builtin .append,args:=#[s,x],argTypes:=#[27,27] })
  (hs:a.eval s=.slice A n c) (h:eO base A n c xs W) (hB:base≤W.heap.size) (hx:a.eval x=.slice AI m cI) (hL:au W B t AI (ax ys)) (hm:m=ys.length) (hsm:n+m≤100000)
  (hK:∀ A' c' W',App17 base A n c xs ys W A' c' W'→wpList prog ops Q rest (a.put o.dst (.slice A' (n+m) c')) W'):wpList prog ops Q (o :: rest) a W :=
 wpList_plain hgd fun K hK2=>by
  obtain⟨A',c',W',hr,h2⟩:=Ih (ty:=o.type) (cI:=cI) h hB hL hm hsm
  unfold Oper.wp execOp
  simp only [ho,resolve,invoke,builtin,Sem.run_bind,Sem.run_pure,Result.andThen_ok,List.map_toArray,List.map_cons,List.map_nil,hs,hx,hr]
  exact hK2 _ _ (hK A' c' W' h2)
end
end
end Go.Proofs.YtcmiompdjjiojaaGreat
