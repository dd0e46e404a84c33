import Derived.Test.YtmcfknnfaokmlaaGreatZ1
import Derived.Test.YtmcfknnfaokmlaaGreatZ2
import Derived.Test.YtmcfknnfaokmlaaGreatZ3
import Derived.Test.YtmcfknnfaokmlaaGreatZ4
import Derived.Sort.Lot0
namespace Go.Proofs.YtmcfknnfaokmlaaGreat
set_option maxHeartbeats 16000000
open Go.Lib Go.Proofs.Tryz
set_option linter.unusedSimpArgs false
set_option maxRecDepth 100000
section
section
open Go.ChangeShapes Go.WideShapes Go.ChangeAt Go.RowKit Go.Deep Go.Lib
structure La where
 who:Nat
 id:Nat
instance:Inhabited La:=⟨⟨0,0⟩⟩
theorem La.fu {a b:La}:a=b↔a.who=b.who∧a.id=b.id:=by cases a;cases b;simp
instance:DecidableEq La:=fun _ _=>decidable_of_iff _ La.fu.symm
def La.ok (x:La):Prop:=x.who<18446744073709551616∧x.id<18446744073709551616
def ky (x:La):List Value:=[.int .u64 (x.who:Int),.int .u64 (x.id:Int)]
def gy (xs:List La):List Value:=xs.flatMap ky
theorem o8 (x:La):(ky x).length=2:=rfl
theorem uX (x:La):∀ v∈ky x,v.oneCell'=true:=by
 intro v hv
 simp only [ky,List.mem_cons,List.not_mem_nil,or_false] at hv
 rcases hv with rfl | rfl <;> rfl
theorem xm (xs:List La):(gy xs).length=xs.length * 2:=jS fun x _=>o8 x
theorem uO (xs:List La) (x:La):gy (xs++[x])=gy xs++ky x:=by simp [gy]
def AL (w:World) (A:Option Addr) (xs:List La):Prop:=av w w.heap.size 0 A (gy xs)
section
variable {w w' : World} {A : Option Addr} {xs : List La}
theorem AL.stay (h:AL w A xs) (hb:Below w.heap.size w w'):AL w' A xs:=av.stay h hb
theorem AL.nil:AL w A []:=av.nil
theorem AL.at_ (h:AL w A xs) {k:Nat} (hk:k<xs.length):∃ ad x,A=some ad∧xs[k]?=some x∧w.cell? (ad.add (k * 2))=some (.int .u64 (x.who:Int))∧w.cell? ⟨(ad.add (k * 2)).block,(ad.add (k * 2)).off+1,none⟩=some (.int .u64 (x.id:Int)):=by
 have hx:xs[k]?=some xs[k]:=List.getElem?_eq_getElem hk
 obtain⟨ad,e,_,hc⟩:=h (fun q=>by have:=xm xs;rw [q] at this;simp at this;omega)
 have c:∀ j u,j<2→(ky xs[k])[j]?=some u→w.cell? ((ad.add (k * 2)).add j)=some u:=fun j u hj hu=>by
  rw [addr_add]
  exact hc _ _ ((mR (f:=ky) (size:=2) (fun l _=>o8 l) hx hj).trans hu)
 exact⟨ad,xs[k],e,hx,c 0 _ (by omega) rfl,c 1 _ (by omega) rfl⟩
end
end
section
open Go.ChangeShapes Go.WideShapes Go.ChangeAt Go.RowKit Go.Deep Go.Lib
variable {H : Type} {enc : TypeId × Value → H} {w : World} {base : Nat}
theorem Tryz.one9u:prog.cellsOf 22=1:=by kernel_rfl
theorem Tryz.two15:prog.cellsOf 61=2:=by kernel_rfl
theorem sP {fuel:Nat} {cs:List Value} {x:DataW H × List MemPlace} (h:DataW.trod enc prog w 0 (fun _=>true) true fuel 61 cs=some x) :
  ∃ q:La,cs=ky q∧q.ok:=by
 obtain⟨xs,n,_,_,hlen,hxl,hf⟩:=DataW.trod_struct underlying61 h
 rw [Tryz.two15] at hlen
 match cs,hlen with
 | [c0,c1],_ =>
  match xs,hxl with
  | [y0,y1],_ =>
   have h0:DataW.trod enc prog w 0 (fun _=>true) true n 22 (([c0,c1].drop 0).take (prog.cellsOf 22))=some y0:=hf 0 _ rfl
   rw [Tryz.one9u] at h0
   have h1:DataW.trod enc prog w 0 (fun _=>true) true n 22 (([c0,c1].drop 1).take (prog.cellsOf 22))=some y1:=hf 1 _ rfl
   rw [Tryz.one9u] at h1
   obtain⟨k0,e0,_,w0⟩:=DataW.trod_int underlying22 (h0:DataW.trod enc prog w 0 (fun _=>true) true n 22 [c0]=some y0)
   have g0:c0=_:=List.head_eq_of_cons_eq e0
   obtain⟨i0,q0⟩:=Int.eq_ofNat_of_zero_le (wf_u64 w0).1
   have b0:=(wf_u64 w0).2
   subst g0;subst q0
   obtain⟨k1,e1,_,w1⟩:=DataW.trod_int underlying22 (h1:DataW.trod enc prog w 0 (fun _=>true) true n 22 [c1]=some y1)
   have g1:c1=_:=List.head_eq_of_cons_eq e1
   obtain⟨i1,q1⟩:=Int.eq_ofNat_of_zero_le (wf_u64 w1).1
   have b1:=(wf_u64 w1).2
   subst g1;subst q1
   exact⟨⟨i0,i1⟩,rfl,by show i0<_;omega,by show i1<_;omega⟩
theorem qL {fuel:Nat} {v:Value} {x:DataW H × List MemPlace} (hf:DataW.trod enc prog w 0 (fun _=>true) true fuel 24 [v]=some x) :
  ∃ (A:Option Addr) (c:Nat) (ls:List La),v=.slice A ls.length c∧ls.length≤c∧av w w.heap.size 0 A (ls.flatMap ky)∧(∀ q∈ls,q.ok)∧c≤maxLen:=by
 rcases open_slice underlying24 hf with⟨hcs,_⟩ | ⟨a,len,cap,m,n,D,Pl,hcs,_,hl,hm,hmm,_,hi⟩
 ·simp at hcs
  subst hcs
  exact⟨none,0,[],rfl,Nat.le_refl _,av.nil,by simp,Nat.zero_le _⟩
 ·simp at hcs
  subst hcs
  simp only [if_true] at hmm
  subst hmm
  rw [Tryz.two15] at hi
  obtain⟨ls,h1,h2,h3⟩:=gW (w:=w) (E:=ky) (k:=2) (by omega) (fun x=>o8 x) (p:=fun q=>q.ok) (a:=a) (len:=len) (fun i hlt=>by
   obtain⟨cs',hc,ht⟩:=hi i (by omega)
   obtain⟨q,rfl,hok⟩:=sP ht
   obtain⟨_,hcl,hat⟩:=World.cells?_some hc
   refine⟨q,fun j u hu=>?_,hok⟩
   have hj:j<2:=by
    rcases Nat.lt_or_ge j (ky q).length with z | z
    ·exact z
    ·rw [List.getElem?_eq_none z] at hu;cases hu
   have:=hat j hj
   rw [addr_add] at this
   rw [this];exact hu)
  exact⟨some a,m,ls,by rw [h1],by omega,h2,h3,hm⟩
end
section
open Go.RowKit Go.Lib
theorem Tryz.infoLa15:(prog.info? 61).map (fun i=>(i.zero,i.size,i.bytes))=some (some (.agg #[.int .u64 0,.int .u64 0]),2,16):=by kernel_rfl
theorem oU (a b:Nat) (w:World):(Instr.buildSlice 24 1 #[(0,.agg #[.int .u64 (a:Int),.int .u64 (b:Int)])]).run prog w=.ok (.slice (some ⟨w.heap.size,0,none⟩) 1 1) (w.alloc (.cells #[.int .u64 (a:Int),.int .u64 (b:Int)] 61)):=by
 obtain⟨i0,hi,hz0,hz1,hz2⟩:=info_parts Tryz.infoLa15
 exact dQ w 24 61 #[.int .u64 (a:Int),.int .u64 (b:Int)] i0 _ underlying24 hi hz0 hz1 (by show 0<2;omega) (by show 2≤_;omega)
@[go_sem] theorem buildLa15 (n : Int) (w : World) : (Instr.build 61 #[(0, .int .u64 n)]).run prog w = .ok (.agg #[.int .u64 n, .int .u64 0]) w := run_build w 61 _ _ (by kernel_rfl)
theorem yQ {a b:La} (h:¬ a=b):¬ ((a.who:Int)=(b.who:Int))∨((a.who:Int)=(b.who:Int))∧¬ ((a.id:Int)=(b.id:Int)):=by
 by_cases e:a.who=b.who
 ·exact .inr ⟨by omega,fun f=>h (La.fu.2 ⟨e,by omega⟩)⟩
 ·exact .inl (by omega)
theorem qi {A A2:Option Addr} {n c n2 c2:Nat} {ls ks:List La} {w:World} (h:AL w A ls) (h2:AL w A2 ks) (hn:n=ls.length) (hn2:n2=ks.length) (hs:n≤1000000) :
  Calls prog 40 #[.slice A n c,.slice A2 n2 c2] w fun e w'=>e=.returned (.bool (decide (ls=ks)))∧∃ j,w'=w.drewN j:=by
 have H:=hid h
 have H2:=hid h2
 have HN:=hid hn
 have h_:=hid hn2
 clear h h2 hn hn2
 by_cases hl:n=n2
 ·subst hl
  have HL:=hid (HN.out.symm.trans h_.out)
  go_enter func40,ntmps40
  go_wp2_with fail
  go_loopw [13] (fun i wr=>∃ k j:Nat,k≤n∧i=.int .i64 k∧ls.take k=ks.take k∧wr=w.drewN j) (fun i _=>n - (intOf i).toNat)
  case atStart=>exact⟨0,0,Nat.zero_le _,rfl,rfl,rfl⟩
  case round =>
   obtain⟨k,j,hk,rfl,he,rfl⟩:=hrel
   have HE:=hid he
   clear he
   by_cases hlt:k<n
   ·obtain⟨ad,m,rfl,hm,hc,hd⟩:=H.out.at_ (k:=k) (by rw [← HN.out];exact hlt)
    obtain⟨iD,m2,rfl,hm2,hc2,hd2⟩:=H2.out.at_ (k:=k) (by rw [← h_.out];exact hlt)
    have HM:=hid hm
    have jh:=hid hm2
    clear hm hm2
    have k0:0≤(k:Int):=by omega
    have k1:(k:Int)<(n:Int):=by omega
    by_cases eq:m=m2
    ·have EQ:=hid eq
     have q1:(m.who:Int)=(m2.who:Int):=by rw [eq]
     have q2:(m.id:Int)=(m2.id:Int):=by rw [eq]
     clear eq
     go_wp2_with fail
     go_region
     go_wp2
     go_roundw
     case rel=>exact⟨k+1,j+1,by omega,by go_num,by rw [aF HM.out,aF jh.out,HE.out,EQ.out],rfl⟩
     case measure=>simp [intOf];omega
    ·have NE:Hid (¬ ls=ks):=hid fun e=>eq (by
      have e1:=congrArg (·[k]?) e
      simp only [HM.out,jh.out,Option.some.injEq] at e1
      exact e1)
     rcases yQ eq with q1 | ⟨q1,q2⟩
     all_goals
      clear eq
      go_wp2_with fail
      go_region
      go_wp2
      go_ret
      exact⟨aj (by rw [decide_eq_false NE.out]),j+1,rfl⟩
   ·obtain rfl:k=n:=by omega
    have HE2:=HE.out
    rw [HN.out,List.take_length,HL.out,List.take_length] at HE2
    have sG:=hid HE2
    clear HE2
    go_wp2
    go_ret
    exact⟨aj (by rw [decide_eq_true sG.out]),j,rfl⟩
 ·have hl':¬ ls=ks:=fun e=>hl (by rw [HN.out,h_.out,e])
  have HL:=hid hl'
  clear hl'
  go_enter func40,ntmps40
  go_wp2
  go_ret
  exact⟨aj (by rw [decide_eq_false HL.out]),0,rfl⟩
end
end
section
section
open Go.Sort
namespace Sr
section
variable {α : Type} {lt : α → α → Bool}
section
variable [Inhabited α]
end
section
variable [Inhabited α]
end
def ins (lt:α→α→Bool) (x:α):List α→List α
 | []=>[x]
 | y :: l=>if lt y x=true then y :: ins lt x l else if lt x y=true then x :: y :: l else y :: l
def canon (lt:α→α→Bool) (l:List α):List α:=l.foldl (fun o x=>ins lt x o) []
def Str (lt:α→α→Bool) (l:List α):Prop:=l.Pairwise fun a b=>lt a b=true
end
end Sr
end
section
namespace Sr
variable {α : Type} {lt : α → α → Bool}
end Sr
end
end
end Go.Proofs.YtmcfknnfaokmlaaGreat
