import Derived.Test.YtcedlgedmkghgaaGreatZ18
import Derived.Test.YtcedlgedmkghgaaGreatZ19
import Derived.Test.YtcedlgedmkghgaaGreatZ21
import Derived.Test.YtcedlgedmkghgaaGreatZ20
import Derived.Test.YtcedlgedmkghgaaGreatZ22
namespace Go.Proofs.YtcedlgedmkghgaaGreat
set_option maxHeartbeats 16000000
open Go.Lib Go.Proofs.Tryz
set_option linter.unusedSimpArgs false
set_option maxRecDepth 100000
section
section
open Go.RowKit Go.Lib
def WoOk (ts:List T9.Tk) (w:World) (e:Ending) (w':World):Prop:=∃ A c ms,e=.returned (.slice A ms.length c)∧au w' 0 74 A (ai ms)∧(∀ m∈ms,m.bU w')∧ms.length≤c∧(A=none→c=0)∧ay ms=ts∧Below w.heap.size w w'∧w'.ownsRow w.heap.size 74 7 (.slice A ms.length c) ms.length (ai ms)
theorem aL.bU.mG {m:aL} {w w':World} {B:Nat} {ts:List TypeId} (h:m.bU w) (hT:aN B ts w w') (hs:9 ∉ ts):m.bU w':=⟨dD h.1 hT hs,h.2⟩
theorem wo_snoc {l:List T9.Tk} {t:T9.Tk} {list id:Nat} {done:Bool}:T9.wo (l++[t]) list done id=T9.wo l list done id++T9.wo [t] list done id:=by
 unfold T9.wo
 rw [List.filter_append]
theorem fD {A:Option Addr} {n c:Nat} {ms:List aL} {w:World} (hk:KL w A ms) (hf:∀ m∈ms,m.bU w) (hn:n=ms.length) (hs:n≤1000) (list:Nat) (done:Bool) (id:Nat) :
  Calls prog 134 #[.slice A n c,.int .u64 (list:Int),.bool done,.int .u64 (id:Int)] w (WoOk (T9.wo (ay ms) list done id) w):=by
 have HF:=hid hf
 have HN:=hid hn
 have HK:=hid hk
 clear hk hf hn
 go_enter func134,ntmps134
 go_wp2_with fail
 go_loopw [9,14] (fun s9 s14 wr=>∃ (i k:Nat) (A3:Option Addr) (c3:Nat) (xs:List aL),s14=.int .i64 i∧i≤n∧s9=.slice A3 k c3∧k≤i∧Aside (wr.ownsRow w.heap.size 74 7 (.slice A3 k c3) k (ai xs))∧Aside (Below w.heap.size w wr)∧Hid (xs.length=k∧ay xs=T9.wo (ay (ms.take i)) list done id∧(∀ m∈xs,m.bU wr)∧(A3=none→c3=0))) (fun _ s14 _=>n - (intOf s14).toNat)
 case atStart=>exact⟨0,0,none,0,[],rfl,Nat.zero_le _,rfl,Nat.le_refl _,World.ownsRow_nil _ _ _ _,Below.refl _ _,hid ⟨rfl,rfl,by simp,fun _=>rfl⟩⟩
 case round =>
  obtain⟨i,k,A3,c3,xs,rfl,hi,rfl,hki,hO,hB,HI⟩:=hrel
  have OW:=hid hO.out
  have BR:=hid hB.out
  clear hO hB
  by_cases hlt:i<n
  ·have hltz:(i:Int)<(n:Int):=by omega
   obtain⟨ad,⟨tk,A4,c4⟩,hA,hx,hf,r0,r1,r2,r3,r4,r5,r6⟩:=(HK.out.stay BR.out).at_ (k:=i) (by have:=HN.out;omega)
   subst hA
   have X:=hid hx
   have FT:Hid (aL.bU ⟨tk,A4,c4⟩ wr):=hid ((HF.out _ (List.mem_of_getElem? hx)).stay BR.out)
   dsimp only at r0 r1 r2 r3 r4 r5 r6
   obtain⟨w2,hw2⟩:∃ u,wr.alloc (.cells #[.int .u64 (tk.id:Int),.int .u64 (tk.list:Int),.string (str tk.title),.bool tk.done,.float .f64 tk.rank,.float .f64 tk.est,.slice A4 tk.tags.length c4] 74)=u:=⟨_,rfl⟩
   obtain⟨lb,b2,z2⟩:=bn hw2
   have B2:=hid b2
   have LB:=hid lb
   obtain⟨l0,l1,l2,l3,l4,l5,l6⟩:=aj lb
   have uA:Hid (T9.wo (ay (ms.take (i+1))) list done id=T9.wo (ay (ms.take i)) list done id++T9.wo [tk] list done id):=hid (by rw [bL X.out,fC,wo_snoc])
   obtain⟨td,htd⟩:∃ b,tk.done=b:=⟨_,rfl⟩
   have HTD:=hid htd
   rw [htd] at l3 r3 hw2
   clear hx hf lb b2 z2 htd
   by_cases h1:tk.id=id
   ·have f1:((tk.id:Int)==(id:Int))=true:=by rw [h1];exact beq_self_eq_true _
    have FL:Hid (T9.wo [tk] list done id=[]):=hid (by unfold T9.wo;simp [h1])
    try clear h1
    try clear h2
    try clear h3
    go_wp2
    go_roundw
    case rel=>exact⟨i+1,k,A3,c3,xs,by go_num,by omega,rfl,by omega,own_below OW.out B2.out,BR.out.trans (B2.out.mono BR.out.size),hid ⟨HI.out.1,by rw [HI.out.2.1,uA.out,FL.out,List.append_nil],fun m hm=>(HI.out.2.2.1 m hm).stay B2.out,HI.out.2.2.2⟩⟩
    case measure=>simp [intOf];omega
   have f1:((tk.id:Int)==(id:Int))=false:=by rw [beq_eq_false_iff_ne];omega
   by_cases h2:list=0
   ·have f2:((list:Int) != 0)=false:=by rw [h2];rfl
    have f2b:((list:Int)==0)=true:=by rw [h2];rfl
    have FL:Hid (T9.wo [tk] list done id=[tk]):=hid (by unfold T9.wo;simp [h1,h2])
    try clear h1
    try clear h2
    try clear h3
    have hbs:=dZ ⟨{ tk with done:=td },A4,c4⟩ w2
    unfold az at hbs
    dsimp only at hbs
    have etk:({ tk with done:=td }:T9.Tk)=tk:=by rw [← HTD.out]
    have Dk:=hid (own_below OW.out B2.out)
    have lI:=hid (Dk.out.alloc (.cells #[.int .u64 (tk.id:Int),.int .u64 (tk.list:Int),.string (str tk.title),.bool td,.float .f64 tk.rank,.float .f64 tk.est,.slice A4 tk.tags.length c4] 74))
    have LE:Hid (au (w2.alloc (.cells #[.int .u64 (tk.id:Int),.int .u64 (tk.list:Int),.string (str tk.title),.bool td,.float .f64 tk.rank,.float .f64 tk.est,.slice A4 tk.tags.length c4] 74)) 0 74 (some ⟨w2.heap.size,0,none⟩) (az ⟨tk,A4,c4⟩)):=hid (by
     rw [← etk]
     exact au.gY (heap_alloc_new w2 _))
    have zz:w.heap.size≤w2.heap.size:=Nat.le_trans BR.out.size B2.out.size
    have ZZ:=hid zz
    obtain⟨vN,vM,vQ,vR,vS⟩:=info_parts Tryz.infoTk9
    clear etk
    go_wp2_with (at_builtin;refine bE _ rfl _ _ 23 rfl w.heap.size 74 vN _ 7 80 underlying23 vM vQ vR vS rfl (by decide) _ k (ai xs) rfl lI.out 0 _ 1 1 (az ⟨tk,A4,c4⟩) 74 rfl rfl LE.out (dI _) (by unfold maxLen;omega) (by omega) (by simp;omega) ?_)
    intro v6 w6 hown6 aM ed
    obtain⟨A6,k6,rfl⟩:=aA hown6
    obtain⟨g6,e6,_⟩:=bO hown6 (Nat.succ_pos _)
    have T6:Hid (aN w.heap.size [74] w2 w6):=hid (((aN.refl w.heap.size [74] w2).alloc ZZ.out (.cells #[.int .u64 (tk.id:Int),.int .u64 (tk.list:Int),.string (str tk.title),.bool td,.float .f64 tk.rank,.float .f64 tk.est,.slice A4 tk.tags.length c4] 74)).trans (dP (B:=w.heap.size) (ts:=[74]) lI.out aM (Nat.le_refl _) (by have:=ZZ.out;simp;omega) (by simp)))
    have Df:=hid hown6
    have E6:=hid e6
    clear hown6 aM ed hbs l0 l1 l2 l3 l4 l5 l6 zz e6
    go_wp2
    go_roundw
    case rel =>
     refine⟨i+1,k+1,A6,k6,xs++[⟨tk,A4,c4⟩],by go_num,by omega,rfl,by omega,?_,(BR.out.trans (B2.out.mono BR.out.size)).trans T6.out.below,hid ⟨by rw [List.length_append,HI.out.1];rfl,by rw [fC,HI.out.2.1,uA.out,FL.out],fun m hm=>?_,fun z=>by rw [E6.out] at z;cases z⟩⟩
     ·rw [gQ];exact Df.out
     ·rcases List.mem_append.1 hm with q | q
      ·exact ((HI.out.2.2.1 m q).stay B2.out).mG T6.out (by decide)
      ·rw [List.mem_singleton] at q
       subst q
       exact (FT.out.stay B2.out).mG T6.out (by decide)
    case measure=>simp [intOf];omega
   have f2:((list:Int) != 0)=true:=by simp;omega
   have f2b:((list:Int)==0)=false:=by rw [beq_eq_false_iff_ne];omega
   by_cases h3:tk.list=list
   ·have f3:((tk.list:Int)==(list:Int))=true:=by rw [h3];exact beq_self_eq_true _
    cases td with
    | true =>
     have FL:Hid (T9.wo [tk] list done id=[]):=hid (by unfold T9.wo;simp [h1,h2,h3,HTD.out])
     try clear h1
     try clear h2
     try clear h3
     go_wp2
     go_roundw
     case rel=>exact⟨i+1,k,A3,c3,xs,by go_num,by omega,rfl,by omega,own_below OW.out B2.out,BR.out.trans (B2.out.mono BR.out.size),hid ⟨HI.out.1,by rw [HI.out.2.1,uA.out,FL.out,List.append_nil],fun m hm=>(HI.out.2.2.1 m hm).stay B2.out,HI.out.2.2.2⟩⟩
     case measure=>simp [intOf];omega
    | false =>
     cases done with
     | false =>
      have FL:Hid (T9.wo [tk] list false id=[]):=hid (by unfold T9.wo;simp [h1,h2,h3,HTD.out])
      try clear h1
      try clear h2
      try clear h3
      go_wp2
      go_roundw
      case rel=>exact⟨i+1,k,A3,c3,xs,by go_num,by omega,rfl,by omega,own_below OW.out B2.out,BR.out.trans (B2.out.mono BR.out.size),hid ⟨HI.out.1,by rw [HI.out.2.1,uA.out,FL.out,List.append_nil],fun m hm=>(HI.out.2.2.1 m hm).stay B2.out,HI.out.2.2.2⟩⟩
      case measure=>simp [intOf];omega
     | true =>
      have FL:Hid (T9.wo [tk] list true id=[tk]):=hid (by unfold T9.wo;simp [h1,h2,h3,HTD.out])
      try clear h1
      try clear h2
      try clear h3
      have hbs:=dZ ⟨{ tk with done:=false },A4,c4⟩ w2
      unfold az at hbs
      dsimp only at hbs
      have etk:({ tk with done:=false }:T9.Tk)=tk:=by rw [← HTD.out]
      have Dk:=hid (own_below OW.out B2.out)
      have lI:=hid (Dk.out.alloc (.cells #[.int .u64 (tk.id:Int),.int .u64 (tk.list:Int),.string (str tk.title),.bool false,.float .f64 tk.rank,.float .f64 tk.est,.slice A4 tk.tags.length c4] 74))
      have LE:Hid (au (w2.alloc (.cells #[.int .u64 (tk.id:Int),.int .u64 (tk.list:Int),.string (str tk.title),.bool false,.float .f64 tk.rank,.float .f64 tk.est,.slice A4 tk.tags.length c4] 74)) 0 74 (some ⟨w2.heap.size,0,none⟩) (az ⟨tk,A4,c4⟩)):=hid (by
       rw [← etk]
       exact au.gY (heap_alloc_new w2 _))
      have zz:w.heap.size≤w2.heap.size:=Nat.le_trans BR.out.size B2.out.size
      have ZZ:=hid zz
      obtain⟨vN,vM,vQ,vR,vS⟩:=info_parts Tryz.infoTk9
      clear etk
      go_wp2_with (at_builtin;refine bE _ rfl _ _ 23 rfl w.heap.size 74 vN _ 7 80 underlying23 vM vQ vR vS rfl (by decide) _ k (ai xs) rfl lI.out 0 _ 1 1 (az ⟨tk,A4,c4⟩) 74 rfl rfl LE.out (dI _) (by unfold maxLen;omega) (by omega) (by simp;omega) ?_)
      intro v6 w6 hown6 aM ed
      obtain⟨A6,k6,rfl⟩:=aA hown6
      obtain⟨g6,e6,_⟩:=bO hown6 (Nat.succ_pos _)
      have T6:Hid (aN w.heap.size [74] w2 w6):=hid (((aN.refl w.heap.size [74] w2).alloc ZZ.out (.cells #[.int .u64 (tk.id:Int),.int .u64 (tk.list:Int),.string (str tk.title),.bool false,.float .f64 tk.rank,.float .f64 tk.est,.slice A4 tk.tags.length c4] 74)).trans (dP (B:=w.heap.size) (ts:=[74]) lI.out aM (Nat.le_refl _) (by have:=ZZ.out;simp;omega) (by simp)))
      have Df:=hid hown6
      have E6:=hid e6
      clear hown6 aM ed hbs l0 l1 l2 l3 l4 l5 l6 zz e6
      go_wp2
      go_roundw
      case rel =>
       refine⟨i+1,k+1,A6,k6,xs++[⟨tk,A4,c4⟩],by go_num,by omega,rfl,by omega,?_,(BR.out.trans (B2.out.mono BR.out.size)).trans T6.out.below,hid ⟨by rw [List.length_append,HI.out.1];rfl,by rw [fC,HI.out.2.1,uA.out,FL.out],fun m hm=>?_,fun z=>by rw [E6.out] at z;cases z⟩⟩
       ·rw [gQ];exact Df.out
       ·rcases List.mem_append.1 hm with q | q
        ·exact ((HI.out.2.2.1 m q).stay B2.out).mG T6.out (by decide)
        ·rw [List.mem_singleton] at q
         subst q
         exact (FT.out.stay B2.out).mG T6.out (by decide)
      case measure=>simp [intOf];omega
   ·have f3:((tk.list:Int)==(list:Int))=false:=by rw [beq_eq_false_iff_ne];omega
    have FL:Hid (T9.wo [tk] list done id=[tk]):=hid (by unfold T9.wo;simp [h1,h2,h3])
    try clear h1
    try clear h2
    try clear h3
    have hbs:=dZ ⟨{ tk with done:=td },A4,c4⟩ w2
    unfold az at hbs
    dsimp only at hbs
    have etk:({ tk with done:=td }:T9.Tk)=tk:=by rw [← HTD.out]
    have Dk:=hid (own_below OW.out B2.out)
    have lI:=hid (Dk.out.alloc (.cells #[.int .u64 (tk.id:Int),.int .u64 (tk.list:Int),.string (str tk.title),.bool td,.float .f64 tk.rank,.float .f64 tk.est,.slice A4 tk.tags.length c4] 74))
    have LE:Hid (au (w2.alloc (.cells #[.int .u64 (tk.id:Int),.int .u64 (tk.list:Int),.string (str tk.title),.bool td,.float .f64 tk.rank,.float .f64 tk.est,.slice A4 tk.tags.length c4] 74)) 0 74 (some ⟨w2.heap.size,0,none⟩) (az ⟨tk,A4,c4⟩)):=hid (by
     rw [← etk]
     exact au.gY (heap_alloc_new w2 _))
    have zz:w.heap.size≤w2.heap.size:=Nat.le_trans BR.out.size B2.out.size
    have ZZ:=hid zz
    obtain⟨vN,vM,vQ,vR,vS⟩:=info_parts Tryz.infoTk9
    clear etk
    go_wp2_with (at_builtin;refine bE _ rfl _ _ 23 rfl w.heap.size 74 vN _ 7 80 underlying23 vM vQ vR vS rfl (by decide) _ k (ai xs) rfl lI.out 0 _ 1 1 (az ⟨tk,A4,c4⟩) 74 rfl rfl LE.out (dI _) (by unfold maxLen;omega) (by omega) (by simp;omega) ?_)
    intro v6 w6 hown6 aM ed
    obtain⟨A6,k6,rfl⟩:=aA hown6
    obtain⟨g6,e6,_⟩:=bO hown6 (Nat.succ_pos _)
    have T6:Hid (aN w.heap.size [74] w2 w6):=hid (((aN.refl w.heap.size [74] w2).alloc ZZ.out (.cells #[.int .u64 (tk.id:Int),.int .u64 (tk.list:Int),.string (str tk.title),.bool td,.float .f64 tk.rank,.float .f64 tk.est,.slice A4 tk.tags.length c4] 74)).trans (dP (B:=w.heap.size) (ts:=[74]) lI.out aM (Nat.le_refl _) (by have:=ZZ.out;simp;omega) (by simp)))
    have Df:=hid hown6
    have E6:=hid e6
    clear hown6 aM ed hbs l0 l1 l2 l3 l4 l5 l6 zz e6
    go_wp2
    go_roundw
    case rel =>
     refine⟨i+1,k+1,A6,k6,xs++[⟨tk,A4,c4⟩],by go_num,by omega,rfl,by omega,?_,(BR.out.trans (B2.out.mono BR.out.size)).trans T6.out.below,hid ⟨by rw [List.length_append,HI.out.1];rfl,by rw [fC,HI.out.2.1,uA.out,FL.out],fun m hm=>?_,fun z=>by rw [E6.out] at z;cases z⟩⟩
     ·rw [gQ];exact Df.out
     ·rcases List.mem_append.1 hm with q | q
      ·exact ((HI.out.2.2.1 m q).stay B2.out).mG T6.out (by decide)
      ·rw [List.mem_singleton] at q
       subst q
       exact (FT.out.stay B2.out).mG T6.out (by decide)
    case measure=>simp [intOf];omega
  ·obtain rfl:i=n:=by omega
   have hltz:¬ ((i:Int)<(i:Int)):=by omega
   have XT:Hid (ay xs=T9.wo (ay ms) list done id):=hid (by rw [HI.out.2.1,HN.out,List.take_length])
   go_wp2
   go_ret
   refine⟨A3,c3,xs,by rw [HI.out.1];rfl,aG OW.out,HI.out.2.2.1,by rw [HI.out.1];exact (aO OW.out).2,HI.out.2.2.2,XT.out,BR.out,by rw [HI.out.1];exact OW.out⟩
end
section
open Go.RowKit Go.Lib
def TagsOk (r:Int × List (List UInt8)) (w:World) (e:Ending) (w':World):Prop:=∃ A c,e=.returned (.tuple #[.slice A r.2.length c,.int .i64 r.1])∧au w' 0 9 A (aB r.2)∧r.2.length≤c∧Below w.heap.size w w'
theorem Gs {l:List (List UInt8)} {x y:List UInt8}:(l++[y]).filter (fun z=>!decide (z=x))=l.filter (fun z=>!decide (z=x))++(if y=x then [] else [y]):=by
 rw [List.filter_append]
 by_cases h:y=x <;> simp [h]
theorem CZ {A:Option Addr} {n c:Nat} {ts:List (List UInt8)} {kd:Int} {id list f:Nat} {text:List UInt8} {flag:Bool} {w:World} (h:au w 0 9 A (aB ts)) (hn:n=ts.length) (hs:n≤100) (hc:n≤c) :
  Calls prog 137 #[.slice A n c,.agg #[.int .i64 kd,.int .u64 (id:Int),.int .u64 (list:Int),.string (str text),.float .f64 f,.bool flag]] w (TagsOk (T9.dW ts ⟨kd,id,list,text,f,flag⟩) w):=by
 obtain⟨w1,hw1⟩:∃ u,w.alloc (.cells #[.int .i64 kd,.int .u64 (id:Int),.int .u64 (list:Int),.string (str text),.float .f64 f,.bool flag] 65)=u:=⟨_,rfl⟩
 obtain⟨pb,b1,z1⟩:=bu hw1
 have PB:Hid (j6 ⟨kd,id,list,text,f,flag⟩ w.heap.size w1):=hid pb
 have B1:=hid b1
 have HT:=hid h
 have HG:Hid (GL w1 A ts):=hid (GL.stay (au.old h) b1)
 have HN:=hid hn
 have HC:=hid hc
 clear h hn hc pb b1 z1
 go_enter func137,ntmps137
 go_wp2_with fail
 go_loopw [6,12] (fun s6 s12 wr=>∃ (i k:Nat) (A3:Option Addr) (c3:Nat) (ys:List (List UInt8)),s12=.int .i64 i∧i≤n∧s6=.slice A3 k c3∧k≤i∧Aside (wr.ownsRow w1.heap.size 9 1 (.slice A3 k c3) k (aB ys))∧Aside (Below w1.heap.size w1 wr)∧Hid (ys.length=k∧ys=(ts.take i).filter (fun z=>!decide (z=text))∧(A3=none→c3=0))) (fun _ s12 _=>n - (intOf s12).toNat)
 case atStart=>exact⟨0,0,none,0,[],rfl,Nat.zero_le _,rfl,Nat.le_refl _,World.ownsRow_nil _ _ _ _,Below.refl _ _,hid ⟨rfl,rfl,fun _=>rfl⟩⟩
 case round =>
  obtain⟨i,k,A3,c3,ys,rfl,hi,rfl,hki,hO,hB,HI⟩:=hrel
  have OW:=hid hO.out
  have BR:=hid hB.out
  clear hO hB
  obtain⟨m0,m1,m2,m3,m4,m5⟩:=ag (PB.out.stay BR.out)
  dsimp only at m0 m1 m2 m3 m4 m5
  by_cases hlt:i<n
  ·have hltz:(i:Int)<(n:Int):=by omega
   obtain⟨ad,x,hA,hx,r0⟩:=(HG.out.stay BR.out).at_ (k:=i) (by have:=HN.out;omega)
   subst hA
   have X:=hid hx
   have uA:Hid ((ts.take (i+1)).filter (fun z=>!decide (z=text))=(ts.take i).filter (fun z=>!decide (z=text))++(if x=text then [] else [x])):=hid (by rw [bL X.out,Gs])
   clear hx
   by_cases h1:x=text
   ·have f1:(str x==str text)=true:=by rw [kS,h1];exact decide_eq_true rfl
    have f2:(x==text)=true:=by rw [h1];exact beq_self_eq_true _
    have f3:(!(str x==str text))=false:=by rw [f1];rfl
    have f4:(!(x==text))=false:=by rw [f2];rfl
    have FL:Hid ((ts.take (i+1)).filter (fun z=>!decide (z=text))=(ts.take i).filter (fun z=>!decide (z=text))):=hid (by rw [uA.out,if_pos h1,List.append_nil])
    subst h1
    go_wp2
    go_roundw
    case rel=>exact⟨i+1,k,A3,c3,ys,by go_num,by omega,rfl,by omega,OW.out,BR.out,hid ⟨HI.out.1,by rw [FL.out];exact HI.out.2.1,HI.out.2.2⟩⟩
    case measure=>simp [intOf];omega
   ·have f1:(str x==str text)=false:=by rw [kS];exact decide_eq_false h1
    have f2:(x==text)=false:=by rw [beq_eq_false_iff_ne];exact h1
    have f3:(!(str x==str text))=true:=by rw [f1];rfl
    have f4:(!(x==text))=true:=by rw [f2];rfl
    have FL:Hid ((ts.take (i+1)).filter (fun z=>!decide (z=text))=(ts.take i).filter (fun z=>!decide (z=text))++[x]):=hid (by rw [uA.out,if_neg h1])
    have lI:=hid (OW.out.alloc (.cells #[.string (str x)] 9))
    have LE:Hid (au (wr.alloc (.cells #[.string (str x)] 9)) 0 9 (some ⟨wr.heap.size,0,none⟩) (aB [x])):=hid (au.gY (heap_alloc_new wr _))
    have ZZ:=hid BR.out.size
    have zz:=ZZ.out
    obtain⟨vN,vM,vQ,vR,vS⟩:=info_parts Tryz.infoStr9
    go_wp2_with (at_builtin;refine bE _ rfl _ _ 72 rfl w1.heap.size 9 vN _ 1 16 underlying72 vM vQ vR vS rfl (by decide) _ k (aB ys) rfl lI.out 0 _ 1 1 (aB [x]) 9 rfl rfl LE.out (eT _) (by unfold maxLen;omega) (by omega) (by simp;omega) ?_)
    intro v6 w6 hown6 aM ed
    obtain⟨A6,k6,rfl⟩:=aA hown6
    obtain⟨g6,e6,_⟩:=bO hown6 (Nat.succ_pos _)
    have B6:Hid (Below w1.heap.size wr w6):=hid (((Below.refl _ wr).alloc ZZ.out _).trans (jT lI.out aM (by have:=ZZ.out;simp;omega)))
    have Df:=hid hown6
    have E6:=hid e6
    clear hown6 aM ed zz e6 h1
    go_wp2
    go_roundw
    case rel =>
     refine⟨i+1,k+1,A6,k6,ys++[x],by go_num,by omega,rfl,by omega,?_,BR.out.trans B6.out,hid ⟨by rw [List.length_append,HI.out.1];rfl,by rw [FL.out,← HI.out.2.1],fun z=>by rw [E6.out] at z;cases z⟩⟩
     rw [qI];exact Df.out
    case measure=>simp [intOf];omega
  ·obtain rfl:i=n:=by omega
   have hltz:¬ ((i:Int)<(i:Int)):=by omega
   have YT:Hid (ys=ts.filter (fun z=>!decide (z=text))):=hid (by have:=HI.out.2.1;rw [HN.out,List.take_length] at this;exact this)
   have YL:Hid ((ts.filter (fun z=>!decide (z=text))).length=k):=hid (by rw [← YT.out];exact HI.out.1)
   have BW:Hid (Below w.heap.size w wr):=hid (B1.out.trans (BR.out.mono B1.out.size))
   by_cases hk:k<i
   ·have hkz:(k:Int)<(i:Int):=by omega
    by_cases h10:kd=10
    ·have V:=hid (show T9.dW ts ⟨kd,id,list,text,f,flag⟩=(0,ts.filter (fun z=>!decide (z=text))) by unfold T9.dW;rw [if_pos h10,if_pos (by rw [YL.out,← HN.out];exact hk)])
     have k10:(kd==10)=true:=by rw [beq_iff_eq];exact h10
     have H10:=hid h10
     clear h10
     go_wp2
     go_ret2
     refine⟨A3,c3,by rw [V.out,YL.out];rfl,?_,by rw [V.out,YL.out];exact (aO OW.out).2,BW.out⟩
     rw [V.out,← YT.out]
     exact aG OW.out
    ·have V:=hid (show T9.dW ts ⟨kd,id,list,text,f,flag⟩=(92,ts) by unfold T9.dW;rw [if_neg h10,if_pos (by rw [YL.out,← HN.out];exact hk)])
     have k10:(kd==10)=false:=by rw [beq_eq_false_iff_ne];exact h10
     go_wp2
     go_ret2
     refine⟨A,c,by rw [V.out,← HN.out];rfl,by rw [V.out];exact HT.out.below (Nat.zero_le _) BW.out,by rw [V.out,← HN.out];exact HC.out,BW.out⟩
   ·have hkz:¬ ((k:Int)<(i:Int)):=by omega
    by_cases h10:kd=10
    ·have V:=hid (show T9.dW ts ⟨kd,id,list,text,f,flag⟩=(3,ts) by unfold T9.dW;rw [if_pos h10,if_neg (by rw [YL.out,← HN.out];exact hk)])
     have k10:(kd==10)=true:=by rw [beq_iff_eq];exact h10
     have H10:=hid h10
     clear h10
     go_wp2
     go_ret2
     refine⟨A,c,by rw [V.out,← HN.out];rfl,by rw [V.out];exact HT.out.below (Nat.zero_le _) BW.out,by rw [V.out,← HN.out];exact HC.out,BW.out⟩
    ·have k10:(kd==10)=false:=by rw [beq_eq_false_iff_ne];exact h10
     by_cases h4:4≤i
     ·have V:=hid (show T9.dW ts ⟨kd,id,list,text,f,flag⟩=(95,ts) by unfold T9.dW;rw [if_neg h10,if_neg (by rw [YL.out,← HN.out];exact hk),if_pos (by rw [← HN.out];exact h4)])
      have h4z:(4:Int)≤(i:Int):=by omega
      go_wp2
      go_ret2
      refine⟨A,c,by rw [V.out,← HN.out];rfl,by rw [V.out];exact HT.out.below (Nat.zero_le _) BW.out,by rw [V.out,← HN.out];exact HC.out,BW.out⟩
     ·have V:=hid (show T9.dW ts ⟨kd,id,list,text,f,flag⟩=(0,Sr.canon T9.dL (ts.filter (fun z=>!decide (z=text))++[text])) by unfold T9.dW;rw [if_neg h10,if_neg (by rw [YL.out,← HN.out];exact hk),if_neg (by rw [← HN.out];exact h4)])
      have h4z:¬ ((4:Int)≤(i:Int)):=by omega
      have lI:=hid (OW.out.alloc (.cells #[.string (str text)] 9))
      have LE:Hid (au (wr.alloc (.cells #[.string (str text)] 9)) 0 9 (some ⟨wr.heap.size,0,none⟩) (aB [text])):=hid (au.gY (heap_alloc_new wr _))
      have ZZ:=hid BR.out.size
      have zz:=ZZ.out
      obtain⟨vN,vM,vQ,vR,vS⟩:=info_parts Tryz.infoStr9
      go_wp2_with (at_builtin;refine bE _ rfl _ _ 72 rfl w1.heap.size 9 vN _ 1 16 underlying72 vM vQ vR vS rfl (by decide) _ k (aB ys) rfl lI.out 0 _ 1 1 (aB [text]) 9 rfl rfl LE.out (eT _) (by unfold maxLen;omega) (by omega) (by simp;omega) ?_)
      intro v6 w6 hown6 aM ed
      obtain⟨A6,k6,rfl⟩:=aA hown6
      have B6:Hid (Below w1.heap.size wr w6):=hid (((Below.refl _ wr).alloc ZZ.out _).trans (jT lI.out aM (by have:=ZZ.out;simp;omega)))
      have TC:=hid (C9 (A0:=A6) (n0:=k+1) (c0:=k6) (xs:=ys++[text]) (w:=w6) (by show au _ _ _ _ (aB (ys++[text]));rw [qI];exact (aG (B:=0) (t:=9) hown6).old) (by rw [List.length_append,HI.out.1];rfl) (by omega))
      clear hown6 aM ed zz
      go_wp2_with fail
      refine TC.out.mono ?_
      rintro e w7 ⟨A7,c7,rfl,hl7,hc7,hz7,EW⟩
      have V7:=hid (And.intro hl7 (And.intro hc7 (And.intro hz7 EW)))
      clear hl7 hc7 hz7 EW
      go_wp2
      go_ret2
      refine⟨A7,c7,by rw [V.out,← YT.out];rfl,by rw [V.out,← YT.out];exact V7.out.1,by rw [V.out,← YT.out];exact V7.out.2.1,(BW.out.trans (B6.out.mono B1.out.size)).trans (V7.out.2.2.2.mono (by have:=BW.out.size;have:=B6.out.size;omega))⟩
end
section
open Go.RowKit Go.Lib
namespace Sr
section
variable {α : Type} {lt : α → α → Bool}
theorem sM (ho:WO lt) {x:α} {ls:List α} {k:Nat} (s:Str lt ls) (hk0:k≤ls.length) (h:∀ y∈ls.drop k,lt x y=true) (hz:∀ y,0<k→ls[k - 1]?=some y→lt y x=true):ins lt x ls=ls.take k++x :: ls.drop k:=by
 refine gL (fun y hy=>?_) fun y hy=>?_
 ·obtain⟨i,hi,e⟩:=List.mem_iff_getElem.1 hy
  rw [List.length_take] at hi
  rw [List.getElem_take] at e
  have hk:k - 1<ls.length∨ls.length≤k - 1:=by omega
  rcases hk with hk | hk
  ·have q:=hz ls[k - 1] (by omega) (List.getElem?_eq_getElem hk)
   by_cases e2:i=k - 1
   ·subst e2
    rw [← e]
    exact q
   ·have r:=List.pairwise_iff_getElem.1 s i (k - 1) (by omega) hk (by omega)
    rw [e] at r
    exact ho.tr _ _ _ r q
  ·omega
 ·have q:=h y (by
   obtain⟨hi,e⟩:=List.getElem?_eq_some_iff.1 hy
   rw [← e]
   exact List.mem_iff_getElem.2 ⟨0,by rw [List.length_drop];omega,by simp⟩)
  exact⟨ho.asym q,q⟩
end
end Sr
namespace T9
theorem yA (ts:List Tk) (t:Tk) (list:Nat):fH (ts++[t]) list=fH ts list++(if t.list=list then [t] else []):=by
 unfold fH
 rw [List.filter_append]
 by_cases h:t.list=list <;> simp [h]
theorem vo (ts:List Tk) (t:Tk) (list:Nat):kJ (ts++[t]) list=if t.list=list then Sr.ins kT t (kJ ts list) else kJ ts list:=by
 unfold kJ
 rw [yA]
 by_cases h:t.list=list
 ·rw [if_pos h,if_pos h,Sr.f_]
 ·rw [if_neg h,if_neg h,List.append_nil]
theorem Jr {l:List Tk} {t:Tk} {i:Nat} (u:rq l) (h:l[i]?=some t) {y:Tk} (hy:y∈l.take i):y.id≠t.id:=by
 obtain⟨hi,e⟩:=List.getElem?_eq_some_iff.1 h
 obtain⟨j,hj,e2⟩:=List.mem_iff_getElem.1 hy
 have hj2:j<i:=by
  have:=hj
  rw [List.length_take] at this
  omega
 rw [List.getElem_take] at e2
 have q:=List.pairwise_iff_getElem.1 u j i (by omega) hi hj2
 rw [e,e2] at q
 exact q
end T9
end
end
end Go.Proofs.YtcedlgedmkghgaaGreat
