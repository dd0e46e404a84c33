import Derived.Test.YtcmiompdjjiojaaGreatZ11
namespace Go.Proofs.YtcmiompdjjiojaaGreat
set_option maxHeartbeats 16000000
open Go.Lib Go.Proofs.Tryz
set_option linter.unusedSimpArgs false
set_option maxRecDepth 100000
section
section
open Go.RowKit Go.Lib
def WoOk (ts:List T9.Tk) (w:World) (e:Ending) (w':World):Prop:=∃ A c ms,e=.returned (.slice A ms.length c)∧au w' 0 64 A (ai ms)∧(∀ m∈ms,m.bS w')∧ms.length≤c∧(A=none→c=0)∧ay ms=ts∧Below w.heap.size w w'∧w'.ownsRow w.heap.size 64 7 (.slice A ms.length c) ms.length (ai ms)
theorem aN.bS.nP {m:aN} {w w':World} {B:Nat} {ts:List TypeId} (h:m.bS w) (hT:aM B ts w w') (hs:9 ∉ ts):m.bS w':=⟨dF h.1 hT hs,h.2⟩
theorem wo_snoc {l:List T9.Tk} {t:T9.Tk} {list id:Nat} {done:Bool}:T9.wo (l++[t]) list done id=T9.wo l list done id++T9.wo [t] list done id:=by
 unfold T9.wo
 rw [List.filter_append]
theorem fH {A:Option Addr} {n c:Nat} {ms:List aN} {w:World} (hk:KL w A ms) (hf:∀ m∈ms,m.bS w) (hn:n=ms.length) (hs:n≤1000) (list:Nat) (done:Bool) (id:Nat) :
  Calls prog 68 #[.slice A n c,.int .u64 (list:Int),.bool done,.int .u64 (id:Int)] w (WoOk (T9.wo (ay ms) list done id) w):=by
 have HF:=hid hf
 have HN:=hid hn
 have HK:=hid hk
 clear hk hf hn
 go_enter func68,ntmps68
 go_wp2_with fail
 go_loopw [9,14] (fun s9 s14 wr=>∃ (i k:Nat) (A3:Option Addr) (c3:Nat) (xs:List aN),s14=.int .i64 i∧i≤n∧s9=.slice A3 k c3∧k≤i∧Aside (wr.ownsRow w.heap.size 64 7 (.slice A3 k c3) k (ai xs))∧Aside (Below w.heap.size w wr)∧Hid (xs.length=k∧ay xs=T9.wo (ay (ms.take i)) list done id∧(∀ m∈xs,m.bS wr)∧(A3=none→c3=0))) (fun _ s14 _=>n - (intOf s14).toNat)
 case atStart=>exact⟨0,0,none,0,[],rfl,Nat.zero_le _,rfl,Nat.le_refl _,World.ownsRow_nil _ _ _ _,Below.refl _ _,hid ⟨rfl,rfl,by simp,fun _=>rfl⟩⟩
 case round =>
  obtain⟨i,k,A3,c3,xs,rfl,hi,rfl,hki,hO,hB,HI⟩:=hrel
  have OW:=hid hO.out
  have BR:=hid hB.out
  clear hO hB
  by_cases hlt:i<n
  ·have hltz:(i:Int)<(n:Int):=by omega
   obtain⟨ad,⟨tk,A4,c4⟩,hA,hx,hf,r0,r1,r2,r3,r4,r5,r6⟩:=(HK.out.stay BR.out).at_ (k:=i) (by have:=HN.out;omega)
   subst hA
   have X:=hid hx
   have FT:Hid (aN.bS ⟨tk,A4,c4⟩ wr):=hid ((HF.out _ (List.mem_of_getElem? hx)).stay BR.out)
   dsimp only at r0 r1 r2 r3 r4 r5 r6
   obtain⟨w2,hw2⟩:=nm (wr.alloc (.cells #[.int .u64 (tk.id:Int),.int .u64 (tk.list:Int),.string (str tk.title),.bool tk.done,.float .f64 tk.rank,.float .f64 tk.est,.slice A4 tk.tags.length c4] 64))
   obtain⟨lb,b2,z2⟩:=bf hw2
   have B2:=hid b2
   have LB:=hid lb
   obtain⟨l0,l1,l2,l3,l4,l5,l6⟩:=ak lb
   have wO:Hid (T9.wo (ay (ms.take (i+1))) list done id=T9.wo (ay (ms.take i)) list done id++T9.wo [tk] list done id):=hid (by rw [bH X.out,fG,wo_snoc])
   obtain⟨td,htd⟩:=nm tk.done
   have HTD:=hid htd
   rw [htd] at l3 r3 hw2
   clear hx hf lb b2 z2 htd
   by_cases h1:tk.id=id
   ·have f1:((tk.id:Int)==(id:Int))=true:=by rw [h1];exact beq_self_eq_true _
    have FL:Hid (T9.wo [tk] list done id=[]):=hid (by unfold T9.wo;simp [h1])
    try clear h1
    try clear h2
    try clear h3
    go_wp2
    go_roundw
    case rel=>exact⟨i+1,k,A3,c3,xs,by go_num,by omega,rfl,by omega,own_below OW.out B2.out,BR.out.trans (B2.out.mono BR.out.size),hid ⟨HI.out.1,by rw [HI.out.2.1,wO.out,FL.out,List.append_nil],fun m hm=>(HI.out.2.2.1 m hm).stay B2.out,HI.out.2.2.2⟩⟩
    case measure=>simp [intOf];omega
   have f1:((tk.id:Int)==(id:Int))=false:=by rw [beq_eq_false_iff_ne];omega
   by_cases h2:list=0
   ·have f2:((list:Int) != 0)=false:=by rw [h2];rfl
    have f2b:((list:Int)==0)=true:=by rw [h2];rfl
    have FL:Hid (T9.wo [tk] list done id=[tk]):=hid (by unfold T9.wo;simp [h1,h2])
    try clear h1
    try clear h2
    try clear h3
    have hbs:=eu ⟨{ tk with done:=td },A4,c4⟩ w2
    unfold aA at hbs
    dsimp only at hbs
    have etk:({ tk with done:=td }:T9.Tk)=tk:=by rw [← HTD.out]
    have Gh:=hid (own_below OW.out B2.out)
    have mG:=hid (Gh.out.alloc (.cells #[.int .u64 (tk.id:Int),.int .u64 (tk.list:Int),.string (str tk.title),.bool td,.float .f64 tk.rank,.float .f64 tk.est,.slice A4 tk.tags.length c4] 64))
    have LE:Hid (au (w2.alloc (.cells #[.int .u64 (tk.id:Int),.int .u64 (tk.list:Int),.string (str tk.title),.bool td,.float .f64 tk.rank,.float .f64 tk.est,.slice A4 tk.tags.length c4] 64)) 0 64 (some ⟨w2.heap.size,0,none⟩) (aA ⟨tk,A4,c4⟩)):=hid (by
     rw [← etk]
     exact au.iy (heap_alloc_new w2 _))
    have zz:w.heap.size≤w2.heap.size:=Nat.le_trans BR.out.size B2.out.size
    have ZZ:=hid zz
    obtain⟨xX,xW,x8,x9,x_⟩:=info_parts Tryz.infoTk9
    clear etk
    go_wp2_with (at_builtin;refine bL _ rfl _ _ 24 rfl w.heap.size 64 xX _ 7 80 underlying24 xW x8 x9 x_ rfl (by decide) _ k (ai xs) rfl mG.out 0 _ 1 1 (aA ⟨tk,A4,c4⟩) 64 rfl rfl LE.out (dL _) (by unfold maxLen;omega) (by omega) (by simp;omega) ?_)
    intro v6 w6 hown6 aX fA
    obtain⟨A6,k6,rfl⟩:=aD hown6
    obtain⟨g6,e6,_⟩:=bO hown6 (Nat.succ_pos _)
    have T6:Hid (aM w.heap.size [64] w2 w6):=hid (((aM.refl w.heap.size [64] w2).alloc ZZ.out (.cells #[.int .u64 (tk.id:Int),.int .u64 (tk.list:Int),.string (str tk.title),.bool td,.float .f64 tk.rank,.float .f64 tk.est,.slice A4 tk.tags.length c4] 64)).trans (ed (B:=w.heap.size) (ts:=[64]) mG.out aX (Nat.le_refl _) (by have:=ZZ.out;simp;omega) (by simp)))
    have Gc:=hid hown6
    have E6:=hid e6
    clear hown6 aX fA hbs l0 l1 l2 l3 l4 l5 l6 zz e6
    go_wp2
    go_roundw
    case rel =>
     refine⟨i+1,k+1,A6,k6,xs++[⟨tk,A4,c4⟩],by go_num,by omega,rfl,by omega,?_,(BR.out.trans (B2.out.mono BR.out.size)).trans T6.out.below,hid ⟨by rw [List.length_append,HI.out.1];rfl,by rw [fG,HI.out.2.1,wO.out,FL.out],fun m hm=>?_,fun z=>by rw [E6.out] at z;cases z⟩⟩
     ·rw [g_];exact Gc.out
     ·rcases List.mem_append.1 hm with q | q
      ·exact ((HI.out.2.2.1 m q).stay B2.out).nP T6.out (by decide)
      ·rw [List.mem_singleton] at q
       subst q
       exact (FT.out.stay B2.out).nP T6.out (by decide)
    case measure=>simp [intOf];omega
   have f2:((list:Int) != 0)=true:=by simp;omega
   have f2b:((list:Int)==0)=false:=by rw [beq_eq_false_iff_ne];omega
   by_cases h3:tk.list=list
   ·have f3:((tk.list:Int)==(list:Int))=true:=by rw [h3];exact beq_self_eq_true _
    cases td with
    | true =>
     have FL:Hid (T9.wo [tk] list done id=[]):=hid (by unfold T9.wo;simp [h1,h2,h3,HTD.out])
     try clear h1
     try clear h2
     try clear h3
     go_wp2
     go_roundw
     case rel=>exact⟨i+1,k,A3,c3,xs,by go_num,by omega,rfl,by omega,own_below OW.out B2.out,BR.out.trans (B2.out.mono BR.out.size),hid ⟨HI.out.1,by rw [HI.out.2.1,wO.out,FL.out,List.append_nil],fun m hm=>(HI.out.2.2.1 m hm).stay B2.out,HI.out.2.2.2⟩⟩
     case measure=>simp [intOf];omega
    | false =>
     cases done with
     | false =>
      have FL:Hid (T9.wo [tk] list false id=[]):=hid (by unfold T9.wo;simp [h1,h2,h3,HTD.out])
      try clear h1
      try clear h2
      try clear h3
      go_wp2
      go_roundw
      case rel=>exact⟨i+1,k,A3,c3,xs,by go_num,by omega,rfl,by omega,own_below OW.out B2.out,BR.out.trans (B2.out.mono BR.out.size),hid ⟨HI.out.1,by rw [HI.out.2.1,wO.out,FL.out,List.append_nil],fun m hm=>(HI.out.2.2.1 m hm).stay B2.out,HI.out.2.2.2⟩⟩
      case measure=>simp [intOf];omega
     | true =>
      have FL:Hid (T9.wo [tk] list true id=[tk]):=hid (by unfold T9.wo;simp [h1,h2,h3,HTD.out])
      try clear h1
      try clear h2
      try clear h3
      have hbs:=eu ⟨{ tk with done:=false },A4,c4⟩ w2
      unfold aA at hbs
      dsimp only at hbs
      have etk:({ tk with done:=false }:T9.Tk)=tk:=by rw [← HTD.out]
      have Gh:=hid (own_below OW.out B2.out)
      have mG:=hid (Gh.out.alloc (.cells #[.int .u64 (tk.id:Int),.int .u64 (tk.list:Int),.string (str tk.title),.bool false,.float .f64 tk.rank,.float .f64 tk.est,.slice A4 tk.tags.length c4] 64))
      have LE:Hid (au (w2.alloc (.cells #[.int .u64 (tk.id:Int),.int .u64 (tk.list:Int),.string (str tk.title),.bool false,.float .f64 tk.rank,.float .f64 tk.est,.slice A4 tk.tags.length c4] 64)) 0 64 (some ⟨w2.heap.size,0,none⟩) (aA ⟨tk,A4,c4⟩)):=hid (by
       rw [← etk]
       exact au.iy (heap_alloc_new w2 _))
      have zz:w.heap.size≤w2.heap.size:=Nat.le_trans BR.out.size B2.out.size
      have ZZ:=hid zz
      obtain⟨xX,xW,x8,x9,x_⟩:=info_parts Tryz.infoTk9
      clear etk
      go_wp2_with (at_builtin;refine bL _ rfl _ _ 24 rfl w.heap.size 64 xX _ 7 80 underlying24 xW x8 x9 x_ rfl (by decide) _ k (ai xs) rfl mG.out 0 _ 1 1 (aA ⟨tk,A4,c4⟩) 64 rfl rfl LE.out (dL _) (by unfold maxLen;omega) (by omega) (by simp;omega) ?_)
      intro v6 w6 hown6 aX fA
      obtain⟨A6,k6,rfl⟩:=aD hown6
      obtain⟨g6,e6,_⟩:=bO hown6 (Nat.succ_pos _)
      have T6:Hid (aM w.heap.size [64] w2 w6):=hid (((aM.refl w.heap.size [64] w2).alloc ZZ.out (.cells #[.int .u64 (tk.id:Int),.int .u64 (tk.list:Int),.string (str tk.title),.bool false,.float .f64 tk.rank,.float .f64 tk.est,.slice A4 tk.tags.length c4] 64)).trans (ed (B:=w.heap.size) (ts:=[64]) mG.out aX (Nat.le_refl _) (by have:=ZZ.out;simp;omega) (by simp)))
      have Gc:=hid hown6
      have E6:=hid e6
      clear hown6 aX fA hbs l0 l1 l2 l3 l4 l5 l6 zz e6
      go_wp2
      go_roundw
      case rel =>
       refine⟨i+1,k+1,A6,k6,xs++[⟨tk,A4,c4⟩],by go_num,by omega,rfl,by omega,?_,(BR.out.trans (B2.out.mono BR.out.size)).trans T6.out.below,hid ⟨by rw [List.length_append,HI.out.1];rfl,by rw [fG,HI.out.2.1,wO.out,FL.out],fun m hm=>?_,fun z=>by rw [E6.out] at z;cases z⟩⟩
       ·rw [g_];exact Gc.out
       ·rcases List.mem_append.1 hm with q | q
        ·exact ((HI.out.2.2.1 m q).stay B2.out).nP T6.out (by decide)
        ·rw [List.mem_singleton] at q
         subst q
         exact (FT.out.stay B2.out).nP T6.out (by decide)
      case measure=>simp [intOf];omega
   ·have f3:((tk.list:Int)==(list:Int))=false:=by rw [beq_eq_false_iff_ne];omega
    have FL:Hid (T9.wo [tk] list done id=[tk]):=hid (by unfold T9.wo;simp [h1,h2,h3])
    try clear h1
    try clear h2
    try clear h3
    have hbs:=eu ⟨{ tk with done:=td },A4,c4⟩ w2
    unfold aA at hbs
    dsimp only at hbs
    have etk:({ tk with done:=td }:T9.Tk)=tk:=by rw [← HTD.out]
    have Gh:=hid (own_below OW.out B2.out)
    have mG:=hid (Gh.out.alloc (.cells #[.int .u64 (tk.id:Int),.int .u64 (tk.list:Int),.string (str tk.title),.bool td,.float .f64 tk.rank,.float .f64 tk.est,.slice A4 tk.tags.length c4] 64))
    have LE:Hid (au (w2.alloc (.cells #[.int .u64 (tk.id:Int),.int .u64 (tk.list:Int),.string (str tk.title),.bool td,.float .f64 tk.rank,.float .f64 tk.est,.slice A4 tk.tags.length c4] 64)) 0 64 (some ⟨w2.heap.size,0,none⟩) (aA ⟨tk,A4,c4⟩)):=hid (by
     rw [← etk]
     exact au.iy (heap_alloc_new w2 _))
    have zz:w.heap.size≤w2.heap.size:=Nat.le_trans BR.out.size B2.out.size
    have ZZ:=hid zz
    obtain⟨xX,xW,x8,x9,x_⟩:=info_parts Tryz.infoTk9
    clear etk
    go_wp2_with (at_builtin;refine bL _ rfl _ _ 24 rfl w.heap.size 64 xX _ 7 80 underlying24 xW x8 x9 x_ rfl (by decide) _ k (ai xs) rfl mG.out 0 _ 1 1 (aA ⟨tk,A4,c4⟩) 64 rfl rfl LE.out (dL _) (by unfold maxLen;omega) (by omega) (by simp;omega) ?_)
    intro v6 w6 hown6 aX fA
    obtain⟨A6,k6,rfl⟩:=aD hown6
    obtain⟨g6,e6,_⟩:=bO hown6 (Nat.succ_pos _)
    have T6:Hid (aM w.heap.size [64] w2 w6):=hid (((aM.refl w.heap.size [64] w2).alloc ZZ.out (.cells #[.int .u64 (tk.id:Int),.int .u64 (tk.list:Int),.string (str tk.title),.bool td,.float .f64 tk.rank,.float .f64 tk.est,.slice A4 tk.tags.length c4] 64)).trans (ed (B:=w.heap.size) (ts:=[64]) mG.out aX (Nat.le_refl _) (by have:=ZZ.out;simp;omega) (by simp)))
    have Gc:=hid hown6
    have E6:=hid e6
    clear hown6 aX fA hbs l0 l1 l2 l3 l4 l5 l6 zz e6
    go_wp2
    go_roundw
    case rel =>
     refine⟨i+1,k+1,A6,k6,xs++[⟨tk,A4,c4⟩],by go_num,by omega,rfl,by omega,?_,(BR.out.trans (B2.out.mono BR.out.size)).trans T6.out.below,hid ⟨by rw [List.length_append,HI.out.1];rfl,by rw [fG,HI.out.2.1,wO.out,FL.out],fun m hm=>?_,fun z=>by rw [E6.out] at z;cases z⟩⟩
     ·rw [g_];exact Gc.out
     ·rcases List.mem_append.1 hm with q | q
      ·exact ((HI.out.2.2.1 m q).stay B2.out).nP T6.out (by decide)
      ·rw [List.mem_singleton] at q
       subst q
       exact (FT.out.stay B2.out).nP T6.out (by decide)
    case measure=>simp [intOf];omega
  ·obtain rfl:i=n:=by omega
   have hltz:¬ ((i:Int)<(i:Int)):=by omega
   have XT:Hid (ay xs=T9.wo (ay ms) list done id):=hid (by rw [HI.out.2.1,HN.out,List.take_length])
   go_wp2
   go_ret
   refine⟨A3,c3,xs,by rw [HI.out.1];rfl,aH OW.out,HI.out.2.2.1,by rw [HI.out.1];exact (aO OW.out).2,HI.out.2.2.2,XT.out,BR.out,by rw [HI.out.1];exact OW.out⟩
end
section
open Go.RowKit Go.Lib
def TagsOk (r:Int × List (List UInt8)) (w:World) (e:Ending) (w':World):Prop:=∃ A c,e=.returned (.tuple #[.slice A r.2.length c,.int .i64 r.1])∧au w' 0 9 A (aC r.2)∧r.2.length≤c∧Below w.heap.size w w'
theorem JQ {l:List (List UInt8)} {x y:List UInt8}:(l++[y]).filter (fun z=>!decide (z=x))=l.filter (fun z=>!decide (z=x))++(if y=x then [] else [y]):=by
 rw [List.filter_append]
 by_cases h:y=x <;> simp [h]
theorem FV {A:Option Addr} {n c:Nat} {ts:List (List UInt8)} {kd:Int} {id list f:Nat} {text:List UInt8} {flag:Bool} {w:World} (h:au w 0 9 A (aC ts)) (hn:n=ts.length) (hs:n≤100) (hc:n≤c) :
  Calls prog 71 #[.slice A n c,.agg #[.int .i64 kd,.int .u64 (id:Int),.int .u64 (list:Int),.string (str text),.float .f64 f,.bool flag]] w (TagsOk (T9.dY ts ⟨kd,id,list,text,f,flag⟩) w):=by
 obtain⟨w1,hw1⟩:=nm (w.alloc (.cells #[.int .i64 kd,.int .u64 (id:Int),.int .u64 (list:Int),.string (str text),.float .f64 f,.bool flag] 57))
 obtain⟨pb,b1,z1⟩:=bn hw1
 have PB:Hid (kP ⟨kd,id,list,text,f,flag⟩ w.heap.size w1):=hid pb
 have B1:=hid b1
 have HT:=hid h
 have HG:Hid (GL w1 A ts):=hid (GL.stay (au.old h) b1)
 have HN:=hid hn
 have HC:=hid hc
 clear h hn hc pb b1 z1
 go_enter func71,ntmps71
 go_wp2_with fail
 go_loopw [6,12] (fun s6 s12 wr=>∃ (i k:Nat) (A3:Option Addr) (c3:Nat) (ys:List (List UInt8)),s12=.int .i64 i∧i≤n∧s6=.slice A3 k c3∧k≤i∧Aside (wr.ownsRow w1.heap.size 9 1 (.slice A3 k c3) k (aC ys))∧Aside (Below w1.heap.size w1 wr)∧Hid (ys.length=k∧ys=(ts.take i).filter (fun z=>!decide (z=text))∧(A3=none→c3=0))) (fun _ s12 _=>n - (intOf s12).toNat)
 case atStart=>exact⟨0,0,none,0,[],rfl,Nat.zero_le _,rfl,Nat.le_refl _,World.ownsRow_nil _ _ _ _,Below.refl _ _,hid ⟨rfl,rfl,fun _=>rfl⟩⟩
 case round =>
  obtain⟨i,k,A3,c3,ys,rfl,hi,rfl,hki,hO,hB,HI⟩:=hrel
  have OW:=hid hO.out
  have BR:=hid hB.out
  clear hO hB
  obtain⟨m0,m1,m2,m3,m4,m5⟩:=ag (PB.out.stay BR.out)
  dsimp only at m0 m1 m2 m3 m4 m5
  by_cases hlt:i<n
  ·have hltz:(i:Int)<(n:Int):=by omega
   obtain⟨ad,x,hA,hx,r0⟩:=(HG.out.stay BR.out).at_ (k:=i) (by have:=HN.out;omega)
   subst hA
   have X:=hid hx
   have wO:Hid ((ts.take (i+1)).filter (fun z=>!decide (z=text))=(ts.take i).filter (fun z=>!decide (z=text))++(if x=text then [] else [x])):=hid (by rw [bH X.out,JQ])
   clear hx
   by_cases h1:x=text
   ·have f1:(str x==str text)=true:=by rw [lL,h1];exact decide_eq_true rfl
    have f2:(x==text)=true:=by rw [h1];exact beq_self_eq_true _
    have f3:(!(str x==str text))=false:=by rw [f1];rfl
    have f4:(!(x==text))=false:=by rw [f2];rfl
    have FL:Hid ((ts.take (i+1)).filter (fun z=>!decide (z=text))=(ts.take i).filter (fun z=>!decide (z=text))):=hid (by rw [wO.out,if_pos h1,List.append_nil])
    subst h1
    go_wp2
    go_roundw
    case rel=>exact⟨i+1,k,A3,c3,ys,by go_num,by omega,rfl,by omega,OW.out,BR.out,hid ⟨HI.out.1,by rw [FL.out];exact HI.out.2.1,HI.out.2.2⟩⟩
    case measure=>simp [intOf];omega
   ·have f1:(str x==str text)=false:=by rw [lL];exact decide_eq_false h1
    have f2:(x==text)=false:=by rw [beq_eq_false_iff_ne];exact h1
    have f3:(!(str x==str text))=true:=by rw [f1];rfl
    have f4:(!(x==text))=true:=by rw [f2];rfl
    have FL:Hid ((ts.take (i+1)).filter (fun z=>!decide (z=text))=(ts.take i).filter (fun z=>!decide (z=text))++[x]):=hid (by rw [wO.out,if_neg h1])
    have mG:=hid (OW.out.alloc (.cells #[.string (str x)] 9))
    have LE:Hid (au (wr.alloc (.cells #[.string (str x)] 9)) 0 9 (some ⟨wr.heap.size,0,none⟩) (aC [x])):=hid (au.iy (heap_alloc_new wr _))
    have ZZ:=hid BR.out.size
    have zz:=ZZ.out
    obtain⟨xX,xW,x8,x9,x_⟩:=info_parts Tryz.infoStr9
    go_wp2_with (at_builtin;refine bL _ rfl _ _ 62 rfl w1.heap.size 9 xX _ 1 16 underlying62 xW x8 x9 x_ rfl (by decide) _ k (aC ys) rfl mG.out 0 _ 1 1 (aC [x]) 9 rfl rfl LE.out (eX _) (by unfold maxLen;omega) (by omega) (by simp;omega) ?_)
    intro v6 w6 hown6 aX fA
    obtain⟨A6,k6,rfl⟩:=aD hown6
    obtain⟨g6,e6,_⟩:=bO hown6 (Nat.succ_pos _)
    have B6:Hid (Below w1.heap.size wr w6):=hid (((Below.refl _ wr).alloc ZZ.out _).trans (kD mG.out aX (by have:=ZZ.out;simp;omega)))
    have Gc:=hid hown6
    have E6:=hid e6
    clear hown6 aX fA zz e6 h1
    go_wp2
    go_roundw
    case rel =>
     refine⟨i+1,k+1,A6,k6,ys++[x],by go_num,by omega,rfl,by omega,?_,BR.out.trans B6.out,hid ⟨by rw [List.length_append,HI.out.1];rfl,by rw [FL.out,← HI.out.2.1],fun z=>by rw [E6.out] at z;cases z⟩⟩
     rw [sK];exact Gc.out
    case measure=>simp [intOf];omega
  ·obtain rfl:i=n:=by omega
   have hltz:¬ ((i:Int)<(i:Int)):=by omega
   have YT:Hid (ys=ts.filter (fun z=>!decide (z=text))):=hid (by have:=HI.out.2.1;rw [HN.out,List.take_length] at this;exact this)
   have YL:Hid ((ts.filter (fun z=>!decide (z=text))).length=k):=hid (by rw [← YT.out];exact HI.out.1)
   have BW:Hid (Below w.heap.size w wr):=hid (B1.out.trans (BR.out.mono B1.out.size))
   by_cases hk:k<i
   ·have hkz:(k:Int)<(i:Int):=by omega
    by_cases h10:kd=10
    ·have V:=hid (show T9.dY ts ⟨kd,id,list,text,f,flag⟩=(0,ts.filter (fun z=>!decide (z=text))) by unfold T9.dY;rw [if_pos h10,if_pos (by rw [YL.out,← HN.out];exact hk)])
     have k10:(kd==10)=true:=by rw [beq_iff_eq];exact h10
     have H10:=hid h10
     clear h10
     go_wp2
     go_ret2
     refine⟨A3,c3,by rw [V.out,YL.out];rfl,?_,by rw [V.out,YL.out];exact (aO OW.out).2,BW.out⟩
     rw [V.out,← YT.out]
     exact aH OW.out
    ·have V:=hid (show T9.dY ts ⟨kd,id,list,text,f,flag⟩=(92,ts) by unfold T9.dY;rw [if_neg h10,if_pos (by rw [YL.out,← HN.out];exact hk)])
     have k10:(kd==10)=false:=by rw [beq_eq_false_iff_ne];exact h10
     go_wp2
     go_ret2
     refine⟨A,c,by rw [V.out,← HN.out];rfl,by rw [V.out];exact HT.out.below (Nat.zero_le _) BW.out,by rw [V.out,← HN.out];exact HC.out,BW.out⟩
   ·have hkz:¬ ((k:Int)<(i:Int)):=by omega
    by_cases h10:kd=10
    ·have V:=hid (show T9.dY ts ⟨kd,id,list,text,f,flag⟩=(3,ts) by unfold T9.dY;rw [if_pos h10,if_neg (by rw [YL.out,← HN.out];exact hk)])
     have k10:(kd==10)=true:=by rw [beq_iff_eq];exact h10
     have H10:=hid h10
     clear h10
     go_wp2
     go_ret2
     refine⟨A,c,by rw [V.out,← HN.out];rfl,by rw [V.out];exact HT.out.below (Nat.zero_le _) BW.out,by rw [V.out,← HN.out];exact HC.out,BW.out⟩
    ·have k10:(kd==10)=false:=by rw [beq_eq_false_iff_ne];exact h10
     by_cases h4:4≤i
     ·have V:=hid (show T9.dY ts ⟨kd,id,list,text,f,flag⟩=(95,ts) by unfold T9.dY;rw [if_neg h10,if_neg (by rw [YL.out,← HN.out];exact hk),if_pos (by rw [← HN.out];exact h4)])
      have h4z:(4:Int)≤(i:Int):=by omega
      go_wp2
      go_ret2
      refine⟨A,c,by rw [V.out,← HN.out];rfl,by rw [V.out];exact HT.out.below (Nat.zero_le _) BW.out,by rw [V.out,← HN.out];exact HC.out,BW.out⟩
     ·have V:=hid (show T9.dY ts ⟨kd,id,list,text,f,flag⟩=(0,Sr.canon T9.dN (ts.filter (fun z=>!decide (z=text))++[text])) by unfold T9.dY;rw [if_neg h10,if_neg (by rw [YL.out,← HN.out];exact hk),if_neg (by rw [← HN.out];exact h4)])
      have h4z:¬ ((4:Int)≤(i:Int)):=by omega
      have mG:=hid (OW.out.alloc (.cells #[.string (str text)] 9))
      have LE:Hid (au (wr.alloc (.cells #[.string (str text)] 9)) 0 9 (some ⟨wr.heap.size,0,none⟩) (aC [text])):=hid (au.iy (heap_alloc_new wr _))
      have ZZ:=hid BR.out.size
      have zz:=ZZ.out
      obtain⟨xX,xW,x8,x9,x_⟩:=info_parts Tryz.infoStr9
      go_wp2_with (at_builtin;refine bL _ rfl _ _ 62 rfl w1.heap.size 9 xX _ 1 16 underlying62 xW x8 x9 x_ rfl (by decide) _ k (aC ys) rfl mG.out 0 _ 1 1 (aC [text]) 9 rfl rfl LE.out (eX _) (by unfold maxLen;omega) (by omega) (by simp;omega) ?_)
      intro v6 w6 hown6 aX fA
      obtain⟨A6,k6,rfl⟩:=aD hown6
      have B6:Hid (Below w1.heap.size wr w6):=hid (((Below.refl _ wr).alloc ZZ.out _).trans (kD mG.out aX (by have:=ZZ.out;simp;omega)))
      have TC:=hid (F5 (A0:=A6) (n0:=k+1) (c0:=k6) (xs:=ys++[text]) (w:=w6) (by show au _ _ _ _ (aC (ys++[text]));rw [sK];exact (aH (B:=0) (t:=9) hown6).old) (by rw [List.length_append,HI.out.1];rfl) (by omega))
      clear hown6 aX fA zz
      go_wp2_with fail
      refine TC.out.mono ?_
      rintro e w7 ⟨A7,c7,rfl,hl7,hc7,hz7,Cv⟩
      have V7:=hid (And.intro hl7 (And.intro hc7 (And.intro hz7 Cv)))
      clear hl7 hc7 hz7 Cv
      go_wp2
      go_ret2
      refine⟨A7,c7,by rw [V.out,← YT.out];rfl,by rw [V.out,← YT.out];exact V7.out.1,by rw [V.out,← YT.out];exact V7.out.2.1,(BW.out.trans (B6.out.mono B1.out.size)).trans (V7.out.2.2.2.mono (by have:=BW.out.size;have:=B6.out.size;omega))⟩
end
section
open Go.RowKit Go.Lib
namespace Sr
section
variable {α : Type} {lt : α → α → Bool}
theorem uR (ho:WO lt) {x:α} {ls:List α} {k:Nat} (s:Str lt ls) (hk0:k≤ls.length) (h:∀ y∈ls.drop k,lt x y=true) (hz:∀ y,0<k→ls[k - 1]?=some y→lt y x=true):ins lt x ls=ls.take k++x :: ls.drop k:=by
 refine gV (fun y hy=>?_) fun y hy=>?_
 ·obtain⟨i,hi,e⟩:=List.mem_iff_getElem.1 hy
  rw [List.length_take] at hi
  rw [List.getElem_take] at e
  have hk:k - 1<ls.length∨ls.length≤k - 1:=by omega
  rcases hk with hk | hk
  ·have q:=hz ls[k - 1] (by omega) (List.getElem?_eq_getElem hk)
   by_cases e2:i=k - 1
   ·subst e2
    rw [← e]
    exact q
   ·have r:=List.pairwise_iff_getElem.1 s i (k - 1) (by omega) hk (by omega)
    rw [e] at r
    exact ho.tr _ _ _ r q
  ·omega
 ·have q:=h y (by
   obtain⟨hi,e⟩:=List.getElem?_eq_some_iff.1 hy
   rw [← e]
   exact List.mem_iff_getElem.2 ⟨0,by rw [List.length_drop];omega,by simp⟩)
  exact⟨ho.asym q,q⟩
end
end Sr
namespace T9
theorem Ay (ts:List Tk) (t:Tk) (list:Nat):fM (ts++[t]) list=fM ts list++(if t.list=list then [t] else []):=by
 unfold fM
 rw [List.filter_append]
 by_cases h:t.list=list <;> simp [h]
theorem xN (ts:List Tk) (t:Tk) (list:Nat):lw (ts++[t]) list=if t.list=list then Sr.ins lM t (lw ts list) else lw ts list:=by
 unfold lw
 rw [Ay]
 by_cases h:t.list=list
 ·rw [if_pos h,if_pos h,Sr.gD]
 ·rw [if_neg h,if_neg h,List.append_nil]
theorem Mt {l:List Tk} {t:Tk} {i:Nat} (u:tK l) (h:l[i]?=some t) {y:Tk} (hy:y∈l.take i):y.id≠t.id:=by
 obtain⟨hi,e⟩:=List.getElem?_eq_some_iff.1 h
 obtain⟨j,hj,e2⟩:=List.mem_iff_getElem.1 hy
 have hj2:j<i:=by
  have:=hj
  rw [List.length_take] at this
  omega
 rw [List.getElem_take] at e2
 have q:=List.pairwise_iff_getElem.1 u j i (by omega) hi hj2
 rw [e,e2] at q
 exact q
end T9
end
end
section
section
open Go.Shelf Go.RowKit Go.Lib Go.Sort
namespace T9
theorem plc_hit {l:List Tk} {i id:Nat} {t:Tk} (h:∀ x∈l.take i,x.id≠id) (hx:l[i]?=some t) (e:t.id=id):zR l id=some i:=by
 obtain⟨hi,et⟩:=List.getElem?_eq_some_iff.1 hx
 unfold zR
 rw [List.findIdx?_eq_some_iff_getElem]
 refine⟨hi,by simp [et,e],fun j hj=>?_⟩
 have q:=h l[j] (List.mem_iff_getElem.2 ⟨j,by rw [List.length_take];omega,List.getElem_take⟩)
 simpa using q
theorem Lh {l:List Tk} {i id:Nat} {t:Tk} (h:∀ x∈l.take i,x.id≠id) (hx:l[i]?=some t) (e:t.id≠id):∀ x∈l.take (i+1),x.id≠id:=fun x hm=>by
 rw [kv hx] at hm
 rcases List.mem_append.1 hm with q | q
 ·exact h x q
 ·simp only [List.mem_cons,List.not_mem_nil,or_false] at q
  subst q
  exact e
def Br (l:List Tk) (id:Nat):Int:=match zR l id with | some k=>(k:Int) | none=>-1
theorem Hq {l:List Tk} {id k:Nat} (h:zR l id=some k):Br l id=(k:Int):=by unfold Br;rw [h]
theorem Ho {l:List Tk} {id:Nat} (h:zR l id=none):Br l id=-1:=by unfold Br;rw [h]
end T9
theorem Es {A:Option Addr} {n c id:Nat} {ms:List aN} {w:World} (hk:KL w A ms) (hn:n=ms.length) (hs:n≤1000000) :
  Calls prog 89 #[.slice A n c,.int .u64 (id:Int)] w fun e w'=>e=.returned (.int .i64 (T9.Br (ay ms) id))∧Below w.heap.size w w':=by
 have HK:=hid hk
 have HN:=hid hn
 clear hk hn
 go_enter func89,ntmps89
 go_wp2_with fail
 go_loopw [9] (fun s9 wr=>∃ i:Nat,s9=.int .i64 i∧i≤n∧Hid (∀ x∈(ay ms).take i,x.id≠id)∧Aside (Below w.heap.size w wr)) (fun s9 _=>n - (intOf s9).toNat)
 case atStart=>exact⟨0,rfl,Nat.zero_le _,hid (by simp),Below.refl _ _⟩
 case round =>
  obtain⟨i,rfl,hi,HU,hB⟩:=hrel
  have BR:=hid hB.out
  clear hB
  by_cases hlt:i<n
  ·have hltz:(i:Int)<(n:Int):=by omega
   obtain⟨ad,m,hA,hx,hf,r0,r1,r2,r3,r4,r5,r6⟩:=(HK.out.stay BR.out).at_ (k:=i) (by have:=HN.out;omega)
   subst hA
   have X:Hid ((ay ms)[i]?=some m.t):=hid (iA hx)
   obtain⟨w2,hw2⟩:=nm (wr.alloc (.cells #[.int .u64 (m.t.id:Int),.int .u64 (m.t.list:Int),.string (str m.t.title),.bool m.t.done,.float .f64 m.t.rank,.float .f64 m.t.est,.slice m.A m.t.tags.length m.c] 64))
   obtain⟨lb,b2,z2⟩:=bf hw2
   have B2:=hid b2
   obtain⟨l0,l1,l2,l3,l4,l5,l6⟩:=ak lb
   clear hx hf lb b2 z2
   by_cases he:m.t.id=id
   ·have wT:((m.t.id:Int)==(id:Int))=true:=by simp [he]
    have F:Hid (T9.Br (ay ms) id=(i:Int)):=hid (T9.Hq (T9.plc_hit HU.out X.out he))
    clear he
    go_wp2
    go_ret
    exact⟨by rw [F.out];rfl,BR.out.trans (B2.out.mono BR.out.size)⟩
   ·have wT:((m.t.id:Int)==(id:Int))=false:=by simp;omega
    have F:Hid (∀ x∈(ay ms).take (i+1),x.id≠id):=hid (T9.Lh HU.out X.out he)
    clear he
    go_wp2
    go_roundw
    case rel=>exact⟨i+1,by go_num,by omega,F,BR.out.trans (B2.out.mono BR.out.size)⟩
    case measure=>simp [intOf];omega
  ·obtain rfl:i=n:=by omega
   have hltz:¬ ((i:Int)<(i:Int)):=by omega
   have F:Hid (T9.Br (ay ms) id=-1):=hid (T9.Ho (T9.Bt.2 fun t ht=>HU.out t (by rw [List.take_of_length_le (by rw [aK,HN.out];exact Nat.le_refl _)];exact ht)))
   go_wp2
   go_ret
   exact⟨by rw [F.out];rfl,BR.out⟩
end
section
open Go.Shelf Go.RowKit Go.Lib Go.Sort
namespace T9
end T9
end
section
open Go.Shelf Go.RowKit Go.Lib Go.Sort
theorem sQ (m:aN) (id:Nat) (W:World):Calls prog 145 #[.agg (aA m).toArray,.int .u64 (id:Int)] W fun e w'=>e=.returned (.int .i64 (iD m.t.id id))∧Below W.heap.size W w':=by
 obtain⟨w1,hw1⟩:=nm (W.alloc (.cells (aA m).toArray 64))
 unfold aA at hw1 ⊢
 obtain⟨lb,b1,z1⟩:=bf hw1
 obtain⟨l0,l1,l2,l3,l4,l5,l6⟩:=ak lb
 have B1:=hid b1
 clear b1 lb z1
 go_enter func145,ntmps145
 go_wp2_with (go_at_call 117;refine (rU _ _ _).mono ?_;rintro e w' ⟨rfl,rfl⟩)
 go_ret
 exact⟨rfl,B1.out⟩
theorem Jl {A:Option Addr} {n c id k:Nat} {ms:List aN} {w:World} (hk:KL w A ms) (hn:n=ms.length) (hs:n≤1000000) (hu:(ay ms).Pairwise fun x y=>x.id<y.id) (hm:((ay ms)[k]?).map (·.id)=some id) :
  Calls prog 144 #[.slice A n c,.int .u64 (id:Int),.func (.func 145) #[] #[]] w fun e w'=>e=.returned (.tuple #[.int .i64 (k:Int),.bool true])∧Below w.heap.size w w':=by
 have HK:=hid hk
 have HN:=hid hn
 have kn:k<n:=by
  rcases Nat.lt_or_ge k (ay ms).length with q | q
  ·rw [aK] at q;omega
  ·rw [List.getElem?_eq_none q] at hm;cases hm
 have ids:∀ i t,(ay ms)[i]?=some t→(i<k→t.id<id)∧(i=k→t.id=id)∧(k<i→id<t.id):=fun i t hi=>by
  obtain⟨h1,e1⟩:=List.getElem?_eq_some_iff.1 hi
  have h2:k<(ay ms).length:=by rw [aK];omega
  rw [List.getElem?_eq_getElem h2,Option.map_some] at hm
  injection hm with hm
  refine⟨fun q=>?_,fun q=>?_,fun q=>?_⟩
  ·have:=List.pairwise_iff_getElem.1 hu i k h1 h2 q
   rw [e1,hm] at this
   exact this
  ·subst q;rw [← hm,e1]
  ·have:=List.pairwise_iff_getElem.1 hu k i h2 h1 q
   rw [e1,hm] at this
   exact this
 have ID:=hid ids
 clear hk hn hu hm ids
 go_enter func144,ntmps144
 go_wp2_with fail
 go_loopg [9,10] n (fun kx s9 s10 wr=>∃ lo hi:Nat,s9=.int .i64 lo∧s10=.int .i64 hi∧lo≤hi∧hi≤n∧hi - lo≤kx∧lo≤k∧k≤hi∧Aside (Below w.heap.size w wr))
 case atStart=>exact⟨0,n,rfl,rfl,Nat.zero_le _,Nat.le_refl _,by omega,Nat.zero_le _,by omega,Below.refl _ _⟩
 case round =>
  obtain⟨lo,hi,rfl,rfl,hlh,hin,hg,hlk,hkh,hB⟩:=hrel
  have BR:=hid hB.out
  clear hB
  by_cases hlt:lo<hi
  ·obtain⟨ad,m,hA,hx,hf,r0,r1,r2,r3,r4,r5,r6⟩:=(HK.out.stay BR.out).at_ (k:=(lo+hi) / 2) (by have:=HN.out;omega)
   subst hA
   have ids:=ID.out _ _ (iA hx)
   have PC:=hid (sQ m id wr)
   unfold aA at PC
   clear hx hf
   by_cases hc:(lo+hi) / 2<k
   ·have e:iD m.t.id id=-1:=by unfold iD;rw [if_pos (ids.1 hc)]
    rw [e] at PC
    clear ids e
    go_wp2_with (go_at_call 145;refine PC.out.mono ?_;rintro e w' ⟨rfl,h2⟩;have H2:=hid h2;clear h2)
    go_roundg (hi - ((lo+hi) / 2+1))
    case measure=>omega
    case rel=>exact⟨(lo+hi) / 2+1,hi,by rw [show ((lo:Int)+(hi:Int)) / 2+1=(((lo+hi) / 2+1:Nat):Int) by omega],rfl,by omega,hin,Nat.le_refl _,by omega,hkh,BR.out.trans (H2.out.mono BR.out.size)⟩
   ·have e:∃ v:Int,iD m.t.id id=v∧0≤v:=by
     refine⟨_,rfl,?_⟩
     unfold iD
     have:¬ m.t.id<id:=by
      rcases Nat.lt_or_ge k ((lo+hi) / 2) with q | q
      ·have:=ids.2.2 q;omega
      ·have:=ids.2.1 (by omega);omega
     rw [if_neg this]
     split <;> omega
    obtain⟨v,e,hv⟩:=e
    have hvn:¬ (v<0):=by omega
    rw [e] at PC
    clear ids e
    go_wp2_with (go_at_call 145;refine PC.out.mono ?_;rintro e w' ⟨rfl,h2⟩;have H2:=hid h2;clear h2)
    go_roundg ((lo+hi) / 2 - lo)
    case measure=>omega
    case rel=>exact⟨lo,(lo+hi) / 2,rfl,by rw [show ((lo:Int)+(hi:Int)) / 2=(((lo+hi) / 2:Nat):Int) by omega],by omega,by omega,Nat.le_refl _,by omega,by omega,BR.out.trans (H2.out.mono BR.out.size)⟩
  ·obtain rfl:hi=lo:=by omega
   obtain rfl:k=hi:=by omega
   have knz:(k:Int)<(n:Int):=by omega
   obtain⟨ad,m,hA,hx,hf,r0,r1,r2,r3,r4,r5,r6⟩:=(HK.out.stay BR.out).at_ (k:=k) (by have:=HN.out;omega)
   subst hA
   have e:iD m.t.id id=0:=by
    have q:=(ID.out _ _ (iA hx)).2.1 rfl
    unfold iD
    rw [q,if_neg (Nat.lt_irrefl _),if_neg (Nat.lt_irrefl _)]
   have PC:=hid (sQ m id wr)
   unfold aA at PC
   rw [e] at PC
   clear hx hf e
   go_wp2_with (go_at_call 145;refine PC.out.mono ?_;rintro e w' ⟨rfl,h2⟩;have H2:=hid h2;clear h2)
   go_ret2
   exact⟨rfl,BR.out.trans (H2.out.mono BR.out.size)⟩
def SprOk (s:T9.St) (list:Nat) (w:World) (e:Ending) (w':World):Prop :=
 ∃ (m:aQ) (l:List T9.Tk),e=.returned m.val∧SM m w'∧Below w.heap.size w w'∧T9.wN (T9.canon s).tasks list l∧m.st=⟨(T9.canon s).lists,(T9.canon s).tasks.map (T9.oP l)⟩∧kR m w'
theorem Aa (s:T9.St):(T9.canon s).tasks.Pairwise fun x y=>x.id<y.id:=by
 have q:=(Sr.gF T9.woK s.tasks).1
 show ((Sr.canon T9.jg s.tasks).map T9.norm).Pairwise _
 exact List.pairwise_map.2 (q.imp fun h=>of_decide_eq_true h)
theorem yU {w w':World} {g:Nat} {t:TypeId} {xs:List Value} (h:au w w.heap.size t (some ⟨g,0,none⟩) xs) (hb:w'.heap[g]?=w.heap[g]?) (hs:w.heap.size≤w'.heap.size):au w' w'.heap.size t (some ⟨g,0,none⟩) xs:=fun hx=>by
 obtain⟨ad,e,hg,hc⟩:=h hx
 injection e with e
 subst e
 have hg':g<w.heap.size:=by
  rcases hg with q | ⟨_,_,q⟩
  ·exact q
  ·exact lt_of_block q
 refine⟨_,rfl,.inl (Nat.lt_of_lt_of_le hg' hs),fun j u hu=>?_⟩
 rw [← hc j u hu,dP]
 simp only [World.cell?,hb]
theorem K7 {w:World} {B g n c k v:Nat} {ms:List aN} {mk:aN} (h:w.ownsRow B 64 7 (.slice (some ⟨g,0,none⟩) n c) n (ai ms)) (hn:ms.length=n) (hm:ms[k]?=some mk) (hk:k<n):(w.setCell ⟨g,k * 7+4,none⟩ (.float .f64 v)).ownsRow B 64 7 (.slice (some ⟨g,0,none⟩) n c) n (ai (ms.set k ⟨{ mk.t with rank:=v },mk.A,mk.c⟩)):=by
 rw [← gK hm (by decide:4<7) (v:=.float .f64 v) rfl]
 exact aV (vs:=[.float .f64 v]) h (by rw [aP,hn];simp;omega)
theorem qw (i:Nat) (w:World):(convert 3 55 (.int .i64 ((i:Int)+1))).run prog w=.ok (.float .f64 (Fl.zP (i+1))) w:=by
 have e:((i:Int)+1)=((i+1:Nat):Int):=by omega
 rw [e]
 simp [convert,run_underlying underlying3,run_underlying underlying55,Conv.intToFloat,Fl.zP]
theorem Mf {A A2:Option Addr} {n1 n2 c c2:Nat} {ls:List T9.Li} {ms:List aN} {w:World} (hl:LL w A ls) (hk:KL w A2 ms) (e1:n1=ls.length) (e2:n2=ms.length) (h1:n1≤1000000) (hs:n2≤1000000) (hsh:∀ m∈ms,m.t.tags.length<20) (hr:∀ m∈ms,m.t.rank<18446744073709551616) (list:Nat) :
  Calls prog 108 #[.agg #[.slice A n1 c,.slice A2 n2 c2],.int .u64 (list:Int)] w (SprOk ⟨ls,ay ms⟩ list w):=by
 obtain⟨w0,hw0⟩:=nm (w.alloc (.cells #[.slice A n1 c,.slice A2 n2 c2] 26))
 obtain⟨pb0,b0,z0⟩:=aj hw0
 obtain⟨w1,hw1⟩:=nm (w0.alloc (.cells #[.slice none 0 0,.slice none 0 0] 26))
 obtain⟨MJ,b1',z1⟩:=aj hw1
 have b1:Below w.heap.size w w1:=b0.trans (b1'.mono (by omega))
 have pb:=(b1'.block w.heap.size (by omega)).trans pb0
 have z1':w1.heap.size=w.heap.size+2:=by omega
 have Z0:=hid z0
 have Z1:=hid z1'
 have PB:=hid pb
 have PR:=hid MJ
 have B1:=hid b1
 have CC:=hid (uy (c:=c) (c2:=c2) (hl.stay b1) (hk.stay b1) e1 e2 h1 hs hsh)
 obtain⟨p0,p1⟩:=aa pb
 obtain⟨K,hK⟩:=nm ((T9.canon ⟨ls,ay ms⟩).tasks)
 have HKK:=hid hK
 have RO:Hid (∀ t∈K,t.rank<18446744073709551616∧t.tags.length≤1000000):=hid fun t ht=>by
  rw [← hK] at ht
  obtain⟨u,hu,rfl⟩:=List.mem_map.1 ht
  obtain⟨m,hm,rfl⟩:=List.mem_map.1 (Sr.gT hu)
  exact⟨Fl.uC (hr m hm),Nat.le_trans (Sr.dD _) (by have:=hsh m hm;omega)⟩
 have KLN:Hid (K.length≤1000000):=hid (by
  rw [← hK]
  show ((Sr.canon T9.jg (ay ms)).map T9.norm).length≤_
  rw [List.length_map]
  exact Nat.le_trans (Sr.dD _) (by rw [aK,← e2];exact hs))
 have KUP:Hid (K.Pairwise fun x y=>x.id<y.id):=hid (by rw [← hK];exact Aa _)
 clear hl hk e1 e2 h1 hs hsh hr pb b1 z1 z0 z1' pb0 MJ b0 b1' hK
 go_enter func108,ntmps108
 go_wp2_with fail
 refine CC.out.mono ?_
 rintro e w2 ⟨⟨ls0,A0,c0,ms0,Cy,yo⟩,rfl,hm0,hst0,hb2,⟨hL2,hF2,hO2⟩,_⟩
 obtain⟨_,_,hlc,hkc⟩:=hm0
 dsimp only at hlc hkc hL2 hF2 hO2
 have HLC:=hid hlc
 have Iy:=hid hkc
 have TK0:Hid (ay ms0=K):=hid (by rw [← HKK.out,← hst0];rfl)
 have LS0:Hid (ls0=(T9.canon ⟨ls,ay ms⟩).lists):=hid (by rw [← hst0];rfl)
 have pY:=(hb2.block w.heap.size (by have:=Z1.out;omega)).trans PB.out
 have pr2:=(hb2.block w0.heap.size (by have:=Z1.out;have:=Z0.out;omega)).trans PR.out
 have q0:=(aa pY).1
 have q1:=(aa pY).2
 have jO:=af pY 0
 have jB:=af pY 1
 unfold aQ.val
 dsimp only
 obtain⟨nk,hnk⟩:∃ n,n=ms0.length:=⟨_,rfl⟩
 obtain⟨nl,hnl⟩:∃ n,n=ls0.length:=⟨_,rfl⟩
 rw [← hnk] at hkc hO2
 rw [← hnk,← hnl]
 obtain⟨w3,hw3⟩:=nm ((w2.setCell ⟨w.heap.size,0,none⟩ (.slice A0 nl c0)).setCell ⟨w.heap.size,1,none⟩ (.slice Cy nk yo))
 have Y2:Ty w2 w.heap.size 26:=⟨_,_,pY⟩
 have T23:Hid (aM w.heap.size [26] w2 w3):=hid (by
  rw [← hw3]
  exact ((aM.refl _ _ w2).aB (p:=⟨w.heap.size,0,none⟩) Y2 (by simp) (Nat.le_refl _) _).aB (p:=⟨w.heap.size,1,none⟩) (Y2.set _ _) (by simp) (Nat.le_refl _) _)
 have SB3:Hid (w3.heap[w.heap.size]?=some (.cells #[.slice A0 nl c0,.slice Cy nk yo] 26 (0,0))):=hid (by rw [← hw3];exact (ah (ah pY 0 (.slice A0 nl c0)) 1 (.slice Cy nk yo)).trans rfl)
 have ne0:w0.heap.size≠w.heap.size:=by have:=Z0.out;omega
 have PR3:Hid (w3.heap[w0.heap.size]?=some (.cells #[.slice none 0 0,.slice none 0 0] 26 (0,0))):=hid (by rw [← hw3];exact az (az pr2 (p:=⟨w.heap.size,0,none⟩) ne0 _) (p:=⟨w.heap.size,1,none⟩) ne0 _)
 have B3:Hid (Below w.heap.size w w3):=hid ((B1.out.trans (hb2.mono B1.out.size)).trans T23.out.below)
 have L3:Hid (au w3 0 61 A0 (aL ls0)):=hid (dF hL2 T23.out (by decide))
 have F3:Hid (∀ m∈ms0,m.jk w3):=hid fun m hm=>⟨dF (hF2 m hm) T23.out (by decide),by
  have:=(‹KL _ _ _›).2 m hm
  exact this.2⟩
 have O3:Hid (nk=0∨∃ g,Cy=some ⟨g,0,none⟩∧w3.ownsRow w1.heap.size 64 7 (.slice (some ⟨g,0,none⟩) nk yo) nk (ai ms0)):=hid (by
  rcases hO2 with q | ⟨g,e,q⟩
  ·left;rw [hnk,q];rfl
  ·exact .inr ⟨g,e,bX q T23.out (by decide)⟩)
 have K3:Hid (KL w3 Cy ms0):=hid (by
  refine⟨?_,fun m hm=>(F3.out m hm).fine⟩
  rcases O3.out with q | ⟨g,e,q⟩
  ·have:ms0=[]:=List.length_eq_zero_iff.1 (hnk.symm.trans q)
   subst this
   exact au.nil
  ·rw [e]
   exact (aH (B:=0) (t:=64) q).old)
 have NK:=hid hnk
 have NL:=hid hnl
 have nkb:nk≤1000000:=by rw [hnk,← aK,TK0.out];exact KLN.out
 have MK:Hid (∀ m∈ms0,m.t∈K):=hid fun m hm=>by rw [← TK0.out];exact List.mem_map.2 ⟨m,hm,rfl⟩
 have OC:=hid (order_c (A:=A0) (n1:=nl) (c:=c0) (c2:=yo) K3.out NK.out nkb (fun m hm=>(RO.out _ (MK.out m hm)).2) (fun m hm=>(RO.out _ (MK.out m hm)).1) list)
 obtain⟨q30,q31⟩:=aa SB3.out
 clear p0 p1 hst0 hb2 hL2 hF2 hO2 pY pr2 hnk hnl Y2 hlc hkc
 go_wp2_with fail
 refine OC.out.mono ?_
 rintro e w4 ⟨A3,c3,xs,rfl,hk4,hc4,II,h4,hx4,hf4⟩
 have B4:=hid (B3.out.trans (h4.mono B3.out.size))
 have H4:=hid h4
 have O4:Hid (T9.wN K list (ay xs)):=hid (by rw [TK0.out] at II;exact II)
 have X4:=hid hx4
 have F4:=hid hf4
 have K4:=hid hk4
 obtain⟨n3,hn3⟩:∃ n,n=xs.length:=⟨_,rfl⟩
 have N3:=hid hn3
 have UK:Hid (T9.tK K):=hid (KUP.out.imp fun q=>by omega)
 have UX:Hid (T9.tK (ay xs)):=hid ((UK.out.filter _).perm O4.out.perm)
 have n3b:n3≤1000000:=by
  have q:=O4.out.perm.length_eq
  rw [aK,← hn3] at q
  rw [q]
  exact Nat.le_trans (List.length_filter_le _ _) KLN.out
 rw [← hn3]
 have SB4:=hid ((h4.block w.heap.size (lt_of_block SB3.out)).trans SB3.out)
 have PR4:=hid ((h4.block w0.heap.size (lt_of_block PR3.out)).trans PR3.out)
 have LL4:Hid (au w4 0 61 A0 (aL ls0)):=hid (L3.out.below (Nat.zero_le _) h4)
 have I4:Hid (ms0.length=nk∧ay ms0=K.map (T9.oP ((ay xs).take 0))∧(∀ m∈ms0,m.jk w4)∧(nk=0∨∃ g,Cy=some ⟨g,0,none⟩∧g<w3.heap.size∧w4.ownsRow w1.heap.size 64 7 (.slice (some ⟨g,0,none⟩) nk yo) nk (ai ms0))):=hid ⟨NK.out.symm,by rw [TK0.out,List.take_zero];exact (List.map_id' K).symm,fun m hm=>(F3.out m hm).stay h4,O3.out.imp id fun ⟨g,e,q⟩=>⟨g,e,(q.lt g rfl).2,own_below q h4⟩⟩
 clear hk4 hc4 II h4 hx4 hf4 hn3 q30 q31
 go_wp2_with fail
 go_loopw [15] (fun s15 wr=>∃ (i:Nat) (ms':List aN),s15=.int .i64 i∧i≤n3∧Aside (au wr wr.heap.size 0 A3 (ai xs))∧Aside (aM w.heap.size [64] w4 wr)∧Hid (ms'.length=nk∧ay ms'=K.map (T9.oP ((ay xs).take i))∧(∀ m∈ms',m.jk wr)∧(nk=0∨∃ g,Cy=some ⟨g,0,none⟩∧g<w3.heap.size∧wr.ownsRow w1.heap.size 64 7 (.slice (some ⟨g,0,none⟩) nk yo) nk (ai ms')))) (fun s15 _=>n3 - (intOf s15).toNat)
 case atStart=>exact⟨0,ms0,rfl,Nat.zero_le _,K4.out.1,aM.refl _ _ _,I4⟩
 case round =>
  obtain⟨i,ms',rfl,hi,hLx,hT,HI⟩:=hrel
  have LX:=hid hLx.out
  have TT:=hid hT.out
  clear hLx hT
  have KX:Hid (KL wr A3 xs):=hid ⟨LX.out,fun m hm=>((F4.out m hm).bE TT.out (by decide)).fine⟩
  have SBR:Hid (wr.heap[w.heap.size]?=some (.cells #[.slice A0 nl c0,.slice Cy nk yo] 26 (0,0))):=hid (TT.out.blk SB4.out (by decide))
  have PRR:Hid (wr.heap[w0.heap.size]?=some (.cells #[.slice none 0 0,.slice none 0 0] 26 (0,0))):=hid (TT.out.blk PR4.out (by decide))
  by_cases hlt:i<n3
  ·have hltz:(i:Int)<(n3:Int):=by omega
   obtain⟨ad,⟨tk,A5,c5⟩,hA,hx,hf,r0,r1,r2,r3,r4,r5,r6⟩:=KX.out.at_ (k:=i) (by have:=N3.out;omega)
   obtain⟨g3,hg3,hlo⟩:=X4.out.resolve_left (fun q=>by rw [q] at hx;simp at hx)
   have ead:ad=⟨g3,0,none⟩:=by rw [hg3] at hA;injection hA with hA;exact hA.symm
   have EAD:=hid ead
   have HLO:=hid hlo
   subst hA
   have X:Hid ((ay xs)[i]?=some tk):=hid (iA hx)
   dsimp only at r0 r1 r2 r3 r4 r5 r6
   obtain⟨k,hk⟩:∃ k,K[k]?=some tk:=by
    have q:=(List.mem_filter.1 (O4.out.perm.mem_iff.1 (List.mem_of_getElem? X.out))).1
    obtain⟨k,hk,e⟩:=List.mem_iff_getElem.1 q
    exact⟨k,by rw [List.getElem?_eq_getElem hk,e]⟩
   have HK5:=hid hk
   have kl:k<nk:=by
    have q:=(List.getElem?_eq_some_iff.1 hk).1
    have e:=NK.out
    rw [← TK0.out,aK,← e] at q
    exact q
   obtain⟨g,hg,hgl,hown⟩:=HI.out.2.2.2.resolve_left (by omega)
   subst hg
   have OW:=hid hown
   have GL:=hid hgl
   have gl2:=hown.lt g rfl
   have GL2:=hid gl2
   obtain⟨mk,hmk⟩:∃ m,ms'[k]?=some m:=⟨_,List.getElem?_eq_getElem (by have:=HI.out.1;omega)⟩
   have MKK:=hid hmk
   have MT:Hid (mk.t=T9.oP ((ay xs).take i) tk):=hid (by
    have q:=iA hmk
    rw [HI.out.2.1,List.getElem?_map,hk] at q
    injection q with q
    exact q.symm)
   obtain⟨w5,fV⟩:=nm (wr.alloc (.cells #[.int .u64 (tk.id:Int),.int .u64 (tk.list:Int),.string (str tk.title),.bool tk.done,.float .f64 tk.rank,.float .f64 tk.est,.slice A5 tk.tags.length c5] 64))
   obtain⟨lb,b5,z5⟩:=bf fV
   have B5:=hid b5
   have Z5:=hid z5
   obtain⟨l0,l1,l2,l3,l4,l5,l6⟩:=ak lb
   have sb5:=(b5.block w.heap.size (lt_of_block SBR.out)).trans SBR.out
   have SB5:=hid sb5
   obtain⟨d0,d1⟩:=aa sb5
   have lC:=hid (own_below hown b5)
   have K5:Hid (KL w5 (some ⟨g,0,none⟩) ms'):=hid (by
    exact⟨(aH (B:=0) (t:=64) lC.out).old,fun m hm=>((HI.out.2.2.1 m hm).stay b5).fine⟩)
   have BC:=hid (Jl (c:=yo) (id:=tk.id) (k:=k) K5.out HI.out.1.symm nkb (by rw [HI.out.2.1];exact List.pairwise_map.2 (KUP.out.imp fun q=>by rw [T9.zB,T9.zB];exact q)) (by rw [HI.out.2.1,List.getElem?_map,hk,Option.map_some,Option.map_some,T9.zB]))
   have knz:(k:Int)<(nk:Int):=by omega
   have k0z:(0:Int)≤(k:Int):=by omega
   obtain⟨v,hv⟩:=nm (Fl.zP (i+1))
   have HV:=hid hv
   have hcv:=qw i
   rw [hv] at hcv
   clear hv
   clear hx hf hg3 hlo ead hk hgl hown gl2 hmk lb b5 z5 sb5
   go_wp2_with fail
   refine BC.out.mono ?_
   rintro e w6 ⟨rfl,h6⟩
   have H6:=hid h6
   have B6:=hid (B5.out.trans (h6.mono B5.out.size))
   have sb6:=(h6.block w.heap.size (lt_of_block SB5.out)).trans SB5.out
   have e0:=(aa sb6).1
   have e1:=(aa sb6).2
   have OW6:=hid (own_below lC.out h6)
   have gc:w6.cell? ⟨g,k * 7+4,none⟩=some (.float .f64 mk.t.rank):=df OW6.out ((ig (f:=aA) (size:=7) (fun x _=>aU x) MKK.out (by decide:4<7)).trans rfl)
   have gf:w6.frozen? ⟨g,k * 7+4,none⟩=false:=OW6.out.frozenAt (g:=g) _
   clear h6 sb6
   have y6:Ty w6 g 64:=(by obtain⟨_,cs,fr,r⟩:=bM OW6.out g rfl;exact⟨cs,fr,r⟩)
   have wg:w.heap.size≤g:=by have:=GL2.out.1;have:=B1.out.size;omega
   obtain⟨w7,hw7⟩:=nm (w6.setCell ⟨g,k * 7+4,none⟩ (.float .f64 v))
   have T67:Hid (aM w.heap.size [64] w6 w7):=hid (by
    rw [← hw7]
    exact (aM.refl _ _ w6).aB (p:=⟨g,k * 7+4,none⟩) y6 (by simp) wg _)
   have T47:Hid (aM w.heap.size [64] w4 w7):=hid ((TT.out.trans (aM.of_below B6.out (by have:=TT.out.size;have:=B4.out.size;omega) _)).trans T67.out)
   have HW7:=hid hw7
   have O7:Hid (w7.ownsRow w1.heap.size 64 7 (.slice (some ⟨g,0,none⟩) nk yo) nk (ai (ms'.set k ⟨{ mk.t with rank:=v },mk.A,mk.c⟩))):=hid (by
    rw [← hw7]
    exact K7 OW6.out HI.out.1 MKK.out kl)
   clear y6
   go_wp2_with fail
   go_roundw
   case rel =>
    refine⟨i+1,ms'.set k ⟨{ mk.t with rank:=v },mk.A,mk.c⟩,by go_num,by omega,?_,T47.out,hid ⟨by rw [List.length_set];exact HI.out.1,?_,fun m hm=>?_,.inr ⟨g,rfl,GL.out,O7.out⟩⟩⟩
    ·have q:=au.stay LX.out B6.out
     rw [EAD.out] at q ⊢
     refine yU q ?_ T67.out.size
     rw [← HW7.out]
     exact Below.heap_setCell _ _ _ _ (by have:=HLO.out;have:=GL.out;show g3≠g;omega)
    ·have q:=T9.Me UX.out UK.out X.out HK5.out rfl
     have e:ay (ms'.set k ⟨{ mk.t with rank:=v },mk.A,mk.c⟩)=(ay ms').set k { mk.t with rank:=v }:=by unfold ay;rw [List.map_set]
     rw [e,HI.out.2.1,MT.out,← HV.out]
     exact q
    ·rcases List.mem_or_eq_of_mem_set hm with q | rfl
     ·exact ((HI.out.2.2.1 m q).stay B6.out).bE T67.out (by decide)
     ·exact aN.jk.bE (m:=mk) ((HI.out.2.2.1 mk (List.mem_of_getElem? MKK.out)).stay B6.out) T67.out (by decide)
   case measure=>simp [intOf];omega
  ·obtain rfl:i=n3:=by omega
   have hltz:¬ ((i:Int)<(i:Int)):=by omega
   obtain⟨d0,d1⟩:=aa SBR.out
   obtain⟨k0,k1⟩:=aa PRR.out
   have jO:=af PRR.out 0
   have jB:=af PRR.out 1
   have RF:Hid (((wr.setCell ⟨w0.heap.size,0,none⟩ (.slice A0 nl c0)).setCell ⟨w0.heap.size,1,none⟩ (.slice Cy nk yo)).heap[w0.heap.size]?=some (.cells #[.slice A0 nl c0,.slice Cy nk yo] 26 (0,0))):=hid ((ah (ah PRR.out 0 (.slice A0 nl c0)) 1 (.slice Cy nk yo)).trans rfl)
   have TZ:Hid (aM w.heap.size [26] wr ((wr.setCell ⟨w0.heap.size,0,none⟩ (.slice A0 nl c0)).setCell ⟨w0.heap.size,1,none⟩ (.slice Cy nk yo))):=hid (by
    have y:Ty wr w0.heap.size 26:=⟨_,_,PRR.out⟩
    have z:w.heap.size≤w0.heap.size:=by have:=Z0.out;omega
    exact ((aM.refl _ _ wr).aB (p:=⟨w0.heap.size,0,none⟩) y (by simp) z _).aB (p:=⟨w0.heap.size,1,none⟩) (y.set _ _) (by simp) z _)
   obtain⟨kf0,kf1⟩:=aa RF.out
   go_wp2
   refine bodyPost_ret (v:=.agg #[.slice A0 nl c0,.slice Cy nk yo]) (by simp [results,results108,go_sem,kf0,kf1]) rfl ?_
   have FZ:∀ m∈ms',m.jk ((wr.setCell ⟨w0.heap.size,0,none⟩ (.slice A0 nl c0)).setCell ⟨w0.heap.size,1,none⟩ (.slice Cy nk yo)):=fun m hm=>(HI.out.2.2.1 m hm).bE TZ.out (by decide)
   refine⟨⟨ls0,A0,c0,ms',Cy,yo⟩,ay xs,?_,⟨?_,⟨?_,fun m hm=>(FZ m hm).fine⟩,HLC.out,?_⟩,(B4.out.trans TT.out.below).trans TZ.out.below,?_,?_,⟨dF (dF LL4.out TT.out (by decide)) TZ.out (by decide),?_,FZ,HLC.out,?_⟩⟩
   ·unfold aQ.val
    rw [HI.out.1,← NL.out]
   ·exact (dF (dF LL4.out TT.out (by decide)) TZ.out (by decide)).old
   ·rcases HI.out.2.2.2 with q | ⟨g,e,_,q⟩
    ·have:ms'=[]:=List.length_eq_zero_iff.1 (HI.out.1.trans q)
     subst this
     exact au.nil
    ·have q2:=(aH (B:=0) (t:=64) (bX q TZ.out (by decide))).old (t':=0)
     rw [← e] at q2
     exact q2
   ·show ms'.length≤yo
    rw [HI.out.1,NK.out];exact Iy.out
   ·rw [HKK.out];exact O4.out
   ·unfold aQ.st
    dsimp only
    rw [HI.out.2.1,HKK.out,LS0.out,N3.out,← aK xs,List.take_length]
   ·rcases HI.out.2.2.2 with q | ⟨g,e,_,q⟩
    ·have:ms'=[]:=List.length_eq_zero_iff.1 (HI.out.1.trans q)
     subst this
     exact au.nil
    ·have q2:=aH (B:=0) (t:=64) (bX q TZ.out (by decide))
     rw [← e] at q2
     exact q2
   ·show ms'.length≤yo
    rw [HI.out.1,NK.out];exact Iy.out
end
end
section
open Go.RowKit Go.Lib
def FKTOk (ms:List aN) (id:Nat) (w:World) (e:Ending) (w':World):Prop:=∃ m:aN,e=.returned (.tuple #[.agg (aA m).toArray,.bool (T9.dJ (ay ms) id).2])∧m.t=(T9.dJ (ay ms) id).1∧m.bS w'∧Below w.heap.size w w'
theorem dG {A A2:Option Addr} {n1 n2 c c2:Nat} {ms:List aN} {w:World} (hk:KL w A2 ms) (e2:n2=ms.length) (hs:n2≤1000000) (hT:∀ q∈ms,q.bS w) (id:Nat) :
  Calls prog 67 #[.agg #[.slice A n1 c,.slice A2 n2 c2],.int .u64 (id:Int)] w (FKTOk ms id w):=by
 have E2:=hid e2
 have HT:=hid hT
 clear hT
 obtain⟨w0,hw0⟩:=nm (w.alloc (.cells #[.slice A n1 c,.slice A2 n2 c2] 26))
 obtain⟨pb0,b0,z0⟩:=aj hw0
 obtain⟨w1,hw1⟩:=nm (w0.alloc (.cells #[.int .u64 0,.int .u64 0,.string ⟨#[]⟩,.bool false,.float .f64 0,.float .f64 0,.slice none 0 0] 64))
 obtain⟨MJ,b1,z1⟩:=bf hw1
 have z1':w1.heap.size=w.heap.size+2:=by omega
 have pb:=(b1.block w.heap.size (by omega)).trans pb0
 have PB:=hid pb
 rw [z0] at MJ
 have PR:=hid MJ
 have B1:Hid (Below w.heap.size w w1):=hid (b0.trans (b1.mono (by omega)))
 have HK:=hid (hk.stay B1.out)
 have HK0:=hid hk
 have Z0:=hid z0
 have Z1:=hid z1'
 obtain⟨p0,p1⟩:=aa pb
 clear hk e2 pb0 b0 MJ b1 z1 z1' pb
 go_enter func67,ntmps67
 go_wp2
 go_loopw [11] (fun s11 wr=>∃ i:Nat,s11=.int .i64 i∧i≤n2∧Hid ((ms.take i).find? (fun m=>m.t.id==id)=none)∧Aside (Below w1.heap.size w1 wr)) (fun s11 _=>n2 - (intOf s11).toNat)
 case atStart=>exact⟨0,rfl,Nat.zero_le _,hid rfl,Below.refl _ _⟩
 case round =>
  obtain⟨i,rfl,hi,HU,hB⟩:=hrel
  have BR:=hid hB.out
  clear hB
  have Cx:=(BR.out.block (w.heap.size+1) (by have:=Z1.out;omega)).trans PR.out
  have RB:=hid Cx
  by_cases hlt:i<n2
  ·have hltz:(i:Int)<(n2:Int):=by omega
   obtain⟨ad,⟨tk,A3,c3⟩,hA,hx,hf,r0,r1,r2,r3,r4,r5,r6⟩:=(HK.out.stay BR.out).at_ (k:=i) (by have:=E2.out;omega)
   subst hA
   have X:=hid hx
   have FI:=hid hf
   dsimp only at r0 r1 r2 r3 r4 r5 r6
   obtain⟨w2,hw2⟩:=nm (wr.alloc (.cells #[.int .u64 (tk.id:Int),.int .u64 (tk.list:Int),.string (str tk.title),.bool tk.done,.float .f64 tk.rank,.float .f64 tk.est,.slice A3 tk.tags.length c3] 64))
   obtain⟨lb,b2,z2⟩:=bf hw2
   have B2:Hid (Below w1.heap.size w1 w2):=hid (BR.out.trans (b2.mono BR.out.size))
   have B2':=hid b2
   have Z2:=hid z2
   have LB:=hid lb
   obtain⟨l0,l1,l2,l3,l4,l5,l6⟩:=ak lb
   have wM:=(b2.block (w.heap.size+1) (by have:=lt_of_block RB.out;omega)).trans RB.out
   have zV:=hid wM
   clear hx hf lb b2 z2 Cx
   by_cases he:tk.id=id
   ·have wT:((tk.id:Int)==(id:Int))=true:=by simp [he]
    have F:Hid (T9.dJ (ay ms) id=(tk,true)):=hid (by unfold T9.dJ;rw [Cq,Ap HU.out X.out (by simp [he])];rfl)
    clear he
    rw [Z0.out] at *
    obtain⟨d0,d1,d2,d3,d4,d5,d6⟩:=ak wM
    have jO:=af wM 0
    have jB:=af wM 1
    have fr2:=af wM 2
    have fr3:=af wM 3
    have fr4:=af wM 4
    have fr5:=af wM 5
    have fr6:=af wM 6
    clear wM
    have xh:Hid ((((((((w2.setCell ⟨w.heap.size+1,0,none⟩ (.int .u64 (tk.id:Int))).setCell ⟨w.heap.size+1,1,none⟩ (.int .u64 (tk.list:Int))).setCell ⟨w.heap.size+1,2,none⟩ (.string (str tk.title))).setCell ⟨w.heap.size+1,3,none⟩ (.bool tk.done)).setCell ⟨w.heap.size+1,4,none⟩ (.float .f64 tk.rank)).setCell ⟨w.heap.size+1,5,none⟩ (.float .f64 tk.est)).setCell ⟨w.heap.size+1,6,none⟩ (.slice A3 tk.tags.length c3)).heap[w.heap.size+1]?=some (.cells #[.int .u64 (tk.id:Int),.int .u64 (tk.list:Int),.string (str tk.title),.bool tk.done,.float .f64 tk.rank,.float .f64 tk.est,.slice A3 tk.tags.length c3] 64 (0,0))):=hid ((ah (ah (ah (ah (ah (ah (ah zV.out 0 (.int .u64 (tk.id:Int))) 1 (.int .u64 (tk.list:Int))) 2 (.string (str tk.title))) 3 (.bool tk.done)) 4 (.float .f64 tk.rank)) 5 (.float .f64 tk.est)) 6 (.slice A3 tk.tags.length c3)).trans rfl)
    obtain⟨k0,k1,k2,k3,k4,k5,k6⟩:=ak xh.out
    go_wp2
    refine bodyPost_ret (v:=.tuple #[.agg #[.int .u64 (tk.id:Int),.int .u64 (tk.list:Int),.string (str tk.title),.bool tk.done,.float .f64 tk.rank,.float .f64 tk.est,.slice A3 tk.tags.length c3],.bool true]) (by simp [results,results67,go_sem,k0,k1,k2,k3,k4,k5,k6]) rfl ?_
    refine⟨⟨tk,A3,c3⟩,by rw [F.out];rfl,by rw [F.out],HT.out _ (List.mem_of_getElem? X.out) |>.stay ?_,?_⟩
    all_goals exact ((((((((B1.out.trans (B2.out.mono B1.out.size)).setCell (by simp) _).setCell (by simp) _).setCell (by simp) _).setCell (by simp) _).setCell (by simp) _).setCell (by simp) _).setCell (by simp) _)
   ·have wT:((tk.id:Int)==(id:Int))=false:=by simp;omega
    have F:Hid ((ms.take (i+1)).find? (fun m=>m.t.id==id)=none):=hid (xC HU.out X.out (by simp [he]))
    clear he
    go_wp2
    go_roundw
    case rel=>exact⟨i+1,by go_num,by omega,F,B2.out⟩
    case measure=>simp [intOf];omega
  ·obtain rfl:i=n2:=by omega
   have hltz:¬ ((i:Int)<(i:Int)):=by omega
   have F:Hid (T9.dJ (ay ms) id=(⟨0,0,[],false,0,0,[]⟩,false)):=hid (by
    have:=HU.out
    rw [E2.out,List.take_length] at this
    unfold T9.dJ;rw [Cq,this];rfl)
   obtain⟨d0,d1,d2,d3,d4,d5,d6⟩:=ak Cx
   have jO:=af Cx 0
   have jB:=af Cx 1
   have fr2:=af Cx 2
   have fr3:=af Cx 3
   have fr4:=af Cx 4
   have fr5:=af Cx 5
   have fr6:=af Cx 6
   have xh:Hid ((((((((wr.setCell ⟨w.heap.size+1,0,none⟩ (.int .u64 0)).setCell ⟨w.heap.size+1,1,none⟩ (.int .u64 0)).setCell ⟨w.heap.size+1,2,none⟩ (.string ⟨#[]⟩)).setCell ⟨w.heap.size+1,3,none⟩ (.bool false)).setCell ⟨w.heap.size+1,4,none⟩ (.float .f64 0)).setCell ⟨w.heap.size+1,5,none⟩ (.float .f64 0)).setCell ⟨w.heap.size+1,6,none⟩ (.slice none 0 0)).heap[w.heap.size+1]?=some (.cells #[.int .u64 0,.int .u64 0,.string ⟨#[]⟩,.bool false,.float .f64 0,.float .f64 0,.slice none 0 0] 64 (0,0))):=hid ((ah (ah (ah (ah (ah (ah (ah RB.out 0 (.int .u64 0)) 1 (.int .u64 0)) 2 (.string ⟨#[]⟩)) 3 (.bool false)) 4 (.float .f64 0)) 5 (.float .f64 0)) 6 (.slice none 0 0)).trans rfl)
   obtain⟨k0,k1,k2,k3,k4,k5,k6⟩:=ak xh.out
   go_wp2
   refine bodyPost_ret (v:=.tuple #[.agg #[.int .u64 0,.int .u64 0,.string ⟨#[]⟩,.bool false,.float .f64 0,.float .f64 0,.slice none 0 0],.bool false]) (by simp [results,results67,go_sem,k0,k1,k2,k3,k4,k5,k6]) rfl ?_
   refine⟨⟨⟨0,0,[],false,0,0,[]⟩,none,0⟩,by rw [F.out];rfl,by rw [F.out],⟨au.nil,Nat.le_refl _⟩,?_⟩
   exact ((((((((B1.out.trans (BR.out.mono B1.out.size)).setCell (by simp) _).setCell (by simp) _).setCell (by simp) _).setCell (by simp) _).setCell (by simp) _).setCell (by simp) _).setCell (by simp) _)
end
end Go.Proofs.YtcmiompdjjiojaaGreat
