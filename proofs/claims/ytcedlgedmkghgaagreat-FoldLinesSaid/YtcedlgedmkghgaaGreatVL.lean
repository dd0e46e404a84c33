/- The law FoldLines: the row. Every input,no condition. -/
import Derived.Test.YtcedlgedmkghgaaGreatZ48
import Derived.Test.YtcedlgedmkghgaaGreatZ14
import Derived.Test.YtcedlgedmkghgaaGreatZ50
import Derived.Test.YtcedlgedmkghgaaGreatZ18
import Derived.Test.YtcedlgedmkghgaaGreatZ4
import Derived.Test.YtcedlgedmkghgaaGreatZ17
import Derived.BigQuiet
import Derived.Deep.DeepCutAuto
import Derived.ProofKit
namespace Go.Proofs.YtcedlgedmkghgaaGreat
set_option maxHeartbeats 16000000
open Go.Lib Go.Proofs.Tryz
set_option linter.unusedSimpArgs false
set_option maxRecDepth 100000
section
section
open Go.RowKit Go.Lib
variable {F : Fence} {n : Nat} {P : Program} {ops : Array Oper} {Q : Exit → Act → World → Prop} {md : Region.Mode} {S : World → Prop} {st : Nat}
theorem qU {i:Nat} {o:Oper} {v:Value} {a:Act} (hF:∀ f,F.fn f) (hd:je ops=true) (hi:ops[i]?=some o) (hy:YieldsIf P ops S o v a)
  {K:Act→World→Prop} {w:World} (hS:S w) (h:K (a.put o.dst v) w):wpOpIn F n P ops Q i K a w:=by
 unfold Go.wpOpIn
 simp only [hi]
 rcases hy with⟨hw,hv⟩ | ⟨hw,rfl⟩
 ·simp only [hw,if_true,Oper.wpIn]
  rw [Oper.semAt_eq _ _ _ (lh hd hi)]
  simp only [hv w hS,Oper.uponIn]
  exact⟨fun f _=>hF f,h⟩
 ·simp only [hw,Bool.false_eq_true,if_false]
  exact⟨fun f _=>hF f,h⟩
theorem uo {j:Nat} {oi oj:Oper} {v:Value} (hF:∀ f,F.fn f) (hd:je ops=true) (hj:ops[j]?=some oj) (hap:oi.apart ops oj=true)
  (hsi:∀ cs b,oi.op≠.select cs b) (hsj:∀ cs b,oj.op≠.select cs b)
  (hQ:∀ c a w,Q (.panic c) (a.put oi.dst v) w→Q (.panic c) a w) {K:Act→World→Prop} {a:Act} {w:World}
  (hy:YieldsIf P ops S oi v a) (h:wpOpIn F n P ops Q j K (a.put oi.dst v) w) :
  wpOpIn F n P ops Q j (fun a' w'=>YieldsIf P ops S oi v a'∧K (a'.put oi.dst v) w') a w:=by
 obtain⟨h1,h2,h3⟩:=Oper.apart_spec hap
 have nd:=lh hd hj
 have keep:∀ (a:Act),YieldsIf P ops S oi v a→∀ u,YieldsIf P ops S oi v (a.put oj.dst u):=fun a hy u =>
  hy.of_same (execOp_put oi hsi a oj.dst u h3) (wanted_put oi a oj.dst u h3)
 have keepD:∀ d,YieldsIf P ops S oi v { a with defers:=d :: a.defers }:=fun d=>hy.of_same rfl rfl
 unfold wpOpIn at *
 simp only [hj] at *
 rw [wanted_put oj a oi.dst v h1] at h
 split
 ·rename_i hw
  simp only [hw,if_true] at h
  unfold Oper.wpIn at *
  refine⟨fun f _=>hF f,?_⟩
  have h:=h.2
  rw [Oper.semAt_eq _ _ _ nd,execOp_put oj hsj a oi.dst v h1] at h
  rw [Oper.semAt_eq _ _ _ nd]
  generalize (execOp a.eval oj).run P w=r at *
  cases r with
  | ok x w' =>
   cases x <;> simp only [Oper.uponIn] at h ⊢
   case value u=>exact⟨keep a hy u,by rw [← Act.put_comm a v u h2];exact h⟩
   case skip=>exact⟨keep a hy _,by rw [← Act.put_comm a v undef h2];exact h⟩
   case defer d =>
    refine⟨keep _ (keepD d) _,?_⟩
    rw [← Act.put_comm _ v undef h2,← Act.put_defers]
    exact h
   case enter f args =>
    refine⟨h.1,CallsIn.mono h.2 fun e w'' he=>?_⟩
    cases e with
    | returned u=>exact⟨keep a hy u,by rw [← Act.put_comm a v u h2];exact he⟩
    | panicked c=>exact hQ _ _ _ he
    | outgrown=>exact he
   case row row args=>exact⟨h.1,RowsIn.mono h.2 fun u w'' he=>⟨keep a hy u,by rw [← Act.put_comm a v u h2];exact he⟩⟩
   case round l f tmps assign body =>
    refine⟨h.1,RoundIn.mono h.2 fun e w'' he=>?_⟩
    cases e with
    | returned u=>exact⟨keep a hy u,by rw [← Act.put_comm a v u h2];exact he⟩
    | panicked c=>exact hQ _ _ _ he
    | outgrown=>exact he
  | halt x w' =>
   cases x <;> simp only [Oper.uponIn] at h ⊢
   case panic u=>exact hQ _ _ _ h
 ·rename_i hw
  simp only [hw] at h
  exact⟨fun f _=>hF f,keep a hy _,by rw [← Act.put_comm a v undef h2];exact h.2⟩
def bT (F:Fence) (n:Nat) (P:Program) (md:Region.Mode) (ops:Array Oper) (Q:Exit→Act→World→Prop) (S:World→Prop) (st:Nat):Nat→Array Bool→Act→World→Prop
 | 0,ls,a,w=>Region.ready md ops ls=[]∧Q .normal a w
 | f+1,ls,a,w=>(Region.ready md ops ls=[]→Q .normal a w)∧∀ j∈Region.ready md ops ls,wpOpIn F n P ops Q j (fun b u=>(ls.getD st true=false→j≠st→S u)∧bT F n P md ops Q S st f (ls.setIfInBounds j true) b u) a w
theorem bT.plain:∀ {f:Nat} {ls:Array Bool} {a:Act} {w:World},bT F n P md ops Q S st f ls a w→wpAnyIn F n P md ops Q f ls a w
 | 0,_,_,_,h=>h
 | _+1,_,_,_,h=>⟨h.1,fun j hj=>wpOpIn_mono (fun _ _ q=>q.2.plain) (h.2 j hj)⟩
theorem bT.first (hF:∀ f,F.fn f) (hd:je ops=true) {i:Nat} {oi os:Oper} {v:Value} (hi:ops[i]?=some oi) (hsel:Region.noSelect ops=true) (hQ:∀ c a w,Q (.panic c) (a.put oi.dst v) w→Q (.panic c) a w)
  (hs:ops[st]?=some os) (hw:∃ e∈os.after,Region.binds md e=true∧e.on=i) (f:Nat) (ls:Array Bool) (a:Act) (w:World)
  (hfree:∀ j oj,ops[j]?=some oj→j≠i→ls.getD j true=false→(∀ e∈oj.after,Region.binds md e=true→e.on≠i)→oi.apart ops oj=true)
  (hr:i∈Region.ready md ops ls) (hun:ls.getD st true=false) (hy:YieldsIf P ops S oi v a) (hS:S w) (H:bT F n P md ops Q S st f (ls.setIfInBounds i true) (a.put oi.dst v) w):bT F n P md ops Q S st (f+1) ls a w:=by
 have kF:=Region.noSelect_spec hsel
 induction f generalizing ls a w with
 | zero =>
  refine⟨fun e=>absurd hr (by rw [e];simp),fun j hj=>?_⟩
  rcases Nat.decEq j i with q | q
  ·exact absurd (ready_mono hj q) (by rw [H.1];simp)
  ·subst q
   exact qU hF hd hi hy hS ⟨fun _ _=>hS,H⟩
 | succ f ih =>
  refine⟨fun e=>absurd hr (by rw [e];simp),fun j hj=>?_⟩
  rcases Nat.decEq j i with q | q
  ·obtain⟨un,oj,hoj,_⟩:=mem_ready.1 hj
   have now:j≠st:=by
    rintro rfl
    obtain⟨e,he,hb,hon⟩:=hw
    exact waits hr hj hs e he hb hon
   have ist:i≠st:=by
    rintro rfl
    obtain⟨e,he,hb,hon⟩:=hw
    exact waits hr hr hs e he hb hon
   have stays:∀ k ok,ops[k]?=some ok→k≠i→(ls.setIfInBounds j true).getD k true=false→(∀ e∈ok.after,Region.binds md e=true→e.on≠i)→oi.apart ops ok=true:=by
    intro k ok hk hki hun hno
    refine hfree k ok hk hki ?_ hno
    rcases Nat.decEq j k with r | r
    ·rwa [getD_set_ne true r] at hun
    ·rw [← r];exact un
   have next:=uo hF hd hoj (hfree j oj hoj q un (waits hr hj hoj)) (fun cs b=>kF i oi cs b hi) (fun cs b=>kF j oj cs b hoj) hQ hy (H.2 j (ready_mono hj q))
   refine wpOpIn_mono (fun b u g=>⟨fun q1 q2=>g.2.1 (by rw [getD_set_ne true ist];exact q1) q2,ih _ b u stays (ready_mono hr (Ne.symm q)) (by rw [getD_set_ne true now];exact hun) g.1 (g.2.1 (by rw [getD_set_ne true ist];exact hun) now) ?_⟩) next
   rw [Array.setIfInBounds_comm _ _ q]
   exact g.2.2
  ·subst q
   exact qU hF hd hi hy hS ⟨fun _ _=>hS,H⟩
theorem bT.take (hF:∀ f,F.fn f) (hd:je ops=true) {i:Nat} {oi os:Oper} {v:Value} {f:Nat} {ls:Array Bool} {a:Act} {w:World} (hi:ops[i]?=some oi) (hsel:Region.noSelect ops=true) (hf:Region.free md ops ls i=true) (hr:(Region.ready md ops ls).contains i=true) (hun:ls.getD st true=false)
  (hs:ops[st]?=some os) (hw:(os.after.any fun e=>Region.binds md e && e.on==i)=true) (hQ:∀ c a w,Q (.panic c) (a.put oi.dst v) w→Q (.panic c) a w) (hy:YieldsIf P ops S oi v a) (hS:S w)
  (H:bT F n P md ops Q S st f (ls.setIfInBounds i true) (a.put oi.dst v) w):bT F n P md ops Q S st (f+1) ls a w:=by
 refine bT.first hF hd hi hsel hQ hs ?_ f ls a w (Region.free_spec hi hf) (by simpa using hr) hun hy hS H
 obtain⟨e,he,hb⟩:=Array.any_eq_true'.1 hw
 simp only [Bool.and_eq_true,beq_iff_eq] at hb
 exact⟨e,he,hb.1,hb.2⟩
theorem bT.one (hF:∀ f,F.fn f) {i:Nat} {oi:Oper} {f:Nat} {ls:Array Bool} {a:Act} {w:World} (hr:Region.ready md ops ls=[i]) (hi:ops[i]?=some oi)
  (h:∀ K:Act→World→Prop,(∀ b u,(ls.getD st true=false→i≠st→S u)→bT F n P md ops Q S st f (ls.setIfInBounds i true) b u→K b u)→if Region.wanted oi (yielded ops a.tmps)=true then Oper.wpIn F n P oi a w K Q else K (a.put oi.dst undef) w):bT F n P md ops Q S st (f+1) ls a w:=by
 refine⟨fun e=>absurd e (by rw [hr];simp),fun j hj=>?_⟩
 rw [hr,List.mem_singleton] at hj
 subst hj
 have q:=h (fun b u=>(ls.getD st true=false→j≠st→S u)∧bT F n P md ops Q S st f (ls.setIfInBounds j true) b u) (fun b u q1 q2=>⟨q1,q2⟩)
 unfold wpOpIn
 simp only [hi]
 split
 ·rename_i hw
  rw [if_pos hw] at q
  exact q
 ·rename_i hw
  rw [if_neg hw] at q
  exact⟨fun g _=>hF g,q⟩
theorem bT.done {ls:Array Bool} {a:Act} {w:World} {f:Nat} (hr:Region.ready md ops ls=[]) (h:Q .normal a w):bT F n P md ops Q S st f ls a w:=by
 cases f with
 | zero=>exact⟨hr,h⟩
 | succ f=>exact⟨fun _=>h,fun j hj=>by rw [hr] at hj;cases hj⟩
def Be (Q:Exit→Act→World→Prop):Exit→Act→World→Prop:=fun e a w=>e=.normal∧Q e a w
theorem bT.begin {id:Nat} {a:Act} {w:World} (hm:P.follows .mixedOrders=true) (h:bT F n P .any ops (Be Q) S st ops.size (Array.replicate ops.size false) a w.drew):(Code.region id ops true).wpIn F n P Q a w :=
 wpIn_mono (wpIn_region_any hm h.plain) fun _ _ _ q=>q.2
theorem bT.tk (hF:∀ f,F.fn f) (i:Nat) {oi os:Oper} {v:Value} {f:Nat} {ls:Array Bool} {a:Act} {w:World} (hd:je ops=true) (hi:ops[i]?=some oi) (hsel:Region.noSelect ops=true) (hf:Region.free md ops ls i=true) (hr:(Region.ready md ops ls).contains i=true) (hun:ls.getD st true=false)
  (hs:ops[st]?=some os) (hw:(os.after.any fun e=>Region.binds md e && e.on==i)=true) (hy:YieldsIf P ops S oi v a) (hS:S w)
  (H:bT F n P md ops (Be Q) S st f (ls.setIfInBounds i true) (a.put oi.dst v) w):bT F n P md ops (Be Q) S st (f+1) ls a w :=
 bT.take hF hd hi hsel hf hr hun hs hw (fun _ _ _ h=>by cases h.1) hy hS H
theorem zw {row:String} {args:Array Value} {w:World} {R:Value→World→Prop} (h:Rows P row args w R):RowsIn Fence.wide n P row args w R:=fun c cs _=>by
 obtain⟨v,w',r,s⟩:=h c cs
 exact⟨v,w',r,stepsIn_wide.2 s⟩
theorem jf {o:Oper} {a:Act} {w:World} {K:Act→World→Prop} (hd:∀ c,o.op≠.defer c) (h:o.wp P a w K Q):o.wpIn Fence.wide n P a w K Q:=by
 refine⟨fun _ _=>trivial,?_⟩
 rw [Oper.semAt_eq _ _ _ hd]
 unfold Oper.wp at h
 generalize (execOp a.eval o).run P w=r at h ⊢
 cases r with
 | ok x w' =>
  cases x with
  | value v=>exact h
  | skip=>exact h
  | defer d=>exact h
  | enter f args=>exact⟨fun e=>(by cases e),callsIn_wide.2 h⟩
  | row row args=>exact⟨fun e=>(by cases e),zw h⟩
  | _=>exact h.elim
 | halt x w' =>
  cases x with
  | panic v=>exact h
  | _=>exact h.elim
theorem bT.qZ (hF:∀ f,F.fn f) (hd:je ops=true) (hop:∀ {o:Oper} {a:Act} {w:World} {K:Act→World→Prop},(∀ c,o.op≠.defer c)→o.wp P a w K Q→o.wpIn F n P a w K Q) {i:Nat} {oi:Oper} {f:Nat} {ls:Array Bool} {a:Act} {w:World} (hr:Region.ready md ops ls=[i]) (hi:ops[i]?=some oi)
  (h:∀ K:Act→World→Prop,(∀ b u,(ls.getD st true=false→i≠st→S u)→bT F n P md ops Q S st f (ls.setIfInBounds i true) b u→K b u)→if Region.wanted oi (yielded ops a.tmps)=true then Oper.wp P oi a w K Q else K (a.put oi.dst undef) w):bT F n P md ops Q S st (f+1) ls a w :=
 bT.one hF hr hi fun K hK=>by
  have q:=h K hK
  split
  ·rename_i hw
   rw [if_pos hw] at q
   exact hop (lh hd hi) q
  ·rename_i hw
   rw [if_neg hw] at q
   exact q
end
end
section
set_option linter.unusedSimpArgs false
section
open Go.RowKit Go.Lib Go.Shelf
def BU (T:TypeId) (k n:Nat) (cs:List Value) (w:World) (e:Ending) (w':World):Prop:=∃ A2 c2,e=.returned (.slice A2 n c2)∧w'.ownsRow w.heap.size T k (.slice A2 n c2) n cs∧Below w.heap.size w w'
def n_ (q:aW):List Value:=[.slice q.A q.ls.length q.c,.slice q.A2 q.ms.length q.c2]
def eD (qs:List aW):List Value:=qs.flatMap n_
theorem jZ (qs:List aW):(eD qs).length=qs.length * 2:=jk fun x _=>(rfl:(n_ x).length=2)
theorem tY (qs:List aW):∀ v∈eD qs,v.oneCell'=true:=fun v hv=>by
 obtain⟨l,_,h⟩:=List.mem_flatMap.1 hv
 simp only [n_,List.mem_cons,List.not_mem_nil,or_false] at h
 rcases h with rfl | rfl <;> rfl
theorem tX (xs ys:List aW):eD (xs++ys)=eD xs++eD ys:=by simp [eD]
theorem Tryz.infoS14:(prog.info? 25).map (fun i=>(i.zero,i.size,i.bytes))=some (some (.agg #[.slice none 0 0,.slice none 0 0]),2,48):=by kernel_rfl
theorem Aw {A:Option Addr} {n c B:Nat} {t:TypeId} {xs:List aW} {w:World} (h:au w B t A (eD xs)) (hB:B≤w.heap.size) (hn:n=xs.length) (hs:n≤1000000):Calls prog 36 #[.slice A n c] w (BU 25 2 n (eD xs) w):=by
 obtain⟨i0,hi,hz0,hz1,hz2⟩:=info_parts Tryz.infoS14
 have q:=fun (w:World) a n c n' c'=>Lib.run_eql_slice_nil (P:=prog) w 78 25 a n c n' c' underlying78
 have HL:=hid h
 have HN:=hid hn
 clear h hn
 rcases A with _ | ad
 ·have h0:n=0:=by
   rcases Nat.eq_zero_or_pos n with q | q
   ·exact q
   ·obtain⟨ad,e,_⟩:=HL.out.at_ (k:=0) (by rw [jZ,← HN.out];omega)
    cases e
  subst h0
  have e:xs=[]:=List.length_eq_zero_iff.1 HN.out.symm
  subst e
  go_enter func36,ntmps36
  go_wp2
  go_ret
  exact⟨_,0,rfl,World.ownsRow_nil _ _ _ _,Below.refl _ _⟩
 ·have ho:(w.alloc (.cells #[] 25)).ownsRow w.heap.size 25 2 (.slice (some ⟨w.heap.size,0,none⟩) 0 0) 0 []:=World.ownsRow_made w #[] 0 (Nat.le_refl _) (by unfold maxLen;omega) rfl
  have HO:=hid ho
  clear ho
  go_enter func36,ntmps36
  go_wp2_with (at_builtin;refine bE _ rfl _ _ 78 rfl w.heap.size 25 i0 _ 2 48 underlying78 hi hz0 hz1 hz2 rfl (by decide) _ 0 [] rfl HO.out B _ n c (eD xs) t rfl (by rw [jZ,HN.out]) (HL.out.below hB ((Below.refl _ _).alloc (Nat.le_refl _) _)) (tY _) (by unfold maxLen;omega) (by omega) (by simp) ?_)
  intro v' w1 hown' hgrow _
  obtain⟨A2,k2,rfl⟩:=aA hown'
  have T1:=pX HO.out hgrow
  have ho2:w1.ownsRow w.heap.size 25 2 (.slice A2 n k2) n (eD xs):=by simpa using hown'
  have HO2:=hid ho2
  have HT:=hid T1
  clear hown' ho2 T1 hgrow
  go_wp2
  go_ret
  exact⟨A2,k2,by simp,HO2.out,HT.out⟩
end
end
section
set_option linter.unusedSimpArgs false
section
open Go.RowKit Go.Lib Go.Shelf
structure lK (base lp fst:Nat) (A:Option Addr) (c:Nat) (qs:List aW) (W:World):Prop where
 blk:W.heap[lp]?=some (.cells #[.int .i64 (fst:Int),.slice A qs.length c] 80 (0,0))
 row:W.ownsRow base 25 2 (.slice A qs.length c) qs.length (eD qs)
 sm:∀ q∈qs,j_ q W
section
variable {base lp fst c : Nat} {A : Option Addr} {qs : List aW} {W W' : World}
theorem lK.bH {B:Nat} {ts:List TypeId} (h:lK base lp fst A c qs W) (hT:aN B ts W W') (h1:80 ∉ ts) (h2:25 ∉ ts) (h3:71 ∉ ts) (h4:74 ∉ ts) (h5:9 ∉ ts):lK base lp fst A c qs W':=⟨hT.blk h.blk h1,bP h.row hT h2,fun q hq=>(h.sm q hq).bH hT h3 h4 h5⟩
theorem lK.stay (h:lK base lp fst A c qs W) (hb:Below W.heap.size W W'):lK base lp fst A c qs W':=h.bH (aN.of_below hb (Nat.le_refl _) []) (by simp) (by simp) (by simp) (by simp) (by simp)
theorem lK.cells (h:lK base lp fst A c qs W):W.cell? ⟨lp,0,none⟩=some (.int .i64 (fst:Int))∧W.cell? ⟨lp,1,none⟩=some (.slice A qs.length c):=aa h.blk
theorem qp {B:Nat} {t:TypeId} (h:au W B t A (eD qs)) {k:Nat} (hk:k<qs.length):∃ ad q,A=some ad∧qs[k]?=some q∧W.cell? (ad.add (k * 2))=some (.slice q.A q.ls.length q.c)∧W.cell? ⟨(ad.add (k * 2)).block,(ad.add (k * 2)).off+1,none⟩=some (.slice q.A2 q.ms.length q.c2):=by
 have hx:qs[k]?=some qs[k]:=List.getElem?_eq_getElem hk
 obtain⟨ad,e,_,hc⟩:=h (fun q=>by have:=jZ qs;rw [q] at this;simp at this;omega)
 have c':∀ j u,j<2→(n_ qs[k])[j]?=some u→W.cell? ((ad.add (k * 2)).add j)=some u:=fun j u hj hu=>by
  rw [addr_add]
  exact hc _ _ ((iB (f:=n_) (size:=2) (fun l _=>rfl) hx hj).trans hu)
 exact⟨ad,qs[k],e,hx,c' 0 _ (by omega) rfl,c' 1 _ (by omega) rfl⟩
theorem sW {k:Nat} (h1:W.cell? ⟨lp,1,none⟩=some (.slice A k c)) (hk:0<k):Calls prog 33 #[.pointer (some ⟨lp,0,none⟩)] W fun e w'=>e=.returned (.bool true)∧W=w':=by
 have hz:(0:Int)<(k:Int):=by omega
 go_enter func33,ntmps33
 go_wp2
 go_ret
 exact⟨rfl,rfl⟩
theorem oh (W:World):Calls prog 33 #[.pointer none] W fun e w'=>e=.returned (.bool false)∧W=w':=by
 go_enter func33,ntmps33
 go_wp2
 go_ret
 exact⟨rfl,rfl⟩
theorem Ct {k N:Nat} (h0:W.cell? ⟨lp,0,none⟩=some (.int .i64 (fst:Int))) (h1:W.cell? ⟨lp,1,none⟩=some (.slice A k c)) (hk:0<k) (hN:fst+k=N+1) (hs:N≤1000000):Calls prog 13 #[.pointer (some ⟨lp,0,none⟩)] W fun e w'=>e=.returned (.int .i64 (N:Int))∧∃ j,w'=W.drewN j:=by
 have hz:(0:Int)<(k:Int):=by omega
 have w1:IntKind.i64.wrap ((fst:Int)+(k:Int))=(N:Int)+1:=by rw [IntKind.wrap_i64];omega
 have w2:IntKind.i64.wrap ((N:Int)+1 - 1)=(N:Int):=by rw [IntKind.wrap_i64];omega
 have MD:=hid (sW h1 hk)
 clear hN
 go_enter func13,ntmps13
 go_wp2_with fail
 refine MD.out.mono ?_
 rintro e w ⟨rfl,rfl⟩
 go_wp2_with fail
 go_quiet (fail)
 go_wp2
 go_ret
 exact⟨rfl,_,rfl⟩
theorem Ee (W:World):Calls prog 13 #[.pointer none] W fun e w'=>e=.returned (.int .i64 0)∧W=w':=by
 have MD:=hid (oh W)
 go_enter func13,ntmps13
 go_wp2_with fail
 refine MD.out.mono ?_
 rintro e w ⟨rfl,rfl⟩
 go_wp2
 go_ret
 exact⟨rfl,rfl⟩
theorem ni {k N:Nat} {n:Int} {b:Bool} (hb:b=decide ((fst:Int)≤n∧n≤(N:Int))) (h0:W.cell? ⟨lp,0,none⟩=some (.int .i64 (fst:Int))) (h1:W.cell? ⟨lp,1,none⟩=some (.slice A k c)) (hk:0<k) (hN:fst+k=N+1) (hs:N≤1000000):Calls prog 35 #[.pointer (some ⟨lp,0,none⟩),.int .i64 n] W fun e w'=>e=.returned (.bool b)∧∃ j,w'=W.drewN j:=by
 have MD:=hid (sW h1 hk)
 have LE:=hid (Ct h0 h1 hk hN hs)
 by_cases hf:(fst:Int)≤n
 ·by_cases hg:n≤(N:Int)
  ·obtain rfl:b=true:=by rw [hb];exact decide_eq_true ⟨hf,hg⟩
   clear hb
   go_enter func35,ntmps35
   go_wp2_with fail
   refine MD.out.mono ?_
   rintro e w ⟨rfl,rfl⟩
   go_wp2_with fail
   refine LE.out.mono ?_
   rintro e w ⟨rfl,j,rfl⟩
   go_wp2
   go_ret
   exact⟨aP (by simp [hg]),j,rfl⟩
  ·obtain rfl:b=false:=by rw [hb];exact decide_eq_false (fun q=>hg q.2)
   clear hb
   go_enter func35,ntmps35
   go_wp2_with fail
   refine MD.out.mono ?_
   rintro e w ⟨rfl,rfl⟩
   go_wp2_with fail
   refine LE.out.mono ?_
   rintro e w ⟨rfl,j,rfl⟩
   go_wp2
   go_ret
   exact⟨aP (by simp;omega),j,rfl⟩
 ·obtain rfl:b=false:=by rw [hb];exact decide_eq_false (fun q=>hf q.1)
  clear hb
  go_enter func35,ntmps35
  go_wp2_with fail
  refine MD.out.mono ?_
  rintro e w ⟨rfl,rfl⟩
  go_wp2
  go_ret
  exact⟨rfl,0,rfl⟩
theorem qQ (n:Int) (W:World):Calls prog 35 #[.pointer none,.int .i64 n] W fun e w'=>e=.returned (.bool false)∧W=w':=by
 have MD:=hid (oh W)
 go_enter func35,ntmps35
 go_wp2_with fail
 refine MD.out.mono ?_
 rintro e w ⟨rfl,rfl⟩
 go_wp2
 go_ret
 exact⟨rfl,rfl⟩
def kU (b:Bool) (s:T9.St) (w:World) (e:Ending) (w':World):Prop:=∃ q:aW,e=.returned (.tuple #[q.val,.bool b])∧j_ q w'∧q.st=s∧Below w.heap.size w w'
theorem at14_no {k N:Nat} {n:Int} (h0:W.cell? ⟨lp,0,none⟩=some (.int .i64 (fst:Int))) (h1:W.cell? ⟨lp,1,none⟩=some (.slice A k c)) (hk:0<k) (hN:fst+k=N+1) (hs:N≤1000000) (hn:¬ ((fst:Int)≤n∧n≤(N:Int))):Calls prog 15 #[.pointer (some ⟨lp,0,none⟩),.int .i64 n] W (kU false ⟨[],[]⟩ W):=by
 have hbl:=jQ
 obtain⟨w1,hw1⟩:∃ u,W.alloc (.cells #[.slice none 0 0,.slice none 0 0] 25)=u:=⟨_,rfl⟩
 obtain⟨rb,b1,z1⟩:=ak hw1
 have ho:∀ {i:Nat} {v:Value},W.cell? ⟨lp,i,none⟩=some v→w1.cell? ⟨lp,i,none⟩=some v:=fun h=>(b1.cell (World.block_lt_of_cell? _ _ h)).trans h
 have TE:=hid (ni (n:=n) rfl (ho h0) (ho h1) hk hN hs)
 rw [decide_eq_false hn] at TE
 have RB:=hid rb
 have B1:=hid b1
 clear ho h0 h1 hk hN hs hn rb b1 z1
 go_enter func15,ntmps15
 go_wp2_with fail
 refine TE.out.mono ?_
 rintro e w2 ⟨rfl,j,rfl⟩
 have TD:aN W.heap.size [] w1 (w1.drewN j):=(aN.refl _ _ w1).drewN j
 have R2:=hid (TD.blk RB.out (by simp))
 have HTD:=hid TD
 have f0:=af R2.out 0
 have f1:=af R2.out 1
 obtain⟨r0,r1⟩:=aa R2.out
 clear TD
 go_wp2
 obtain⟨wz,hwz⟩:∃ u,((w1.drewN j).setCell ⟨W.heap.size,0,none⟩ (.slice none 0 0)).setCell ⟨W.heap.size,1,none⟩ (.slice none 0 0)=u:=⟨_,rfl⟩
 rw [hwz]
 have YR:Ty (w1.drewN j) W.heap.size 25:=⟨_,_,R2.out⟩
 have TZ:aN W.heap.size [25] (w1.drewN j) wz:=by
  rw [← hwz]
  exact ((aN.refl _ _ (w1.drewN j)).aC (p:=⟨W.heap.size,0,none⟩) YR (by simp) (Nat.le_refl _) _).aC (p:=⟨W.heap.size,1,none⟩) (YR.set _ _) (by simp) (Nat.le_refl _) _
 have RZ:wz.heap[W.heap.size]?=some (.cells #[.slice none 0 0,.slice none 0 0] 25 (0,0)):=by rw [← hwz];exact ah (ah R2.out 0 _) 1 _
 obtain⟨y0,y1⟩:=aa RZ
 refine bodyPost_ret (v:=.tuple #[.agg #[.slice none 0 0,.slice none 0 0],.bool false]) (by simp [results,results15,go_sem,y0,y1]) rfl ?_
 exact⟨⟨[],none,0,[],none,0⟩,rfl,j_.pg,rfl,(B1.out.trans HTD.out.below).trans TZ.below⟩
theorem FK (n:Int) (W:World):Calls prog 15 #[.pointer none,.int .i64 n] W (kU false ⟨[],[]⟩ W):=by
 have hbl:=jQ
 obtain⟨w1,hw1⟩:∃ u,W.alloc (.cells #[.slice none 0 0,.slice none 0 0] 25)=u:=⟨_,rfl⟩
 obtain⟨rb,b1,z1⟩:=ak hw1
 have TE:=hid (qQ n w1)
 have RB:=hid rb
 have B1:=hid b1
 have f0:=af RB.out 0
 have f1:=af RB.out 1
 obtain⟨r0,r1⟩:=aa RB.out
 clear rb b1 z1
 go_enter func15,ntmps15
 go_wp2_with fail
 refine TE.out.mono ?_
 rintro e w2 ⟨rfl,rfl⟩
 go_wp2
 obtain⟨wz,hwz⟩:∃ u,(w1.setCell ⟨W.heap.size,0,none⟩ (.slice none 0 0)).setCell ⟨W.heap.size,1,none⟩ (.slice none 0 0)=u:=⟨_,rfl⟩
 rw [hwz]
 have YR:Ty w1 W.heap.size 25:=⟨_,_,RB.out⟩
 have TZ:aN W.heap.size [25] w1 wz:=by
  rw [← hwz]
  exact ((aN.refl _ _ w1).aC (p:=⟨W.heap.size,0,none⟩) YR (by simp) (Nat.le_refl _) _).aC (p:=⟨W.heap.size,1,none⟩) (YR.set _ _) (by simp) (Nat.le_refl _) _
 have RZ:wz.heap[W.heap.size]?=some (.cells #[.slice none 0 0,.slice none 0 0] 25 (0,0)):=by rw [← hwz];exact ah (ah RB.out 0 _) 1 _
 obtain⟨y0,y1⟩:=aa RZ
 refine bodyPost_ret (v:=.tuple #[.agg #[.slice none 0 0,.slice none 0 0],.bool false]) (by simp [results,results15,go_sem,y0,y1]) rfl ?_
 exact⟨⟨[],none,0,[],none,0⟩,rfl,j_.pg,rfl,B1.out.trans TZ.below⟩
theorem FM {N i:Nat} {n:Int} (hL:lK base lp fst A c qs W) (hN:fst+qs.length=N+1) (hs:N≤1000000) (hn:n=((fst+i:Nat):Int)) (hi:i<qs.length) (hd:∀ q∈qs,T9.fV q.st) {s:T9.St} (hst:∀ q,qs[i]?=some q→q.st=s):Calls prog 15 #[.pointer (some ⟨lp,0,none⟩),.int .i64 n] W (kU true s W):=by
 obtain⟨w1,hw1⟩:∃ u,W.alloc (.cells #[.slice none 0 0,.slice none 0 0] 25)=u:=⟨_,rfl⟩
 obtain⟨rb,b1,z1⟩:=ak hw1
 have L1:=hL.stay b1
 have TE:=hid (ni (n:=n) rfl L1.cells.1 L1.cells.2 (by omega) hN hs)
 rw [decide_eq_true (show (fst:Int)≤n∧n≤(N:Int) by omega)] at TE
 have RB:=hid rb
 have B1:=hid b1
 have HL1:=hid L1
 obtain⟨ad,q,rfl,hq,a0,a1⟩:=qp (aG (B:=0) L1.row) hi
 obtain⟨k,hk⟩:∃ k,qs.length=k:=⟨_,rfl⟩
 have hw:IntKind.i64.wrap (n - (fst:Int))=(i:Int):=by rw [IntKind.wrap_i64];omega
 have hi0:0≤(i:Int):=by omega
 have hik:(i:Int)<(k:Int):=by omega
 have HD:=hid (hd q (List.mem_of_getElem? hq))
 have HST:=hid (hst q hq)
 have HQ:=hid (L1.sm q (List.mem_of_getElem? hq))
 have HC:=hid (show ∀ u,Below w1.heap.size w1 u→(u.cell? ⟨lp,0,none⟩=some (.int .i64 (fst:Int))∧u.cell? ⟨lp,1,none⟩=some (.slice (some ad) k c))∧u.cell? (ad.add (i * 2))=some (.slice q.A q.ls.length q.c)∧u.cell? ⟨(ad.add (i * 2)).block,(ad.add (i * 2)).off+1,none⟩=some (.slice q.A2 q.ms.length q.c2) from fun u hu=>by
  rw [← hk]
  exact⟨(L1.stay hu).cells,(hu.cell (World.block_lt_of_cell? _ _ a0)).trans a0,(hu.cell (World.block_lt_of_cell? _ _ a1)).trans a1⟩)
 have HK:=hid hk
 clear hL L1 rb b1 z1 hN hs hn hi hd hst hq a0 a1 hk
 go_enter func15,ntmps15
 go_wp2_with fail
 refine TE.out.mono ?_
 rintro e w2 ⟨rfl,j,rfl⟩
 go_wp2_with fail
 have B2:Below w1.heap.size w1 (w1.drewN j):=g_ (Below.refl _ w1) j
 have B2':=hid B2
 refine (wpIn_wide (n:=9)).1 (bT.begin (S:=fun u=>Below w1.heap.size w1 u) (st:=13) (by kernel_rfl) ?_)
 have S0:Below w1.heap.size w1 (w1.drewN j).drew:=B2.drew
 generalize (w1.drewN j).drew=wd at S0 ⊢
 clear B2
 refine bT.tk (fun _=>trivial) 0 (v:=?_) (by kernel_rfl) rfl (by kernel_rfl) (by kernel_rfl) (by kernel_rfl) (by kernel_rfl) rfl (by kernel_rfl) (Or.inl ⟨by rfl,?_⟩) S0 ?_
 rotate_left
 ·intro u hu
  skip
  go_simp
  try rfl
 try simp only [Act.put,pS]
 refine bT.tk (fun _=>trivial) 1 (v:=?_) (by kernel_rfl) rfl (by kernel_rfl) (by kernel_rfl) (by kernel_rfl) (by kernel_rfl) rfl (by kernel_rfl) (Or.inl ⟨by rfl,?_⟩) S0 ?_
 rotate_left
 ·intro u hu
  skip
  go_simp
  try rfl
 try simp only [Act.put,pS]
 refine bT.tk (fun _=>trivial) 2 (v:=?_) (by kernel_rfl) rfl (by kernel_rfl) (by kernel_rfl) (by kernel_rfl) (by kernel_rfl) rfl (by kernel_rfl) (Or.inl ⟨by rfl,?_⟩) S0 ?_
 rotate_left
 ·intro u hu
  skip
  go_simp
  try rfl
 try simp only [Act.put,pS]
 refine bT.tk (fun _=>trivial) 3 (v:=?_) (by kernel_rfl) rfl (by kernel_rfl) (by kernel_rfl) (by kernel_rfl) (by kernel_rfl) rfl (by kernel_rfl) (Or.inl ⟨by rfl,?_⟩) S0 ?_
 rotate_left
 ·intro u hu
  obtain⟨⟨c0,c1⟩,c2,c3⟩:=HC.out u hu;clear hu
  go_simp
  try rfl
 try simp only [Act.put,pS]
 refine bT.tk (fun _=>trivial) 4 (v:=?_) (by kernel_rfl) rfl (by kernel_rfl) (by kernel_rfl) (by kernel_rfl) (by kernel_rfl) rfl (by kernel_rfl) (Or.inl ⟨by rfl,?_⟩) S0 ?_
 rotate_left
 ·intro u hu
  skip
  go_simp
  try rfl
 try simp only [Act.put,pS]
 refine bT.tk (fun _=>trivial) 5 (v:=?_) (by kernel_rfl) rfl (by kernel_rfl) (by kernel_rfl) (by kernel_rfl) (by kernel_rfl) rfl (by kernel_rfl) (Or.inl ⟨by rfl,?_⟩) S0 ?_
 rotate_left
 ·intro u hu
  skip
  go_simp
  try rfl
 try simp only [Act.put,pS]
 refine bT.tk (fun _=>trivial) 6 (v:=?_) (by kernel_rfl) rfl (by kernel_rfl) (by kernel_rfl) (by kernel_rfl) (by kernel_rfl) rfl (by kernel_rfl) (Or.inl ⟨by rfl,?_⟩) S0 ?_
 rotate_left
 ·intro u hu
  skip
  go_simp
  try rfl
 try simp only [Act.put,pS]
 refine bT.tk (fun _=>trivial) 7 (v:=?_) (by kernel_rfl) rfl (by kernel_rfl) (by kernel_rfl) (by kernel_rfl) (by kernel_rfl) rfl (by kernel_rfl) (Or.inl ⟨by rfl,?_⟩) S0 ?_
 rotate_left
 ·intro u hu
  skip
  go_simp
  try rfl
 try simp only [Act.put,pS]
 refine bT.tk (fun _=>trivial) 8 (v:=?_) (by kernel_rfl) rfl (by kernel_rfl) (by kernel_rfl) (by kernel_rfl) (by kernel_rfl) rfl (by kernel_rfl) (Or.inl ⟨by rfl,?_⟩) S0 ?_
 rotate_left
 ·intro u hu
  obtain⟨⟨c0,c1⟩,c2,c3⟩:=HC.out u hu;clear hu
  go_simp
  try rfl
 try simp only [Act.put,pS]
 refine bT.tk (fun _=>trivial) 9 (v:=?_) (by kernel_rfl) rfl (by kernel_rfl) (by kernel_rfl) (by kernel_rfl) (by kernel_rfl) rfl (by kernel_rfl) (Or.inl ⟨by rfl,?_⟩) S0 ?_
 rotate_left
 ·intro u hu
  skip
  go_simp
  try rfl
 try simp only [Act.put,pS]
 refine bT.tk (fun _=>trivial) 10 (v:=?_) (by kernel_rfl) rfl (by kernel_rfl) (by kernel_rfl) (by kernel_rfl) (by kernel_rfl) rfl (by kernel_rfl) (Or.inl ⟨by rfl,?_⟩) S0 ?_
 rotate_left
 ·intro u hu
  skip
  go_simp
  try rfl
 try simp only [Act.put,pS]
 refine bT.tk (fun _=>trivial) 11 (v:=?_) (by kernel_rfl) rfl (by kernel_rfl) (by kernel_rfl) (by kernel_rfl) (by kernel_rfl) rfl (by kernel_rfl) (Or.inl ⟨by rfl,?_⟩) S0 ?_
 rotate_left
 ·intro u hu
  obtain⟨⟨c0,c1⟩,c2,c3⟩:=HC.out u hu;clear hu
  go_simp
  try rfl
 try simp only [Act.put,pS]
 refine bT.qZ (fun _=>trivial) (by kernel_rfl) jf (i:=12) (by kernel_rfl) rfl (fun K hK=>?_)
 go_simp
 have CP:=Az (s:=q) (w:=wd) (HQ.out.stay S0).sm HD.out
 unfold qF aW.val at CP
 refine CP.mono ?_
 rintro e w3 ⟨q2,rfl,hq2,yw,hb3⟩
 have S1:Below w1.heap.size w1 w3:=S0.trans (hb3.mono S0.size)
 refine hK _ _ (fun _ _=>S1) ?_
 have Q2:=hid hq2
 have QS2:=hid yw
 clear hK K S0 hq2 yw hb3 CP
 have S0:=S1
 clear S1
 try simp only [Act.put,pS]
 refine bT.qZ (fun _=>trivial) (by kernel_rfl) jf (i:=13) (by kernel_rfl) rfl (fun K hK=>?_)
 have rb:=ae RB.out S0
 obtain⟨g0,g1⟩:=aa rb
 have DW:=af rb 0
 have DY:=af rb 1
 go_simp
 obtain⟨vz,nE⟩:∃ u,(w3.setCell ⟨W.heap.size,0,none⟩ (.slice q2.A q2.ls.length q2.c)).setCell ⟨W.heap.size,1,none⟩ (.slice q2.A2 q2.ms.length q2.c2)=u:=⟨_,rfl⟩
 try rw [nE]
 have Y:Ty w3 W.heap.size 25:=⟨_,_,rb⟩
 have tz:aN W.heap.size [25] w3 vz:=by
  rw [← nE]
  exact ((aN.refl _ _ w3).aC (p:=⟨W.heap.size,0,none⟩) Y (by simp) (Nat.le_refl _) _).aC (p:=⟨W.heap.size,1,none⟩) (Y.set _ _) (by simp) (Nat.le_refl _) _
 have RZ:Hid (vz.cell? ⟨W.heap.size,0,none⟩=some (.slice q2.A q2.ls.length q2.c)∧vz.cell? ⟨W.heap.size,1,none⟩=some (.slice q2.A2 q2.ms.length q2.c2)):=hid (by rw [← nE];exact aa (ah (ah rb 0 _) 1 _))
 have Q3:=hid (Q2.out.bH tz (by decide) (by decide) (by decide))
 have B3:Hid (Below W.heap.size W vz):=hid ((B1.out.trans (S0.mono B1.out.size)).trans tz.below)
 refine hK _ _ (fun _ h=>absurd rfl h) ?_
 clear hK K S0 rb g0 g1 DW DY Y tz nE
 try simp only [Act.put,pS]
 refine bT.qZ (fun _=>trivial) (by kernel_rfl) jf (i:=14) (by kernel_rfl) rfl (fun K hK=>?_)
 go_simp
 refine hK _ _ (fun h=>by cases h) ?_
 clear hK K
 try simp only [Act.put,pS]
 refine bT.done (by kernel_rfl) ⟨rfl,?_⟩
 go_wp2
 refine bodyPost_ret (v:=.tuple #[.agg #[.slice q2.A q2.ls.length q2.c,.slice q2.A2 q2.ms.length q2.c2],.bool true]) (by simp [results,results15,go_sem,RZ.out.1,RZ.out.2]) rfl ?_
 exact⟨q2,rfl,Q3.out,QS2.out.trans HST.out,B3.out⟩
end
end
end
section
set_option linter.unusedSimpArgs false
section
open Go.RowKit Go.Lib Go.Shelf
def Cc (s:T9.St) (w:World) (e:Ending) (w':World):Prop:=∃ (lp:Nat) (A:Option Addr) (c:Nat) (q:aW),e=.returned (.pointer (some ⟨lp,0,none⟩))∧lK w.heap.size lp 0 A c [q] w'∧q.st=s∧w.heap.size≤lp∧Below w.heap.size w w'
theorem new14_c {s:aW} {w:World} (hs:SM s w) (hf:lJ s):Calls prog 9 #[s.val] w (Cc (T9.dO s.st) w):=by
 obtain⟨w0,hw0⟩:∃ u,w.alloc (.cells #[.slice s.A s.ls.length s.c,.slice s.A2 s.ms.length s.c2] 25)=u:=⟨_,rfl⟩
 obtain⟨lb,b1,z1⟩:=ak hw0
 have B0:=hid b1
 have BG:=hid (vG (hs.stay b1) hf.cs hf.n1 hf.n2 hf.n3)
 obtain⟨s0,hs0⟩:∃ r,T9.dO s.st=r:=⟨_,rfl⟩
 rw [hs0] at BG ⊢
 obtain⟨l0,l1⟩:=aa lb
 unfold qF aW.val at BG
 unfold aW.val
 clear lb b1 hs hf hs0
 go_enter func9,ntmps9
 go_wp2_with fail
 refine BG.out.mono ?_
 rintro e w2 ⟨q,rfl,hq,mO,hb2⟩
 have B2:Hid (Below w.heap.size w w2):=hid (B0.out.trans (hb2.mono B0.out.size))
 have Q2:=hid hq
 have QS:=hid mO
 have lit:=World.ownsRow_lit (base:=w.heap.size) (e:=25) (size:=2) w2 #[.slice q.A q.ls.length q.c,.slice q.A2 q.ms.length q.c2] 1 B2.out.size (by unfold maxLen;omega) rfl
 have LIT:=hid lit
 obtain⟨g,hg⟩:∃ g,w2.heap.size=g:=⟨_,rfl⟩
 obtain⟨i0,hi,hz0,hz1,hz2⟩:=info_parts Tryz.infoS14
 have hbs:∀ u:World,(Instr.buildSlice 78 1 #[(0,.agg #[.slice q.A q.ls.length q.c,.slice q.A2 q.ms.length q.c2])]).run prog u=.ok (.slice (some ⟨u.heap.size,0,none⟩) 1 1) (u.alloc (.cells #[.slice q.A q.ls.length q.c,.slice q.A2 q.ms.length q.c2] 25)):=fun u=>dF u 78 25 #[.slice q.A q.ls.length q.c,.slice q.A2 q.ms.length q.c2] i0 _ underlying78 hi hz0 hz1 (by show 0<2;omega) (by show 2≤16777216;omega)
 have hbd:∀ u:World,(Instr.build 80 #[(1,.slice (some ⟨g,0,none⟩) 1 1)]).run prog u=.ok (.agg #[.int .i64 0,.slice (some ⟨g,0,none⟩) 1 1]) u:=fun u=>run_build u 80 _ _ (by kernel_rfl)
 clear hq mO hb2 l0 l1 lit
 go_wp2
 go_ret
 obtain⟨w3,hw3⟩:∃ u,w2.alloc (.cells #[.slice q.A q.ls.length q.c,.slice q.A2 q.ms.length q.c2] 25)=u:=⟨_,rfl⟩
 obtain⟨gb,b3,z3⟩:=ak hw3
 rw [hw3] at LIT ⊢
 obtain⟨w4,hw4⟩:∃ u,w3.alloc (.cells #[.int .i64 0,.slice (some ⟨g,0,none⟩) 1 1] 80)=u:=⟨_,rfl⟩
 obtain⟨nb,b4,z4⟩:=ak hw4
 rw [hw4]
 have e:w3.heap.size=g+1:=by rw [z3,hg]
 rw [e] at nb
 rw [hg] at LIT
 exact⟨g+1,some ⟨g,0,none⟩,1,q,rfl,⟨nb,by simpa [eD,n_] using own_below LIT.out b4,fun x hx=>by rw [List.mem_singleton] at hx;subst hx;exact (Q2.out.stay b3).stay b4⟩,QS.out,by rw [← hg];exact Nat.le_succ_of_le B2.out.size,(B2.out.trans (b3.mono B2.out.size)).trans (b4.mono (Nat.le_trans B2.out.size b3.size))⟩
theorem yO {w:World} {B:Nat} {t:TypeId} {ad:Addr} {qs:List aW} (h:au w B t (some ad) (eD qs)) (i:Nat):au w B t (some (ad.add (i * 2))) (eD (qs.drop i)):=by
 have e:eD qs=eD (qs.take i)++eD (qs.drop i):=by rw [← tX,List.take_append_drop]
 intro hx
 obtain⟨ad2,e1,h1,h2⟩:=h (by rw [e];intro q;exact hx (List.append_eq_nil_iff.1 q).2)
 injection e1 with e1
 subst e1
 refine⟨_,rfl,by rw [iY];exact h1,fun j u hj=>?_⟩
 rw [addr_add]
 refine h2 _ _ ?_
 have hl:i≤qs.length:=by
  rcases Nat.lt_or_ge qs.length i with q | q
  ·rw [List.drop_eq_nil_of_le (Nat.le_of_lt q)] at hj
   cases hj
  ·exact q
 rw [e,List.getElem?_append_right (by rw [jZ,List.length_take,Nat.min_eq_left hl];omega),jZ,List.length_take,Nat.min_eq_left hl,Nat.add_sub_cancel_left]
 exact hj
section
variable {base lp fst c : Nat} {A : Option Addr} {qs : List aW} {W W' : World}
theorem EM {k N:Nat} {n:Int} (h0:W.cell? ⟨lp,0,none⟩=some (.int .i64 (fst:Int))) (h1:W.cell? ⟨lp,1,none⟩=some (.slice A k c)) (hk:0<k) (hN:fst+k=N+1) (hs:N≤1000000) (hn:¬ ((fst:Int)≤n∧n≤(N:Int))):Calls prog 14 #[.pointer (some ⟨lp,0,none⟩),.int .i64 n] W fun e w'=>e=.returned (.bool false)∧∃ j,w'=W.drewN j:=by
 have TE:=hid (ni (n:=n) (b:=false) (decide_eq_false hn).symm h0 h1 hk hN hs)
 clear h0 h1 hk hN hs hn
 go_enter func14,ntmps14
 go_wp2_with fail
 refine TE.out.mono ?_
 rintro e w2 ⟨rfl,j,rfl⟩
 go_wp2
 go_ret
 exact⟨rfl,j,rfl⟩
theorem BJ (n:Int) (W:World):Calls prog 14 #[.pointer none,.int .i64 n] W fun e w'=>e=.returned (.bool false)∧W=w':=by
 have TE:=hid (qQ n W)
 go_enter func14,ntmps14
 go_wp2_with fail
 refine TE.out.mono ?_
 rintro e w2 ⟨rfl,rfl⟩
 go_wp2
 go_ret
 exact⟨rfl,rfl⟩
def Fu (base lp fst:Nat) (qs:List aW) (w:World) (e:Ending) (w':World):Prop:=∃ (A:Option Addr) (c:Nat),e=.returned (.bool true)∧lK base lp fst A c qs w'∧aN base [80] w w'
theorem BK {N i:Nat} {n:Int} (hL:lK base lp fst A c qs W) (hb:base≤lp) (hN:fst+qs.length=N+1) (hs:N≤100000) (hn:n=((fst+i:Nat):Int)) (hi:i<qs.length):Calls prog 14 #[.pointer (some ⟨lp,0,none⟩),.int .i64 n] W (Fu base lp (fst+i) (qs.drop i) W):=by
 have TE:=hid (ni (n:=n) (b:=true) (decide_eq_true (show (fst:Int)≤n∧n≤(N:Int) by omega)).symm hL.cells.1 hL.cells.2 (by omega) hN (Nat.le_trans hs (by decide)))
 obtain⟨ad,q,rfl,hq,a0,a1⟩:=qp (aG (B:=0) hL.row) hi
 obtain⟨k,hk⟩:∃ k,qs.length=k:=⟨_,rfl⟩
 have hkc:k≤c:=by rw [← hk];exact (aO hL.row).2
 have hw:IntKind.i64.wrap (n - (fst:Int))=(i:Int):=by rw [IntKind.wrap_i64];omega
 have hi0:0≤(i:Int):=by omega
 have hik:(i:Int)≤(k:Int):=by omega
 have hci:¬ (c=i):=by omega
 have hld:(qs.drop i).length=k - i:=by rw [List.length_drop,hk]
 have LD:=hid (yO (aG (B:=0) hL.row) i)
 have HC:=hid (show ∀ u,Below W.heap.size W u→u.cell? ⟨lp,0,none⟩=some (.int .i64 (fst:Int))∧u.cell? ⟨lp,1,none⟩=some (.slice (some ad) k c) from fun u hu=>by rw [← hk];exact (hL.stay hu).cells)
 have HL:=hid hL
 have HK:=hid hk
 have HLD:=hid hld
 have HB:=hid hb
 have HN:=hid hn
 have HS:Hid (k - i≤1000000):=hid (by omega)
 have bl:base≤W.heap.size:=Nat.le_trans hb (Nat.le_of_lt (lt_of_block hL.blk))
 clear hL hb hN hs hn hq a0 a1 hld hk
 go_enter func14,ntmps14
 go_wp2_with fail
 refine TE.out.mono ?_
 rintro e w2 ⟨rfl,j,rfl⟩
 go_wp2_with fail
 refine (wpIn_wide (n:=9)).1 (bT.begin (S:=fun u=>Below W.heap.size W u) (st:=15) (by kernel_rfl) ?_)
 have S0:Below W.heap.size W (W.drewN j).drew:=(g_ (Below.refl _ W) j).drew
 generalize (W.drewN j).drew=wd at S0 ⊢
 refine bT.tk (fun _=>trivial) 0 (v:=?_) (by kernel_rfl) rfl (by kernel_rfl) (by kernel_rfl) (by kernel_rfl) (by kernel_rfl) rfl (by kernel_rfl) (Or.inl ⟨by rfl,?_⟩) S0 ?_
 rotate_left
 ·intro u hu
  skip
  go_simp
  try rfl
 try simp only [Act.put,pS]
 refine bT.tk (fun _=>trivial) 1 (v:=?_) (by kernel_rfl) rfl (by kernel_rfl) (by kernel_rfl) (by kernel_rfl) (by kernel_rfl) rfl (by kernel_rfl) (Or.inl ⟨by rfl,?_⟩) S0 ?_
 rotate_left
 ·intro u hu
  skip
  go_simp
  try rfl
 try simp only [Act.put,pS]
 refine bT.tk (fun _=>trivial) 2 (v:=?_) (by kernel_rfl) rfl (by kernel_rfl) (by kernel_rfl) (by kernel_rfl) (by kernel_rfl) rfl (by kernel_rfl) (Or.inl ⟨by rfl,?_⟩) S0 ?_
 rotate_left
 ·intro u hu
  skip
  go_simp
  try rfl
 try simp only [Act.put,pS]
 refine bT.tk (fun _=>trivial) 3 (v:=?_) (by kernel_rfl) rfl (by kernel_rfl) (by kernel_rfl) (by kernel_rfl) (by kernel_rfl) rfl (by kernel_rfl) (Or.inl ⟨by rfl,?_⟩) S0 ?_
 rotate_left
 ·intro u hu
  skip
  go_simp
  try rfl
 try simp only [Act.put,pS]
 refine bT.tk (fun _=>trivial) 4 (v:=?_) (by kernel_rfl) rfl (by kernel_rfl) (by kernel_rfl) (by kernel_rfl) (by kernel_rfl) rfl (by kernel_rfl) (Or.inl ⟨by rfl,?_⟩) S0 ?_
 rotate_left
 ·intro u hu
  obtain⟨c0,c1⟩:=HC.out u hu;clear hu
  go_simp
  try rfl
 try simp only [Act.put,pS]
 refine bT.tk (fun _=>trivial) 5 (v:=?_) (by kernel_rfl) rfl (by kernel_rfl) (by kernel_rfl) (by kernel_rfl) (by kernel_rfl) rfl (by kernel_rfl) (Or.inl ⟨by rfl,?_⟩) S0 ?_
 rotate_left
 ·intro u hu
  skip
  go_simp
  try rfl
 try simp only [Act.put,pS]
 refine bT.tk (fun _=>trivial) 6 (v:=?_) (by kernel_rfl) rfl (by kernel_rfl) (by kernel_rfl) (by kernel_rfl) (by kernel_rfl) rfl (by kernel_rfl) (Or.inl ⟨by rfl,?_⟩) S0 ?_
 rotate_left
 ·intro u hu
  skip
  go_simp
  try rfl
 try simp only [Act.put,pS]
 refine bT.tk (fun _=>trivial) 7 (v:=?_) (by kernel_rfl) rfl (by kernel_rfl) (by kernel_rfl) (by kernel_rfl) (by kernel_rfl) rfl (by kernel_rfl) (Or.inl ⟨by rfl,?_⟩) S0 ?_
 rotate_left
 ·intro u hu
  skip
  go_simp
  try rfl
 try simp only [Act.put,pS]
 refine bT.tk (fun _=>trivial) 8 (v:=?_) (by kernel_rfl) rfl (by kernel_rfl) (by kernel_rfl) (by kernel_rfl) (by kernel_rfl) rfl (by kernel_rfl) (Or.inl ⟨by rfl,?_⟩) S0 ?_
 rotate_left
 ·intro u hu
  skip
  go_simp
  try rfl
 try simp only [Act.put,pS]
 refine bT.tk (fun _=>trivial) 9 (v:=?_) (by kernel_rfl) rfl (by kernel_rfl) (by kernel_rfl) (by kernel_rfl) (by kernel_rfl) rfl (by kernel_rfl) (Or.inl ⟨by rfl,?_⟩) S0 ?_
 rotate_left
 ·intro u hu
  obtain⟨c0,c1⟩:=HC.out u hu;clear hu
  go_simp
  try rfl
 try simp only [Act.put,pS]
 refine bT.tk (fun _=>trivial) 10 (v:=?_) (by kernel_rfl) rfl (by kernel_rfl) (by kernel_rfl) (by kernel_rfl) (by kernel_rfl) rfl (by kernel_rfl) (Or.inl ⟨by rfl,?_⟩) S0 ?_
 rotate_left
 ·intro u hu
  skip
  go_simp
  try rfl
 try simp only [Act.put,pS]
 refine bT.tk (fun _=>trivial) 11 (v:=?_) (by kernel_rfl) rfl (by kernel_rfl) (by kernel_rfl) (by kernel_rfl) (by kernel_rfl) rfl (by kernel_rfl) (Or.inl ⟨by rfl,?_⟩) S0 ?_
 rotate_left
 ·intro u hu
  skip
  go_simp
  try rfl
 try simp only [Act.put,pS]
 refine bT.qZ (fun _=>trivial) (by kernel_rfl) jf (i:=12) (by kernel_rfl) rfl (fun K hK=>?_)
 go_simp
 have CP:=Aw (A:=some (ad.add (i * 2))) (n:=k - i) (c:=c - i) (w:=wd) (LD.out.below (Nat.zero_le _) S0) (Nat.zero_le _) HLD.out.symm HS.out
 unfold BU at CP
 refine CP.mono ?_
 rintro e w3 ⟨A3,c3,rfl,ho3,hb3⟩
 have S1:Below W.heap.size W w3:=S0.trans (hb3.mono S0.size)
 refine hK _ _ (fun _ _=>S1) ?_
 have O3:=hid (tC ho3 (Nat.le_trans bl S0.size))
 clear hK K S0 ho3 hb3 CP
 have S0:=S1
 clear S1
 try simp only [Act.put,pS]
 refine bT.qZ (fun _=>trivial) (by kernel_rfl) jf (i:=13) (by kernel_rfl) rfl (fun K hK=>?_)
 go_simp
 refine hK _ _ (fun _ _=>S0) ?_
 clear hK K
 try simp only [Act.put,pS]
 refine bT.qZ (fun _=>trivial) (by kernel_rfl) jf (i:=14) (by kernel_rfl) rfl (fun K hK=>?_)
 go_simp
 refine hK _ _ (fun _ _=>S0) ?_
 clear hK K
 try simp only [Act.put,pS]
 refine bT.qZ (fun _=>trivial) (by kernel_rfl) jf (i:=15) (by kernel_rfl) rfl (fun K hK=>?_)
 have B3:=hid S0
 have L3:=HL.out.stay S0
 have lb:=L3.blk
 rw [HK.out] at lb
 obtain⟨g0,g1⟩:=aa lb
 have DW:=af lb 0
 have DY:=af lb 1
 go_simp
 obtain⟨vz,nE⟩:∃ u,w3.setCell ⟨lp,1,none⟩ (.slice A3 (k - i) c3)=u:=⟨_,rfl⟩
 try rw [nE]
 have lz:vz.heap[lp]?=some (.cells #[.int .i64 (fst:Int),.slice A3 (k - i) c3] 80 (0,0)):=by rw [← nE];exact ah lb 1 _
 have tz:aN base [80] w3 vz:=by rw [← nE];exact (aN.refl _ _ w3).setCell (p:=⟨lp,1,none⟩) lb (by simp) HB.out _
 have LZ:=hid lz
 have TZ:=hid tz
 have L3':=hid L3
 refine hK _ _ (fun _ h=>absurd rfl h) ?_
 clear hK K S0 g0 g1 DW DY tz nE lz lb L3
 try simp only [Act.put,pS]
 refine bT.done (by kernel_rfl) ⟨rfl,?_⟩
 obtain⟨vy,hvy⟩:∃ u,vz.setCell ⟨lp,0,none⟩ (.int .i64 n)=u:=⟨_,rfl⟩
 have fz0:=af LZ.out 0
 obtain⟨y0,y1⟩:=aa LZ.out
 have ly:vy.heap[lp]?=some (.cells #[.int .i64 n,.slice A3 (k - i) c3] 80 (0,0)):=by rw [← hvy];exact ah LZ.out 0 _
 have ty:aN base [80] vz vy:=by rw [← hvy];exact (aN.refl _ _ vz).setCell (p:=⟨lp,0,none⟩) LZ.out (by simp) HB.out _
 have LY:=hid ly
 have TY:=hid ty
 clear ly ty
 go_wp2
 go_ret
 have tt:=TZ.out.trans TY.out
 refine⟨A3,c3,rfl,⟨?_,?_,fun x hx=>(L3'.out.sm x (List.mem_of_mem_drop hx)).bH tt (by decide) (by decide) (by decide)⟩,(aN.of_below B3.out bl _).trans tt⟩
 ·rw [HLD.out,← HN.out]
  exact LY.out
 ·rw [HLD.out]
  exact bP O3.out tt (by decide)
end
end
end
section
set_option linter.unusedSimpArgs false
section
open Go.RowKit Go.Lib Go.Shelf
attribute [local go_sem] Oper.semAt_some
theorem aN.jU {B:Nat} {ts:List TypeId} {w W W':World} (h:aN B ts w W) (hB:B≤w.heap.size) (hb:Below w.heap.size W W'):aN B ts w W':=⟨h.below.trans (hb.mono hB),fun k cs t fr hk ht=>(hb.block k (lt_of_block hk)).trans (h.typed k cs t fr hk ht)⟩
structure vV (w:World) (base lp fst eb:Nat) (bad:List Nat) (qs:List aW) (s:T9.St) (ms:List T9.Mu) (pre:List (Int × aW)) (W:World):Prop where
 line:∃ A c,lK base lp fst A c (qs++pre.map (·.2)) W∧∀ g,(Value.slice A (qs++pre.map (·.2)).length c).ownBlock=some g→g ∉ bad
 err:Fb w eb (T9.dJ s (ms.take pre.length)) W
 xb:W.heap[w.heap.size]?=some (.cells #[.pointer (some ⟨lp,0,none⟩)] 31 (0,0))
 fr:aN base [80,25] w W
theorem vV.bH {w W W':World} {base lp fst eb B:Nat} {bad:List Nat} {qs:List aW} {s:T9.St} {ms:List T9.Mu} {pre:List (Int × aW)} (h:vV w base lp fst eb bad qs s ms pre W) (hB:w.heap.size≤B) (hw:base≤w.heap.size) (hT:aN B [] W W'):vV w base lp fst eb bad qs s ms pre W':=by
 obtain⟨A,c,h1,h2⟩:=h.line
 exact⟨⟨A,c,h1.bH hT (by simp) (by simp) (by simp) (by simp) (by simp),h2⟩,h.err.bH hT (by simp) (by simp),hT.blk h.xb (by simp),h.fr.jU hw (hT.below.mono hB)⟩
theorem vV.stp {w W W':World} {base lp fst eb B:Nat} {qs:List aW} {s:T9.St} {ms:List T9.Mu} {pre:List (Int × aW)} (h:vV w base lp fst eb [B] qs s ms pre W) (hB:w.heap.size<B) (hw:base≤w.heap.size) (hl:lp<B) (hT:Fj B W W'):vV w base lp fst eb [B] qs s ms pre W':=by
 obtain⟨A,c,h1,h2⟩:=h.line
 have keep:∀ k,(Value.slice A (qs++pre.map (·.2)).length c).ownBlock=some k→W'.heap[k]?=W.heap[k]?:=fun k hk=>by
  obtain⟨_,cs,fr,r⟩:=bM h1.row k hk
  exact hT.o k (lt_of_block r) (fun e=>h2 k hk (by rw [e];exact List.mem_singleton.2 rfl))
 exact⟨⟨A,c,⟨(hT.o lp (lt_of_block h1.blk) (by omega)).trans h1.blk,dz h1.row keep,fun q hq=>(h1.sm q hq).bH hT.t (by decide) (by decide) (by decide)⟩,h2⟩,h.err.bH hT.t (by decide) (by decide),(hT.o _ (lt_of_block h.xb) (by omega)).trans h.xb,h.fr.jU hw (hT.t.below.mono (by omega))⟩
def vU (base lp fst:Nat) (qs:List aW) (s:T9.St) (ms:List T9.Mu) (n:Nat) (w:World) (e:Ending) (w':World):Prop:=∃ (A:Option Addr) (c:Nat) (rs:List aW) (eA:Option Addr) (ec:Nat),e=.returned (.slice eA n ec)∧lK base lp fst A c (qs++rs) w'∧rs.length=n∧(∀ (i:Nat) (q:aW),rs[i]?=some q→q.st=T9.cK s (ms.take (i+1))) ∧
 w'.ownsRow w.heap.size 50 1 (.slice eA n ec) n ((T9.dJ s ms).map encZ)∧aN base [80,25] w w'
theorem Dm (A:Option Addr) (n c:Nat) (W:World):Calls prog 12 #[.pointer none,.slice A n c] W fun e w'=>e=.returned (.slice none 0 0)∧Below W.heap.size W w':=by
 obtain⟨w1,hw1⟩:∃ u,W.alloc (.cells #[.pointer none] 31)=u:=⟨_,rfl⟩
 have b1:Below W.heap.size W w1:=by rw [← hw1];exact (Below.refl _ W).alloc (Nat.le_refl _) _
 have x1:=iC (show w1.heap[W.heap.size]?=some (.cells #[.pointer none] 31 (0,0)) from by rw [← hw1];exact heap_alloc_new W _)
 have MD:=hid (oh w1)
 have B1:=hid b1
 clear b1
 refine iZ func12 rfl ?_
 simp only [ntmps12,List.size_toArray,List.length_cons,List.length_nil,Nat.reduceAdd,Nat.reduceSub,Array.replicate_succ,Array.replicate_zero,List.push_toArray,List.append_toArray,List.nil_append,List.cons_append]
 go_wp2_with fail
 refine MD.out.mono ?_
 rintro e w ⟨rfl,rfl⟩
 go_wp2
 exact⟨_,results_tmp rfl _ _ _,rfl,B1.out⟩
theorem Cf {base lp fst c n cI:Nat} {A AI:Option Addr} {qs:List aW} {xs:List It} {s:T9.St} {w:World} (hL:lK base lp fst A c qs w) (hb:base≤lp) (hpos:0<qs.length) (hq:qs.length≤1000) (hs:∀ q,qs[qs.length - 1]?=some q→q.st=s) (hd:T9.fV s)
  (hI:au w base 0 AI (eH xs)) (hn:n=xs.length) (hx:n≤1000) (km:∀ x∈xs,x.m.ok∧x.m.text.length≤200) :
  Calls prog 12 #[.pointer (some ⟨lp,0,none⟩),.slice AI n cI] w (vU base lp fst qs s (dx xs) n w):=by
 have hlw:=lt_of_block hL.blk
 have hbw:base≤w.heap.size:=by omega
 obtain⟨w1,hw1⟩:∃ u,w.alloc (.cells #[.pointer (some ⟨lp,0,none⟩)] 31)=u:=⟨_,rfl⟩
 have b1:Below w.heap.size w w1:=by rw [← hw1];exact (Below.refl _ w).alloc (Nat.le_refl _) _
 have z1:w1.heap.size=w.heap.size+1:=by rw [← hw1];simp
 have xb1:w1.heap[w.heap.size]?=some (.cells #[.pointer (some ⟨lp,0,none⟩)] 31 (0,0)):=by rw [← hw1];exact heap_alloc_new w _
 have L1:=hL.stay b1
 have MD:=hid (sW L1.cells.2 hpos)
 have x1:=iC xb1
 obtain⟨Z,hZ,hmk⟩:=ve n (by omega)
 have made:=World.ownsRow_made (base:=w.heap.size) (e:=50) (size:=1) w1 Z n b1.size (by unfold maxLen;omega) (by rw [hZ,Nat.mul_one])
 obtain⟨w2,hw2⟩:∃ u,w1.alloc (.cells Z 50)=u:=⟨_,rfl⟩
 rw [hw2] at made
 have b2:Below w1.heap.size w1 w2:=by rw [← hw2];exact (Below.refl _ w1).alloc (Nat.le_refl _) _
 have z2:w2.heap.size=w1.heap.size+1:=by rw [← hw2];simp
 obtain⟨w3,hw3⟩:∃ u,w2.alloc (.cells #[.slice (some ⟨w1.heap.size,0,none⟩) 0 n] 36)=u:=⟨_,rfl⟩
 have eb3:w3.heap[w2.heap.size]?=some (.cells #[.slice (some ⟨w1.heap.size,0,none⟩) 0 n] 36 (0,0)):=by rw [← hw3];exact heap_alloc_new w2 _
 have b3:Below w2.heap.size w2 w3:=by rw [← hw3];exact (Below.refl _ w2).alloc (Nat.le_refl _) _
 have z3:w3.heap.size=w2.heap.size+1:=by rw [← hw3];simp
 have b13:=b2.trans (b3.mono (by omega))
 have b03:=b1.trans (b13.mono (by omega))
 have L3:=hL.stay b03
 obtain⟨ad,q0,rfl,hq0,a0,a1⟩:=qp (aG (B:=0) L3.row) (k:=qs.length - 1) (by omega)
 obtain⟨k,hk⟩:∃ k,qs.length=k:=⟨_,rfl⟩
 have hwr:IntKind.i64.wrap ((k:Int) - 1)=((k - 1:Nat):Int):=by rw [IntKind.wrap_i64];omega
 have hi0:0≤((k - 1:Nat):Int):=by omega
 have hik:((k - 1:Nat):Int)<(k:Int):=by omega
 rw [hk] at hq0 a0 a1 hs
 have Q0:=hid (L3.sm q0 (List.mem_of_getElem? hq0))
 have QS:=hid (hs q0 hq0)
 have HL3:=hid L3
 have XB3:=hid (ae xb1 b13)
 have EB3:=hid eb3
 have Dj:=hid (own_below made b3)
 have B03:=hid b03
 have ZZ:Hid (w1.heap.size=w.heap.size+1∧w2.heap.size=w.heap.size+2∧w3.heap.size=w.heap.size+3∧lp<w.heap.size∧base≤w.heap.size):=hid (by omega)
 have I0:=hid hI
 have HN:=hid hn
 have HX:=hid hx
 have KM:=hid km
 have D:=hid hd
 have HB:=hid hb
 have HQ:=hid hq
 have HK:=hid hk
 have c3:w3.cell? ⟨lp,1,none⟩=some (.slice (some ad) k c):=by rw [← hk];exact L3.cells.2
 have x3:=iC (ae xb1 b13)
 have r2:=hmk w1
 rw [hw2] at r2
 have HC:=hid (show ∀ u,Below w3.heap.size w3 u→u.cell? ⟨w.heap.size,0,none⟩=some (.pointer (some ⟨lp,0,none⟩))∧u.cell? ⟨lp,1,none⟩=some (.slice (some ad) k c)∧u.cell? (ad.add ((k - 1) * 2))=some (.slice q0.A q0.ls.length q0.c)∧u.cell? ⟨(ad.add ((k - 1) * 2)).block,(ad.add ((k - 1) * 2)).off+1,none⟩=some (.slice q0.A2 q0.ms.length q0.c2) from fun u hu=>⟨(hu.cell (World.block_lt_of_cell? _ _ x3)).trans x3,(hu.cell (World.block_lt_of_cell? _ _ c3)).trans c3,(hu.cell (World.block_lt_of_cell? _ _ a0)).trans a0,(hu.cell (World.block_lt_of_cell? _ _ a1)).trans a1⟩)
 clear hL hb hpos hq hs hd hI hn hx km hlw hbw b1 z1 xb1 L1 hZ hmk made b2 z2 eb3 b3 z3 b13 b03 L3 hq0 a0 a1 hk c3 x3
 refine iZ func12 rfl ?_
 simp only [ntmps12,List.size_toArray,List.length_cons,List.length_nil,Nat.reduceAdd,Nat.reduceSub,Array.replicate_succ,Array.replicate_zero,List.push_toArray,List.append_toArray,List.nil_append,List.cons_append]
 go_wp2_with fail
 refine MD.out.mono ?_
 rintro e wq ⟨rfl,rfl⟩
 go_wp2_with fail
 refine wp_region_held_drew (S:=fun u=>Below w3.heap.size w3 u) (by kernel_rfl) ((Below.refl w3.heap.size w3).drew) (fun S0=>?_)
 generalize w3.drew=wd at S0 ⊢
 refine aK 0 ?_ rfl (by kernel_rfl) rfl ?_ S0 ?_
 rotate_left
 ·intro u hu;obtain⟨c0,c1,c2,c3⟩:=HC.out u hu;clear hu;go_simp;try rfl
 try simp only [Act.put,pS]
 refine aK 1 ?_ rfl (by kernel_rfl) rfl ?_ S0 ?_
 rotate_left
 ·intro u hu;skip;go_simp;try rfl
 try simp only [Act.put,pS]
 refine aK 2 ?_ rfl (by kernel_rfl) rfl ?_ S0 ?_
 rotate_left
 ·intro u hu;skip;go_simp;try rfl
 try simp only [Act.put,pS]
 refine aK 3 ?_ rfl (by kernel_rfl) rfl ?_ S0 ?_
 rotate_left
 ·intro u hu;obtain⟨c0,c1,c2,c3⟩:=HC.out u hu;clear hu;go_simp;try rfl
 try simp only [Act.put,pS]
 refine aK 4 ?_ rfl (by kernel_rfl) rfl ?_ S0 ?_
 rotate_left
 ·intro u hu;obtain⟨c0,c1,c2,c3⟩:=HC.out u hu;clear hu;go_simp;try rfl
 try simp only [Act.put,pS]
 refine aK 5 ?_ rfl (by kernel_rfl) rfl ?_ S0 ?_
 rotate_left
 ·intro u hu;skip;go_simp;try rfl
 try simp only [Act.put,pS]
 refine aK 6 ?_ rfl (by kernel_rfl) rfl ?_ S0 ?_
 rotate_left
 ·intro u hu;skip;go_simp;try rfl
 try simp only [Act.put,pS]
 refine aK 7 ?_ rfl (by kernel_rfl) rfl ?_ S0 ?_
 rotate_left
 ·intro u hu;obtain⟨c0,c1,c2,c3⟩:=HC.out u hu;clear hu;go_simp;try rfl
 try simp only [Act.put,pS]
 refine aK 8 ?_ rfl (by kernel_rfl) rfl ?_ S0 ?_
 rotate_left
 ·intro u hu;skip;go_simp;try rfl
 try simp only [Act.put,pS]
 refine aK 9 ?_ rfl (by kernel_rfl) rfl ?_ S0 ?_
 rotate_left
 ·intro u hu;skip;go_simp;try rfl
 try simp only [Act.put,pS]
 refine aK 10 ?_ rfl (by kernel_rfl) rfl ?_ S0 ?_
 rotate_left
 ·intro u hu;skip;go_simp;try rfl
 try simp only [Act.put,pS]
 refine aK 11 ?_ rfl (by kernel_rfl) rfl ?_ S0 ?_
 rotate_left
 ·intro u hu;obtain⟨c0,c1,c2,c3⟩:=HC.out u hu;clear hu;go_simp;try rfl
 try simp only [Act.put,pS]
 refine aK 12 ?_ rfl (by kernel_rfl) rfl ?_ S0 ?_
 rotate_left
 ·intro u hu;skip;go_simp;try rfl
 try simp only [Act.put,pS]
 refine ax (i:=13) (by kernel_rfl) rfl (fun K hK=>?_)
 go_simp
 have CST:=vH (s:=q0) (A:=AI) (n:=n) (c:=cI) (w:=wd)
 unfold Fq aW.val at CST
 refine CST.mono ?_
 rintro e w5 ⟨rfl,hb5,hl5,h5,z5⟩
 refine hK _ _ (S0.trans (h5.mono S0.size)) ?_
 have H5:Hid (Below w3.heap.size w3 w5):=hid (S0.trans (h5.mono S0.size))
 clear hK K
 try simp only [Act.put,pS]
 refine wpAnyH_done (by kernel_rfl) ?_ _
 have LT5:=hid (And.intro S0.size z5)
 have HB5:=hid hb5
 have HL5:=hid hl5
 have SG:Hid (∀ W,Below w5.heap.size w5 W→W.heap.size=w5.heap.size+2→xQ (9 - 1) prog 76 #[.pointer (some ⟨wd.heap.size,0,none⟩),.pointer (some ⟨wd.heap.size+1,0,none⟩)] nZ Fj (xO base [80,25,50,36]) (fun _ _ _=>True) (fun B x W=>j_ x.2 W∧Ty W B 25) (SE14 s (dx xs)) (Af s (dx xs)) n W):=hid (fun W hW hz=>by
  have zz:=ZZ.out
  have h35:=H5.out.size
  rw [← QS.out]
  exact vI (ae hb5 hW) (ae hl5 hW) ((Q0.out.stay H5.out).stay hW) (by rw [QS.out];exact D.out) (((I0.out.below (by omega) B03.out).below (by omega) H5.out).below (by omega) hW) HN.out (Nat.le_trans HX.out (by decide)) KM.out (by have:=hW.size;omega) (by decide) (by decide) (by decide) (by decide) (by decide))
 have I5:Hid (vV w base lp fst w2.heap.size [w5.heap.size+2] qs s (dx xs) [] w5):=hid ⟨⟨some ad,c,by simpa using HL3.out.stay H5.out,fun g hg=>by
  have hlt:=lt_of_block (bM HL3.out.row g (by rw [HK.out];simpa [HK.out] using hg)).2.choose_spec.choose_spec
  have:=H5.out.size
  simp
  omega⟩,⟨_,_,ae EB3.out H5.out,own_below Dj.out H5.out⟩,ae XB3.out H5.out,(aN.of_below (B03.out.trans (H5.out.mono B03.out.size)) ZZ.out.2.2.2.2 _)⟩
 clear hb5 hl5 h5 z5 CST S0 x1 r2
 go_wp2_with fail
 refine (wpIn_wide (n:=9)).1 ?_
 refine' CJ (α:=Int × aW) (n:=9) (by decide) (gf:=76) rfl (enters_of func76 (by kernel_rfl) rfl) SG.out (fun _=>rfl) (fun h=>h.t.below) (fun h k=>h.trans k) (fun o h=>yL o h (by have:=ZZ.out;have:=H5.out.size;omega) (by omega)) (fun _ _=>trivial) (fun _ _ _=>trivial)
  (vV w base lp fst w2.heap.size [w5.heap.size+2] qs s (dx xs)) (fun _ _=>False) (fun _ _ _ h hT=>h.bH (B:=w5.heap.size) (by have:=ZZ.out;have:=H5.out.size;omega) ZZ.out.2.2.2.2 hT) (fun _ _ _ h _=>h) (fun _ _ _ h hT=>h.stp (by have:=ZZ.out;have:=H5.out.size;omega) ZZ.out.2.2.2.2 (by have:=ZZ.out;have:=H5.out.size;omega) hT) (fun _ _ _ h _=>h) I5.out (fun x b=>{ tmps:=#[.pointer (some ⟨lp,0,none⟩),.slice AI n cI,.pointer (some ⟨w.heap.size,0,none⟩),undef,.slice none 0 0,.pointer (some ⟨w2.heap.size,0,none⟩),.int .i64 x.1,.pointer (some ⟨b,0,none⟩),.pointer (some ⟨lp,0,none⟩),.bool true,.bool false,.slice AI n cI,.int .i64 (n:Int),.slice (some ⟨w1.heap.size,0,none⟩) 0 n,.pointer (some ⟨lp,0,none⟩),.pointer (some ⟨lp,0,none⟩),.pointer (some ⟨lp,1,none⟩),.slice (some ad) k c,.pointer (some ⟨lp,0,none⟩),.pointer (some ⟨lp,0,none⟩),.pointer (some ⟨lp,1,none⟩),.slice (some ad) k c,.int .i64 (k:Int),.int .i64 ((k - 1:Nat):Int),.pointer (some (ad.add ((k - 1) * 2))),.agg #[.slice q0.A q0.ls.length q0.c,.slice q0.A2 q0.ms.length q0.c2],.slice AI n cI,.func (.func 76) #[] #[.pointer (some ⟨wd.heap.size,0,none⟩),.pointer (some ⟨wd.heap.size+1,0,none⟩)],.int .i64 x.1,.agg #[.slice x.2.A x.2.ls.length x.2.c,.slice x.2.A2 x.2.ms.length x.2.c2],undef,undef,undef,undef,undef,undef,undef,undef,undef,undef,undef,undef,undef,undef,undef],defers:=[] })
  (fun pre x b W=>vV w base lp fst w2.heap.size [w5.heap.size+2,b] qs s (dx xs) pre W∧j_ x.2 W∧W.heap[b]?=some (.cells #[.slice x.2.A x.2.ls.length x.2.c,.slice x.2.A2 x.2.ms.length x.2.c2] 25 (0,0))∧Ty W (w5.heap.size+2) 25∧w5.heap.size+2<b)
  (fun pre x b A A' h hT=>⟨h.1.bH (B:=w5.heap.size) (by have:=ZZ.out;have:=H5.out.size;omega) ZZ.out.2.2.2.2 hT,h.2.1.bH hT (by simp) (by simp) (by simp),hT.blk h.2.2.1 (by simp),(by obtain⟨cs,fr,y⟩:=h.2.2.2.1;exact⟨cs,fr,hT.blk y (by simp)⟩),h.2.2.2.2⟩) ?assign ?body ?done ?stop
 case assign =>
  rintro pre x W EU ⟨hq,hty⟩ hpn hzW
  unfold nZ aW.val
  dsimp only at hq ⊢
  obtain⟨b,hb⟩:∃ b,W.heap.size=b:=⟨_,rfl⟩
  obtain⟨W1,hW1⟩:∃ u,W.alloc (.cells #[.slice x.2.A x.2.ls.length x.2.c,.slice x.2.A2 x.2.ms.length x.2.c2] 25)=u:=⟨_,rfl⟩
  obtain⟨xb,bx,zx⟩:=ak hW1
  rw [hb] at xb
  have XB:=hid xb
  have BX:=hid bx
  have DIH:=hid EU
  have HQ:=hid hq
  have TY:=hid hty
  have HZ:=hid hzW
  have HB':=hid hb
  have LT:Hid (w5.heap.size+2<W.heap.size):=hid (by obtain⟨cs,fr,y⟩:=hty;exact lt_of_block y)
  clear xb bx zx EU hq hty hb
  gi_wp2
  rw [HB'.out]
  have zz:=ZZ.out
  have h35:=H5.out.size
  have lt:=LT.out
  have d1:=DIH.out.bH (W':=W1) (B:=W.heap.size) (by omega) zz.2.2.2.2 (aN.of_below BX.out (Nat.le_refl _) _)
  refine⟨⟨BX.out.block _ HZ.out,BX.out.block _ (by have:=HZ.out;omega)⟩,⟨aN.of_below BX.out (by omega) _,BX.out.block _ lt⟩,b,rfl,⟨?_,d1.err,d1.xb,d1.fr⟩,HQ.out.stay BX.out,XB.out,?_,by rw [← HB'.out];exact lt⟩
  ·obtain⟨A9,c9,h1,h2⟩:=DIH.out.line
   refine⟨A9,c9,h1.stay BX.out,fun g hg=>?_⟩
   have hlt:=lt_of_block (bM h1.row g hg).2.choose_spec.choose_spec
   have hne:=h2 g hg
   rw [List.mem_singleton] at hne
   simp only [List.mem_cons,List.not_mem_nil,or_false,not_or]
   exact⟨hne,by rw [← HB'.out];omega⟩
  ·obtain⟨cs,fr,y⟩:=TY.out
   exact⟨cs,fr,ae y BX.out⟩
 case body =>
  rintro pre x b W ⟨EU,hq,hb,hty,hbB⟩ hpn hsp hz hn1 hn2
  obtain⟨A9,c9,hL9,hbad⟩:=EU.line
  obtain⟨eA,ec,uC,hrow⟩:=EU.err.row
  obtain⟨hsE,hsS⟩:=hsp.last
  have zz:=ZZ.out
  have h35:=H5.out.size
  have esl:(T9.dJ s ((dx xs).take pre.length)).length≤1000:=by have:=HX.out;rw [T9.ja,List.length_take];omega
  obtain⟨es,hes⟩:∃ r,T9.dJ s ((dx xs).take pre.length)=r:=⟨_,rfl⟩
  rw [hes] at uC hrow hsE esl
  obtain⟨rs,hrs⟩:∃ r,qs++pre.map (·.2)=r:=⟨_,rfl⟩
  rw [hrs] at hL9 hbad
  obtain⟨m,hm⟩:∃ m,rs.length=m:=⟨_,rfl⟩
  have ml:m≤2000:=by rw [← hm,← hrs,List.length_append,List.length_map];have:=HQ.out;have:=HX.out;omega
  have LT:Hid (w5.heap.size+2<W.heap.size):=hid (by obtain⟨cs,fr,y⟩:=hty;exact lt_of_block y)
  have bW:=lt_of_block hb
  have ce:=iC uC
  have fe:=af uC 0
  obtain⟨i0,hi,EX,EY,EZ⟩:=info_parts Tryz.infoE14
  obtain⟨j0,hj,jz0,jz1,jz2⟩:=info_parts Tryz.infoS14
  have HNW:Hid (∀ j u,[Value.int .i64 x.1][j]?=some u→(W.alloc (.cells #[.int .i64 x.1] 50)).cell? ((⟨W.heap.size,0,none⟩:Addr).add j)=some u):=hid (fun j u hj=>by
   have hn':=iC (heap_alloc_new W (.cells #[.int .i64 x.1] 50))
   cases j with
   | zero=>simpa [Addr.add] using hn'.trans hj
   | succ j=>simp at hj)
  have HR:=hid hrow
  have HEB:=hid uC
  have HL9:=hid hL9
  have HBAD:=hid hbad
  have HBB:=hid hb
  have HQX:=hid hq
  have DIH:=hid EU
  have N1:=hid hn1
  have N2:=hid hn2
  have TY:=hid hty
  have HSE:=hid hsE
  have HSS:=hid hsS
  have HBZ:=hid hbB
  have HZW:=hid hz
  have HM:=hid hm
  have HRS:=hid hrs
  have BW:=hid bW
  have wsz:w.heap.size≤W.heap.size:=by have:=LT.out;omega
  clear hrow uC hL9 hbad hq EU hn1 hn2 hty hsE hsS hes hsp hpn hz hm hrs hb hbB bW zz h35
  gi_wp2_with (gi_at_builtin;refine wpListIn_append_own _ rfl _ _ 36 rfl w.heap.size 50 i0 _ 1 8 underlying36 hi EX EY EZ rfl (by decide) _ es.length (es.map encZ) rfl (HR.out.alloc _) ⟨W.heap.size,0,none⟩ 1 1 [.int .i64 x.1] rfl rfl HNW.out (by intro u hu;rw [List.mem_singleton] at hu;subst hu;rfl) (by unfold maxLen;omega) (by omega) (by simp;omega) ?_)
  intro v' w7 hown' hgrow hor
  obtain⟨A8,k8,rfl⟩:=aA hown'
  have zz:=ZZ.out
  have e7:=jb (HR.out.alloc _) hgrow (aY HEB.out _) (by decide)
  have T7:aN w.heap.size [50] W w7:=((aN.refl w.heap.size [50] W).alloc wsz _).trans (dP (HR.out.alloc _) hgrow (Nat.le_refl _) (by simp;omega) (by decide))
  obtain⟨w8,hw8⟩:∃ u,w7.setCell ⟨w2.heap.size,0,none⟩ (.slice A8 (es.length+1) k8)=u:=⟨_,rfl⟩
  have e8:w8.heap[w2.heap.size]?=some (.cells #[.slice A8 (es.length+1) k8] 36 (0,0)):=by rw [← hw8];exact ah e7 0 _
  have T8:aN w.heap.size [36] w7 w8:=by rw [← hw8];exact (aN.refl _ _ w7).setCell (p:=⟨w2.heap.size,0,none⟩) e7 (by decide) (by show _≤w2.heap.size;omega) _
  have O8:=bP hown' T8 (by decide)
  have T78:aN w.heap.size [50,36] W w8:=(T7.more (by simp)).trans (T8.more (by simp))
  have far8:∀ k,(∀ cs t fr,W.heap[k]?≠some (.cells cs t fr))→k<W.heap.size→k≠w2.heap.size→w8.heap[k]?=W.heap[k]?:=fun k h1 h2 h3=>by
   rw [← hw8]
   exact (Below.heap_setCell _ _ _ k h3).trans (AR h1 h2 HR.out hgrow)
  have L8:=HL9.out.bH T78 (by decide) (by decide) (by decide) (by decide) (by decide)
  have lb8:=L8.blk
  rw [HM.out] at lb8
  have xb8:=T78.blk DIH.out.xb (by decide)
  have bb8:=T78.blk HBB.out (by decide)
  have E8:=hid e8
  have HO8:=hid O8
  have zZ:=hid T78
  have FAR8:=hid far8
  have HL8:=hid L8
  have LB8:=hid lb8
  have XB8:=hid xb8
  have BB8:=hid bb8
  have fe7:=af e7 0
  have ce7:=iC e7
  clear hown' hgrow hor e7 T7 e8 T8 O8 T78 far8 L8 lb8 xb8 bb8 ce fe zz
  gi_wp2_with fail
  clear fe7 ce7 hw8
  have HC:=hid (show ∀ u:World,(u.heap[w.heap.size]?=some (.cells #[.pointer (some ⟨lp,0,none⟩)] 31 (0,0))∧u.heap[lp]?=some (.cells #[.int .i64 (fst:Int),.slice A9 m c9] 80 (0,0))∧u.heap[b]?=some (.cells #[.slice x.2.A x.2.ls.length x.2.c,.slice x.2.A2 x.2.ms.length x.2.c2] 25 (0,0)))→u.cell? ⟨w.heap.size,0,none⟩=some (.pointer (some ⟨lp,0,none⟩))∧(u.cell? ⟨lp,0,none⟩=some (.int .i64 (fst:Int))∧u.cell? ⟨lp,1,none⟩=some (.slice A9 m c9))∧u.cell? ⟨b,0,none⟩=some (.slice x.2.A x.2.ls.length x.2.c)∧u.cell? ⟨b,1,none⟩=some (.slice x.2.A2 x.2.ms.length x.2.c2) from fun u h=>⟨iC h.1,aa h.2.1,aa h.2.2⟩)
  refine bT.begin (S:=fun u=>u.heap[w.heap.size]?=some (.cells #[.pointer (some ⟨lp,0,none⟩)] 31 (0,0))∧u.heap[lp]?=some (.cells #[.int .i64 (fst:Int),.slice A9 m c9] 80 (0,0))∧u.heap[b]?=some (.cells #[.slice x.2.A x.2.ls.length x.2.c,.slice x.2.A2 x.2.ms.length x.2.c2] 25 (0,0))) (st:=10) (by kernel_rfl) ?_
  have S0:w8.drew.heap[w.heap.size]?=some (.cells #[.pointer (some ⟨lp,0,none⟩)] 31 (0,0))∧w8.drew.heap[lp]?=some (.cells #[.int .i64 (fst:Int),.slice A9 m c9] 80 (0,0))∧w8.drew.heap[b]?=some (.cells #[.slice x.2.A x.2.ls.length x.2.c,.slice x.2.A2 x.2.ms.length x.2.c2] 25 (0,0)):=⟨XB8.out,LB8.out,BB8.out⟩
  have BD:Hid (Below w8.heap.size w8 w8.drew):=hid (Below.refl _ w8).drew
  generalize w8.drew=wx at S0 BD ⊢
  refine bT.tk (fun _=>trivial) 0 (v:=?_) (by kernel_rfl) rfl (by kernel_rfl) (by kernel_rfl) (by kernel_rfl) (by kernel_rfl) rfl (by kernel_rfl) (Or.inl ⟨by rfl,?_⟩) S0 ?_
  rotate_left
  ·intro u hu
   obtain⟨c0,⟨c1,c2⟩,c3,c4⟩:=HC.out u hu;clear hu
   go_simp
   try rfl
  try simp only [Act.put,pS]
  refine bT.tk (fun _=>trivial) 1 (v:=?_) (by kernel_rfl) rfl (by kernel_rfl) (by kernel_rfl) (by kernel_rfl) (by kernel_rfl) rfl (by kernel_rfl) (Or.inl ⟨by rfl,?_⟩) S0 ?_
  rotate_left
  ·intro u hu
   obtain⟨c0,⟨c1,c2⟩,c3,c4⟩:=HC.out u hu;clear hu
   go_simp
   try rfl
  try simp only [Act.put,pS]
  refine bT.tk (fun _=>trivial) 2 (v:=?_) (by kernel_rfl) rfl (by kernel_rfl) (by kernel_rfl) (by kernel_rfl) (by kernel_rfl) rfl (by kernel_rfl) (Or.inl ⟨by rfl,?_⟩) S0 ?_
  rotate_left
  ·intro u hu
   skip
   go_simp
   try rfl
  try simp only [Act.put,pS]
  refine bT.tk (fun _=>trivial) 3 (v:=?_) (by kernel_rfl) rfl (by kernel_rfl) (by kernel_rfl) (by kernel_rfl) (by kernel_rfl) rfl (by kernel_rfl) (Or.inl ⟨by rfl,?_⟩) S0 ?_
  rotate_left
  ·intro u hu
   skip
   go_simp
   try rfl
  try simp only [Act.put,pS]
  refine bT.tk (fun _=>trivial) 4 (v:=?_) (by kernel_rfl) rfl (by kernel_rfl) (by kernel_rfl) (by kernel_rfl) (by kernel_rfl) rfl (by kernel_rfl) (Or.inl ⟨by rfl,?_⟩) S0 ?_
  rotate_left
  ·intro u hu
   obtain⟨c0,⟨c1,c2⟩,c3,c4⟩:=HC.out u hu;clear hu
   go_simp
   try rfl
  try simp only [Act.put,pS]
  refine bT.tk (fun _=>trivial) 5 (v:=?_) (by kernel_rfl) rfl (by kernel_rfl) (by kernel_rfl) (by kernel_rfl) (by kernel_rfl) rfl (by kernel_rfl) (Or.inl ⟨by rfl,?_⟩) S0 ?_
  rotate_left
  ·intro u hu
   obtain⟨c0,⟨c1,c2⟩,c3,c4⟩:=HC.out u hu;clear hu
   go_simp
   try rfl
  try simp only [Act.put,pS]
  refine bT.qZ (fun _=>trivial) (by kernel_rfl) jX (i:=6) (by kernel_rfl) rfl (fun K hK=>?_)
  have hbs:=dF (P:=prog) wx 78 25 #[.slice x.2.A x.2.ls.length x.2.c,.slice x.2.A2 x.2.ms.length x.2.c2] j0 _ underlying78 hj jz0 jz1 (by show 0<2;omega) (by show 2≤16777216;omega)
  go_simp
  obtain⟨wg,hwg⟩:∃ u,wx.alloc (.cells #[.slice x.2.A x.2.ls.length x.2.c,.slice x.2.A2 x.2.ms.length x.2.c2] 25)=u:=⟨_,rfl⟩
  obtain⟨gb,bg,zg⟩:=ak hwg
  try rw [hwg]
  refine hK _ _ (fun _ _=>⟨ae S0.1 bg,ae S0.2.1 bg,ae S0.2.2 bg⟩) ?_
  obtain⟨gx,hgx⟩:∃ g,wx.heap.size=g:=⟨_,rfl⟩
  rw [hgx] at gb
  try rw [hgx]
  have S1:=And.intro (ae S0.1 bg) (And.intro (ae S0.2.1 bg) (ae S0.2.2 bg))
  have GB:=hid gb
  have BG:Hid (Below w8.heap.size w8 wg):=hid (BD.out.trans (bg.mono BD.out.size))
  clear hK K S0 hbs gb bg zg hwg hgx BD
  have S0:=S1
  clear S1
  try simp only [Act.put,pS]
  refine bT.qZ (fun _=>trivial) (by kernel_rfl) jX (i:=7) (by kernel_rfl) rfl (fun K hK=>?_)
  refine eP rfl _ _ 78 rfl base 25 j0 _ 2 48 underlying78 hj jz0 jz1 jz2 rfl (by decide) (.slice A9 m c9) m (eD rs) rfl (by rw [← HM.out];exact own_below HL8.out.row BG.out) 0 (some ⟨gx,0,none⟩) 1 1 (n_ x.2) 25 rfl rfl (au.gY GB.out) (by intro v hv;exact tY [x.2] v (by simpa [eD] using hv)) (by unfold maxLen;omega) (by omega) (by have:=zZ.out.size;have:=BG.out.size;have:=LT.out;have:=ZZ.out;have:=H5.out.size;omega) ?_
  intro v' wk hown hgrow hor
  obtain⟨bX,c10,rfl⟩:=aA hown
  have I8:wg.ownsRow base 25 2 (.slice A9 m c9) m (eD rs):=by rw [← HM.out];exact own_below HL8.out.row BG.out
  have bad9:∀ g,(Value.slice A9 m c9).ownBlock=some g→g ∉ [w5.heap.size+2,b]:=by rw [← HM.out];exact HBAD.out
  have S1:=And.intro (jb I8 hgrow S0.1 (by decide)) (And.intro (jb I8 hgrow S0.2.1 (by decide)) ((hgrow.block b (lt_of_block S0.2.2) (fun e=>bad9 b e.symm (by simp))).trans S0.2.2))
  refine hK _ _ (fun _ _=>S1) ?_
  have TK:Hid (aN base [25] wg wk):=hid (dP I8 hgrow (Nat.le_refl _) (by have:=zZ.out.size;have:=BG.out.size;have:=LT.out;have:=ZZ.out;have:=H5.out.size;omega) (by decide))
  have OK:=hid hown
  have GK:Hid (∀ k,k<w8.heap.size→(Value.slice A9 m c9).ownBlock≠some k→wk.heap[k]?=w8.heap[k]?):=hid (fun k h1 h2=>(hgrow.block k (Nat.lt_of_lt_of_le h1 BG.out.size) (fun e=>h2 e.symm)).trans (BG.out.block k h1))
  have RG:=hid I8
  have B10:Hid (∀ g,(Value.slice bX (m+1) c10).ownBlock=some g→g≠w5.heap.size+2):=hid (fun g hg e=>by
   rcases hor with h | h
   ·rw [h] at hg
    have:=bad9 g hg
    simp only [List.mem_cons,List.not_mem_nil,or_false,not_or] at this
    exact this.1 e
   ·rw [h] at hg
    injection hg with hg
    have:=BG.out.size
    have:=zZ.out.size
    have:=LT.out
    omega)
  clear hK K S0 hown hgrow hor I8 bad9
  have S0:=S1
  clear S1
  try simp only [Act.put,pS]
  refine bT.qZ (fun _=>trivial) (by kernel_rfl) jX (i:=8) (by kernel_rfl) rfl (fun K hK=>?_)
  go_simp
  refine hK _ _ (fun _ _=>S0) ?_
  clear hK K
  try simp only [Act.put,pS]
  refine bT.qZ (fun _=>trivial) (by kernel_rfl) jX (i:=9) (by kernel_rfl) rfl (fun K hK=>?_)
  go_simp
  refine hK _ _ (fun _ _=>S0) ?_
  clear hK K
  try simp only [Act.put,pS]
  refine bT.qZ (fun _=>trivial) (by kernel_rfl) jX (i:=10) (by kernel_rfl) rfl (fun K hK=>?_)
  obtain⟨g0,g1⟩:=aa S0.2.1
  have DW:=af S0.2.1 0
  have DY:=af S0.2.1 1
  go_simp
  obtain⟨vz,nE⟩:∃ u,wk.setCell ⟨lp,1,none⟩ (.slice bX (m+1) c10)=u:=⟨_,rfl⟩
  try rw [nE]
  refine hK _ _ (fun _ h=>absurd rfl h) ?_
  have lz:vz.heap[lp]?=some (.cells #[.int .i64 (fst:Int),.slice bX (m+1) c10] 80 (0,0)):=by rw [← nE];exact ah S0.2.1 1 _
  have tz:aN base [80] wk vz:=by rw [← nE];exact (aN.refl _ _ wk).setCell (p:=⟨lp,1,none⟩) S0.2.1 (by simp) HB.out _
  have LZ:=hid lz
  have TZ:=hid tz
  have FZ:Hid (∀ k,k≠lp→vz.heap[k]?=wk.heap[k]?):=hid (fun k hk=>by rw [← nE];exact Below.heap_setCell _ _ _ k hk)
  clear hK K S0 g0 g1 DW DY tz lz nE
  try simp only [Act.put,pS]
  refine bT.done (by kernel_rfl) ⟨rfl,?_⟩
  gi_wp2
  have zz:=ZZ.out
  have h35:=H5.out.size
  have lt:=LT.out
  have t78:=zZ.out.size
  have T8k:aN base [80,25] w8 vz:=((aN.of_below BG.out (by omega) _).trans (TK.out.more (by simp))).trans (TZ.out.more (by simp))
  have TW:aN base [80,25,50,36] W vz:=((zZ.out.mono (by omega)).more (by decide)).trans (T8k.more (by decide))
  have rowb:∀ k,(Value.slice A9 m c9).ownBlock=some k→∃ cs fr,wg.heap[k]?=some (.cells cs 25 fr):=fun k h=>(bM RG.out k h).2
  have farn:∀ k,(∀ cs t fr,W.heap[k]?≠some (.cells cs t fr))→k<W.heap.size→k≠w2.heap.size→k≠lp→vz.heap[k]?=W.heap[k]?:=fun k h1 h2 h3 h4=>by
   have e8:=FAR8.out k h1 h2 h3
   refine (FZ.out k h4).trans ((GK.out k (by omega) (fun e=>?_)).trans e8)
   obtain⟨cs,fr,r⟩:=rowb k e
   exact h1 _ _ _ (by rw [← e8,← BG.out.block k (by omega)];exact r)
  have ll:(qs++(pre++[x]).map (·.2))=rs++[x.2]:=by rw [List.map_append,← List.append_assoc,HRS.out];rfl
  have ln:(rs++[x.2]).length=m+1:=by rw [List.length_append,HM.out];rfl
  refine⟨⟨farn _ N2.out HZW.out (by omega) (by omega),farn _ N1.out (by have:=HZW.out;omega) (by omega) (by omega)⟩,⟨TW,?_⟩,⟨⟨bX,c10,?_,?_⟩,?_,?_,?_⟩⟩
  ·obtain⟨cs,fr,y⟩:=TY.out
   refine (FZ.out _ (by omega)).trans ((GK.out _ (by omega) (fun e=>?_)).trans (zZ.out.typed _ _ _ _ y (by decide)))
   have:=HBAD.out _ (by rw [HM.out];exact e)
   exact this (by simp)
  ·rw [ll]
   refine⟨by rw [ln];exact LZ.out,?_,fun q hq=>?_⟩
   ·rw [ln,tX]
    exact bP (by simpa [eD] using OK.out) TZ.out (by decide)
   ·rcases List.mem_append.1 hq with hq | hq
    ·exact (HL9.out.sm q hq).bH TW (by decide) (by decide) (by decide)
    ·rw [List.mem_singleton] at hq
     subst hq
     exact HQX.out.bH TW (by decide) (by decide) (by decide)
  ·rw [ll,ln]
   intro g hg
   rw [List.mem_singleton]
   exact B10.out g hg
  ·refine⟨A8,k8,?_⟩
   rw [List.length_append,List.length_singleton,HSE.out,List.length_append,List.length_singleton,List.map_append]
   exact⟨T8k.blk E8.out (by decide),bP HO8.out T8k (by decide)⟩
  ·exact T8k.blk XB8.out (by decide)
  ·exact (DIH.out.fr.jU (by omega) zZ.out.below).trans T8k
 case done =>
  rintro ys W ⟨hsp,hsl⟩ EU hD
  obtain⟨A9,c9,hL9,_⟩:=EU.line
  obtain⟨eA,ec,uC,hrow⟩:=EU.err.row
  rw [hsl,List.take_length,T9.ja,ic,← HN.out] at uC hrow
  have ce:=iC uC
  have HL9:=hid hL9
  have HR:=hid hrow
  have HD:=hid hD
  have FR:=hid EU.fr
  have HSP:=hid hsp
  have HSL:=hid hsl
  clear hL9 uC hrow hD EU hsp hsl
  go_wp2
  have zz:=ZZ.out
  have h35:=H5.out.size
  have TF:aN w.heap.size [] W (W.putObj w5.heap.size (.deferred none)):=uh _ HD.out (by omega)
  refine⟨by simp,.inl ⟨_,_,rfl,run_takeDeferred HD.out,?_⟩⟩
  refine⟨_,results_tmp rfl _ _ _,A9,c9,ys.map (·.2),eA,ec,rfl,HL9.out.bH TF (by simp) (by simp) (by simp) (by simp) (by simp),by rw [List.length_map,HSL.out,ic];exact HN.out.symm,fun i q hq=>?_,bP HR.out TF (by simp),FR.out.jU zz.2.2.2.2 TF.below⟩
  rw [List.getElem?_map,Option.map_eq_some_iff] at hq
  obtain⟨y,hy,rfl⟩:=hq
  exact HSP.out.2.2 i y hy
 case stop =>
  rintro pre W _ h _
  exact h.elim
end
end
section
set_option linter.unusedSimpArgs false
section
open Go.RowKit Go.Lib Go.Shelf
structure lH (base lp:Nat) (bs:T9.St) (ms:List T9.Mu) (fr:Nat) (W:World):Prop where
 line:∃ A c qs,lK base lp fr A c qs W∧fr+qs.length=ms.length+1∧0<qs.length∧∀ (j:Nat) (q:aW),qs[j]?=some q→q.st=T9.cK bs (ms.take (fr+j))
 low:base≤lp
section
variable {base lp fr : Nat} {bs : T9.St} {ms : List T9.Mu} {W W' : World}
theorem lH.bH {B:Nat} {ts:List TypeId} (h:lH base lp bs ms fr W) (hT:aN B ts W W') (h1:80 ∉ ts) (h2:25 ∉ ts) (h3:71 ∉ ts) (h4:74 ∉ ts) (h5:9 ∉ ts):lH base lp bs ms fr W':=by
 obtain⟨A,c,qs,a,b⟩:=h.line
 exact⟨⟨A,c,qs,a.bH hT h1 h2 h3 h4 h5,b⟩,h.low⟩
theorem lH.stay (h:lH base lp bs ms fr W) (hb:Below W.heap.size W W'):lH base lp bs ms fr W':=h.bH (aN.of_below hb (Nat.le_refl _) []) (by simp) (by simp) (by simp) (by simp) (by simp)
theorem lH.len (h:lH base lp bs ms fr W) (hs:ms.length≤100000):Calls prog 13 #[.pointer (some ⟨lp,0,none⟩)] W fun e w'=>e=.returned (.int .i64 (ms.length:Int))∧∃ j,w'=W.drewN j:=by
 obtain⟨A,c,qs,a,b,d,_⟩:=h.line
 exact Ct a.cells.1 a.cells.2 d b (Nat.le_trans hs (by decide))
def uO (base lp:Nat) (bs:T9.St) (ms:List T9.Mu) (fr:Nat) (t:Int) (b:Bool) (w:World) (e:Ending) (w':World):Prop:=∃ fr':Nat,e=.returned (.bool b)∧lH base lp bs ms fr' w'∧aN base [80] w w'∧(b=true→(fr':Int)=t)∧(b=false→fr'=fr)
theorem lH.trim {t:Int} {b:Bool} (h:lH base lp bs ms fr W) (hs:ms.length≤100000) (hb:b=decide ((fr:Int)≤t∧t≤(ms.length:Int))):Calls prog 14 #[.pointer (some ⟨lp,0,none⟩),.int .i64 t] W (uO base lp bs ms fr t b W):=by
 obtain⟨A,c,qs,a,hk,hp,hst⟩:=h.line
 by_cases ht:(fr:Int)≤t∧t≤(ms.length:Int)
 ·rw [decide_eq_true ht] at hb
  subst hb
  obtain⟨i,hi⟩:∃ i:Nat,t=((fr+i:Nat):Int):=⟨(t - fr).toNat,by omega⟩
  refine (BK a h.low hk hs hi (by omega)).mono ?_
  rintro e w' ⟨A',c',rfl,hl,hT⟩
  exact⟨fr+i,rfl,⟨⟨A',c',_,hl,by rw [List.length_drop];omega,by rw [List.length_drop];omega,fun j q hq=>by
   rw [List.getElem?_drop] at hq
   have:=hst (i+j) q hq
   rwa [← Nat.add_assoc] at this⟩,h.low⟩,hT,fun _=>hi.symm,fun q=>by cases q⟩
 ·rw [decide_eq_false ht] at hb
  subst hb
  refine (EM a.cells.1 a.cells.2 hp hk (Nat.le_trans hs (by decide)) ht).mono ?_
  rintro e w' ⟨rfl,j,rfl⟩
  have hT:aN base [80] W (W.drewN j):=(aN.refl _ _ W).drewN j
  exact⟨fr,rfl,h.bH ((aN.refl base [] W).drewN j) (by simp) (by simp) (by simp) (by simp) (by simp),hT,fun q=>(by cases q),fun _=>rfl⟩
theorem lH.at_in {t:Int} {i:Nat} (h:lH base lp bs ms fr W) (hs:ms.length≤100000) (hd:T9.fV bs) (km:∀ m∈ms,m.ok) (ht:(fr:Int)≤t) (hi:t=(i:Int)) (hu:i≤ms.length):Calls prog 15 #[.pointer (some ⟨lp,0,none⟩),.int .i64 t] W (kU true (T9.cK bs (ms.take i)) W):=by
 obtain⟨A,c,qs,a,hk,hp,hst⟩:=h.line
 obtain⟨j,rfl⟩:∃ j,i=fr+j:=⟨i - fr,by omega⟩
 exact FM a hk (Nat.le_trans hs (by decide)) hi (by omega) (fun q hq=>by
  obtain⟨x,hx⟩:=List.getElem?_of_mem hq
  rw [hst x q hx]
  exact T9.iP hd (fun m hm=>km m (List.mem_of_mem_take hm))) (fun q hq=>hst j q hq)
theorem lH.FO {t:Int} (h:lH base lp bs ms fr W) (hs:ms.length≤100000) (ht:¬ ((fr:Int)≤t∧t≤(ms.length:Int))):Calls prog 15 #[.pointer (some ⟨lp,0,none⟩),.int .i64 t] W (kU false ⟨[],[]⟩ W):=by
 obtain⟨A,c,qs,a,hk,hp,_⟩:=h.line
 exact at14_no a.cells.1 a.cells.2 hp hk (Nat.le_trans hs (by decide)) ht
end
theorem last14 {q0:aW} {rs:List aW} {bs:T9.St} {a:List T9.Mu} (h0:q0.st=bs) (hl:rs.length=a.length) (hs:∀ (i:Nat) (q:aW),rs[i]?=some q→q.st=T9.cK bs (a.take (i+1))):∀ q,([q0]++rs)[([q0]++rs).length - 1]?=some q→q.st=T9.cK bs a:=fun q hq=>by
 rw [List.length_append,List.length_singleton] at hq
 rcases Nat.eq_zero_or_pos rs.length with h | h
 ·have e1:rs=[]:=List.eq_nil_of_length_eq_zero h
  have e2:a=[]:=List.eq_nil_of_length_eq_zero (by omega)
  subst e1 e2
  simp at hq
  subst hq
  exact h0
 ·rw [List.getElem?_append_right (by simp;omega)] at hq
  have:=hs _ q hq
  rw [this,List.length_singleton,show 1+rs.length - 1 - 1+1=a.length by omega,List.take_length]
theorem line14 {base lp:Nat} {A:Option Addr} {c:Nat} {q0:aW} {rs ss:List aW} {bs:T9.St} {a b:List T9.Mu} {W:World} (hL:lK base lp 0 A c (([q0]++rs)++ss) W) (hb:base≤lp) (h0:q0.st=bs) (hl:rs.length=a.length) (hs:∀ (i:Nat) (q:aW),rs[i]?=some q→q.st=T9.cK bs (a.take (i+1))) (hl2:ss.length=b.length) (hs2:∀ (i:Nat) (q:aW),ss[i]?=some q→q.st=T9.cK (T9.cK bs a) (b.take (i+1))):lH base lp bs (a++b) 0 W:=by
 refine⟨⟨A,c,_,hL,by simp [hl,hl2] <;> omega,by simp <;> omega,fun j q hq=>?_⟩,hb⟩
 rw [Nat.zero_add]
 by_cases h1:j<1
 ·obtain rfl:j=0:=by omega
  simp at hq
  subst hq
  exact h0
 by_cases h2:j<1+rs.length
 ·rw [List.getElem?_append_left (by simp;omega),List.getElem?_append_right (by simp;omega)] at hq
  have:=hs _ q hq
  rw [this,List.length_singleton,show j - 1+1=j by omega,List.take_append_of_le_length (by omega)]
 ·rw [List.getElem?_append_right (by simp;omega)] at hq
  have:=hs2 _ q hq
  rw [this,← T9.sG,List.length_append,List.length_singleton,List.take_append,List.take_of_length_le (show a.length≤j by omega),show j - (1+rs.length)+1=j - a.length by omega]
theorem IL.take14l {w:World} {A:Option Addr} {xs:List It} (h:IL w A xs) (k:Nat):IL w A (xs.take k):=by
 have e:eH xs=eH (xs.take k)++eH (xs.drop k):=by rw [← qJ,List.take_append_drop]
 intro hx
 obtain⟨ad,e1,h1,h2⟩:=h (by rw [e];intro q;exact hx (List.append_eq_nil_iff.1 q).1)
 refine⟨ad,e1,h1,fun j u hj=>h2 j u ?_⟩
 obtain⟨hlt,_⟩:=List.getElem?_eq_some_iff.1 hj
 rw [e,List.getElem?_append_left hlt]
 exact hj
theorem T9.fE:T9.fV ⟨[],[]⟩:=⟨by decide,by simp [T9.St.ok]⟩
theorem yo {s:aW} {A1 A2 A3:Option Addr} {n1 c1 n2 c2 n3 c3:Nat} {xs ys:List It} {ts:List Int} {at':Int} {w:World} (hs:SM s w) (ho:s.st.ok) (fs:s.far) (h:IL w A1 xs) (hn:n1=xs.length) (hc:n1≤maxLen) (ko:∀ x∈xs,x.ok) (h':IL w A2 ys) (hm:n2=ys.length) (hc':n2≤maxLen) (ko':∀ x∈ys,x.ok)
  (ht:au w w.heap.size 0 A3 (ts.map encZ)) (htn:n3=ts.length) (htc:n3≤maxLen) :
  Calls prog 3 #[s.val,.slice A1 n1 c1,.slice A2 n2 c2,.slice A3 n3 c3,.int .i64 at'] w fun e w'=>e=.returned (.bool true)∧Below w.heap.size w w':=by
 obtain⟨u0,hu0⟩:∃ u,w.alloc (.cells #[.slice s.A s.ls.length s.c,.slice s.A2 s.ms.length s.c2] 25)=u:=⟨_,rfl⟩
 obtain⟨pb,b0,z0⟩:=ak hu0
 have B0:=hid b0
 have GS:=hid pb
 have SS:=hid (hs.stay b0)
 have IX:=hid (h.stay b0)
 have IY:=hid (h'.stay b0)
 have TS:=hid (au.stay ht b0)
 have HN:=hid hn
 have HM:=hid hm
 have HT:=hid htn
 have HCn:=hid hc
 have HCm:=hid hc'
 have KO:=hid ko
 have KP:=hid ko'
 have OS:=hid ho
 have FS:=hid fs
 have AW:=hid (Dp allF u0)
 have h3:n3≤9223372036854775807:=by unfold maxLen at htc;omega
 unfold aW.val
 clear hs ho fs h hn hc ko h' hm hc' ko' ht htn htc pb b0
 go_enter func3,ntmps3
 go_wp2_with fail
 refine AW.out.mono ?_
 rintro e v0 ⟨rfl,h0⟩
 have H0:=hid h0
 obtain⟨x0,x1⟩:=aa (ae GS.out h0)
 have LS:=hid (Hr (c:=s.c) (c2:=s.c2) (SS.out.stay h0).l (SS.out.stay h0).k rfl rfl FS.out)
 clear h0 AW
 go_wp2_with fail
 refine LS.out.mono ?_
 rintro e v1 ⟨bb,rfl,hbb,h1⟩
 have H1:Hid (Below u0.heap.size u0 v1):=hid (H0.out.trans (h1.mono H0.out.size))
 clear h1 x0 x1 LS
 cases bb with
 | false =>
  clear hbb
  go_wp2_with fail
  go_ret
  exact⟨rfl,B0.out.trans (H1.out.mono B0.out.size)⟩
 | true =>
 have LT:=hid (hbb rfl)
 have FW:=hid (Ci (c:=c1) (IX.out.stay H1.out) HN.out HCn.out)
 clear hbb
 go_wp2_with fail
 refine FW.out.mono ?_
 rintro e v2 ⟨bb,rfl,hbb,h2⟩
 have H2:Hid (Below u0.heap.size u0 v2):=hid (H1.out.trans (h2.mono H1.out.size))
 clear h2 FW
 cases bb with
 | false =>
  clear hbb
  go_wp2_with fail
  go_ret
  exact⟨rfl,B0.out.trans (H2.out.mono B0.out.size)⟩
 | true =>
 have FT:=hid (hbb rfl)
 have FW:=hid (Ci (c:=c2) (IY.out.stay H2.out) HM.out HCm.out)
 clear hbb
 go_wp2_with fail
 refine FW.out.mono ?_
 rintro e v3 ⟨bb,rfl,hbb,h2⟩
 have H3:Hid (Below u0.heap.size u0 v3):=hid (H2.out.trans (h2.mono H2.out.size))
 clear h2 FW
 cases bb with
 | false =>
  clear hbb
  go_wp2_with fail
  go_ret
  exact⟨rfl,B0.out.trans (H3.out.mono B0.out.size)⟩
 | true =>
 have FU:=hid (hbb rfl)
 clear hbb
 by_cases h6:6<n3
 ·have h6z:(6:Int)<(n3:Int):=by omega
  go_wp2_with fail
  go_ret
  exact⟨rfl,B0.out.trans (H3.out.mono B0.out.size)⟩
 have h6z:¬ (6:Int)<(n3:Int):=by omega
 have FI:Hid (lJ s):=hid (lJ.qM LT.out OS.out)
 have KM:Hid (∀ x∈xs,x.m.ok∧x.m.text.length≤200):=hid (fun x hx=>⟨KO.out x hx,FT.out.2 x hx⟩)
 have KL':Hid (∀ x∈ys,x.m.ok∧x.m.text.length≤200):=hid (fun x hx=>⟨KP.out x hx,FU.out.2 x hx⟩)
 have KB:Hid (∀ x∈xs++ys,x.m.ok∧x.m.text.length≤200):=hid (fun x hx=>(List.mem_append.1 hx).elim (KM.out x) (KL'.out x))
 have nb:n1≤30:=FT.out.1
 have mb:n2≤30:=FU.out.1
 obtain⟨k,hk⟩:∃ k,n1+n2=k:=⟨_,rfl⟩
 have HK:=hid hk
 have kb:k≤60:=by omega
 obtain⟨bs,hbs⟩:∃ r,T9.dO s.st=r:=⟨_,rfl⟩
 have BS:Hid (T9.fV bs):=hid (by rw [← hbs];exact T9.kH OS.out)
 obtain⟨ms,hms⟩:∃ r,dx (xs++ys)=r:=⟨_,rfl⟩
 have ML:Hid (ms.length=k):=hid (by rw [← hms,ic,List.length_append,← HN.out,← HM.out];exact HK.out)
 have MO:Hid (∀ m∈ms,m.ok):=hid (by rw [← hms];exact vk (fun x hx=>(KB.out x hx).1))
 obtain⟨er,her⟩:∃ r,T9.dJ bs ms=r:=⟨_,rfl⟩
 have EL:Hid (er.length=k):=hid (by rw [← her,T9.ja];exact ML.out)
 have HBS:=hid hbs
 have HMS:=hid hms
 have Jw:=hid her
 obtain⟨x0,x1⟩:=aa (ae GS.out H3.out)
 have NW:=hid (new14_c (SS.out.stay H3.out) FI.out)
 unfold Cc aW.val at NW
 rw [hbs] at NW
 clear hk hbs hms her h6
 go_wp2_with fail
 refine NW.out.mono ?_
 rintro e v4 ⟨lp,A0,c0,q0,rfl,hL,hq0,hlp,h4⟩
 have H4:=hid h4
 have L4:=hid hL
 have Q0:=hid hq0
 have LPB:=hid hlp
 obtain⟨i0,hi,EX,EY,EZ⟩:=info_parts Tryz.infoI14
 have U4:Hid (Below u0.heap.size u0 v4):=hid (H3.out.trans (h4.mono H3.out.size))
 have IX4:=hid (IX.out.stay U4.out)
 clear hL hq0 hlp h4 x0 x1 NW
 have IY4:=hid (IY.out.stay U4.out)
 go_wp2_with (at_builtin;refine bE _ rfl _ _ 26 rfl v4.heap.size 67 i0 _ 8 72 underlying26 hi EX EY EZ rfl (by decide) _ 0 [] rfl (World.ownsRow_nil _ _ _ _) v4.heap.size A1 n1 c1 (eH xs) 0 rfl (by rw [ma];rw [← HN.out]) IX4.out (qK _) (by unfold maxLen;omega) (by omega) (Nat.le_refl _) ?_)
 intro v6 ua hown6 aM ed
 obtain⟨A6,c6,rfl⟩:=aA hown6
 have S1:Hid (Below v4.heap.size v4 ua):=hid ((Below.refl _ v4).grown aM (Nat.le_refl _) (fun k e=>by cases e))
 have OW:=hid hown6
 clear hown6 aM ed
 go_wp2_with (at_builtin;refine bE _ rfl _ _ 26 rfl v4.heap.size 67 i0 _ 8 72 underlying26 hi EX EY EZ rfl (by decide) _ n1 (eH xs) rfl OW.out v4.heap.size A2 n2 c2 (eH ys) 0 rfl (by rw [ma];rw [← HM.out]) (IY4.out.below (Nat.le_refl _) S1.out) (qK _) (by unfold maxLen;omega) (by omega) S1.out.size ?_)
 intro v6 ub hown6 aM ed
 rw [← qJ,HK.out] at hown6
 obtain⟨A7,c7,rfl⟩:=aA hown6
 have S2:Hid (Below v4.heap.size v4 ub):=hid (S1.out.grown aM S1.out.size (fun k e=>(OW.out.lt k e).1))
 have OV:=hid hown6
 have U5:Hid (Below u0.heap.size u0 ub):=hid (U4.out.trans (S2.out.mono U4.out.size))
 have CA:=hid (vw (c:=c7) (SS.out.stay U5.out) FI.out (show IL ub A7 (xs++ys) from (aG (B:=0) OV.out).old) (n:=k) (by rw [List.length_append,← HN.out,← HM.out];exact HK.out.symm) (by omega) KB.out)
 unfold uK aW.val at CA
 rw [HBS.out,HMS.out,Jw.out,ML.out] at CA
 obtain⟨x0,x1⟩:=aa (ae GS.out U5.out)
 clear hown6 aM ed OW i0 hi EX EY EZ
 go_wp2_with fail
 refine CA.out.mono ?_
 rintro e v6 ⟨q,A5,c5,rfl,hq,mO,how,h6⟩
 obtain⟨v7,hv7⟩:∃ u,v6.alloc (.cells #[.slice q.A q.ls.length q.c,.slice q.A2 q.ms.length q.c2] 25)=u:=⟨_,rfl⟩
 obtain⟨qb,b7,_⟩:=ak hv7
 have B7:Hid (Below v4.heap.size v4 v7):=hid (S2.out.trans ((h6.trans (b7.mono h6.size)).mono S2.out.size))
 have C7:Hid (Below v3.heap.size v3 v7):=hid (H4.out.trans (B7.out.mono H4.out.size))
 have BAD:=hid (own_below how b7)
 have ALL:=hid (own_below OV.out (h6.trans (b7.mono h6.size)))
 have L7:=hid (L4.out.stay B7.out)
 have A1C:=hid (Cf (cI:=c1) L7.out LPB.out (by simp) (by simp) (s:=bs) (fun q hq=>by simp at hq;subst hq;exact Q0.out) BS.out ((IX.out.stay H3.out).below (Nat.le_refl _) C7.out) HN.out (by omega) KM.out)
 unfold vU at A1C
 clear x0 x1 qb b7 hq mO how h6 CA IX4 IY4 L4 OV
 go_wp2_with fail
 refine A1C.out.mono ?_
 rintro e v8 ⟨A8,c8,rs,eA,ec,rfl,hL,hrl,hrs,hor,hT8⟩
 have T8:=hid hT8
 have OR8:=hid hor
 have L8:=hid hL
 have RL:=hid hrl
 have RS:=hid hrs
 have XL:Hid (rs.length=(dx xs).length):=hid (by rw [hrl,ic];exact HN.out)
 have C8:Hid (Below v3.heap.size v3 v8):=hid (C7.out.trans hT8.below)
 have FS1:Hid (T9.fV (T9.cK bs (dx xs))):=hid (T9.iP BS.out (vk (fun x hx=>(KM.out x hx).1)))
 have A2C:=hid (Cf (cI:=c2) L8.out LPB.out (by simp) (by simp;have:=FT.out.1;omega) (last14 Q0.out XL.out RS.out) FS1.out ((IY.out.stay H3.out).below (Nat.le_refl _) C8.out) HM.out (by omega) KL'.out)
 unfold vU at A2C
 clear hL hrl hrs hor hT8 A1C
 go_wp2_with fail
 refine A2C.out.mono ?_
 rintro e v9 ⟨A9,c9,ss,fA,fc,rfl,hL,hrl,hrs,hor,hT9⟩
 obtain⟨i0,hi,EX,EY,EZ⟩:=info_parts Tryz.infoE14
 have OR9:=hid hor
 have L9:=hid hL
 have YL:Hid (ss.length=(dx ys).length):=hid (by rw [hrl,ic];exact HM.out)
 have FL9:Hid (lH v3.heap.size lp bs ms 0 v9):=hid (by rw [← HMS.out,yS];exact line14 L9.out LPB.out Q0.out XL.out RS.out YL.out hrs)
 have T9':Hid (aN v3.heap.size [80,25] v7 v9):=hid (T8.out.trans hT9)
 have OE9:=hid (bP OR8.out hT9 (by decide))
 have EE:Hid (T9.dJ bs (dx xs)++T9.dJ (T9.cK bs (dx xs)) (dx ys)=er):=hid (by rw [← T9.sF,← yS,HMS.out,Jw.out])
 have Z9:Hid (v7.heap.size≤v9.heap.size):=hid T9'.out.size
 clear hL hrl hrs hor hT9 A2C
 go_wp2_with (at_builtin;refine bE _ rfl _ _ 36 rfl v7.heap.size 50 i0 _ 1 8 underlying36 hi EX EY EZ rfl (by decide) _ n1 _ rfl OE9.out 0 fA n2 fc _ 50 rfl (by rw [List.length_map,T9.ja,ic,← HM.out];omega) (aG OR9.out) (Gq _) (by unfold maxLen;omega) (by omega) Z9.out ?_)
 intro v10 gT hown6 aM ed
 rw [← List.map_append,EE.out,HK.out] at hown6
 have TE:Hid (aN v3.heap.size [50] v9 gT):=hid (dP OE9.out aM C7.out.size (Nat.le_trans C7.out.size Z9.out) (by simp))
 obtain⟨Ae,ce,rfl⟩:=aA hown6
 have FL10:=hid (FL9.out.bH TE.out (by decide) (by decide) (by decide) (by decide) (by decide))
 have BD10:=hid (bP (bP BAD.out T9'.out (by decide)) TE.out (by decide))
 have AL10:=hid (bP (bP ALL.out T9'.out (by decide)) TE.out (by decide))
 have U10:Hid (Below u0.heap.size u0 gT):=hid ((H3.out.trans (C7.out.mono H3.out.size)).trans ((T9'.out.below.trans TE.out.below).mono H3.out.size))
 have CE:=hid (xy (c:=ce) (c2:=c5) (n:=k) (aG (B:=0) hown6).old (aG (B:=0) BD10.out).old EL.out.symm (by omega))
 clear hown6 aM ed i0 hi EX EY EZ OE9 OR9 OR8 L9 L8 L7 BAD ALL FL9 BD10
 go_wp2_with fail
 refine CE.out.mono ?_
 rintro e j4 ⟨rfl,j,hj⟩
 have T11:Hid (aN v3.heap.size [] gT j4):=hid (by rw [hj];exact (aN.refl _ _ _).drewN j)
 have LE:=hid ((FL10.out.bH T11.out (by simp) (by simp) (by simp) (by simp) (by simp)).len (by rw [ML.out];omega))
 rw [ML.out] at LE
 have kk:((k:Int) != (k:Int))=false:=by simp
 clear hj CE
 go_wp2_with fail
 refine LE.out.mono ?_
 rintro e wL ⟨rfl,j,hj⟩
 have T12:Hid (aN v3.heap.size [] gT wL):=hid (T11.out.trans (by rw [hj];exact (aN.refl _ _ _).drewN j))
 have FLL:=hid (FL10.out.bH T12.out (by simp) (by simp) (by simp) (by simp) (by simp))
 have ALL:=hid (bP AL10.out T12.out (by simp))
 have UL:Hid (Below u0.heap.size u0 wL):=hid (U10.out.trans (T12.out.below.mono H3.out.size))
 clear hj LE T11 FL10 AL10 U10
 go_wp2_with fail
 clear kk h6z
 have WLV:Hid (v3.heap.size≤wL.heap.size):=hid (Nat.le_trans C7.out.size (Nat.le_trans Z9.out (Nat.le_trans TE.out.size T12.out.size)))
 have hkc:k≤c7:=(aO ALL.out).2
 have hbl:=jQ
 go_loopw [15,76] (fun s15 s76 wr=>∃ fr i:Nat,s15=.int .i64 fr∧s76=.int .i64 i∧i≤n3∧Hid (lH v3.heap.size lp bs ms fr wr)∧Hid (aN v3.heap.size [80,25] wL wr)) (fun _ s76 _=>n3 - (intOf s76).toNat)
 case atStart=>exact⟨0,0,rfl,rfl,Nat.zero_le _,FLL,hid (aN.refl _ _ _)⟩
 case round =>
  obtain⟨fr,i,rfl,rfl,hi,FR,TR⟩:=hrel
  have UR:Hid (Below u0.heap.size u0 wr):=hid (UL.out.trans (TR.out.below.mono H3.out.size))
  by_cases hlt:i<n3
  ·have hltz:(i:Int)<(n3:Int):=by omega
   have i0z:0≤(i:Int):=by omega
   obtain⟨ad,z,hA3,hz,cz⟩:=qj (TS.out.stay UR.out) (k:=i) (by rw [← HT.out];exact hlt)
   subst hA3
   clear hz
   go_upto_region 14 with fail
   clear cz
   go_cut [18] from 77 to 143 (fun s18 wx=>∃ b:Bool,s18=.bool b∧Hid (b=decide ((fr:Int)≤z∧z≤(k:Int)))∧wr=wx)
   case first =>
    by_cases h1:(fr:Int)≤z
    ·have d1:decide ((fr:Int)≤z)=true:=decide_eq_true h1
     by_cases h2:z≤(k:Int)
     ·have d2:decide (z≤(k:Int))=true:=decide_eq_true h2
      go_wp2
      go_meet
      exact⟨true,rfl,hid (decide_eq_true ⟨h1,h2⟩).symm,rfl⟩
     ·have d2:decide (z≤(k:Int))=false:=decide_eq_false h2
      go_wp2
      go_meet
      exact⟨false,by simp [d2,h2],hid (decide_eq_false (by omega)).symm,rfl⟩
    ·have d1:decide ((fr:Int)≤z)=false:=decide_eq_false h1
     go_wp2
     go_meet
     exact⟨false,by simp [d1,h1],hid (decide_eq_false (by omega)).symm,rfl⟩
   case rest =>
   obtain⟨b,rfl,HB,hw⟩:=hcut
   subst hw
   have TM:=hid (FR.out.trim (t:=z) (b:=b) (by rw [ML.out];omega) (by rw [ML.out];exact HB.out))
   unfold uO at TM
   have bb:(b != b)=false:=by cases b <;> rfl
   go_wp2_with fail
   refine TM.out.mono ?_
   rintro e wa ⟨fr',rfl,hF,hT,hy,hn⟩
   have FA:=hid hF
   have TA:Hid (aN v3.heap.size [80,25] wL wa):=hid (TR.out.trans (hT.more (by simp)))
   have UA:Hid (Below u0.heap.size u0 wa):=hid (UL.out.trans (TA.out.below.mono H3.out.size))
   have HY:=hid hy
   have HNO:=hid hn
   clear hF hT hy hn TM HB
   go_upto_if 94 with fail
   go_cut [15] from 77 to 143 (fun s15 wx=>s15=.int .i64 (fr':Int)∧wa=wx)
   case first =>
    cases b with
    | true =>
     have e:=hid (HY.out rfl)
     clear HY HNO bb
     go_wp2
     go_meet
     exact⟨by rw [e.out],rfl⟩
    | false =>
     obtain rfl:=HNO.out rfl
     clear HY HNO bb
     go_wp2
     go_meet
     exact⟨rfl,rfl⟩
   case rest =>
   obtain⟨rfl,hw⟩:=hcut
   subst hw
   clear HY HNO bb TR UR FR
   by_cases ha:(fr':Int)≤at'
   ·by_cases hb:at'≤(k:Int)
    ·obtain⟨a,ea⟩:∃ a:Nat,at'=a:=⟨at'.toNat,by omega⟩
     subst ea
     have hak:a≤k:=by omega
     have q0:0≤(a:Int):=by omega
     have q1:(a:Int)≤(c7:Int):=by omega
     have AT:=hid (FA.out.at_in (t:=(a:Int)) (i:=a) (by rw [ML.out];omega) BS.out MO.out ha rfl (by rw [ML.out];exact hak))
     unfold kU aW.val at AT
     obtain⟨so,hso⟩:∃ r,T9.cK bs (ms.take a)=r:=⟨_,rfl⟩
     have SO:Hid (T9.fV so):=hid (by rw [← hso];exact T9.iP BS.out (fun m hm=>MO.out m (List.mem_of_mem_take hm)))
     have HSO:=hid hso
     rw [hso] at AT
     clear hso
     have d1:decide ((fr':Int)≤(a:Int))=true:=decide_eq_true ha
     have d2:decide ((a:Int)≤(k:Int))=true:=decide_eq_true hb
     go_wp2_with fail
     refine AT.out.mono ?_
     rintro e wb ⟨q,rfl,hq,mO,hb1⟩
     obtain⟨wo,hwo⟩:∃ u,wb.alloc (.cells #[.slice q.A q.ls.length q.c,.slice q.A2 q.ms.length q.c2] 25)=u:=⟨_,rfl⟩
     obtain⟨yb,bc,zc⟩:=ak hwo
     obtain⟨wp,hwp⟩:∃ u,wo.alloc (.cells #[.slice none 0 0,.slice none 0 0] 25)=u:=⟨_,rfl⟩
     obtain⟨gb,bd,zd⟩:=ak hwp
     have QD:=hid ((hq.stay bc).stay bd)
     have QS:=hid mO
     have YD:=hid (ae yb bd)
     have GD:=hid gb
     have BD:Hid (Below wa.heap.size wa wp):=hid ((hb1.trans (bc.mono hb1.size)).trans (bd.mono (Nat.le_trans hb1.size bc.size)))
     have ZC:Hid (wb.heap.size<wo.heap.size∧wa.heap.size≤wb.heap.size):=hid ⟨by omega,hb1.size⟩
     have HWD:=hid hwp
     clear hq mO hb1 yb bc zc gb bd zd AT hwp
     go_upto_region 22 with fail
     rw [HWD.out]
     go_cut [] from 77 to 143 (fun wx=>∃ q9:aW,Hid (wx.heap[wo.heap.size]?=some (.cells #[.slice q9.A q9.ls.length q9.c,.slice q9.A2 q9.ms.length q9.c2] 25 (0,0))∧j_ q9 wx∧q9.st=so∧wx.heap[wb.heap.size]?=some (.cells #[.slice q.A q.ls.length q.c,.slice q.A2 q.ms.length q.c2] 25 (0,0))∧j_ q wx∧Below wa.heap.size wa wx))
     case first =>
      have G5:=hid (ae GS.out UA.out)
      refine wp_region_held_drew (S:=fun u=>Below wa.heap.size wa u) (by kernel_rfl) (BD.out.drew) (fun S0=>?_)
      have D0:Below wp.heap.size wp wp.drew:=(Below.refl wp.heap.size wp).drew
      generalize wp.drew=we at S0 D0 ⊢
      have HD:=hid D0
      clear D0
      refine aK 0 ?_ rfl (by kernel_rfl) rfl ?_ S0 ?_
      rotate_left
      ·intro u hu;obtain⟨c0,c1⟩:=aa (ae G5.out hu);go_simp;try rfl
      try simp only [Act.put,pS]
      refine aK 1 ?_ rfl (by kernel_rfl) rfl ?_ S0 ?_
      rotate_left
      ·intro u hu;skip;go_simp;try rfl
      try simp only [Act.put,pS]
      refine aK 2 ?_ rfl (by kernel_rfl) rfl ?_ S0 ?_
      rotate_left
      ·intro u hu;skip;go_simp;try rfl
      try simp only [Act.put,pS]
      refine aK 3 ?_ rfl (by kernel_rfl) rfl ?_ S0 ?_
      rotate_left
      ·intro u hu;skip;go_simp;try rfl
      try simp only [Act.put,pS]
      refine ax (i:=4) (by kernel_rfl) rfl (fun K hK=>?_)
      go_simp
      have UE:Below u0.heap.size u0 we:=UA.out.trans (S0.mono UA.out.size)
      have CC:=vw (s:=s) (A:=A7) (n:=a) (c:=c7) (xs:=(xs++ys).take a) (w:=we) (SS.out.stay UE) FI.out (IL.take14l (show IL we A7 (xs++ys) from (aG (B:=0) (own_below (bP ALL.out TA.out (by decide)) S0)).old) a) (by have:=HK.out;have:=HN.out;have:=HM.out;rw [List.length_take,List.length_append];omega) (by omega) (fun x hx=>KB.out x (List.mem_of_mem_take hx))
      unfold uK aW.val at CC
      rw [Eh,HMS.out,HBS.out,HSO.out] at CC
      obtain⟨lz,hlz⟩:∃ r,(ms.take a).length=r:=⟨_,rfl⟩
      rw [hlz] at CC
      refine CC.mono ?_
      rintro e uc ⟨q9,A9',c9',rfl,hq9,hqs9,_,hv⟩
      have S1:=S0.trans (hv.mono S0.size)
      have E1:Below wp.heap.size wp uc:=HD.out.trans (hv.mono HD.out.size)
      have Q9:=hid hq9
      have QS9:=hid hqs9
      have GE:=hid (ae GD.out E1)
      have YE:=hid (ae YD.out E1)
      have QE:=hid (QD.out.stay E1)
      clear hq9 hqs9 hv CC HD E1 hlz UE
      refine hK _ _ S1 ?_
      clear hK K S0
      have S0:=S1
      clear S1
      try simp only [Act.put,pS]
      refine aK 5 ?_ rfl (by kernel_rfl) rfl ?_ S0 ?_
      rotate_left
      ·intro u hu;skip;go_simp;try rfl
      try simp only [Act.put,pS]
      refine aK 6 ?_ rfl (by kernel_rfl) rfl ?_ S0 ?_
      rotate_left
      ·intro u hu;skip;go_simp;try rfl
      try simp only [Act.put,pS]
      refine aK 7 ?_ rfl (by kernel_rfl) rfl ?_ S0 ?_
      rotate_left
      ·intro u hu;skip;go_simp;try rfl
      try simp only [Act.put,pS]
      refine ax (i:=8) (by kernel_rfl) rfl (fun K hK=>?_)
      obtain⟨g0,g1⟩:=aa GE.out
      have DW:=af GE.out 0
      have DY:=af GE.out 1
      go_simp
      obtain⟨vz,nE⟩:∃ u,(uc.setCell ⟨wo.heap.size,0,none⟩ (.slice q9.A q9.ls.length q9.c)).setCell ⟨wo.heap.size,1,none⟩ (.slice q9.A2 q9.ms.length q9.c2)=u:=⟨_,rfl⟩
      try rw [nE]
      have Y:Ty uc wo.heap.size 25:=⟨_,_,GE.out⟩
      have GW:wa.heap.size≤wo.heap.size:=by have:=ZC.out;omega
      have tz:aN wa.heap.size [25] uc vz:=by
       rw [← nE]
       exact ((aN.refl _ _ uc).aC (p:=⟨wo.heap.size,0,none⟩) Y (by simp) GW _).aC (p:=⟨wo.heap.size,1,none⟩) (Y.set _ _) (by simp) GW _
      have S1:Below wa.heap.size wa vz:=S0.trans tz.below
      have QZ:=hid (Q9.out.bH tz (by decide) (by decide) (by decide))
      have QY:=hid (QE.out.bH tz (by decide) (by decide) (by decide))
      have GZ:Hid (vz.heap[wo.heap.size]?=some (.cells #[.slice q9.A q9.ls.length q9.c,.slice q9.A2 q9.ms.length q9.c2] 25 (0,0))):=hid (by rw [← nE];exact ah (ah GE.out 0 _) 1 _)
      have YZ:Hid (vz.heap[wb.heap.size]?=some (.cells #[.slice q.A q.ls.length q.c,.slice q.A2 q.ms.length q.c2] 25 (0,0))):=hid (by
       have:=ZC.out
       rw [← nE]
       exact ((Below.heap_setCell _ _ _ _ (by show _≠wo.heap.size;omega)).trans (Below.heap_setCell _ _ _ _ (by show _≠wo.heap.size;omega))).trans YE.out)
      clear g0 g1 DW DY tz nE Y
      refine hK _ _ S1 ?_
      clear hK K S0
      have S0:=S1
      clear S1
      try simp only [Act.put,pS]
      refine wpAnyH_done (by kernel_rfl) ?_ _
      go_wp2
      go_meet
      exact⟨q9,hid ⟨GZ.out,QZ.out,QS9.out,YZ.out,QY.out,S0⟩⟩
     case rest =>
     obtain⟨q9,HH⟩:=hcut
     obtain⟨wx,hwx⟩:∃ u,u=wc:=⟨_,rfl⟩
     subst wc
     have GX:=hid HH.out.1
     have PX:=hid HH.out.2.1
     have PS:=hid HH.out.2.2.1
     have YX:=hid HH.out.2.2.2.1
     have QX:=hid HH.out.2.2.2.2.1
     have BX:=hid HH.out.2.2.2.2.2
     clear HH hwo
     have CS:=hid (mE QX.out.sm PX.out.sm (by rw [QS.out];exact SO.out.short) (by rw [PS.out];exact SO.out.short) (by rw [QS.out];exact SO.out.2) (by rw [PS.out];exact SO.out.2))
     rw [QS.out,PS.out,T9.qy] at CS
     unfold aW.val at CS
     obtain⟨x0,x1⟩:=aa YX.out
     obtain⟨y0,y1⟩:=aa GX.out
     go_wp2_with fail
     refine CS.out.mono ?_
     rintro e wy ⟨rfl,hy⟩
     have BY:Hid (Below wa.heap.size wa wy):=hid (BX.out.trans (hy.mono BX.out.size))
     have LE:=hid ((FA.out.stay BY.out).len (by rw [ML.out];omega))
     rw [ML.out] at LE
     have kk:((k:Int) != (k:Int))=false:=by simp
     clear x0 x1 y0 y1 hy CS
     go_wp2_with fail
     refine LE.out.mono ?_
     rintro e wz ⟨rfl,j9,hj⟩
     have BZ:Hid (Below wa.heap.size wa wz):=hid (by rw [hj];exact g_ BY.out j9)
     clear hj LE
     go_wp2_with fail
     go_roundw
     case rel=>exact⟨fr',i+1,rfl,by go_num,by omega,hid (FA.out.stay BZ.out),hid (TA.out.jU WLV.out (BZ.out.mono TA.out.size))⟩
     case measure=>simp [intOf];omega
    ·have AT:=hid (FA.out.FO (t:=at') (by rw [ML.out];omega) (by rw [ML.out];omega))
     unfold kU aW.val at AT
     have d1:decide ((fr':Int)≤at')=true:=decide_eq_true ha
     have d2:decide (at'≤(k:Int))=false:=decide_eq_false hb
     go_wp2_with fail
     refine AT.out.mono ?_
     rintro e wb ⟨q,rfl,hq,mO,hb1⟩
     obtain⟨wo,hwo⟩:∃ u,wb.alloc (.cells #[.slice q.A q.ls.length q.c,.slice q.A2 q.ms.length q.c2] 25)=u:=⟨_,rfl⟩
     obtain⟨yb,bc,zc⟩:=ak hwo
     obtain⟨wp,hwp⟩:∃ u,wo.alloc (.cells #[.slice none 0 0,.slice none 0 0] 25)=u:=⟨_,rfl⟩
     obtain⟨gb,bd,zd⟩:=ak hwp
     have QD:=hid ((hq.stay bc).stay bd)
     have QS:=hid mO
     have YD:=hid (ae yb bd)
     have GD:=hid gb
     have BD:Hid (Below wa.heap.size wa wp):=hid ((hb1.trans (bc.mono hb1.size)).trans (bd.mono (Nat.le_trans hb1.size bc.size)))
     have ZC:Hid (wb.heap.size<wo.heap.size∧wa.heap.size≤wb.heap.size):=hid ⟨by omega,hb1.size⟩
     have HWD:=hid hwp
     clear hq mO hb1 yb bc zc gb bd zd AT hwp
     have CS:=hid (mE (b:=⟨[],none,0,[],none,0⟩) QD.out.sm j_.pg.sm (by rw [QS.out];exact T9.fE.short) T9.fE.short (by rw [QS.out];exact T9.fE.2) T9.fE.2)
     rw [QS.out,show (⟨[],none,0,[],none,0⟩:aW).st=⟨[],[]⟩ from rfl,T9.qy] at CS
     unfold aW.val at CS
     simp only [List.length_nil] at CS
     have BX:=hid BD.out
     have YX:=hid YD.out
     have GX:=hid GD.out
     obtain⟨x0,x1⟩:=aa YX.out
     obtain⟨y0,y1⟩:=aa GX.out
     rw [← HWD.out] at x0 x1 y0 y1
     go_wp2_with fail
     rw [HWD.out]
     refine CS.out.mono ?_
     rintro e wy ⟨rfl,hy⟩
     have BY:Hid (Below wa.heap.size wa wy):=hid (BX.out.trans (hy.mono BX.out.size))
     have LE:=hid ((FA.out.stay BY.out).len (by rw [ML.out];omega))
     rw [ML.out] at LE
     have kk:((k:Int) != (k:Int))=false:=by simp
     clear x0 x1 y0 y1 hy CS
     go_wp2_with fail
     refine LE.out.mono ?_
     rintro e wz ⟨rfl,j9,hj⟩
     have BZ:Hid (Below wa.heap.size wa wz):=hid (by rw [hj];exact g_ BY.out j9)
     clear hj LE
     go_wp2_with fail
     go_roundw
     case rel=>exact⟨fr',i+1,rfl,by go_num,by omega,hid (FA.out.stay BZ.out),hid (TA.out.jU WLV.out (BZ.out.mono TA.out.size))⟩
     case measure=>simp [intOf];omega
   ·have AT:=hid (FA.out.FO (t:=at') (by rw [ML.out];omega) (by rw [ML.out];omega))
    unfold kU aW.val at AT
    have d1:decide ((fr':Int)≤at')=false:=decide_eq_false ha
    go_wp2_with fail
    refine AT.out.mono ?_
    rintro e wb ⟨q,rfl,hq,mO,hb1⟩
    obtain⟨wo,hwo⟩:∃ u,wb.alloc (.cells #[.slice q.A q.ls.length q.c,.slice q.A2 q.ms.length q.c2] 25)=u:=⟨_,rfl⟩
    obtain⟨yb,bc,zc⟩:=ak hwo
    obtain⟨wp,hwp⟩:∃ u,wo.alloc (.cells #[.slice none 0 0,.slice none 0 0] 25)=u:=⟨_,rfl⟩
    obtain⟨gb,bd,zd⟩:=ak hwp
    have QD:=hid ((hq.stay bc).stay bd)
    have QS:=hid mO
    have YD:=hid (ae yb bd)
    have GD:=hid gb
    have BD:Hid (Below wa.heap.size wa wp):=hid ((hb1.trans (bc.mono hb1.size)).trans (bd.mono (Nat.le_trans hb1.size bc.size)))
    have ZC:Hid (wb.heap.size<wo.heap.size∧wa.heap.size≤wb.heap.size):=hid ⟨by omega,hb1.size⟩
    have HWD:=hid hwp
    clear hq mO hb1 yb bc zc gb bd zd AT hwp
    have CS:=hid (mE (b:=⟨[],none,0,[],none,0⟩) QD.out.sm j_.pg.sm (by rw [QS.out];exact T9.fE.short) T9.fE.short (by rw [QS.out];exact T9.fE.2) T9.fE.2)
    rw [QS.out,show (⟨[],none,0,[],none,0⟩:aW).st=⟨[],[]⟩ from rfl,T9.qy] at CS
    unfold aW.val at CS
    simp only [List.length_nil] at CS
    have BX:=hid BD.out
    have YX:=hid YD.out
    have GX:=hid GD.out
    obtain⟨x0,x1⟩:=aa YX.out
    obtain⟨y0,y1⟩:=aa GX.out
    rw [← HWD.out] at x0 x1 y0 y1
    go_wp2_with fail
    rw [HWD.out]
    refine CS.out.mono ?_
    rintro e wy ⟨rfl,hy⟩
    have BY:Hid (Below wa.heap.size wa wy):=hid (BX.out.trans (hy.mono BX.out.size))
    have LE:=hid ((FA.out.stay BY.out).len (by rw [ML.out];omega))
    rw [ML.out] at LE
    have kk:((k:Int) != (k:Int))=false:=by simp
    clear x0 x1 y0 y1 hy CS
    go_wp2_with fail
    refine LE.out.mono ?_
    rintro e wz ⟨rfl,j9,hj⟩
    have BZ:Hid (Below wa.heap.size wa wz):=hid (by rw [hj];exact g_ BY.out j9)
    clear hj LE
    go_wp2_with fail
    go_roundw
    case rel=>exact⟨fr',i+1,rfl,by go_num,by omega,hid (FA.out.stay BZ.out),hid (TA.out.jU WLV.out (BZ.out.mono TA.out.size))⟩
    case measure=>simp [intOf];omega
  ·obtain rfl:i=n3:=by omega
   have hltz:¬ ((i:Int)<(i:Int)):=by omega
   have UR:Hid (Below u0.heap.size u0 wr):=hid (UL.out.trans (TR.out.below.mono H3.out.size))
   have AT:=hid (FK 0 wr)
   unfold kU aW.val at AT
   clear FR TR
   go_wp2_with fail
   refine AT.out.mono ?_
   rintro e wa ⟨q,rfl,_,_,hb1⟩
   obtain⟨wo,hwo⟩:∃ u,wa.alloc (.cells #[.slice q.A q.ls.length q.c,.slice q.A2 q.ms.length q.c2] 25)=u:=⟨_,rfl⟩
   obtain⟨yb,bc,zc⟩:=ak hwo
   have UO:Hid (Below u0.heap.size u0 wo):=hid (UR.out.trans ((hb1.trans (bc.mono hb1.size)).mono UR.out.size))
   have LE:=hid (Ee wo)
   have TM:=hid (BJ 0 wo)
   have AD:=hid (Dm A1 n1 c1 wo)
   clear hb1 yb bc zc AT
   go_wp2_with fail
   refine LE.out.mono ?_
   rintro e w' ⟨rfl,hw⟩
   subst hw
   go_wp2_with fail
   refine TM.out.mono ?_
   rintro e w' ⟨rfl,hw⟩
   subst hw
   go_wp2_with fail
   refine AD.out.mono ?_
   rintro e w9 ⟨rfl,hb9⟩
   have U9:=hid (UO.out.trans (hb9.mono UO.out.size))
   clear hb9
   go_wp2_with fail
   go_ret
   exact⟨rfl,B0.out.trans (U9.out.mono B0.out.size)⟩
end
end
section
open Go.ChangeShapes Go.WideShapes Go.ChangeAt Go.RowKit
theorem ql (os:Os) (started:os.Started) (H:Type) (enc:TypeId × Value→H) :
  ReturnsInHanded {} Tryz.checked os 3 .any (Rows.foldLinesSpec.pre6 enc prog Tryz.f3 Rows.foldLinesRow.domain false) (Rows.foldLinesSpec.post enc prog Tryz.f3 false true false false):=by
 refine returnsInHanded_of_change (C:=Tryz.checked) Tryz.own2 started (by kernel_rfl) func3
  (ChangeSpec.witness6 (enc:=enc) (C:=Tryz.checked) false ⟨#[],#[.agg #[.slice none 0 0,.slice none 0 0],.slice none 0 0,.slice none 0 0,.slice none 0 0,.int .i64 0],[]⟩ 8 (by kernel_rfl) (by kernel_rfl) (by kernel_rfl) (by kernel_rfl)) ?_
 intro W base args ds gs before hval0 hW hcnd _
 have hval:∀ (j:Nat) t v,Tryz.f3.params[j]?=some t→args[j]?=some v→Value.okWide prog W .any base t v:=hval0
 have hW':=hW
 obtain⟨p,q,hA0,hV,rfl,hfz,hnd⟩:=hW
 have hA:DataW.TrodAll enc prog W 0 (fun _=>true) true Tryz.f3.params.toList args.toList ds p:=hA0
 rw [Tryz.params3] at hA hval
 obtain⟨v0,v1,v2,v3,v4,d0,d1,d2,d3,d4,p0,p1,p2,p3,p4,rfl,rfl,hps,h0,h1,h2,h3,h4⟩:=xH hA
 obtain⟨m0,e0,hs0,ho0,hf0⟩:=yU (hval 0 25 v0 rfl rfl) h0
 subst e0
 obtain⟨A1,c1,xs1,e1,hl1,hi1,ho1,hc1⟩:=pu (hval 1 26 v1 rfl rfl) h1
 subst e1
 obtain⟨A2,c2,xs2,e2,hl2,hi2,ho2,hc2⟩:=pu (hval 2 26 v2 rfl rfl) h2
 subst e2
 obtain⟨A3,c3,ks,e3,hl3,hc3,hL3⟩:=Ep (hval 3 27 v3 rfl rfl) h3
 subst e3
 obtain⟨x4,e4,f4,g4,w4⟩:=open_int underlying3 (hval 4 3 v4 rfl rfl) h4
 subst e4
 refine (yo hs0 ho0 hf0 hi1 rfl (Nat.le_trans hl1 hc1) ho1 hi2 rfl (Nat.le_trans hl2 hc2) ho2 (show au W W.heap.size 0 A3 (ks.map encZ) from hL3) rfl (Nat.le_trans hl3 hc3)).mono fun e W' ⟨he,hw⟩=>?_
 subst he
 refine⟨_,rfl,IE (tb:=4) Tryz.laidOut2 ?_ rfl (by kernel_rfl) underlying4 hW' hw ?_ ?_ ?_⟩
 ·intro t ht
  rw [Tryz.params3] at ht
  simp at ht
  rcases ht with rfl | rfl | rfl | rfl | rfl
  all_goals exact⟨by kernel_rfl,of_decide_eq_true (by kernel_rfl)⟩
 all_goals
  obtain⟨rfl,rfl⟩:=trodVars_none hV
  rfl
theorem foldLines_holds:Rows.FoldLinesSaid :=
 OpenClaim.holds_of_wide 3 Tryz.f3 rfl rfl rfl rfl rfl rfl rfl ⟨rfl,rfl,rfl,rfl,rfl⟩ rfl rfl rfl rfl rfl (by kernel_rfl) func3 (by kernel_rfl)
  (of_decide_eq_true (by kernel_rfl)) (by unfold Func.isWrapper;first | (rw [if_pos (by decide +kernel)];kernel_rfl) | (rw [if_neg (by decide +kernel)];exact⟨rfl,rfl⟩))
  (fun os started H enc _=>ql os started H enc)
end
end Go.Proofs.YtcedlgedmkghgaaGreat
