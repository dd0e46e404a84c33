/- The law FoldEach: the row. Every input,no condition. -/
import Derived.Test.YtdjiiknefhepdaaGreatZ48
import Derived.Test.YtdjiiknefhepdaaGreatZ13
import Derived.Test.YtdjiiknefhepdaaGreatZ50
import Derived.Test.YtdjiiknefhepdaaGreatZ17
import Derived.Test.YtdjiiknefhepdaaGreatZ16
import Derived.ProofKit
namespace Go.Proofs.YtdjiiknefhepdaaGreat
set_option maxHeartbeats 16000000
open Go.Lib Go.Proofs.Tryz
set_option linter.unusedSimpArgs false
set_option maxRecDepth 100000
section
section
open Go.RowKit Go.Lib
variable {F : Fence} {n : Nat} {P : Program} {ops : Array Oper} {Q : Exit → Act → World → Prop} {md : Region.Mode} {S : World → Prop} {st : Nat}
theorem ru {i:Nat} {o:Oper} {v:Value} {a:Act} (hF:∀ f,F.fn f) (hd:gM ops=true) (hi:ops[i]?=some o) (hy:YieldsIf P ops S o v a)
  {K:Act→World→Prop} {w:World} (hS:S w) (h:K (a.put o.dst v) w):wpOpIn F n P ops Q i K a w:=by
 unfold Go.wpOpIn
 simp only [hi]
 rcases hy with⟨hw,hv⟩ | ⟨hw,rfl⟩
 ·simp only [hw,if_true,Oper.wpIn]
  rw [Oper.semAt_eq _ _ _ (jT hd hi)]
  simp only [hv w hS,Oper.uponIn]
  exact⟨fun f _=>hF f,h⟩
 ·simp only [hw,Bool.false_eq_true,if_false]
  exact⟨fun f _=>hF f,h⟩
theorem tN {j:Nat} {oi oj:Oper} {v:Value} (hF:∀ f,F.fn f) (hd:gM ops=true) (hj:ops[j]?=some oj) (hap:oi.apart ops oj=true)
  (hsi:∀ cs b,oi.op≠.select cs b) (hsj:∀ cs b,oj.op≠.select cs b)
  (hQ:∀ c a w,Q (.panic c) (a.put oi.dst v) w→Q (.panic c) a w) {K:Act→World→Prop} {a:Act} {w:World}
  (hy:YieldsIf P ops S oi v a) (h:wpOpIn F n P ops Q j K (a.put oi.dst v) w) :
  wpOpIn F n P ops Q j (fun a' w'=>YieldsIf P ops S oi v a'∧K (a'.put oi.dst v) w') a w:=by
 obtain⟨h1,h2,h3⟩:=Oper.apart_spec hap
 have nd:=jT hd hj
 have keep:∀ (a:Act),YieldsIf P ops S oi v a→∀ u,YieldsIf P ops S oi v (a.put oj.dst u):=fun a hy u =>
  hy.of_same (execOp_put oi hsi a oj.dst u h3) (wanted_put oi a oj.dst u h3)
 have keepD:∀ d,YieldsIf P ops S oi v { a with defers:=d :: a.defers }:=fun d=>hy.of_same rfl rfl
 unfold wpOpIn at *
 simp only [hj] at *
 rw [wanted_put oj a oi.dst v h1] at h
 split
 ·rename_i hw
  simp only [hw,if_true] at h
  unfold Oper.wpIn at *
  refine⟨fun f _=>hF f,?_⟩
  have h:=h.2
  rw [Oper.semAt_eq _ _ _ nd,execOp_put oj hsj a oi.dst v h1] at h
  rw [Oper.semAt_eq _ _ _ nd]
  generalize (execOp a.eval oj).run P w=r at *
  cases r with
  | ok x w' =>
   cases x <;> simp only [Oper.uponIn] at h ⊢
   case value u=>exact⟨keep a hy u,by rw [← Act.put_comm a v u h2];exact h⟩
   case skip=>exact⟨keep a hy _,by rw [← Act.put_comm a v undef h2];exact h⟩
   case defer d =>
    refine⟨keep _ (keepD d) _,?_⟩
    rw [← Act.put_comm _ v undef h2,← Act.put_defers]
    exact h
   case enter f args =>
    refine⟨h.1,CallsIn.mono h.2 fun e w'' he=>?_⟩
    cases e with
    | returned u=>exact⟨keep a hy u,by rw [← Act.put_comm a v u h2];exact he⟩
    | panicked c=>exact hQ _ _ _ he
    | outgrown=>exact he
   case row row args=>exact⟨h.1,RowsIn.mono h.2 fun u w'' he=>⟨keep a hy u,by rw [← Act.put_comm a v u h2];exact he⟩⟩
   case round l f tmps assign body =>
    refine⟨h.1,RoundIn.mono h.2 fun e w'' he=>?_⟩
    cases e with
    | returned u=>exact⟨keep a hy u,by rw [← Act.put_comm a v u h2];exact he⟩
    | panicked c=>exact hQ _ _ _ he
    | outgrown=>exact he
  | halt x w' =>
   cases x <;> simp only [Oper.uponIn] at h ⊢
   case panic u=>exact hQ _ _ _ h
 ·rename_i hw
  simp only [hw] at h
  exact⟨fun f _=>hF f,keep a hy _,by rw [← Act.put_comm a v undef h2];exact h.2⟩
def dW (F:Fence) (n:Nat) (P:Program) (md:Region.Mode) (ops:Array Oper) (Q:Exit→Act→World→Prop) (S:World→Prop) (st:Nat):Nat→Array Bool→Act→World→Prop
 | 0,ls,a,w=>Region.ready md ops ls=[]∧Q .normal a w
 | f+1,ls,a,w=>(Region.ready md ops ls=[]→Q .normal a w)∧∀ j∈Region.ready md ops ls,wpOpIn F n P ops Q j (fun b u=>(ls.getD st true=false→j≠st→S u)∧dW F n P md ops Q S st f (ls.setIfInBounds j true) b u) a w
theorem dW.plain:∀ {f:Nat} {ls:Array Bool} {a:Act} {w:World},dW F n P md ops Q S st f ls a w→wpAnyIn F n P md ops Q f ls a w
 | 0,_,_,_,h=>h
 | _+1,_,_,_,h=>⟨h.1,fun j hj=>wpOpIn_mono (fun _ _ q=>q.2.plain) (h.2 j hj)⟩
theorem dW.first (hF:∀ f,F.fn f) (hd:gM ops=true) {i:Nat} {oi os:Oper} {v:Value} (hi:ops[i]?=some oi) (hsel:Region.noSelect ops=true) (hQ:∀ c a w,Q (.panic c) (a.put oi.dst v) w→Q (.panic c) a w)
  (hs:ops[st]?=some os) (hw:∃ e∈os.after,Region.binds md e=true∧e.on=i) (f:Nat) (ls:Array Bool) (a:Act) (w:World)
  (hfree:∀ j oj,ops[j]?=some oj→j≠i→ls.getD j true=false→(∀ e∈oj.after,Region.binds md e=true→e.on≠i)→oi.apart ops oj=true)
  (hr:i∈Region.ready md ops ls) (hun:ls.getD st true=false) (hy:YieldsIf P ops S oi v a) (hS:S w) (H:dW F n P md ops Q S st f (ls.setIfInBounds i true) (a.put oi.dst v) w):dW F n P md ops Q S st (f+1) ls a w:=by
 have kN:=Region.noSelect_spec hsel
 induction f generalizing ls a w with
 | zero =>
  refine⟨fun e=>absurd hr (by rw [e];simp),fun j hj=>?_⟩
  rcases Nat.decEq j i with q | q
  ·exact absurd (ready_mono hj q) (by rw [H.1];simp)
  ·subst q
   exact ru hF hd hi hy hS ⟨fun _ _=>hS,H⟩
 | succ f ih =>
  refine⟨fun e=>absurd hr (by rw [e];simp),fun j hj=>?_⟩
  rcases Nat.decEq j i with q | q
  ·obtain⟨un,oj,hoj,_⟩:=mem_ready.1 hj
   have now:j≠st:=by
    rintro rfl
    obtain⟨e,he,hb,hon⟩:=hw
    exact waits hr hj hs e he hb hon
   have ist:i≠st:=by
    rintro rfl
    obtain⟨e,he,hb,hon⟩:=hw
    exact waits hr hr hs e he hb hon
   have stays:∀ k ok,ops[k]?=some ok→k≠i→(ls.setIfInBounds j true).getD k true=false→(∀ e∈ok.after,Region.binds md e=true→e.on≠i)→oi.apart ops ok=true:=by
    intro k ok hk hki hun hno
    refine hfree k ok hk hki ?_ hno
    rcases Nat.decEq j k with r | r
    ·rwa [getD_set_ne true r] at hun
    ·rw [← r];exact un
   have next:=tN hF hd hoj (hfree j oj hoj q un (waits hr hj hoj)) (fun cs b=>kN i oi cs b hi) (fun cs b=>kN j oj cs b hoj) hQ hy (H.2 j (ready_mono hj q))
   refine wpOpIn_mono (fun b u g=>⟨fun q1 q2=>g.2.1 (by rw [getD_set_ne true ist];exact q1) q2,ih _ b u stays (ready_mono hr (Ne.symm q)) (by rw [getD_set_ne true now];exact hun) g.1 (g.2.1 (by rw [getD_set_ne true ist];exact hun) now) ?_⟩) next
   rw [Array.setIfInBounds_comm _ _ q]
   exact g.2.2
  ·subst q
   exact ru hF hd hi hy hS ⟨fun _ _=>hS,H⟩
theorem dW.take (hF:∀ f,F.fn f) (hd:gM ops=true) {i:Nat} {oi os:Oper} {v:Value} {f:Nat} {ls:Array Bool} {a:Act} {w:World} (hi:ops[i]?=some oi) (hsel:Region.noSelect ops=true) (hf:Region.free md ops ls i=true) (hr:(Region.ready md ops ls).contains i=true) (hun:ls.getD st true=false)
  (hs:ops[st]?=some os) (hw:(os.after.any fun e=>Region.binds md e && e.on==i)=true) (hQ:∀ c a w,Q (.panic c) (a.put oi.dst v) w→Q (.panic c) a w) (hy:YieldsIf P ops S oi v a) (hS:S w)
  (H:dW F n P md ops Q S st f (ls.setIfInBounds i true) (a.put oi.dst v) w):dW F n P md ops Q S st (f+1) ls a w:=by
 refine dW.first hF hd hi hsel hQ hs ?_ f ls a w (Region.free_spec hi hf) (by simpa using hr) hun hy hS H
 obtain⟨e,he,hb⟩:=Array.any_eq_true'.1 hw
 simp only [Bool.and_eq_true,beq_iff_eq] at hb
 exact⟨e,he,hb.1,hb.2⟩
theorem dW.one (hF:∀ f,F.fn f) {i:Nat} {oi:Oper} {f:Nat} {ls:Array Bool} {a:Act} {w:World} (hr:Region.ready md ops ls=[i]) (hi:ops[i]?=some oi)
  (h:∀ K:Act→World→Prop,(∀ b u,(ls.getD st true=false→i≠st→S u)→dW F n P md ops Q S st f (ls.setIfInBounds i true) b u→K b u)→if Region.wanted oi (yielded ops a.tmps)=true then Oper.wpIn F n P oi a w K Q else K (a.put oi.dst undef) w):dW F n P md ops Q S st (f+1) ls a w:=by
 refine⟨fun e=>absurd e (by rw [hr];simp),fun j hj=>?_⟩
 rw [hr,List.mem_singleton] at hj
 subst hj
 have q:=h (fun b u=>(ls.getD st true=false→j≠st→S u)∧dW F n P md ops Q S st f (ls.setIfInBounds j true) b u) (fun b u q1 q2=>⟨q1,q2⟩)
 unfold wpOpIn
 simp only [hi]
 split
 ·rename_i hw
  rw [if_pos hw] at q
  exact q
 ·rename_i hw
  rw [if_neg hw] at q
  exact⟨fun g _=>hF g,q⟩
theorem dW.done {ls:Array Bool} {a:Act} {w:World} {f:Nat} (hr:Region.ready md ops ls=[]) (h:Q .normal a w):dW F n P md ops Q S st f ls a w:=by
 cases f with
 | zero=>exact⟨hr,h⟩
 | succ f=>exact⟨fun _=>h,fun j hj=>by rw [hr] at hj;cases hj⟩
def Ce (Q:Exit→Act→World→Prop):Exit→Act→World→Prop:=fun e a w=>e=.normal∧Q e a w
theorem dW.begin {id:Nat} {a:Act} {w:World} (hm:P.follows .mixedOrders=true) (h:dW F n P .any ops (Ce Q) S st ops.size (Array.replicate ops.size false) a w.drew):(Code.region id ops true).wpIn F n P Q a w :=
 wpIn_mono (wpIn_region_any hm h.plain) fun _ _ _ q=>q.2
theorem dW.tk (hF:∀ f,F.fn f) (i:Nat) {oi os:Oper} {v:Value} {f:Nat} {ls:Array Bool} {a:Act} {w:World} (hd:gM ops=true) (hi:ops[i]?=some oi) (hsel:Region.noSelect ops=true) (hf:Region.free md ops ls i=true) (hr:(Region.ready md ops ls).contains i=true) (hun:ls.getD st true=false)
  (hs:ops[st]?=some os) (hw:(os.after.any fun e=>Region.binds md e && e.on==i)=true) (hy:YieldsIf P ops S oi v a) (hS:S w)
  (H:dW F n P md ops (Ce Q) S st f (ls.setIfInBounds i true) (a.put oi.dst v) w):dW F n P md ops (Ce Q) S st (f+1) ls a w :=
 dW.take hF hd hi hsel hf hr hun hs hw (fun _ _ _ h=>by cases h.1) hy hS H
theorem yU {row:String} {args:Array Value} {w:World} {R:Value→World→Prop} (h:Rows P row args w R):RowsIn Fence.wide n P row args w R:=fun c cs _=>by
 obtain⟨v,w',r,s⟩:=h c cs
 exact⟨v,w',r,stepsIn_wide.2 s⟩
theorem nP {o:Oper} {a:Act} {w:World} {K:Act→World→Prop} (hd:∀ c,o.op≠.defer c) (h:o.wp P a w K Q):o.wpIn Fence.wide n P a w K Q:=by
 refine⟨fun _ _=>trivial,?_⟩
 rw [Oper.semAt_eq _ _ _ hd]
 unfold Oper.wp at h
 generalize (execOp a.eval o).run P w=r at h ⊢
 cases r with
 | ok x w' =>
  cases x with
  | value v=>exact h
  | skip=>exact h
  | defer d=>exact h
  | enter f args=>exact⟨fun e=>(by cases e),callsIn_wide.2 h⟩
  | row row args=>exact⟨fun e=>(by cases e),yU h⟩
  | _=>exact h.elim
 | halt x w' =>
  cases x with
  | panic v=>exact h
  | _=>exact h.elim
theorem dW.yK (hF:∀ f,F.fn f) (hd:gM ops=true) (hop:∀ {o:Oper} {a:Act} {w:World} {K:Act→World→Prop},(∀ c,o.op≠.defer c)→o.wp P a w K Q→o.wpIn F n P a w K Q) {i:Nat} {oi:Oper} {f:Nat} {ls:Array Bool} {a:Act} {w:World} (hr:Region.ready md ops ls=[i]) (hi:ops[i]?=some oi)
  (h:∀ K:Act→World→Prop,(∀ b u,(ls.getD st true=false→i≠st→S u)→dW F n P md ops Q S st f (ls.setIfInBounds i true) b u→K b u)→if Region.wanted oi (yielded ops a.tmps)=true then Oper.wp P oi a w K Q else K (a.put oi.dst undef) w):dW F n P md ops Q S st (f+1) ls a w :=
 dW.one hF hr hi fun K hK=>by
  have q:=h K hK
  split
  ·rename_i hw
   rw [if_pos hw] at q
   exact hop (jT hd hi) q
  ·rename_i hw
   rw [if_neg hw] at q
   exact q
theorem room14 {F:Fence} (hd:F.depth=none) (k:Nat):F.room k:=fun d h=>by rw [hd] at h;cases h
theorem Cb (hF:∀ f,F.fn f) (hdp:F.depth=none) {o:Oper} {a:Act} {w:World} {K:Act→World→Prop} {g:Operand} {xs:Array Operand} {ts:Array TypeId} {l m:Nat} {args:Array Value} {R:Ending→World→Prop}
  (ho:o.op=.call { callee:=.value g,args:=xs,argTypes:=ts }) (hg:a.eval g=.func (.yield l) #[] #[]) (hx:xs.map a.eval=args) (hy:YieldAt F m P l args w R)
  (h:∀ e w',R e w'→∃ v,e=.returned v∧K (a.put o.dst v) w'):o.wpIn F n P a w K Q:=by
 obtain⟨fn,tmps,assign,body,hrun,hR⟩:=hy
 refine⟨fun f _=>hF f,?_⟩
 rw [Oper.semAt_eq _ _ _ (by rw [ho];intro c h;cases h)]
 have e:(execOp a.eval o).run P w=.ok (.round l fn tmps assign body) w:=by
  unfold execOp
  simp only [ho,resolve,hg,hx]
  simp [go_sem,invoke,hrun]
 rw [e,Oper.uponIn_round]
 refine⟨(fun q=>by rw [hdp] at q;cases q),hR.1,fun c cs _=>?_⟩
 obtain⟨e',w',hr,hc⟩:=hR.2 c cs (room14 hdp _)
 obtain⟨v,rfl,hk⟩:=h e' w' hr
 exact⟨.returned v,w',hk,hc⟩
theorem dW.yield (hF:∀ f,F.fn f) (hdp:F.depth=none) (i:Nat) {oi:Oper} {f:Nat} {ls:Array Bool} {a:Act} {w:World} (hr:Region.ready md ops ls=[i]) (hi:ops[i]?=some oi) (hgd:oi.guard=none) {g:Operand} {xs:Array Operand} {ts:Array TypeId} {l m:Nat} {args:Array Value} {R:Ending→World→Prop}
  (ho:oi.op=.call { callee:=.value g,args:=xs,argTypes:=ts }) (hg:a.eval g=.func (.yield l) #[] #[]) (hx:xs.map a.eval=args) (hy:YieldAt F m P l args w R)
  (h:∀ e w',R e w'→∃ v,e=.returned v∧(ls.getD st true=false→i≠st→S w')∧dW F n P md ops Q S st f (ls.setIfInBounds i true) (a.put oi.dst v) w'):dW F n P md ops Q S st (f+1) ls a w :=
 dW.one hF hr hi fun K hK=>by
  rw [if_pos (by simp [Region.wanted,hgd])]
  exact Cb hF hdp ho hg hx hy fun e w' r=>by
   obtain⟨v,e1,h1,h2⟩:=h e w' r
   exact⟨v,e1,hK _ _ h1 h2⟩
end
end
section
set_option linter.unusedSimpArgs false
section
open Go.RowKit Go.Lib Go.Shelf
def Da (T:TypeId) (k n:Nat) (cs:List Value) (w:World) (e:Ending) (w':World):Prop:=∃ A2 c2,e=.returned (.slice A2 n c2)∧w'.ownsRow w.heap.size T k (.slice A2 n c2) n cs∧Below w.heap.size w w'
theorem Bi {A:Option Addr} {n c B:Nat} {t:TypeId} {xs:List It} {w:World} (h:au w B t A (bU xs)) (hB:B≤w.heap.size) (hn:n=xs.length) (hs:n≤1000000):Calls prog 28 #[.slice A n c] w (Da 58 8 n (bU xs) w):=by
 obtain⟨i0,hi,hz0,hz1,hz2⟩:=info_parts Tryz.infoI14
 have q:=fun (w:World) a n c n' c'=>Lib.run_eql_slice_nil (P:=prog) w 26 58 a n c n' c' underlying26
 have HL:=hid h
 have HN:=hid hn
 clear h hn
 rcases A with _ | ad
 ·have h0:n=0:=by
   rcases Nat.eq_zero_or_pos n with q | q
   ·exact q
   ·obtain⟨ad,e,_⟩:=HL.out.at_ (k:=0) (by rw [fF,← HN.out];omega)
    cases e
  subst h0
  have e:xs=[]:=List.length_eq_zero_iff.1 HN.out.symm
  subst e
  go_enter func28,ntmps28
  go_wp2
  go_ret
  exact⟨_,0,rfl,World.ownsRow_nil _ _ _ _,Below.refl _ _⟩
 ·have ho:(w.alloc (.cells #[] 58)).ownsRow w.heap.size 58 8 (.slice (some ⟨w.heap.size,0,none⟩) 0 0) 0 []:=World.ownsRow_made w #[] 0 (Nat.le_refl _) (by unfold maxLen;omega) rfl
  have HO:=hid ho
  clear ho
  go_enter func28,ntmps28
  go_wp2_with (at_builtin;refine bP _ rfl _ _ 26 rfl w.heap.size 58 i0 _ 8 72 underlying26 hi hz0 hz1 hz2 rfl (by decide) _ 0 [] rfl HO.out B _ n c (bU xs) t rfl (by rw [fF,HN.out]) (HL.out.below hB ((Below.refl _ _).alloc (Nat.le_refl _) _)) (iM _) (by unfold maxLen;omega) (by omega) (by simp) ?_)
  intro v' w1 hown' hgrow _
  obtain⟨A2,k2,rfl⟩:=aA hown'
  have T1:=vZ HO.out hgrow
  have ho2:w1.ownsRow w.heap.size 58 8 (.slice A2 n k2) n (bU xs):=by simpa using hown'
  have HO2:=hid ho2
  have HT:=hid T1
  clear hown' ho2 T1 hgrow
  go_wp2
  go_ret
  exact⟨A2,k2,by simp,HO2.out,HT.out⟩
def Ih (s:T9.St) (xs:List It) (n:Nat) (w:World) (e:Ending) (w':World):Prop:=∃ (q:aW) (A2:Option Addr) (c2 b1 b2:Nat),e=.returned (.func (.func 29) #[] #[.pointer (some ⟨b1,0,none⟩),.pointer (some ⟨b2,0,none⟩)]) ∧
 w'.heap[b1]?=some (.cells #[.slice q.A q.ls.length q.c,.slice q.A2 q.ms.length q.c2] 25 (0,0))∧w'.heap[b2]?=some (.cells #[.slice A2 n c2] 26 (0,0))∧kY q w'∧q.st=s∧au w' 0 58 A2 (bU xs)∧w.heap.size≤b1∧w.heap.size≤b2∧Below w.heap.size w w'
theorem Ju {s:aW} {A:Option Addr} {n c:Nat} {xs:List It} {w:World} (hs:SM s w) (hf:jQ s) (hI:IL w A xs) (hn:n=xs.length) (hx:n≤1000000) :
  Calls prog 14 #[s.val,.slice A n c] w (Ih (T9.bV s.st) xs n w):=by
 have hmf:∀ (fn:Fn) (first cap:Array Value) (w:World),(Instr.makeFunc fn first cap).run prog w=.ok (.func fn first cap) w:=fun _ _ _ _=>rfl
 obtain⟨w0,hw0⟩:∃ u,w.alloc (.cells #[.slice s.A s.ls.length s.c,.slice s.A2 s.ms.length s.c2] 25)=u:=⟨_,rfl⟩
 obtain⟨lb,b1,z1⟩:=ak hw0
 have B0:=hid b1
 have BG:=hid (vT (hs.stay b1) hf.cs hf.n1 hf.n2 hf.n3)
 obtain⟨s0,hs0⟩:∃ r,T9.bV s.st=r:=⟨_,rfl⟩
 rw [hs0] at BG ⊢
 have H:=hid hI
 have HN:=hid hn
 obtain⟨l0,l1⟩:=aa lb
 unfold pQ aW.val at BG
 unfold aW.val
 clear lb b1 hs hf hI hn hs0
 go_enter func14,ntmps14
 go_wp2_with fail
 refine BG.out.mono ?_
 rintro e w2 ⟨q,rfl,hq,kE,hb2⟩
 have B2:Hid (Below w.heap.size w w2):=hid (B0.out.trans (hb2.mono B0.out.size))
 have CL:=hid (Bi (c:=c) (au.stay H.out B2.out) (Nat.le_refl _) HN.out hx)
 unfold Da at CL
 have Q2:=hid hq
 have QS:=hid kE
 clear hq kE hb2 l0 l1
 go_wp2_with fail
 refine CL.out.mono ?_
 rintro e w3 ⟨A2,c2,rfl,ho3,hb3⟩
 have O3:=hid ho3
 have Q3:=hid (Q2.out.stay hb3)
 have B3:Hid (Below w.heap.size w w3):=hid (B2.out.trans (hb3.mono B2.out.size))
 obtain⟨w4,hw4⟩:∃ u,w3.alloc (.cells #[.slice q.A q.ls.length q.c,.slice q.A2 q.ms.length q.c2] 25)=u:=⟨_,rfl⟩
 obtain⟨nb,b4,z4⟩:=ak hw4
 obtain⟨w5,fU⟩:∃ u,w4.alloc (.cells #[.slice A2 n c2] 26)=u:=⟨_,rfl⟩
 have ib:w5.heap[w4.heap.size]?=some (.cells #[.slice A2 n c2] 26 (0,0)):=by rw [← fU];exact heap_alloc_new w4 _
 have b5:Below w4.heap.size w4 w5:=by rw [← fU];exact (Below.refl _ w4).alloc (Nat.le_refl _) _
 have B45:Hid (Below w3.heap.size w3 w5):=hid (b4.trans (b5.mono (by omega)))
 have IB:=hid ib
 have NB:=hid (ae nb b5)
 have Z4:=hid z4
 clear ho3 hb3 nb b4 b5 ib
 go_wp2
 go_ret
 exact⟨q,A2,c2,w3.heap.size,w3.heap.size+1,rfl,NB.out,by rw [← Z4.out];exact IB.out,Q3.out.stay B45.out,QS.out,au.below (au.Bd O3.out) (Nat.zero_le _) B45.out,B3.out.size,Nat.le_succ_of_le B3.out.size,B3.out.trans (B45.out.mono B3.out.size)⟩
end
end
section
set_option linter.unusedSimpArgs false
section
open Go.RowKit Go.Lib Go.Shelf
attribute [local go_sem] Oper.semAt_some
structure wY (z B:Nat) (A A':World):Prop where
 t:aY z [3] A A'
 o:∀ k,k<A.heap.size→k≠z→k+1≠B→k+2≠B→A'.heap[k]?=A.heap[k]?
def BM (s:T9.St) (ms:List T9.Mu) (pre:List (Int × aW)):Prop:=pre.length≤ms.length+1∧∀ (i:Nat) (x:Int × aW),pre[i]?=some x→x.1=(i:Int)∧x.2.st=T9.dw s (ms.take i)
def SC14 (s:T9.St) (ms:List T9.Mu) (pre:List (Int × aW)):Prop:=BM s ms pre∧pre.length=ms.length+1
theorem BM.nil {s:T9.St} {ms:List T9.Mu}:BM s ms []:=⟨Nat.zero_le _,by simp⟩
theorem BM.nxt {s:T9.St} {ms:List T9.Mu} {pre:List (Int × aW)} {x:Int × aW} (h:BM s ms pre) (hl:pre.length≤ms.length) (h1:x.1=(pre.length:Int)) (h2:x.2.st=T9.dw s (ms.take pre.length)):BM s ms (pre++[x]):=by
 refine⟨by rw [List.length_append];exact Nat.succ_le_succ hl,fun i y hy=>?_⟩
 rcases Nat.lt_trichotomy i pre.length with q | q | q
 ·rw [List.getElem?_append_left q] at hy
  exact h.2 i y hy
 ·subst q
  rw [List.getElem?_append_right (Nat.le_refl _),Nat.sub_self] at hy
  injection hy with hy
  subst hy
  exact⟨h1,h2⟩
 ·rw [List.getElem?_eq_none (by rw [List.length_append,List.length_singleton];omega)] at hy
  cases hy
theorem BM.last {s:T9.St} {ms:List T9.Mu} {pre:List (Int × aW)} {x:Int × aW} (h:BM s ms (pre++[x])):x.1=(pre.length:Int)∧x.2.st=T9.dw s (ms.take pre.length)∧pre.length≤ms.length:=by
 obtain⟨a,b⟩:=h.2 pre.length x (by rw [List.getElem?_append_right (Nat.le_refl _),Nat.sub_self];rfl)
 have:=h.1
 rw [List.length_append,List.length_singleton] at this
 exact⟨a,b,by omega⟩
def Kx14 (B:Nat) (A A':World):Prop:=A.heap.size≤A'.heap.size∧∀ k,B≤k→k<A.heap.size→A'.heap[k]?=A.heap[k]?
def wQ (w:World) (nb:Nat) (vy:Value) (J:List (Int × aW)→World→Prop) (s:T9.St) (ms:List T9.Mu) (pre:List (Int × aW)) (W:World):Prop :=
 ∃ kF:List (Int × aW),kF.length=pre.length+1∧BM s ms kF∧J kF W∧W.heap[nb]?=some (.cells #[.int .i64 (pre.length:Int)] 3 (0,0))∧W.heap[w.heap.size]?=some (.cells #[vy] 75 (0,0))∧w.heap.size<W.heap.size
theorem wQ.bM {w W W':World} {nb B:Nat} {vy:Value} {J:List (Int × aW)→World→Prop} {s:T9.St} {ms:List T9.Mu} {pre:List (Int × aW)} (h:wQ w nb vy J s ms pre W) (hJ:∀ pre A A',J pre A→Below w.heap.size A A'→J pre A') (hB:w.heap.size≤B) (hT:aY B [] W W'):wQ w nb vy J s ms pre W':=by
 obtain⟨kF,h1,h2,h3,h4,h5,h6⟩:=h
 exact⟨kF,h1,h2,hJ _ _ _ h3 (hT.below.mono hB),hT.blk h4 (by simp),hT.blk h5 (by simp),Nat.lt_of_lt_of_le h6 hT.size⟩
theorem wQ.stp {w W W':World} {nb B:Nat} {vy:Value} {J:List (Int × aW)→World→Prop} {s:T9.St} {ms:List T9.Mu} {pre:List (Int × aW)} (h:wQ w nb vy J s ms pre W) (hJ:∀ pre A A',J pre A→Below w.heap.size A A'→J pre A') (hB:w.heap.size<B) (hn:nb<B) (hT:Ha B W W'):wQ w nb vy J s ms pre W':=by
 obtain⟨kF,h1,h2,h3,h4,h5,h6⟩:=h
 exact⟨kF,h1,h2,hJ _ _ _ h3 (hT.t.below.mono (Nat.le_of_lt hB)),(hT.o _ (lt_of_block h4) (Nat.ne_of_lt hn)).trans h4,(hT.o _ (lt_of_block h5) (Nat.ne_of_lt hB)).trans h5,Nat.lt_of_lt_of_le h6 hT.t.size⟩
theorem wY.far {z B:Nat} {A A':World} (h:wY z B A A') {k:Nat} {o:Obj} (hk:A.heap[k]?=some o) (hn:k≠z) (hB:B≤k):A'.heap[k]?=some o:=(h.o k (lt_of_block hk) hn (by omega) (by omega)).trans hk
theorem FY {m B1 B2 z:Nat} {s:aW} {A:Option Addr} {n c:Nat} {xs:List It} {w:World} {f1 f2:Nat × Nat} (hm:3≤m)
  (hs:w.heap[B1]?=some (.cells #[.slice s.A s.ls.length s.c,.slice s.A2 s.ms.length s.c2] 25 f1)) (hl:w.heap[B2]?=some (.cells #[.slice A n c] 26 f2))
  (hS:kY s w) (hd:T9.fZ s.st) (hI:au w 0 58 A (bU xs)) (hn:n=xs.length) (hx:n≤1000000) (km:∀ x∈xs,x.m.ok∧x.m.text.length≤200) (hz:z<w.heap.size) (z1:z≠B1) (z2:z≠B2) (z3:B1+2<w.heap.size) (z4:B2+2<w.heap.size) :
  sU m prog 29 #[.pointer (some ⟨B1,0,none⟩),.pointer (some ⟨B2,0,none⟩)] jC (fun B A A'=>Below B A A') (wY z) Kx14 (fun _ x W=>kY x.2 W) (SC14 s.st (bW xs)) (BM s.st (bW xs)) (n+1) w:=by
 intro l J Jx hJ hJx hY h0
 obtain⟨w1,hw1⟩:∃ u,w.alloc (.cells #[.func (.yield l) #[] #[]] 75)=u:=⟨_,rfl⟩
 have b1:Below w.heap.size w w1:=by rw [← hw1];exact (Below.refl _ w).alloc (Nat.le_refl _) _
 have y1:w1.heap[w.heap.size]?=some (.cells #[.func (.yield l) #[] #[]] 75 (0,0)):=by rw [← hw1];exact heap_alloc_new w _
 have Z1:Hid (w1.heap.size=w.heap.size+1):=hid (by rw [← hw1];simp)
 have HJ:=hid hJ
 have HJX:=hid hJx
 have HY:=hid hY
 have D:=hid hd
 have HN:=hid hn
 have KM:=hid km
 have HX:=hid hx
 have HM:=hid hm
 have ZZ:=hid (And.intro hz (And.intro z1 (And.intro z2 (And.intro z3 z4))))
 have J1:=hid (hJ [] w w1 h0 b1)
 have S1:=hid (hS.stay b1)
 have I1:=hid (hI.below (Nat.zero_le _) b1)
 have K1:=hid (ae hs b1)
 have L1:=hid (ae hl b1)
 have Y1:=hid y1
 have CP:=hid (ug (w:=w1.drew) (S1.out.bM (aY.refl 0 [] w1).drew (by simp) (by simp) (by simp)).sm hd)
 unfold pQ aW.val at CP
 clear hs hl hS hd hI hn hx km hz z1 z2 z3 z4 hJ hJx hY h0 b1 y1 hm
 refine callsIn_of_wp_marks func29 rfl trivial ?_ rfl
 simp only [ntmps29,List.size_toArray,List.length_cons,List.length_nil,Nat.reduceAdd,Nat.reduceSub,Array.replicate_succ,Array.replicate_zero,List.push_toArray,List.append_toArray,List.nil_append,List.cons_append]
 gi_wp2_with fail
 have hcut:∀ u,Below w1.heap.size w1 u→u.cell? ⟨w.heap.size,0,none⟩=some (.func (.yield l) #[] #[])∧u.cell? ⟨B1,0,none⟩=some (.slice s.A s.ls.length s.c)∧u.cell? ⟨B1,1,none⟩=some (.slice s.A2 s.ms.length s.c2):=fun u hu=>⟨cK (ae Y1.out hu),aa (ae K1.out hu)⟩
 have HC:=hid hcut
 clear hcut
 first
  | refine dW.begin (S:=fun u=>Below w1.heap.size w1 u) (st:=3) (by kernel_rfl) ?_
  | trace_state
 have S0:Below w1.heap.size w1 w1.drew:=(Below.refl _ w1).drew
 refine dW.tk (fun _=>trivial) 0 (v:=?_) (by kernel_rfl) rfl (by kernel_rfl) (by kernel_rfl) (by kernel_rfl) (by kernel_rfl) rfl (by kernel_rfl) (Or.inl ⟨by rfl,?_⟩) S0 ?_
 rotate_left
 ·intro u hu
  obtain⟨c0,c1,c2⟩:=HC.out u hu;clear hu
  go_simp
  try rfl
 try simp only [Act.put,pS]
 refine dW.yK (fun _=>trivial) (by kernel_rfl) nP (i:=1) (by kernel_rfl) rfl (fun K hK=>?_)
 obtain⟨c0,c1,c2⟩:=HC.out _ S0
 go_simp
 refine hK _ _ (fun _ _=>S0) ?_
 clear hK K c0 c1 c2
 try simp only [Act.put,pS]
 refine dW.yK (fun _=>trivial) (by kernel_rfl) nP (i:=2) (by kernel_rfl) rfl (fun K hK=>?_)
 go_simp
 refine CP.out.mono ?_
 rintro e w2 ⟨q,rfl,hq,kE,hb2⟩
 have S2:Below w1.heap.size w1 w2:=S0.trans hb2
 refine hK _ _ (fun _ _=>S2) ?_
 have Q2:=hid hq
 have QS:=hid kE
 have HB2:=hid S2
 clear hK K hq kE hb2 S0
 have S0:=S2
 clear S2
 try simp only [Act.put,pS]
 have J2:=hid (HJ.out [] w1 w2 J1.out (HB2.out.mono (by have:=Z1.out;omega)))
 have SP1:Hid (BM s.st (bW xs) ([]++[((0:Int),q)])):=hid (BM.nil.nxt (Nat.zero_le _) rfl QS.out)
 have hy:=HY.out [] (0,q) w2 J2.out (Nat.succ_pos _) SP1.out Q2.out (by have:=Z1.out;have:=HB2.out.size;omega)
 unfold jC aW.val at hy
 dsimp only at hy
 refine dW.yield (fun _=>trivial) rfl 3 (by kernel_rfl) rfl rfl rfl rfl (by simp [go_sem]) hy ?_
 clear hy
 rintro e w3 (⟨rfl,hj3,hk3⟩ | ⟨rfl,hj3,hk3⟩)
 ·refine⟨_,rfl,(fun _ h=>absurd rfl h),?_⟩
  clear S0
  try simp only [Act.put,pS]
  refine dW.yK (fun _=>trivial) (by kernel_rfl) nP (i:=4) (by kernel_rfl) rfl (fun K hK=>?_)
  go_simp
  refine hK _ _ (fun h=>by cases h) ?_
  refine dW.done (by kernel_rfl) ⟨rfl,?_⟩
  clear hK K
  try simp only [Act.put,pS]
  have o3:∀ k,k<w2.heap.size→k≠z→k+1≠w.heap.size→k+2≠w.heap.size→w3.heap[k]?=w2.heap[k]?:=hk3.o
  have hs3:=hk3.t.size
  have T3:=hid hk3.t
  have zz:=ZZ.out
  have b12:=HB2.out.size
  have z1:=Z1.out
  have lB1:=lt_of_block K1.out
  have lB2:=lt_of_block L1.out
  have K3:=hid ((o3 B1 (by omega) (Ne.symm zz.2.1) (by omega) (by omega)).trans (ae K1.out HB2.out))
  have L3:=hid ((o3 B2 (by omega) (Ne.symm zz.2.2.1) (by omega) (by omega)).trans (ae L1.out HB2.out))
  have Y3:=hid ((o3 w.heap.size (by omega) (by omega) (by omega) (by omega)).trans (ae Y1.out HB2.out))
  have S3:=hid ((S1.out.stay HB2.out).bM T3.out (by decide) (by decide) (by decide))
  have I3:=hid ((I1.out.below (Nat.zero_le _) HB2.out).bM (T3.out.mono (Nat.zero_le _)) (by decide))
  have J3:=hid hj3
  have W3:Hid (w.heap.size+1≤w3.heap.size):=hid (by omega)
  obtain⟨nb,hnb⟩:∃ b,w3.heap.size=b:=⟨_,rfl⟩
  obtain⟨w4,hw4⟩:∃ u,w3.alloc (.cells #[.int .i64 0] 3)=u:=⟨_,rfl⟩
  have b4:Below w3.heap.size w3 w4:=by rw [← hw4];exact (Below.refl _ w3).alloc (Nat.le_refl _) _
  have n4:w4.heap[nb]?=some (.cells #[.int .i64 0] 3 (0,0)):=by rw [← hw4,← hnb];exact heap_alloc_new w3 _
  have Z4:Hid (w4.heap.size=nb+1∧w.heap.size+1≤nb):=hid ⟨by rw [← hw4,World.size_alloc,hnb],by rw [← hnb];exact W3.out⟩
  have B4:=hid b4
  have N4:=hid n4
  obtain⟨k0,k1⟩:=aa (ae K3.out b4)
  have j0:=cK (ae L3.out b4)
  have CST:=hid (vL (s:=s) (A:=A) (n:=n) (c:=c) (w:=w4))
  unfold Jw aW.val at CST
  rw [← hw4] at k0 k1 j0
  have HW4:=hid hw4
  clear hw4 hk3 hj3 o3 hs3 zz b12 z1 lB1 lB2 b4 n4 CP
  gi_wp2_with fail
  rw [HW4.out]
  refine⟨trivial,(fun h=>by cases h),?_⟩
  refine (callsIn_wide.2 CST.out).mono ?_
  rintro e w5 ⟨rfl,hb5,hl5,h5,z5⟩
  have J5:=hid (HJ.out _ _ _ J3.out ((B4.out.trans (h5.mono B4.out.size)).mono (by have:=W3.out;omega)))
  have H5:=hid h5
  have Z5:=hid z5
  have BB:Hid (Below w3.heap.size w3 w5):=hid (B4.out.trans (h5.mono B4.out.size))
  have SG:Hid (∀ W,Below w5.heap.size w5 W→W.heap.size=w5.heap.size+2→sU (m - 1) prog 36 #[.pointer (some ⟨w4.heap.size,0,none⟩),.pointer (some ⟨w4.heap.size+1,0,none⟩)] jC Ha (yA 0 [3]) (fun _ _ _=>True) (fun B x W=>kY x.2 W∧Ty W B 25) (SE14 s.st (bW xs)) (AA s.st (bW xs)) n W):=hid (fun W hW hz =>
   wE (ae hb5 hW) (ae hl5 hW) ((S3.out.stay BB.out).stay hW) D.out ((I3.out.below (Nat.zero_le _) BB.out).below (Nat.zero_le _) hW) HN.out HX.out KM.out (Nat.zero_le _) (by decide) (by decide) (by decide) (by decide) (by decide))
  have I6:Hid (wQ w nb (.func (.yield l) #[] #[]) J s.st (bW xs) [] w5):=hid ⟨_,rfl,SP1.out,J5.out,ae N4.out H5.out,ae Y3.out BB.out,by have:=H5.out.size;have:=Z4.out;omega⟩
  have WW:Hid (w.heap.size≤w5.heap.size∧w.heap.size<nb∧nb<w5.heap.size):=hid (by have:=H5.out.size;have:=Z4.out;omega)
  clear hb5 hl5 h5 z5 k0 k1 j0 CST
  gi_wp2_with fail
  refine' xA (α:=Int × aW) (n:=m) (by have:=HM.out;omega) (gf:=36) rfl (enters_of func36 (by kernel_rfl) rfl) SG.out (fun _=>rfl) (fun h=>h.t.below) (fun h k=>h.trans k) (fun o h=>xQ o h (Nat.zero_le _) (by omega)) (fun _ _=>trivial) (fun _ _ _=>trivial)
   (wQ w nb (.func (.yield l) #[] #[]) J s.st (bW xs)) (fun _ W=>∃ kF,BM s.st (bW xs) kF∧Jx kF W) (fun _ _ _ h hT=>h.bM HJ.out WW.out.1 hT) (fun _ _ _ h hT=>by obtain⟨kF,h1,h2⟩:=h;exact⟨kF,h1,HJX.out _ _ _ h2 (hT.below.mono WW.out.1)⟩) (fun _ _ _ h hT=>h.stp HJ.out (by have:=WW.out;omega) (by have:=WW.out;omega) hT) (fun _ _ _ h hT=>by obtain⟨kF,h1,h2⟩:=h;exact⟨kF,h1,HJX.out _ _ _ h2 (hT.t.below.mono (by have:=WW.out;omega))⟩) I6.out (fun x b=>{ tmps:=#[.func (.yield l) #[] #[],.pointer (some ⟨B1,0,none⟩),.pointer (some ⟨B2,0,none⟩),.pointer (some ⟨w.heap.size,0,none⟩),.pointer (some ⟨nb,0,none⟩),undef,.pointer (some ⟨b,0,none⟩),.func (.yield l) #[] #[],.agg #[.slice s.A s.ls.length s.c,.slice s.A2 s.ms.length s.c2],.agg #[.slice q.A q.ls.length q.c,.slice q.A2 q.ms.length q.c2],.bool true,.bool false,.agg #[.slice s.A s.ls.length s.c,.slice s.A2 s.ms.length s.c2],.slice A n c,.func (.func 36) #[] #[.pointer (some ⟨w4.heap.size,0,none⟩),.pointer (some ⟨w4.heap.size+1,0,none⟩)],.int .i64 x.1,.agg #[.slice x.2.A x.2.ls.length x.2.c,.slice x.2.A2 x.2.ms.length x.2.c2],undef,undef,undef,undef,undef,undef,undef,undef],defers:=[] })
   (fun pre x b W=>wQ w nb (.func (.yield l) #[] #[]) J s.st (bW xs) pre W∧kY x.2 W∧W.heap[b]?=some (.cells #[.slice x.2.A x.2.ls.length x.2.c,.slice x.2.A2 x.2.ms.length x.2.c2] 25 (0,0))∧Ty W (w5.heap.size+2) 25)
   (fun pre x b A A' h hT=>⟨h.1.bM HJ.out WW.out.1 hT,h.2.1.bM hT (by simp) (by simp) (by simp),hT.blk h.2.2.1 (by simp),(by obtain⟨cs,fr,y⟩:=h.2.2.2;exact⟨cs,fr,hT.blk y (by simp)⟩)⟩) ?assign ?body ?done ?stop
  case assign =>
   rintro pre x W hEI ⟨hq,hty⟩ hpn hzW
   unfold jC aW.val
   dsimp only at hq ⊢
   obtain⟨b,hb⟩:∃ b,W.heap.size=b:=⟨_,rfl⟩
   obtain⟨W1,hW1⟩:∃ u,W.alloc (.cells #[.slice x.2.A x.2.ls.length x.2.c,.slice x.2.A2 x.2.ms.length x.2.c2] 25)=u:=⟨_,rfl⟩
   obtain⟨xb,bx,zx⟩:=ak hW1
   rw [hb] at xb
   have XB:=hid xb
   have BX:=hid bx
   have EIH:=hid hEI
   have HQ:=hid hq
   have TY:=hid hty
   have HZ:=hid hzW
   have HB:=hid hb
   have LT:Hid (w5.heap.size+2<W.heap.size):=hid (by obtain⟨cs,fr,y⟩:=hty;exact lt_of_block y)
   clear xb bx zx hEI hq hty hb
   gi_wp2
   rw [HB.out]
   refine⟨⟨BX.out.block _ HZ.out,BX.out.block _ (by have:=HZ.out;omega)⟩,⟨aY.of_below BX.out (Nat.zero_le _) _,BX.out.block _ LT.out⟩,b,rfl,EIH.out.bM HJ.out (by have:=WW.out.1;have:=LT.out;omega) (aY.of_below BX.out (Nat.le_refl _) _),HQ.out.stay BX.out,XB.out,?_⟩
   obtain⟨cs,fr,y⟩:=TY.out
   exact⟨cs,fr,ae y BX.out⟩
  case body =>
   rintro pre x b W ⟨⟨kF,hp1,hp2,hj,hnb,hyb,hsz⟩,hq,hb,hty⟩ hpn hsp hz hn1 hn2
   obtain⟨_,hsS⟩:=hsp.last
   have cn:=cK hnb
   have fn:=af hnb 0
   obtain⟨k,hk⟩:∃ k,pre.length+1=k:=⟨_,rfl⟩
   have hwr:IntKind.i64.wrap ((pre.length:Int)+1)=(k:Int):=by have:=HX.out;rw [IntKind.wrap_i64];omega
   obtain⟨W1,hW1⟩:∃ u,W.setCell ⟨nb,0,none⟩ (.int .i64 (k:Int))=u:=⟨_,rfl⟩
   have n1:W1.heap[nb]?=some (.cells #[.int .i64 (k:Int)] 3 (0,0)):=by rw [← hW1];exact ah hnb 0 _
   have T1:aY nb [3] W W1:=by rw [← hW1];exact (aY.refl _ _ W).setCell (p:=⟨nb,0,none⟩) hnb (by simp) (Nat.le_refl _) _
   have far:∀ k,k≠nb→W1.heap[k]?=W.heap[k]?:=fun k hk=>by rw [← hW1];exact Below.heap_setCell _ _ _ k hk
   have q1:=hq.bM T1 (by decide) (by decide) (by decide)
   have bb1:=T1.blk hb (by decide)
   have yb1:=T1.blk hyb (by decide)
   have CP:=hid (ug (w:=W1.drew) (q1.bM (aY.refl 0 [] W1).drew (by simp) (by simp) (by simp)).sm (by rw [hsS];exact T9.fJ D.out (fun m hm=>by obtain⟨x,hx,rfl⟩:=List.mem_map.1 (List.mem_of_mem_take hm);exact (KM.out x hx).1)))
   unfold pQ aW.val at CP
   have N1:=hid n1
   have TT1:=hid T1
   have FAR:=hid far
   have BB1:=hid bb1
   have YB1:=hid yb1
   have HSS:=hid hsS
   have HP1:=hid hp1
   have HP2:=hid hp2
   have HK:=hid hk
   have HSZ:=hid hsz
   have HZ:=hid hz
   have HPN:=hid hpn
   have JW1:=hid (HJ.out _ _ _ hj (T1.below.mono (by have:=Z4.out;omega)))
   have LT:Hid (w5.heap.size+2<W.heap.size):=hid (by obtain⟨cs,fr,y⟩:=hty;exact lt_of_block y)
   clear hn1 hn2 hsS hp1 hp2 hk hsz hz hpn hj hnb hyb hq hb hty hsp T1 far q1 bb1 yb1 n1
   gi_wp2_with fail
   have HC:=hid (show ∀ u,Below W1.heap.size W1 u→u.cell? ⟨w.heap.size,0,none⟩=some (.func (.yield l) #[] #[])∧u.cell? ⟨nb,0,none⟩=some (.int .i64 (k:Int))∧u.cell? ⟨b,0,none⟩=some (.slice x.2.A x.2.ls.length x.2.c)∧u.cell? ⟨b,1,none⟩=some (.slice x.2.A2 x.2.ms.length x.2.c2) from fun u hu=>⟨cK (ae YB1.out hu),cK (ae N1.out hu),aa (ae BB1.out hu)⟩)
   refine dW.begin (S:=fun u=>Below W1.heap.size W1 u) (st:=4) (by kernel_rfl) ?_
   have S0:Below W1.heap.size W1 W1.drew:=(Below.refl _ W1).drew
   refine dW.tk (fun _=>trivial) 0 (v:=?_) (by kernel_rfl) rfl (by kernel_rfl) (by kernel_rfl) (by kernel_rfl) (by kernel_rfl) rfl (by kernel_rfl) (Or.inl ⟨by rfl,?_⟩) S0 ?_
   rotate_left
   ·intro u hu
    obtain⟨c0,c1,c2,c3⟩:=HC.out u hu;clear hu
    go_simp
    try rfl
   try simp only [Act.put,pS]
   refine dW.tk (fun _=>trivial) 1 (v:=?_) (by kernel_rfl) rfl (by kernel_rfl) (by kernel_rfl) (by kernel_rfl) (by kernel_rfl) rfl (by kernel_rfl) (Or.inl ⟨by rfl,?_⟩) S0 ?_
   rotate_left
   ·intro u hu
    obtain⟨c0,c1,c2,c3⟩:=HC.out u hu;clear hu
    go_simp
    try rfl
   try simp only [Act.put,pS]
   refine dW.yK (fun _=>trivial) (by kernel_rfl) ku (i:=2) (by kernel_rfl) rfl (fun K hK=>?_)
   obtain⟨c0,c1,c2,c3⟩:=HC.out _ S0
   go_simp
   refine hK _ _ (fun _ _=>S0) ?_
   clear hK K c0 c1 c2 c3
   try simp only [Act.put,pS]
   refine dW.yK (fun _=>trivial) (by kernel_rfl) ku (i:=3) (by kernel_rfl) rfl (fun K hK=>?_)
   go_simp
   refine CP.out.mono ?_
   rintro e w7 ⟨q7,rfl,Cq,hqs7,AV⟩
   have S2:Below W1.heap.size W1 w7:=S0.trans AV
   refine hK _ _ (fun _ _=>S2) ?_
   have Q7:=hid Cq
   have QS7:=hid hqs7
   have lN:=hid S2
   clear hK K Cq hqs7 AV S0
   have S0:=S2
   clear S2
   try simp only [Act.put,pS]
   have W1Z:Hid (W.heap.size≤W1.heap.size):=hid TT1.out.size
   have J7:=hid (HJ.out _ _ _ JW1.out (lN.out.mono (by have:=HSZ.out;have:=W1Z.out;omega)))
   have SP7:Hid (BM s.st (bW xs) (kF++[((k:Int),q7)])):=hid (HP2.out.nxt (by rw [HP1.out,fA,← HN.out];exact HPN.out) (by rw [HP1.out,HK.out]) (by rw [HP1.out,QS7.out];exact HSS.out))
   have hy:=HY.out kF ((k:Int),q7) w7 J7.out (by rw [HP1.out];have:=HPN.out;omega) SP7.out Q7.out (by have:=HSZ.out;have:=W1Z.out;have:=lN.out.size;omega)
   unfold jC aW.val at hy
   dsimp only at hy
   refine dW.yield (fun _=>trivial) rfl 4 (by kernel_rfl) rfl rfl rfl rfl (by simp [go_sem]) hy ?_
   clear hy
   have old:∀ j,j<W.heap.size→j≠nb→w7.heap[j]?=W.heap[j]?:=fun j h1 h2=>(lN.out.block j (Nat.lt_of_lt_of_le h1 W1Z.out)).trans (FAR.out j h2)
   have OLD:=hid old
   clear old
   rintro e w8 (⟨rfl,hj8,hk8⟩ | ⟨rfl,hj8,hk8⟩)
   ·refine⟨_,rfl,(fun _ h=>absurd rfl h),?_⟩
    clear S0
    try simp only [Act.put,pS]
    refine dW.yK (fun _=>trivial) (by kernel_rfl) ku (i:=5) (by kernel_rfl) rfl (fun K hK=>?_)
    go_simp
    refine hK _ _ (fun h=>by cases h) ?_
    refine dW.done (by kernel_rfl) ⟨rfl,?_⟩
    clear hK K
    try simp only [Act.put,pS]
    gi_wp2
    have zz:=ZZ.out.1
    have ww:=WW.out
    have wl:=LT.out
    have ws:=HSZ.out
    have w17:W.heap.size≤w7.heap.size:=Nat.le_trans W1Z.out lN.out.size
    have keep:∀ j,w.heap.size≤j→j<W.heap.size→j≠nb→j≠z→w8.heap[j]?=W.heap[j]?:=fun j h0 h1 h2 h3=>(hk8.o j (by omega) h3 (by omega) (by omega)).trans (OLD.out j h1 h2)
    have n8:=hk8.far (ae N1.out lN.out) (by have:=Z4.out;omega) (by omega)
    have y8:=hk8.far (ae YB1.out lN.out) (by omega) (Nat.le_refl _)
    have T8:aY 0 [3] W w8:=((TT1.out.mono (Nat.zero_le _)).trans (aY.of_below lN.out (Nat.zero_le _) _)).trans (hk8.t.mono (Nat.zero_le _))
    refine⟨⟨keep _ (by omega) HZ.out (by omega) (by omega),keep _ (by omega) (by have:=HZ.out;omega) (by omega) (by omega)⟩,⟨T8,keep _ (by omega) wl (by omega) (by omega)⟩,⟨kF++[((k:Int),q7)],by simp [HP1.out],SP7.out,hj8,?_,y8,Nat.lt_of_lt_of_le ws T8.size⟩⟩
    rw [List.length_append,List.length_singleton,HK.out]
    exact n8
   ·refine⟨_,rfl,(fun _ h=>absurd rfl h),?_⟩
    clear S0
    try simp only [Act.put,pS]
    refine dW.yK (fun _=>trivial) (by kernel_rfl) ku (i:=5) (by kernel_rfl) rfl (fun K hK=>?_)
    go_simp
    refine hK _ _ (fun h=>by cases h) ?_
    refine dW.done (by kernel_rfl) ⟨rfl,?_⟩
    clear hK K
    try simp only [Act.put,pS]
    gi_wp2
    have ww:=WW.out
    have wl:=LT.out
    have ws:=HSZ.out
    have w17:W.heap.size≤w7.heap.size:=Nat.le_trans W1Z.out lN.out.size
    have keep:∀ j,w.heap.size≤j→j<W.heap.size→j≠nb→w8.heap[j]?=W.heap[j]?:=fun j h0 h1 h2=>(hk8.2 j h0 (by omega)).trans (OLD.out j h1 h2)
    exact⟨⟨keep _ (by omega) HZ.out (by omega),keep _ (by omega) (by have:=HZ.out;omega) (by omega)⟩,trivial,_,SP7.out,hj8⟩
  case done =>
   rintro ys W ⟨hsp,hsl⟩ ⟨kF,hp1,hp2,hj,hnb,hyb,hsz⟩ hD
   have HD:=hid hD
   have HJJ:=hid hj
   have HP1:=hid hp1
   have HP2:=hid hp2
   have HSL:=hid hsl
   clear hsp hsl hp1 hp2 hj hnb hyb hsz hD
   gi_wp2
   have TF:aY w.heap.size [] W (W.putObj w5.heap.size (.deferred none)):=lS _ HD.out WW.out.1
   refine⟨by simp,.inl ⟨_,_,rfl,run_takeDeferred HD.out,?_⟩⟩
   exact⟨_,results_none rfl _ _ _,⟨_,rfl⟩,.inl ⟨kF,⟨HP2.out,by rw [HP1.out,HSL.out]⟩,HJ.out _ _ _ HJJ.out TF.below⟩⟩
  case stop =>
   rintro pre W _ ⟨kF,hp2,hj⟩ hD
   have HD:=hid hD
   have HJJ:=hid hj
   have HP2:=hid hp2
   clear hp2 hj hD
   gi_wp2
   have TF:aY w.heap.size [] W (W.putObj w5.heap.size (.deferred none)):=lS _ HD.out WW.out.1
   refine⟨by simp,.inl ⟨_,_,rfl,run_takeDeferred HD.out,?_⟩⟩
   exact⟨_,results_none rfl _ _ _,⟨_,rfl⟩,.inr ⟨kF,HP2.out,HJX.out _ _ _ HJJ.out TF.below⟩⟩
 ·refine⟨_,rfl,(fun _ h=>absurd rfl h),?_⟩
  clear S0
  try simp only [Act.put,pS]
  refine dW.yK (fun _=>trivial) (by kernel_rfl) nP (i:=4) (by kernel_rfl) rfl (fun K hK=>?_)
  go_simp
  refine hK _ _ (fun h=>by cases h) ?_
  refine dW.done (by kernel_rfl) ⟨rfl,?_⟩
  clear hK K
  try simp only [Act.put,pS]
  gi_wp2
  exact⟨_,results_none rfl _ _ _,⟨_,rfl⟩,.inr ⟨_,SP1.out,hj3⟩⟩
end
end
section
set_option linter.unusedSimpArgs false
section
open Go.RowKit Go.Lib Go.Shelf
attribute [local go_sem] Oper.semAt_some
theorem t_ {fn:Func} {p:Tmp} (h:fn.results=#[.cell p 4]) (tmps:Array Value) (w:World) (g:Nat) (b:Bool) (hp:tmps.getD p undef=.pointer (some ⟨g,0,none⟩)) (hc:w.cell? ⟨g,0,none⟩=some (.bool b)) :
  (results fn tmps).run prog w=.ok (.bool b) w:=by
 have hp':tmps[p]?.getD undef=.pointer (some ⟨g,0,none⟩):=by simpa using hp
 have hz:=sizeOf4
 have ha:=isAgg4
 simp [results,h,hp',asAddr,loadVar,hc,go_sem]
theorem zR {fn:Func} {tm:Array Value} {t:Tmp} (hfn:fn.results=#[.cell t 4]) {w W:World} {g:Nat} (hg:W.heap[g]?=some (.cells #[.bool true] 4 (0,0))) (ht:tm.getD t undef=.pointer (some ⟨g,0,none⟩)) (hb:Below w.heap.size w W) :
  LeavesInM Fence.wide 9 prog fn tm (fun e w'=>e=.returned (.bool true)∧Below w.heap.size w w') [] .returning W:=⟨_,t_ hfn tm W g true ht (cK hg),rfl,hb⟩
theorem yh {fn:Func} {tm:Array Value} {t:Tmp} (hfn:fn.results=#[.cell t 4]) {w W:World} {g D:Nat} (hg:W.heap[g]?=some (.cells #[.bool true] 4 (0,0))) (ht:tm.getD t undef=.pointer (some ⟨g,0,none⟩)) (hb:Below w.heap.size w W) (hD:W.heap[D]?=some (.deferred (some []))) (hDw:w.heap.size≤D) :
  LeavesInM Fence.wide 9 prog fn tm (fun e w'=>e=.returned (.bool true)∧Below w.heap.size w w') [{ target:=.collected D,args:=#[] }] .returning W:=by
 have TF:aY w.heap.size [] W (W.putObj D (.deferred none)):=lS _ hD hDw
 exact⟨by simp,.inl ⟨D,_,rfl,run_takeDeferred hD,zR hfn (TF.blk hg (by simp)) ht (hb.trans TF.below)⟩⟩
theorem wY.trans {z B:Nat} {a b c:World} (h:wY z B a b) (k:wY z B b c):wY z B a c:=⟨h.t.trans k.t,fun j h1 h2 h3 h4=>(k.o j (Nat.lt_of_lt_of_le h1 h.t.size) h2 h3 h4).trans (h.o j h1 h2 h3 h4)⟩
theorem Gh {z B l:Nat} {A:World} {r:Loop} (o:Obj) (h:A.heap[l]?=some (.loop r)) (h1:z≤l) (h2:l+1=B):wY z B A (A.putObj l o):=⟨(qD o h h1).more (by simp),fun k _ _ h3 _=>World.putObj_heap_other (by omega)⟩
theorem nM {w:World} {a:Value} {t:TypeId} {u:World} (q:w.alloc (.cells #[a] t)=u):u.heap[w.heap.size]?=some (.cells #[a] t (0,0))∧Below w.heap.size w u∧u.heap.size=w.heap.size+1:=by
 subst q
 exact⟨heap_alloc_new w _,(Below.refl _ w).alloc (Nat.le_refl _) _,by simp⟩
theorem IL.Fp {w:World} {A:Option Addr} {xs:List It} (h:IL w A xs) (k:Nat):IL w A (xs.take k):=by
 have e:bU xs=bU (xs.take k)++bU (xs.drop k):=by rw [← kP,List.take_append_drop]
 intro hx
 obtain⟨ad,e1,h1,h2⟩:=h (by rw [e];intro q;exact hx (List.append_eq_nil_iff.1 q).1)
 refine⟨ad,e1,h1,fun j u hj=>h2 j u ?_⟩
 obtain⟨hlt,_⟩:=List.getElem?_eq_some_iff.1 hj
 rw [e,List.getElem?_append_left hlt]
 exact hj
theorem Ba {s:aW} {A:Option Addr} {n c:Nat} {xs:List It} {most:Int} {w:World} (hs:SM s w) (ho:s.st.ok) (fs:s.far) (h:IL w A xs) (hn:n=xs.length) (hc:n≤maxLen) (hnc:n≤c) (ko:∀ x∈xs,x.ok) :
  Calls prog 5 #[s.val,.slice A n c,.int .i64 most] w fun e w'=>e=.returned (.bool true)∧Below w.heap.size w w':=by
 obtain⟨p,hp⟩:∃ p,w.heap.size=p:=⟨_,rfl⟩
 obtain⟨u0,hu0⟩:∃ u,w.alloc (.cells #[.slice s.A s.ls.length s.c,.slice s.A2 s.ms.length s.c2] 25)=u:=⟨_,rfl⟩
 obtain⟨pb,b0,z0⟩:=ak hu0
 obtain⟨u1,hu1⟩:∃ u,u0.alloc (.cells #[.slice A n c] 26)=u:=⟨_,rfl⟩
 obtain⟨ib,b1,z1⟩:=nM hu1
 obtain⟨u2,hu2⟩:∃ u,u1.alloc (.cells #[.int .i64 most] 3)=u:=⟨_,rfl⟩
 obtain⟨mb,b2,z2⟩:=nM hu2
 obtain⟨u3,hu3⟩:∃ u,u2.alloc (.cells #[.bool false] 4)=u:=⟨_,rfl⟩
 obtain⟨rb,b3,z3⟩:=nM hu3
 have b23:=b2.trans (b3.mono (by omega))
 have b13:=b1.trans (b23.mono (by omega))
 have b03:=b0.trans (b13.mono (by omega))
 have Z:Hid (w.heap.size=p∧u0.heap.size=p+1∧u1.heap.size=p+2∧u2.heap.size=p+3∧u3.heap.size=p+4):=hid (by omega)
 have B3:=hid b03
 have GS:=hid (show u3.heap[p]?=some (.cells #[.slice s.A s.ls.length s.c,.slice s.A2 s.ms.length s.c2] 25 (0,0)) from by rw [← hp];exact ae pb b13)
 have GI:=hid (show u3.heap[p+1]?=some (.cells #[.slice A n c] 26 (0,0)) from by have:=Z.out;rw [← this.2.1];exact ae ib b23)
 have GM:=hid (show u3.heap[p+2]?=some (.cells #[.int .i64 most] 3 (0,0)) from by have:=Z.out;rw [← this.2.2.1];exact ae mb b3)
 have GR:=hid (show u3.heap[p+3]?=some (.cells #[.bool false] 4 (0,0)) from by have:=Z.out;rw [← this.2.2.2.1];exact rb)
 have SS:=hid (hs.stay b03)
 have IS:=hid (h.stay b03)
 have HN:=hid hn
 have HCn:=hid hc
 have HNC:=hid hnc
 have KO:=hid ko
 have OS:=hid ho
 have FS:=hid fs
 have AW:=hid (qI allF u3)
 have z0':u0.heap.size=p+1:=Z.out.2.1
 have z1':u1.heap.size=p+2:=Z.out.2.2.1
 have z2':u2.heap.size=p+3:=Z.out.2.2.2.1
 unfold aW.val
 clear hs ho fs h hn hc hnc ko pb ib mb rb b0 b1 b2 b3 b23 b13 b03 z0 z1 z2 z3
 refine lF func5 rfl ?_
 simp only [ntmps5,List.size_toArray,List.length_cons,List.length_nil,Nat.reduceAdd,Nat.reduceSub,Array.replicate_succ,Array.replicate_zero,List.push_toArray,List.append_toArray,List.nil_append,List.cons_append]
 go_wp2_with fail
 clear z0' z1' z2' hu0 hu1 hu2 hu3
 have RT:Hid (∀ (wr:World) (tm:Array Value),Below u3.heap.size u3 wr→tm.getD 6 undef=.pointer (some ⟨p+3,0,none⟩)→LeavesInM Fence.wide 9 prog Tryz.f5 tm (fun e w'=>e=.returned (.bool true)∧Below w.heap.size w w') [] .returning (wr.setCell ⟨p+3,0,none⟩ (.bool true))):=hid fun wr tm hb ht=>by
  have k:=ae GR.out hb
  have:=Z.out
  exact zR rfl (g:=p+3) ((ah k 0 _).trans rfl) ht ((B3.out.trans (hb.mono B3.out.size)).setCell (p:=⟨p+3,0,none⟩) (by show _≤p+3;omega) _)
 refine AW.out.mono ?_
 rintro e v0 ⟨rfl,h0⟩
 have H0:=hid h0
 obtain⟨x0,x1⟩:=aa (ae GS.out h0)
 have x2:=cK (ae GI.out h0)
 have r0:=cK (ae GR.out h0)
 have r1:=af (ae GR.out h0) 0
 have LS:=hid (sQ (c:=s.c) (c2:=s.c2) (SS.out.stay h0).l (SS.out.stay h0).k rfl rfl FS.out)
 clear h0 AW
 go_wp2_with fail
 refine LS.out.mono ?_
 rintro e v1 ⟨bb,rfl,hbb,h1⟩
 have H1:Hid (Below u3.heap.size u3 v1):=hid (H0.out.trans (h1.mono H0.out.size))
 have r0:=cK (ae GR.out H1.out)
 have r1:=af (ae GR.out H1.out) 0
 have x2:=cK (ae GI.out H1.out)
 clear h1 x0 x1 LS
 cases bb with
 | false =>
  clear hbb
  go_wp2_with fail
  exact RT.out v1 _ H1.out rfl
 | true =>
 have LT:=hid (hbb rfl)
 have FW:=hid (si (c:=c) (IS.out.stay H1.out) HN.out HCn.out)
 clear hbb
 go_wp2_with fail
 refine FW.out.mono ?_
 rintro e v2 ⟨bb,rfl,hbb,h2⟩
 have H2:Hid (Below u3.heap.size u3 v2):=hid (H1.out.trans (h2.mono H1.out.size))
 have r0:=cK (ae GR.out H2.out)
 have r1:=af (ae GR.out H2.out) 0
 have x2:=cK (ae GI.out H2.out)
 have x3:=cK (ae GM.out H2.out)
 clear h2 FW
 cases bb with
 | false =>
  clear hbb
  go_wp2_with fail
  exact RT.out v2 _ H2.out rfl
 | true =>
 have FT:=hid (hbb rfl)
 clear hbb
 by_cases hm:most<0
 ·go_wp2_with fail
  exact RT.out v2 _ H2.out rfl
 have FI:Hid (jQ s):=hid (jQ.oo LT.out OS.out)
 have KM:Hid (∀ x∈xs,x.m.ok∧x.m.text.length≤200):=hid (fun x hx=>⟨KO.out x hx,FT.out.2 x hx⟩)
 have NB:Hid (n≤30):=hid FT.out.1
 obtain⟨z,hz⟩:∃ z,v2.heap.size=z:=⟨_,rfl⟩
 obtain⟨v3,hv3⟩:∃ u,v2.alloc (.cells #[.int .i64 0] 3)=u:=⟨_,rfl⟩
 obtain⟨nb,b3,z3⟩:=nM hv3
 rw [hz] at nb
 have ZV:Hid (v3.heap.size=z+1∧p+4≤z):=hid ⟨by omega,by have:=H2.out.size;have:=Z.out;omega⟩
 have H3:Hid (Below u3.heap.size u3 v3):=hid (H2.out.trans (b3.mono H2.out.size))
 have N3:=hid nb
 obtain⟨x0,x1⟩:=aa (ae GS.out H3.out)
 have x4:=cK (ae GI.out H3.out)
 have CE:=hid (Ju (c:=c) (SS.out.stay H3.out) FI.out (IS.out.stay H3.out) HN.out (Nat.le_trans NB.out (by decide)))
 unfold Ih aW.val at CE
 obtain⟨bs,hbs⟩:∃ r,T9.bV s.st=r:=⟨_,rfl⟩
 have BS:Hid (T9.fZ bs):=hid (by rw [← hbs];exact T9.iw OS.out)
 have HBS:=hid hbs
 rw [hbs] at CE
 have HV3:=hid hv3
 rw [← hv3] at x0 x1 x4
 clear nb b3 z3 hbs hv3 x2 r0 r1
 go_wp2_with fail
 rw [HV3.out]
 refine CE.out.mono ?_
 rintro e v4 ⟨q,A2,c2,b1,b2,rfl,hb1,hb2,hq,kE,hi2,hl1,hl2,h4⟩
 have H4:=hid h4
 have LL:Hid (z<b1∧z<b2∧b1<v4.heap.size∧b2<v4.heap.size∧z<v4.heap.size):=hid (by have:=ZV.out;have:=lt_of_block hb1;have:=lt_of_block hb2;have:=h4.size;omega)
 have SG:Hid (∀ W,Below v4.heap.size v4 W→W.heap.size=v4.heap.size+2→sU (9 - 1) prog 29 #[.pointer (some ⟨b1,0,none⟩),.pointer (some ⟨b2,0,none⟩)] jC (fun B A A'=>Below B A A') (wY z) Kx14 (fun _ x W=>kY x.2 W) (SC14 bs (bW xs)) (BM bs (bW xs)) (n+1) W):=hid (fun W hW hz=>by
  have ll:=LL.out
  rw [← kE]
  exact FY (by decide) (ae hb1 hW) (ae hb2 hW) (hq.stay hW) (by rw [kE];exact BS.out) (hi2.below (Nat.zero_le _) hW) HN.out (Nat.le_trans NB.out (by decide)) KM.out (by omega) (by omega) (by omega) (by omega) (by omega))
 have I4:Hid (v4.heap[z]?=some (.cells #[.int .i64 ((([]:List (Int × aW)).length:Nat):Int)] 3 (0,0))∧Below z v3 v4):=hid ⟨ae N3.out h4,h4.mono (by have:=ZV.out;omega)⟩
 have HNZ:=hid hz
 clear hb1 hb2 hq kE hi2 hl1 hl2 h4 x0 x1 x4 hz CE
 go_wp2_with fail
 refine (wpIn_wide (n:=9)).1 ?_
 refine' xA (α:=Int × aW) (n:=9) (by decide) (gf:=29) rfl (enters_of func29 (by kernel_rfl) rfl) SG.out (fun _=>rfl) (fun h=>h) (fun h k=>h.trans k) (fun o h=>Gh o h (by have:=LL.out;omega) rfl)
  (fun h k=>⟨Nat.le_trans h.t.size k.1,fun j h1 h2=>(k.2 j h1 (Nat.lt_of_lt_of_le h2 h.t.size)).trans (h.o j h2 (by have:=LL.out;omega) (by omega) (by omega))⟩) (fun o h k=>⟨by rw [World.putObj_size];exact h.1,fun j h1 h2=>(World.putObj_heap_other (by omega)).trans (h.2 j h1 h2)⟩)
  (fun pre W=>W.heap[z]?=some (.cells #[.int .i64 (pre.length:Int)] 3 (0,0))∧Below z v3 W) (fun _ W=>W.heap[p+3]?=some (.cells #[.bool true] 4 (0,0))∧Below w.heap.size w W)
  (fun _ _ _ h hT=>⟨hT.blk h.1 (by simp),h.2.trans (hT.below.mono (by have:=LL.out;omega))⟩) (fun _ _ _ h hT=>⟨hT.blk h.1 (by simp),h.2.trans (hT.below.mono (by have:=LL.out;have:=ZV.out;have:=Z.out;omega))⟩)
  (fun _ _ _ h hT=>⟨(hT.block z (by have:=LL.out;omega)).trans h.1,h.2.trans (hT.mono (by have:=LL.out;omega))⟩) (fun _ _ _ h hT=>⟨(hT.block (p+3) (by have:=LL.out;have:=ZV.out;omega)).trans h.1,h.2.trans (hT.mono (by have:=LL.out;have:=ZV.out;have:=Z.out;omega))⟩) I4.out (fun x b=>{ tmps:=#[.agg #[.slice s.A s.ls.length s.c,.slice s.A2 s.ms.length s.c2],.slice A n c,.int .i64 most,.pointer (some ⟨p,0,none⟩),.pointer (some ⟨p+1,0,none⟩),.pointer (some ⟨p+2,0,none⟩),.pointer (some ⟨p+3,0,none⟩),.pointer (some ⟨z,0,none⟩),.int .i64 x.1,.pointer (some ⟨b,0,none⟩),undef,undef,.bool true,.bool false,.agg #[.slice s.A s.ls.length s.c,.slice s.A2 s.ms.length s.c2],.bool true,.bool false,.bool false,.slice A n c,.bool true,.bool false,.bool false,.bool false,.int .i64 most,.bool (decide (most<0)),.bool (decide (most<0)),.agg #[.slice s.A s.ls.length s.c,.slice s.A2 s.ms.length s.c2],.slice A n c,.func (.func 29) #[] #[.pointer (some ⟨b1,0,none⟩),.pointer (some ⟨b2,0,none⟩)],.int .i64 x.1,.agg #[.slice x.2.A x.2.ls.length x.2.c,.slice x.2.A2 x.2.ms.length x.2.c2],undef,undef,undef,undef,undef,undef,undef,undef,undef,undef,undef,undef,undef,undef,undef,undef,undef,undef,undef,undef,undef,undef,undef,undef,undef,undef,undef,undef,undef,undef,undef],defers:=[] })
  (fun pre x b W=>(W.heap[z]?=some (.cells #[.int .i64 (pre.length:Int)] 3 (0,0))∧Below z v3 W)∧kY x.2 W∧W.heap[b]?=some (.cells #[.slice x.2.A x.2.ls.length x.2.c,.slice x.2.A2 x.2.ms.length x.2.c2] 25 (0,0))∧v4.heap.size+2≤b)
  (fun pre x b A A' h hT=>⟨⟨hT.blk h.1.1 (by simp),h.1.2.trans (hT.below.mono (by have:=LL.out;omega))⟩,h.2.1.bM hT (by simp) (by simp) (by simp),hT.blk h.2.2.1 (by simp),h.2.2.2⟩) ?assign ?body ?done ?stop
 case assign =>
  rintro pre x W ⟨hzb,hbl⟩ hq hpn hzW
  unfold jC aW.val
  dsimp only at hq ⊢
  obtain⟨b,hb⟩:∃ b,W.heap.size=b:=⟨_,rfl⟩
  obtain⟨W1,hW1⟩:∃ u,W.alloc (.cells #[.slice x.2.A x.2.ls.length x.2.c,.slice x.2.A2 x.2.ms.length x.2.c2] 25)=u:=⟨_,rfl⟩
  obtain⟨xb,bx,zx⟩:=ak hW1
  rw [hb] at xb
  have XB:=hid xb
  have BX:=hid bx
  have HQ:=hid hq
  have HZ:=hid hzW
  have HB:=hid hb
  have HZB:=hid hzb
  have HBL:=hid hbl
  clear xb bx zx hq hb hzb hbl
  gi_wp2
  rw [HB.out]
  have ll:=LL.out
  have hh:=HZ.out
  refine⟨⟨BX.out.block _ hh,BX.out.block _ (by omega)⟩,⟨aY.of_below BX.out (by omega) _,fun k h1 _ _ _=>BX.out.block k h1⟩,b,rfl,⟨ae HZB.out BX.out,HBL.out.trans (BX.out.mono (by omega))⟩,HQ.out.stay BX.out,XB.out,?_⟩
  rw [← HB.out];omega
 case body =>
  rintro pre x b W ⟨⟨hzb,hbl⟩,hq,hb,hbz⟩ hpn hsp hz hn1 hn2
  obtain⟨hx1,hxS,hxl⟩:=hsp.last
  have zv:=ZV.out
  have gl:∀ {k:Nat} {o:Obj},k<p+4→u3.heap[k]?=some o→W.heap[k]?=some o:=fun hk ho=>(hbl.block _ (by omega)).trans (ae ho H3.out)
  have gr:=gl (by omega) GR.out
  have cz:=cK hzb
  have cm:=cK (gl (by omega) GM.out)
  have ci:=cK (gl (by omega) GI.out)
  obtain⟨xs0,xs1⟩:=aa (gl (by omega) GS.out)
  have r0:=cK gr
  have r1:=af gr 0
  have HGR:=hid gr
  have HZB:=hid hzb
  have HBL:=hid hbl
  have HQ:=hid hq
  have HBB:=hid hb
  have HBZ:=hid hbz
  have HZ:=hid hz
  have HXS:=hid hxS
  have HXL:Hid (pre.length≤n):=hid (by rw [HN.out,← fA];exact hxl)
  have BW3:Hid (Below u3.heap.size u3 W):=hid (H3.out.trans (hbl.mono (by have:=Z.out;omega)))
  clear gr hzb hbl hq hb hbz hz hxS hxl hsp hpn gl zv
  by_cases heq:(pre.length:Int)=most
  ·have e1:((pre.length:Int)==most)=true:=by simp [heq]
   obtain⟨W1,hW1⟩:∃ u,W.setCell ⟨p+3,0,none⟩ (.bool true)=u:=⟨_,rfl⟩
   have HW1:=hid hW1
   clear heq hn1 hn2
   gi_wp2
   have ll:=LL.out
   have zv:=ZV.out
   have zz:=Z.out
   have far:∀ k,k≠p+3→W1.heap[k]?=W.heap[k]?:=fun k hk=>by rw [← HW1.out];exact Below.heap_setCell _ _ _ k hk
   refine⟨⟨far _ (by omega),far _ (by omega)⟩,⟨by rw [← HW1.out,World.size_setCell];exact Nat.le_refl _,fun k h1 _=>far k (by omega)⟩,?_,?_⟩
   ·rw [← HW1.out]
    exact ah HGR.out 0 _
   ·rw [← HW1.out]
    exact (B3.out.trans (BW3.out.mono B3.out.size)).setCell (p:=⟨p+3,0,none⟩) (by show _≤p+3;omega) _
  ·have e1:((pre.length:Int)==most)=false:=by simp [heq]
   have e2:(x.1 != (pre.length:Int))=false:=by rw [hx1];simp
   have e3:¬ ((n:Int)<(pre.length:Int)):=by have:=HXL.out;omega
   have HN1:=hid hn1
   have rU:=hid hn2
   have q1:(pre.length:Int)≤(c:Int):=by have:=HXL.out;have:=HNC.out;omega
   have q0:0≤(pre.length:Int):=by omega
   have nb:=NB.out
   have hwr:IntKind.i64.wrap ((pre.length:Int)+1)=((pre.length+1:Nat):Int):=by have:=HXL.out;rw [IntKind.wrap_i64];omega
   clear heq hn1 hn2 hx1
   gi_wp2_with fail
   clear e1 e2 e3 cm r0 r1
   have HC:=hid (show ∀ u,Below W.heap.size W u→u.cell? ⟨p,0,none⟩=some (.slice s.A s.ls.length s.c)∧u.cell? ⟨p,1,none⟩=some (.slice s.A2 s.ms.length s.c2)∧u.cell? ⟨p+1,0,none⟩=some (.slice A n c)∧u.cell? ⟨z,0,none⟩=some (.int .i64 (pre.length:Int)) from fun u hu=>⟨(hu.cell (World.block_lt_of_cell? _ _ xs0)).trans xs0,(hu.cell (World.block_lt_of_cell? _ _ xs1)).trans xs1,(hu.cell (World.block_lt_of_cell? _ _ ci)).trans ci,(hu.cell (World.block_lt_of_cell? _ _ cz)).trans cz⟩)
   clear xs0 xs1 ci cz
   have FS9:Hid (T9.fZ (T9.dw bs ((bW xs).take pre.length))):=hid (T9.fJ BS.out (fun m hm=>by obtain⟨x,hx,rfl⟩:=List.mem_map.1 (List.mem_of_mem_take hm);exact KO.out x hx))
   obtain⟨lz,hlz⟩:∃ r,(bW (xs.take pre.length)).length=r:=⟨_,rfl⟩
   have HLZ:=hid hlz
   clear hlz
   refine sP (S:=fun u=>Below W.heap.size W u) (by kernel_rfl) (by kernel_rfl) (by rintro⟨_,_,h⟩;exact h) ?_
   change wpAnyH _ _ _ _ _ _ _ _ W.drew
   have S0:Below W.heap.size W W.drew:=(Below.refl _ W).drew
   generalize W.drew=wd at S0 ⊢
   refine aK 0 ?_ rfl (by kernel_rfl) rfl ?_ S0 ?_
   rotate_left
   ·intro u hu;obtain⟨c0,c1,c2,c3⟩:=HC.out u hu;clear hu;go_simp;try rfl
   try simp only [Act.put,pS]
   refine aK 1 ?_ rfl (by kernel_rfl) rfl ?_ S0 ?_
   rotate_left
   ·intro u hu;obtain⟨c0,c1,c2,c3⟩:=HC.out u hu;clear hu;go_simp;try rfl
   try simp only [Act.put,pS]
   refine aK 2 ?_ rfl (by kernel_rfl) rfl ?_ S0 ?_
   rotate_left
   ·intro u hu;obtain⟨c0,c1,c2,c3⟩:=HC.out u hu;clear hu;go_simp;try rfl
   try simp only [Act.put,pS]
   refine aK 3 ?_ rfl (by kernel_rfl) rfl ?_ S0 ?_
   rotate_left
   ·intro u hu;skip;go_simp;try rfl
   try simp only [Act.put,pS]
   refine wpAnyH_ready (rs:=[4,8]) (by kernel_rfl) (by simp) (AllReadyH.cons rfl (fun K hK=>?_) (AllReadyH.cons rfl (fun K hK=>?_) AllReadyH.nil))
   ·skip
    go_simp
    have CC:=qW (s:=s) (A:=A) (n:=pre.length) (c:=c) (xs:=xs.take pre.length) (w:=wd) (SS.out.stay (BW3.out.trans (S0.mono BW3.out.size))) FI.out ((IS.out.stay (BW3.out.trans (S0.mono BW3.out.size))).Fp _) (by have:=HXL.out;have:=HN.out;rw [List.length_take];omega) (by have:=HXL.out;omega) (fun x hx=>KM.out x (List.mem_of_mem_take hx))
    unfold kI aW.val at CC
    rw [HBS.out,HLZ.out] at CC
    refine CC.mono ?_
    rintro e uc ⟨q9,A9,c9,rfl,hq9,FK,_,hv⟩
    have S1:=S0.trans (hv.mono S0.size)
    have Q9:=hid hq9
    have QS9:=hid FK
    clear hq9 FK hv CC
    refine hK.out _ _ S1 (fun _=>?_)
    clear hK K S0
    have S0:=S1
    clear S1
    try simp only [Act.put,pS]
    refine aK 5 ?_ rfl (by kernel_rfl) rfl ?_ S0 ?_
    rotate_left
    ·intro u hu;skip;go_simp;try rfl
    try simp only [Act.put,pS]
    refine aK 6 ?_ rfl (by kernel_rfl) rfl ?_ S0 ?_
    rotate_left
    ·intro u hu;skip;go_simp;try rfl
    try simp only [Act.put,pS]
    refine aK 7 ?_ rfl (by kernel_rfl) rfl ?_ S0 ?_
    rotate_left
    ·intro u hu;skip;go_simp;try rfl
    try simp only [Act.put,pS]
    refine av (i:=8) (by kernel_rfl) rfl (fun K hK=>?_)
    go_simp
    obtain⟨vg,ol⟩:∃ u,uc.alloc (.cells #[.slice none 0 0,.slice none 0 0] 25)=u:=⟨_,rfl⟩
    obtain⟨gb,bg,zg⟩:=ak ol
    try rw [ol]
    have S1:=S0.trans (bg.mono S0.size)
    obtain⟨gx,hgx⟩:∃ g,uc.heap.size=g:=⟨_,rfl⟩
    rw [hgx] at gb
    have GX:=hid gb
    have GW:Hid (W.heap.size≤gx):=hid (by rw [← hgx];exact S0.size)
    have Q9:=hid (Q9.out.stay bg)
    try rw [hgx]
    clear gb bg zg hgx ol
    refine hK _ _ S1 ?_
    clear hK K S0
    have S0:=S1
    clear S1
    try simp only [Act.put,pS]
    refine av (i:=9) (by kernel_rfl) rfl (fun K hK=>?_)
    have gq:=GX.out
    obtain⟨g0,g1⟩:=aa gq
    have zX:=af gq 0
    have xY:=af gq 1
    go_simp
    obtain⟨vz,lG⟩:∃ u,(vg.setCell ⟨gx,0,none⟩ (.slice q9.A q9.ls.length q9.c)).setCell ⟨gx,1,none⟩ (.slice q9.A2 q9.ms.length q9.c2)=u:=⟨_,rfl⟩
    try rw [lG]
    have Y:Ty vg gx 25:=⟨_,_,gq⟩
    have tz:aY W.heap.size [25] vg vz:=by
     rw [← lG]
     exact ((aY.refl _ _ vg).aB (p:=⟨gx,0,none⟩) Y (by simp) GW.out _).aB (p:=⟨gx,1,none⟩) (Y.set _ _) (by simp) GW.out _
    have S1:Below W.heap.size W vz:=S0.trans tz.below
    have QZ:=hid (Q9.out.bM tz (by decide) (by decide) (by decide))
    have GZ:Hid (vz.heap[gx]?=some (.cells #[.slice q9.A q9.ls.length q9.c,.slice q9.A2 q9.ms.length q9.c2] 25 (0,0))):=hid (by rw [← lG];exact ah (ah gq 0 _) 1 _)
    clear gq g0 g1 zX xY tz lG Y
    refine hK _ _ S1 ?_
    clear hK K S0
    have S0:=S1
    clear S1
    try simp only [Act.put,pS]
    refine aK 10 ?_ rfl (by kernel_rfl) rfl ?_ S0 ?_
    rotate_left
    ·intro u hu;skip;go_simp;try rfl
    try simp only [Act.put,pS]
    refine wpAnyH_done (by kernel_rfl) ?_ _
    have SZ:=hid S0
    clear S0
    have CS:=hid (kH (HQ.out.stay SZ.out).sm QZ.out.sm (by rw [HXS.out];exact FS9.out.short) (by rw [QS9.out,jX];exact FS9.out.short) (by rw [HXS.out];exact FS9.out.2) (by rw [QS9.out,jX];exact FS9.out.2))
    rw [HXS.out,QS9.out,jX,T9.nH] at CS
    unfold aW.val at CS
    obtain⟨x0,x1⟩:=aa (ae HBB.out SZ.out)
    obtain⟨y0,y1⟩:=aa GZ.out
    gi_wp2_with fail
    first
     | refine⟨trivial,(fun h=>by cases h),?_⟩
     | refine⟨trivial,?_⟩
    refine (CallsIn.inRound _ (callsIn_wide.2 CS.out)).mono ?_
    rintro e w9 ⟨rfl,h9⟩
    have S9:Hid (Below W.heap.size W w9):=hid (SZ.out.trans (h9.mono SZ.out.size))
    have Z9:=hid (ae HZB.out S9.out)
    have cz:=cK Z9.out
    have fz:=af Z9.out 0
    clear h9 x0 x1 y0 y1 CS
    gi_wp2
    have ll:=LL.out
    have zw:=HZ.out
    have far:∀ k,k<W.heap.size→k≠z→(w9.setCell ⟨z,0,none⟩ (.int .i64 ((pre.length+1:Nat):Int))).heap[k]?=W.heap[k]?:=fun k h1 h2=>(Below.heap_setCell _ _ _ k h2).trans (S9.out.block k h1)
    have T9':aY z [3] W (w9.setCell ⟨z,0,none⟩ (.int .i64 ((pre.length+1:Nat):Int))):=(aY.of_below (B:=z) S9.out (by omega) [3]).setCell (p:=⟨z,0,none⟩) Z9.out (by simp) (Nat.le_refl _) _
    refine⟨⟨far _ zw (by omega),far _ (by omega) (by omega)⟩,⟨T9',fun k h1 h2 _ _=>far k h1 h2⟩,?_,HBL.out.trans T9'.below⟩
    rw [List.length_append,List.length_singleton]
    exact ah Z9.out 0 _
   ·skip
    go_simp
    obtain⟨vg,ol⟩:∃ u,wd.alloc (.cells #[.slice none 0 0,.slice none 0 0] 25)=u:=⟨_,rfl⟩
    obtain⟨gb,bg,zg⟩:=ak ol
    try rw [ol]
    have S1:=S0.trans (bg.mono S0.size)
    obtain⟨gx,hgx⟩:∃ g,wd.heap.size=g:=⟨_,rfl⟩
    rw [hgx] at gb
    have GX:=hid gb
    have GW:Hid (W.heap.size≤gx):=hid (by rw [← hgx];exact S0.size)
    try rw [hgx]
    clear gb bg zg hgx ol
    refine hK.out _ _ S1 (fun _=>?_)
    clear hK K S0
    have S0:=S1
    clear S1
    try simp only [Act.put,pS]
    refine av (i:=4) (by kernel_rfl) rfl (fun K hK=>?_)
    go_simp
    have CC:=qW (s:=s) (A:=A) (n:=pre.length) (c:=c) (xs:=xs.take pre.length) (w:=vg) (SS.out.stay (BW3.out.trans (S0.mono BW3.out.size))) FI.out ((IS.out.stay (BW3.out.trans (S0.mono BW3.out.size))).Fp _) (by have:=HXL.out;have:=HN.out;rw [List.length_take];omega) (by have:=HXL.out;omega) (fun x hx=>KM.out x (List.mem_of_mem_take hx))
    unfold kI aW.val at CC
    rw [HBS.out,HLZ.out] at CC
    refine CC.mono ?_
    rintro e uc ⟨q9,A9,c9,rfl,hq9,FK,_,hv⟩
    have S1:=S0.trans (hv.mono S0.size)
    have Q9:=hid hq9
    have QS9:=hid FK
    have GX:=hid (ae GX.out hv)
    clear hq9 FK hv CC
    refine hK _ _ S1 ?_
    clear hK K S0
    have S0:=S1
    clear S1
    try simp only [Act.put,pS]
    refine aK 5 ?_ rfl (by kernel_rfl) rfl ?_ S0 ?_
    rotate_left
    ·intro u hu;skip;go_simp;try rfl
    try simp only [Act.put,pS]
    refine aK 6 ?_ rfl (by kernel_rfl) rfl ?_ S0 ?_
    rotate_left
    ·intro u hu;skip;go_simp;try rfl
    try simp only [Act.put,pS]
    refine aK 7 ?_ rfl (by kernel_rfl) rfl ?_ S0 ?_
    rotate_left
    ·intro u hu;skip;go_simp;try rfl
    try simp only [Act.put,pS]
    refine av (i:=9) (by kernel_rfl) rfl (fun K hK=>?_)
    have gq:=GX.out
    obtain⟨g0,g1⟩:=aa gq
    have zX:=af gq 0
    have xY:=af gq 1
    go_simp
    obtain⟨vz,lG⟩:∃ u,(uc.setCell ⟨gx,0,none⟩ (.slice q9.A q9.ls.length q9.c)).setCell ⟨gx,1,none⟩ (.slice q9.A2 q9.ms.length q9.c2)=u:=⟨_,rfl⟩
    try rw [lG]
    have Y:Ty uc gx 25:=⟨_,_,gq⟩
    have tz:aY W.heap.size [25] uc vz:=by
     rw [← lG]
     exact ((aY.refl _ _ uc).aB (p:=⟨gx,0,none⟩) Y (by simp) GW.out _).aB (p:=⟨gx,1,none⟩) (Y.set _ _) (by simp) GW.out _
    have S1:Below W.heap.size W vz:=S0.trans tz.below
    have QZ:=hid (Q9.out.bM tz (by decide) (by decide) (by decide))
    have GZ:Hid (vz.heap[gx]?=some (.cells #[.slice q9.A q9.ls.length q9.c,.slice q9.A2 q9.ms.length q9.c2] 25 (0,0))):=hid (by rw [← lG];exact ah (ah gq 0 _) 1 _)
    clear gq g0 g1 zX xY tz lG Y
    refine hK _ _ S1 ?_
    clear hK K S0
    have S0:=S1
    clear S1
    try simp only [Act.put,pS]
    refine aK 10 ?_ rfl (by kernel_rfl) rfl ?_ S0 ?_
    rotate_left
    ·intro u hu;skip;go_simp;try rfl
    try simp only [Act.put,pS]
    refine wpAnyH_done (by kernel_rfl) ?_ _
    have SZ:=hid S0
    clear S0
    have CS:=hid (kH (HQ.out.stay SZ.out).sm QZ.out.sm (by rw [HXS.out];exact FS9.out.short) (by rw [QS9.out,jX];exact FS9.out.short) (by rw [HXS.out];exact FS9.out.2) (by rw [QS9.out,jX];exact FS9.out.2))
    rw [HXS.out,QS9.out,jX,T9.nH] at CS
    unfold aW.val at CS
    obtain⟨x0,x1⟩:=aa (ae HBB.out SZ.out)
    obtain⟨y0,y1⟩:=aa GZ.out
    gi_wp2_with fail
    first
     | refine⟨trivial,(fun h=>by cases h),?_⟩
     | refine⟨trivial,?_⟩
    refine (CallsIn.inRound _ (callsIn_wide.2 CS.out)).mono ?_
    rintro e w9 ⟨rfl,h9⟩
    have S9:Hid (Below W.heap.size W w9):=hid (SZ.out.trans (h9.mono SZ.out.size))
    have Z9:=hid (ae HZB.out S9.out)
    have cz:=cK Z9.out
    have fz:=af Z9.out 0
    clear h9 x0 x1 y0 y1 CS
    gi_wp2
    have ll:=LL.out
    have zw:=HZ.out
    have far:∀ k,k<W.heap.size→k≠z→(w9.setCell ⟨z,0,none⟩ (.int .i64 ((pre.length+1:Nat):Int))).heap[k]?=W.heap[k]?:=fun k h1 h2=>(Below.heap_setCell _ _ _ k h2).trans (S9.out.block k h1)
    have T9':aY z [3] W (w9.setCell ⟨z,0,none⟩ (.int .i64 ((pre.length+1:Nat):Int))):=(aY.of_below (B:=z) S9.out (by omega) [3]).setCell (p:=⟨z,0,none⟩) Z9.out (by simp) (Nat.le_refl _) _
    refine⟨⟨far _ zw (by omega),far _ (by omega) (by omega)⟩,⟨T9',fun k h1 h2 _ _=>far k h1 h2⟩,?_,HBL.out.trans T9'.below⟩
    rw [List.length_append,List.length_singleton]
    exact ah Z9.out 0 _
 case done =>
  rintro ys W ⟨hsp,hsl⟩ ⟨hzb,hbl⟩ hD
  obtain⟨k,hk⟩:∃ k,n+1=k:=⟨_,rfl⟩
  have hyk:ys.length=k:=by rw [hsl,fA,← HN.out];exact hk
  rw [hyk] at hzb
  have nb:=NB.out
  have zv:=ZV.out
  have zz:=Z.out
  have hwr:IntKind.i64.wrap ((n:Int)+1)=(k:Int):=by rw [IntKind.wrap_i64];omega
  have e1:((k:Int)==(k:Int))=true:=by simp
  have gl:∀ {k:Nat} {o:Obj},k<p+4→u3.heap[k]?=some o→W.heap[k]?=some o:=fun hk ho=>(hbl.block _ (by omega)).trans (ae ho H3.out)
  have gr:=gl (by omega) GR.out
  have cz:=cK hzb
  have ci:=cK (gl (by omega) GI.out)
  have r0:=cK gr
  have r1:=af gr 0
  have HGR:=hid gr
  have HD:=hid hD
  have BW:Hid (Below w.heap.size w W):=hid (B3.out.trans ((H3.out.trans (hbl.mono (by omega))).mono B3.out.size))
  clear hsp hsl hzb hbl hD hk hyk zv gl gr nb zz
  go_wp2
  have zz:=Z.out
  have ll:=LL.out
  have zv:=ZV.out
  exact yh rfl (g:=p+3) ((ah HGR.out 0 _).trans rfl) rfl (BW.out.setCell (p:=⟨p+3,0,none⟩) (by show _≤p+3;omega) _) ((Below.heap_setCell _ _ _ _ (by show _≠p+3;omega)).trans HD.out) (by omega)
 case stop =>
  rintro pre W _ ⟨hr,hb⟩ hD
  refine wpIn_wide.2 ?_
  go_wp2
  exact yh rfl (g:=p+3) hr rfl hb hD (by have:=LL.out;have:=ZV.out;have:=Z.out;omega)
end
end
section
open Go.ChangeShapes Go.WideShapes Go.ChangeAt Go.RowKit
theorem rM (os:Os) (started:os.Started) (H:Type) (enc:TypeId × Value→H) :
  ReturnsInHanded {} Tryz.checked os 5 .any (Rows.foldEachSpec.pre6 enc prog Tryz.f5 Rows.foldEachRow.domain false) (Rows.foldEachSpec.post enc prog Tryz.f5 false true false false):=by
 refine returnsInHanded_of_change (C:=Tryz.checked) Tryz.own2 started (by kernel_rfl) func5
  (ChangeSpec.witness6 (enc:=enc) (C:=Tryz.checked) false ⟨#[],#[.agg #[.slice none 0 0,.slice none 0 0],.slice none 0 0,.int .i64 0],[]⟩ 8 (by kernel_rfl) (by kernel_rfl) (by kernel_rfl) (by kernel_rfl)) ?_
 intro W base args ds gs before hval0 hW hcnd _
 have hval:∀ (j:Nat) t v,Tryz.f5.params[j]?=some t→args[j]?=some v→Value.okWide prog W .any base t v:=hval0
 have hW':=hW
 obtain⟨p,q,hA0,hV,rfl,hfz,hnd⟩:=hW
 have hA:DataW.TrodAll enc prog W 0 (fun _=>true) true Tryz.f5.params.toList args.toList ds p:=hA0
 rw [Tryz.params5] at hA hval
 obtain⟨v0,v1,v2,d0,d1,d2,p0,p1,p2,rfl,rfl,hps,h0,h1,h2⟩:=trodAll_three hA
 obtain⟨m0,e0,hs0,ho0,hf0⟩:=mr (hval 0 25 v0 rfl rfl) h0
 subst e0
 obtain⟨A1,c1,xs1,e1,hl1,hi1,ho1,hc1⟩:=jU (hval 1 26 v1 rfl rfl) h1
 subst e1
 obtain⟨x2,e2,f2,g2,w2⟩:=open_int underlying3 (hval 2 3 v2 rfl rfl) h2
 subst e2
 refine (Ba hs0 ho0 hf0 hi1 rfl (Nat.le_trans hl1 hc1) hl1 ho1).mono fun e W' ⟨he,hw⟩=>?_
 subst he
 refine⟨_,rfl,uM (tb:=4) Tryz.laidOut2 ?_ rfl (by kernel_rfl) underlying4 hW' hw ?_ ?_ ?_⟩
 ·intro t ht
  rw [Tryz.params5] at ht
  simp at ht
  rcases ht with rfl | rfl | rfl
  all_goals exact⟨by kernel_rfl,of_decide_eq_true (by kernel_rfl)⟩
 all_goals
  obtain⟨rfl,rfl⟩:=trodVars_none hV
  rfl
theorem foldEach_holds:Rows.FoldEachSaid :=
 OpenClaim.holds_of_wide 5 Tryz.f5 rfl rfl rfl rfl rfl rfl rfl ⟨rfl,rfl,rfl,rfl,rfl⟩ rfl rfl rfl rfl rfl (by kernel_rfl) func5 (by kernel_rfl)
  (of_decide_eq_true (by kernel_rfl)) (by unfold Func.isWrapper;first | (rw [if_pos (by decide +kernel)];kernel_rfl) | (rw [if_neg (by decide +kernel)];exact⟨rfl,rfl⟩))
  (fun os started H enc _=>rM os started H enc)
end
end Go.Proofs.YtdjiiknefhepdaaGreat
