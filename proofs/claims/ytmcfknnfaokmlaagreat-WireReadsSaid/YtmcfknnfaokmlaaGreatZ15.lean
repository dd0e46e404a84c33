import Derived.Test.YtmcfknnfaokmlaaGreatZ1
import Derived.Deep.AppendSrc
import Derived.Deep.RegionLaw
import Derived.Lib.AppendZerosOnto
import Derived.OrdersHeld
import Derived.Deep.RegionHeld
namespace Go.Proofs.YtmcfknnfaokmlaaGreat
set_option maxHeartbeats 16000000
set_option linter.unusedSimpArgs false
set_option maxRecDepth 100000
section
section
section
open Go.RowKit
section
variable {P : Program} (w : World)
end
theorem DX {P:Program} {ops:Array Oper} {o:Oper} {a:Act} {w w':World} {K:Act→World→Prop} {Q:Exit→Act→World→Prop} {E:Prop}
  (hg:o.guard=none) (s x:Operand) (t tx:TypeId) (hop:o.op=Op.call { callee:=Callee.builtin Builtin.append,args:=#[s,x],argTypes:=#[t,tx] }) {v xv v':Value}
  (hs:a.eval s=v) (hx:a.eval x=xv) (hrun:(Builtin.append_ #[t,tx] o.type #[v,xv]).run P w=.ok v' w') (hK:K (a.put o.dst v') w') :
  if Region.wanted o (yielded ops a.tmps)=true then Oper.wp P o a w K Q else E:=by
 have hw:Region.wanted o (yielded ops a.tmps)=true:=by simp [Region.wanted,hg]
 rw [if_pos hw]
 unfold Oper.wp
 simp only [execOp,hop,resolve,invoke,builtin,Sem.run_bind,Sem.run_pure,Result.andThen_ok,List.map_toArray,List.map_cons,List.map_nil,hs,hx,hrun]
 exact hK
theorem jL {P:Program} {ops:Array Oper} {o:Oper} {a:Act} {w:World} {K:Act→World→Prop} {Q:Exit→Act→World→Prop} {E:Prop}
  (hgd:o.guard=none) (s x:Operand) (t:TypeId) (ho:o.op=Op.call { callee:=Callee.builtin Builtin.append,args:=#[s,x],argTypes:=#[t,t] })
  (base:Nat) (e:TypeId) (i:TypeInfo) (z:Value) (size bytes:Nat) (ht:P.underlying t=some (.slice e)) (hi:P.info? e=some i) (hz:i.zero=some z)
  (hsize:i.size=size) (hby:i.bytes=bytes) (hzs:z.cells.size=size) (hsz:0<size)
  (v:Value) (n:Nat) (xs:List Value) (hs:a.eval s=v) (hown:w.ownsRow base e size v n xs)
  (B:Nat) (A:Option Addr) (m c:Nat) (news:List Value) (t':TypeId) (hx:a.eval x=.slice A m c) (hl:news.length=m * size) (hL:av w B t' A news) (h1:∀ u∈news,u.oneCell'=true)
  (h63:n+m≤maxLen) (hbytes:(n+m) * bytes≤140737488355328) (hbase:base≤w.heap.size)
  (h:∀ v' w',w'.ownsRow base e size v' (n+m) (xs++news)→w.grownBy w' v.ownBlock→(v'.ownBlock=v.ownBlock∨v'.ownBlock=some w.heap.size)→K (a.put o.dst v') w') :
  if Region.wanted o (yielded ops a.tmps)=true then Oper.wp P o a w K Q else E:=by
 obtain⟨v',w',hrun,h2,h3,h4⟩:=zi (P:=P) w base t o.type e i z size bytes ht hi hz hsize hby hzs hsz v n xs hown B A m c news t' hl hL h1 h63 hbytes hbase
 exact DX hgd s x t t ho hs hx hrun (h v' w' h2 h3 h4)
end
section
open Go.RowKit
structure But (F:Nat→Prop) (B:Nat) (w w':World):Prop where
 os:w'.os=w.os
 tape:w'.tape=w.tape
 output:w'.output=w.output
 size:w.heap.size≤w'.heap.size
 block:∀ k,k<B→¬ F k→w'.heap[k]?=w.heap[k]?
section
variable {F G : Nat → Prop} {B B' : Nat} {w w' w'' : World}
theorem But.trans (h:But F B w w') (k:But F B w' w''):But F B w w'' :=
 ⟨k.os.trans h.os,k.tape.trans h.tape,k.output.trans h.output,Nat.le_trans h.size k.size,fun i hi hf=>(k.block i hi hf).trans (h.block i hi hf)⟩
end
def InF (F:Nat→Prop) (A:Option Addr):Prop:=∀ ad,A=some ad→F ad.block
theorem InF.none {F:Nat→Prop}:InF F none:=fun _ h=>by cases h
theorem pX {w w':World} {base:Nat} {e:TypeId} {size n:Nat} {v:Value} {xs:List Value} (h:w.ownsRow base e size v n xs) (hk:∀ k,v.ownBlock=some k→w'.heap[k]?=w.heap[k]?):w'.ownsRow base e size v n xs:=by
 refine⟨h.1,?_⟩
 rcases h.2 with hn | ⟨g,cap,cur,rfl,hb,hg,rest⟩
 ·exact .inl hn
 ·exact .inr ⟨g,cap,cur,rfl,hb,(hk g rfl).trans hg,rest⟩
end
section
variable {P : Program} (w : World)
end
end
section
section
variable {P : Program} {ops : Array Oper} {Q : Exit → Act → World → Prop} {md : Region.Mode} {S : World → Prop} {st : Nat}
def Any (P:Program) (md:Region.Mode) (ops:Array Oper) (Q:Exit→Act→World→Prop) (S:World→Prop) (st:Nat):Nat→Array Bool→Act→World→Prop
 | 0,ls,a,w=>Region.ready md ops ls=[]∧Q .normal a w
 | f+1,ls,a,w=>(Region.ready md ops ls=[]→Q .normal a w)∧∀ j∈Region.ready md ops ls,wpOp P ops Q j (fun b u=>(j≠st→S u)∧Any P md ops Q S st f (ls.setIfInBounds j true) b u) a w
theorem Any.plain:∀ {f:Nat} {ls:Array Bool} {a:Act} {w:World},Any P md ops Q S st f ls a w→wpAny P md ops Q f ls a w
 | 0,_,_,_,h=>h
 | _+1,_,_,_,h=>⟨h.1,fun j hj=>wpOp_mono (fun _ _ q=>q.2.plain) (h.2 j hj)⟩
theorem waits {i j:Nat} {ls:Array Bool} {oj:Oper} (hi:i∈Region.ready md ops ls) (hj:j∈Region.ready md ops ls) (ho:ops[j]?=some oj):∀ e∈oj.after,Region.binds md e=true→e.on≠i:=by
 intro e he hb q
 obtain⟨_,o,hoj,hall⟩:=mem_ready.1 hj
 rw [ho] at hoj
 injection hoj with hoj
 subst hoj
 have h1:=hall e he hb
 have h0:=(mem_ready.1 hi).1
 rw [q] at h1
 rcases Nat.lt_or_ge i ls.size with r | r
 ·simp only [Array.getD_eq_getD_getElem?,Array.getElem?_eq_getElem r,Option.getD_some] at h0 h1
  rw [h0] at h1
  cases h1
 ·simp only [Array.getD_eq_getD_getElem?,Array.getElem?_eq_none r,Option.getD_none] at h1
  cases h1
theorem Any.first {i:Nat} {oi os:Oper} {v:Value} (hi:ops[i]?=some oi) (hsel:Region.noSelect ops=true) (hQ:∀ c a w,Q (.panic c) (a.put oi.dst v) w→Q (.panic c) a w)
  (hs:ops[st]?=some os) (hw:∃ e∈os.after,Region.binds md e=true∧e.on=i) (f:Nat) (ls:Array Bool) (a:Act) (w:World)
  (hfree:∀ j oj,ops[j]?=some oj→j≠i→ls.getD j true=false→(∀ e∈oj.after,Region.binds md e=true→e.on≠i)→oi.apart ops oj=true)
  (hr:i∈Region.ready md ops ls) (hy:YieldsIf P ops S oi v a) (hS:S w) (H:Any P md ops Q S st f (ls.setIfInBounds i true) (a.put oi.dst v) w):Any P md ops Q S st (f+1) ls a w:=by
 have zk:=Region.noSelect_spec hsel
 induction f generalizing ls a w with
 | zero =>
  refine⟨fun e=>absurd hr (by rw [e];simp),fun j hj=>?_⟩
  rcases Nat.decEq j i with q | q
  ·exact absurd (ready_mono hj q) (by rw [H.1];simp)
  ·subst q
   exact hy.wpOp hi hS ⟨fun _=>hS,H⟩
 | succ f ih =>
  refine⟨fun e=>absurd hr (by rw [e];simp),fun j hj=>?_⟩
  rcases Nat.decEq j i with q | q
  ·obtain⟨un,oj,hoj,_⟩:=mem_ready.1 hj
   have now:j≠st:=by
    rintro rfl
    obtain⟨e,he,hb,hon⟩:=hw
    exact waits hr hj hs e he hb hon
   have stays:∀ k ok,ops[k]?=some ok→k≠i→(ls.setIfInBounds j true).getD k true=false→(∀ e∈ok.after,Region.binds md e=true→e.on≠i)→oi.apart ops ok=true:=by
    intro k ok hk hki hun hno
    refine hfree k ok hk hki ?_ hno
    rcases Nat.decEq j k with r | r
    ·rwa [getD_set_ne true r] at hun
    ·rw [← r];exact un
   have next:=wpOp_putIf hoj (hfree j oj hoj q un (waits hr hj hoj)) (fun cs b=>zk i oi cs b hi) (fun cs b=>zk j oj cs b hoj) hQ hy (H.2 j (ready_mono hj q))
   refine wpOp_mono (fun b u g=>⟨g.2.1,ih _ b u stays (ready_mono hr (Ne.symm q)) g.1 (g.2.1 now) ?_⟩) next
   rw [Array.setIfInBounds_comm _ _ q]
   exact g.2.2
  ·subst q
   exact hy.wpOp hi hS ⟨fun _=>hS,H⟩
theorem Any.take {i:Nat} {oi os:Oper} {v:Value} {f:Nat} {ls:Array Bool} {a:Act} {w:World} (hi:ops[i]?=some oi) (hsel:Region.noSelect ops=true) (hf:Region.free md ops ls i=true) (hr:(Region.ready md ops ls).contains i=true)
  (hs:ops[st]?=some os) (hw:(os.after.any fun e=>Region.binds md e && e.on==i)=true) (hQ:∀ c a w,Q (.panic c) (a.put oi.dst v) w→Q (.panic c) a w) (hy:YieldsIf P ops S oi v a) (hS:S w)
  (H:Any P md ops Q S st f (ls.setIfInBounds i true) (a.put oi.dst v) w):Any P md ops Q S st (f+1) ls a w:=by
 refine Any.first hi hsel hQ hs ?_ f ls a w (Region.free_spec hi hf) (by simpa using hr) hy hS H
 obtain⟨e,he,hb⟩:=Array.any_eq_true'.1 hw
 simp only [Bool.and_eq_true,beq_iff_eq] at hb
 exact⟨e,he,hb.1,hb.2⟩
theorem Any.one {i:Nat} {oi:Oper} {f:Nat} {ls:Array Bool} {a:Act} {w:World} (hr:Region.ready md ops ls=[i]) (hi:ops[i]?=some oi)
  (h:∀ K:Act→World→Prop,(∀ b u,(i≠st→S u)→Any P md ops Q S st f (ls.setIfInBounds i true) b u→K b u)→if Region.wanted oi (yielded ops a.tmps)=true then Oper.wp P oi a w K Q else K (a.put oi.dst undef) w):Any P md ops Q S st (f+1) ls a w:=by
 refine⟨fun e=>absurd e (by rw [hr];simp),fun j hj=>?_⟩
 rw [hr,List.mem_singleton] at hj
 subst hj
 exact wpOp_step hi (fun K hK=>h K (fun b u q1 q2=>hK b u ⟨q1,q2⟩))
theorem Any.done {ls:Array Bool} {a:Act} {w:World} {f:Nat} (hr:Region.ready md ops ls=[]) (h:Q .normal a w):Any P md ops Q S st f ls a w:=by
 cases f with
 | zero=>exact⟨hr,h⟩
 | succ f=>exact⟨fun _=>h,fun j hj=>by rw [hr] at hj;cases hj⟩
theorem Any.begin {id:Nat} {a:Act} {w:World} (hm:P.follows .mixedOrders=true) (h:Any P .any ops Q S st ops.size (Array.replicate ops.size false) a w.drew):(Code.region id ops true).wp P Q a w :=
 wp_region_any hm h.plain
end
end
end
end Go.Proofs.YtmcfknnfaokmlaaGreat
