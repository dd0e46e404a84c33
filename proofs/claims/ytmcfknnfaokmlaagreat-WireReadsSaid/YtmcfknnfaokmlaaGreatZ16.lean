import Derived.Test.YtmcfknnfaokmlaaGreatZ15
import Derived.Test.YtmcfknnfaokmlaaGreatZ11
import Derived.Test.YtmcfknnfaokmlaaGreatZ14
namespace Go.Proofs.YtmcfknnfaokmlaaGreat
set_option maxHeartbeats 16000000
open Go.Lib Go.Proofs.Tryz
set_option linter.unusedSimpArgs false
set_option maxRecDepth 100000
section
section
variable {P : Program} {ops : Array Oper} {Q : Exit → Act → World → Prop} {md : Region.Mode} {S : World → Prop} {st : Nat}
theorem dH (i:Nat) {oi:Oper} (v:Value) {f:Nat} {ls:Array Bool} {a:Act} {w:World} (hi:ops[i]?=some oi) (hk:(Region.noSelect ops && (Region.free md ops ls i && (Region.ready md ops ls).contains i))=true)
  (hw:Region.wanted oi (yielded ops a.tmps)=true) (hy:∀ u,S u→(execOp a.eval oi).run P u=.ok (.value v) u) (hS:S w) (h:wpAnyH P md ops Q S f (ls.setIfInBounds i true) (a.put oi.dst v) w)
  (hQ:∀ c a w,Q (.panic c) (a.put oi.dst v) w→Q (.panic c) a w:=by exact fun _ _ _ h=>h):wpAnyH P md ops Q S (f+1) ls a w:=by
 simp only [Bool.and_eq_true] at hk
 exact wpAnyH_take hi hk.1 hk.2.1 hk.2.2 hQ (Or.inl ⟨hw,hy⟩) hS h
theorem skH (i:Nat) {oi:Oper} {f:Nat} {ls:Array Bool} {a:Act} {w:World} (hi:ops[i]?=some oi) (hk:(Region.noSelect ops && (Region.free md ops ls i && (Region.ready md ops ls).contains i))=true)
  (hw:Region.wanted oi (yielded ops a.tmps)=false) (hS:S w) (h:wpAnyH P md ops Q S f (ls.setIfInBounds i true) (a.put oi.dst undef) w)
  (hQ:∀ c a w,Q (.panic c) (a.put oi.dst undef) w→Q (.panic c) a w:=by exact fun _ _ _ h=>h):wpAnyH P md ops Q S (f+1) ls a w:=by
 simp only [Bool.and_eq_true] at hk
 exact wpAnyH_take hi hk.1 hk.2.1 hk.2.2 hQ (Or.inr ⟨hw,rfl⟩) hS h
theorem tkA (i:Nat) {oi os:Oper} (v:Value) {f:Nat} {ls:Array Bool} {a:Act} {w:World} (hi:ops[i]?=some oi) (hk:(Region.noSelect ops && (Region.free md ops ls i && (Region.ready md ops ls).contains i))=true) (hs:ops[st]?=some os)
  (hn:(os.after.any fun e=>Region.binds md e && e.on==i)=true) (hw:Region.wanted oi (yielded ops a.tmps)=true) (hy:∀ u,S u→(execOp a.eval oi).run P u=.ok (.value v) u) (hS:S w) (h:Any P md ops Q S st f (ls.setIfInBounds i true) (a.put oi.dst v) w)
  (hQ:∀ c a w,Q (.panic c) (a.put oi.dst v) w→Q (.panic c) a w:=by exact fun _ _ _ h=>h):Any P md ops Q S st (f+1) ls a w:=by
 simp only [Bool.and_eq_true] at hk
 exact Any.take hi hk.1 hk.2.1 hk.2.2 hs hn hQ (Or.inl ⟨hw,hy⟩) hS h
end
theorem pS {α:Type}:(∀ (l:List α) (i:Nat) (a:α),l.toArray.setIfInBounds i a=(l.set i a).toArray)∧(∀ (x:α) (l:List α) (a:α),(x :: l).set 0 a=a :: l)∧(∀ (x:α) (l:List α) (n:Nat) (a:α),(x :: l).set (n+1) a=x :: l.set n a) ∧
  (∀ (l:List α) (i:Nat) (h:i<l.toArray.size),l.toArray[i]=l[i]'h)∧(∀ (x:α) (l:List α) (h:0<(x :: l).length),(x :: l)[0]=x)∧(∀ (x:α) (l:List α) (i:Nat) (h:i+1<(x :: l).length),(x :: l)[i+1]=l[i]'(Nat.lt_of_succ_lt_succ h)) :=
 ⟨fun l i a=>List.setIfInBounds_toArray l i a,fun _ _ _=>rfl,fun _ _ _ _=>rfl,fun _ _ _=>rfl,fun _ _ _=>rfl,fun _ _ _ _=>rfl⟩
end
section
section
open Go.Shelf Go.RowKit Go.Lib Go.Sort
end
section
open Go.Shelf Go.RowKit Go.Lib Go.Sort
theorem Tryz.infoLi9:(prog.info? 94).map (fun i=>(i.zero,i.size,i.bytes))=some (some (.agg #[.int .u64 0,.string ⟨#[]⟩]),2,24):=by kernel_rfl
theorem Tryz.infoTk9:(prog.info? 97).map (fun i=>(i.zero,i.size,i.bytes))=some (some (.agg #[.int .u64 0,.int .u64 0,.string ⟨#[]⟩,.bool false,.float .f64 0,.float .f64 0,.slice none 0 0]),7,80):=by kernel_rfl
theorem Tryz.infoStr9:(prog.info? 9).map (fun i=>(i.zero,i.size,i.bytes))=some (some (.string ⟨#[]⟩),1,16):=by kernel_rfl
end
end
section
open Go.RowKit Go.Lib
namespace T9
def jf (ls:List Li) (id:Nat):Li × Bool:=match ls.find? (fun l=>l.id==id) with | some l=>(l,true) | none=>(⟨0,[]⟩,false)
end T9
theorem Cn {α:Type} {ls:List α} {p:α→Bool} {k:Nat} {l:α} (h:(ls.take k).find? p=none) (hl:ls[k]?=some l) (hp:p l=true):ls.find? p=some l:=by
 obtain⟨q1,q2⟩:=List.getElem?_eq_some_iff.1 hl
 rw [← List.take_append_drop k ls,List.find?_append,h,List.drop_eq_getElem_cons q1,q2,List.find?_cons_of_pos hp]
 rfl
theorem zT {α:Type} {ls:List α} {p:α→Bool} {k:Nat} {l:α} (h:(ls.take k).find? p=none) (hl:ls[k]?=some l) (hp:p l=false):(ls.take (k+1)).find? p=none:=by
 rw [aF hl,List.find?_append,h]
 simp [hp]
@[go_sem] theorem buildL9 (w : World) : (Instr.build 94 #[]).run prog w = .ok (.agg #[.int .u64 0, .string ⟨#[]⟩]) w := run_build w 94 _ _ (by kernel_rfl)
@[go_sem] theorem buildK9 (w : World) : (Instr.build 97 #[]).run prog w = .ok (.agg #[.int .u64 0, .int .u64 0, .string ⟨#[]⟩, .bool false, .float .f64 0, .float .f64 0, .slice none 0 0]) w := run_build w 97 _ _ (by kernel_rfl)
def FLOk (ls:List T9.Li) (id:Nat) (w:World) (e:Ending) (w':World):Prop:=e=.returned (.tuple #[.agg (jm (T9.jf ls id).1).toArray,.bool (T9.jf ls id).2])∧Below w.heap.size w w'
theorem r_ {A A2:Option Addr} {n1 n2 c c2:Nat} {ls:List T9.Li} {w:World} (hl:LL w A ls) (e1:n1=ls.length) (hs:n1≤1000000) (id:Nat) :
  Calls prog 77 #[.agg #[.slice A n1 c,.slice A2 n2 c2],.int .u64 (id:Int)] w (FLOk ls id w):=by
 have E1:=hid e1
 obtain⟨w0,hw0⟩:∃ u,w.alloc (.cells #[.slice A n1 c,.slice A2 n2 c2] 28)=u:=⟨_,rfl⟩
 obtain⟨Dw,b0,z0⟩:=aM hw0
 obtain⟨w1,hw1⟩:∃ u,w0.alloc (.cells #[.int .u64 0,.string ⟨#[]⟩] 94)=u:=⟨_,rfl⟩
 obtain⟨m_,b1,z1⟩:=aM hw1
 have z1':w1.heap.size=w.heap.size+2:=by omega
 have pb:=(b1.block w.heap.size (by omega)).trans Dw
 have PB:=hid pb
 rw [z0] at m_
 have PR:=hid m_
 have B1:Hid (Below w.heap.size w w1):=hid (b0.trans (b1.mono (by omega)))
 have HL:=hid (hl.stay B1.out)
 have Z0:=hid z0
 have Z1:=hid z1'
 obtain⟨p0,p1⟩:=ai pb
 clear hl e1 Dw b0 m_ b1 z1 z1' pb
 go_enter func77,ntmps77
 go_wp2
 go_loopw [11] (fun s11 wr=>∃ i:Nat,s11=.int .i64 i∧i≤n1∧Hid ((ls.take i).find? (fun l=>l.id==id)=none)∧Aside (Below w1.heap.size w1 wr)) (fun s11 _=>n1 - (intOf s11).toNat)
 case atStart=>exact⟨0,rfl,Nat.zero_le _,hid rfl,Below.refl _ _⟩
 case round =>
  obtain⟨i,rfl,hi,HU,hB⟩:=hrel
  have BR:=hid hB.out
  clear hB
  have rbr:=(BR.out.block (w.heap.size+1) (by have:=Z1.out;omega)).trans PR.out
  have RB:=hid rbr
  by_cases hlt:i<n1
  ·have hltz:(i:Int)<(n1:Int):=by omega
   obtain⟨ad,l,hA,hx,q0,q1⟩:=(HL.out.stay BR.out).at_ (k:=i) (by have:=E1.out;omega)
   subst hA
   have X:=hid hx
   obtain⟨w2,hw2⟩:∃ u,wr.alloc (.cells #[.int .u64 (l.id:Int),.string (str l.name)] 94)=u:=⟨_,rfl⟩
   obtain⟨lb,b2,z2⟩:=aM hw2
   have B2:Hid (Below w1.heap.size w1 w2):=hid (BR.out.trans (b2.mono BR.out.size))
   obtain⟨l0,l1⟩:=ai lb
   have rb2:=(b2.block (w.heap.size+1) (by have:=lt_of_block RB.out;omega)).trans RB.out
   have zG:=hid rb2
   obtain⟨r0,r1⟩:=ai rb2
   have lL:=aa rb2 0
   have lM:=aa rb2 1
   clear hx lb b2 z2 rbr rb2
   by_cases he:l.id=id
   ·have hez:((l.id:Int)==(id:Int))=true:=by simp [he]
    have F:Hid (T9.jf ls id=(l,true)):=hid (by unfold T9.jf;rw [Cn HU.out X.out (by simp [he])])
    clear he
    rw [Z0.out] at *
    have qI:Hid (((w2.setCell ⟨w.heap.size+1,0,none⟩ (.int .u64 (l.id:Int))).setCell ⟨w.heap.size+1,1,none⟩ (.string (str l.name))).heap[w.heap.size+1]?=some (.cells #[.int .u64 (l.id:Int),.string (str l.name)] 94 (0,0))):=hid ((ae (ae zG.out 0 (.int .u64 (l.id:Int))) 1 (.string (str l.name))).trans rfl)
    have kf0:=(ai qI.out).1
    have kf1:=(ai qI.out).2
    go_wp2
    refine bodyPost_ret (v:=.tuple #[.agg #[.int .u64 (l.id:Int),.string (str l.name)],.bool true]) (by simp [results,results77,go_sem,kf0,kf1]) rfl ?_
    refine⟨by rw [F.out];rfl,?_⟩
    exact ((B1.out.trans (B2.out.mono B1.out.size)).setCell (by simp) _).setCell (by simp) _
   ·have hez:((l.id:Int)==(id:Int))=false:=by simp;omega
    have F:Hid ((ls.take (i+1)).find? (fun l=>l.id==id)=none):=hid (zT HU.out X.out (by simp [he]))
    clear he
    go_wp2
    go_roundw
    case rel=>exact⟨i+1,by go_num,by omega,F,B2.out⟩
    case measure=>simp [intOf];omega
  ·obtain rfl:i=n1:=by omega
   have hltz:¬ ((i:Int)<(i:Int)):=by omega
   have F:Hid (T9.jf ls id=(⟨0,[]⟩,false)):=hid (by
    have:=HU.out
    rw [E1.out,List.take_length] at this
    unfold T9.jf;rw [this])
   obtain⟨r0,r1⟩:=ai rbr
   have lL:=aa rbr 0
   have lM:=aa rbr 1
   have qI:Hid (((wr.setCell ⟨w.heap.size+1,0,none⟩ (.int .u64 0)).setCell ⟨w.heap.size+1,1,none⟩ (.string ⟨#[]⟩)).heap[w.heap.size+1]?=some (.cells #[.int .u64 0,.string ⟨#[]⟩] 94 (0,0))):=hid ((ae (ae RB.out 0 (.int .u64 0)) 1 (.string ⟨#[]⟩)).trans rfl)
   have kf0:=(ai qI.out).1
   have kf1:=(ai qI.out).2
   go_wp2
   refine bodyPost_ret (v:=.tuple #[.agg #[.int .u64 0,.string ⟨#[]⟩],.bool false]) (by simp [results,results77,go_sem,kf0,kf1]) rfl ?_
   refine⟨by rw [F.out];rfl,?_⟩
   exact ((B1.out.trans (BR.out.mono B1.out.size)).setCell (by simp) _).setCell (by simp) _
end
end Go.Proofs.YtmcfknnfaokmlaaGreat
