import Derived.Test.YtcedlgedmkghgaaZ15
import Derived.Test.YtcedlgedmkghgaaZ11
import Derived.Test.YtcedlgedmkghgaaZ14
namespace Go.Proofs.Ytcedlgedmkghgaa
set_option maxHeartbeats 16000000
set_option linter.unusedSimpArgs false
set_option maxRecDepth 100000
section
section
variable {P : Program} {ops : Array Oper} {Q : Exit → Act → World → Prop} {md : Region.Mode} {S : World → Prop} {st : Nat}
theorem tkH (i:Nat) {oi:Oper} (v:Value) {f:Nat} {ls:Array Bool} {a:Act} {w:World} (hi:ops[i]?=some oi) (hk:(Region.noSelect ops && (Region.free md ops ls i && (Region.ready md ops ls).contains i))=true)
  (hw:Region.wanted oi (yielded ops a.tmps)=true) (hy:∀ u,S u→(execOp a.eval oi).run P u=.ok (.value v) u) (hS:S w) (h:wpAnyH P md ops Q S f (ls.setIfInBounds i true) (a.put oi.dst v) w)
  (hQ:∀ c a w,Q (.panic c) (a.put oi.dst v) w→Q (.panic c) a w:=by exact fun _ _ _ h=>h):wpAnyH P md ops Q S (f+1) ls a w:=by
 simp only [Bool.and_eq_true] at hk
 exact wpAnyH_take hi hk.1 hk.2.1 hk.2.2 hQ (Or.inl ⟨hw,hy⟩) hS h
theorem skH (i:Nat) {oi:Oper} {f:Nat} {ls:Array Bool} {a:Act} {w:World} (hi:ops[i]?=some oi) (hk:(Region.noSelect ops && (Region.free md ops ls i && (Region.ready md ops ls).contains i))=true)
  (hw:Region.wanted oi (yielded ops a.tmps)=false) (hS:S w) (h:wpAnyH P md ops Q S f (ls.setIfInBounds i true) (a.put oi.dst undef) w)
  (hQ:∀ c a w,Q (.panic c) (a.put oi.dst undef) w→Q (.panic c) a w:=by exact fun _ _ _ h=>h):wpAnyH P md ops Q S (f+1) ls a w:=by
 simp only [Bool.and_eq_true] at hk
 exact wpAnyH_take hi hk.1 hk.2.1 hk.2.2 hQ (Or.inr ⟨hw,rfl⟩) hS h
theorem tkA (i:Nat) {oi os:Oper} (v:Value) {f:Nat} {ls:Array Bool} {a:Act} {w:World} (hi:ops[i]?=some oi) (hk:(Region.noSelect ops && (Region.free md ops ls i && (Region.ready md ops ls).contains i))=true) (hs:ops[st]?=some os)
  (hn:(os.after.any fun e=>Region.binds md e && e.on==i)=true) (hw:Region.wanted oi (yielded ops a.tmps)=true) (hy:∀ u,S u→(execOp a.eval oi).run P u=.ok (.value v) u) (hS:S w) (h:Any P md ops Q S st f (ls.setIfInBounds i true) (a.put oi.dst v) w)
  (hQ:∀ c a w,Q (.panic c) (a.put oi.dst v) w→Q (.panic c) a w:=by exact fun _ _ _ h=>h):Any P md ops Q S st (f+1) ls a w:=by
 simp only [Bool.and_eq_true] at hk
 exact Any.take hi hk.1 hk.2.1 hk.2.2 hs hn hQ (Or.inl ⟨hw,hy⟩) hS h
end
theorem pS {α:Type}:(∀ (l:List α) (i:Nat) (a:α),l.toArray.setIfInBounds i a=(l.set i a).toArray)∧(∀ (x:α) (l:List α) (a:α),(x :: l).set 0 a=a :: l)∧(∀ (x:α) (l:List α) (n:Nat) (a:α),(x :: l).set (n+1) a=x :: l.set n a) ∧
  (∀ (l:List α) (i:Nat) (h:i<l.toArray.size),l.toArray[i]=l[i]'h)∧(∀ (x:α) (l:List α) (h:0<(x :: l).length),(x :: l)[0]=x)∧(∀ (x:α) (l:List α) (i:Nat) (h:i+1<(x :: l).length),(x :: l)[i+1]=l[i]'(Nat.lt_of_succ_lt_succ h)) :=
 ⟨fun l i a=>List.setIfInBounds_toArray l i a,fun _ _ _=>rfl,fun _ _ _ _=>rfl,fun _ _ _=>rfl,fun _ _ _=>rfl,fun _ _ _ _=>rfl⟩
end
section
section
open Go.Shelf Go.RowKit Go.Lib Go.Sort
end
section
open Go.Shelf Go.RowKit Go.Lib Go.Sort
theorem Try.infoLi9:(Try.prog.info? 66).map (fun i=>(i.zero,i.size,i.bytes))=some (some (.agg #[.int .u64 0,.string ⟨#[]⟩]),2,24):=by kernel_rfl
theorem Try.infoTk9:(Try.prog.info? 69).map (fun i=>(i.zero,i.size,i.bytes))=some (some (.agg #[.int .u64 0,.int .u64 0,.string ⟨#[]⟩,.bool false,.float .f64 0,.float .f64 0,.slice none 0 0]),7,80):=by kernel_rfl
theorem Try.infoStr9:(Try.prog.info? 9).map (fun i=>(i.zero,i.size,i.bytes))=some (some (.string ⟨#[]⟩),1,16):=by kernel_rfl
end
end
section
open Go.RowKit Go.Lib
namespace T9
end T9
@[go_sem] theorem buildL9 (w : World) : (Instr.build 66 #[]).run Try.prog w = .ok (.agg #[.int .u64 0, .string ⟨#[]⟩]) w := run_build w 66 _ _ (by kernel_rfl)
@[go_sem] theorem buildK9 (w : World) : (Instr.build 69 #[]).run Try.prog w = .ok (.agg #[.int .u64 0, .int .u64 0, .string ⟨#[]⟩, .bool false, .float .f64 0, .float .f64 0, .slice none 0 0]) w := run_build w 69 _ _ (by kernel_rfl)
end
end Go.Proofs.Ytcedlgedmkghgaa
