import Derived.Test.YtcedlgedmkghgaaZ11
import Derived.Test.YtcedlgedmkghgaaZ12
namespace Go.Proofs.Ytcedlgedmkghgaa
set_option maxHeartbeats 16000000
set_option linter.unusedSimpArgs false
set_option maxRecDepth 100000
section
namespace T9
theorem jG {ls:List Li}:∀ {ts:List Tk} {a:Nat},aS ls a ts=0→(∀ t∈ts,a<t.id∧az t=0∧(ls.any fun l=>l.id==t.list)=true)∧ts.Pairwise (fun x y=>x.id<y.id)
 | [],a,_=>⟨by simp,List.Pairwise.nil⟩
 | t :: r,a,h=>by
  unfold aS at h
  by_cases h1:t.id≤a
  ·rw [if_pos h1] at h;cases h
  rw [if_neg h1] at h
  by_cases h2:(ls.any fun l=>l.id==t.list)=false
  ·rw [if_pos h2] at h;cases h
  rw [if_neg h2] at h
  by_cases h3:az t≠0
  ·rw [if_pos h3] at h;exact absurd h h3
  rw [if_neg h3] at h
  obtain⟨q1,q2⟩:=jG h
  have h2':(ls.any fun l=>l.id==t.list)=true:=by simpa using h2
  refine⟨fun x hx=>?_,List.pairwise_cons.2 ⟨fun x hx=>(q1 x hx).1,q2⟩⟩
  rcases List.mem_cons.1 hx with rfl | hx
  ·exact⟨by omega,by simpa using h3,h2'⟩
  ·have:=q1 x hx
   exact⟨by omega,this.2⟩
theorem nZ {s:St} (h:aN s=0):s.lists.length≤20∧s.tasks.length≤60∧aP 0 s.lists=0∧aS s.lists 0 s.tasks=0:=by
 unfold aN at h
 by_cases h1:20<s.lists.length∨60<s.tasks.length
 ·rw [if_pos h1] at h;cases h
 rw [if_neg h1] at h
 by_cases h2:aP 0 s.lists≠0
 ·rw [if_pos h2] at h;exact absurd h h2
 rw [if_neg h2] at h
 exact⟨by omega,by omega,by simpa using h2,h⟩
theorem jT {t:Tk} (h:az t=0):title t.title=true∧Fl.aU t.rank=false∧j6 t.rank=true∧j6 t.est=true∧t.tags.length≤4∧bV [] t.tags=true:=by
 unfold az at h
 by_cases h1:title t.title=false
 ·rw [if_pos h1] at h;cases h
 rw [if_neg h1] at h
 by_cases h2:(Fl.aU t.rank || !j6 t.rank)=true
 ·rw [if_pos h2] at h;cases h
 rw [if_neg h2] at h
 by_cases h3:j6 t.est=false
 ·rw [if_pos h3] at h;cases h
 rw [if_neg h3] at h
 by_cases h4:4<t.tags.length
 ·rw [if_pos h4] at h;cases h
 rw [if_neg h4] at h
 by_cases h5:bV [] t.tags=true
 ·rw [Bool.not_eq_true,Bool.or_eq_false_iff,Bool.not_eq_false'] at h2
  exact⟨by simpa using h1,h2.1,h2.2,by simpa using h3,by omega,h5⟩
 ·rw [if_neg h5] at h;cases h
theorem str_ltK {ts:List Tk} (h:ts.Pairwise (fun x y=>x.id<y.id)):Sr.Str ltK ts:=h.imp fun q=>decide_eq_true q
end T9
end
end Go.Proofs.Ytcedlgedmkghgaa
