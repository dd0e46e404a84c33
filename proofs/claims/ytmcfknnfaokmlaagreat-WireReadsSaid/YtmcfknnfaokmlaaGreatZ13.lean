import Derived.Test.YtmcfknnfaokmlaaGreatZ11
import Derived.Test.YtmcfknnfaokmlaaGreatZ12
namespace Go.Proofs.YtmcfknnfaokmlaaGreat
set_option maxHeartbeats 16000000
set_option linter.unusedSimpArgs false
set_option maxRecDepth 100000
section
namespace T9
theorem nG {ls:List Li}:∀ {ts:List Tk} {a:Nat},aV ls a ts=0→(∀ t∈ts,a<t.id∧aB t=0∧(ls.any fun l=>l.id==t.list)=true)∧ts.Pairwise (fun x y=>x.id<y.id)
 | [],a,_=>⟨by simp,List.Pairwise.nil⟩
 | t :: r,a,h=>by
  unfold aV at h
  by_cases h1:t.id≤a
  ·rw [if_pos h1] at h;cases h
  rw [if_neg h1] at h
  by_cases h2:(ls.any fun l=>l.id==t.list)=false
  ·rw [if_pos h2] at h;cases h
  rw [if_neg h2] at h
  by_cases h3:aB t≠0
  ·rw [if_pos h3] at h;exact absurd h h3
  rw [if_neg h3] at h
  obtain⟨q1,q2⟩:=nG h
  have h2':(ls.any fun l=>l.id==t.list)=true:=by simpa using h2
  refine⟨fun x hx=>?_,List.pairwise_cons.2 ⟨fun x hx=>(q1 x hx).1,q2⟩⟩
  rcases List.mem_cons.1 hx with rfl | hx
  ·exact⟨by omega,by simpa using h3,h2'⟩
  ·have:=q1 x hx
   exact⟨by omega,this.2⟩
theorem uw {s:St} (h:aH s=0):s.lists.length≤20∧s.tasks.length≤60∧aR 0 s.lists=0∧aV s.lists 0 s.tasks=0:=by
 unfold aH at h
 by_cases h1:20<s.lists.length∨60<s.tasks.length
 ·rw [if_pos h1] at h;cases h
 rw [if_neg h1] at h
 by_cases h2:aR 0 s.lists≠0
 ·rw [if_pos h2] at h;exact absurd h h2
 rw [if_neg h2] at h
 exact⟨by omega,by omega,by simpa using h2,h⟩
theorem og {t:Tk} (h:aB t=0):title t.title=true∧Fl.bK t.rank=false∧jr t.rank=true∧jr t.est=true∧t.tags.length≤4∧bH [] t.tags=true:=by
 unfold aB at h
 by_cases h1:title t.title=false
 ·rw [if_pos h1] at h;cases h
 rw [if_neg h1] at h
 by_cases h2:(Fl.bK t.rank || !jr t.rank)=true
 ·rw [if_pos h2] at h;cases h
 rw [if_neg h2] at h
 by_cases h3:jr t.est=false
 ·rw [if_pos h3] at h;cases h
 rw [if_neg h3] at h
 by_cases h4:4<t.tags.length
 ·rw [if_pos h4] at h;cases h
 rw [if_neg h4] at h
 by_cases h5:bH [] t.tags=true
 ·rw [Bool.not_eq_true,Bool.or_eq_false_iff,Bool.not_eq_false'] at h2
  exact⟨by simpa using h1,h2.1,h2.2,by simpa using h3,by omega,h5⟩
 ·rw [if_neg h5] at h;cases h
theorem str_ltK {ts:List Tk} (h:ts.Pairwise (fun x y=>x.id<y.id)):Sr.Str ltK ts:=h.imp fun q=>decide_eq_true q
end T9
end
end Go.Proofs.YtmcfknnfaokmlaaGreat
