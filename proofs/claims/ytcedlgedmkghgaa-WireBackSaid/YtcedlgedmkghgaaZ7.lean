import Derived.Test.YtcedlgedmkghgaaZ6
import Derived.Sort.KeysCollected
namespace Go.Proofs.Ytcedlgedmkghgaa
set_option maxHeartbeats 16000000
set_option linter.unusedSimpArgs false
set_option maxRecDepth 100000
section
namespace St
def fl (b:Bool):List UInt8:=[if b=true then 1 else 0]
def wb (b:List UInt8):List UInt8:=Cd.num b.length++b
def jl (s s':Option (List UInt8)):Prop:=∀ t,s'=some t→∃ l,s=some l∧t.length≤l.length
theorem jl.trans {a b c:Option (List UInt8)} (h:jl a b) (k:jl b c):jl a c:=fun t ht=>by
 obtain⟨l,h1,h2⟩:=k t ht
 obtain⟨m,h3,h4⟩:=h l h1
 exact⟨m,h3,by omega⟩
theorem jl.bound {s s':Option (List UInt8)} (h:jl s s') {n:Nat} (hs:∀ l,s=some l→l.length≤n):∀ l,s'=some l→l.length≤n:=fun t ht=>by
 obtain⟨l,h1,h2⟩:=h t ht
 have:=hs l h1
 omega
theorem bI (m:Nat) (s:Option (List UInt8)):jl s (Cd.aH m s).2:=fun t ht=>by
 match s,ht with
 | some l,ht =>
  have q:=(Cd.gI (Cd.kr ht)).1
  exact⟨l,rfl,by rw [q,List.length_append];omega⟩
theorem mX (m:Nat) (s:Option (List UInt8)):jl s (Cd.bL m s).2:=fun t ht=>by
 match s,ht with
 | some l,ht =>
  have q:=(Cd.mK ht).1
  exact⟨l,rfl,by rw [q,List.length_append,List.length_append];omega⟩
theorem xG (s:Option (List UInt8)):jl s (Cd.ku s).2:=fun t ht=>by
 match s,ht with
 | some l,ht =>
  have q:=Cd.mM ht
  exact⟨l,rfl,by rw [q];simp⟩
theorem iG {m:Nat} (b t:List UInt8) (h:b.length≤m) (h2:b.length<18446744073709551616):Cd.bL m (some (wb b++t))=(b,some t):=by
 unfold Cd.bL wb
 rw [List.append_assoc,Cd.aJ h2 h]
 simp
theorem xk (g:Bool) (t:List UInt8):Cd.ku (some (fl g++t))=(g,some t):=by
 cases g <;> rfl
end St
end
end Go.Proofs.Ytcedlgedmkghgaa
