import Derived.Test.YtmcfknnfaokmlaaGreatZ8
import Derived.Sort.KeysCollected
namespace Go.Proofs.YtmcfknnfaokmlaaGreat
set_option maxHeartbeats 16000000
set_option linter.unusedSimpArgs false
set_option maxRecDepth 100000
section
namespace St
def fl (b:Bool):List UInt8:=[if b=true then 1 else 0]
def wb (b:List UInt8):List UInt8:=Cd.num b.length++b
def jO (s s':Option (List UInt8)):Prop:=∀ t,s'=some t→∃ l,s=some l∧t.length≤l.length
theorem jO.trans {a b c:Option (List UInt8)} (h:jO a b) (k:jO b c):jO a c:=fun t ht=>by
 obtain⟨l,h1,h2⟩:=k t ht
 obtain⟨m,h3,h4⟩:=h l h1
 exact⟨m,h3,by omega⟩
theorem jO.bound {s s':Option (List UInt8)} (h:jO s s') {n:Nat} (hs:∀ l,s=some l→l.length≤n):∀ l,s'=some l→l.length≤n:=fun t ht=>by
 obtain⟨l,h1,h2⟩:=h t ht
 have:=hs l h1
 omega
theorem bN (m:Nat) (s:Option (List UInt8)):jO s (Cd.aS m s).2:=fun t ht=>by
 match s,ht with
 | some l,ht =>
  have q:=(Cd.iJ (Cd.l_ ht)).1
  exact⟨l,rfl,by rw [q,List.length_append];omega⟩
theorem nX (m:Nat) (s:Option (List UInt8)):jO s (Cd.bQ m s).2:=fun t ht=>by
 match s,ht with
 | some l,ht =>
  have q:=(Cd.rP ht).1
  exact⟨l,rfl,by rw [q,List.length_append,List.length_append];omega⟩
theorem wG (s:Option (List UInt8)):jO s (Cd.kz s).2:=fun t ht=>by
 match s,ht with
 | some l,ht =>
  have q:=Cd.rQ ht
  exact⟨l,rfl,by rw [q];simp⟩
theorem DI {m:Nat} (b t:List UInt8) (h:b.length≤m) (h2:b.length<18446744073709551616):Cd.bQ m (some (wb b++t))=(b,some t):=by
 unfold Cd.bQ wb
 rw [List.append_assoc,Cd.iI h2 h]
 simp
theorem rdG_fl (g:Bool) (t:List UInt8):Cd.kz (some (fl g++t))=(g,some t):=by
 cases g <;> rfl
end St
end
end Go.Proofs.YtmcfknnfaokmlaaGreat
