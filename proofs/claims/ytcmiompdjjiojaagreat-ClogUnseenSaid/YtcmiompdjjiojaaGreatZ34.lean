import Derived.Test.YtcmiompdjjiojaaGreatZ11
import Derived.Test.YtcmiompdjjiojaaGreatZ24
namespace Go.Proofs.YtcmiompdjjiojaaGreat
set_option maxHeartbeats 16000000
set_option linter.unusedSimpArgs false
set_option maxRecDepth 100000
section
open Go.RowKit Go.Lib Go.Sort
theorem T9.z_ {s:T9.St} (h:s.nC):(T9.canon s).nC:=by
 have q:∀ t∈(T9.canon s).tasks,∃ u∈s.tasks,T9.norm u=t:=fun t ht=>by
  obtain⟨u,hu,e⟩:=List.mem_map.1 ht
  exact⟨u,Sr.gT hu,e⟩
 refine⟨Nat.le_trans (Sr.dD _) h.nl,?_,fun l hl=>h.name l (Sr.gT hl),?_,?_,?_⟩
 ·show ((Sr.canon T9.jg s.tasks).map T9.norm).length≤70
  rw [List.length_map]
  exact Nat.le_trans (Sr.dD _) h.nt
 ·intro t ht
  obtain⟨u,hu,rfl⟩:=q t ht
  exact h.title u hu
 ·intro t ht
  obtain⟨u,hu,rfl⟩:=q t ht
  exact Nat.le_trans (Sr.dD _) (h.few u hu)
 ·intro t ht x hx
  obtain⟨u,hu,rfl⟩:=q t ht
  exact h.tag u hu x (Sr.gT hx)
theorem T9.Jp {s:T9.St} (h:s.ok):(T9.canon s).ok:=by
 refine⟨fun l hl=>h.1 l (Sr.gT hl),fun t ht=>?_⟩
 obtain⟨u,hu,rfl⟩:=List.mem_map.1 ht
 obtain⟨a,b,c,d⟩:=h.2 u (Sr.gT hu)
 exact⟨a,b,Fl.uC c,Fl.uC d⟩
end
end Go.Proofs.YtcmiompdjjiojaaGreat
