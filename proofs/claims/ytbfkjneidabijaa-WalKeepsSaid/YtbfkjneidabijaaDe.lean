/- Contracts of the document's own NewDisk. -/
import Derived.Test.YtbfkjneidabijaaDr
import Derived.IntWalk
namespace Go.Proofs.Ytbfkjneidabijaa
open Go.RowKit
set_option maxRecDepth 100000

theorem Try.infoTexts : (Try.prog.info? 38).map (fun i => (i.zero, i.size, i.bytes)) = some (some (.slice none 0 0), 1, 24) := by kernel_rfl

theorem Try.infoBool : (Try.prog.info? 4).map (fun i => (i.zero, i.size, i.bytes)) = some (some (.bool false), 1, 1) := by kernel_rfl

theorem five {w : World} {p : Nat} {t : TypeId} {a b c d e : Value} (h : w.heap[p]? = some (.cells #[a, b, c, d, e] t (0, 0))) : w.cell? ⟨p, 0, none⟩ = some a ∧ w.cell? ⟨p, 1, none⟩ = some b ∧ w.cell? ⟨p, 2, none⟩ = some c ∧ w.cell? ⟨p, 3, none⟩ = some d ∧ w.cell? ⟨p, 4, none⟩ = some e ∧ (∀ j, w.frozen? ⟨p, j, none⟩ = false) := by
  refine ⟨?_, ?_, ?_, ?_, ?_, fun j => blk_free h j⟩ <;> simp [World.cell?, h]
theorem own_ne {w : World} {base : Nat} {e t : TypeId} {size n p : Nat} {v : Value} {xs : List Value} {o : Array Value} {fr : Nat × Nat} (h : w.ownsRow base e size v n xs) (hp : w.heap[p]? = some (.cells o t fr)) (ht : e ≠ t) : some p ≠ v.ownBlock := fun q => by
  obtain ⟨_, _, _, r⟩ := own_row h p q.symm
  exact blk_ne r hp ht rfl

section
variable {w X w2 : World} {F : Nat → Prop} {p : Nat} {AS AC AB : Option Addr} {cS cC cB : Nat} {ms : List MTx} {cs : List MWr} {bad : List Bool} {left : Int} {dead : Bool}
/-- Where the row's block is behind an append. -/
theorem InF.grow {v : Value} {A2 : Option Addr} {n k2 N : Nat} (hv : ∀ k, v.ownBlock = some k → F k) (h : (Value.slice A2 n k2).ownBlock = v.ownBlock ∨ (Value.slice A2 n k2).ownBlock = some N) (hn : F N) : InF F A2 := fun ad e => by
  subst e
  rcases h with h | h
  · exact hv _ h.symm
  · have q : some ad.block = some N := h
    injection q with q
    rw [q]
    exact hn
end

end Go.Proofs.Ytbfkjneidabijaa
