/- Contracts of the document's own Reader. -/
import Derived.Test.YtbfkjneidabijaaRe
import Derived.Test.YtbfkjneidabijaaPt
namespace Go.Proofs.Ytbfkjneidabijaa
open Go.RowKit
set_option maxRecDepth 100000

theorem mul_add_byte (x : Nat) (b : UInt8) : IntKind.u64.wrap (IntKind.u64.wrap ((x : Int) * 256) + IntKind.u64.wrap (b.toNat : Int)) = (((x * 256 + b.toNat) % 18446744073709551616 : Nat) : Int) := by
  have hb : b.toNat < 256 := b.toNat_lt
  simp only [Fl.wrap_u64]; omega

/-- Behind the loop: what is left is cut. -/
theorem number_end {B p : Nat} {t tb : TypeId} {w : World} {l : List UInt8} {n c0 c1 : Nat} {A A1 : Option Addr} {b : Bool} (hB : B ≤ p) (ht : tb ≠ t) (hp : w.heap[p]? = some (.cells #[.slice A l.length c0, .bool b] t (0, 0))) (hb : b = false) (hn : n ≤ l.length) (hc1 : l.length - n ≤ c1)
    (hL1 : Lies w B tb A1 (bcells (l.drop n))) : RS t B tb (w.setCell ⟨p, 0, none⟩ (.slice A1 (l.length - n) c1)) p (Cd.rdW n (some l)).2 ∧ Tch B [t] w (w.setCell ⟨p, 0, none⟩ (.slice A1 (l.length - n) c1)) := by
  subst hb
  have e2 : (Cd.rdW n (some l)).2 = some (l.drop n) := by simp [Cd.rdW, hn]
  have T := (Tch.refl B [t] w).setCell (p := ⟨p, 0, none⟩) hp (by simp) hB (.slice A1 (l.length - n) c1)
  have ht' : tb ∉ [t] := by simpa using ht
  rw [e2]
  exact ⟨⟨hB, A1, c1, by rw [List.length_drop]; omega, by rw [List.length_drop]; exact blk_set hp 0 _, hL1.tch T ht'⟩, T⟩

theorem bad_of {t tb : TypeId} {B p : Nat} {w : World} {s : Option (List UInt8)} (h : RS t B tb w p s) : w.cell? ⟨p, 1, none⟩ = some (.bool s.isNone) := by
  cases s with
  | none => exact cell_snd h.2
  | some l =>
    obtain ⟨_, A, c, _, hp, _⟩ := h
    exact cell_snd hp
theorem lst_of {t tb : TypeId} {B p : Nat} {w : World} {s : Option (List UInt8)} (h : RS t B tb w p s) : ∃ A c, leftOf s ≤ c ∧ w.cell? ⟨p, 0, none⟩ = some (.slice A (leftOf s) c) := by
  cases s with
  | none => exact ⟨none, 0, Nat.le_refl _, cell_fst h.2⟩
  | some l =>
    obtain ⟨_, A, c, hc, hp, _⟩ := h
    exact ⟨A, c, hc, cell_fst hp⟩

end Go.Proofs.Ytbfkjneidabijaa
