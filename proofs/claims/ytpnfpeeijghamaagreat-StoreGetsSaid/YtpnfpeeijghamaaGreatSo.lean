/- Contract of the document's own Unslot. -/
import Derived.Test.YtpnfpeeijghamaaGreatSu
import Derived.Test.YtpnfpeeijghamaaGreatRr
import Derived.Deep.RegionHeld3
namespace Go.Proofs.YtpnfpeeijghamaaGreat
open Go.RowKit
set_option maxRecDepth 100000

/-- It returned a number, numbers of its own and an error's number, and left all older memory alone. -/
def NErrOk (B : Nat) (x : Nat × List Nat × Int) (w : World) (e : Ending) (w' : World) : Prop :=
  ∃ A n c, e = .returned (.tuple #[.int .u64 (x.1 : Int), .slice A n c, .int .i64 x.2.2]) ∧ n = x.2.1.length ∧ n ≤ c ∧ w'.ownsRow B 62 1 (.slice A n c) n (ncells x.2.1) ∧ Below B w w'
theorem NErrOk.bad {w w' : World} {er : Int} (h : Below w.heap.size w w') : NErrOk w.heap.size (0, [], er) w (.returned (.tuple #[.int .u64 0, .slice none 0 0, .int .i64 er])) w' :=
  ⟨none, 0, 0, rfl, rfl, Nat.le_refl _, World.ownsRow_nil _ _ _ _, h⟩

namespace Su
theorem unslot_head {b : List UInt8} (h : b.take 2 ≠ [70, 83]) : unslot b = none := by unfold unslot; exact if_neg h
theorem unslot_fail {b : List UInt8} (h : (tell (some (b.drop 2))).2.2 = none) : unslot b = none := by
  unfold unslot
  split
  · exact if_neg (by rw [h]; simp)
  · rfl
theorem unslot_not {b : List UInt8} {g : Nat} {l : List Nat} {s : Option (List UInt8)} (h : tell (some (b.drop 2)) = (g, l, s)) (hi : is b g l = false) : unslot b = none := by
  unfold unslot
  rw [h]
  split
  · exact if_neg (by rw [hi]; simp)
  · rfl
theorem unslot_yes {b : List UInt8} {g : Nat} {l : List Nat} {t : List UInt8} (h0 : b.take 2 = [70, 83]) (h : tell (some (b.drop 2)) = (g, l, some t)) (hi : is b g l = true) : unslot b = some (g, l) := by
  unfold unslot
  rw [if_pos h0, h, if_pos ⟨rfl, hi⟩]
end Su

theorem short_rdN {N m : Nat} {s : Option (List UInt8)} (h : ∀ l, s = some l → l.length ≤ N) : ∀ l, (Cd.rdN m s).2 = some l → l.length ≤ N := by
  intro t ht
  cases s with
  | none => cases ht
  | some l =>
    have q := (Cd.read_num (Cd.pair_of ht)).1
    have := congrArg List.length q
    rw [List.length_append] at this
    have := h l rfl
    omega
theorem short_rdL {N : Nat} {s : Option (List UInt8)} (h : ∀ l, s = some l → l.length ≤ N) (k : Nat) : ∀ l, (Su.rdL k s).2 = some l → l.length ≤ N := by
  induction k generalizing s with
  | zero => exact h
  | succ k ih => exact ih (short_rdN h)
theorem napp_step {B : Nat} {w w1 : World} {v : Value} {n : Nat} {xs : List Value} (h : w.ownsRow B 62 1 v n xs) (hg : w.grownBy w1 v.ownBlock) (hB : B ≤ w.heap.size) : Tch B [62] w w1 :=
  grown_tch h hg (Nat.le_refl _) hB (by decide)
theorem lies_num {w : World} {x : Nat} {g : Nat} (hg : g = w.heap.size) : Lies (w.alloc (.cells #[.int .u64 (x : Int)] 62)) 0 62 (some ⟨g, 0, none⟩) (ncells [x]) := by
  subst hg
  exact Lies.of_blk (heap_alloc_new w _)
theorem lt_two {l : List UInt8} (h : ¬ l.length < 2) : ∃ x y t, l = x :: y :: t := by
  rcases l with _ | ⟨a, _ | ⟨b, t⟩⟩
  · simp at h
  · simp at h
  · exact ⟨a, b, t, rfl⟩
theorem u8_ne {x : UInt8} {k : Nat} (hk : k < 256) (h : x ≠ UInt8.ofNat k) : ((x.toNat : Int) != (k : Int)) = true := by
  have q : x.toNat ≠ k := fun q => h (UInt8.toNat_inj.1 (by rw [q, UInt8.toNat_ofNat', Nat.mod_eq_of_lt hk]))
  simp; omega

end Go.Proofs.YtpnfpeeijghamaaGreat
