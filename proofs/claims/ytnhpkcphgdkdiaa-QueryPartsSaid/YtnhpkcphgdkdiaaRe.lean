/- Contracts of codec.Reader's methods. Contracts of codec.Reader's other methods, of bytes.Clone and codec.Read. -/
import Derived.Test.YtnhpkcphgdkdiaaCd
import Derived.Test.YtnhpkcphgdkdiaaFo
import Derived.Lib.SliceRun
import Derived.Laws.BitsAllLaws
import Derived.Test.YtnhpkcphgdkdiaaCw
namespace Go.Proofs.Ytnhpkcphgdkdiaa
set_option maxRecDepth 100000

section
open Go.RowKit

/-- A reader (of a struct type t: what is left, and whether it has failed) in block p: what it has left; none: it has failed. -/
def RS (t : TypeId) (B : Nat) (tb : TypeId) (w : World) (p : Nat) (s : Option (List UInt8)) : Prop :=
  B ≤ p ∧ match s with
  | none => w.heap[p]? = some (.cells #[.slice none 0 0, .bool true] t (0, 0))
  | some l => ∃ A c, l.length ≤ c ∧ w.heap[p]? = some (.cells #[.slice A l.length c, .bool false] t (0, 0)) ∧ Lies w B tb A (bcells l)

section
variable {t tb : TypeId} {B p : Nat} {w w' : World} {s : Option (List UInt8)}
theorem RS.tch (h : RS t B tb w p s) {ts : List TypeId} (hT : Tch B ts w w') (h1 : t ∉ ts) (h2 : tb ∉ ts) : RS t B tb w' p s := by
  refine ⟨h.1, ?_⟩
  cases s with
  | none => exact hT.blk h.2 h1
  | some l =>
    obtain ⟨_, A, c, hc, hp, hL⟩ := h
    exact ⟨A, c, hc, hT.blk hp h1, hL.tch hT h2⟩
theorem RS.size (h : RS t B tb w p s) : B ≤ w.heap.size := by
  obtain ⟨hB, h⟩ := h
  cases s with
  | none => have := lt_of_block h; omega
  | some l =>
    obtain ⟨A, c, _, hp, _⟩ := h
    have := lt_of_block hp
    omega
theorem RS.below (h : RS t B tb w p s) (hT : Below w.heap.size w w') : RS t B tb w' p s := h.tch (Tch.of_below hT h.size []) (by simp) (by simp)
theorem RS.alloc (h : RS t B tb w p s) (o : Obj) : RS t B tb (w.alloc o) p s := h.below ((Below.refl _ _).alloc (Nat.le_refl _) o)
end

theorem cell_fst {w : World} {g : Nat} {x y : Value} {t : TypeId} {fr : Nat × Nat} (h : w.heap[g]? = some (.cells #[x, y] t fr)) : w.cell? ⟨g, 0, none⟩ = some x := by simp [World.cell?, h]
theorem cell_snd {w : World} {g : Nat} {x y : Value} {t : TypeId} {fr : Nat × Nat} (h : w.heap[g]? = some (.cells #[x, y] t fr)) : w.cell? ⟨g, 1, none⟩ = some y := by simp [World.cell?, h]

/-- What take hands out. -/
def tk (n : Nat) : Option (List UInt8) → List UInt8
  | none => []
  | some l => if n ≤ l.length then l.take n else []
def TakeOk (t : TypeId) (B : Nat) (tb : TypeId) (p : Nat) (b : List UInt8) (s : Option (List UInt8)) (w : World) (e : Ending) (w' : World) : Prop :=
  ∃ A c, e = .returned (.slice A b.length c) ∧ b.length ≤ c ∧ Lies w' B tb A (bcells b) ∧ RS t B tb w' p s ∧ Tch B [t] w w'

theorem take_end {B p : Nat} {t tb : TypeId} {w : World} {l : List UInt8} {n c c0 c1 : Nat} {A A1 : Option Addr} {b : Bool} (hB : B ≤ p) (ht : tb ≠ t) (hp : w.heap[p]? = some (.cells #[.slice A l.length c0, .bool b] t (0, 0))) (hb : b = false) (hn : n ≤ l.length) (hc : n ≤ c) (hc1 : l.length - n ≤ c1)
    (hL : Lies w B tb A (bcells l)) (hL1 : Lies w B tb A1 (bcells (l.drop n))) : TakeOk t B tb p (tk n (some l)) (Cd.rdW n (some l)).2 w (.returned (.slice A n c)) (w.setCell ⟨p, 0, none⟩ (.slice A1 (l.length - n) c1)) := by
  subst hb
  have e1 : tk n (some l) = l.take n := by simp [tk, hn]
  have e2 : (Cd.rdW n (some l)).2 = some (l.drop n) := by simp [Cd.rdW, hn]
  have e3 : (l.take n).length = n := by rw [List.length_take]; omega
  have T := (Tch.refl B [t] w).setCell (p := ⟨p, 0, none⟩) hp (by simp) hB (.slice A1 (l.length - n) c1)
  have ht' : tb ∉ [t] := by simpa using ht
  rw [e1, e2]
  refine ⟨A, c, by rw [e3], by omega, ?_, ⟨hB, A1, c1, by rw [List.length_drop]; omega, ?_, ?_⟩, T⟩
  · rw [← bcells_take]; exact (hL.take n).tch T ht'
  · rw [List.length_drop]; exact blk_set hp 0 _
  · exact hL1.tch T ht'

theorem or_byte (x : Nat) (b : UInt8) : bits .or .u64 (IntKind.u64.wrap ((x : Int) * 256)) (IntKind.u64.wrap (b.toNat : Int)) = (((x * 256 + b.toNat) % 18446744073709551616 : Nat) : Int) := by
  have hb : b.toNat < 2 ^ 8 := b.toNat_lt
  have e1 : IntKind.u64.wrap ((x : Int) * 256) = ((x % 72057594037927936 * 256 : Nat) : Int) := by rw [Fl.wrap_u64]; omega
  have e2 : IntKind.u64.wrap (b.toNat : Int) = (b.toNat : Int) := by rw [Fl.wrap_u64]; omega
  rw [e1, e2, u64_or_nat _ _ (by omega) (by omega)]
  have e3 := Nat.shiftLeft_add_eq_or_of_lt hb (x % 72057594037927936)
  rw [Nat.shiftLeft_eq, show 2 ^ 8 = 256 from rfl] at e3
  rw [← e3]
  omega

theorem rdW_head (b : UInt8) (t : List UInt8) : Cd.rdW 1 (some (b :: t)) = (b.toNat, some t) := by
  simp only [Cd.rdW, List.length_cons]
  rw [if_pos (by omega)]
  simp [Cd.val_one]

end

section
open Go.RowKit

/-- It returned bytes of its own, and left all that was there alone. -/
def CloneOk (l : List UInt8) (w : World) (e : Ending) (w' : World) : Prop :=
  ∃ A n c, e = .returned (.slice A n c) ∧ w'.ownsRow w.heap.size 5 1 (.slice A n c) l.length (bcells l) ∧ Below w.heap.size w w'

theorem full_nat : (18446744073709551615 : Int).toNat = Cd.full := by unfold Cd.full; rfl
theorem zag_odd {x : Nat} (hx : x < 18446744073709551616) (h : x % 2 = 1) : wrap64 (wrap64 (-wrap64 (IntKind.u64.wrap ((x : Int) / 2))) - 1) = Cd.zag x := by
  unfold Cd.zag; rw [if_pos h]; simp only [Fl.wrap_u64, wrap64]; omega
theorem zag_even {x : Nat} (hx : x < 18446744073709551616) (h : ¬ x % 2 = 1) : wrap64 (IntKind.u64.wrap ((x : Int) / 2)) = Cd.zag x := by
  unfold Cd.zag; rw [if_neg h]; simp only [Fl.wrap_u64, wrap64]; omega

theorem rdB_eq (most : Nat) (s : Option (List UInt8)) : Cd.rdB most s = (tk (Cd.rdN most s).1 (Cd.rdN most s).2, (Cd.rdW (Cd.rdN most s).1 (Cd.rdN most s).2).2) := by
  unfold Cd.rdB
  cases h : (Cd.rdN most s).2 with
  | none => rfl
  | some t =>
    simp only [tk, Cd.rdW]
    split <;> rfl

/-- It returned bytes, its own, and turned nothing but a reader. -/
def RBOk (t : TypeId) (B : Nat) (tb : TypeId) (p : Nat) (b : List UInt8) (s : Option (List UInt8)) (w : World) (e : Ending) (w' : World) : Prop :=
  ∃ A n c, e = .returned (.slice A n c) ∧ w'.ownsRow w.heap.size 5 1 (.slice A n c) b.length (bcells b) ∧ RS t B tb w' p s ∧ Tch B [t] w w'

theorem rdW_one (s : Option (List UInt8)) (h : s = none ∨ s = some []) : Cd.rdW 1 s = (0, none) := by
  rcases h with rfl | rfl
  · rfl
  · simp [Cd.rdW]

def leftOf : Option (List UInt8) → Nat
  | none => 0
  | some l => l.length

def endOf : Option (List UInt8) → Int
  | some [] => 0
  | _ => 20
end
end Go.Proofs.Ytnhpkcphgdkdiaa
