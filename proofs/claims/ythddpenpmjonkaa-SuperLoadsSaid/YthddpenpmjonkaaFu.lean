/- Contracts of the document's own Frame and Unframe. Contract of the document's own Unframe. -/
import Derived.Test.YthddpenpmjonkaaFr
import Derived.Test.YthddpenpmjonkaaBy
import Derived.Test.YthddpenpmjonkaaCs
import Derived.Deep.RegionHeld3
import Derived.Deep.QuietTactic
import Derived.BigQuiet
import Derived.IntWalk
namespace Go.Proofs.Ythddpenpmjonkaa
open Go.RowKit
set_option maxRecDepth 100000

theorem sum_nat (l : List UInt8) : ((Crc.sum l : Int)).toNat = Crc.sum l := Int.toNat_natCast _

/-- The second and the third byte. -/
theorem Fr.two {l : List UInt8} (h : 3 ≤ l.length) : ∃ x y : UInt8, l[1]? = some x ∧ l[2]? = some y ∧ (x.toNat : Int) * 256 + (y.toNat : Int) = (Fr.long l : Int) ∧ Fr.long l < 65536 := by
  obtain ⟨a, b, c, t, rfl⟩ : ∃ a b c t, l = a :: b :: c :: t := by
    rcases l with _ | ⟨a, _ | ⟨b, _ | ⟨c, t⟩⟩⟩
    · simp at h
    · simp at h
    · simp at h
    · exact ⟨a, b, c, t, rfl⟩
  have := b.toNat_lt
  have := c.toNat_lt
  refine ⟨b, c, rfl, rfl, ?_, ?_⟩
  · simp [Fr.long]
  · simp [Fr.long]; omega

/-- What Unframe (and frame.Of) returned: a body that lies below block B or in a block of bytes, how long its frame is, the error's number. -/
def OfOk (B : Nat) (r : Option (List UInt8)) (w : World) (e : Ending) (w' : World) : Prop :=
  ∃ (A : Option Addr) (n c : Nat) (k er : Int), e = .returned (.tuple #[.slice A n c, .int .i64 k, .int .i64 er]) ∧ Below w.heap.size w w' ∧
    n ≤ c ∧ (∀ b, r = some b → n = b.length ∧ Lies w' B 5 A (bcells b) ∧ k = 7 + (b.length : Int) ∧ er = 0) ∧ (r = none → n = 0 ∧ k = 0 ∧ er = 40)
theorem OfOk.bad {w w' : World} {B : Nat} {A : Option Addr} {c : Nat} (h : Below w.heap.size w w') : OfOk B none w (.returned (.tuple #[.slice A 0 c, .int .i64 0, .int .i64 40])) w' :=
  ⟨A, 0, c, 0, 40, rfl, h, Nat.zero_le _, by simp, by simp⟩
theorem OfOk.good {w w' : World} {B : Nat} {A : Option Addr} {b : List UInt8} {n c : Nat} {k : Int} (h : Below w.heap.size w w') (hn : n = b.length) (hc : n ≤ c) (hL : Lies w' B 5 A (bcells b)) (hk : k = 7 + (b.length : Int)) : OfOk B (some b) w (.returned (.tuple #[.slice A n c, .int .i64 k, .int .i64 0])) w' :=
  ⟨A, n, c, k, 0, rfl, h, hc, fun d hd => by injection hd with hd; subst hd; exact ⟨hn, hL, hk, rfl⟩, by simp⟩