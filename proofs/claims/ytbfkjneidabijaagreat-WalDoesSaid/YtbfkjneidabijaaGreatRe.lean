/- Contracts of codec.Reader's other methods, of bytes.Clone and codec.Read. -/
import Derived.Test.YtbfkjneidabijaaGreatRd
import Derived.Test.YtbfkjneidabijaaGreatCw
namespace Go.Proofs.YtbfkjneidabijaaGreat
open Go.RowKit
set_option maxRecDepth 100000

/-- It returned bytes of its own, and left all that was there alone. -/
def CloneOk (l : List UInt8) (w : World) (e : Ending) (w' : World) : Prop :=
  ∃ A n c, e = .returned (.slice A n c) ∧ w'.ownsRow w.heap.size 5 1 (.slice A n c) l.length (bcells l) ∧ Below w.heap.size w w'

set_option maxHeartbeats 1000000 in
theorem clone_c {A : Option Addr} {n c : Nat} {l : List UInt8} {w : World} {B : Nat} {tb : TypeId} (hL : Lies w B tb A (bcells l)) (hB : B ≤ w.heap.size) (hn : n = l.length) (hs : l.length ≤ 1099511627776) :
    Calls Tryz.prog 81 #[.slice A n c] w (CloneOk l w) := by
  subst hn
  have HL := Lib.hid hL
  clear hL
  obtain ⟨i0, hi, hz0, hz1, hz2⟩ := info_parts Tryz.infoU8
  have q := fun (w : World) a n c n' c' => Lib.run_eql_slice_nil (P := Tryz.prog) w 57 5 a n c n' c' Tryz.underlying57
  cases A with
  | none =>
    have e : l = [] := by
      rcases l with _ | ⟨x, l⟩
      · rfl
      · obtain ⟨ad, q, _⟩ := HL.out (by simp [bcells])
        cases q
    subst e
    go_enter Tryz.func81, Tryz.ntmps81
    go_wp2
    go_ret
    exact ⟨none, 0, 0, rfl, World.ownsRow_nil _ _ _ _, Below.refl _ _⟩
  | some ad =>
    have ho : (w.alloc (.cells #[] 5)).ownsRow w.heap.size 5 1 (.slice (some ⟨w.heap.size, 0, none⟩) 0 0) 0 [] := World.ownsRow_made w #[] 0 (Nat.le_refl _) (by unfold maxLen; omega) rfl
    have HO := Lib.hid ho
    clear ho
    go_enter Tryz.func81, Tryz.ntmps81
    go_wp2_with (at_builtin; refine wpList_app _ rfl _ _ 57 rfl w.heap.size 5 i0 (.int .u8 0) 1 1 Tryz.underlying57 hi hz0 hz1 hz2 rfl (by decide) _ 0 [] rfl HO.out B _ l.length c (bcells l) tb rfl (by rw [bcells_len]; omega) (HL.out.alloc hB _) (bcells_one _) (by unfold maxLen; omega) (by omega) (by simp) ?_)
    intro v' w1 hown' hgrow _
    obtain ⟨A2, k2, rfl⟩ := own_slice hown'
    have T1 := app_below HO.out hgrow
    have ho2 : w1.ownsRow w.heap.size 5 1 (.slice A2 l.length k2) l.length (bcells l) := by simpa using hown'
    have HO2 := Lib.hid ho2
    have HT := Lib.hid T1
    clear hown' ho2 T1 hgrow
    go_wp2
    go_ret
    exact ⟨A2, _, k2, rfl, HO2.out, HT.out⟩

/-- A new reader of bytes. -/
def ReadOk (l : List UInt8) (w : World) (e : Ending) (w' : World) : Prop :=
  ∃ p, e = .returned (.pointer (some ⟨p, 0, none⟩)) ∧ RS 157 w.heap.size 5 w' p (some l) ∧ Below w.heap.size w w'
set_option maxHeartbeats 1000000 in
theorem read_c {A : Option Addr} {n c : Nat} {l : List UInt8} {w : World} {B : Nat} {tb : TypeId} (hL : Lies w B tb A (bcells l)) (hB : B ≤ w.heap.size) (hn : n = l.length) (hs : l.length ≤ 1099511627776) :
    Calls Tryz.prog 93 #[.slice A n c] w (ReadOk l w) := by
  subst hn
  go_enter Tryz.func93, Tryz.ntmps93
  go_wp2_with fail
  refine (clone_c hL hB rfl hs).mono ?_
  rintro e w' ⟨A2, n2, c2, rfl, ho, hb⟩
  obtain ⟨rfl, hc⟩ := own_room ho
  have hz := hb.size
  have hr : RS 157 w.heap.size 5 (w'.alloc (.cells #[.slice A2 l.length c2, .bool false] 157)) w'.heap.size (some l) :=
    ⟨hz, A2, c2, hc, heap_alloc_new w' _, (Lies.of_own (ho.alloc _))⟩
  have HR := Lib.hid hr
  have HB := Lib.hid (hb.alloc hz (.cells #[.slice A2 l.length c2, .bool false] 157))
  clear hr hb ho
  go_wp2
  go_ret
  exact ⟨_, rfl, HR.out, HB.out⟩

theorem full_nat : (18446744073709551615 : Int).toNat = Cd.full := by unfold Cd.full; rfl
theorem zag_odd {x : Nat} (hx : x < 18446744073709551616) (h : x % 2 = 1) : wrap64 (wrap64 (-wrap64 (IntKind.u64.wrap ((x : Int) / 2))) - 1) = Cd.zag x := by
  unfold Cd.zag; rw [if_pos h]; simp only [Fl.wrap_u64, wrap64]; omega
theorem zag_even {x : Nat} (hx : x < 18446744073709551616) (h : ¬ x % 2 = 1) : wrap64 (IntKind.u64.wrap ((x : Int) / 2)) = Cd.zag x := by
  unfold Cd.zag; rw [if_neg h]; simp only [Fl.wrap_u64, wrap64]; omega

theorem rdB_eq (most : Nat) (s : Option (List UInt8)) : Cd.rdB most s = (tk (Cd.rdN most s).1 (Cd.rdN most s).2, (Cd.rdW (Cd.rdN most s).1 (Cd.rdN most s).2).2) := by
  unfold Cd.rdB
  cases h : (Cd.rdN most s).2 with
  | none => rfl
  | some t =>
    simp only [tk, Cd.rdW]
    split <;> rfl

/-- It returned bytes, its own, and turned nothing but a reader. -/
def RBOk (t : TypeId) (B : Nat) (tb : TypeId) (p : Nat) (b : List UInt8) (s : Option (List UInt8)) (w : World) (e : Ending) (w' : World) : Prop :=
  ∃ A n c, e = .returned (.slice A n c) ∧ w'.ownsRow w.heap.size 5 1 (.slice A n c) b.length (bcells b) ∧ RS t B tb w' p s ∧ Tch B [t] w w'

theorem rdW_one (s : Option (List UInt8)) (h : s = none ∨ s = some []) : Cd.rdW 1 s = (0, none) := by
  rcases h with rfl | rfl
  · rfl
  · simp [Cd.rdW]

def leftOf : Option (List UInt8) → Nat
  | none => 0
  | some l => l.length

end Go.Proofs.YtbfkjneidabijaaGreat
