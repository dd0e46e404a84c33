import Derived.Test.YtpphmbfghfmdlaaGreatZ4
import Derived.LoopN
import Derived.Deep.Draws
namespace Go.Proofs.YtpphmbfghfmdlaaGreat
set_option maxRecDepth 100000
section
open Go.RowKit
namespace Fl
def addO (o : Option Nat) (x : Nat) : Option Nat := o.bind fun t => floatBits .add .f64 t x
def sumO (B : Nat → Nat) : Nat → Option Nat
 | 0 => some 0
 | k + 1 => if isN (B k) = true then sumO B k else addO (sumO B k) (B k)
def Rel (o : Option Nat) (t : Nat) : Prop := (∃ r, o = some r ∧ t = r) ∨ (o = none ∧ isN t = true)
def canonO (o : Option Nat) : Nat := match o with | some r => canon r | none => eQ
theorem Rel.canon {o : Option Nat} {t : Nat} (h : Rel o t) : Fl.canon t = canonO o := by
 rcases h with ⟨r, rfl, rfl⟩ | ⟨rfl, h⟩
 ·rfl
 ·exact kK h
theorem add_nan {t : Nat} (h : isN t = true) (x : Nat) : floatBits .add .f64 t x = none := by
 obtain ⟨n, u, e⟩ := mi FloatKind.f64.format t oQ (by rw [jV, kE]; exact of_decide_eq_true h)
 show FloatKind.f64.format.add t x = none
 unfold Ieee.Format.add
 rw [e]; rfl
theorem Rel.some {o : Option Nat} {t x r : Nat} (h : Rel o t) (e : floatBits .add .f64 t x = some r) : Rel (addO o x) r := by
 rcases h with ⟨q, rfl, rfl⟩ | ⟨rfl, h⟩
 ·exact Or.inl ⟨r, e, rfl⟩
 ·rw [add_nan h] at e; cases e
theorem Rel.none {o : Option Nat} {t x r : Nat} (h : Rel o t) (e : floatBits .add .f64 t x = none) (hr : isN r = true) : Rel (addO o x) r := by
 rcases h with ⟨q, rfl, rfl⟩ | ⟨rfl, h⟩
 ·exact Or.inr ⟨e, hr⟩
 ·exact Or.inr ⟨rfl, hr⟩
end Fl
@[go_sem] theorem cls_ne (b : Nat) : (Fl.cls b != 0) = !Fl.isN b := by rw [bne, Fl.jL]
namespace Fl
def ahead (up : Bool) (x y : Nat) : Bool := if up = true then lt y x else lt x y
def uM (up : Bool) (B : Nat → Nat) : Nat → Nat
 | 0 => eQ
 | k + 1 => if isN (B k) = true then uM up B k else if isN (uM up B k) = true ∨ ahead up (B k) (uM up B k) = true then B k else uM up B k
end Fl
set_option maxHeartbeats 400000 in
theorem w_ (w : World) :
  Calls Tryz.prog 75 #[] w fun e w' => e = .returned (.float .f64 Fl.eQ) ∧ w = w' := by
 go_enter Tryz.func75, Tryz.ntmps75
 go_wp2_with fail
 go_ret
 exact ⟨rfl, rfl⟩
set_option maxHeartbeats 1000000 in
theorem lV (a : Option Addr) (cap : Nat) (B : Nat → Nat) (w : World) :
  Calls Tryz.prog 89 #[.slice a 0 cap] w fun e w' => e = .returned (.float .f64 (Fl.canon (Fl.uM false B 0))) ∧ w = w' := by
 go_enter Tryz.func89, Tryz.ntmps89
 go_wp2_with (first
    | (go_at_call 75; refine (w_ _).mono ?_; rintro e w' ⟨rfl, rfl⟩)
    | (go_at_call 91; refine (eX _ _).mono ?_; rintro e w' ⟨rfl, rfl⟩))
 refine wp_loop_rounds 1 ?_
 rw [rounds_succ]
 go_wp2_with (first
    | (go_at_call 75; refine (w_ _).mono ?_; rintro e w' ⟨rfl, rfl⟩)
    | (go_at_call 91; refine (eX _ _).mono ?_; rintro e w' ⟨rfl, rfl⟩))
 go_ret
 exact ⟨rfl, rfl⟩
end
end Go.Proofs.YtpphmbfghfmdlaaGreat
