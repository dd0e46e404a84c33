/- Contract of the law's own awake (chapter 2's examples). -/
import Derived.Test.YtobdaiiojclfkaaPu
import Derived.Test.YtobdaiiojclfkaaPs
import Derived.Test.YtobdaiiojclfkaaKn
namespace Go.Proofs.Ytobdaiiojclfkaa
open Go.RowKit

def exPart : MPt := ⟨⟨1, 300, 0, 0, [], false⟩, none, 0⟩
theorem ex_encs : Cd.encs (pts [exPart]) = [130, 1, 44] := by decide +kernel
theorem ex_err : errOf [1] [129, 5] = 20 := by decide +kernel
theorem ex_ok : exPart.pt.ok := by constructor <;> simp [exPart]

theorem own_three {w : World} {B : Nat} {A : Option Addr} {n c : Nat} {x y z : UInt8} (h : w.ownsRow B 5 1 (.slice A n c) 3 (bcells [x, y, z])) :
    ∃ g, A = some ⟨g, 0, none⟩ ∧ n = 3 ∧ g < w.heap.size ∧ w.cell? ⟨g, 0, none⟩ = some (.int .u8 (x.toNat : Int)) ∧ w.cell? ⟨g, 1, none⟩ = some (.int .u8 (y.toNat : Int)) ∧ w.cell? ⟨g, 2, none⟩ = some (.int .u8 (z.toNat : Int)) := by
  obtain ⟨g, cap, hv, _, hlt⟩ := h.form (by omega)
  injection hv with h1 h2 h3
  subst h1; subst h2
  have q := fun j u hu => h.cells (g := g) rfl j u hu
  simp only [addr_at] at q
  exact ⟨g, rfl, rfl, hlt, q 0 _ rfl, q 1 _ rfl, q 2 _ rfl⟩

set_option maxHeartbeats 2000000 in
theorem awake2_c (w : World) :
    Calls Try.prog 7 #[] w fun e w' => e = .returned (.bool true) ∧ Below w.heap.size w w' := by
  have pl : PL (w.alloc (.cells exPart.cells.toArray 39)) (w.heap.size + 1) 39 0 (some ⟨w.heap.size, 0, none⟩) [exPart] := by
    refine ⟨Lies.of_blk (heap_alloc_new w _), ?_⟩
    intro m hm
    rw [List.mem_singleton] at hm
    subst hm
    exact ⟨Lies.nil, Nat.le_refl _⟩
  have HP := Lib.hid pl
  clear pl
  go_enter Try.func7, Try.ntmps7
  go_wp2_with fail
  refine (put_c (ms := [exPart]) HP.out rfl (by intro m hm; rw [List.mem_singleton] at hm; subst hm; exact ex_ok) (by rw [ex_encs]; decide) (by decide)).mono ?_
  rw [ex_encs]
  rintro e w1 ⟨A, n, c, rfl, ho, hb⟩
  obtain ⟨g, rfl, rfl, hg, d0, d1, d2⟩ := own_three ho
  have hz := hb.size
  simp at hz
  have HB := Lib.hid (((Below.refl w.heap.size w).alloc (Nat.le_refl _) _).trans (hb.mono (by simp)))
  clear hb ho
  go_wp2_with fail
  refine (parts_c (ks := [1]) (b := [129, 5]) (B := 0) (tb := 5) (tk := 3) (Lies.of_blk (blk_alloc (heap_alloc_new w1 _) _)) rfl (lies_int w1 1 (g := w1.heap.size + 1) rfl) rfl (by decide) (by decide)).mono ?_
  rintro e w2 ⟨ms, A2, c2, rfl, hpl, hpts, hb2⟩
  rw [ex_err]
  have HB2 := Lib.hid hb2
  have q0 : w2.cell? ⟨g, 0, none⟩ = some (.int .u8 130) := (hb2.cell (by simp; omega)).trans (by rw [World.cell?_alloc_lt _ _ _ (by simp; omega), World.cell?_alloc_lt _ _ _ (by simpa using hg)]; exact d0)
  have q1 : w2.cell? ⟨g, 1, none⟩ = some (.int .u8 1) := (hb2.cell (by simp; omega)).trans (by rw [World.cell?_alloc_lt _ _ _ (by simp; omega), World.cell?_alloc_lt _ _ _ (by simpa using hg)]; exact d1)
  have q2 : w2.cell? ⟨g, 2, none⟩ = some (.int .u8 44) := (hb2.cell (by simp; omega)).trans (by rw [World.cell?_alloc_lt _ _ _ (by simp; omega), World.cell?_alloc_lt _ _ _ (by simpa using hg)]; exact d2)
  have HB3 := Lib.hid (((HB.out.alloc (by omega) _).alloc (by simp; omega) _).trans (hb2.mono (by simp; omega)))
  clear hb2 d0 d1 d2
  go_wp2
  go_ret
  exact ⟨ret_bool (by simp), HB3.out⟩
end Go.Proofs.Ytobdaiiojclfkaa
