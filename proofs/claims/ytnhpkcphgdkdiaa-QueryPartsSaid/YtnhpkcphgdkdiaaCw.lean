/- Contracts of codec.Writer's methods. Parts in memory: a slice of parts reads as a list of them. Contracts of the document's own writers (factotumref01: Fixed, N, I, F, B, Flag). -/
import Derived.Test.YtnhpkcphgdkdiaaCd
import Derived.Test.YtnhpkcphgdkdiaaBy
import Derived.Test.YtnhpkcphgdkdiaaFo
import Derived.Lib.SliceRun
namespace Go.Proofs.Ytnhpkcphgdkdiaa
set_option maxRecDepth 100000

section
open Go.RowKit

section
variable {B : Nat} {w w' : World} {p : Nat} {l : List UInt8}
end

def nums (ns : List Int) : List UInt8 := ns.flatMap fun n => Cd.num n.toNat
theorem nums_snoc (ns : List Int) (n : Int) : nums (ns ++ [n]) = nums ns ++ Cd.num n.toNat := by simp [nums]
theorem num_len (n : Nat) : (Cd.num n).length ≤ 9 := by
  have := Cd.wid_pos n
  unfold Cd.num
  split
  · simp
  · simp [Cd.fix_len]; omega
theorem nums_len (ns : List Int) : (nums ns).length ≤ 9 * ns.length := by
  induction ns with
  | nil => simp [nums]
  | cons n ns ih =>
    have := num_len n.toNat
    simp only [nums, List.flatMap_cons, List.length_append, List.length_cons] at ih ⊢
    omega
theorem num_lo {n : Int} (h0 : 0 ≤ n) (h : n < 128) : n = ((Cd.byt n.toNat 0).toNat : Int) ∧ Cd.num n.toNat = [Cd.byt n.toNat 0] := by
  refine ⟨?_, by unfold Cd.num; rw [if_pos (by omega)]⟩
  rw [Cd.byt_nat]; simp; omega
theorem num_hi {n : Int} (h : 128 ≤ n) : 128 + (Cd.wid n.toNat : Int) = ((UInt8.ofNat (128 + Cd.wid n.toNat)).toNat : Int) ∧ Cd.num n.toNat = [UInt8.ofNat (128 + Cd.wid n.toNat)] ++ Cd.fix n.toNat (Cd.wid n.toNat) := by
  have w := Cd.wid_pos n.toNat
  refine ⟨?_, by unfold Cd.num; rw [if_neg (by omega)]; rfl⟩
  rw [UInt8.toNat_ofNat']; omega

theorem zig_minus {n : Int} (h0 : -9223372036854775808 ≤ n) (h1 : n < 0) : IntKind.u64.wrap (IntKind.u64.wrap (2 * IntKind.u64.wrap (wrap64 (-wrap64 (n + 1)))) + 1) = (Cd.zig n : Int) := by
  unfold Cd.zig
  rw [if_pos h1]
  simp only [Fl.wrap_u64, wrap64]
  omega
theorem zig_plus {n : Int} (h1 : n < 9223372036854775808) (h0 : 0 ≤ n) : IntKind.u64.wrap (2 * IntKind.u64.wrap n) = (Cd.zig n : Int) := by
  unfold Cd.zig
  rw [if_neg (by omega)]
  simp only [Fl.wrap_u64]
  omega

end

section
open Go.RowKit

/-- A part, and where its bytes lie. -/
structure MPt where
  pt : Cd.Pt
  A : Option Addr
  c : Nat
def MPt.cells (m : MPt) : List Value := [.int .i64 m.pt.kind, .int .u64 m.pt.n, .int .i64 m.pt.i, .float .f64 m.pt.f, .slice m.A m.pt.b.length m.c, .bool m.pt.is]
def flat (ms : List MPt) : List Value := ms.flatMap MPt.cells
def MPt.fine (m : MPt) (w : World) (B : Nat) (tb : TypeId) : Prop := Lies w B tb m.A (bcells m.pt.b) ∧ m.pt.b.length ≤ m.c
def PL (w : World) (B : Nat) (tp tb : TypeId) (A : Option Addr) (ms : List MPt) : Prop := Lies w B tp A (flat ms) ∧ ∀ m ∈ ms, m.fine w B tb
def pts (ms : List MPt) : List Cd.Pt := ms.map (·.pt)

theorem flat_len (ms : List MPt) : (flat ms).length = ms.length * 6 := by
  induction ms with
  | nil => rfl
  | cons m ms ih => simp only [flat, List.flatMap_cons, List.length_append, List.length_cons] at ih ⊢; rw [ih]; simp [MPt.cells]; omega
theorem flat_snoc (ms : List MPt) (m : MPt) : flat (ms ++ [m]) = flat ms ++ m.cells := by simp [flat]
theorem flat_one (ms : List MPt) : ∀ u ∈ flat ms, u.oneCell' = true := by
  intro u hu
  simp only [flat, List.mem_flatMap] at hu
  obtain ⟨m, _, hm⟩ := hu
  simp only [MPt.cells, List.mem_cons, List.not_mem_nil, or_false] at hm
  rcases hm with rfl | rfl | rfl | rfl | rfl | rfl <;> rfl
theorem flat_at {ms : List MPt} {k : Nat} {m : MPt} (h : ms[k]? = some m) {j : Nat} (hj : j < 6) : (flat ms)[k * 6 + j]? = m.cells[j]? := by
  induction ms generalizing k with
  | nil => simp at h
  | cons q ms ih =>
    have hq : q.cells.length = 6 := rfl
    cases k with
    | zero =>
      simp only [List.getElem?_cons_zero, Option.some.injEq] at h
      subst h
      simp only [flat, List.flatMap_cons, Nat.zero_mul, Nat.zero_add]
      rw [List.getElem?_append_left (by omega)]
    | succ k =>
      simp only [List.getElem?_cons_succ] at h
      have := ih h
      simp only [flat, List.flatMap_cons] at this ⊢
      rw [List.getElem?_append_right (by omega), hq, show (k + 1) * 6 + j - 6 = k * 6 + j by omega]
      exact this
theorem PL.nil {w : World} {B : Nat} {tp tb : TypeId} {A : Option Addr} : PL w B tp tb A [] := ⟨Lies.nil, by simp⟩
section
variable {w w' : World} {B B' : Nat} {tp tb tp' tb' : TypeId} {A : Option Addr} {ms : List MPt}
theorem MPt.fine.tch {m : MPt} (h : m.fine w B tb) {ts : List TypeId} (hT : Tch B ts w w') (h2 : tb ∉ ts) : m.fine w' B tb := ⟨h.1.tch hT h2, h.2⟩
theorem PL.tch (h : PL w B tp tb A ms) {ts : List TypeId} (hT : Tch B ts w w') (h1 : tp ∉ ts) (h2 : tb ∉ ts) : PL w' B tp tb A ms := ⟨h.1.tch hT h1, fun m hm => (h.2 m hm).tch hT h2⟩
theorem PL.below (h : PL w B tp tb A ms) (hB : B ≤ w.heap.size) (hT : Below w.heap.size w w') : PL w' B tp tb A ms := h.tch (Tch.of_below hT hB []) (by simp) (by simp)
theorem PL.more (h : PL w B tp tb A ms) (hB : B ≤ B') : PL w B' tp tb A ms := ⟨h.1.more hB, fun m hm => ⟨(h.2 m hm).1.more hB, (h.2 m hm).2⟩⟩
theorem PL.old (h : PL w B tp tb A ms) : PL w w.heap.size tp' tb' A ms := ⟨h.1.old, fun m hm => ⟨(h.2 m hm).1.old, (h.2 m hm).2⟩⟩
theorem PL.at_ (h : PL w B tp tb A ms) {k : Nat} (hk : k < ms.length) : ∃ ad m, A = some ad ∧ ms[k]? = some m ∧ m.fine w B tb ∧
    w.cell? (ad.add (k * 6)) = some (.int .i64 m.pt.kind) ∧ w.cell? ⟨(ad.add (k * 6)).block, (ad.add (k * 6)).off + 1, none⟩ = some (.int .u64 m.pt.n) ∧
    w.cell? ⟨(ad.add (k * 6)).block, (ad.add (k * 6)).off + 2, none⟩ = some (.int .i64 m.pt.i) ∧ w.cell? ⟨(ad.add (k * 6)).block, (ad.add (k * 6)).off + 3, none⟩ = some (.float .f64 m.pt.f) ∧
    w.cell? ⟨(ad.add (k * 6)).block, (ad.add (k * 6)).off + 4, none⟩ = some (.slice m.A m.pt.b.length m.c) ∧ w.cell? ⟨(ad.add (k * 6)).block, (ad.add (k * 6)).off + 5, none⟩ = some (.bool m.pt.is) := by
  have hx : ms[k]? = some ms[k] := List.getElem?_eq_getElem hk
  obtain ⟨ad, e, _, hc⟩ := h.1 (fun q => by
    have := flat_len ms
    rw [q] at this
    simp at this
    omega)
  have c : ∀ j u, j < 6 → (ms[k]).cells[j]? = some u → w.cell? ((ad.add (k * 6)).add j) = some u := fun j u hj hu => by
    rw [addr_add]
    exact hc _ _ ((flat_at hx hj).trans hu)
  refine ⟨ad, ms[k], e, hx, h.2 _ (List.getElem_mem hk), ?_, ?_, ?_, ?_, ?_, ?_⟩
  · exact c 0 _ (by omega) rfl
  · exact c 1 _ (by omega) rfl
  · exact c 2 _ (by omega) rfl
  · exact c 3 _ (by omega) rfl
  · exact c 4 _ (by omega) rfl
  · exact c 5 _ (by omega) rfl
end

def fewB (l : List Cd.Pt) : Bool := l.all (fun p => decide (p.b.length ≤ 200)) && decide (l.length ≤ 20)

end

section
open Go.RowKit

theorem zig_minus2 {n : Int} (h0 : -9223372036854775808 ≤ n) (h1 : n < 0) : IntKind.u64.wrap (IntKind.u64.wrap (IntKind.u64.wrap (wrap64 (-wrap64 (n + 1))) * 2) + 1) = (Cd.zig n : Int) := by
  rw [← zig_minus h0 h1, Int.mul_comm 2]
theorem zig_plus2 {n : Int} (h1 : n < 9223372036854775808) (h0 : 0 ≤ n) : IntKind.u64.wrap (IntKind.u64.wrap n * 2) = (Cd.zig n : Int) := by
  rw [← zig_plus h1 h0, Int.mul_comm 2]

end
end Go.Proofs.Ytnhpkcphgdkdiaa
