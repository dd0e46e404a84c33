/- Deeds in memory: what is done with a disk. -/
import Derived.Test.YtogobeinckgjmaaTx
namespace Go.Proofs.Ytogobeinckgjmaa
open Go.RowKit

namespace Dk
/-- A deed, plain. -/
structure Dd where
  kind : Int
  at_ : Int
  b : List UInt8
  n : Int
  keep : List Bool
def Dd.ok (x : Dd) : Prop := (-9223372036854775808 ≤ x.kind ∧ x.kind < 9223372036854775808) ∧ (-9223372036854775808 ≤ x.at_ ∧ x.at_ < 9223372036854775808) ∧ (-9223372036854775808 ≤ x.n ∧ x.n < 9223372036854775808)
def few (l : List Dd) : Bool := l.all (fun x => decide (x.b.length ≤ 100) && decide (x.keep.length ≤ 50)) && decide (l.length ≤ 40)
theorem few_len {l : List Dd} (h : few l = true) : l.length ≤ 40 ∧ ∀ x ∈ l, x.b.length ≤ 100 ∧ x.keep.length ≤ 50 := by
  unfold few at h
  rw [Bool.and_eq_true, List.all_eq_true, decide_eq_true_eq] at h
  exact ⟨h.2, fun x hx => by have := h.1 x hx; simpa using this⟩
end Dk

/-- A deed, and where its lists lie. -/
structure MDd where
  x : Dk.Dd
  A : Option Addr
  c : Nat
  KA : Option Addr
  Kc : Nat
def MDd.cells (m : MDd) : List Value := [.int .i64 m.x.kind, .int .i64 m.x.at_, .slice m.A m.x.b.length m.c, .int .i64 m.x.n, .slice m.KA m.x.keep.length m.Kc]
def dcells (l : List MDd) : List Value := l.flatMap MDd.cells
def dds (l : List MDd) : List Dk.Dd := l.map (·.x)
def MDd.fine (m : MDd) (w : World) (B : Nat) : Prop := (Lies w B 0 m.A (bcells m.x.b) ∧ m.x.b.length ≤ m.c) ∧ Lies w B 0 m.KA (m.x.keep.map Value.bool) ∧ m.x.keep.length ≤ m.Kc
def DL (w : World) (B : Nat) (A : Option Addr) (l : List MDd) : Prop := Lies w B 0 A (dcells l) ∧ ∀ m ∈ l, m.fine w B

theorem dcells_len (l : List MDd) : (dcells l).length = l.length * 5 := by
  induction l with
  | nil => rfl
  | cons m l ih => simp only [dcells, List.flatMap_cons, List.length_append, List.length_cons] at ih ⊢; rw [ih]; simp [MDd.cells]; omega
theorem dcells_at {l : List MDd} {k : Nat} {m : MDd} (h : l[k]? = some m) {j : Nat} (hj : j < 5) : (dcells l)[k * 5 + j]? = m.cells[j]? := by
  induction l generalizing k with
  | nil => simp at h
  | cons q l ih =>
    have hq : q.cells.length = 5 := rfl
    cases k with
    | zero =>
      simp only [List.getElem?_cons_zero, Option.some.injEq] at h
      subst h
      simp only [dcells, List.flatMap_cons, Nat.zero_mul, Nat.zero_add]
      rw [List.getElem?_append_left (by omega)]
    | succ k =>
      simp only [List.getElem?_cons_succ] at h
      have := ih h
      simp only [dcells, List.flatMap_cons] at this ⊢
      rw [List.getElem?_append_right (by omega), hq, show (k + 1) * 5 + j - 5 = k * 5 + j by omega]
      exact this
theorem dds_len (l : List MDd) : (dds l).length = l.length := by simp [dds]
section
variable {w w' : World} {B : Nat} {A : Option Addr} {l : List MDd}
theorem DL.nil : DL w B A [] := ⟨Lies.nil, by simp⟩
theorem MDd.fine.below {m : MDd} (h : m.fine w B) (hB : B ≤ w.heap.size) (hT : Below w.heap.size w w') : m.fine w' B := ⟨⟨h.1.1.below hB hT, h.1.2⟩, h.2.1.below hB hT, h.2.2⟩
theorem DL.below (h : DL w B A l) (hB : B ≤ w.heap.size) (hT : Below w.heap.size w w') : DL w' B A l := ⟨h.1.below hB hT, fun m hm => (h.2 m hm).below hB hT⟩
theorem DL.at_ (h : DL w B A l) {k : Nat} (hk : k < l.length) : ∃ ad m, A = some ad ∧ l[k]? = some m ∧ m.fine w B ∧
    w.cell? (ad.add (k * 5)) = some (.int .i64 m.x.kind) ∧ w.cell? ⟨(ad.add (k * 5)).block, (ad.add (k * 5)).off + 1, none⟩ = some (.int .i64 m.x.at_) ∧
    w.cell? ⟨(ad.add (k * 5)).block, (ad.add (k * 5)).off + 2, none⟩ = some (.slice m.A m.x.b.length m.c) ∧ w.cell? ⟨(ad.add (k * 5)).block, (ad.add (k * 5)).off + 3, none⟩ = some (.int .i64 m.x.n) ∧
    w.cell? ⟨(ad.add (k * 5)).block, (ad.add (k * 5)).off + 4, none⟩ = some (.slice m.KA m.x.keep.length m.Kc) := by
  have hx : l[k]? = some l[k] := List.getElem?_eq_getElem hk
  obtain ⟨ad, e, _, hc⟩ := h.1 (fun q => by
    have := dcells_len l
    rw [q] at this
    simp at this
    omega)
  have c : ∀ j u, j < 5 → (l[k]).cells[j]? = some u → w.cell? ((ad.add (k * 5)).add j) = some u := fun j u hj hu => by
    rw [addr_add]
    exact hc _ _ ((dcells_at hx hj).trans hu)
  refine ⟨ad, l[k], e, hx, h.2 _ (List.getElem_mem hk), ?_, ?_, ?_, ?_, ?_⟩
  · exact c 0 _ (by omega) rfl
  · exact c 1 _ (by omega) rfl
  · exact c 2 _ (by omega) rfl
  · exact c 3 _ (by omega) rfl
  · exact c 4 _ (by omega) rfl
end

set_option maxHeartbeats 1000000 in
set_option maxRecDepth 100000 in
theorem few5_c {A : Option Addr} {c n : Nat} {l : List MDd} {w : World} {B : Nat} (h : DL w B A l) (hB : B ≤ w.heap.size) (hn : n = l.length) (hs : n ≤ 9223372036854775807) :
    Calls Try.prog 8 #[.slice A n c] w fun e w' => e = .returned (.bool (Dk.few (dds l))) ∧ Below w.heap.size w w' := by
  have HP := Lib.hid h
  clear h
  subst hn
  have NO : ∀ m ∈ l, ¬ (m.x.b.length ≤ 100 ∧ m.x.keep.length ≤ 50) → Dk.few (dds l) = false := by
    intro m hm hq
    unfold Dk.few dds
    have : (l.map (·.x)).all (fun x => decide (x.b.length ≤ 100) && decide (x.keep.length ≤ 50)) = false := by
      rw [List.all_eq_false]
      exact ⟨m.x, List.mem_map.2 ⟨m, hm, rfl⟩, by simpa using hq⟩
    rw [this]; rfl
  have NX := Lib.hid NO
  clear NO
  go_enter Try.func8, Try.ntmps8
  go_wp2_with fail
  go_loopw [7] (fun i wr => ∃ k : Nat, k ≤ l.length ∧ i = .int .i64 k ∧ (∀ m ∈ l.take k, m.x.b.length ≤ 100 ∧ m.x.keep.length ≤ 50) ∧ Below w.heap.size w wr) (fun i _ => l.length - (intOf i).toNat)
  case atStart => exact ⟨0, by omega, rfl, by simp, Below.refl _ _⟩
  case round =>
    obtain ⟨k, hk, rfl, hall, hb⟩ := hrel
    have HA := Lib.hid hall
    clear hall
    by_cases hlt : k < l.length
    · obtain ⟨ad, m, rfl, hm, _, d0, d1, d2, d3, d4⟩ := (HP.out.below hB hb).at_ hlt
      have HM := Lib.hid hm
      clear hm
      by_cases hl : m.x.b.length ≤ 100
      · by_cases hk2 : m.x.keep.length ≤ 50
        · go_wp2
          go_roundw
          case rel =>
            refine ⟨k + 1, by omega, by go_num, ?_, hb.alloc hb.size _⟩
            rw [take_next HM.out]
            intro q hq
            rw [List.mem_append, List.mem_singleton] at hq
            rcases hq with hq | rfl
            · exact HA.out q hq
            · exact ⟨hl, hk2⟩
          case measure => simp [intOf]; omega
        · go_wp2
          go_ret
          exact ⟨ret_bool (NX.out m (List.mem_of_getElem? HM.out) (fun q => hk2 q.2)).symm, hb.alloc hb.size _⟩
      · go_wp2
        go_ret
        exact ⟨ret_bool (NX.out m (List.mem_of_getElem? HM.out) (fun q => hl q.1)).symm, hb.alloc hb.size _⟩
    · obtain rfl : k = l.length := by omega
      go_wp2
      go_ret
      refine ⟨ret_bool ?_, hb⟩
      have ha := HA.out
      rw [List.take_length] at ha
      unfold Dk.few dds
      have : (l.map (·.x)).all (fun x => decide (x.b.length ≤ 100) && decide (x.keep.length ≤ 50)) = true := by
        rw [List.all_eq_true]
        intro x hx
        obtain ⟨m, hm, rfl⟩ := List.mem_map.1 hx
        simpa using ha m hm
      rw [this, List.length_map, Bool.true_and]
      try (rw [Bool.eq_iff_iff]; simp)
      try omega
end Go.Proofs.Ytogobeinckgjmaa
