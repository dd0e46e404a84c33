/- The library's slices.Chunk over bytes, in pieces of 64: the iterator's contract. -/
import Derived.RangeFuncNested
import Derived.RangeFuncBound
import Derived.RangeFuncCalls
import Derived.RangeFuncLeaves
import Derived.RangeFuncWrites
import Derived.RangeFuncBox
import Derived.Shelf.Abstract
import Derived.Shelf.RegionOpen
import Derived.WalkKit
import Derived.OwnWalkIn
import Derived.TacticsInMore
import Derived.LoopNIn
import Derived.LoopIn
import Derived.Test.YtpnfpeeijghamaaGreatFr
namespace Go.Proofs.YtpnfpeeijghamaaGreat
open Go.RowKit Go.Shelf
set_option maxRecDepth 100000

attribute [local go_sem] Oper.semAt_some

/-- Piece number j of n bytes that lie at the beginning of block g. -/
def cval (g n j : Nat) : Value := .slice (some ⟨g, 64 * j, none⟩) (min 64 (n - 64 * j)) (min 64 (n - 64 * j))
theorem upto_succ (k : Nat) : List.range (k + 1) = List.range k ++ [k] := by simp [List.range_succ]

set_option maxRecDepth 100000 in
set_option maxHeartbeats 2000000 in
theorem chunk1_in (m : Nat) (l Bs Bn g n c : Nat) (hn : n ≤ 1000000) (hnc : n ≤ c) (J Jx : List Nat → World → Prop) (hJd : ∀ s A, J s A → J s A.drew)
    (hY : ∀ pre x W, J pre W → pre.length < (n + 63) / 64 → YieldAt Fence.wide (m - 1) Tryz.prog l #[cval g n x] W fun e W' =>
      (e = .returned (.bool true) ∧ J (pre ++ [x]) W' ∧ (W'.heap[Bs]? = W.heap[Bs]? ∧ W'.heap[Bn]? = W.heap[Bn]?)) ∨ (e = .returned (.bool false) ∧ Jx (pre ++ [x]) W'))
    (W : World) (hBs : W.cell? ⟨Bs, 0, none⟩ = some (.slice (some ⟨g, 0, none⟩) n c)) (hBn : W.cell? ⟨Bn, 0, none⟩ = some (.int .i64 64)) (h0 : J [] W) :
    CallsIn Fence.wide m Tryz.prog 111 #[.func (.yield l) #[] #[], .pointer (some ⟨Bs, 0, none⟩), .pointer (some ⟨Bn, 0, none⟩)] W fun e W' => (∃ v, e = .returned v) ∧
      ((∃ xs, xs = List.range ((n + 63) / 64) ∧ J xs W') ∨ (∃ pre, (∃ k, k ≤ (n + 63) / 64 ∧ pre = List.range k) ∧ Jx pre W')) := by
  refine callsIn_of_wp Tryz.func111 rfl trivial ?_ rfl
  simp only [Tryz.ntmps111, List.size_toArray, List.length_cons, List.length_nil, Nat.reduceAdd, Nat.reduceSub, Array.replicate_succ, Array.replicate_zero, List.push_toArray, List.append_toArray, List.nil_append, List.cons_append]
  gi_wp2
  gi_loopw [4] (fun i wr => ∃ k : Nat, k ≤ (n + 63) / 64 ∧ i = .int .i64 ((64 * k : Nat) : Int) ∧ J (List.range k) wr ∧ wr.cell? ⟨Bs, 0, none⟩ = some (.slice (some ⟨g, 0, none⟩) n c) ∧ wr.cell? ⟨Bn, 0, none⟩ = some (.int .i64 64))
    (fun i _ => n + 64 - (intOf i).toNat)
  case atStart => exact ⟨0, Nat.zero_le _, rfl, h0, hBs, hBn⟩
  case round =>
    obtain ⟨k, hk, rfl, hJs, c1, c2⟩ := hrel
    by_cases hlt : 64 * k < n
    · have hlti : ((64 * k : Nat) : Int) < (n : Int) := by omega
      obtain ⟨e, he⟩ : ∃ e, e = min 64 (n - 64 * k) := ⟨_, rfl⟩
      have hmn : (if ((n - 64 * k : Nat) : Int) < 64 then ((n - 64 * k : Nat) : Int) else 64) = (e : Int) := by split <;> omega
      have e1 : 64 * k + e ≤ n := by omega
      have e2 : 1 ≤ e := by omega
      have hy0 := hY _ k wr.drew (hJd _ _ hJs) (by rw [List.length_range]; omega)
      unfold cval at hy0
      rw [← he] at hy0
      obtain ⟨fn, tmps, assign, body, hy, hR⟩ := hy0
      have HE := Lib.hid he
      clear he
      gi_wp2_with fail
      refine wpIn_wide.2 ?_
      go_region
      clear hmn
      gi_wp2_with fail
      refine ⟨(fun h => by cases h), ?_⟩
      refine hR.mono ?_
      rintro e0 W3 (⟨rfl, hJ3, hk1, hk2⟩ | ⟨rfl, hJx3⟩)
      · have d1 : W3.cell? ⟨Bs, 0, none⟩ = some (.slice (some ⟨g, 0, none⟩) n c) := (World.cell?_of_block hk1).trans c1
        have d2 : W3.cell? ⟨Bn, 0, none⟩ = some (.int .i64 64) := (World.cell?_of_block hk2).trans c2
        have hs : (64 * k : Int) + 64 = ((64 * (k + 1) : Nat) : Int) := by omega
        gi_wp2
        go_roundw
        case rel => exact ⟨k + 1, by have := HE.out; omega, by go_num, by rw [upto_succ]; exact hJ3, d1, d2⟩
        case measure => simp [intOf]; omega
      · gi_wp2
        refine bodyPost_ret (results_none rfl _ _ _) rfl ?_
        exact ⟨⟨_, rfl⟩, .inr ⟨_, ⟨k + 1, by omega, (upto_succ _).symm⟩, hJx3⟩⟩
    · have hlti : ¬ ((64 * k : Nat) : Int) < (n : Int) := by omega
      have ek : k = (n + 63) / 64 := by omega
      gi_wp2
      go_end0
      exact ⟨⟨_, rfl⟩, .inl (by rw [← ek]; exact hJs)⟩

theorem chunk_c {g n c : Nat} {w : World} :
    Calls Tryz.prog 94 #[.slice (some ⟨g, 0, none⟩) n c, .int .i64 64] w fun e w' => e = .returned (.func (.func 111) #[] #[.pointer (some ⟨w.heap.size, 0, none⟩), .pointer (some ⟨w.heap.size + 1, 0, none⟩)]) ∧ w' = (w.alloc (.cells #[.slice (some ⟨g, 0, none⟩) n c] 23)).alloc (.cells #[.int .i64 64] 3) := by
  go_enter Tryz.func94, Tryz.ntmps94
  go_wp2
  go_ret
  exact ⟨rfl, rfl⟩

/-- What the closure reads stays. -/
def KpC (Bs Bn : Nat) (A B : World) : Prop := B.heap[Bs]? = A.heap[Bs]? ∧ B.heap[Bn]? = A.heap[Bn]?
theorem KpC.t {Bs Bn : Nat} {A B C : World} (h : KpC Bs Bn A B) (k : KpC Bs Bn B C) : KpC Bs Bn A C := ⟨k.1.trans h.1, k.2.trans h.2⟩
theorem KpC.b {Bs Bn : Nat} {w : World} (h1 : Bs < w.heap.size) (h2 : Bn < w.heap.size) (W : World) (l : Nat) (o o' : Obj) (hl : w.heap.size ≤ l) (_ : W.heap[l]? = some o) (_ : o.isCells = false) (_ : o.isWalk = false) : KpC Bs Bn W (W.putObj l o') :=
  ⟨World.putObj_heap_other (by omega), World.putObj_heap_other (by omega)⟩
theorem drew_grown (w : World) : w.grownBy w.drew none := ⟨rfl, rfl, rfl, Nat.le_refl _, fun _ _ _ => rfl⟩

theorem chunk_stops (m Bs Bn g n c : Nat) (hn : n ≤ 1000000) (hnc : n ≤ c) (w : World) (h1 : Bs < w.heap.size) (h2 : Bn < w.heap.size)
    (hBs : w.cell? ⟨Bs, 0, none⟩ = some (.slice (some ⟨g, 0, none⟩) n c)) (hBn : w.cell? ⟨Bn, 0, none⟩ = some (.int .i64 64)) :
    SeqStopsK Fence.wide m Tryz.prog 111 #[.pointer (some ⟨Bs, 0, none⟩), .pointer (some ⟨Bn, 0, none⟩)] (fun j : Nat => #[cval g n j]) (KpC Bs Bn)
      (fun xs => xs = List.range ((n + 63) / 64)) (fun pre => ∃ k, k ≤ (n + 63) / 64 ∧ pre = List.range k) ((n + 63) / 64) w := fun l J Jx W hW hJ _ hY h0 =>
  chunk1_in m l Bs Bn g n c hn hnc J Jx (fun s A hs => hJ s A _ none hs (drew_grown A) (fun _ e => by cases e)) hY W ((hW.cell (p := ⟨Bs, 0, none⟩) h1).trans hBs) ((hW.cell (p := ⟨Bn, 0, none⟩) h2).trans hBn) h0
end Go.Proofs.YtpnfpeeijghamaaGreat
