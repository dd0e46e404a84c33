/- Stage 9: lists and tasks by their Ids (written by wip/gen9find.py). -/
import Derived.Test.YtnhpkcphgdkdiaaTy
import Derived.Test.YtnhpkcphgdkdiaaTs
namespace Go.Proofs.Ytnhpkcphgdkdiaa
open Go.RowKit Go.Lib
set_option maxRecDepth 100000

namespace T9
def findL (ls : List Li) (id : Nat) : Li × Bool := match ls.find? (fun l => l.id == id) with | some l => (l, true) | none => (⟨0, []⟩, false)
def findK (ts : List Tk) (id : Nat) : Tk × Bool := match ts.find? (fun t => t.id == id) with | some t => (t, true) | none => (⟨0, 0, [], false, 0, 0, []⟩, false)
end T9
theorem find_hit {α : Type} {ls : List α} {p : α → Bool} {k : Nat} {l : α} (h : (ls.take k).find? p = none) (hl : ls[k]? = some l) (hp : p l = true) : ls.find? p = some l := by
  obtain ⟨q1, q2⟩ := List.getElem?_eq_some_iff.1 hl
  rw [← List.take_append_drop k ls, List.find?_append, h, List.drop_eq_getElem_cons q1, q2, List.find?_cons_of_pos hp]
  rfl
theorem find_miss {α : Type} {ls : List α} {p : α → Bool} {k : Nat} {l : α} (h : (ls.take k).find? p = none) (hl : ls[k]? = some l) (hp : p l = false) : (ls.take (k + 1)).find? p = none := by
  rw [take_nxt hl, List.find?_append, h]
  simp [hp]
@[go_sem] theorem buildL9 (w : World) : (Instr.build 49 #[]).run Try.prog w = .ok (.agg #[.int .u64 0, .string ⟨#[]⟩]) w := run_build w 49 _ _ (by kernel_rfl)
@[go_sem] theorem buildK9 (w : World) : (Instr.build 32 #[]).run Try.prog w = .ok (.agg #[.int .u64 0, .int .u64 0, .string ⟨#[]⟩, .bool false, .float .f64 0, .float .f64 0, .slice none 0 0]) w := run_build w 32 _ _ (by kernel_rfl)
def FLOk (ls : List T9.Li) (id : Nat) (w : World) (e : Ending) (w' : World) : Prop := e = .returned (.tuple #[.agg (encL (T9.findL ls id).1).toArray, .bool (T9.findL ls id).2]) ∧ Below w.heap.size w w'

set_option maxHeartbeats 1000000 in
theorem refList_c {A A2 : Option Addr} {n1 n2 c c2 : Nat} {ls : List T9.Li} {w : World} (hl : LL w A ls) (e1 : n1 = ls.length) (hs : n1 ≤ 1000000) (id : Nat) :
    Calls Try.prog 53 #[.agg #[.slice A n1 c, .slice A2 n2 c2], .int .u64 (id : Int)] w (FLOk ls id w) := by
  have E1 := Lib.hid e1
  obtain ⟨w0, hw0⟩ : ∃ u, w.alloc (.cells #[.slice A n1 c, .slice A2 n2 c2] 25) = u := ⟨_, rfl⟩
  obtain ⟨pb0, b0, z0⟩ := new_two hw0
  obtain ⟨w1, hw1⟩ : ∃ u, w0.alloc (.cells #[.int .u64 0, .string ⟨#[]⟩] 49) = u := ⟨_, rfl⟩
  obtain ⟨pb1, b1, z1⟩ := new_two hw1
  have z1' : w1.heap.size = w.heap.size + 2 := by omega
  have pb := (b1.block w.heap.size (by omega)).trans pb0
  have PB := Lib.hid pb
  rw [z0] at pb1
  have PR := Lib.hid pb1
  have B1 : Hid (Below w.heap.size w w1) := Lib.hid (b0.trans (b1.mono (by omega)))
  have HL := Lib.hid (hl.stay B1.out)
  have Z0 := Lib.hid z0
  have Z1 := Lib.hid z1'
  obtain ⟨p0, p1⟩ := two_cells pb
  clear hl e1 pb0 b0 pb1 b1 z1 z1' pb
  go_enter Try.func53, Try.ntmps53
  go_wp2
  go_loopw [11] (fun s11 wr => ∃ i : Nat, s11 = .int .i64 i ∧ i ≤ n1 ∧ Hid ((ls.take i).find? (fun l => l.id == id) = none) ∧ Aside (Below w1.heap.size w1 wr)) (fun s11 _ => n1 - (intOf s11).toNat)
  case atStart => exact ⟨0, rfl, Nat.zero_le _, Lib.hid rfl, Below.refl _ _⟩
  case round =>
    obtain ⟨i, rfl, hi, HU, hB⟩ := hrel
    have BR := Lib.hid hB.out
    clear hB
    have rbr := (BR.out.block (w.heap.size + 1) (by have := Z1.out; omega)).trans PR.out
    have RB := Lib.hid rbr
    by_cases hlt : i < n1
    · have hltz : (i : Int) < (n1 : Int) := by omega
      obtain ⟨ad, l, hA, hx, q0, q1⟩ := (HL.out.stay BR.out).at_ (k := i) (by have := E1.out; omega)
      subst hA
      have X := Lib.hid hx
      obtain ⟨w2, hw2⟩ : ∃ u, wr.alloc (.cells #[.int .u64 (l.id : Int), .string (str l.name)] 49) = u := ⟨_, rfl⟩
      obtain ⟨lb, b2, z2⟩ := new_two hw2
      have B2 : Hid (Below w1.heap.size w1 w2) := Lib.hid (BR.out.trans (b2.mono BR.out.size))
      obtain ⟨l0, l1⟩ := two_cells lb
      have rb2 := (b2.block (w.heap.size + 1) (by have := lt_of_block RB.out; omega)).trans RB.out
      have RB2 := Lib.hid rb2
      obtain ⟨r0, r1⟩ := two_cells rb2
      have fr0 := blk_free rb2 0
      have fr1 := blk_free rb2 1
      clear hx lb b2 z2 rbr rb2
      by_cases he : l.id = id
      · have hez : ((l.id : Int) == (id : Int)) = true := by simp [he]
        have F : Hid (T9.findL ls id = (l, true)) := Lib.hid (by unfold T9.findL; rw [find_hit HU.out X.out (by simp [he])])
        clear he
        rw [Z0.out] at *
        have RB3 : Hid (((w2.setCell ⟨w.heap.size + 1, 0, none⟩ (.int .u64 (l.id : Int))).setCell ⟨w.heap.size + 1, 1, none⟩ (.string (str l.name))).heap[w.heap.size + 1]? = some (.cells #[.int .u64 (l.id : Int), .string (str l.name)] 49 (0, 0))) := Lib.hid ((blk_set (blk_set RB2.out 0 (.int .u64 (l.id : Int))) 1 (.string (str l.name))).trans rfl)
        have kf0 := (two_cells RB3.out).1
        have kf1 := (two_cells RB3.out).2
        go_wp2
        refine bodyPost_ret (v := .tuple #[.agg #[.int .u64 (l.id : Int), .string (str l.name)], .bool true]) (by simp [results, Try.results53, go_sem, kf0, kf1]) rfl ?_
        refine ⟨by rw [F.out]; rfl, ?_⟩
        exact ((B1.out.trans (B2.out.mono B1.out.size)).setCell (by simp) _).setCell (by simp) _
      · have hez : ((l.id : Int) == (id : Int)) = false := by simp; omega
        have F : Hid ((ls.take (i + 1)).find? (fun l => l.id == id) = none) := Lib.hid (find_miss HU.out X.out (by simp [he]))
        clear he
        go_wp2
        go_roundw
        case rel => exact ⟨i + 1, by go_num, by omega, F, B2.out⟩
        case measure => simp [intOf]; omega
    · obtain rfl : i = n1 := by omega
      have hltz : ¬ ((i : Int) < (i : Int)) := by omega
      have F : Hid (T9.findL ls id = (⟨0, []⟩, false)) := Lib.hid (by
        have := HU.out
        rw [E1.out, List.take_length] at this
        unfold T9.findL; rw [this])
      obtain ⟨r0, r1⟩ := two_cells rbr
      have fr0 := blk_free rbr 0
      have fr1 := blk_free rbr 1
      have RB3 : Hid (((wr.setCell ⟨w.heap.size + 1, 0, none⟩ (.int .u64 0)).setCell ⟨w.heap.size + 1, 1, none⟩ (.string ⟨#[]⟩)).heap[w.heap.size + 1]? = some (.cells #[.int .u64 0, .string ⟨#[]⟩] 49 (0, 0))) := Lib.hid ((blk_set (blk_set RB.out 0 (.int .u64 0)) 1 (.string ⟨#[]⟩)).trans rfl)
      have kf0 := (two_cells RB3.out).1
      have kf1 := (two_cells RB3.out).2
      go_wp2
      refine bodyPost_ret (v := .tuple #[.agg #[.int .u64 0, .string ⟨#[]⟩], .bool false]) (by simp [results, Try.results53, go_sem, kf0, kf1]) rfl ?_
      refine ⟨by rw [F.out]; rfl, ?_⟩
      exact ((B1.out.trans (BR.out.mono B1.out.size)).setCell (by simp) _).setCell (by simp) _

set_option maxHeartbeats 1000000 in
theorem lists_c {A A2 : Option Addr} {n1 n2 c c2 : Nat} {ls : List T9.Li} {w : World} (hl : LL w A ls) (e1 : n1 = ls.length) (hs : n1 ≤ 1000000) (id : Nat) :
    Calls Try.prog 33 #[.agg #[.slice A n1 c, .slice A2 n2 c2], .int .u64 (id : Int)] w (FLOk ls id w) := by
  have E1 := Lib.hid e1
  obtain ⟨w0, hw0⟩ : ∃ u, w.alloc (.cells #[.slice A n1 c, .slice A2 n2 c2] 25) = u := ⟨_, rfl⟩
  obtain ⟨pb0, b0, z0⟩ := new_two hw0
  obtain ⟨w1, hw1⟩ : ∃ u, w0.alloc (.cells #[.int .u64 0, .string ⟨#[]⟩] 49) = u := ⟨_, rfl⟩
  obtain ⟨pb1, b1, z1⟩ := new_two hw1
  have z1' : w1.heap.size = w.heap.size + 2 := by omega
  have pb := (b1.block w.heap.size (by omega)).trans pb0
  have PB := Lib.hid pb
  rw [z0] at pb1
  have PR := Lib.hid pb1
  have B1 : Hid (Below w.heap.size w w1) := Lib.hid (b0.trans (b1.mono (by omega)))
  have HL := Lib.hid (hl.stay B1.out)
  have Z0 := Lib.hid z0
  have Z1 := Lib.hid z1'
  obtain ⟨p0, p1⟩ := two_cells pb
  clear hl e1 pb0 b0 pb1 b1 z1 z1' pb
  go_enter Try.func33, Try.ntmps33
  go_wp2
  go_loopw [11] (fun s11 wr => ∃ i : Nat, s11 = .int .i64 i ∧ i ≤ n1 ∧ Hid ((ls.take i).find? (fun l => l.id == id) = none) ∧ Aside (Below w1.heap.size w1 wr)) (fun s11 _ => n1 - (intOf s11).toNat)
  case atStart => exact ⟨0, rfl, Nat.zero_le _, Lib.hid rfl, Below.refl _ _⟩
  case round =>
    obtain ⟨i, rfl, hi, HU, hB⟩ := hrel
    have BR := Lib.hid hB.out
    clear hB
    have rbr := (BR.out.block (w.heap.size + 1) (by have := Z1.out; omega)).trans PR.out
    have RB := Lib.hid rbr
    by_cases hlt : i < n1
    · have hltz : (i : Int) < (n1 : Int) := by omega
      obtain ⟨ad, l, hA, hx, q0, q1⟩ := (HL.out.stay BR.out).at_ (k := i) (by have := E1.out; omega)
      subst hA
      have X := Lib.hid hx
      obtain ⟨w2, hw2⟩ : ∃ u, wr.alloc (.cells #[.int .u64 (l.id : Int), .string (str l.name)] 49) = u := ⟨_, rfl⟩
      obtain ⟨lb, b2, z2⟩ := new_two hw2
      have B2 : Hid (Below w1.heap.size w1 w2) := Lib.hid (BR.out.trans (b2.mono BR.out.size))
      obtain ⟨l0, l1⟩ := two_cells lb
      have rb2 := (b2.block (w.heap.size + 1) (by have := lt_of_block RB.out; omega)).trans RB.out
      have RB2 := Lib.hid rb2
      obtain ⟨r0, r1⟩ := two_cells rb2
      have fr0 := blk_free rb2 0
      have fr1 := blk_free rb2 1
      clear hx lb b2 z2 rbr rb2
      by_cases he : l.id = id
      · have hez : ((l.id : Int) == (id : Int)) = true := by simp [he]
        have F : Hid (T9.findL ls id = (l, true)) := Lib.hid (by unfold T9.findL; rw [find_hit HU.out X.out (by simp [he])])
        clear he
        rw [Z0.out] at *
        have RB3 : Hid (((w2.setCell ⟨w.heap.size + 1, 0, none⟩ (.int .u64 (l.id : Int))).setCell ⟨w.heap.size + 1, 1, none⟩ (.string (str l.name))).heap[w.heap.size + 1]? = some (.cells #[.int .u64 (l.id : Int), .string (str l.name)] 49 (0, 0))) := Lib.hid ((blk_set (blk_set RB2.out 0 (.int .u64 (l.id : Int))) 1 (.string (str l.name))).trans rfl)
        have kf0 := (two_cells RB3.out).1
        have kf1 := (two_cells RB3.out).2
        go_wp2
        refine bodyPost_ret (v := .tuple #[.agg #[.int .u64 (l.id : Int), .string (str l.name)], .bool true]) (by simp [results, Try.results33, go_sem, kf0, kf1]) rfl ?_
        refine ⟨by rw [F.out]; rfl, ?_⟩
        exact ((B1.out.trans (B2.out.mono B1.out.size)).setCell (by simp) _).setCell (by simp) _
      · have hez : ((l.id : Int) == (id : Int)) = false := by simp; omega
        have F : Hid ((ls.take (i + 1)).find? (fun l => l.id == id) = none) := Lib.hid (find_miss HU.out X.out (by simp [he]))
        clear he
        go_wp2
        go_roundw
        case rel => exact ⟨i + 1, by go_num, by omega, F, B2.out⟩
        case measure => simp [intOf]; omega
    · obtain rfl : i = n1 := by omega
      have hltz : ¬ ((i : Int) < (i : Int)) := by omega
      have F : Hid (T9.findL ls id = (⟨0, []⟩, false)) := Lib.hid (by
        have := HU.out
        rw [E1.out, List.take_length] at this
        unfold T9.findL; rw [this])
      obtain ⟨r0, r1⟩ := two_cells rbr
      have fr0 := blk_free rbr 0
      have fr1 := blk_free rbr 1
      have RB3 : Hid (((wr.setCell ⟨w.heap.size + 1, 0, none⟩ (.int .u64 0)).setCell ⟨w.heap.size + 1, 1, none⟩ (.string ⟨#[]⟩)).heap[w.heap.size + 1]? = some (.cells #[.int .u64 0, .string ⟨#[]⟩] 49 (0, 0))) := Lib.hid ((blk_set (blk_set RB.out 0 (.int .u64 0)) 1 (.string ⟨#[]⟩)).trans rfl)
      have kf0 := (two_cells RB3.out).1
      have kf1 := (two_cells RB3.out).2
      go_wp2
      refine bodyPost_ret (v := .tuple #[.agg #[.int .u64 0, .string ⟨#[]⟩], .bool false]) (by simp [results, Try.results33, go_sem, kf0, kf1]) rfl ?_
      refine ⟨by rw [F.out]; rfl, ?_⟩
      exact ((B1.out.trans (BR.out.mono B1.out.size)).setCell (by simp) _).setCell (by simp) _

def FKOk (ms : List MTk) (id : Nat) (w : World) (e : Ending) (w' : World) : Prop := ∃ m : MTk, e = .returned (.tuple #[.agg (encK m).toArray, .bool (T9.findK (tks ms) id).2]) ∧ m.t = (T9.findK (tks ms) id).1 ∧ m.fine w' ∧ Below w.heap.size w w'
theorem tks_find {ms : List MTk} {id : Nat} : (tks ms).find? (fun t => t.id == id) = (ms.find? (fun m => m.t.id == id)).map (·.t) := by
  unfold tks
  rw [List.find?_map]
  rfl

end Go.Proofs.Ytnhpkcphgdkdiaa
