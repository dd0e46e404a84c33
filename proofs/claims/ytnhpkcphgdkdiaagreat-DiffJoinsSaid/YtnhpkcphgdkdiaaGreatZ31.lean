import Derived.Test.YtnhpkcphgdkdiaaGreatZ28
import Derived.Test.YtnhpkcphgdkdiaaGreatZ30
namespace Go.Proofs.YtnhpkcphgdkdiaaGreat
set_option linter.unusedSimpArgs false
set_option maxRecDepth 100000
section
open Go.RowKit Go.Lib
namespace T9
def findL (ls : List Li) (id : Nat) : Li × Bool := match ls.find? (fun l => l.id == id) with | some l => (l, true) | none => (⟨0, []⟩, false)
def findK (ts : List Tk) (id : Nat) : Tk × Bool := match ts.find? (fun t => t.id == id) with | some t => (t, true) | none => (⟨0, 0, [], false, 0, 0, []⟩, false)
end T9
theorem find_hit {α : Type} {ls : List α} {p : α → Bool} {k : Nat} {l : α} (h : (ls.take k).find? p = none) (hl : ls[k]? = some l) (hp : p l = true) : ls.find? p = some l := by
 obtain ⟨q1, q2⟩ := List.getElem?_eq_some_iff.1 hl
 rw [← List.take_append_drop k ls, List.find?_append, h, List.drop_eq_getElem_cons q1, q2, List.find?_cons_of_pos hp]
 rfl
theorem find_miss {α : Type} {ls : List α} {p : α → Bool} {k : Nat} {l : α} (h : (ls.take k).find? p = none) (hl : ls[k]? = some l) (hp : p l = false) : (ls.take (k + 1)).find? p = none := by
 rw [take_nxt hl, List.find?_append, h]
 simp [hp]
@[go_sem] theorem buildL9 (w : World) : (Instr.build 32 #[]).run Tryz.prog w = .ok (.agg #[.int .u64 0, .string ⟨#[]⟩]) w := run_build w 32 _ _ (by kernel_rfl)
@[go_sem] theorem buildK9 (w : World) : (Instr.build 38 #[]).run Tryz.prog w = .ok (.agg #[.int .u64 0, .int .u64 0, .string ⟨#[]⟩, .bool false, .float .f64 0, .float .f64 0, .slice none 0 0]) w := run_build w 38 _ _ (by kernel_rfl)
def FLOk (ls : List T9.Li) (id : Nat) (w : World) (e : Ending) (w' : World) : Prop := e = .returned (.tuple #[.agg (encL (T9.findL ls id).1).toArray, .bool (T9.findL ls id).2]) ∧ Below w.heap.size w w'
set_option maxHeartbeats 1000000 in
theorem refList_c {A A2 : Option Addr} {n1 n2 c c2 : Nat} {ls : List T9.Li} {w : World} (hl : LL w A ls) (e1 : n1 = ls.length) (hs : n1 ≤ 1000000) (id : Nat) :
  Calls Tryz.prog 7 #[.agg #[.slice A n1 c, .slice A2 n2 c2], .int .u64 (id : Int)] w (FLOk ls id w) := by
 have E1 := hid e1
 obtain ⟨w0, hw0⟩ : ∃ u, w.alloc (.cells #[.slice A n1 c, .slice A2 n2 c2] 25) = u := ⟨_, rfl⟩
 obtain ⟨pb0, b0, z0⟩ := new_two hw0
 obtain ⟨w1, hw1⟩ : ∃ u, w0.alloc (.cells #[.int .u64 0, .string ⟨#[]⟩] 32) = u := ⟨_, rfl⟩
 obtain ⟨pb1, b1, z1⟩ := new_two hw1
 have z1' : w1.heap.size = w.heap.size + 2 := by omega
 have pb := (b1.block w.heap.size (by omega)).trans pb0
 have PB := hid pb
 rw [z0] at pb1
 have PR := hid pb1
 have B1 : Hid (Below w.heap.size w w1) := hid (b0.trans (b1.mono (by omega)))
 have HL := hid (hl.stay B1.out)
 have Z0 := hid z0
 have Z1 := hid z1'
 obtain ⟨p0, p1⟩ := two_cells pb
 clear hl e1 pb0 b0 pb1 b1 z1 z1' pb
 go_enter Tryz.func7, Tryz.ntmps7
 go_wp2
 go_loopw [11] (fun s11 wr => ∃ i : Nat, s11 = .int .i64 i ∧ i ≤ n1 ∧ Hid ((ls.take i).find? (fun l => l.id == id) = none) ∧ Aside (Below w1.heap.size w1 wr)) (fun s11 _ => n1 - (intOf s11).toNat)
 case atStart => exact ⟨0, rfl, Nat.zero_le _, hid rfl, Below.refl _ _⟩
 case round =>
  obtain ⟨i, rfl, hi, HU, hB⟩ := hrel
  have BR := hid hB.out
  clear hB
  have rbr := (BR.out.block (w.heap.size + 1) (by have := Z1.out; omega)).trans PR.out
  have RB := hid rbr
  by_cases hlt : i < n1
  ·have hltz : (i : Int) < (n1 : Int) := by omega
   obtain ⟨ad, l, hA, hx, q0, q1⟩ := (HL.out.stay BR.out).at_ (k := i) (by have := E1.out; omega)
   subst hA
   have X := hid hx
   obtain ⟨w2, hw2⟩ : ∃ u, wr.alloc (.cells #[.int .u64 (l.id : Int), .string (str l.name)] 32) = u := ⟨_, rfl⟩
   obtain ⟨lb, b2, z2⟩ := new_two hw2
   have B2 : Hid (Below w1.heap.size w1 w2) := hid (BR.out.trans (b2.mono BR.out.size))
   obtain ⟨l0, l1⟩ := two_cells lb
   have rb2 := (b2.block (w.heap.size + 1) (by have := lt_of_block RB.out; omega)).trans RB.out
   have RB2 := hid rb2
   obtain ⟨r0, r1⟩ := two_cells rb2
   have fr0 := blk_free rb2 0
   have fr1 := blk_free rb2 1
   clear hx lb b2 z2 rbr rb2
   by_cases he : l.id = id
   ·have hez : ((l.id : Int) == (id : Int)) = true := by simp [he]
    have F : Hid (T9.findL ls id = (l, true)) := hid (by unfold T9.findL; rw [find_hit HU.out X.out (by simp [he])])
    clear he
    rw [Z0.out] at *
    have RB3 : Hid (((w2.setCell ⟨w.heap.size + 1, 0, none⟩ (.int .u64 (l.id : Int))).setCell ⟨w.heap.size + 1, 1, none⟩ (.string (str l.name))).heap[w.heap.size + 1]? = some (.cells #[.int .u64 (l.id : Int), .string (str l.name)] 32 (0, 0))) := hid ((blk_set (blk_set RB2.out 0 (.int .u64 (l.id : Int))) 1 (.string (str l.name))).trans rfl)
    have kf0 := (two_cells RB3.out).1
    have kf1 := (two_cells RB3.out).2
    go_wp2
    refine bodyPost_ret (v := .tuple #[.agg #[.int .u64 (l.id : Int), .string (str l.name)], .bool true]) (by simp [results, Tryz.results7, go_sem, kf0, kf1]) rfl ?_
    refine ⟨by rw [F.out]; rfl, ?_⟩
    exact ((B1.out.trans (B2.out.mono B1.out.size)).setCell (by simp) _).setCell (by simp) _
   ·have hez : ((l.id : Int) == (id : Int)) = false := by simp; omega
    have F : Hid ((ls.take (i + 1)).find? (fun l => l.id == id) = none) := hid (find_miss HU.out X.out (by simp [he]))
    clear he
    go_wp2
    go_roundw
    case rel => exact ⟨i + 1, by go_num, by omega, F, B2.out⟩
    case measure => simp [intOf]; omega
  ·obtain rfl : i = n1 := by omega
   have hltz : ¬ ((i : Int) < (i : Int)) := by omega
   have F : Hid (T9.findL ls id = (⟨0, []⟩, false)) := hid (by
    have := HU.out
    rw [E1.out, List.take_length] at this
    unfold T9.findL; rw [this])
   obtain ⟨r0, r1⟩ := two_cells rbr
   have fr0 := blk_free rbr 0
   have fr1 := blk_free rbr 1
   have RB3 : Hid (((wr.setCell ⟨w.heap.size + 1, 0, none⟩ (.int .u64 0)).setCell ⟨w.heap.size + 1, 1, none⟩ (.string ⟨#[]⟩)).heap[w.heap.size + 1]? = some (.cells #[.int .u64 0, .string ⟨#[]⟩] 32 (0, 0))) := hid ((blk_set (blk_set RB.out 0 (.int .u64 0)) 1 (.string ⟨#[]⟩)).trans rfl)
   have kf0 := (two_cells RB3.out).1
   have kf1 := (two_cells RB3.out).2
   go_wp2
   refine bodyPost_ret (v := .tuple #[.agg #[.int .u64 0, .string ⟨#[]⟩], .bool false]) (by simp [results, Tryz.results7, go_sem, kf0, kf1]) rfl ?_
   refine ⟨by rw [F.out]; rfl, ?_⟩
   exact ((B1.out.trans (BR.out.mono B1.out.size)).setCell (by simp) _).setCell (by simp) _
def FKOk (ms : List MTk) (id : Nat) (w : World) (e : Ending) (w' : World) : Prop := ∃ m : MTk, e = .returned (.tuple #[.agg (encK m).toArray, .bool (T9.findK (tks ms) id).2]) ∧ m.t = (T9.findK (tks ms) id).1 ∧ m.fine w' ∧ Below w.heap.size w w'
theorem tks_find {ms : List MTk} {id : Nat} : (tks ms).find? (fun t => t.id == id) = (ms.find? (fun m => m.t.id == id)).map (·.t) := by
 unfold tks
 rw [List.find?_map]
 rfl
set_option maxHeartbeats 2000000 in
theorem refTask_c {A A2 : Option Addr} {n1 n2 c c2 : Nat} {ms : List MTk} {w : World} (hk : KL w A2 ms) (e2 : n2 = ms.length) (hs : n2 ≤ 1000000) (id : Nat) :
  Calls Tryz.prog 8 #[.agg #[.slice A n1 c, .slice A2 n2 c2], .int .u64 (id : Int)] w (FKOk ms id w) := by
 have E2 := hid e2
 obtain ⟨w0, hw0⟩ : ∃ u, w.alloc (.cells #[.slice A n1 c, .slice A2 n2 c2] 25) = u := ⟨_, rfl⟩
 obtain ⟨pb0, b0, z0⟩ := new_two hw0
 obtain ⟨w1, hw1⟩ : ∃ u, w0.alloc (.cells #[.int .u64 0, .int .u64 0, .string ⟨#[]⟩, .bool false, .float .f64 0, .float .f64 0, .slice none 0 0] 38) = u := ⟨_, rfl⟩
 obtain ⟨pb1, b1, z1⟩ := new_seven hw1
 have z1' : w1.heap.size = w.heap.size + 2 := by omega
 have pb := (b1.block w.heap.size (by omega)).trans pb0
 have PB := hid pb
 rw [z0] at pb1
 have PR := hid pb1
 have B1 : Hid (Below w.heap.size w w1) := hid (b0.trans (b1.mono (by omega)))
 have HK := hid (hk.stay B1.out)
 have HK0 := hid hk
 have Z0 := hid z0
 have Z1 := hid z1'
 obtain ⟨p0, p1⟩ := two_cells pb
 clear hk e2 pb0 b0 pb1 b1 z1 z1' pb
 go_enter Tryz.func8, Tryz.ntmps8
 go_wp2
 go_loopw [11] (fun s11 wr => ∃ i : Nat, s11 = .int .i64 i ∧ i ≤ n2 ∧ Hid ((ms.take i).find? (fun m => m.t.id == id) = none) ∧ Aside (Below w1.heap.size w1 wr)) (fun s11 _ => n2 - (intOf s11).toNat)
 case atStart => exact ⟨0, rfl, Nat.zero_le _, hid rfl, Below.refl _ _⟩
 case round =>
  obtain ⟨i, rfl, hi, HU, hB⟩ := hrel
  have BR := hid hB.out
  clear hB
  have rbr := (BR.out.block (w.heap.size + 1) (by have := Z1.out; omega)).trans PR.out
  have RB := hid rbr
  by_cases hlt : i < n2
  ·have hltz : (i : Int) < (n2 : Int) := by omega
   obtain ⟨ad, ⟨tk, A3, c3⟩, hA, hx, hf, r0, r1, r2, r3, r4, r5, r6⟩ := (HK.out.stay BR.out).at_ (k := i) (by have := E2.out; omega)
   subst hA
   have X := hid hx
   have FI := hid hf
   dsimp only at r0 r1 r2 r3 r4 r5 r6
   obtain ⟨w2, hw2⟩ : ∃ u, wr.alloc (.cells #[.int .u64 (tk.id : Int), .int .u64 (tk.list : Int), .string (str tk.title), .bool tk.done, .float .f64 tk.rank, .float .f64 tk.est, .slice A3 tk.tags.length c3] 38) = u := ⟨_, rfl⟩
   obtain ⟨lb, b2, z2⟩ := new_seven hw2
   have B2 : Hid (Below w1.heap.size w1 w2) := hid (BR.out.trans (b2.mono BR.out.size))
   have B2' := hid b2
   have Z2 := hid z2
   have LB := hid lb
   obtain ⟨l0, l1, l2, l3, l4, l5, l6⟩ := seven_cells lb
   have rb2 := (b2.block (w.heap.size + 1) (by have := lt_of_block RB.out; omega)).trans RB.out
   have RB2 := hid rb2
   clear hx hf lb b2 z2 rbr
   by_cases he : tk.id = id
   ·have hez : ((tk.id : Int) == (id : Int)) = true := by simp [he]
    have F : Hid (T9.findK (tks ms) id = (tk, true)) := hid (by unfold T9.findK; rw [tks_find, find_hit HU.out X.out (by simp [he])]; rfl)
    clear he
    rw [Z0.out] at *
    obtain ⟨d0, d1, d2, d3, d4, d5, d6⟩ := seven_cells rb2
    have fr0 := blk_free rb2 0
    have fr1 := blk_free rb2 1
    have fr2 := blk_free rb2 2
    have fr3 := blk_free rb2 3
    have fr4 := blk_free rb2 4
    have fr5 := blk_free rb2 5
    have fr6 := blk_free rb2 6
    clear rb2
    have RB3 : Hid ((((((((w2.setCell ⟨w.heap.size + 1, 0, none⟩ (.int .u64 (tk.id : Int))).setCell ⟨w.heap.size + 1, 1, none⟩ (.int .u64 (tk.list : Int))).setCell ⟨w.heap.size + 1, 2, none⟩ (.string (str tk.title))).setCell ⟨w.heap.size + 1, 3, none⟩ (.bool tk.done)).setCell ⟨w.heap.size + 1, 4, none⟩ (.float .f64 tk.rank)).setCell ⟨w.heap.size + 1, 5, none⟩ (.float .f64 tk.est)).setCell ⟨w.heap.size + 1, 6, none⟩ (.slice A3 tk.tags.length c3)).heap[w.heap.size + 1]? = some (.cells #[.int .u64 (tk.id : Int), .int .u64 (tk.list : Int), .string (str tk.title), .bool tk.done, .float .f64 tk.rank, .float .f64 tk.est, .slice A3 tk.tags.length c3] 38 (0, 0))) := hid ((blk_set (blk_set (blk_set (blk_set (blk_set (blk_set (blk_set RB2.out 0 (.int .u64 (tk.id : Int))) 1 (.int .u64 (tk.list : Int))) 2 (.string (str tk.title))) 3 (.bool tk.done)) 4 (.float .f64 tk.rank)) 5 (.float .f64 tk.est)) 6 (.slice A3 tk.tags.length c3)).trans rfl)
    obtain ⟨k0, k1, k2, k3, k4, k5, k6⟩ := seven_cells RB3.out
    go_wp2
    refine bodyPost_ret (v := .tuple #[.agg #[.int .u64 (tk.id : Int), .int .u64 (tk.list : Int), .string (str tk.title), .bool tk.done, .float .f64 tk.rank, .float .f64 tk.est, .slice A3 tk.tags.length c3], .bool true]) (by simp [results, Tryz.results8, go_sem, k0, k1, k2, k3, k4, k5, k6]) rfl ?_
    refine ⟨⟨tk, A3, c3⟩, by rw [F.out]; rfl, by rw [F.out], HK0.out.2 _ (List.mem_of_getElem? X.out) |>.stay ?_, ?_⟩
    all_goals exact ((((((((B1.out.trans (B2.out.mono B1.out.size)).setCell (by simp) _).setCell (by simp) _).setCell (by simp) _).setCell (by simp) _).setCell (by simp) _).setCell (by simp) _).setCell (by simp) _)
   ·have hez : ((tk.id : Int) == (id : Int)) = false := by simp; omega
    have F : Hid ((ms.take (i + 1)).find? (fun m => m.t.id == id) = none) := hid (find_miss HU.out X.out (by simp [he]))
    clear he
    go_wp2
    go_roundw
    case rel => exact ⟨i + 1, by go_num, by omega, F, B2.out⟩
    case measure => simp [intOf]; omega
  ·obtain rfl : i = n2 := by omega
   have hltz : ¬ ((i : Int) < (i : Int)) := by omega
   have F : Hid (T9.findK (tks ms) id = (⟨0, 0, [], false, 0, 0, []⟩, false)) := hid (by
    have := HU.out
    rw [E2.out, List.take_length] at this
    unfold T9.findK; rw [tks_find, this]; rfl)
   obtain ⟨d0, d1, d2, d3, d4, d5, d6⟩ := seven_cells rbr
   have fr0 := blk_free rbr 0
   have fr1 := blk_free rbr 1
   have fr2 := blk_free rbr 2
   have fr3 := blk_free rbr 3
   have fr4 := blk_free rbr 4
   have fr5 := blk_free rbr 5
   have fr6 := blk_free rbr 6
   have RB3 : Hid ((((((((wr.setCell ⟨w.heap.size + 1, 0, none⟩ (.int .u64 0)).setCell ⟨w.heap.size + 1, 1, none⟩ (.int .u64 0)).setCell ⟨w.heap.size + 1, 2, none⟩ (.string ⟨#[]⟩)).setCell ⟨w.heap.size + 1, 3, none⟩ (.bool false)).setCell ⟨w.heap.size + 1, 4, none⟩ (.float .f64 0)).setCell ⟨w.heap.size + 1, 5, none⟩ (.float .f64 0)).setCell ⟨w.heap.size + 1, 6, none⟩ (.slice none 0 0)).heap[w.heap.size + 1]? = some (.cells #[.int .u64 0, .int .u64 0, .string ⟨#[]⟩, .bool false, .float .f64 0, .float .f64 0, .slice none 0 0] 38 (0, 0))) := hid ((blk_set (blk_set (blk_set (blk_set (blk_set (blk_set (blk_set RB.out 0 (.int .u64 0)) 1 (.int .u64 0)) 2 (.string ⟨#[]⟩)) 3 (.bool false)) 4 (.float .f64 0)) 5 (.float .f64 0)) 6 (.slice none 0 0)).trans rfl)
   obtain ⟨k0, k1, k2, k3, k4, k5, k6⟩ := seven_cells RB3.out
   go_wp2
   refine bodyPost_ret (v := .tuple #[.agg #[.int .u64 0, .int .u64 0, .string ⟨#[]⟩, .bool false, .float .f64 0, .float .f64 0, .slice none 0 0], .bool false]) (by simp [results, Tryz.results8, go_sem, k0, k1, k2, k3, k4, k5, k6]) rfl ?_
   refine ⟨⟨⟨0, 0, [], false, 0, 0, []⟩, none, 0⟩, by rw [F.out]; rfl, by rw [F.out], ⟨Lies.nil, Nat.le_refl _⟩, ?_⟩
   exact ((((((((B1.out.trans (BR.out.mono B1.out.size)).setCell (by simp) _).setCell (by simp) _).setCell (by simp) _).setCell (by simp) _).setCell (by simp) _).setCell (by simp) _).setCell (by simp) _)
end
end Go.Proofs.YtnhpkcphgdkdiaaGreat
