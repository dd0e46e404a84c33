import Derived.Test.YtpphmbfghfmdlaaGreatZ16
import Derived.Test.YtpphmbfghfmdlaaGreatZ18
namespace Go.Proofs.YtpphmbfghfmdlaaGreat
set_option maxRecDepth 100000
section
open Go.RowKit Go.Lib
namespace T9
def aQ (ls : List Li) (id : Nat) : Li × Bool := match ls.find? (fun l => l.id == id) with | some l => (l, true) | none => (⟨0, []⟩, false)
def bT (ts : List Tk) (id : Nat) : Tk × Bool := match ts.find? (fun t => t.id == id) with | some t => (t, true) | none => (⟨0, 0, [], false, 0, 0, []⟩, false)
end T9
theorem o8 {α : Type} {ls : List α} {p : α → Bool} {k : Nat} {l : α} (h : (ls.take k).find? p = none) (hl : ls[k]? = some l) (hp : p l = true) : ls.find? p = some l := by
 obtain ⟨q1, q2⟩ := List.getElem?_eq_some_iff.1 hl
 rw [← List.take_append_drop k ls, List.find?_append, h, List.drop_eq_getElem_cons q1, q2, List.find?_cons_of_pos hp]
 rfl
theorem nK {α : Type} {ls : List α} {p : α → Bool} {k : Nat} {l : α} (h : (ls.take k).find? p = none) (hl : ls[k]? = some l) (hp : p l = false) : (ls.take (k + 1)).find? p = none := by
 rw [bF hl, List.find?_append, h]
 simp [hp]
@[go_sem] theorem buildL9 (w : World) : (Instr.build 51 #[]).run Tryz.prog w = .ok (.agg #[.int .u64 0, .string ⟨#[]⟩]) w := run_build w 51 _ _ (by kernel_rfl)
@[go_sem] theorem buildK9 (w : World) : (Instr.build 56 #[]).run Tryz.prog w = .ok (.agg #[.int .u64 0, .int .u64 0, .string ⟨#[]⟩, .bool false, .float .f64 0, .float .f64 0, .slice none 0 0]) w := run_build w 56 _ _ (by kernel_rfl)
def FLOk (ls : List T9.Li) (id : Nat) (w : World) (e : Ending) (w' : World) : Prop := e = .returned (.tuple #[.agg (aV (T9.aQ ls id).1).toArray, .bool (T9.aQ ls id).2]) ∧ Below w.heap.size w w'
set_option maxHeartbeats 1000000 in
theorem aX {A A2 : Option Addr} {n1 n2 c c2 : Nat} {ls : List T9.Li} {w : World} (hl : LL w A ls) (e1 : n1 = ls.length) (hs : n1 ≤ 1000000) (id : Nat) :
  Calls Tryz.prog 22 #[.agg #[.slice A n1 c, .slice A2 n2 c2], .int .u64 (id : Int)] w (FLOk ls id w) := by
 have E1 := hid e1
 obtain ⟨w0, hw0⟩ : ∃ u, w.alloc (.cells #[.slice A n1 c, .slice A2 n2 c2] 25) = u := ⟨_, rfl⟩
 obtain ⟨pb0, b0, z0⟩ := au hw0
 obtain ⟨w1, hw1⟩ : ∃ u, w0.alloc (.cells #[.int .u64 0, .string ⟨#[]⟩] 51) = u := ⟨_, rfl⟩
 obtain ⟨pb1, b1, z1⟩ := au hw1
 have z1' : w1.heap.size = w.heap.size + 2 := by omega
 have pb := (b1.block w.heap.size (by omega)).trans pb0
 have PB := hid pb
 rw [z0] at pb1
 have PR := hid pb1
 have B1 : Hid (Below w.heap.size w w1) := hid (b0.trans (b1.mono (by omega)))
 have HL := hid (hl.stay B1.out)
 have Z0 := hid z0
 have Z1 := hid z1'
 obtain ⟨p0, p1⟩ := aa pb
 clear hl e1 pb0 b0 pb1 b1 z1 z1' pb
 go_enter Tryz.func22, Tryz.ntmps22
 go_wp2
 go_loopw [11] (fun s11 wr => ∃ i : Nat, s11 = .int .i64 i ∧ i ≤ n1 ∧ Hid ((ls.take i).find? (fun l => l.id == id) = none) ∧ Aside (Below w1.heap.size w1 wr)) (fun s11 _ => n1 - (intOf s11).toNat)
 case atStart => exact ⟨0, rfl, Nat.zero_le _, hid rfl, Below.refl _ _⟩
 case round =>
  obtain ⟨i, rfl, hi, HU, hB⟩ := hrel
  have BR := hid hB.out
  clear hB
  have rbr := (BR.out.block (w.heap.size + 1) (by have := Z1.out; omega)).trans PR.out
  have RB := hid rbr
  by_cases hlt : i < n1
  ·have hltz : (i : Int) < (n1 : Int) := by omega
   obtain ⟨ad, l, hA, hx, q0, q1⟩ := (HL.out.stay BR.out).at_ (k := i) (by have := E1.out; omega)
   subst hA
   have X := hid hx
   obtain ⟨w2, hw2⟩ : ∃ u, wr.alloc (.cells #[.int .u64 (l.id : Int), .string (str l.name)] 51) = u := ⟨_, rfl⟩
   obtain ⟨lb, b2, z2⟩ := au hw2
   have B2 : Hid (Below w1.heap.size w1 w2) := hid (BR.out.trans (b2.mono BR.out.size))
   obtain ⟨l0, l1⟩ := aa lb
   have rb2 := (b2.block (w.heap.size + 1) (by have := lt_of_block RB.out; omega)).trans RB.out
   have RB2 := hid rb2
   obtain ⟨r0, r1⟩ := aa rb2
   have fr0 := ag rb2 0
   have fr1 := ag rb2 1
   clear hx lb b2 z2 rbr rb2
   by_cases he : l.id = id
   ·have hez : ((l.id : Int) == (id : Int)) = true := by simp [he]
    have F : Hid (T9.aQ ls id = (l, true)) := hid (by unfold T9.aQ; rw [o8 HU.out X.out (by simp [he])])
    clear he
    rw [Z0.out] at *
    have RB3 : Hid (((w2.setCell ⟨w.heap.size + 1, 0, none⟩ (.int .u64 (l.id : Int))).setCell ⟨w.heap.size + 1, 1, none⟩ (.string (str l.name))).heap[w.heap.size + 1]? = some (.cells #[.int .u64 (l.id : Int), .string (str l.name)] 51 (0, 0))) := hid ((ai (ai RB2.out 0 (.int .u64 (l.id : Int))) 1 (.string (str l.name))).trans rfl)
    have kf0 := (aa RB3.out).1
    have kf1 := (aa RB3.out).2
    go_wp2
    refine bodyPost_ret (v := .tuple #[.agg #[.int .u64 (l.id : Int), .string (str l.name)], .bool true]) (by simp [results, Tryz.results22, go_sem, kf0, kf1]) rfl ?_
    refine ⟨by rw [F.out]; rfl, ?_⟩
    exact ((B1.out.trans (B2.out.mono B1.out.size)).setCell (by simp) _).setCell (by simp) _
   ·have hez : ((l.id : Int) == (id : Int)) = false := by simp; omega
    have F : Hid ((ls.take (i + 1)).find? (fun l => l.id == id) = none) := hid (nK HU.out X.out (by simp [he]))
    clear he
    go_wp2
    go_roundw
    case rel => exact ⟨i + 1, by go_num, by omega, F, B2.out⟩
    case measure => simp [intOf]; omega
  ·obtain rfl : i = n1 := by omega
   have hltz : ¬ ((i : Int) < (i : Int)) := by omega
   have F : Hid (T9.aQ ls id = (⟨0, []⟩, false)) := hid (by
    have := HU.out
    rw [E1.out, List.take_length] at this
    unfold T9.aQ; rw [this])
   obtain ⟨r0, r1⟩ := aa rbr
   have fr0 := ag rbr 0
   have fr1 := ag rbr 1
   have RB3 : Hid (((wr.setCell ⟨w.heap.size + 1, 0, none⟩ (.int .u64 0)).setCell ⟨w.heap.size + 1, 1, none⟩ (.string ⟨#[]⟩)).heap[w.heap.size + 1]? = some (.cells #[.int .u64 0, .string ⟨#[]⟩] 51 (0, 0))) := hid ((ai (ai RB.out 0 (.int .u64 0)) 1 (.string ⟨#[]⟩)).trans rfl)
   have kf0 := (aa RB3.out).1
   have kf1 := (aa RB3.out).2
   go_wp2
   refine bodyPost_ret (v := .tuple #[.agg #[.int .u64 0, .string ⟨#[]⟩], .bool false]) (by simp [results, Tryz.results22, go_sem, kf0, kf1]) rfl ?_
   refine ⟨by rw [F.out]; rfl, ?_⟩
   exact ((B1.out.trans (BR.out.mono B1.out.size)).setCell (by simp) _).setCell (by simp) _
theorem qR {ms : List MTk} {id : Nat} : (tks ms).find? (fun t => t.id == id) = (ms.find? (fun m => m.t.id == id)).map (·.t) := by
 unfold tks
 rw [List.find?_map]
 rfl
end
end Go.Proofs.YtpphmbfghfmdlaaGreat
