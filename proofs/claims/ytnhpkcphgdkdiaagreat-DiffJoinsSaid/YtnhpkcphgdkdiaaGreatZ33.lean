import Derived.Test.YtnhpkcphgdkdiaaGreatZ31
import Derived.Test.YtnhpkcphgdkdiaaGreatZ32
import Derived.Test.YtnhpkcphgdkdiaaGreatZ19
import Derived.Test.YtnhpkcphgdkdiaaGreatZ29
import Derived.Lib.QuietBelow
import Derived.StillTailTactics
import Derived.Deep.RegionHeld3
namespace Go.Proofs.YtnhpkcphgdkdiaaGreat
set_option linter.unusedSimpArgs false
set_option maxRecDepth 100000
section
section
open Go.RowKit Go.Lib
namespace T9
structure St.light (s : St) : Prop where
 nl : s.lists.length ≤ 25
 nt : s.tasks.length ≤ 70
 name : ∀ l ∈ s.lists, l.name.length ≤ 100
 title : ∀ t ∈ s.tasks, t.title.length ≤ 100
 few : ∀ t ∈ s.tasks, t.tags.length ≤ 8
 tag : ∀ t ∈ s.tasks, ∀ x ∈ t.tags, x.length ≤ 100
theorem St.light.short {s : St} (h : s.light) : s.short := ⟨fun l hl => by have := h.name l hl; omega, fun t ht => ⟨by have := h.title t ht; omega, fun x hx => by have := h.tag t ht x hx; omega, by have := h.few t ht; omega⟩, by have := h.nl; omega, by have := h.nt; omega⟩
end T9
end
section
section
open Go.RowKit Go.Lib
def TextsOk9 (ts : List (List UInt8)) (w : World) (e : Ending) (w' : World) : Prop := ∃ b, e = .returned (.bool b) ∧ (b = true → ts.length ≤ 8 ∧ ∀ x ∈ ts, x.length ≤ 100) ∧ w = w'
def LightOk9 (s : T9.St) (w : World) (e : Ending) (w' : World) : Prop := ∃ b, e = .returned (.bool b) ∧ (b = true → s.light) ∧ Below w.heap.size w w'
set_option maxHeartbeats 1000000 in
theorem texts9_c {A : Option Addr} {n c : Nat} {ts : List (List UInt8)} {w : World} (h : GL w A ts) (hn : n = ts.length) (hs : n ≤ maxLen) :
  Calls Tryz.prog 14 #[.slice A n c] w (TextsOk9 ts w) := by
 have H := hid h
 have HN := hid hn
 have hs : n ≤ 9223372036854775807 := by unfold maxLen at hs; omega
 clear h hn
 go_enter Tryz.func14, Tryz.ntmps14
 go_wp2
 go_loopw [7] (fun s7 wr => ∃ i : Nat, s7 = .int .i64 i ∧ i ≤ n ∧ Hid (∀ x ∈ ts.take i, x.length ≤ 100) ∧ w = wr) (fun s7 _ => n - (intOf s7).toNat)
 case atStart => exact ⟨0, rfl, Nat.zero_le _, hid (by simp), rfl⟩
 case round =>
  obtain ⟨i, rfl, hi, HU, rfl⟩ := hrel
  by_cases hlt : i < n
  ·have hltz : (i : Int) < (n : Int) := by omega
   obtain ⟨ad, x, hA, hx, hc⟩ := H.out.at_ (k := i) (by rw [← HN.out]; exact hlt)
   subst hA
   have X := hid hx
   have sz : (str x).size = x.length := rfl
   clear hx
   by_cases hl : 100 < x.length
   ·have hlz : (100 : Int) < ((str x).size : Int) := by rw [sz]; omega
    clear sz
    go_wp2
    go_ret
    exact ⟨false, rfl, by simp, rfl⟩
   ·have hlz : ¬ ((100 : Int) < ((str x).size : Int)) := by rw [sz]; omega
    have U : Hid (∀ y ∈ ts.take (i + 1), y.length ≤ 100) := hid fun y hy => by
     rw [take_nxt X.out] at hy
     rcases List.mem_append.1 hy with q | q
     ·exact HU.out y q
     ·simp at q; subst q; omega
    clear sz
    go_wp2
    go_roundw
    case rel => exact ⟨i + 1, by go_num, by omega, U, by simp⟩
    case measure => simp [intOf]; omega
  ·obtain rfl : i = n := by omega
   have hltz : ¬ ((i : Int) < (i : Int)) := by omega
   have U := hid HU.out
   by_cases h8 : i ≤ 8
   ·have hz : (i : Int) ≤ 8 := by omega
    go_wp2
    go_ret
    exact ⟨true, ret_bool (by simp), fun _ => ⟨by rw [← HN.out]; exact h8, by have := U.out; rwa [HN.out, List.take_length] at this⟩, rfl⟩
   ·have hz : ¬ ((i : Int) ≤ 8) := by omega
    go_wp2
    go_ret
    exact ⟨false, ret_bool (by simp), by simp, rfl⟩
set_option maxHeartbeats 2000000 in
theorem light9_c {A A2 : Option Addr} {n1 n2 c c2 : Nat} {ls : List T9.Li} {ms : List MTk} {w : World} (hl : LL w A ls) (hk : KL w A2 ms) (e1 : n1 = ls.length) (e2 : n2 = ms.length) (hs : ∀ m ∈ ms, m.t.tags.length ≤ maxLen) :
  Calls Tryz.prog 5 #[.agg #[.slice A n1 c, .slice A2 n2 c2]] w (LightOk9 ⟨ls, tks ms⟩ w) := by
 have E1 := hid e1
 have E2 := hid e2
 have HS := hid hs
 obtain ⟨w1, hw1⟩ : ∃ u, w.alloc (.cells #[.slice A n1 c, .slice A2 n2 c2] 25) = u := ⟨_, rfl⟩
 obtain ⟨pb, b1, z1⟩ := new_two hw1
 have PB := hid pb
 have B1 := hid b1
 have HL := hid (hl.stay b1)
 have HK := hid (hk.stay b1)
 have Z1 := hid z1
 obtain ⟨p0, p1⟩ := two_cells pb
 clear hl hk e1 e2 hs pb b1 z1
 by_cases hm1 : 25 < n1
 ·have hmz : (25 : Int) < (n1 : Int) := by omega
  go_enter Tryz.func5, Tryz.ntmps5
  go_wp2
  go_ret
  exact ⟨false, rfl, by simp, B1.out⟩
 have hmz : ¬ ((25 : Int) < (n1 : Int)) := by omega
 by_cases hm2 : 70 < n2
 ·have hmz2 : (70 : Int) < (n2 : Int) := by omega
  go_enter Tryz.func5, Tryz.ntmps5
  go_wp2
  go_ret
  exact ⟨false, rfl, by simp, B1.out⟩
 have hmz2 : ¬ ((70 : Int) < (n2 : Int)) := by omega
 have m1 : n1 ≤ 25 := by omega
 have m2 : n2 ≤ 70 := by omega
 clear hm1 hm2
 go_enter Tryz.func5, Tryz.ntmps5
 go_wp2
 go_loopw [20] (fun s20 wr => ∃ i : Nat, s20 = .int .i64 i ∧ i ≤ n1 ∧ Hid (∀ l ∈ ls.take i, l.name.length ≤ 100) ∧ Aside (Below w1.heap.size w1 wr)) (fun s20 _ => n1 - (intOf s20).toNat)
 case atStart => exact ⟨0, rfl, Nat.zero_le _, hid (by simp), Below.refl _ _⟩
 case round =>
  obtain ⟨i, rfl, hi, HU, hB⟩ := hrel
  have BR := hid hB.out
  clear hB
  by_cases hlt : i < n1
  ·have hltz : (i : Int) < (n1 : Int) := by omega
   obtain ⟨ad, l, hA, hx, q0, q1⟩ := (HL.out.stay BR.out).at_ (k := i) (by have := E1.out; omega)
   subst hA
   have X := hid hx
   obtain ⟨w2, hw2⟩ : ∃ u, wr.alloc (.cells #[.int .u64 (l.id : Int), .string (str l.name)] 32) = u := ⟨_, rfl⟩
   obtain ⟨lb, b2, z2⟩ := new_two hw2
   have B2 : Hid (Below w1.heap.size w1 w2) := hid (BR.out.trans (b2.mono BR.out.size))
   obtain ⟨l0, l1⟩ := two_cells lb
   have sz : (str l.name).size = l.name.length := rfl
   clear hx lb b2 z2
   by_cases hl : 100 < l.name.length
   ·have hlz : (100 : Int) < ((str l.name).size : Int) := by rw [sz]; omega
    clear sz
    go_wp2
    go_ret
    exact ⟨false, rfl, by simp, B1.out.trans (B2.out.mono B1.out.size)⟩
   ·have hlz : ¬ ((100 : Int) < ((str l.name).size : Int)) := by rw [sz]; omega
    have U : Hid (∀ y ∈ ls.take (i + 1), y.name.length ≤ 100) := hid fun y hy => by
     rw [take_nxt X.out] at hy
     rcases List.mem_append.1 hy with q | q
     ·exact HU.out y q
     ·simp at q; subst q; omega
    clear sz
    go_wp2
    go_roundw
    case rel => exact ⟨i + 1, by go_num, by omega, U, B2.out⟩
    case measure => simp [intOf]; omega
  ·obtain rfl : i = n1 := by omega
   have hltz : ¬ ((i : Int) < (i : Int)) := by omega
   have UL1 : Hid (∀ l ∈ ls, l.name.length ≤ 100) := hid (by have := HU.out; rwa [E1.out, List.take_length] at this)
   have pbr := (BR.out.block w.heap.size (by have := Z1.out; omega)).trans PB.out
   obtain ⟨s0, s1⟩ := two_cells pbr
   have HK2 := hid (HK.out.stay BR.out)
   have B0 := hid (B1.out.trans (BR.out.mono B1.out.size))
   obtain ⟨wo, hwo⟩ : ∃ u, u = wr := ⟨_, rfl⟩
   subst hwo
   clear p0 p1 pbr
   go_wp2
   go_loopw [32] (fun s32 wr => ∃ j : Nat, s32 = .int .i64 j ∧ j ≤ n2 ∧ Hid (∀ m ∈ ms.take j, m.t.title.length ≤ 100 ∧ m.t.tags.length ≤ 8 ∧ ∀ x ∈ m.t.tags, x.length ≤ 100) ∧ Aside (Below wo.heap.size wo wr)) (fun s32 _ => n2 - (intOf s32).toNat)
   case atStart => exact ⟨0, rfl, Nat.zero_le _, hid (by simp), Below.refl _ _⟩
   case round =>
    obtain ⟨j, rfl, hj, HV, hB⟩ := hrel
    have CR := hid hB.out
    clear hB
    by_cases hlt2 : j < n2
    ·have hltz2 : (j : Int) < (n2 : Int) := by omega
     obtain ⟨ad2, ⟨tk, A3, c3⟩, hA, hx, hf, r0, r1, r2, r3, r4, r5, r6⟩ := (HK2.out.stay CR.out).at_ (k := j) (by have := E2.out; omega)
     subst hA
     have X := hid hx
     have FI := hid hf
     dsimp only at r0 r1 r2 r3 r4 r5 r6
     obtain ⟨w3, hw3⟩ : ∃ u, wr.alloc (.cells #[.int .u64 (tk.id : Int), .int .u64 (tk.list : Int), .string (str tk.title), .bool tk.done, .float .f64 tk.rank, .float .f64 tk.est, .slice A3 tk.tags.length c3] 38) = u := ⟨_, rfl⟩
     obtain ⟨tb, b3, z3⟩ := new_seven hw3
     have B3 : Hid (Below wo.heap.size wo w3) := hid (CR.out.trans (b3.mono CR.out.size))
     have TX := hid (texts9_c (c := c3) (FI.out.stay b3).gl rfl (HS.out _ (List.mem_of_getElem? X.out)))
     obtain ⟨t0, t1, t2, t3, t4, t5, t6⟩ := seven_cells tb
     have sz : (str tk.title).size = tk.title.length := rfl
     clear hx hf tb b3 z3
     by_cases hl : 100 < tk.title.length
     ·have hlz : (100 : Int) < ((str tk.title).size : Int) := by rw [sz]; omega
      clear sz
      go_wp2
      go_ret
      exact ⟨false, rfl, by simp, B0.out.trans (B3.out.mono B0.out.size)⟩
     ·have hlz : ¬ ((100 : Int) < ((str tk.title).size : Int)) := by rw [sz]; omega
      clear sz
      go_wp2_with fail
      refine TX.out.mono ?_
      rintro e w4 ⟨b, rfl, hb, rfl⟩
      cases b with
      | false =>
       go_wp2
       go_ret
       exact ⟨false, rfl, by simp, B0.out.trans (B3.out.mono B0.out.size)⟩
      | true =>
       have HB := hb rfl
       have U : Hid (∀ m ∈ ms.take (j + 1), m.t.title.length ≤ 100 ∧ m.t.tags.length ≤ 8 ∧ ∀ x ∈ m.t.tags, x.length ≤ 100) := hid fun y hy => by
        rw [take_nxt X.out] at hy
        rcases List.mem_append.1 hy with q | q
        ·exact HV.out y q
        ·simp only [List.mem_cons, List.not_mem_nil, or_false] at q
         subst q
         exact ⟨by show tk.title.length ≤ 100; omega, HB⟩
       clear hb HB
       go_wp2
       go_roundw
       case rel => exact ⟨j + 1, by go_num, by omega, U, B3.out⟩
       case measure => simp [intOf]; omega
    ·obtain rfl : j = n2 := by omega
     have hltz2 : ¬ ((j : Int) < (j : Int)) := by omega
     have UV : Hid (∀ m ∈ ms, m.t.title.length ≤ 100 ∧ m.t.tags.length ≤ 8 ∧ ∀ x ∈ m.t.tags, x.length ≤ 100) := hid (by have := HV.out; rwa [E2.out, List.take_length] at this)
     go_wp2
     go_ret
     refine ⟨true, rfl, fun _ => ?_, B0.out.trans (CR.out.mono B0.out.size)⟩
     have each : ∀ t ∈ tks ms, t.title.length ≤ 100 ∧ t.tags.length ≤ 8 ∧ ∀ x ∈ t.tags, x.length ≤ 100 := fun t ht => by
      obtain ⟨m, hm, rfl⟩ := List.mem_map.1 ht
      exact UV.out m hm
     exact ⟨by have := E1.out; show ls.length ≤ 25; omega, by have := E2.out; show (tks ms).length ≤ 70; rw [tks_len]; omega, UL1.out, fun t ht => (each t ht).1, fun t ht => (each t ht).2.1, fun t ht => (each t ht).2.2⟩
end
section
open Go.RowKit Go.Lib
@[go_sem] theorem buildK9a (w : World) : (Instr.build 38 #[(0, .int .u64 1), (1, .int .u64 2), (2, .string ⟨#[116]⟩)]).run Tryz.prog w = .ok (.agg #[.int .u64 1, .int .u64 2, .string ⟨#[116]⟩, .bool false, .float .f64 0, .float .f64 0, .slice none 0 0]) w := run_build w 38 _ _ (by kernel_rfl)
@[go_sem] theorem buildS9a (A : Option Addr) (n c : Nat) (w : World) : (Instr.build 25 #[(1, .slice A n c)]).run Tryz.prog w = .ok (.agg #[.slice none 0 0, .slice A n c]) w := run_build w 25 _ _ (by kernel_rfl)
@[go_sem] theorem buildS9b (w : World) : (Instr.build 25 #[]).run Tryz.prog w = .ok (.agg #[.slice none 0 0, .slice none 0 0]) w := run_build w 25 _ _ (by kernel_rfl)
end
end
section
open Go.RowKit Go.Lib Go.Sort
theorem blk_keep {w w' : World} {g : Nat} {o : Obj} (hb : w.heap[g]? = some o) (h : Below w.heap.size w w') : w'.heap[g]? = some o := (h.block g (lt_of_block hb)).trans hb
structure SBox (m : MSt) (g : Nat) (w : World) : Prop where
 b : w.heap[g]? = some (.cells #[.slice m.A m.ls.length m.c, .slice m.A2 m.ms.length m.c2] 25 (0, 0))
 s : SM m w
theorem SBox.cells {m : MSt} {g : Nat} {w : World} (h : SBox m g w) : w.cell? ⟨g, 0, none⟩ = some (.slice m.A m.ls.length m.c) ∧ w.cell? ⟨g, 1, none⟩ = some (.slice m.A2 m.ms.length m.c2) := two_cells h.b
def MSt.far (m : MSt) : Prop := ∀ t ∈ m.ms, t.t.tags.length ≤ maxLen
end
end
section
section
section
namespace T9
def many {α : Type} (f : Option (List UInt8) → α × Option (List UInt8)) : Nat → Option (List UInt8) → List α × Option (List UInt8)
 | 0, s => ([], s)
 | n + 1, s => ((f s).1 :: (many f n (f s).2).1, (many f n (f s).2).2)
def rdLi (s : Option (List UInt8)) : Li × Option (List UInt8) :=
 (⟨(Cd.rdN Cd.full s).1, (Cd.rdB 60 (Cd.rdN Cd.full s).2).1⟩, (Cd.rdB 60 (Cd.rdN Cd.full s).2).2)
def s1 (s : Option (List UInt8)) := (Cd.rdN Cd.full s).2
def s2 (s : Option (List UInt8)) := (Cd.rdN Cd.full (s1 s)).2
def s3 (s : Option (List UInt8)) := (Cd.rdB 60 (s2 s)).2
def s4 (s : Option (List UInt8)) := (Cd.rdG (s3 s)).2
def s5 (s : Option (List UInt8)) := (Cd.rdF (s4 s)).2
def s6 (s : Option (List UInt8)) := (Cd.rdF (s5 s)).2
def s7 (s : Option (List UInt8)) := (Cd.rdN 60 (s6 s)).2
def tagsN (s : Option (List UInt8)) := (Cd.rdN 60 (s6 s)).1
def rdTk (s : Option (List UInt8)) : Tk × Option (List UInt8) :=
 (⟨(Cd.rdN Cd.full s).1, (Cd.rdN Cd.full (s1 s)).1, (Cd.rdB 60 (s2 s)).1, (Cd.rdG (s3 s)).1, (Cd.rdF (s4 s)).1, (Cd.rdF (s5 s)).1, (many (Cd.rdB 60) (tagsN s) (s7 s)).1⟩, (many (Cd.rdB 60) (tagsN s) (s7 s)).2)
def rdSt (s : Option (List UInt8)) : St × Option (List UInt8) :=
 let a := Cd.rdN 60 s
 let ls := many rdLi a.1 a.2
 let b := Cd.rdN 60 ls.2
 let ts := many rdTk b.1 b.2
 (⟨ls.1, ts.1⟩, ts.2)
def of (b : List UInt8) : St × Int := if (rdSt (some b)).2 = some [] ∧ rightE (rdSt (some b)).1 = 0 then ((rdSt (some b)).1, 0) else (⟨[], []⟩, 90)
theorem rdF_key {a : Nat} (h : a < 18446744073709551616) (t : List UInt8) : Cd.rdF (some (Cd.fix (Fl.key a).toNat 8 ++ t)) = (Fl.canon a, some t) := by
 have q := Fl.fit_key h
 unfold Cd.rdF
 rw [Cd.rdW_fix (by omega) (Cd.key_pow a)]
 simp only [Cd.key_nat, q.1, q.2, if_true]
end T9
end
section
namespace T9
theorem same_key {a b : Nat} (h : Fl.same a b = true) : Fl.key a = Fl.key b := by
 unfold Fl.same at h
 simpa using h
end T9
end
end
section
open Go.RowKit Go.Lib
@[go_sem] theorem buildK9n (n : Int) (w : World) : (Instr.build 38 #[(0, .int .u64 n)]).run Tryz.prog w = .ok (.agg #[.int .u64 n, .int .u64 0, .string ⟨#[]⟩, .bool false, .float .f64 0, .float .f64 0, .slice none 0 0]) w := run_build w 38 _ _ (by kernel_rfl)
theorem Tch.zero {B : Nat} {ts : List TypeId} {w w' : World} (h : Tch B ts w w') : Tch 0 ts w w' := ⟨h.below.mono (Nat.zero_le _), h.typed⟩
end
section
open Go.RowKit Go.Lib
@[go_sem] theorem buildL9n (n : Int) (w : World) : (Instr.build 32 #[(0, .int .u64 n)]).run Tryz.prog w = .ok (.agg #[.int .u64 n, .string ⟨#[]⟩]) w := run_build w 32 _ _ (by kernel_rfl)
theorem buildSlL9 (l : T9.Li) (w : World) : (Instr.buildSlice 22 1 #[(0, .agg #[.int .u64 (l.id : Int), .string (str l.name)])]).run Tryz.prog w = .ok (.slice (some ⟨w.heap.size, 0, none⟩) 1 1) (w.alloc (.cells #[.int .u64 (l.id : Int), .string (str l.name)] 32)) := by
 obtain ⟨i0, hi, hz0, hz1, hz2⟩ := info_parts Tryz.infoLi9
 exact run_buildSlice_one w 22 32 #[.int .u64 (l.id : Int), .string (str l.name)] i0 _ Tryz.underlying22 hi hz0 hz1 (by show 0 < 2; omega) (by show 2 ≤ _; omega)
theorem buildSlK9 (m : MTk) (w : World) : (Instr.buildSlice 23 1 #[(0, .agg (encK m).toArray)]).run Tryz.prog w = .ok (.slice (some ⟨w.heap.size, 0, none⟩) 1 1) (w.alloc (.cells (encK m).toArray 38)) := by
 obtain ⟨i0, hi, hz0, hz1, hz2⟩ := info_parts Tryz.infoTk9
 exact run_buildSlice_one w 23 38 (encK m).toArray i0 _ Tryz.underlying23 hi hz0 hz1 (by show 0 < 7; omega) (by show 7 ≤ _; omega)
end
section
open Go.RowKit Go.Lib Go.Sort
section
variable {P : Program} {ops : Array Oper} {Q : Exit → Act → World → Prop} {md : Region.Mode} {S S' : World → Prop}
theorem anyH_one9 {i : Nat} {oi : Oper} {f : Nat} {ls : Array Bool} {a : Act} {w : World} (hr : Region.ready md ops ls = [i]) (hi : ops[i]? = some oi)
  (h : ∀ K : Act → World → Prop, (∀ b u, S u → wpAnyH P md ops Q S f (ls.setIfInBounds i true) b u → K b u) → if Region.wanted oi (yielded ops a.tmps) = true then Oper.wp P oi a w K Q else K (a.put oi.dst undef) w) : wpAnyH P md ops Q S (f + 1) ls a w := by
 refine ⟨fun e => absurd e (by rw [hr]; simp), fun j hj => ?_⟩
 rw [hr, List.mem_singleton] at hj
 subst hj
 exact wpOp_step hi (fun K hK => h K (fun b u q1 q2 => hK b u ⟨q1, q2⟩))
end
end
end
end Go.Proofs.YtnhpkcphgdkdiaaGreat
