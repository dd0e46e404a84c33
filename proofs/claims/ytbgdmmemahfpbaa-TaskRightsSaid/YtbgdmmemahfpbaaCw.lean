/- Contracts of codec.Writer's methods. Parts in memory: a slice of parts reads as a list of them. Contracts of the document's own writers (factotumref01: Fixed, N, I, F, B, Flag). -/
import Derived.Test.YtbgdmmemahfpbaaCd
import Derived.Test.YtbgdmmemahfpbaaBy
import Derived.Test.YtbgdmmemahfpbaaFo
import Derived.Lib.SliceRun
namespace Go.Proofs.Ytbgdmmemahfpbaa
set_option maxRecDepth 100000

section
open Go.RowKit

/-- A codec.Writer, in block p, that has written l; B: from there on lies what it may write. -/
def WS (B : Nat) (w : World) (p : Nat) (l : List UInt8) : Prop :=
  B ≤ p ∧ ∃ A c, w.heap[p]? = some (.cells #[.slice A l.length c] 86 (0, 0)) ∧ w.ownsRow B 5 1 (.slice A l.length c) l.length (bcells l)

section
variable {B : Nat} {w w' : World} {p : Nat} {l : List UInt8}
theorem WS.tch (h : WS B w p l) {B' : Nat} {ts : List TypeId} (hT : Tch B' ts w w') (h1 : 86 ∉ ts) (h2 : 5 ∉ ts) : WS B w' p l := by
  obtain ⟨hB, A, c, hp, ho⟩ := h
  exact ⟨hB, A, c, hT.blk hp h1, own_tch ho hT h2⟩
theorem WS.below (h : WS B w p l) (hT : Below w.heap.size w w') : WS B w' p l := h.tch (Tch.of_below hT (Nat.le_refl _) []) (by simp) (by simp)
theorem WS.alloc (h : WS B w p l) (o : Obj) : WS B (w.alloc o) p l := h.below ((Below.refl _ _).alloc (Nat.le_refl _) o)
theorem WS.size (h : WS B w p l) : B ≤ w.heap.size := by
  obtain ⟨hB, _, _, hp, _⟩ := h
  have := lt_of_block hp
  omega
end

set_option maxHeartbeats 1000000 in
theorem add_c {B p : Nat} {l m : List UInt8} {A : Option Addr} {n c : Nat} {w : World} {D : Nat} {t' : TypeId} (h : WS B w p l) (hL : Lies w D t' A (bcells m)) (hn : n = m.length) (hs : l.length + m.length ≤ 1099511627776) :
    Calls Try.prog 108 #[.pointer (some ⟨p, 0, none⟩), .slice A n c] w fun e w' => e = .returned (.tuple #[]) ∧ WS B w' p (l ++ m) ∧ Tch B [86, 5] w w' := by
  have hz := h.size
  obtain ⟨hB, A0, c0, hp, hown⟩ := h
  have c1 := cell_of_one hp
  have f1 := free_of_one hp
  obtain ⟨i0, hi, hz0, hz1, hz2⟩ := info_parts Try.infoU8
  have HL := Lib.hid hL
  have HS := Lib.hid hs
  clear hL hs
  subst hn
  go_enter Try.func108, Try.ntmps108
  go_wp2_with (at_builtin; refine wpList_app _ rfl _ _ 47 rfl B 5 i0 (.int .u8 0) 1 1 Try.underlying47 hi hz0 hz1 hz2 rfl (by decide) _ l.length (bcells l) rfl hown D A m.length c (bcells m) t' rfl (by rw [bcells_len]; omega) HL.out (bcells_one _) (by unfold maxLen; have := HS.out; omega) (by have := HS.out; omega) hz ?_)
  intro v' w1 hown' hgrow _
  obtain ⟨A1, k1, rfl⟩ := own_slice hown'
  have hp1 := grown_blk hown hgrow hp (by decide)
  have c2 := cell_of_one hp1
  have f2 := free_of_one hp1
  have T1 := grown_tch (B := B) (ts := [86, 5]) hown hgrow (Nat.le_refl _) hz (by decide)
  clear hgrow hown
  have HO := Lib.hid hown'
  clear hown'
  go_wp2
  go_end0
  refine ⟨rfl, ⟨hB, A1, k1, ?_, ?_⟩, ?_⟩
  · rw [List.length_append]
    exact one_setCell hp1
  · rw [List.length_append, bcells_app]
    exact own_far HO.out hp1 (by decide) _
  · exact T1.setCell hp1 (by decide) hB _

/-- One byte, from a slice of its own. -/
theorem add1_c {B p : Nat} {l : List UInt8} {x : Int} {w : World} (b : UInt8) (h : WS B w p l) (hx : x = (b.toNat : Int)) (hs : l.length + 1 ≤ 1099511627776) :
    Calls Try.prog 108 #[.pointer (some ⟨p, 0, none⟩), .slice (some ⟨w.heap.size, 0, none⟩) 1 1] (w.alloc (.cells #[.int .u8 x] 5)) fun e w' => e = .returned (.tuple #[]) ∧ WS B w' p (l ++ [b]) ∧ Tch B [86, 5] w w' := by
  subst hx
  have hL : Lies (w.alloc (.cells #[.int .u8 (b.toNat : Int)] 5)) 0 5 (some ⟨w.heap.size, 0, none⟩) (bcells [b]) := Lies.of_blk (heap_alloc_new w _)
  refine (add_c (h.alloc _) hL rfl hs).mono fun e w' q => ⟨q.1, q.2.1, ?_⟩
  exact (((Tch.refl B _ w).alloc h.size _).trans q.2.2)

set_option maxHeartbeats 1000000 in
theorem whole_c {B p : Nat} {l : List UInt8} {n z : Int} {k : Nat} {w : World} (hz : z = (k : Int)) (h : WS B w p l) (h0 : 0 ≤ n) (h1 : n < 18446744073709551616) (hk : k ≤ 8) (hs : l.length + 8 ≤ 1099511627776) :
    Calls Try.prog 109 #[.pointer (some ⟨p, 0, none⟩), .int .u64 n, .int .i64 z] w fun e w' => e = .returned (.tuple #[]) ∧ WS B w' p (l ++ Cd.fix n.toNat k) ∧ Tch B [86, 5] w w' := by
  have H1 := Lib.hid h1
  have HW := Lib.hid h
  clear h1 h
  subst hz
  go_enter Try.func109, Try.ntmps109
  go_wp2_with fail
  go_loopw [2] (fun i wr => ∃ (j : Nat) (d : List UInt8), j ≤ k ∧ i = .int .i64 (j : Int) ∧ d ++ Cd.fix n.toNat j = Cd.fix n.toNat k ∧ WS B wr p (l ++ d) ∧ Tch B [86, 5] w wr) (fun i _ => (intOf i).toNat)
  case atStart => exact ⟨k, [], Nat.le_refl _, rfl, rfl, by simpa using HW.out, Tch.refl _ _ _⟩
  case round =>
    obtain ⟨j, d, hj, rfl, hd, hws, ht⟩ := hrel
    have HD := Lib.hid hd
    clear hd
    have dl : d.length + j = k := by have := congrArg List.length HD.out; simpa [Cd.fix_len] using this
    by_cases hz : 0 < j
    · obtain ⟨j, rfl⟩ : ∃ i, j = i + 1 := ⟨j - 1, by omega⟩
      go_wp2_with fail
      refine (add1_c (Cd.byt n.toNat j) hws (byt_int h0 j) (by rw [List.length_append]; omega)).mono ?_
      rintro e w' ⟨rfl, hw2, t2⟩
      have HT := Lib.hid t2
      clear t2
      go_wp2
      go_roundw
      case rel => exact ⟨j, d ++ [Cd.byt n.toNat j], by omega, rfl, by rw [← HD.out, Cd.fix]; simp, by rw [← List.append_assoc]; exact hw2, ht.trans HT.out⟩
      case measure => simp [intOf] <;> omega
    · obtain rfl : j = 0 := by omega
      go_wp2
      go_end0
      refine ⟨rfl, ?_, ht⟩
      rw [← HD.out]
      simpa [Cd.fix] using hws

def nums (ns : List Int) : List UInt8 := ns.flatMap fun n => Cd.num n.toNat
theorem nums_snoc (ns : List Int) (n : Int) : nums (ns ++ [n]) = nums ns ++ Cd.num n.toNat := by simp [nums]
theorem num_len (n : Nat) : (Cd.num n).length ≤ 9 := by
  have := Cd.wid_pos n
  unfold Cd.num
  split
  · simp
  · simp [Cd.fix_len]; omega
theorem nums_len (ns : List Int) : (nums ns).length ≤ 9 * ns.length := by
  induction ns with
  | nil => simp [nums]
  | cons n ns ih =>
    have := num_len n.toNat
    simp only [nums, List.flatMap_cons, List.length_append, List.length_cons] at ih ⊢
    omega
theorem num_lo {n : Int} (h0 : 0 ≤ n) (h : n < 128) : n = ((Cd.byt n.toNat 0).toNat : Int) ∧ Cd.num n.toNat = [Cd.byt n.toNat 0] := by
  refine ⟨?_, by unfold Cd.num; rw [if_pos (by omega)]⟩
  rw [Cd.byt_nat]; simp; omega
theorem num_hi {n : Int} (h : 128 ≤ n) : 128 + (Cd.wid n.toNat : Int) = ((UInt8.ofNat (128 + Cd.wid n.toNat)).toNat : Int) ∧ Cd.num n.toNat = [UInt8.ofNat (128 + Cd.wid n.toNat)] ++ Cd.fix n.toNat (Cd.wid n.toNat) := by
  have w := Cd.wid_pos n.toNat
  refine ⟨?_, by unfold Cd.num; rw [if_neg (by omega)]; rfl⟩
  rw [UInt8.toNat_ofNat']; omega

set_option maxHeartbeats 2000000 in
set_option maxRecDepth 100000 in
theorem wN_c {B p : Nat} {l : List UInt8} {A : Option Addr} {c : Nat} {ns : List Int} {w : World} {n : Nat} (h : WS B w p l) (hL : Lies w B 33 A (ns.map (Value.int .u64))) (hn : n = ns.length)
    (hb : ∀ n ∈ ns, 0 ≤ n ∧ n < 18446744073709551616) (hs : l.length + 9 * ns.length ≤ 1000000000000) :
    Calls Try.prog 62 #[.pointer (some ⟨p, 0, none⟩), .slice A n c] w fun e w' => e = .returned (.tuple #[]) ∧ WS B w' p (l ++ nums ns) ∧ Tch B [86, 5] w w' := by
  have HB := Lib.hid hb
  have HW := Lib.hid h
  have HL := Lib.hid hL
  clear hb h hL
  subst hn
  go_enter Try.func62, Try.ntmps62
  go_wp2_with fail
  go_loopw [9] (fun i wr => ∃ k : Nat, k ≤ ns.length ∧ i = .int .i64 (k : Int) ∧ WS B wr p (l ++ nums (ns.take k)) ∧ Tch B [86, 5] w wr) (fun i _ => ns.length - (intOf i).toNat)
  case atStart => exact ⟨0, Nat.zero_le _, rfl, by simpa [nums] using HW.out, Tch.refl _ _ _⟩
  case round =>
    obtain ⟨k, hk, rfl, hws, ht⟩ := hrel
    by_cases hz : k < ns.length
    · obtain ⟨ad, x, rfl, hx, hc⟩ := (HL.out.tch ht (by decide)).int hz
      have hxb := HB.out x (List.mem_of_getElem? hx)
      have q0 := hxb.1
      have Q1 := Lib.hid hxb.2
      have ll := nums_len (ns.take k)
      rw [List.length_take, Nat.min_eq_left hk] at ll
      have HN := Lib.hid (take_next hx)
      have HT := Lib.hid ht
      clear hxb ht hx
      by_cases hlo : x < 128
      · have e := num_lo q0 hlo
        have E := Lib.hid e
        clear e
        go_wp2_with (go_at_call 96; refine (first_lo _ _ q0 hlo).mono ?_; rintro e w' ⟨rfl, rfl⟩)
        refine (add1_c (Cd.byt x.toNat 0) hws E.out.1 (by rw [List.length_append]; omega)).mono ?_
        rintro e w' ⟨rfl, hw2, t2⟩
        have HT2 := Lib.hid t2
        clear t2
        go_wp2
        go_roundw
        case rel => exact ⟨k + 1, by omega, by go_num, by rw [HN.out, nums_snoc, E.out.2, ← List.append_assoc]; exact hw2, HT.out.trans HT2.out⟩
        case measure => simp [intOf]; omega
      · have e := num_hi (n := x) (by omega)
        have E := Lib.hid e
        have wp := Cd.wid_pos x.toNat
        clear e
        go_wp2_with (go_at_call 96; refine (first_hi _ _ (by omega) Q1.out).mono ?_; rintro e w' ⟨rfl, rfl⟩)
        refine (add1_c (UInt8.ofNat (128 + Cd.wid x.toNat)) hws E.out.1 (by rw [List.length_append]; omega)).mono ?_
        rintro e w' ⟨rfl, hw2, t2⟩
        have HT2 := Lib.hid t2
        clear t2
        go_wp2_with fail
        refine (whole_c (k := Cd.wid x.toNat) (by omega) hw2 q0 Q1.out wp.2 (by rw [List.length_append, List.length_append, List.length_singleton]; omega)).mono ?_
        rintro e w' ⟨rfl, hw3, t3⟩
        have HT3 := Lib.hid t3
        clear t3
        go_wp2
        go_roundw
        case rel => exact ⟨k + 1, by omega, by go_num, by rw [HN.out, nums_snoc, E.out.2, ← List.append_assoc, ← List.append_assoc]; exact hw3, (HT.out.trans HT2.out).trans HT3.out⟩
        case measure => simp [intOf]; omega
    · obtain rfl : k = ns.length := by omega
      go_wp2
      go_end0
      refine ⟨rfl, ?_, ht⟩
      rw [List.take_length] at hws
      exact hws

/-- One number, from a slice of its own. -/
theorem wN1_c {B p g : Nat} {l : List UInt8} {x : Int} {w : World} (m : Nat) (hg : g = w.heap.size) (h : WS B w p l) (hx : x = (m : Int)) (hm : m < 18446744073709551616) (hs : l.length + 9 ≤ 1000000000000) :
    Calls Try.prog 62 #[.pointer (some ⟨p, 0, none⟩), .slice (some ⟨g, 0, none⟩) 1 1] (w.alloc (.cells #[.int .u64 x] 33)) fun e w' => e = .returned (.tuple #[]) ∧ WS B w' p (l ++ Cd.num m) ∧ Tch B [86, 5] w w' := by
  subst hg
  subst hx
  have hL : Lies (w.alloc (.cells #[.int .u64 (m : Int)] 33)) B 33 (some ⟨w.heap.size, 0, none⟩) ([(m : Int)].map (Value.int .u64)) := Lies.of_blk (heap_alloc_new w _)
  refine (wN_c (h.alloc _) hL rfl (by intro n hn; simp at hn; subst hn; omega) (by simpa using hs)).mono fun e w' q => ⟨q.1, by simpa [nums] using q.2.1, ?_⟩
  exact (((Tch.refl B _ w).alloc h.size _).trans q.2.2)

theorem zig_minus {n : Int} (h0 : -9223372036854775808 ≤ n) (h1 : n < 0) : IntKind.u64.wrap (IntKind.u64.wrap (2 * IntKind.u64.wrap (wrap64 (-wrap64 (n + 1)))) + 1) = (Cd.zig n : Int) := by
  unfold Cd.zig
  rw [if_pos h1]
  simp only [Fl.wrap_u64, wrap64]
  omega
theorem zig_plus {n : Int} (h1 : n < 9223372036854775808) (h0 : 0 ≤ n) : IntKind.u64.wrap (2 * IntKind.u64.wrap n) = (Cd.zig n : Int) := by
  unfold Cd.zig
  rw [if_neg (by omega)]
  simp only [Fl.wrap_u64]
  omega

set_option maxHeartbeats 1000000 in
theorem wF_c {B p : Nat} {l : List UInt8} {f : Nat} {w : World} (h : WS B w p l) (h1 : f < 18446744073709551616) (hs : l.length + 9 ≤ 1000000000000) :
    Calls Try.prog 65 #[.pointer (some ⟨p, 0, none⟩), .float .f64 f] w fun e w' => e = .returned (.tuple #[]) ∧ WS B w' p (l ++ Cd.fix (Fl.key f).toNat 8) ∧ Tch B [86, 5] w w' := by
  have kb := Lib.hid (Fl.key_bound f)
  have H1 := Lib.hid h1
  clear h1
  go_enter Try.func65, Try.ntmps65
  go_wp2_with (go_at_call 110; refine (key_c _ _ H1.out).mono ?_; rintro e w' ⟨rfl, rfl⟩)
  refine (whole_c (k := 8) rfl h kb.out.1 kb.out.2 (by omega) (by omega)).mono ?_
  rintro e w' ⟨rfl, hw, t⟩
  have HT := Lib.hid t
  clear t
  go_wp2
  go_end0
  exact ⟨rfl, hw, HT.out⟩

set_option maxHeartbeats 1000000 in
theorem wB_c {B p : Nat} {l b : List UInt8} {A : Option Addr} {n c : Nat} {w : World} (h : WS B w p l) (hL : Lies w B 0 A (bcells b)) (hn : n = b.length) (hs : l.length + b.length + 9 ≤ 1000000000000) :
    Calls Try.prog 63 #[.pointer (some ⟨p, 0, none⟩), .slice A n c] w fun e w' => e = .returned (.tuple #[]) ∧ WS B w' p (l ++ (Cd.num b.length ++ b)) ∧ Tch B [86, 5] w w' := by
  have HL := Lib.hid hL
  clear hL
  subst hn
  have nl := num_len b.length
  go_enter Try.func63, Try.ntmps63
  go_wp2_with fail
  refine (wN1_c b.length rfl h rfl (by omega) (by omega)).mono ?_
  rintro e w' ⟨rfl, hw, t⟩
  have HT := Lib.hid t
  clear t
  go_wp2_with fail
  refine (add_c hw (HL.out.tch HT.out (by decide)) rfl (by rw [List.length_append]; omega)).mono ?_
  rintro e w' ⟨rfl, hw2, t2⟩
  have HT2 := Lib.hid t2
  clear t2
  go_wp2
  go_end0
  exact ⟨rfl, by rw [← List.append_assoc]; exact hw2, HT.out.trans HT2.out⟩

set_option maxHeartbeats 1000000 in
theorem wG_c {B p : Nat} {l : List UInt8} {g : Bool} {w : World} (h : WS B w p l) (hs : l.length + 9 ≤ 1000000000000) :
    Calls Try.prog 64 #[.pointer (some ⟨p, 0, none⟩), .bool g] w fun e w' => e = .returned (.tuple #[]) ∧ WS B w' p (l ++ [if g = true then 1 else 0]) ∧ Tch B [86, 5] w w' := by
  cases g
  · go_enter Try.func64, Try.ntmps64
    go_wp2_with fail
    refine (add1_c 0 h rfl (by omega)).mono ?_
    rintro e w' ⟨rfl, hw, t⟩
    have HT := Lib.hid t
    clear t
    go_wp2
    go_end0
    exact ⟨rfl, hw, HT.out⟩
  · go_enter Try.func64, Try.ntmps64
    go_wp2_with fail
    refine (add1_c 1 h rfl (by omega)).mono ?_
    rintro e w' ⟨rfl, hw, t⟩
    have HT := Lib.hid t
    clear t
    go_wp2
    refine bodyPost_ret (results_none rfl _ _ _) rfl ?_
    exact ⟨rfl, hw, HT.out⟩
end

section
open Go.RowKit

/-- A part, and where its bytes lie. -/
structure MPt where
  pt : Cd.Pt
  A : Option Addr
  c : Nat
def MPt.cells (m : MPt) : List Value := [.int .i64 m.pt.kind, .int .u64 m.pt.n, .int .i64 m.pt.i, .float .f64 m.pt.f, .slice m.A m.pt.b.length m.c, .bool m.pt.is]
def flat (ms : List MPt) : List Value := ms.flatMap MPt.cells
def MPt.fine (m : MPt) (w : World) (B : Nat) (tb : TypeId) : Prop := Lies w B tb m.A (bcells m.pt.b) ∧ m.pt.b.length ≤ m.c
def PL (w : World) (B : Nat) (tp tb : TypeId) (A : Option Addr) (ms : List MPt) : Prop := Lies w B tp A (flat ms) ∧ ∀ m ∈ ms, m.fine w B tb
def pts (ms : List MPt) : List Cd.Pt := ms.map (·.pt)

theorem flat_len (ms : List MPt) : (flat ms).length = ms.length * 6 := by
  induction ms with
  | nil => rfl
  | cons m ms ih => simp only [flat, List.flatMap_cons, List.length_append, List.length_cons] at ih ⊢; rw [ih]; simp [MPt.cells]; omega
theorem flat_snoc (ms : List MPt) (m : MPt) : flat (ms ++ [m]) = flat ms ++ m.cells := by simp [flat]
theorem flat_one (ms : List MPt) : ∀ u ∈ flat ms, u.oneCell' = true := by
  intro u hu
  simp only [flat, List.mem_flatMap] at hu
  obtain ⟨m, _, hm⟩ := hu
  simp only [MPt.cells, List.mem_cons, List.not_mem_nil, or_false] at hm
  rcases hm with rfl | rfl | rfl | rfl | rfl | rfl <;> rfl
theorem flat_at {ms : List MPt} {k : Nat} {m : MPt} (h : ms[k]? = some m) {j : Nat} (hj : j < 6) : (flat ms)[k * 6 + j]? = m.cells[j]? := by
  induction ms generalizing k with
  | nil => simp at h
  | cons q ms ih =>
    have hq : q.cells.length = 6 := rfl
    cases k with
    | zero =>
      simp only [List.getElem?_cons_zero, Option.some.injEq] at h
      subst h
      simp only [flat, List.flatMap_cons, Nat.zero_mul, Nat.zero_add]
      rw [List.getElem?_append_left (by omega)]
    | succ k =>
      simp only [List.getElem?_cons_succ] at h
      have := ih h
      simp only [flat, List.flatMap_cons] at this ⊢
      rw [List.getElem?_append_right (by omega), hq, show (k + 1) * 6 + j - 6 = k * 6 + j by omega]
      exact this
theorem PL.nil {w : World} {B : Nat} {tp tb : TypeId} {A : Option Addr} : PL w B tp tb A [] := ⟨Lies.nil, by simp⟩
section
variable {w w' : World} {B B' : Nat} {tp tb tp' tb' : TypeId} {A : Option Addr} {ms : List MPt}
theorem MPt.fine.tch {m : MPt} (h : m.fine w B tb) {ts : List TypeId} (hT : Tch B ts w w') (h2 : tb ∉ ts) : m.fine w' B tb := ⟨h.1.tch hT h2, h.2⟩
theorem PL.tch (h : PL w B tp tb A ms) {ts : List TypeId} (hT : Tch B ts w w') (h1 : tp ∉ ts) (h2 : tb ∉ ts) : PL w' B tp tb A ms := ⟨h.1.tch hT h1, fun m hm => (h.2 m hm).tch hT h2⟩
theorem PL.below (h : PL w B tp tb A ms) (hB : B ≤ w.heap.size) (hT : Below w.heap.size w w') : PL w' B tp tb A ms := h.tch (Tch.of_below hT hB []) (by simp) (by simp)
theorem PL.more (h : PL w B tp tb A ms) (hB : B ≤ B') : PL w B' tp tb A ms := ⟨h.1.more hB, fun m hm => ⟨(h.2 m hm).1.more hB, (h.2 m hm).2⟩⟩
theorem PL.old (h : PL w B tp tb A ms) : PL w w.heap.size tp' tb' A ms := ⟨h.1.old, fun m hm => ⟨(h.2 m hm).1.old, (h.2 m hm).2⟩⟩
theorem PL.at_ (h : PL w B tp tb A ms) {k : Nat} (hk : k < ms.length) : ∃ ad m, A = some ad ∧ ms[k]? = some m ∧ m.fine w B tb ∧
    w.cell? (ad.add (k * 6)) = some (.int .i64 m.pt.kind) ∧ w.cell? ⟨(ad.add (k * 6)).block, (ad.add (k * 6)).off + 1, none⟩ = some (.int .u64 m.pt.n) ∧
    w.cell? ⟨(ad.add (k * 6)).block, (ad.add (k * 6)).off + 2, none⟩ = some (.int .i64 m.pt.i) ∧ w.cell? ⟨(ad.add (k * 6)).block, (ad.add (k * 6)).off + 3, none⟩ = some (.float .f64 m.pt.f) ∧
    w.cell? ⟨(ad.add (k * 6)).block, (ad.add (k * 6)).off + 4, none⟩ = some (.slice m.A m.pt.b.length m.c) ∧ w.cell? ⟨(ad.add (k * 6)).block, (ad.add (k * 6)).off + 5, none⟩ = some (.bool m.pt.is) := by
  have hx : ms[k]? = some ms[k] := List.getElem?_eq_getElem hk
  obtain ⟨ad, e, _, hc⟩ := h.1 (fun q => by
    have := flat_len ms
    rw [q] at this
    simp at this
    omega)
  have c : ∀ j u, j < 6 → (ms[k]).cells[j]? = some u → w.cell? ((ad.add (k * 6)).add j) = some u := fun j u hj hu => by
    rw [addr_add]
    exact hc _ _ ((flat_at hx hj).trans hu)
  refine ⟨ad, ms[k], e, hx, h.2 _ (List.getElem_mem hk), ?_, ?_, ?_, ?_, ?_, ?_⟩
  · exact c 0 _ (by omega) rfl
  · exact c 1 _ (by omega) rfl
  · exact c 2 _ (by omega) rfl
  · exact c 3 _ (by omega) rfl
  · exact c 4 _ (by omega) rfl
  · exact c 5 _ (by omega) rfl
end

def fewB (l : List Cd.Pt) : Bool := l.all (fun p => decide (p.b.length ≤ 200)) && decide (l.length ≤ 20)

end

section
open Go.RowKit

set_option maxHeartbeats 1000000 in
set_option maxRecDepth 100000 in
theorem rN_c {B : Nat} {l : List UInt8} {A : Option Addr} {c m : Nat} {n : Int} {w : World} (h : w.ownsRow B 5 1 (.slice A m c) l.length (bcells l)) (hB : B ≤ w.heap.size)
    (h0 : 0 ≤ n) (h1 : n < 18446744073709551616) (hs : l.length + 9 ≤ 1000000000000) :
    Calls Try.prog 67 #[.slice A m c, .int .u64 n] w (AppOk B (l ++ Cd.num n.toNat) w) := by
  have H1 := Lib.hid h1
  have HO := Lib.hid h
  obtain ⟨rfl, _⟩ := own_room h
  clear h1 h
  obtain ⟨i0, hi, hz0, hz1, hz2⟩ := info_parts Try.infoU8
  by_cases hlo : n < 128
  · have E := Lib.hid (num_lo h0 hlo)
    go_enter Try.func67, Try.ntmps67
    go_wp2_with (at_builtin; refine wpList_app _ rfl _ _ 47 rfl B 5 i0 (.int .u8 0) 1 1 Try.underlying47 hi hz0 hz1 hz2 rfl (by decide) _ l.length (bcells l) rfl (HO.out.alloc _) 0 _ 1 1 (bcells [Cd.byt n.toNat 0]) 5 rfl rfl (lies1 E.out.1 rfl) (bcells_one _) (by unfold maxLen; omega) (by omega) (by simp; omega) ?_)
    intro v' w1 hown' hgrow _
    obtain ⟨A2, k2, rfl⟩ := own_slice hown'
    have T1 := app_step (HO.out.alloc _) hgrow (by simp; omega)
    have HT1 := Lib.hid (((Tch.refl B _ w).alloc (by omega) _).trans T1)
    have HO2 := Lib.hid hown'
    clear hown' hgrow T1
    go_wp2
    go_ret
    exact ⟨A2, _, k2, rfl, by rw [E.out.2, bcells_app, List.length_append]; exact HO2.out, HT1.out⟩
  · obtain ⟨b, E⟩ : ∃ b : UInt8, Hid (128 + (Cd.wid n.toNat : Int) = (b.toNat : Int) ∧ Cd.num n.toNat = [b] ++ Cd.fix n.toNat (Cd.wid n.toNat)) := ⟨_, num_hi (by omega)⟩
    have wp := Cd.wid_pos n.toNat
    go_enter Try.func67, Try.ntmps67
    go_wp2_with (first
      | (go_at_call 105; refine (wide_c _ _ h0).mono ?_; rintro e w' ⟨rfl, rfl⟩)
      | (at_builtin; refine wpList_app _ rfl _ _ 47 rfl B 5 i0 (.int .u8 0) 1 1 Try.underlying47 hi hz0 hz1 hz2 rfl (by decide) _ l.length (bcells l) rfl (HO.out.alloc _) 0 _ 1 1 (bcells [b]) 5 rfl rfl (lies1 E.out.1 rfl) (bcells_one _) (by unfold maxLen; omega) (by omega) (by simp; omega) ?_))
    intro v' w1 hown' hgrow _
    obtain ⟨A2, k2, rfl⟩ := own_slice hown'
    have T1 := app_step (HO.out.alloc _) hgrow (by simp; omega)
    have hz1 := T1.size
    have HT1 := Lib.hid (((Tch.refl B _ w).alloc (by omega) _).trans T1)
    have ho2 : w1.ownsRow B 5 1 (.slice A2 (l.length + 1) k2) (l ++ [b]).length (bcells (l ++ [b])) := by
      rw [bcells_app, List.length_append]; exact hown'
    have HO2 := Lib.hid ho2
    clear hown' hgrow T1 ho2
    go_wp2_with fail
    refine (fixed_c (l := l ++ [b]) (k := Cd.wid n.toNat) rfl HO2.out (by simp at hz1; omega) h0 H1.out wp.2 (by simp; omega)).mono ?_
    rintro e w' ⟨A3, m3, k3, rfl, ho3, t3⟩
    have HO3 := Lib.hid ho3
    have HT3 := Lib.hid t3
    clear ho3 t3
    go_wp2
    go_ret
    exact ⟨A3, m3, k3, rfl, by rw [E.out.2, ← List.append_assoc]; exact HO3.out, HT1.out.trans HT3.out⟩

theorem zig_minus2 {n : Int} (h0 : -9223372036854775808 ≤ n) (h1 : n < 0) : IntKind.u64.wrap (IntKind.u64.wrap (IntKind.u64.wrap (wrap64 (-wrap64 (n + 1))) * 2) + 1) = (Cd.zig n : Int) := by
  rw [← zig_minus h0 h1, Int.mul_comm 2]
theorem zig_plus2 {n : Int} (h1 : n < 9223372036854775808) (h0 : 0 ≤ n) : IntKind.u64.wrap (IntKind.u64.wrap n * 2) = (Cd.zig n : Int) := by
  rw [← zig_plus h1 h0, Int.mul_comm 2]

set_option maxHeartbeats 1000000 in
theorem rF_c {B : Nat} {l : List UInt8} {A : Option Addr} {c m : Nat} {f : Nat} {w : World} (h : w.ownsRow B 5 1 (.slice A m c) l.length (bcells l)) (hB : B ≤ w.heap.size)
    (h1 : f < 18446744073709551616) (hs : l.length + 9 ≤ 1000000000000) :
    Calls Try.prog 69 #[.slice A m c, .float .f64 f] w (AppOk B (l ++ Cd.fix (Fl.key f).toNat 8) w) := by
  have kb := Lib.hid (Fl.key_bound f)
  have H1 := Lib.hid h1
  have HO := Lib.hid h
  clear h1 h
  go_enter Try.func69, Try.ntmps69
  go_wp2_with (go_at_call 91; refine (refKey_c _ _ H1.out).mono ?_; rintro e w' ⟨rfl, rfl⟩)
  refine (fixed_c (k := 8) rfl HO.out hB kb.out.1 kb.out.2 (by omega) (by omega)).mono ?_
  rintro e w' ⟨A3, m3, k3, rfl, ho3, t3⟩
  have HO3 := Lib.hid ho3
  have HT3 := Lib.hid t3
  clear ho3 t3
  go_wp2
  go_ret
  exact ⟨A3, m3, k3, rfl, HO3.out, HT3.out⟩

set_option maxHeartbeats 1000000 in
theorem rB_c {B : Nat} {l b : List UInt8} {A Ab : Option Addr} {c m n cb : Nat} {tb : TypeId} {w : World} (h : w.ownsRow B 5 1 (.slice A m c) l.length (bcells l)) (hB : B ≤ w.heap.size)
    (hL : Lies w B tb Ab (bcells b)) (ht : tb ≠ 5) (hn : n = b.length) (hs : l.length + b.length + 9 ≤ 1000000000000) :
    Calls Try.prog 68 #[.slice A m c, .slice Ab n cb] w (AppOk B (l ++ (Cd.num b.length ++ b)) w) := by
  have HO := Lib.hid h
  have HL := Lib.hid hL
  clear h hL
  subst hn
  have nl := num_len b.length
  obtain ⟨i0, hi, hz0, hz1, hz2⟩ := info_parts Try.infoU8
  go_enter Try.func68, Try.ntmps68
  go_wp2_with fail
  refine (rN_c HO.out hB (by omega) (by omega) (by omega)).mono ?_
  rintro e w' ⟨A3, m3, k3, rfl, ho3, t3⟩
  have hz3 := t3.size
  have HO3 := Lib.hid ho3
  have HT3 := Lib.hid t3
  clear ho3 t3
  go_wp2_with (at_builtin; refine wpList_app _ rfl _ _ 47 rfl B 5 i0 (.int .u8 0) 1 1 Try.underlying47 hi hz0 hz1 hz2 rfl (by decide) _ (l ++ Cd.num b.length).length (bcells (l ++ Cd.num b.length)) rfl HO3.out B _ b.length _ (bcells b) tb rfl (by rw [bcells_len]; omega) (HL.out.tch HT3.out (by simpa using ht)) (bcells_one _) (by rw [List.length_append]; unfold maxLen; omega) (by rw [List.length_append]; omega) (by omega) ?_)
  intro v' w1 hown' hgrow _
  obtain ⟨A2, k2, rfl⟩ := own_slice hown'
  have T1 := app_step HO3.out hgrow (by omega)
  have HT1 := Lib.hid (HT3.out.trans T1)
  have ho2 : w1.ownsRow B 5 1 (.slice A2 (l.length + (Cd.num b.length).length + b.length) k2) (l ++ (Cd.num b.length ++ b)).length (bcells (l ++ (Cd.num b.length ++ b))) := by
    rw [← List.append_assoc, bcells_app (l ++ Cd.num b.length) b]; simp only [List.length_append]; simpa using hown'
  have HO2 := Lib.hid ho2
  clear hown' hgrow T1 ho2
  go_wp2
  go_ret
  exact ⟨A2, _, k2, rfl, HO2.out, HT1.out⟩

set_option maxHeartbeats 1000000 in
set_option maxRecDepth 100000 in
theorem rG_c {B : Nat} {l : List UInt8} {A : Option Addr} {c m : Nat} {g : Bool} {w : World} (h : w.ownsRow B 5 1 (.slice A m c) l.length (bcells l)) (hB : B ≤ w.heap.size) (hs : l.length + 9 ≤ 1000000000000) :
    Calls Try.prog 70 #[.slice A m c, .bool g] w (AppOk B (l ++ [if g = true then 1 else 0]) w) := by
  have HO := Lib.hid h
  obtain ⟨rfl, _⟩ := own_room h
  clear h
  obtain ⟨i0, hi, hz0, hz1, hz2⟩ := info_parts Try.infoU8
  cases g
  · go_enter Try.func70, Try.ntmps70
    go_wp2_with (at_builtin; refine wpList_app _ rfl _ _ 47 rfl B 5 i0 (.int .u8 0) 1 1 Try.underlying47 hi hz0 hz1 hz2 rfl (by decide) _ l.length (bcells l) rfl (HO.out.alloc _) 0 _ 1 1 (bcells [0]) 5 rfl rfl (lies1 rfl rfl) (bcells_one _) (by unfold maxLen; omega) (by omega) (by simp; omega) ?_)
    intro v' w1 hown' hgrow _
    obtain ⟨A2, k2, rfl⟩ := own_slice hown'
    have T1 := app_step (HO.out.alloc _) hgrow (by simp; omega)
    have HT1 := Lib.hid (((Tch.refl B _ w).alloc (by omega) _).trans T1)
    have HO2 := Lib.hid hown'
    clear hown' hgrow T1
    go_wp2
    go_ret
    exact ⟨A2, _, k2, rfl, by rw [bcells_app, List.length_append]; exact HO2.out, HT1.out⟩
  · go_enter Try.func70, Try.ntmps70
    go_wp2_with (at_builtin; refine wpList_app _ rfl _ _ 47 rfl B 5 i0 (.int .u8 0) 1 1 Try.underlying47 hi hz0 hz1 hz2 rfl (by decide) _ l.length (bcells l) rfl (HO.out.alloc _) 0 _ 1 1 (bcells [1]) 5 rfl rfl (lies1 rfl rfl) (bcells_one _) (by unfold maxLen; omega) (by omega) (by simp; omega) ?_)
    intro v' w1 hown' hgrow _
    obtain ⟨A2, k2, rfl⟩ := own_slice hown'
    have T1 := app_step (HO.out.alloc _) hgrow (by simp; omega)
    have HT1 := Lib.hid (((Tch.refl B _ w).alloc (by omega) _).trans T1)
    have HO2 := Lib.hid hown'
    clear hown' hgrow T1
    go_wp2
    go_ret
    exact ⟨A2, _, k2, rfl, by rw [bcells_app, List.length_append]; exact HO2.out, HT1.out⟩
end
end Go.Proofs.Ytbgdmmemahfpbaa
