/- Contracts of codec.Writer's methods. -/
import Derived.Test.YtbfkjneidabijaaGreatCd
import Derived.Test.YtbfkjneidabijaaGreatBy
import Derived.Test.YtbfkjneidabijaaGreatFc
import Derived.Lib.SliceRun
namespace Go.Proofs.YtbfkjneidabijaaGreat
open Go.RowKit
set_option maxRecDepth 100000

/-- A codec.Writer, in block p, that has written l; B: from there on lies what it may write. -/
def WS (B : Nat) (w : World) (p : Nat) (l : List UInt8) : Prop :=
  B ≤ p ∧ ∃ A c, w.heap[p]? = some (.cells #[.slice A l.length c] 143 (0, 0)) ∧ w.ownsRow B 5 1 (.slice A l.length c) l.length (bcells l)

section
variable {B : Nat} {w w' : World} {p : Nat} {l : List UInt8}
theorem WS.tch (h : WS B w p l) {B' : Nat} {ts : List TypeId} (hT : Tch B' ts w w') (h1 : 143 ∉ ts) (h2 : 5 ∉ ts) : WS B w' p l := by
  obtain ⟨hB, A, c, hp, ho⟩ := h
  exact ⟨hB, A, c, hT.blk hp h1, own_tch ho hT h2⟩
theorem WS.below (h : WS B w p l) (hT : Below w.heap.size w w') : WS B w' p l := h.tch (Tch.of_below hT (Nat.le_refl _) []) (by simp) (by simp)
theorem WS.alloc (h : WS B w p l) (o : Obj) : WS B (w.alloc o) p l := h.below ((Below.refl _ _).alloc (Nat.le_refl _) o)
theorem WS.size (h : WS B w p l) : B ≤ w.heap.size := by
  obtain ⟨hB, _, _, hp, _⟩ := h
  have := lt_of_block hp
  omega
end

set_option maxHeartbeats 1000000 in
theorem add_c {B p : Nat} {l m : List UInt8} {A : Option Addr} {n c : Nat} {w : World} {D : Nat} {t' : TypeId} (h : WS B w p l) (hL : Lies w D t' A (bcells m)) (hn : n = m.length) (hs : l.length + m.length ≤ 1099511627776) :
    Calls Tryz.prog 103 #[.pointer (some ⟨p, 0, none⟩), .slice A n c] w fun e w' => e = .returned (.tuple #[]) ∧ WS B w' p (l ++ m) ∧ Tch B [143, 5] w w' := by
  have hz := h.size
  obtain ⟨hB, A0, c0, hp, hown⟩ := h
  have c1 := cell_of_one hp
  have f1 := free_of_one hp
  obtain ⟨i0, hi, hz0, hz1, hz2⟩ := info_parts Tryz.infoU8
  have HL := Lib.hid hL
  have HS := Lib.hid hs
  clear hL hs
  subst hn
  go_enter Tryz.func103, Tryz.ntmps103
  go_wp2_with (at_builtin; refine wpList_app _ rfl _ _ 57 rfl B 5 i0 (.int .u8 0) 1 1 Tryz.underlying57 hi hz0 hz1 hz2 rfl (by decide) _ l.length (bcells l) rfl hown D A m.length c (bcells m) t' rfl (by rw [bcells_len]; omega) HL.out (bcells_one _) (by unfold maxLen; have := HS.out; omega) (by have := HS.out; omega) hz ?_)
  intro v' w1 hown' hgrow _
  obtain ⟨A1, k1, rfl⟩ := own_slice hown'
  have hp1 := grown_blk hown hgrow hp (by decide)
  have c2 := cell_of_one hp1
  have f2 := free_of_one hp1
  have T1 := grown_tch (B := B) (ts := [143, 5]) hown hgrow (Nat.le_refl _) hz (by decide)
  clear hgrow hown
  have HO := Lib.hid hown'
  clear hown'
  go_wp2
  go_end0
  refine ⟨rfl, ⟨hB, A1, k1, ?_, ?_⟩, ?_⟩
  · rw [List.length_append]
    exact one_setCell hp1
  · rw [List.length_append, bcells_app]
    exact own_far HO.out hp1 (by decide) _
  · exact T1.setCell hp1 (by decide) hB _

/-- One byte, from a slice of its own. -/
theorem add1_c {B p : Nat} {l : List UInt8} {x : Int} {w : World} (b : UInt8) (h : WS B w p l) (hx : x = (b.toNat : Int)) (hs : l.length + 1 ≤ 1099511627776) :
    Calls Tryz.prog 103 #[.pointer (some ⟨p, 0, none⟩), .slice (some ⟨w.heap.size, 0, none⟩) 1 1] (w.alloc (.cells #[.int .u8 x] 5)) fun e w' => e = .returned (.tuple #[]) ∧ WS B w' p (l ++ [b]) ∧ Tch B [143, 5] w w' := by
  subst hx
  have hL : Lies (w.alloc (.cells #[.int .u8 (b.toNat : Int)] 5)) 0 5 (some ⟨w.heap.size, 0, none⟩) (bcells [b]) := Lies.of_blk (heap_alloc_new w _)
  refine (add_c (h.alloc _) hL rfl hs).mono fun e w' q => ⟨q.1, q.2.1, ?_⟩
  exact (((Tch.refl B _ w).alloc h.size _).trans q.2.2)

set_option maxHeartbeats 1000000 in
theorem whole_c {B p : Nat} {l : List UInt8} {n z : Int} {k : Nat} {w : World} (hz : z = (k : Int)) (h : WS B w p l) (h0 : 0 ≤ n) (h1 : n < 18446744073709551616) (hk : k ≤ 8) (hs : l.length + 8 ≤ 1099511627776) :
    Calls Tryz.prog 104 #[.pointer (some ⟨p, 0, none⟩), .int .u64 n, .int .i64 z] w fun e w' => e = .returned (.tuple #[]) ∧ WS B w' p (l ++ Cd.fix n.toNat k) ∧ Tch B [143, 5] w w' := by
  have H1 := Lib.hid h1
  have HW := Lib.hid h
  clear h1 h
  subst hz
  go_enter Tryz.func104, Tryz.ntmps104
  go_wp2_with fail
  go_loopw [2] (fun i wr => ∃ (j : Nat) (d : List UInt8), j ≤ k ∧ i = .int .i64 (j : Int) ∧ d ++ Cd.fix n.toNat j = Cd.fix n.toNat k ∧ WS B wr p (l ++ d) ∧ Tch B [143, 5] w wr) (fun i _ => (intOf i).toNat)
  case atStart => exact ⟨k, [], Nat.le_refl _, rfl, rfl, by simpa using HW.out, Tch.refl _ _ _⟩
  case round =>
    obtain ⟨j, d, hj, rfl, hd, hws, ht⟩ := hrel
    have HD := Lib.hid hd
    clear hd
    have dl : d.length + j = k := by have := congrArg List.length HD.out; simpa [Cd.fix_len] using this
    by_cases hz : 0 < j
    · obtain ⟨j, rfl⟩ : ∃ i, j = i + 1 := ⟨j - 1, by omega⟩
      go_wp2_with fail
      refine (add1_c (Cd.byt n.toNat j) hws (byt_int h0 j) (by rw [List.length_append]; omega)).mono ?_
      rintro e w' ⟨rfl, hw2, t2⟩
      have HT := Lib.hid t2
      clear t2
      go_wp2
      go_roundw
      case rel => exact ⟨j, d ++ [Cd.byt n.toNat j], by omega, rfl, by rw [← HD.out, Cd.fix]; simp, by rw [← List.append_assoc]; exact hw2, ht.trans HT.out⟩
      case measure => simp [intOf] <;> omega
    · obtain rfl : j = 0 := by omega
      go_wp2
      go_end0
      refine ⟨rfl, ?_, ht⟩
      rw [← HD.out]
      simpa [Cd.fix] using hws

def nums (ns : List Int) : List UInt8 := ns.flatMap fun n => Cd.num n.toNat
theorem nums_snoc (ns : List Int) (n : Int) : nums (ns ++ [n]) = nums ns ++ Cd.num n.toNat := by simp [nums]
theorem num_len (n : Nat) : (Cd.num n).length ≤ 9 := by
  have := Cd.wid_pos n
  unfold Cd.num
  split
  · simp
  · simp [Cd.fix_len]; omega
theorem nums_len (ns : List Int) : (nums ns).length ≤ 9 * ns.length := by
  induction ns with
  | nil => simp [nums]
  | cons n ns ih =>
    have := num_len n.toNat
    simp only [nums, List.flatMap_cons, List.length_append, List.length_cons] at ih ⊢
    omega
theorem num_lo {n : Int} (h0 : 0 ≤ n) (h : n < 128) : n = ((Cd.byt n.toNat 0).toNat : Int) ∧ Cd.num n.toNat = [Cd.byt n.toNat 0] := by
  refine ⟨?_, by unfold Cd.num; rw [if_pos (by omega)]⟩
  rw [Cd.byt_nat]; simp; omega
theorem num_hi {n : Int} (h : 128 ≤ n) : 128 + (Cd.wid n.toNat : Int) = ((UInt8.ofNat (128 + Cd.wid n.toNat)).toNat : Int) ∧ Cd.num n.toNat = [UInt8.ofNat (128 + Cd.wid n.toNat)] ++ Cd.fix n.toNat (Cd.wid n.toNat) := by
  have w := Cd.wid_pos n.toNat
  refine ⟨?_, by unfold Cd.num; rw [if_neg (by omega)]; rfl⟩
  rw [UInt8.toNat_ofNat']; omega

set_option maxHeartbeats 2000000 in
set_option maxRecDepth 100000 in
theorem wN_c {B p : Nat} {l : List UInt8} {A : Option Addr} {c : Nat} {ns : List Int} {w : World} {n : Nat} (h : WS B w p l) (hL : Lies w B 52 A (ns.map (Value.int .u64))) (hn : n = ns.length)
    (hb : ∀ n ∈ ns, 0 ≤ n ∧ n < 18446744073709551616) (hs : l.length + 9 * ns.length ≤ 1000000000000) :
    Calls Tryz.prog 87 #[.pointer (some ⟨p, 0, none⟩), .slice A n c] w fun e w' => e = .returned (.tuple #[]) ∧ WS B w' p (l ++ nums ns) ∧ Tch B [143, 5] w w' := by
  have HB := Lib.hid hb
  have HW := Lib.hid h
  have HL := Lib.hid hL
  clear hb h hL
  subst hn
  go_enter Tryz.func87, Tryz.ntmps87
  go_wp2_with fail
  go_loopw [9] (fun i wr => ∃ k : Nat, k ≤ ns.length ∧ i = .int .i64 (k : Int) ∧ WS B wr p (l ++ nums (ns.take k)) ∧ Tch B [143, 5] w wr) (fun i _ => ns.length - (intOf i).toNat)
  case atStart => exact ⟨0, Nat.zero_le _, rfl, by simpa [nums] using HW.out, Tch.refl _ _ _⟩
  case round =>
    obtain ⟨k, hk, rfl, hws, ht⟩ := hrel
    by_cases hz : k < ns.length
    · obtain ⟨ad, x, rfl, hx, hc⟩ := (HL.out.tch ht (by decide)).int hz
      have hxb := HB.out x (List.mem_of_getElem? hx)
      have q0 := hxb.1
      have Q1 := Lib.hid hxb.2
      have ll := nums_len (ns.take k)
      rw [List.length_take, Nat.min_eq_left hk] at ll
      have HN := Lib.hid (take_next hx)
      have HT := Lib.hid ht
      clear hxb ht hx
      by_cases hlo : x < 128
      · have e := num_lo q0 hlo
        have E := Lib.hid e
        clear e
        go_wp2_with (go_at_call 102; refine (first_lo _ _ q0 hlo).mono ?_; rintro e w' ⟨rfl, rfl⟩)
        refine (add1_c (Cd.byt x.toNat 0) hws E.out.1 (by rw [List.length_append]; omega)).mono ?_
        rintro e w' ⟨rfl, hw2, t2⟩
        have HT2 := Lib.hid t2
        clear t2
        go_wp2
        go_roundw
        case rel => exact ⟨k + 1, by omega, by go_num, by rw [HN.out, nums_snoc, E.out.2, ← List.append_assoc]; exact hw2, HT.out.trans HT2.out⟩
        case measure => simp [intOf]; omega
      · have e := num_hi (n := x) (by omega)
        have E := Lib.hid e
        have wp := Cd.wid_pos x.toNat
        clear e
        go_wp2_with (go_at_call 102; refine (first_hi _ _ (by omega) Q1.out).mono ?_; rintro e w' ⟨rfl, rfl⟩)
        refine (add1_c (UInt8.ofNat (128 + Cd.wid x.toNat)) hws E.out.1 (by rw [List.length_append]; omega)).mono ?_
        rintro e w' ⟨rfl, hw2, t2⟩
        have HT2 := Lib.hid t2
        clear t2
        go_wp2_with fail
        refine (whole_c (k := Cd.wid x.toNat) (by omega) hw2 q0 Q1.out wp.2 (by rw [List.length_append, List.length_append, List.length_singleton]; omega)).mono ?_
        rintro e w' ⟨rfl, hw3, t3⟩
        have HT3 := Lib.hid t3
        clear t3
        go_wp2
        go_roundw
        case rel => exact ⟨k + 1, by omega, by go_num, by rw [HN.out, nums_snoc, E.out.2, ← List.append_assoc, ← List.append_assoc]; exact hw3, (HT.out.trans HT2.out).trans HT3.out⟩
        case measure => simp [intOf]; omega
    · obtain rfl : k = ns.length := by omega
      go_wp2
      go_end0
      refine ⟨rfl, ?_, ht⟩
      rw [List.take_length] at hws
      exact hws

/-- One number, from a slice of its own. -/
theorem wN1_c {B p g : Nat} {l : List UInt8} {x : Int} {w : World} (m : Nat) (hg : g = w.heap.size) (h : WS B w p l) (hx : x = (m : Int)) (hm : m < 18446744073709551616) (hs : l.length + 9 ≤ 1000000000000) :
    Calls Tryz.prog 87 #[.pointer (some ⟨p, 0, none⟩), .slice (some ⟨g, 0, none⟩) 1 1] (w.alloc (.cells #[.int .u64 x] 52)) fun e w' => e = .returned (.tuple #[]) ∧ WS B w' p (l ++ Cd.num m) ∧ Tch B [143, 5] w w' := by
  subst hg
  subst hx
  have hL : Lies (w.alloc (.cells #[.int .u64 (m : Int)] 52)) B 52 (some ⟨w.heap.size, 0, none⟩) ([(m : Int)].map (Value.int .u64)) := Lies.of_blk (heap_alloc_new w _)
  refine (wN_c (h.alloc _) hL rfl (by intro n hn; simp at hn; subst hn; omega) (by simpa using hs)).mono fun e w' q => ⟨q.1, by simpa [nums] using q.2.1, ?_⟩
  exact (((Tch.refl B _ w).alloc h.size _).trans q.2.2)

theorem zig_minus {n : Int} (h0 : -9223372036854775808 ≤ n) (h1 : n < 0) : IntKind.u64.wrap (IntKind.u64.wrap (2 * IntKind.u64.wrap (wrap64 (-wrap64 (n + 1)))) + 1) = (Cd.zig n : Int) := by
  unfold Cd.zig
  rw [if_pos h1]
  simp only [Fl.wrap_u64, wrap64]
  omega
theorem zig_plus {n : Int} (h1 : n < 9223372036854775808) (h0 : 0 ≤ n) : IntKind.u64.wrap (2 * IntKind.u64.wrap n) = (Cd.zig n : Int) := by
  unfold Cd.zig
  rw [if_neg (by omega)]
  simp only [Fl.wrap_u64]
  omega

end Go.Proofs.YtbfkjneidabijaaGreat
