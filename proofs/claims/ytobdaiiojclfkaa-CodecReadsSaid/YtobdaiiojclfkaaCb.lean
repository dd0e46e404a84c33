/- Contracts of math/bits.Len64, codec.first and the document's own wide: how many bytes a number needs. -/
import Derived.Test.YtobdaiiojclfkaaCd
import Derived.Test.YtobdaiiojclfkaaMem
import Derived.Deep.Slices
import Derived.Laws.ShiftsVarLaws
namespace Go.Proofs.Ytobdaiiojclfkaa
open Go.RowKit

/-- A table of bytes that tells of each byte from 1 on a number from 1 to 8. -/
def tabOk (T : ByteArray) : Bool := (List.range 255).all fun i => decide (1 ≤ (T.data.toList.getD (i + 1) 0).toNat ∧ (T.data.toList.getD (i + 1) 0).toNat ≤ 8)
theorem tab_at {T : ByteArray} (hT : tabOk T = true) {i : Nat} (h : i < T.size) (h1 : 1 ≤ i) (h2 : i < 256) : 1 ≤ (T[i]'h).toNat ∧ (T[i]'h).toNat ≤ 8 := by
  unfold tabOk at hT
  rw [List.all_eq_true] at hT
  have q := of_decide_eq_true (hT (i - 1) (by simp; omega))
  rw [show i - 1 + 1 = i by omega] at q
  have e : T.data.toList.getD i 0 = T[i]'h := by
    rw [List.getD_eq_getElem?_getD, List.getElem?_eq_getElem (by simpa using h)]
    rfl
  rwa [e] at q

def LenOk (n : Int) (w : World) (e : Ending) (w' : World) : Prop := ∃ L : Int, e = .returned (.int .i64 L) ∧ 8 * ((Cd.wid n.toNat : Int) - 1) < L ∧ L ≤ 8 * (Cd.wid n.toNat : Int) ∧ w = w'
theorem len_end {n : Int} {w : World} {T : ByteArray} (hT : tabOk T = true) (x b : Int) (hi : x.toNat < T.size) (h1 : 1 ≤ x) (h2 : x < 256) (hb : 0 ≤ b ∧ b ≤ 56) (hw : 8 * ((Cd.wid n.toNat : Int) - 1) = b) {L : Int}
    (hL : L = wrap64 (b + wrap64 ((T[x.toNat]'hi).toNat : Int))) : LenOk n w (.returned (.int .i64 L)) w := by
  have q := tab_at hT hi (by omega) (by omega)
  generalize (T[x.toNat]'hi).toNat = y at *
  refine ⟨L, rfl, ?_, ?_, rfl⟩
  · subst hL; unfold wrap64; omega
  · subst hL; unfold wrap64; omega

theorem len_end0 {n : Int} {w : World} {T : ByteArray} (hT : tabOk T = true) (x : Int) (hi : x.toNat < T.size) (h1 : 1 ≤ x) (h2 : x < 256) (hw : Cd.wid n.toNat = 1) {L : Int}
    (hL : L = wrap64 (wrap64 ((T[x.toNat]'hi).toNat : Int))) : LenOk n w (.returned (.int .i64 L)) w :=
  len_end hT x 0 hi h1 h2 (by omega) (by omega) (by rw [Int.zero_add]; exact hL)

set_option maxHeartbeats 1000000 in
set_option maxRecDepth 100000 in
theorem len64_c (n : Int) (w : World) (h0 : 128 ≤ n) (h1 : n < 18446744073709551616) :
    Calls Try.prog 63 #[.int .u64 n] w (LenOk n w) := by
  have H1 := Lib.hid h1
  clear h1
  go_enter Try.func63, Try.ntmps63
  go_wp2
  all_goals
    go_ret
    have h1 := H1.out
  · exact len_end (by decide +kernel) _ 56 _ (by omega) (by omega) (by omega) (by have := Cd.wid_cases n.toNat; omega) rfl
  · exact len_end (by decide +kernel) _ 48 _ (by omega) (by omega) (by omega) (by have := Cd.wid_cases n.toNat; omega) rfl
  · exact len_end (by decide +kernel) _ 40 _ (by omega) (by omega) (by omega) (by have := Cd.wid_cases n.toNat; omega) rfl
  · exact len_end (by decide +kernel) _ 32 _ (by omega) (by omega) (by omega) (by have := Cd.wid_cases n.toNat; omega) rfl
  · exact len_end (by decide +kernel) _ 24 _ (by omega) (by omega) (by omega) (by have := Cd.wid_cases n.toNat; omega) rfl
  · exact len_end (by decide +kernel) _ 16 _ (by omega) (by omega) (by omega) (by have := Cd.wid_cases n.toNat; omega) rfl
  · exact len_end (by decide +kernel) _ 8 _ (by omega) (by omega) (by omega) (by have := Cd.wid_cases n.toNat; omega) rfl
  · exact len_end0 (by decide +kernel) _ _ (by omega) (by omega) (by have := Cd.wid_cases n.toNat; omega) rfl

/-- The byte that a number begins with. -/
def hd (n : Nat) : Nat := if n < 128 then n else 128 + Cd.wid n

set_option maxHeartbeats 1000000 in
theorem first_c (n : Int) (w : World) (h0 : 0 ≤ n) (h1 : n < 18446744073709551616) :
    Calls Try.prog 48 #[.int .u64 n] w fun e w' => e = .returned (.int .u8 (hd n.toNat : Int)) ∧ w = w' := by
  have H1 := Lib.hid h1
  clear h1
  have wp := Cd.wid_pos n.toNat
  by_cases h : n < 128
  · go_enter Try.func48, Try.ntmps48
    go_wp2
    go_ret
    exact ⟨by unfold hd; rw [if_pos (by omega)]; go_num, rfl⟩
  · go_enter Try.func48, Try.ntmps48
    go_wp2_with (go_at_call 63; refine (len64_c _ _ (by omega) H1.out).mono ?_; rintro e w' ⟨L, rfl, l1, l2, rfl⟩)
    go_ret
    exact ⟨by unfold hd; rw [if_neg (by omega)]; go_num, rfl⟩

theorem first_lo (n : Int) (w : World) (h0 : 0 ≤ n) (h : n < 128) :
    Calls Try.prog 48 #[.int .u64 n] w fun e w' => e = .returned (.int .u8 n) ∧ w = w' :=
  (first_c n w h0 (by omega)).mono fun e w' q => ⟨q.1.trans (by unfold hd; rw [if_pos (by omega), Int.toNat_of_nonneg h0]), q.2⟩
theorem first_hi (n : Int) (w : World) (h : 128 ≤ n) (h1 : n < 18446744073709551616) :
    Calls Try.prog 48 #[.int .u64 n] w fun e w' => e = .returned (.int .u8 (128 + (Cd.wid n.toNat : Int))) ∧ w = w' :=
  (first_c n w (by omega) h1).mono fun e w' q => ⟨q.1.trans (by unfold hd; rw [if_neg (by omega)]; go_num), q.2⟩

set_option maxHeartbeats 4000000 in
set_option maxRecDepth 100000 in
theorem wide_c (n : Int) (w : World) (h0 : 0 ≤ n) :
    Calls Try.prog 52 #[.int .u64 n] w fun e w' => e = .returned (.int .i64 (Cd.wid n.toNat : Int)) ∧ w = w' := by
  go_enter Try.func52, Try.ntmps52
  go_wp2
  refine wp_loop_rounds 8 ?_
  rw [rounds_succ]
  go_wp2
  · go_ret
    exact ⟨ret_i64 (by have := Cd.wid_cases n.toNat; omega), rfl⟩
  rw [rounds_succ]
  go_wp2
  · go_ret
    exact ⟨ret_i64 (by have := Cd.wid_cases n.toNat; omega), rfl⟩
  rw [rounds_succ]
  go_wp2
  · go_ret
    exact ⟨ret_i64 (by have := Cd.wid_cases n.toNat; omega), rfl⟩
  rw [rounds_succ]
  go_wp2
  · go_ret
    exact ⟨ret_i64 (by have := Cd.wid_cases n.toNat; omega), rfl⟩
  rw [rounds_succ]
  go_wp2
  · go_ret
    exact ⟨ret_i64 (by have := Cd.wid_cases n.toNat; omega), rfl⟩
  rw [rounds_succ]
  go_wp2
  · go_ret
    exact ⟨ret_i64 (by have := Cd.wid_cases n.toNat; omega), rfl⟩
  rw [rounds_succ]
  go_wp2
  · go_ret
    exact ⟨ret_i64 (by have := Cd.wid_cases n.toNat; omega), rfl⟩
  rw [rounds_succ]
  go_wp2
  go_ret
  exact ⟨ret_i64 (by have := Cd.wid_cases n.toNat; omega), rfl⟩
end Go.Proofs.Ytobdaiiojclfkaa
