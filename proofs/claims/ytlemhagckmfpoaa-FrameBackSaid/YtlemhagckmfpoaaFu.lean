/- Contracts of the document's own Frame and Unframe. -/
import Derived.Test.YtlemhagckmfpoaaFr
import Derived.Test.YtlemhagckmfpoaaBy
import Derived.Test.YtlemhagckmfpoaaCs
import Derived.Deep.RegionHeld3
namespace Go.Proofs.Ytlemhagckmfpoaa
open Go.RowKit

theorem sum_nat (l : List UInt8) : ((Crc.sum l : Int)).toNat = Crc.sum l := Int.toNat_natCast _

set_option maxHeartbeats 2000000 in
theorem refFrame_c {A : Option Addr} {n c : Nat} {b : List UInt8} {w : World} {B : Nat} {t : TypeId} (hL : Lies w B t A (bcells b)) (hn : n = b.length) (hs : n ≤ 60000) :
    Calls Try.prog 12 #[.slice A n c] w (BytesOk w.heap.size (Fr.frame b) w) := by
  have HL := Lib.hid (hL.old (t' := 0))
  have HN := Lib.hid hn
  clear hL hn
  obtain ⟨ti, hi, iz0, iz1, iz2⟩ := info_parts Try.infoU8
  go_enter Try.func12, Try.ntmps12
  go_wp2_with fail
  refine (fixed_c (B := w.heap.size) (l := []) (k := 2) rfl (World.ownsRow_nil _ _ _ _) (Nat.le_refl _) (by omega) (by omega) (by omega) (by simp)).mono ?_
  rintro e w1 ⟨A1, n1, c1, rfl, ho1, t1⟩
  rw [List.nil_append, Cd.fix_len] at ho1
  obtain ⟨rfl, _⟩ := own_room ho1
  have O1 := Lib.hid ho1
  have T1 := Lib.hid t1
  have hz1 := t1.size
  clear ho1 t1
  go_wp2_with (at_builtin; refine wpList_app _ rfl _ _ 22 rfl w.heap.size 5 ti (.int .u8 0) 1 1 Try.underlying22 hi iz0 iz1 iz2 rfl (by decide) _ 2 _ rfl O1.out w.heap.size A n c (bcells b) 0 rfl (by rw [bcells_len, HN.out]; omega) (HL.out.below (Nat.le_refl _) T1.out.below) (bcells_one _) (by unfold maxLen; omega) (by omega) hz1 ?_)
  intro v' w2 hown hgrow _
  obtain ⟨A2, k2, rfl⟩ := own_slice hown
  have T2 := Lib.hid (T1.out.trans (app_step O1.out hgrow hz1))
  have hz2 := T2.out.size
  rw [← bcells_app] at hown
  have en : Cd.fix n 2 ++ b = Fr.inner b := by unfold Fr.inner; rw [HN.out]
  rw [en] at hown
  have O2 := Lib.hid hown
  have il : (Fr.inner b).length = 2 + n := by rw [Fr.inner_len, HN.out]; omega
  have IL := Lib.hid il
  clear hown hgrow en il
  have lit : (w2.alloc (.cells #[.int .u8 165] 5)).ownsRow w.heap.size 5 1 (.slice (some ⟨w2.heap.size, 0, none⟩) 1 1) 1 (bcells [165]) := World.ownsRow_lit w2 #[.int .u8 165] 1 hz2 (by decide) rfl
  have LIT := Lib.hid lit
  clear lit
  go_wp2_with (at_builtin; refine wpList_app _ rfl _ _ 22 rfl w.heap.size 5 ti (.int .u8 0) 1 1 Try.underlying22 hi iz0 iz1 iz2 rfl (by decide) _ 1 _ rfl LIT.out w.heap.size A2 (2 + n) k2 (bcells (Fr.inner b)) 5 rfl (by rw [bcells_len, IL.out]; omega) (lies_own (O2.out.alloc _)) (bcells_one _) (by unfold maxLen; omega) (by omega) (by simp; omega) ?_)
  intro v' w3 hown hgrow _
  obtain ⟨A3, k3, rfl⟩ := own_slice hown
  have O2b := Lib.hid ((O2.out.alloc _).kept hgrow (Or.inr (fun e => by
    have q := (O2.out.lt w2.heap.size (e.trans rfl)).2
    omega)))
  have T3 := Lib.hid ((T2.out.alloc hz2 _).trans (app_step LIT.out hgrow (by simp; omega)))
  have hz3 := T3.out.size
  rw [← bcells_app] at hown
  have O3 := Lib.hid hown
  clear hown hgrow
  go_wp2_with fail
  refine (refSum32_c _ _ _ (Fr.inner b) _ (B := 0) (t := 5) (lies_own O2b.out) IL.out.symm (by omega)).mono ?_
  rintro e w' ⟨rfl, rfl⟩
  have sl := Fr.sum_lt (Fr.inner b)
  go_wp2_with fail
  refine (fixed_c (B := w.heap.size) (l := [165] ++ Fr.inner b) (k := 4) rfl (by rw [List.length_append, IL.out]; exact O3.out) hz3 (by omega) (by omega) (by omega) (by rw [List.length_append, IL.out]; simp; omega)).mono ?_
  rintro e w4 ⟨A4, n4, c4, rfl, ho4, t4⟩
  rw [sum_nat] at ho4
  have O4 := Lib.hid ho4
  have T4 := Lib.hid (T3.out.trans t4)
  clear ho4 t4
  go_wp2
  go_ret
  exact ⟨A4, n4, c4, rfl, O4.out, T4.out.below⟩
end Go.Proofs.Ytlemhagckmfpoaa
