/- Contracts of the document's own writers (factotumref01: Fixed, N, I, F, B, Flag). -/
import Derived.Test.YtbfkjneidabijaaGreatCw
namespace Go.Proofs.YtbfkjneidabijaaGreat
open Go.RowKit
set_option maxRecDepth 100000

set_option maxHeartbeats 1000000 in
set_option maxRecDepth 100000 in
theorem rN_c {B : Nat} {l : List UInt8} {A : Option Addr} {c m : Nat} {n : Int} {w : World} (h : w.ownsRow B 5 1 (.slice A m c) l.length (bcells l)) (hB : B ≤ w.heap.size)
    (h0 : 0 ≤ n) (h1 : n < 18446744073709551616) (hs : l.length + 9 ≤ 1000000000000) :
    Calls Tryz.prog 92 #[.slice A m c, .int .u64 n] w (AppOk B (l ++ Cd.num n.toNat) w) := by
  have H1 := Lib.hid h1
  have HO := Lib.hid h
  obtain ⟨rfl, _⟩ := own_room h
  clear h1 h
  obtain ⟨i0, hi, hz0, hz1, hz2⟩ := info_parts Tryz.infoU8
  by_cases hlo : n < 128
  · have E := Lib.hid (num_lo h0 hlo)
    go_enter Tryz.func92, Tryz.ntmps92
    go_wp2_with (at_builtin; refine wpList_app _ rfl _ _ 57 rfl B 5 i0 (.int .u8 0) 1 1 Tryz.underlying57 hi hz0 hz1 hz2 rfl (by decide) _ l.length (bcells l) rfl (HO.out.alloc _) 0 _ 1 1 (bcells [Cd.byt n.toNat 0]) 5 rfl rfl (lies1 E.out.1 rfl) (bcells_one _) (by unfold maxLen; omega) (by omega) (by simp; omega) ?_)
    intro v' w1 hown' hgrow _
    obtain ⟨A2, k2, rfl⟩ := own_slice hown'
    have T1 := app_step (HO.out.alloc _) hgrow (by simp; omega)
    have HT1 := Lib.hid (((Tch.refl B _ w).alloc (by omega) _).trans T1)
    have HO2 := Lib.hid hown'
    clear hown' hgrow T1
    go_wp2
    go_ret
    exact ⟨A2, _, k2, rfl, by rw [E.out.2, bcells_app, List.length_append]; exact HO2.out, HT1.out⟩
  · obtain ⟨b, E⟩ : ∃ b : UInt8, Hid (128 + (Cd.wid n.toNat : Int) = (b.toNat : Int) ∧ Cd.num n.toNat = [b] ++ Cd.fix n.toNat (Cd.wid n.toNat)) := ⟨_, num_hi (by omega)⟩
    have wp := Cd.wid_pos n.toNat
    go_enter Tryz.func92, Tryz.ntmps92
    go_wp2_with (first
      | (go_at_call 100; refine (wide_c _ _ h0).mono ?_; rintro e w' ⟨rfl, rfl⟩)
      | (at_builtin; refine wpList_app _ rfl _ _ 57 rfl B 5 i0 (.int .u8 0) 1 1 Tryz.underlying57 hi hz0 hz1 hz2 rfl (by decide) _ l.length (bcells l) rfl (HO.out.alloc _) 0 _ 1 1 (bcells [b]) 5 rfl rfl (lies1 E.out.1 rfl) (bcells_one _) (by unfold maxLen; omega) (by omega) (by simp; omega) ?_))
    intro v' w1 hown' hgrow _
    obtain ⟨A2, k2, rfl⟩ := own_slice hown'
    have T1 := app_step (HO.out.alloc _) hgrow (by simp; omega)
    have hz1 := T1.size
    have HT1 := Lib.hid (((Tch.refl B _ w).alloc (by omega) _).trans T1)
    have ho2 : w1.ownsRow B 5 1 (.slice A2 (l.length + 1) k2) (l ++ [b]).length (bcells (l ++ [b])) := by
      rw [bcells_app, List.length_append]; exact hown'
    have HO2 := Lib.hid ho2
    clear hown' hgrow T1 ho2
    go_wp2_with fail
    refine (fixed_c (l := l ++ [b]) (k := Cd.wid n.toNat) rfl HO2.out (by simp at hz1; omega) h0 H1.out wp.2 (by simp; omega)).mono ?_
    rintro e w' ⟨A3, m3, k3, rfl, ho3, t3⟩
    have HO3 := Lib.hid ho3
    have HT3 := Lib.hid t3
    clear ho3 t3
    go_wp2
    go_ret
    exact ⟨A3, m3, k3, rfl, by rw [E.out.2, ← List.append_assoc]; exact HO3.out, HT1.out.trans HT3.out⟩

theorem zig_minus2 {n : Int} (h0 : -9223372036854775808 ≤ n) (h1 : n < 0) : IntKind.u64.wrap (IntKind.u64.wrap (IntKind.u64.wrap (wrap64 (-wrap64 (n + 1))) * 2) + 1) = (Cd.zig n : Int) := by
  rw [← zig_minus h0 h1, Int.mul_comm 2]
theorem zig_plus2 {n : Int} (h1 : n < 9223372036854775808) (h0 : 0 ≤ n) : IntKind.u64.wrap (IntKind.u64.wrap n * 2) = (Cd.zig n : Int) := by
  rw [← zig_plus h1 h0, Int.mul_comm 2]

end Go.Proofs.YtbfkjneidabijaaGreat
