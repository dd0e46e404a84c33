/- Stage 7: the law WalNone, the walk. -/
import Derived.Test.YtbfkjneidabijaaVn
import Derived.Test.YtbfkjneidabijaaBy
namespace Go.Proofs.Ytbfkjneidabijaa
open Go.RowKit
set_option maxRecDepth 100000

set_option maxHeartbeats 8000000 in
set_option maxRecDepth 100000 in
theorem walNone_c {A : Option Addr} {m c : Nat} {w : World} (n : Int) :
    Calls Try.prog 4 #[.int .i64 n, .slice A m c] w fun e w' => e = .returned (.bool true) ∧ Below w.heap.size w w' := by
  go_enter Try.func4, Try.ntmps4
  go_wp2_with fail
  refine (awake7 w).mono ?_
  rintro e w1 ⟨rfl, hb1⟩
  have B1 := Lib.hid hb1
  clear hb1
  have z1 := B1.out.size
  by_cases q : n < 0 ∨ 70000 < n ∨ 400 < m
  · go_wp2
    all_goals first
      | (go_ret; exact ⟨rfl, B1.out⟩)
      | (exfalso; omega)
  obtain ⟨k, rfl⟩ := Int.eq_ofNat_of_zero_le (show 0 ≤ n by omega)
  have k7 : k ≤ 70000 := by omega
  have q1 : ¬ (k : Int) < 0 := by omega
  have q2 : ¬ (70000 : Int) < (k : Int) := by omega
  have m4 : m ≤ 400 := by omega
  clear q
  have mk := mk_bytes k (by omega)
  obtain ⟨bs, hbs⟩ : ∃ bs : List UInt8, bs = List.replicate k 0 := ⟨_, rfl⟩
  have hkl : k = bs.length := by rw [hbs, List.length_replicate]
  rw [← hbs] at mk
  have KL := Lib.hid hkl
  clear hbs hkl
  have LB := Lib.hid (show Lies (w1.alloc (.cells (bcells bs).toArray 5)) 0 5 (some ⟨w1.heap.size, 0, none⟩) (bcells bs) by
    have q := Lies.of_blk (B := 0) (heap_alloc_new w1 (.cells (bcells bs).toArray 5))
    exact q)
  have B2 := Lib.hid (B1.out.alloc z1 (.cells (bcells bs).toArray 5))
  have z2 := B2.out.size
  go_wp2_with fail
  refine (vNeed_c KL.out (by omega)).mono ?_
  rintro e w2 ⟨rfl, rfl⟩
  go_wp2_with fail
  refine (refNeed_c LB.out KL.out (by omega)).mono ?_
  rintro e w3 ⟨rfl, hb3⟩
  have B3 := Lib.hid (B2.out.trans (hb3.mono z2))
  have z3 := B3.out.size
  have nn : ((Wl.need bs : Int) == (Wl.need bs : Int)) = true := by simp
  clear hb3
  go_wp2_with fail
  refine vAdd_nil.mono ?_
  rintro e w4 ⟨rfl, hb4⟩
  have B4 := Lib.hid ((B3.out.alloc z3 _).trans (hb4.mono (by simp; omega)))
  have z4 := B4.out.size
  clear hb4
  go_wp2_with fail
  refine vSwap_nil.mono ?_
  rintro e w5 ⟨rfl, hb5⟩
  have B5 := Lib.hid ((B4.out.alloc z4 _).trans (hb5.mono (by simp; omega)))
  have z5 := B5.out.size
  clear hb5
  go_wp2_with fail
  refine vCut_nil.mono ?_
  rintro e w6 ⟨rfl, hb6⟩
  have B6 := Lib.hid (B5.out.trans (hb6.mono z5))
  have z6 := B6.out.size
  clear hb6
  go_wp2_with fail
  refine (vLen_nil _).mono ?_
  rintro e w7 ⟨rfl, rfl⟩
  go_wp2_with fail
  refine (vFree_nil _).mono ?_
  rintro e w7 ⟨rfl, rfl⟩
  go_wp2
  go_ret
  exact ⟨rfl, B6.out⟩
end Go.Proofs.Ytbfkjneidabijaa
