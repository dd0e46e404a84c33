/- Stage 16: the code's table: made, Last, Ask, Take, New (written by wip/gen16tb.py). -/
import Derived.Test.YtmcfknnfaokmlaaUb
import Derived.Test.YtmcfknnfaokmlaaRm
import Derived.Test.YtmcfknnfaokmlaaQo
import Derived.OrdersHeld
import Derived.Deep.RegionHeld
namespace Go.Proofs.Ytmcfknnfaokmlaa
set_option maxRecDepth 100000
set_option linter.unusedSimpArgs false
section
open Go.RowKit Go.Lib Go.Shelf
/-- The code's table T at block p, its map at block mb; n bounds how many stand there. -/
structure TB (T : List La) (p mb n : Nat) (w : World) : Prop where
  b : w.heap[p]? = some (.cells #[.map (some mb)] 49 (0, 0))
  m : UM w mb n (D16.mapN T)
  g : D16.Good T
  c : T.length ≤ n
section
variable {T : List La} {p mb n m : Nat} {w w' : World}
theorem TB.lt (h : TB T p mb n w) : p < w.heap.size ∧ mb < w.heap.size := ⟨lt_of_block h.b, h.m.lt⟩
theorem TB.same (h : TB T p mb n w) (h1 : w'.heap[p]? = w.heap[p]?) (h2 : w'.heap[mb]? = w.heap[mb]?) : TB T p mb n w' := ⟨h1.trans h.b, h.m.same h2, h.g, h.c⟩
theorem TB.below (h : TB T p mb n w) (hb : Below w.heap.size w w') : TB T p mb n w' := h.same (hb.block _ h.lt.1) (hb.block _ h.lt.2)
theorem TB.kept (h : TB T p mb n w) {row : Option Nat} (hg : w.grownBy w' row) (h1 : some p ≠ row) (h2 : some mb ≠ row) : TB T p mb n w' := h.same (hg.block _ h.lt.1 h1) (hg.block _ h.lt.2 h2)
theorem TB.up (h : TB T p mb n w) (hm : n ≤ m) : TB T p mb m w := ⟨h.b, h.m.up hm, h.g, Nat.le_trans h.c hm⟩
theorem UM.is_map {f : Nat → Option Value} (h : UM w mb n f) : ∃ es c, w.heap[mb]? = some (.map es c) := by
  obtain ⟨D, ⟨es, clock, hb, _⟩, _⟩ := h.out
  exact ⟨es, clock, hb⟩
theorem TB.ne (h : TB T p mb n w) : p ≠ mb := fun e => by
  obtain ⟨es, c, q⟩ := h.m.is_map
  rw [← e, h.b] at q
  cases q
theorem zr16 (w : World) : (zeroValue 24).run Try.prog w = .ok (.int .u64 0) w := Try.zeroValue24 w
theorem TB.look (h : TB T p mb n w) {k : Nat} (hk : k < 18446744073709551616) : (Instr.lookup 47 (.map (some mb)) (.int .u64 (k : Int)) false).run Try.prog w = .ok (.int .u64 (D16.lastN T k : Int)) w := by
  have q : (Instr.lookup 47 (.map (some mb)) (.int .u64 (k : Int)) false).run Try.prog w = .ok ((D16.mapN T k).getD (.int .u64 0)) w := h.m.look Try.underlying47 (zr16 w) hk
  rw [q, D16.map_get]
/-- A number is put. -/
theorem TB.put (h : TB T p mb n w) (hn : n < maxLen) {k i : Nat} (hk : k < 18446744073709551616) (hi : i < 18446744073709551616) (k0 : k ≠ 0) (i0 : i ≠ 0) : ∃ w', (Instr.mapUpdate 47 (.map (some mb)) (.int .u64 (k : Int)) (.int .u64 (i : Int))).run Try.prog w = .ok () w' ∧ TB (D16.setN k i T) p mb (n + 1) w' ∧ w.grownBy w' (some mb) := by
  obtain ⟨w', r1, r2, r3⟩ := h.m.put Try.underlying47 hn hk (.int .u64 (i : Int))
  refine ⟨w', r1, ⟨(r3.block p h.lt.1 (fun e => h.ne (by injection e))).trans h.b, ?_, h.g.set hk hi k0 i0, ?_⟩, r3⟩
  · rw [D16.map_set]; exact r2
  · have := D16.set_len k i T; have := h.c; omega
end
theorem mapnil16 (w : World) (mb : Nat) : (binOp .neq 47 (.map (some mb)) (.map none)).run Try.prog w = .ok (.bool true) w := by kernel_rfl
set_option maxHeartbeats 1000000 in
theorem made16_c {T : List La} {p mb n : Nat} {w : World} (h : TB T p mb n w) : Calls Try.prog 20 #[.pointer (some ⟨p, 0, none⟩)] w fun e w' => e = .returned (.bool true) ∧ w = w' := by
  have c0 := one_cell h.b
  have hm := mapnil16 w mb
  clear h
  go_enter Try.func20, Try.ntmps20
  go_wp2
  go_ret
  exact ⟨ret_bool (by simp), rfl⟩
theorem made16_nil (w : World) : Calls Try.prog 20 #[.pointer none] w fun e w' => e = .returned (.bool false) ∧ w = w' := by
  go_enter Try.func20, Try.ntmps20
  go_wp2
  go_ret
  exact ⟨ret_bool (by simp), rfl⟩
set_option maxHeartbeats 1000000 in
theorem last16_c {T : List La} {p mb n k : Nat} {w : World} (h : TB T p mb n w) (hk : k < 18446744073709551616) : Calls Try.prog 16 #[.pointer (some ⟨p, 0, none⟩), .int .u64 (k : Int)] w fun e w' => e = .returned (.int .u64 (D16.lastN T k : Int)) ∧ w = w' := by
  have c0 := one_cell h.b
  have hl := h.look hk
  have MC := Lib.hid (made16_c h)
  clear h
  go_enter Try.func16, Try.ntmps16
  go_wp2_with (go_at_call 20; refine MC.out.mono ?_; rintro e w' ⟨rfl, rfl⟩)
  go_ret
  exact ⟨rfl, rfl⟩
theorem last16_nil (k : Nat) (w : World) : Calls Try.prog 16 #[.pointer none, .int .u64 (k : Int)] w fun e w' => e = .returned (.int .u64 0) ∧ w = w' := by
  have MC := Lib.hid (made16_nil w)
  go_enter Try.func16, Try.ntmps16
  go_wp2_with (go_at_call 20; refine MC.out.mono ?_; rintro e w' ⟨rfl, rfl⟩)
  go_ret
  exact ⟨rfl, rfl⟩
theorem ask16_nil (k i : Nat) (w : World) : Calls Try.prog 10 #[.pointer none, .int .u64 (k : Int), .int .u64 (i : Int)] w fun e w' => e = .returned (.int .i64 1) ∧ w = w' := by
  have MC := Lib.hid (made16_nil w)
  go_enter Try.func10, Try.ntmps10
  go_wp2_with (go_at_call 20; refine MC.out.mono ?_; rintro e w' ⟨rfl, rfl⟩)
  go_ret
  exact ⟨rfl, rfl⟩
set_option maxRecDepth 100000 in
set_option maxHeartbeats 2000000 in
theorem ask16_c {T : List La} {p mb n k i : Nat} {w : World} (h : TB T p mb n w) (hk : k < 18446744073709551616) (hi : i < 18446744073709551616) : Calls Try.prog 10 #[.pointer (some ⟨p, 0, none⟩), .int .u64 (k : Int), .int .u64 (i : Int)] w fun e w' => e = .returned (.int .i64 (D16.ask16 T k i)) ∧ w = w' := by
  have c0 := one_cell h.b
  have hl := h.look hk
  have MC := Lib.hid (made16_c h)
  obtain ⟨la, hla⟩ : ∃ v, v = D16.lastN T k := ⟨_, rfl⟩
  have LL : la < 18446744073709551616 := by rw [hla]; exact h.g.last k
  rw [← hla] at hl
  unfold D16.ask16
  rw [← hla]
  clear h hla
  by_cases k0 : k = 0
  · rw [if_pos (.inl k0)]
    subst k0
    have z : ((0 : Nat) : Int) = 0 := rfl
    rw [z]
    clear hl
    go_enter Try.func10, Try.ntmps10
    go_wp2_with (go_at_call 20; refine MC.out.mono ?_; rintro e w' ⟨rfl, rfl⟩)
    go_ret
    exact ⟨rfl, rfl⟩
  have q0 : ((k : Int) == 0) = false := by simp [k0]
  by_cases i0 : i = 0
  · rw [if_pos (.inr i0)]
    subst i0
    have z : ((0 : Nat) : Int) = 0 := rfl
    rw [z]
    clear hl k0
    go_enter Try.func10, Try.ntmps10
    go_wp2_with (go_at_call 20; refine MC.out.mono ?_; rintro e w' ⟨rfl, rfl⟩)
    go_ret
    exact ⟨rfl, rfl⟩
  have q1 : ((i : Int) == 0) = false := by simp [i0]
  rw [if_neg (by omega)]
  by_cases h1 : i ≤ la
  · rw [if_pos h1]
    have d1 : decide ((i : Int) ≤ (la : Int)) = true := by simp; omega
    have d2 : (i : Int) ≤ (la : Int) := by omega
    clear k0 i0 LL
    go_enter Try.func10, Try.ntmps10
    go_wp2_with (go_at_call 20; refine MC.out.mono ?_; rintro e w' ⟨rfl, rfl⟩)
    go_ret
    exact ⟨rfl, rfl⟩
  rw [if_neg h1]
  have d1 : decide ((i : Int) ≤ (la : Int)) = false := by simp; omega
  have d2 : ¬ (i : Int) ≤ (la : Int) := by omega
  have hw : IntKind.u64.wrap ((la : Int) + 1) = ((la + 1 : Nat) : Int) := by
    simp only [IntKind.wrap, IntKind.bits, IntKind.signed]
    simp
    omega
  obtain ⟨lb, hlb⟩ : ∃ v, v = la + 1 := ⟨_, rfl⟩
  rw [← hlb] at hw ⊢
  by_cases h2 : i = lb
  · rw [if_pos h2]
    have e1 : decide ((lb : Int) < (i : Int)) = false := by simp; omega
    have e2 : ¬ (lb : Int) < (i : Int) := by omega
    have e3 : decide (lb < i) = false := by simp; omega
    have e4 : ¬ lb < i := by omega
    have f1 : decide (i ≤ la) = false := by simp; omega
    clear k0 i0 LL h2 hlb hi hk
    go_enter Try.func10, Try.ntmps10
    go_wp2_with (go_at_call 20; refine MC.out.mono ?_; rintro e w' ⟨rfl, rfl⟩)
    go_ret
    exact ⟨rfl, rfl⟩
  · rw [if_neg h2]
    have e1 : decide ((lb : Int) < (i : Int)) = true := by simp; omega
    have e2 : (lb : Int) < (i : Int) := by omega
    have e3 : decide (lb < i) = true := by simp; omega
    have e4 : lb < i := by omega
    have f1 : decide (i ≤ la) = false := by simp; omega
    clear k0 i0 LL h2 hlb hi hk
    go_enter Try.func10, Try.ntmps10
    go_wp2_with (go_at_call 20; refine MC.out.mono ?_; rintro e w' ⟨rfl, rfl⟩)
    go_ret
    exact ⟨rfl, rfl⟩
set_option maxHeartbeats 2000000 in
theorem take16_c {T : List La} {p mb n k i : Nat} {w : World} (h : TB T p mb n w) (hn : n < maxLen) (hk : k < 18446744073709551616) (hi : i < 18446744073709551616) : Calls Try.prog 12 #[.pointer (some ⟨p, 0, none⟩), .int .u64 (k : Int), .int .u64 (i : Int)] w fun e w' => e = .returned (.int .i64 (D16.ask16 T k i)) ∧ TB (D16.take16 T k i) p mb (n + 1) w' ∧ w.grownBy w' (some mb) := by
  have c0 := one_cell h.b
  have AC := Lib.hid (ask16_c h hk hi)
  obtain ⟨er, her⟩ : ∃ v, D16.ask16 T k i = v := ⟨_, rfl⟩
  rw [her] at AC ⊢
  unfold D16.take16
  rw [her]
  by_cases e0 : er = 0
  · obtain ⟨a1, a2⟩ := D16.ask_zero.1 (her.trans e0)
    rw [if_pos e0]
    obtain ⟨w2, hput, r1, r2⟩ := h.put hn hk hi a1 (by omega)
    have R := Lib.hid (And.intro r1 r2)
    subst e0
    clear h her a1 a2 r1 r2 hk hi hn
    go_enter Try.func12, Try.ntmps12
    go_wp2_with (go_at_call 10; refine AC.out.mono ?_; rintro e w' ⟨rfl, rfl⟩)
    go_ret
    exact ⟨rfl, R.out⟩
  · rw [if_neg e0]
    have q1 : (er == 0) = false := by simp [e0]
    have R := Lib.hid (h.up (Nat.le_succ n))
    clear h her hk hi hn e0
    go_enter Try.func12, Try.ntmps12
    go_wp2_with (go_at_call 10; refine AC.out.mono ?_; rintro e w' ⟨rfl, rfl⟩)
    go_ret
    exact ⟨rfl, R.out, ⟨rfl, rfl, rfl, Nat.le_refl _, fun _ _ _ => rfl⟩⟩
theorem take16_nil (k i : Nat) (w : World) : Calls Try.prog 12 #[.pointer none, .int .u64 (k : Int), .int .u64 (i : Int)] w fun e w' => e = .returned (.int .i64 1) ∧ w = w' := by
  have AC := Lib.hid (ask16_nil k i w)
  go_enter Try.func12, Try.ntmps12
  go_wp2_with (go_at_call 10; refine AC.out.mono ?_; rintro e w' ⟨rfl, rfl⟩)
  go_ret
  exact ⟨rfl, rfl⟩
end
end Go.Proofs.Ytmcfknnfaokmlaa
