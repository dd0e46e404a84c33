/- A region that draws its order, in a round of a loop over a function: it goes as outside. Nothing of the program. The code's own Wal in memory; contracts of its small methods. The code's own Wal: room, behind, slices.Clone, save. The code's own Wal with its disk; save. The code's own Wal: change, where nothing is done. While records are written by the code's own wal: the disk's blocks, one's own, the marks of loops over a function. -/
import Derived.RangeFuncCalls
import Derived.OrdersHeld
import Derived.OrdersIn
import Derived.Deep.RegionHeld
import Derived.Test.YtpnfpeeijghamaaGreatVa
import Derived.Test.YtpnfpeeijghamaaGreatDpm
import Derived.Test.YtpnfpeeijghamaaGreatSup
import Derived.Test.YtpnfpeeijghamaaGreatWa
import Derived.Test.YtpnfpeeijghamaaGreatWx
import Derived.StillTailTactics
import Derived.WalkMore
namespace Go.Proofs.YtpnfpeeijghamaaGreat
open Go.RowKit
set_option maxRecDepth 100000

/-- No operation is a 'defer' statement. -/
def noDefer (ops : Array Oper) : Bool := ops.all fun o => match o.op with | .defer _ => false | _ => true
theorem noDefer_at {ops : Array Oper} (h : noDefer ops = true) {i : Nat} {o : Oper} (hi : ops[i]? = some o) (c : Call) : o.op ≠ .defer c := by
  intro e
  obtain ⟨h1, h2⟩ := Array.getElem?_eq_some_iff.1 hi
  have q := (Array.all_eq_true.1 h) i h1
  rw [h2, e] at q
  cases q

theorem rows_round {P : Program} {row : String} {args : Array Value} {w : World} {R : Value → World → Prop} {l n : Nat} (h : Rows P row args w R) : RowsIn (Fence.wide.inRound l) n P row args w R := fun c cs _ => by
  obtain ⟨v, w', r, s⟩ := h c cs
  exact ⟨v, w', r, stepsIn_wide.2 s⟩

theorem op_round {P : Program} {o : Oper} {a : Act} {w : World} {K : Act → World → Prop} {Q : Exit → Act → World → Prop} {l n : Nat} (hd : ∀ c, o.op ≠ .defer c) (h : o.wp P a w K Q) : o.wpIn (Fence.wide.inRound l) n P a w K Q := by
  refine ⟨fun _ _ => trivial, ?_⟩
  rw [Oper.semAt_eq _ _ _ hd]
  unfold Oper.wp at h
  generalize (execOp a.eval o).run P w = r at h ⊢
  cases r with
  | ok x w' =>
    cases x with
    | value v => exact h
    | skip => exact h
    | defer d => exact h
    | enter f args => exact ⟨fun e => (by cases e), CallsIn.inRound l (callsIn_wide.2 h)⟩
    | row row args => exact ⟨fun e => (by cases e), rows_round h⟩
    | _ => exact h.elim
  | halt x w' =>
    cases x with
    | panic v => exact h
    | _ => exact h.elim

theorem any_round {P : Program} {md : Region.Mode} {ops : Array Oper} {Q : Exit → Act → World → Prop} {l n : Nat} (hd : noDefer ops = true) (hQ : ¬ LetsOut Q) :
    ∀ (fuel : Nat) (listed : Array Bool) (a : Act) (w : World), wpAny P md ops Q fuel listed a w → wpAnyIn (Fence.wide.inRound l) n P md ops Q fuel listed a w
  | 0, _, _, _, h => h
  | fuel + 1, listed, a, w, h => ⟨h.1, fun i hi => by
    have q := h.2 i hi
    unfold wpOp at q
    unfold wpOpIn
    cases ho : ops[i]? with
    | none =>
      rw [ho] at q
      exact any_round hd hQ fuel _ _ _ q
    | some o =>
      rw [ho] at q
      dsimp only at q ⊢
      split at q
      · rename_i hw
        rw [if_pos hw]
        rcases q with q | q
        · exact Oper.wpIn_mono (fun a' w' z => any_round hd hQ fuel _ a' w' z) (op_round (noDefer_at hd ho) q)
        · exact absurd q.2 hQ
      · rename_i hw
        rw [if_neg hw]
        exact ⟨fun _ _ => trivial, any_round hd hQ fuel _ _ _ q⟩⟩

/-- As wp_region_held, in a round. -/
theorem region_round {P : Program} {ops : Array Oper} {Q : Exit → Act → World → Prop} {S : World → Prop} {l n id : Nat} {a : Act} {w : World} (hm : P.follows .mixedOrders = true) (hd : noDefer ops = true) (hQ : ¬ LetsOut Q)
    (h : wpAnyH P .any ops Q S ops.size (Array.replicate ops.size false) a { w with drawn := w.drawn + 1 }) : (Code.region id ops true).wpIn (Fence.wide.inRound l) n P Q a w :=
  wpIn_region_any hm (any_round hd hQ _ _ _ _ (wpAny_of_held _ _ _ _ h))

def ics (ns : List Nat) : List Value := ns.map fun (n : Nat) => Value.int .i64 (n : Int)
theorem ics_len (ns : List Nat) : (ics ns).length = ns.length := by simp [ics]
theorem ics_one (ns : List Nat) : ∀ u ∈ ics ns, u.oneCell' = true := by
  intro u hu
  obtain ⟨n, _, rfl⟩ := List.mem_map.1 hu
  rfl
theorem ics_app (a b : List Nat) : ics (a ++ b) = ics a ++ ics b := by simp [ics]
theorem ics_take (a : List Nat) (k : Nat) : (ics a).take k = ics (a.take k) := by simp [ics]
theorem ics_drop (a : List Nat) (k : Nat) : (ics a).drop k = ics (a.drop k) := by simp [ics]

/-- The code's Wal at block pw: its numbers, its records (those alone that count: how many sectors each has), the disk at block q. -/
structure CW5 (w : World) (E : Nat → Prop) (pw q g h r : Nat) (l : List (List UInt8)) (over : Bool) (AN : Option Addr) (cN : Nat) : Prop where
  fp : E pw
  cell : w.heap[pw]? = some (.cells #[.pointer (if over = true then none else some ⟨q, 0, none⟩), .int .u64 (g : Int), .int .u64 (h : Int), .int .u64 ((h + Wl.needs l : Nat) : Int), .int .u64 (r : Int), .slice AN l.length cN] 116 (0, 0))
  n : Lies w 0 3 AN (ics (l.map Wl.need))
  nF : InF E AN
  room : l.length ≤ cN
  small : ∀ b ∈ l, b.length ≤ 60000
  fits : Wl.needs l ≤ r
  r1 : 1 ≤ r
  r2 : r ≤ 4096
  g64 : U64 g
  t64 : U64 (h + Wl.needs l)

section
variable {w w' : World} {E F : Nat → Prop} {pw q g h r : Nat} {l : List (List UInt8)} {over : Bool} {AN : Option Addr} {cN : Nat}
theorem CW5.keep (x : CW5 w E pw q g h r l over AN cN) (hk : ∀ k, E k → w'.heap[k]? = w.heap[k]?) : CW5 w' E pw q g h r l over AN cN :=
  ⟨x.fp, (hk pw x.fp).trans x.cell, x.n.keepF x.nF hk, x.nF, x.room, x.small, x.fits, x.r1, x.r2, x.g64, x.t64⟩
theorem CW5.mono (x : CW5 w E pw q g h r l over AN cN) (hE : ∀ k, E k → F k) : CW5 w F pw q g h r l over AN cN :=
  ⟨hE pw x.fp, x.cell, x.n, x.nF.mono hE, x.room, x.small, x.fits, x.r1, x.r2, x.g64, x.t64⟩
theorem CW5.fields (x : CW5 w E pw q g h r l over AN cN) :
    w.cell? ⟨pw, 0, none⟩ = some (.pointer (if over = true then none else some ⟨q, 0, none⟩)) ∧ w.cell? ⟨pw, 1, none⟩ = some (.int .u64 (g : Int)) ∧ w.cell? ⟨pw, 2, none⟩ = some (.int .u64 (h : Int)) ∧ w.cell? ⟨pw, 3, none⟩ = some (.int .u64 ((h + Wl.needs l : Nat) : Int)) ∧
    w.cell? ⟨pw, 4, none⟩ = some (.int .u64 (r : Int)) ∧ w.cell? ⟨pw, 5, none⟩ = some (.slice AN l.length cN) ∧ (∀ j, w.frozen? ⟨pw, j, none⟩ = false) := by
  have c := x.cell
  refine ⟨?_, ?_, ?_, ?_, ?_, ?_, fun j => blk_free c j⟩ <;> simp [World.cell?, c]
theorem needs_ge : ∀ {l : List (List UInt8)}, (∀ b ∈ l, b.length ≤ 60000) → l.length ≤ Wl.needs l
  | [], _ => Nat.le_refl _
  | b :: l, h => by
    have h1 := Wl.need_pos (h b (by simp))
    have h2 := needs_ge (l := l) (fun x hx => h x (by simp [hx]))
    rw [show Wl.needs (b :: l) = Wl.need b + Wl.needs l by simp [Wl.needs], List.length_cons]
    omega
theorem CW5.few (x : CW5 w E pw q g h r l over AN cN) : l.length ≤ 4096 := by
  have h1 := needs_ge x.small
  have h2 := x.fits
  have h3 := x.r2
  omega
end

theorem vPieces_c {n : Nat} {w : World} (hn : n ≤ 1000000000) :
    Calls Tryz.prog 77 #[.int .i64 (n : Int)] w fun e w' => e = .returned (.int .i64 (((n + 63) / 64 : Nat) : Int)) ∧ w = w' := by
  have q : ((n : Int) + 64 - 1).tdiv 64 = (((n + 63) / 64 : Nat) : Int) := by rw [Int.tdiv_eq_ediv_of_nonneg (by omega)]; omega
  go_enter Tryz.func77, Tryz.ntmps77
  go_wp2
  go_ret
  exact ⟨ret_i64 (by omega), rfl⟩

set_option maxHeartbeats 1000000 in
theorem vNeed_c {A : Option Addr} {n c : Nat} {b : List UInt8} {w : World} (hn : n = b.length) (hs : n ≤ 1000000000) :
    Calls Tryz.prog 49 #[.slice A n c] w fun e w' => e = .returned (.int .i64 (Wl.need b : Int)) ∧ w = w' := by
  have HN := Lib.hid hn
  clear hn
  by_cases h : 60000 < n
  · have e : Hid (Wl.need b = 0) := Lib.hid (by unfold Wl.need; rw [if_pos (by rw [← HN.out]; exact h)])
    have h' : (60000 : Int) < (n : Int) := by omega
    clear h
    go_enter Tryz.func49, Tryz.ntmps49
    go_wp2
    go_ret
    exact ⟨ret_i64 (by rw [e.out]; rfl), rfl⟩
  · have e : Hid (Wl.need b = (n + 70) / 64) := Lib.hid (by unfold Wl.need; rw [if_neg (by rw [← HN.out]; exact h), ← HN.out])
    have h' : ¬ (60000 : Int) < (n : Int) := by omega
    have h7 := Lib.hid (show (7 : Int) + (n : Int) = ((7 + n : Nat) : Int) by omega)
    go_enter Tryz.func49, Tryz.ntmps49
    go_wp2_with fail
    rw [h7.out]
    refine (vPieces_c (n := 7 + n) (by omega)).mono ?_
    rintro e w1 ⟨rfl, rfl⟩
    go_wp2
    go_ret
    exact ⟨ret_i64 (by rw [e.out]; omega), rfl⟩

section
variable {w : World} {E : Nat → Prop} {pw q g h r : Nat} {l : List (List UInt8)} {over : Bool} {AN : Option Addr} {cN : Nat}
theorem vRuns_c (x : CW5 w E pw q g h r l over AN cN) :
    Calls Tryz.prog 89 #[.pointer (some ⟨pw, 0, none⟩)] w fun e w' => e = .returned (.bool (!over)) ∧ w = w' := by
  obtain ⟨c0, _, _, _, _, _, _⟩ := x.fields
  clear x
  cases over
  · go_enter Tryz.func89, Tryz.ntmps89
    go_wp2
    go_ret
    exact ⟨rfl, rfl⟩
  · go_enter Tryz.func89, Tryz.ntmps89
    go_wp2
    go_ret
    exact ⟨rfl, rfl⟩
theorem vRuns_nil (w : World) :
    Calls Tryz.prog 89 #[.pointer none] w fun e w' => e = .returned (.bool false) ∧ w = w' := by
  go_enter Tryz.func89, Tryz.ntmps89
  go_wp2
  go_ret
  exact ⟨rfl, rfl⟩
theorem vLen_c (x : CW5 w E pw q g h r l over AN cN) :
    Calls Tryz.prog 56 #[.pointer (some ⟨pw, 0, none⟩)] w fun e w' => e = .returned (.int .i64 (l.length : Int)) ∧ w = w' := by
  obtain ⟨_, _, _, _, _, c5, _⟩ := x.fields
  clear x
  go_enter Tryz.func56, Tryz.ntmps56
  go_wp2
  go_ret
  exact ⟨rfl, rfl⟩
theorem vLen_nil (w : World) :
    Calls Tryz.prog 56 #[.pointer none] w fun e w' => e = .returned (.int .i64 0) ∧ w = w' := by
  go_enter Tryz.func56, Tryz.ntmps56
  go_wp2
  go_ret
  exact ⟨rfl, rfl⟩
theorem vFree_nil (w : World) :
    Calls Tryz.prog 76 #[.pointer none] w fun e w' => e = .returned (.int .i64 0) ∧ w = w' := by
  go_enter Tryz.func76, Tryz.ntmps76
  go_wp2
  go_ret
  exact ⟨rfl, rfl⟩
theorem vFree_c (x : CW5 w E pw q g h r l over AN cN) :
    Calls Tryz.prog 76 #[.pointer (some ⟨pw, 0, none⟩)] w fun e w' => e = .returned (.int .i64 ((r - Wl.needs l : Nat) : Int)) ∧ w' = w.drew := by
  obtain ⟨_, _, c2, c3, c4, _, _⟩ := x.fields
  have h1 := x.fits
  have h2 := x.r2
  have h3 := x.t64.int
  clear x
  obtain ⟨N, hN⟩ : ∃ N, N = Wl.needs l := ⟨_, rfl⟩
  rw [← hN] at c3 h1 h3 ⊢
  clear hN
  obtain ⟨T, hT⟩ : ∃ T, T = h + N := ⟨_, rfl⟩
  rw [← hT] at c3 h3
  have w1 : IntKind.u64.wrap ((T : Int) - (h : Int)) = (N : Int) := by rw [IntKind.wrap_u64]; omega
  have w2 : IntKind.u64.wrap ((r : Int) - (N : Int)) = ((r - N : Nat) : Int) := by rw [IntKind.wrap_u64]; omega
  obtain ⟨M, hM⟩ : ∃ M, M = r - N := ⟨_, rfl⟩
  rw [← hM] at w2 ⊢
  have m1 : (M : Int) ≤ 4096 := by omega
  have w3 : IntKind.i64.wrap (M : Int) = (M : Int) := by rw [IntKind.wrap_i64]; omega
  clear hT hM h1 h2 h3
  go_enter Tryz.func76, Tryz.ntmps76
  go_wp2_with fail
  go_region
  go_wp2
  go_ret
  exact ⟨rfl, rfl⟩
theorem vSector_c (x : CW5 w E pw q g h r l over AN cN) (p : Nat) :
    Calls Tryz.prog 87 #[.pointer (some ⟨pw, 0, none⟩), .int .u64 (p : Int)] w fun e w' => e = .returned (.int .i64 ((2 + p % r : Nat) : Int)) ∧ w = w' := by
  obtain ⟨_, _, _, _, c4, _, _⟩ := x.fields
  have r1 := x.r1
  have r2 := x.r2
  clear x
  obtain ⟨M, hM⟩ : ∃ M, M = p % r := ⟨_, rfl⟩
  have pm : M < r := by rw [hM]; exact Nat.mod_lt _ (by omega)
  have pt : (p : Int).tmod (r : Int) = (M : Int) := by rw [hM, Int.ofNat_tmod]
  have pm3 : (M : Int) ≤ 4096 := by omega
  have rz : ¬ r = 0 := by omega
  have rz2 : ((r : Int) == 0) = false := by simp; omega
  have w3 : IntKind.i64.wrap (M : Int) = (M : Int) := by rw [IntKind.wrap_i64]; omega
  rw [← hM]
  clear hM
  go_enter Tryz.func87, Tryz.ntmps87
  go_wp2
  go_ret
  exact ⟨ret_i64 (by omega), rfl⟩
/-- The tail doesn't come to the greatest number: nothing is done. -/
theorem vLower_c (x : CW5 w E pw q g h r l over AN cN) {n : Nat} (hn : U64 (h + Wl.needs l + n)) :
    Calls Tryz.prog 91 #[.pointer (some ⟨pw, 0, none⟩), .int .u64 (n : Int)] w fun e w' => e = .returned (.tuple #[]) ∧ w = w' := by
  obtain ⟨_, _, _, c3, _, _, _⟩ := x.fields
  clear x
  obtain ⟨T, hT⟩ : ∃ T, T = h + Wl.needs l := ⟨_, rfl⟩
  rw [← hT] at c3 hn
  clear hT
  have hi := hn.int
  have w1 : IntKind.u64.wrap (18446744073709551615 - (n : Int)) = 18446744073709551615 - (n : Int) := by rw [IntKind.wrap_u64]; omega
  have h2 : ¬ 18446744073709551615 - (n : Int) < (T : Int) := by omega
  clear hi hn
  go_enter Tryz.func91, Tryz.ntmps91
  go_wp2
  go_end0
  exact ⟨rfl, rfl⟩
end

namespace Wl
/-- Whether there is room for these. -/
def roomE (fr : Nat) (l : List (List UInt8)) : Int := if l.any (fun b => decide (60000 < b.length)) = true then 2 else if fr < needs l then 51 else 0
theorem roomE_long {fr : Nat} {l : List (List UInt8)} {b : List UInt8} (hb : b ∈ l) (h : 60000 < b.length) : roomE fr l = 2 := by unfold roomE; rw [if_pos (List.any_eq_true.2 ⟨b, hb, decide_eq_true h⟩)]
theorem roomE_full {fr : Nat} {l : List (List UInt8)} (h : ∀ b ∈ l, b.length ≤ 60000) (hf : fr < needs l) : roomE fr l = 51 := by unfold roomE; rw [if_neg (by simpa using h), if_pos hf]
theorem roomE_ok {fr : Nat} {l : List (List UInt8)} (h : ∀ b ∈ l, b.length ≤ 60000) (hf : ¬ fr < needs l) : roomE fr l = 0 := by unfold roomE; rw [if_neg (by simpa using h), if_neg hf]
/-- .. how many sectors they take. -/
def roomK (fr : Nat) (l : List (List UInt8)) : Int := if roomE fr l = 0 then (needs l : Int) else 0
theorem roomE_zero {fr : Nat} {l : List (List UInt8)} (h : roomE fr l = 0) : (∀ b ∈ l, b.length ≤ 60000) ∧ needs l ≤ fr := by
  unfold roomE at h
  split at h
  · cases h
  · rename_i h1
    split at h
    · cases h
    · exact ⟨by simpa using h1, by omega⟩
end Wl

section
variable {w : World} {E G : Nat → Prop} {pw q g h r : Nat} {l : List (List UInt8)} {over : Bool} {AN : Option Addr} {cN : Nat}

set_option maxHeartbeats 2000000 in
theorem vRoom_c (x : CW5 w E pw q g h r l over AN cN) {A : Option Addr} {n c : Nat} {ms : List MTx} (ht : Txs w G A ms) (hn : n = ms.length) (hs : n ≤ 1000) :
    Calls Tryz.prog 90 #[.pointer (some ⟨pw, 0, none⟩), .slice A n c] w fun e w' =>
      e = .returned (.tuple #[.int .i64 (Wl.roomK (r - Wl.needs l) (txs ms)), .int .i64 (Wl.roomE (r - Wl.needs l) (txs ms))]) ∧ ∃ j, w' = w.drewN j := by
  have HT := Lib.hid ht
  have HN := Lib.hid hn
  have HX := Lib.hid x
  obtain ⟨fr, hfr⟩ : ∃ fr, fr = r - Wl.needs l := ⟨_, rfl⟩
  have fr1 : fr ≤ 4096 := by have := x.r2; omega
  rw [← hfr]
  have FC : Hid (Calls Tryz.prog 76 #[.pointer (some ⟨pw, 0, none⟩)] w fun e w' => e = .returned (.int .i64 (fr : Int)) ∧ w' = w.drew) := Lib.hid (by rw [hfr]; exact vFree_c x)
  clear ht hn x hfr
  go_enter Tryz.func90, Tryz.ntmps90
  go_wp2_with fail
  go_loopw [6, 12] (fun u6 u12 wr => ∃ k : Nat, u12 = .int .i64 (k : Int) ∧ u6 = .int .i64 (Wl.needs ((txs ms).take k) : Int) ∧ k ≤ n ∧ (∀ b ∈ (txs ms).take k, b.length ≤ 60000) ∧ wr = w) (fun _ u12 _ => n - (intOf u12).toNat)
  case atStart => exact ⟨0, rfl, rfl, Nat.zero_le _, by simp, rfl⟩
  case round =>
    obtain ⟨k, rfl, rfl, hk, hsm, rfl⟩ := hrel
    have HS := Lib.hid hsm
    have ns := needs_small ((txs ms).take k)
    have tl : ((txs ms).take k).length ≤ n := by rw [List.length_take, txs_len, ← HN.out]; omega
    clear hsm
    by_cases hkn : k < n
    · obtain ⟨m, hmk⟩ : ∃ m, ms[k]? = some m := ⟨_, List.getElem?_eq_getElem (by rw [← HN.out]; exact hkn)⟩
      have hmem := List.mem_of_getElem? hmk
      obtain ⟨ad, rfl, hcell⟩ := HT.out.at (But.refl G _ wr) hmk
      have ml := (HT.out.t m hmem).2.2
      have bk : (txs ms)[k]? = some m.b := by simp [txs, hmk]
      have NT := Lib.hid (needs_take _ bk)
      have TK := Lib.hid (take_next bk)
      have nb := need_small m.b
      obtain ⟨N, hN⟩ : ∃ N, N = Wl.needs ((txs ms).take k) := ⟨_, rfl⟩
      obtain ⟨z, hz⟩ : ∃ z, z = Wl.need m.b := ⟨_, rfl⟩
      rw [← hN] at NT ns ⊢
      rw [← hz] at NT nb
      have HZ := Lib.hid hz
      have hcell2 : wr.cell? (ad.add k) = some (.slice m.A m.b.length m.c) := hcell
      clear hcell hN
      by_cases hz0 : z = 0
      · subst hz0
        have RE : Hid (Wl.roomE fr (txs ms) = 2) := Lib.hid (Wl.roomE_long (List.mem_of_getElem? bk) (need_zero.1 HZ.out.symm))
        have RK : Hid (Wl.roomK fr (txs ms) = 0) := Lib.hid (by unfold Wl.roomK; rw [RE.out]; rfl)
        clear NT ns nb bk tl TK hmk hmem HZ
        go_wp2_with fail
        refine (vNeed_c (b := m.b) rfl (by omega)).mono ?_
        rintro e w1 ⟨rfl, rfl⟩
        rw [← hz]
        clear hz
        go_wp2
        go_ret2
        rw [RE.out, RK.out]
        exact ⟨rfl, 0, rfl⟩
      · have qz : ((z : Int) == 0) = false := by simp; omega
        have q6 : m.b.length ≤ 60000 := by
          rcases Nat.lt_or_ge 60000 m.b.length with h6 | h6
          · exact absurd (HZ.out.trans (need_zero.2 h6)) hz0
          · exact h6
        have HS1 : Hid (∀ b ∈ (txs ms).take (k + 1), b.length ≤ 60000) := Lib.hid fun b hb => by
          rw [TK.out, List.mem_append, List.mem_singleton] at hb
          rcases hb with hb | rfl
          · exact HS.out b hb
          · exact q6
        have n1 : N ≤ 1000000 := by have : 938 * ((txs ms).take k).length ≤ 938 * 1000 := Nat.mul_le_mul_left _ (by omega); omega
        clear ns bk tl TK hmk hmem HS q6 hz0
        go_wp2_with fail
        refine (vNeed_c (b := m.b) rfl (by omega)).mono ?_
        rintro e w1 ⟨rfl, rfl⟩
        rw [← hz]
        clear hz
        go_wp2
        go_roundw
        case rel => exact ⟨k + 1, by go_num, by rw [NT.out]; go_num, by omega, HS1.out, trivial⟩
        case measure => simp [intOf]; omega
    · obtain rfl : n = k := by omega
      have tk : (txs ms).take n = txs ms := List.take_of_length_le (by rw [txs_len, ← HN.out]; exact Nat.le_refl _)
      rw [tk] at HS ns tl
      rw [tk]
      clear tk
      obtain ⟨N, hN⟩ : ∃ N, N = Wl.needs (txs ms) := ⟨_, rfl⟩
      have RF : Hid (fr < N → Wl.roomE fr (txs ms) = 51) := Lib.hid fun e => Wl.roomE_full HS.out (by rw [← hN]; exact e)
      have RO : Hid (¬ fr < N → Wl.roomE fr (txs ms) = 0) := Lib.hid fun e => Wl.roomE_ok HS.out (by rw [← hN]; exact e)
      rw [← hN] at ns ⊢
      have NE := Lib.hid hN.symm
      have n1 : N ≤ 1000000 := by have : 938 * (txs ms).length ≤ 938 * 1000 := Nat.mul_le_mul_left _ (by omega); omega
      clear hN ns tl
      by_cases hz : fr < N
      · have RE := Lib.hid (RF.out hz)
        have RK : Hid (Wl.roomK fr (txs ms) = 0) := Lib.hid (by unfold Wl.roomK; rw [RE.out]; rfl)
        have hzi : (fr : Int) < (N : Int) := by omega
        clear hz
        go_wp2_with fail
        refine FC.out.mono ?_
        rintro e w1 ⟨rfl, rfl⟩
        go_wp2
        go_ret2
        rw [RE.out, RK.out]
        exact ⟨rfl, 1, rfl⟩
      · have RE := Lib.hid (RO.out hz)
        have RK : Hid (Wl.roomK fr (txs ms) = (N : Int)) := Lib.hid (by unfold Wl.roomK; rw [RE.out, NE.out]; rfl)
        have hzi : ¬ (fr : Int) < (N : Int) := by omega
        clear hz
        go_wp2_with fail
        refine FC.out.mono ?_
        rintro e w1 ⟨rfl, rfl⟩
        go_wp2
        go_ret2
        rw [RE.out, RK.out]
        exact ⟨rfl, 1, rfl⟩

set_option maxHeartbeats 2000000 in
theorem vBehind_c (x : CW5 w E pw q g h r l over AN cN) {n : Nat} (hn : n ≤ l.length) :
    Calls Tryz.prog 97 #[.pointer (some ⟨pw, 0, none⟩), .int .i64 (n : Int)] w fun e w' => e = .returned (.int .u64 ((h + Wl.needs (l.take n) : Nat) : Int)) ∧ w = w' := by
  obtain ⟨_, _, c2, _, _, c5, _⟩ := x.fields
  have HX := Lib.hid x
  have few := x.few
  obtain ⟨L, hL⟩ : ∃ L, L = l.length := ⟨_, rfl⟩
  rw [← hL] at c5 hn few
  have rm : n ≤ cN := by have := x.room; omega
  have hni : (n : Int) ≤ (L : Int) := by omega
  have hnc : (n : Int) ≤ (cN : Int) := by omega
  have HL := Lib.hid hL
  clear x hL
  go_enter Tryz.func97, Tryz.ntmps97
  go_wp2_with fail
  go_loopw [5, 19] (fun u5 u19 wr => ∃ k : Nat, u19 = .int .i64 (k : Int) ∧ u5 = .int .u64 ((h + Wl.needs (l.take k) : Nat) : Int) ∧ k ≤ n ∧ wr = w) (fun _ u19 _ => n - (intOf u19).toNat)
  case atStart => exact ⟨0, rfl, by simp [Wl.needs], Nat.zero_le _, rfl⟩
  case round =>
    obtain ⟨k, rfl, rfl, hk, rfl⟩ := hrel
    by_cases hkn : k < n
    · obtain ⟨b, hb⟩ : ∃ b, l[k]? = some b := ⟨_, List.getElem?_eq_getElem (by rw [← HL.out]; omega)⟩
      have NT := Lib.hid (needs_take _ hb)
      have nb := need_small b
      obtain ⟨ad, rfl, hcell⟩ := HX.out.n.at_ (k := k) (by rw [ics_len, List.length_map, ← HL.out]; omega)
      have ce : (ics (l.map Wl.need))[k]? = some (.int .i64 (Wl.need b : Int)) := by simp [ics, hb]
      rw [List.getElem?_eq_getElem (by rw [ics_len, List.length_map, ← HL.out]; omega)] at ce
      injection ce with ce
      rw [ce] at hcell
      have tk : Wl.needs (l.take (k + 1)) ≤ Wl.needs l := by have := Wl.needs_drop l (k + 1); omega
      have ut := HX.out.t64.int
      obtain ⟨N, hN⟩ : ∃ N, N = Wl.needs (l.take k) := ⟨_, rfl⟩
      obtain ⟨z, hz⟩ : ∃ z, z = Wl.need b := ⟨_, rfl⟩
      rw [← hN, ← hz] at NT
      rw [← hN]
      rw [← hz] at hcell nb
      rw [NT.out] at tk
      obtain ⟨P, hP⟩ : ∃ P, P = h + N := ⟨_, rfl⟩
      have NP := Lib.hid (show h + (N + z) = P + z by omega)
      rw [← hP]
      have w1 : IntKind.u64.wrap (z : Int) = (z : Int) := by rw [IntKind.wrap_u64]; omega
      have w2 : IntKind.u64.wrap ((P : Int) + (z : Int)) = (P : Int) + (z : Int) := by rw [IntKind.wrap_u64]; omega
      clear tk ut hP hN hz ce hb
      go_wp2
      go_roundw
      case rel => exact ⟨k + 1, by go_num, by rw [NT.out, NP.out]; go_num, by omega, trivial⟩
      case measure => simp [intOf]; omega
    · obtain rfl : n = k := by omega
      go_wp2
      go_ret
      exact ⟨rfl, rfl⟩
end

/-- Numbers of its own. -/
def IntsOk (B : Nat) (ns : List Nat) (w : World) (e : Ending) (w' : World) : Prop :=
  ∃ A n c, e = .returned (.slice A n c) ∧ n = ns.length ∧ w'.ownsRow B 3 1 (.slice A n c) n (ics ns) ∧ Below B w w'
theorem Tryz.infoInt : (Tryz.prog.info? 3).map (fun i => (i.zero, i.size, i.bytes)) = some (some (.int .i64 0), 1, 8) := by kernel_rfl

set_option maxHeartbeats 1000000 in
theorem vClone_c {A : Option Addr} {n c : Nat} {ns : List Nat} {w : World} (hL : Lies w 0 3 A (ics ns)) (hn : n = ns.length) (hs : n ≤ 4096) :
    Calls Tryz.prog 92 #[.slice A n c] w (IntsOk w.heap.size ns w) := by
  have HL := Lib.hid hL
  have HN := Lib.hid hn
  clear hL hn
  obtain ⟨ti, hi, iz0, iz1, iz2⟩ := info_parts Tryz.infoInt
  have hq := fun W : World => Lib.run_eql_slice_nil (P := Tryz.prog) W 114 3 A n c 0 0 Tryz.underlying114
  cases A with
  | none =>
    have e0 : ns = [] := by
      rcases ns with _ | ⟨y, l⟩
      · rfl
      · obtain ⟨ad, q, _⟩ := HL.out (by simp [ics])
        cases q
    subst e0
    obtain rfl : n = 0 := HN.out
    go_enter Tryz.func92, Tryz.ntmps92
    go_wp2
    go_ret
    exact ⟨none, 0, 0, rfl, rfl, World.ownsRow_nil _ _ _ _, Below.refl _ _⟩
  | some ad =>
    have lit := World.ownsRow_lit (base := w.heap.size) (e := 3) (size := 1) w #[] 0 (Nat.le_refl _) (by decide) rfl
    have LIT := Lib.hid lit
    clear lit
    go_enter Tryz.func92, Tryz.ntmps92
    go_wp2_with (at_builtin; refine wpList_app _ rfl _ _ 114 rfl w.heap.size 3 ti (.int .i64 0) 1 8 Tryz.underlying114 hi iz0 iz1 iz2 rfl (by decide) _ 0 [] rfl LIT.out 0 (some ad) n c (ics ns) 3 rfl (by rw [ics_len, HN.out]; omega) (HL.out.alloc (Nat.zero_le _) _) (ics_one _) (by unfold maxLen; omega) (by omega) (by simp) ?_)
    intro v' w2 hown hgrow _
    obtain ⟨A2, k2, rfl⟩ := own_slice hown
    have T2 := Lib.hid (app_below LIT.out hgrow)
    have O2 := Lib.hid hown
    clear hown hgrow
    go_wp2
    go_ret
    exact ⟨A2, _, k2, rfl, HN.out, by simpa using O2.out, T2.out⟩

/-- A wal of plain words: its slot's number, where the first record begins, the records, whether it is at an end. -/
structure VS where
  g : Nat
  h : Nat
  l : List (List UInt8)
  over : Bool

/-- A wal's and its disk's blocks are there, and apart. -/
structure CWD (w : World) (E G : Nat → Prop) (pw q : Nat) (s : VS) (d : Dk.D) : Prop where
  cd : CD w G q d
  cw : ∃ AN cN, CW5 w E pw q s.g s.h (Wl.ring d) s.l s.over AN cN
  eo : ∀ k, E k → k < w.heap.size
  go : ∀ k, G k → k < w.heap.size
  ap : ∀ k, E k → ¬ G k
theorem CWD.keep {w w' : World} {E G : Nat → Prop} {pw q : Nat} {s : VS} {d : Dk.D} (x : CWD w E G pw q s d) (hb : Below w.heap.size w w') : CWD w' E G pw q s d := by
  obtain ⟨AN, cN, y⟩ := x.cw
  exact ⟨x.cd.keep (fun k hk _ => hb.block k (x.go k hk)), ⟨AN, cN, y.keep (fun k hk => hb.block k (x.eo k hk))⟩, fun k hk => Nat.lt_of_lt_of_le (x.eo k hk) hb.size, fun k hk => Nat.lt_of_lt_of_le (x.go k hk) hb.size, x.ap⟩
/-- What a method of the code's Wal that answers an error's number leaves. -/
def VOk (E G : Nat → Prop) (pw q : Nat) (y : Int × VS × Dk.D) (w : World) (e : Ending) (w' : World) : Prop :=
  e = .returned (.int .i64 y.1) ∧ ∃ E' G', CWD w' E' G' pw q y.2.1 y.2.2 ∧ (∀ k, k < w.heap.size → E' k → E k) ∧ (∀ k, k < w.heap.size → G' k → G k) ∧ But (fun k => E k ∨ G k) w.heap.size w w'
theorem VOk.same {E G : Nat → Prop} {pw q : Nat} {s : VS} {d : Dk.D} {w w' : World} {er : Int} (h : CWD w E G pw q s d) (hb : Below w.heap.size w w') : VOk E G pw q (er, s, d) w (.returned (.int .i64 er)) w' :=
  ⟨rfl, E, G, h.keep hb, fun _ _ q => q, fun _ _ q => q, But.of_below hb _⟩

/-- The slot is replaced. -/
def vsave (s : VS) (d : Dk.D) (h' : Nat) (l' : List (List UInt8)) : Int × VS × Dk.D :=
  if (Su.save d (s.g + 1) [h', h' + Wl.needs l']).1 = 0 then (0, ⟨s.g + 1, h', l', false⟩, (Su.save d (s.g + 1) [h', h' + Wl.needs l']).2)
  else ((Su.save d (s.g + 1) [h', h' + Wl.needs l']).1, s, (Su.save d (s.g + 1) [h', h' + Wl.needs l']).2)

theorem save_size (d : Dk.D) (g : Nat) (l : List Nat) : (Su.save d g l).2.s.length = d.s.length := by
  have fl : ∀ D : Dk.D, (Dk.flush D).2.s.length = D.s.length := fun D => by
    have a : (Dk.act D).2.s.length = D.s.length := by rw [Dk.act_s]
    unfold Dk.flush
    split
    · show (Dk.keepAll D.s D.cache).length = _
      rw [Dk.keepAll_len]
    · exact a
  have wr : ∀ (D : Dk.D) (i : Int) (b : List UInt8), (Dk.write D i b).2.s.length = D.s.length := fun D i b => by
    unfold Dk.write
    split
    · rfl
    split
    · rfl
    split
    · rfl
    split
    · show (Dk.act D).2.s.length = _
      rw [Dk.act_s]
    · rw [Dk.act_s]
  unfold Su.save
  split
  · rfl
  split
  · split
    · rw [fl, wr, fl]
    · rw [wr, fl]
  · rw [fl]

set_option maxHeartbeats 4000000 in
set_option maxRecDepth 100000 in
theorem vSave_c {w : World} {E G : Nat → Prop} {pw q : Nat} {s : VS} {d : Dk.D} (x : CWD w E G pw q s d) (ho : s.over = false) (hd : d.ok) (hl : d.left ≤ 9223372036854775807) (hcl : d.cache.length ≤ 10000000) (ug : U64 (s.g + 1))
    {h' : Nat} {l' : List (List UInt8)} {A : Option Addr} {n c : Nat} (hL : Lies w 0 3 A (ics (l'.map Wl.need))) (hA : InF E A) (hn : n = l'.length) (hc : n ≤ c) (hsm : ∀ b ∈ l', b.length ≤ 60000) (hft : Wl.needs l' ≤ Wl.ring d) (ut : U64 (h' + Wl.needs l')) :
    Calls Tryz.prog 96 #[.pointer (some ⟨pw, 0, none⟩), .int .u64 (h' : Int), .int .u64 ((h' + Wl.needs l' : Nat) : Int), .slice A n c] w (VOk E G pw q (vsave s d h' l') w) := by
  obtain ⟨AN, cN, y⟩ := x.cw
  rw [ho] at y
  obtain ⟨c0, c1, _, _, _, _, _⟩ := y.fields
  have HX := Lib.hid x
  have HY := Lib.hid y
  have pl : pw < w.heap.size := x.eo pw y.fp
  have HD := Lib.hid hd
  have HL := Lib.hid hl
  have HC := Lib.hid hcl
  have UG := Lib.hid ug
  have UT := Lib.hid ut
  have LL := Lib.hid hL
  have IA := Lib.hid hA
  have HN := Lib.hid hn
  have RM := Lib.hid hc
  have SM := Lib.hid hsm
  have FT := Lib.hid hft
  have HO := Lib.hid ho
  obtain ⟨g, hg⟩ : ∃ g, g = s.g := ⟨_, rfl⟩
  obtain ⟨T, hT⟩ : ∃ T, T = h' + Wl.needs l' := ⟨_, rfl⟩
  have u0 : U64 h' := Nat.lt_of_le_of_lt (Nat.le_add_right _ _) ut
  have uT : U64 T := by rw [hT]; exact ut
  obtain ⟨e1, d1, hs1⟩ : ∃ e1 d1, Su.save d (g + 1) [h', T] = (e1, d1) := ⟨_, _, rfl⟩
  have zz := save_size d (g + 1) [h', T]
  rw [hs1] at zz
  have RG : Hid (Wl.ring d1 = Wl.ring d) := Lib.hid (by unfold Wl.ring; rw [zz])
  have TN : Hid (vsave s d h' l' = if e1 = 0 then (0, ⟨g + 1, h', l', false⟩, d1) else (e1, s, d1)) := Lib.hid (by unfold vsave; rw [← hg, ← hT, hs1])
  have SV := Lib.hid hs1
  rw [← hg] at c1
  have gi : (g : Int) < 18446744073709551615 := by have := ug.int; rw [hg]; omega
  have wg : IntKind.u64.wrap ((g : Int) + 1) = ((g + 1 : Nat) : Int) := by rw [IntKind.wrap_u64]; omega
  rw [← hT]
  have HG := Lib.hid hg
  have HTT := Lib.hid hT
  have U0 := Lib.hid u0
  have U1 := Lib.hid uT
  clear x y hd hl hcl ug ut hL hA hn hc hsm hft ho hg hT zz hs1 u0 uT
  go_enter Tryz.func96, Tryz.ntmps96
  go_wp2_with fail
  have cs := suSave_c (w := (w.alloc (.cells #[.int .u64 (h' : Int), .int .u64 (T : Int)] 62))) (B := 0) (t := 62) (g := g + 1) (A := some ⟨w.heap.size, 0, none⟩) (n := 2) (c := 2) (l := [h', T]) (HX.out.cd.keep (fun k hk _ => Below.heap_alloc _ _ _ (HX.out.go k hk))) (fun k hk => by have := HX.out.go k hk; simp; omega) HD.out HL.out HC.out (by have q := Lies.of_blk (B := 0) (heap_alloc_new w (.cells #[.int .u64 (h' : Int), .int .u64 (T : Int)] 62)); exact q) rfl (by decide) (by have q := UG.out; rw [← HG.out] at q; exact q) (by intro n hn; simp at hn; rcases hn with rfl | rfl <;> first | exact U0.out | exact U1.out) (by decide)
  rw [SV.out] at cs
  have ba : Below w.heap.size w (w.alloc (.cells #[.int .u64 (h' : Int), .int .u64 (T : Int)] 62)) := (Below.refl _ _).alloc (Nat.le_refl _) _
  refine cs.mono ?_
  rintro e w3 ⟨rfl, hr3, hb3⟩
  have za := ba.size
  have keep3 : ∀ k, k < w.heap.size → ¬ G k → w3.heap[k]? = w.heap[k]? := fun k hk hf => (hb3.block k (by omega) hf).trans (ba.block k hk)
  have p3 := (keep3 pw pl (HX.out.ap pw HY.out.fp)).trans HY.out.cell
  have f1 := blk_free p3 1
  have f2 := blk_free p3 2
  have f3 := blk_free p3 3
  have f5 := blk_free p3 5
  have d1' : w3.cell? ⟨pw, 1, none⟩ = some (.int .u64 (s.g : Int)) := by simp [World.cell?, p3]
  have d2' : w3.cell? ⟨pw, 2, none⟩ = some (.int .u64 (s.h : Int)) := by simp [World.cell?, p3]
  have d3' : w3.cell? ⟨pw, 3, none⟩ = some (.int .u64 ((s.h + Wl.needs s.l : Nat) : Int)) := by simp [World.cell?, p3]
  have d5' : w3.cell? ⟨pw, 5, none⟩ = some (.slice AN s.l.length cN) := by simp [World.cell?, p3]
  have K3 := Lib.hid (show ∀ k, E k → w3.heap[k]? = w.heap[k]? from fun k hk => keep3 k (HX.out.eo k hk) (HX.out.ap k hk))
  have P3 := Lib.hid p3
  have B3 := Lib.hid hb3
  have hr4 : CD w3 (fun k => G k ∨ ((w.alloc (.cells #[.int .u64 (h' : Int), .int .u64 (T : Int)] 62)).heap.size ≤ k ∧ k < w3.heap.size)) q d1 := by
    refine hr3.cap.mono fun k hk => hk.1.elim .inl (fun z => .inr ⟨z, hk.2⟩)
  have R4 := Lib.hid hr4
  have BT3 : Hid (But (fun k => E k ∨ G k) w.heap.size w w3) := Lib.hid ((But.of_below ba _).trans (hb3.mono za (fun k hk => .inr hk)))
  have ZA := Lib.hid za
  have ZB := Lib.hid hb3.size
  have FIN : Hid (∀ (w4 : World) (s' : VS), (∃ AN cN, CW5 w4 E pw q s'.g s'.h (Wl.ring d1) s'.l s'.over AN cN) → (∀ k, k ≠ pw → w4.heap[k]? = w3.heap[k]?) → w4.os = w3.os → w4.tape = w3.tape → w4.output = w3.output → w4.heap.size = w3.heap.size → ∃ E' G', CWD w4 E' G' pw q s' d1 ∧ (∀ k, k < w.heap.size → E' k → E k) ∧ (∀ k, k < w.heap.size → G' k → G k) ∧ But (fun k => E k ∨ G k) w.heap.size w w4) := Lib.hid fun w4 s' hx' hk h1 h2 h3 h4 => by
    have zs : (w.alloc (.cells #[.int .u64 (h' : Int), .int .u64 (T : Int)] 62)).heap.size = w.heap.size + 1 := by simp
    have apw : ∀ k, (G k ∨ ((w.alloc (.cells #[.int .u64 (h' : Int), .int .u64 (T : Int)] 62)).heap.size ≤ k ∧ k < w3.heap.size)) → k ≠ pw := fun k hk5 e => hk5.elim (fun f => HX.out.ap pw HY.out.fp (e ▸ f)) (fun z => by omega)
    refine ⟨E, _, ⟨R4.out.keep (fun k hk2 _ => hk k (apw k hk2)), hx', fun k hk2 => by have := HX.out.eo k hk2; have := ZA.out; have := ZB.out; omega, fun k hk2 => by rw [h4]; exact hk2.elim (fun z => by have := HX.out.go k z; have := ZA.out; have := ZB.out; omega) (fun z => z.2), fun k he hf => hf.elim (HX.out.ap k he) (fun z => by have := HX.out.eo k he; omega)⟩, fun _ _ z => z, fun k hk2 hf => hf.elim id (fun z => by omega), ?_⟩
    exact ⟨h1.trans BT3.out.os, h2.trans BT3.out.tape, h3.trans BT3.out.output, by rw [h4]; exact BT3.out.size, fun k hk2 hf => (hk k (fun e => hf (.inl (e ▸ HY.out.fp)))).trans (BT3.out.block k hk2 hf)⟩
  clear hr3 hb3 cs ba keep3 p3 hr4 za pl
  by_cases q1 : e1 = 0
  · subst q1
    have TN1 : Hid (vsave s d h' l' = (0, ⟨g + 1, h', l', false⟩, d1)) := Lib.hid (by rw [TN.out, if_pos rfl])
    clear TN
    go_wp2
    go_ret
    rw [TN1.out]
    refine ⟨rfl, FIN.out _ ⟨g + 1, h', l', false⟩ ⟨A, c, ⟨HY.out.fp, ?_, ?_, IA.out, by rw [← HN.out]; exact RM.out, SM.out, by rw [RG.out]; exact FT.out, by rw [RG.out]; exact HY.out.r1, by rw [RG.out]; exact HY.out.r2, by have z := UG.out; rw [← HG.out] at z; exact z, UT.out⟩⟩ ?_ rfl rfl rfl (by simp)⟩
    · rw [blk_set (blk_set (blk_set (blk_set P3.out 1 _) 2 _) 3 _) 5 _, RG.out, ← HN.out, ← HTT.out]; rfl
    · have z4 := LL.out.keepF IA.out (fun b hb => K3.out b hb)
      refine z4.keep fun b hb => ?_
      have nb : b ≠ pw := hb.elim (fun z => absurd z (Nat.not_lt_zero _)) (fun ⟨_, _, z⟩ => blk_ne z P3.out (by decide))
      exact (set_off b nb).trans ((set_off b nb).trans ((set_off b nb).trans (set_off b nb)))
    · exact fun k hk => (set_off k hk).trans ((set_off k hk).trans ((set_off k hk).trans (set_off k hk)))
  · have zz : (e1 != 0) = true := by simp [q1]
    have TN2 : Hid (vsave s d h' l' = (e1, s, d1)) := Lib.hid (by rw [TN.out, if_neg q1])
    clear q1
    go_wp2
    go_ret
    rw [TN2.out]
    refine ⟨rfl, FIN.out w3 s ⟨AN, cN, ?_⟩ (fun _ _ => rfl) rfl rfl rfl rfl⟩
    rw [RG.out, HO.out]
    exact HY.out.keep K3.out

/-- The first records go, others come, all at once. -/
def vchg (s : VS) (d : Dk.D) (gone : Nat) (m : List (List UInt8)) : Int × VS × Dk.D :=
  if s.over = true then (50, s, d)
  else if Wl.roomE (Wl.ring d - Wl.needs s.l) m = 0 then
    (if (Wl.wrs (Wl.ring d) (s.h + Wl.needs s.l) (Wl.chunks m) d).1 = 0 then
      ((vsave s (Wl.wrs (Wl.ring d) (s.h + Wl.needs s.l) (Wl.chunks m) d).2 (s.h + Wl.needs (s.l.take gone)) (s.l.drop gone ++ m)).1,
       (if (vsave s (Wl.wrs (Wl.ring d) (s.h + Wl.needs s.l) (Wl.chunks m) d).2 (s.h + Wl.needs (s.l.take gone)) (s.l.drop gone ++ m)).1 = 0 then
         (vsave s (Wl.wrs (Wl.ring d) (s.h + Wl.needs s.l) (Wl.chunks m) d).2 (s.h + Wl.needs (s.l.take gone)) (s.l.drop gone ++ m)).2.1 else { s with over := true }),
       (vsave s (Wl.wrs (Wl.ring d) (s.h + Wl.needs s.l) (Wl.chunks m) d).2 (s.h + Wl.needs (s.l.take gone)) (s.l.drop gone ++ m)).2.2)
    else ((Wl.wrs (Wl.ring d) (s.h + Wl.needs s.l) (Wl.chunks m) d).1, { s with over := true }, (Wl.wrs (Wl.ring d) (s.h + Wl.needs s.l) (Wl.chunks m) d).2))
  else (Wl.roomE (Wl.ring d - Wl.needs s.l) m, s, d)
theorem vchg_over {s : VS} {d : Dk.D} {gone : Nat} {m : List (List UInt8)} (h : s.over = true) : vchg s d gone m = (50, s, d) := by unfold vchg; rw [if_pos h]
theorem vchg_room {s : VS} {d : Dk.D} {gone : Nat} {m : List (List UInt8)} (h : s.over = false) (hr : Wl.roomE (Wl.ring d - Wl.needs s.l) m ≠ 0) : vchg s d gone m = (Wl.roomE (Wl.ring d - Wl.needs s.l) m, s, d) := by
  unfold vchg; rw [if_neg (by rw [h]; simp), if_neg hr]
theorem vchg_bad {s : VS} {d D : Dk.D} {gone : Nat} {e : Int} {m : List (List UInt8)} (h : s.over = false) (hr : Wl.roomE (Wl.ring d - Wl.needs s.l) m = 0) (hw : Wl.wrs (Wl.ring d) (s.h + Wl.needs s.l) (Wl.chunks m) d = (e, D)) (he : e ≠ 0) :
    vchg s d gone m = (e, { s with over := true }, D) := by
  unfold vchg; rw [if_neg (by rw [h]; simp), if_pos hr, hw]; dsimp only; rw [if_neg he]
theorem vchg_save {s s2 : VS} {d D D2 : Dk.D} {gone : Nat} {e2 : Int} {m : List (List UInt8)} (h : s.over = false) (hr : Wl.roomE (Wl.ring d - Wl.needs s.l) m = 0) (hw : Wl.wrs (Wl.ring d) (s.h + Wl.needs s.l) (Wl.chunks m) d = (0, D))
    (hs : vsave s D (s.h + Wl.needs (s.l.take gone)) (s.l.drop gone ++ m) = (e2, s2, D2)) : vchg s d gone m = (e2, (if e2 = 0 then s2 else { s with over := true }), D2) := by
  unfold vchg; rw [if_neg (by rw [h]; simp), if_pos hr, hw]; dsimp only; rw [if_pos rfl, hs]

/-- Texts of the caller's, in a later world. -/
theorem Txs.later {w w' : World} {F : Nat → Prop} {A : Option Addr} {ms : List MTx} (h : Txs w F A ms) (hb : Below w.heap.size w w') : Txs w' F A ms := by
  have zb := hb.size
  refine ⟨(h.l.below (Nat.le_refl _) hb).more zb, fun e => (h.lF e).mono fun k z => ⟨z.1, by omega⟩, fun m hm => ?_⟩
  obtain ⟨⟨t1, t2⟩, t3, t4⟩ := h.t m hm
  exact ⟨⟨(t1.below (Nat.le_refl _) hb).more zb, t2⟩, fun e => (t3 e).mono fun k z => ⟨z.1, by omega⟩, t4⟩

theorem vChange_nil {w : World} {gone : Int} {A : Option Addr} {n c : Nat} :
    Calls Tryz.prog 74 #[.pointer none, .int .i64 gone, .slice A n c] w fun e w' => e = .returned (.int .i64 50) ∧ Below w.heap.size w w' := by
  go_enter Tryz.func74, Tryz.ntmps74
  go_wp2
  go_step3
  go_wp2_with fail
  refine (vRuns_nil _).mono ?_
  rintro e w1 ⟨rfl, rfl⟩
  go_wp2
  rw [Exit.noGoto_ret]
  go_ret
  exact ⟨rfl, (Below.refl _ _).alloc (Nat.le_refl _) _⟩

section
variable {w : World} {E G : Nat → Prop} {pw q : Nat} {s : VS} {d : Dk.D}

set_option maxHeartbeats 1000000 in
theorem vChange_over (x : CWD w E G pw q s d) (ho : s.over = true) {gone : Int} {A : Option Addr} {n c : Nat} :
    Calls Tryz.prog 74 #[.pointer (some ⟨pw, 0, none⟩), .int .i64 gone, .slice A n c] w (VOk E G pw q (50, s, d) w) := by
  have HX := Lib.hid x
  have ba : Below w.heap.size w (w.alloc (.cells #[.pointer (some ⟨pw, 0, none⟩)] 82)) := (Below.refl _ _).alloc (Nat.le_refl _) _
  have HB := Lib.hid ba
  obtain ⟨AN, cN, y⟩ := (x.keep ba).cw
  rw [ho] at y
  have HY := Lib.hid y
  clear x ho y ba
  go_enter Tryz.func74, Tryz.ntmps74
  go_wp2
  go_step3
  go_wp2_with fail
  refine (vRuns_c HY.out).mono ?_
  rintro e w1 ⟨rfl, rfl⟩
  go_wp2
  rw [Exit.noGoto_ret]
  go_ret
  exact VOk.same HX.out HB.out

set_option maxHeartbeats 2000000 in
theorem vChange_room (x : CWD w E G pw q s d) (ho : s.over = false) {gone : Int} {A : Option Addr} {n c : Nat} {ms : List MTx} (ht : Txs w G A ms) (hn : n = ms.length) (hs : n ≤ 1000) (hr : Wl.roomE (Wl.ring d - Wl.needs s.l) (txs ms) ≠ 0) :
    Calls Tryz.prog 74 #[.pointer (some ⟨pw, 0, none⟩), .int .i64 gone, .slice A n c] w (VOk E G pw q (Wl.roomE (Wl.ring d - Wl.needs s.l) (txs ms), s, d) w) := by
  have HX := Lib.hid x
  have ba : Below w.heap.size w (w.alloc (.cells #[.pointer (some ⟨pw, 0, none⟩)] 82)) := (Below.refl _ _).alloc (Nat.le_refl _) _
  have HB := Lib.hid ba
  obtain ⟨AN, cN, y⟩ := (x.keep ba).cw
  rw [ho] at y
  have HY := Lib.hid y
  have HT := Lib.hid (ht.later ba)
  have HN := Lib.hid hn
  obtain ⟨er, her⟩ : ∃ er, er = Wl.roomE (Wl.ring d - Wl.needs s.l) (txs ms) := ⟨_, rfl⟩
  rw [← her] at hr ⊢
  have rc := Lib.hid (vRoom_c (c := c) y HT.out HN.out hs)
  rw [← her] at rc
  have qz : (er != 0) = true := by simpa using hr
  clear x ho y ba ht hn her hr
  go_enter Tryz.func74, Tryz.ntmps74
  go_wp2
  go_step3
  go_wp2_with fail
  refine (vRuns_c HY.out).mono ?_
  rintro e w1 ⟨rfl, rfl⟩
  go_wp2_with fail
  refine rc.out.mono ?_
  rintro e w1 ⟨rfl, j, rfl⟩
  go_wp2
  rw [Exit.noGoto_ret]
  go_ret
  exact VOk.same HX.out (((below_drewN HB.out j)).alloc (by simp) _)
end

namespace Wl
/-- Piece number j. -/
def pc (f : List UInt8) (j : Nat) : List UInt8 := (f.drop (64 * j)).take 64
theorem cut_range (f : List UInt8) : cut f = (List.range ((f.length + 63) / 64)).map (pc f) := by
  induction hn : f.length using Nat.strongRecOn generalizing f with
  | _ n ih =>
    by_cases h : f = []
    · subst h
      simp at hn
      subst hn
      rw [cut_nil]
      rfl
    · have hp := List.length_pos_iff.2 h
      have e : (n + 63) / 64 = ((f.drop 64).length + 63) / 64 + 1 := by rw [List.length_drop]; omega
      rw [cut_cons h, e, List.range_succ_eq_map, List.map_cons, List.map_map, ih (f.drop 64).length (by rw [List.length_drop]; omega) _ rfl]
      congr 1
      refine List.map_congr_left fun j _ => ?_
      show pc (f.drop 64) j = pc f (j + 1)
      unfold pc
      rw [List.drop_drop, show 64 + 64 * j = 64 * (j + 1) by omega]
theorem pc_len (f : List UInt8) (j : Nat) : (pc f j).length = min 64 (f.length - 64 * j) := by unfold pc; rw [List.length_take, List.length_drop]
theorem wrs_app {r : Nat} (xs ys : List (List UInt8)) : ∀ (p : Nat) (d : Dk.D), wrs r p (xs ++ ys) d = if (wrs r p xs d).1 = 0 then wrs r (p + xs.length) ys (wrs r p xs d).2 else wrs r p xs d := by
  induction xs with
  | nil => intro p d; simp [wrs]
  | cons x xs ih =>
    intro p d
    rw [List.cons_append]
    show (if (Dk.write d ((2 + p % r : Nat) : Int) x).1 = 0 then wrs r (p + 1) (xs ++ ys) (Dk.write d ((2 + p % r : Nat) : Int) x).2 else Dk.write d ((2 + p % r : Nat) : Int) x) = _
    have e : wrs r p (x :: xs) d = (if (Dk.write d ((2 + p % r : Nat) : Int) x).1 = 0 then wrs r (p + 1) xs (Dk.write d ((2 + p % r : Nat) : Int) x).2 else Dk.write d ((2 + p % r : Nat) : Int) x) := rfl
    by_cases h : (Dk.write d ((2 + p % r : Nat) : Int) x).1 = 0
    · rw [e, if_pos h, if_pos h, ih, List.length_cons, show p + 1 + xs.length = p + (xs.length + 1) by omega]
    · rw [e, if_neg h, if_neg h, if_neg h]
theorem wrs_snoc {r p : Nat} {xs : List (List UInt8)} {x : List UInt8} {d D D' : Dk.D} {e : Int} (h : wrs r p xs d = (0, D)) (hw : Dk.write D ((2 + (p + xs.length) % r : Nat) : Int) x = (e, D')) : wrs r p (xs ++ [x]) d = (e, D') := by
  rw [wrs_app, h]
  dsimp only
  rw [if_pos rfl]
  by_cases he : e = 0
  · subst he
    rw [wrs_one hw]
    rfl
  · exact wrs_bad hw he
theorem wrs_then {r p : Nat} {xs ys : List (List UInt8)} {d D : Dk.D} {Z : Int × Dk.D} (h : wrs r p xs d = (0, D)) (hz : wrs r p (xs ++ ys) d = Z) : wrs r (p + xs.length) ys D = Z := by
  rw [wrs_app, h] at hz
  dsimp only at hz
  rwa [if_pos rfl] at hz
theorem wrs_stop {r p : Nat} {xs ys : List (List UInt8)} {d D : Dk.D} {e : Int} (h : wrs r p xs d = (e, D)) (he : e ≠ 0) : wrs r p (xs ++ ys) d = (e, D) := by
  rw [wrs_app, h]
  dsimp only
  rw [if_neg he]
end Wl

/-- The disk is at block q, its map at mm, all else of it cells, none of O's blocks. -/
structure PV (w wr : World) (G G' O : Nat → Prop) (q mm : Nat) (D : Dk.D) : Prop where
  cd : CDm wr G' q mm D
  go : ∀ k, G' k → k < wr.heap.size
  gn : ∀ k, k < w.heap.size → G' k → G k
  oo : ∀ k, O k → w.heap.size ≤ k ∧ k < wr.heap.size ∧ ¬ G' k
  but : But G w.heap.size w wr
  tight : ∀ k, G' k → k = mm ∨ ∃ cs t fr, wr.heap[k]? = some (.cells cs t fr)

section
variable {w wr w2 : World} {G G' O : Nat → Prop} {q mm : Nat} {D D' : Dk.D}
theorem PV.start (h : CDm w G q mm D) (hb : Below w.heap.size w wr) (hG : ∀ k, G k → k < w.heap.size) : PV w wr G (fun k => G k ∧ (k = mm ∨ ∃ cs t fr, w.heap[k]? = some (.cells cs t fr))) (fun k => w.heap.size ≤ k ∧ k < wr.heap.size) q mm D :=
  ⟨h.tight.keep (fun k hk _ => hb.block k (hG k hk.1)), fun k hk => Nat.lt_of_lt_of_le (hG k hk.1) hb.size, fun _ _ hk => hk.1, fun k hk => ⟨hk.1, hk.2, fun f => by have := hG k f.1; omega⟩, But.of_below hb G,
    fun k hk => hk.2.imp id (fun ⟨cs, t, fr, z⟩ => ⟨cs, t, fr, (hb.block k (hG k hk.1)).trans z⟩)⟩
/-- Whatever turns but the disk's blocks and what lay below. -/
theorem PV.off (h : PV w wr G G' O q mm D) {O' : Nat → Prop} (hb : ∀ k, k < wr.heap.size → (G' k ∨ k < w.heap.size) → w2.heap[k]? = wr.heap[k]?) (hz : wr.heap.size ≤ w2.heap.size) (h1 : w2.os = wr.os) (h2 : w2.tape = wr.tape) (h3 : w2.output = wr.output)
    (hO : ∀ k, O' k → O k ∨ wr.heap.size ≤ k ∧ k < w2.heap.size) : PV w w2 G G' O' q mm D := by
  have zw := h.but.size
  refine ⟨h.cd.keep (fun k hk hk2 => hb k hk2 (.inl hk)), fun k hk => Nat.lt_of_lt_of_le (h.go k hk) hz, h.gn, fun k hk => ?_, ⟨h1.trans h.but.os, h2.trans h.but.tape, h3.trans h.but.output, Nat.le_trans zw hz, fun k hk hf => (hb k (by omega) (.inr hk)).trans (h.but.block k hk hf)⟩, fun k hk => ?_⟩
  · rcases hO k hk with z | z
    · have y := h.oo k z
      exact ⟨y.1, by omega, y.2.2⟩
    · exact ⟨by omega, z.2, fun f => by have := h.go k f; omega⟩
  · exact (h.tight k hk).imp id (fun ⟨cs, t, fr, z⟩ => ⟨cs, t, fr, (hb k (h.go k hk) (.inl hk)).trans z⟩)
theorem PV.keep (h : PV w wr G G' O q mm D) (hb : Below wr.heap.size wr w2) : PV w w2 G G' (fun k => O k ∨ wr.heap.size ≤ k ∧ k < w2.heap.size) q mm D :=
  h.off (fun k hk _ => hb.block k hk) hb.size hb.os hb.tape hb.output (fun _ z => z)
theorem PV.less (h : PV w wr G G' O q mm D) {O' : Nat → Prop} (hO : ∀ k, O' k → O k) : PV w wr G G' O' q mm D :=
  h.off (fun _ _ _ => rfl) (Nat.le_refl _) rfl rfl rfl (fun k z => .inl (hO k z))
theorem PV.set (h : PV w wr G G' O q mm D) {p : Addr} (hp : O p.block) (v : Value) : PV w (wr.setCell p v) G G' O q mm D := by
  have y := h.oo _ hp
  refine h.off (fun k _ hk2 => Below.heap_setCell _ _ _ _ (fun e => ?_)) (by simp) rfl rfl rfl (fun _ z => .inl z)
  subst e
  exact hk2.elim y.2.2 (fun z => by omega)
theorem PV.grown (h : PV w wr G G' O q mm D) {row : Option Nat} (hg : wr.grownBy w2 row) (hr : ∀ k, row = some k → O k) : PV w w2 G G' (fun k => O k ∨ wr.heap.size ≤ k ∧ k < w2.heap.size) q mm D := by
  refine h.off (fun k hk hk2 => hg.block k hk (fun e => ?_)) hg.size hg.os hg.tape hg.output (fun _ z => z)
  have y := h.oo k (hr k e.symm)
  exact hk2.elim y.2.2 (fun z => by omega)
/-- A block of the loop's own, of no cells, laid since block B: none of the disk's. -/
theorem PV.grownFrom (h : PV w wr G G' O q mm D) {B : Nat} {row : Option Nat} (hg : wr.grownBy w2 row) (hm : mm < B) (hB : w.heap.size ≤ B) (hr : ∀ r, row = some r → B ≤ r ∧ ∃ o : Obj, wr.heap[r]? = some o ∧ o.isCells = false) : PV w w2 G G' O q mm D := by
  refine h.off (fun k hk hk2 => hg.block k hk (fun e => ?_)) hg.size hg.os hg.tape hg.output (fun _ z => .inl z)
  obtain ⟨y1, o, y2, y3⟩ := hr k e.symm
  rcases hk2 with f | z
  · rcases h.tight k f with z | ⟨cs, t, fr, z⟩
    · omega
    · rw [y2] at z
      injection z with z
      rw [z] at y3
      cases y3
  · omega
/-- No block of cells, laid since block B, is the disk's. -/
theorem PV.else (h : PV w wr G G' O q mm D) {B k : Nat} {o : Obj} (hm : mm < B) (hB : B ≤ k) (ho : wr.heap[k]? = some o) (hc : o.isCells = false) : ¬ G' k := fun f => by
  rcases h.tight k f with z | ⟨cs, t, fr, z⟩
  · omega
  · rw [ho] at z
    injection z with z
    rw [z] at hc
    cases hc
theorem PV.add (h : PV w wr G G' O q mm D) {k0 : Nat} (h1 : w.heap.size ≤ k0) (h2 : k0 < wr.heap.size) (h3 : ¬ G' k0) : PV w wr G G' (fun k => O k ∨ k = k0) q mm D :=
  ⟨h.cd, h.go, h.gn, fun k z => z.elim (h.oo k) (fun e => by subst e; exact ⟨h1, h2, h3⟩), h.but, h.tight⟩
theorem PV.disk (h : PV w wr G G' O q mm D) (hr : CDm w2 (Up G' wr.heap.size) q mm D') (hb : But G' wr.heap.size wr w2) : PV w w2 G (fun k => Up G' wr.heap.size k ∧ (k = mm ∨ ∃ cs t fr, w2.heap[k]? = some (.cells cs t fr))) O q mm D' := by
  have zw := h.but.size
  refine ⟨hr.tight, fun k hk => hk.2.elim (fun e => by subst e; exact hr.lt.1) (fun ⟨_, _, _, z⟩ => lt_of_block z), fun k hk f => f.1.elim (h.gn k hk) (fun z => by omega), fun k z => ?_, ?_, fun k hk => hk.2⟩
  · have y := h.oo k z
    exact ⟨y.1, Nat.lt_of_lt_of_le y.2.1 hb.size, fun f => f.1.elim y.2.2 (fun z => by omega)⟩
  · exact ⟨hb.os.trans h.but.os, hb.tape.trans h.but.tape, hb.output.trans h.but.output, Nat.le_trans zw hb.size, fun k hk hf => (hb.block k (by omega) (fun f => hf (h.gn k hk f))).trans (h.but.block k hk hf)⟩
theorem PV.mine (h : PV w wr G G' O q mm D) (hb : But G' wr.heap.size wr w2) {k : Nat} (hk : O k) : w2.heap[k]? = wr.heap[k]? := hb.block k (h.oo k hk).2.1 (h.oo k hk).2.2
theorem PV.old (h : PV w wr G G' O q mm D) {E : Nat → Prop} (hE : ∀ k, E k → k < w.heap.size ∧ ¬ G k) : ∀ k, E k → wr.heap[k]? = w.heap[k]? := fun k e => h.but.block k (hE k e).1 (hE k e).2
end

/-- The mark that a loop over a function leaves among the deferred calls. -/
def mark (D : Nat) : Deferred := { target := .collected D, args := #[] }
/-- The marks' blocks are shut, one behind the other. -/
def shut (w : World) (Ds : List Nat) : World := Ds.foldl (fun w D => w.putObj D (.deferred none)) w
theorem shut_off {w : World} : ∀ {Ds : List Nat} {k : Nat}, k ∉ Ds → (shut w Ds).heap[k]? = w.heap[k]? := by
  intro Ds
  induction Ds generalizing w with
  | nil => intro k _; rfl
  | cons D Ds ih =>
    intro k hk
    show (shut (w.putObj D (.deferred none)) Ds).heap[k]? = _
    rw [ih (fun z => hk (List.mem_cons_of_mem _ z))]
    exact World.putObj_heap_other (fun e => hk (by rw [e]; exact List.mem_cons_self))
theorem shut_same {w : World} : ∀ {Ds : List Nat}, (shut w Ds).heap.size = w.heap.size ∧ (shut w Ds).os = w.os ∧ (shut w Ds).tape = w.tape ∧ (shut w Ds).output = w.output := by
  intro Ds
  induction Ds generalizing w with
  | nil => exact ⟨rfl, rfl, rfl, rfl⟩
  | cons D Ds ih =>
    obtain ⟨h1, h2, h3, h4⟩ := ih (w := w.putObj D (.deferred none))
    exact ⟨h1.trans (by simp), h2, h3, h4⟩
theorem leaves_marks {F : Fence} {n : Nat} {P : Program} {fn : Func} {tmps : Array Value} {R : Ending → World → Prop} {v : Value} :
    ∀ {Ds : List Nat} {w : World}, Ds.Nodup → (∀ D ∈ Ds, w.heap[D]? = some (.deferred (some []))) → (∀ u : World, (results fn tmps).run P u = .ok v u) → R (.returned v) (shut w Ds) → LeavesInM F n P fn tmps R (Ds.map mark) .returning w := by
  intro Ds
  induction Ds with
  | nil => intro w _ _ hv hR; exact ⟨_, hv w, hR⟩
  | cons D Ds ih =>
    intro w hn hD hv hR
    refine ⟨by simp, .inl ⟨D, _, rfl, run_takeDeferred (hD D List.mem_cons_self), ?_⟩⟩
    have hn2 := List.nodup_cons.1 hn
    exact ih hn2.2 (fun D' h' => (World.putObj_heap_other (fun e => hn2.1 (by rw [← e]; exact h'))).trans (hD D' (List.mem_cons_of_mem _ h'))) hv hR
end Go.Proofs.YtpnfpeeijghamaaGreat
