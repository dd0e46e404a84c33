/- Contract of codec.Parts. -/
import Derived.Test.YtobdaiiojclfkaaPp
namespace Go.Proofs.Ytobdaiiojclfkaa
open Go.RowKit

theorem Try.infoPart : (Try.prog.info? 39).map (fun i => (i.zero, i.size, i.bytes)) = some (some (.agg #[.int .i64 0, .int .u64 0, .int .i64 0, .float .f64 0, .slice none 0 0, .bool false]), 6, 64) := by kernel_rfl

/-- The parts that bytes are. -/
def partsOf (ks : List Int) (b : List UInt8) : List Cd.Pt := if (Cd.rdPs ks (some b)).2 = some [] then (Cd.rdPs ks (some b)).1 else []
def errOf (ks : List Int) (b : List UInt8) : Int := endOf (Cd.rdPs ks (some b)).2

/-- It returned the parts and the error's number, and left all older memory alone. -/
def PartsOk (ks : List Int) (b : List UInt8) (w : World) (e : Ending) (w' : World) : Prop :=
  ∃ (ms : List MPt) (A : Option Addr) (c : Nat), e = .returned (.tuple #[.slice A ms.length c, .int .i64 (errOf ks b)]) ∧ PL w' w.heap.size 39 5 A ms ∧ pts ms = partsOf ks b ∧ Below w.heap.size w w'

theorem parts_bad {ks : List Int} {b : List UInt8} (h : (Cd.rdPs ks (some b)).2 ≠ some []) : partsOf ks b = [] ∧ errOf ks b = 20 := by
  unfold partsOf errOf
  refine ⟨if_neg h, ?_⟩
  match hs : (Cd.rdPs ks (some b)).2, h with
  | none, _ => rfl
  | some [], h => exact absurd rfl h
  | some (x :: t), _ => rfl
theorem parts_good {ks : List Int} {b : List UInt8} (h : (Cd.rdPs ks (some b)).2 = some []) : partsOf ks b = (Cd.rdPs ks (some b)).1 ∧ errOf ks b = 0 := by
  unfold partsOf errOf
  exact ⟨if_pos h, by rw [h]; rfl⟩
theorem rest_le {ks : List Int} {b r : List UInt8} (h : (Cd.rdPs ks (some b)).2 = some r) : r.length ≤ b.length := by
  have q := (Cd.encs_read (ks := ks) (ps := (Cd.rdPs ks (some b)).1) (l := b) (t := r) (Cd.pair_of h)).1
  rw [q, List.length_append]; omega

theorem cells_one (m : MPt) : ∀ u ∈ m.cells, u.oneCell' = true := by
  intro u hu
  exact flat_one [m] u (by simpa [flat] using hu)
theorem lies_part (w : World) (m : MPt) {o : Obj} {g : Nat} (hg : g = w.heap.size + 1 := by simp) : Lies ((w.alloc o).alloc (.cells m.cells.toArray 39)) 0 39 (some ⟨g, 0, none⟩) m.cells := by
  subst hg
  exact Lies.of_blk (heap_alloc2_new w _ _)

set_option maxHeartbeats 4000000 in
set_option maxRecDepth 100000 in
theorem parts_c {A Ak : Option Addr} {n c nk ck : Nat} {b : List UInt8} {ks : List Int} {w : World} {B : Nat} {tb tk : TypeId} (hL : Lies w B tb A (bcells b)) (hn : n = b.length) (hK : Lies w B tk Ak (ks.map (Value.int .i64))) (hnk : nk = ks.length)
    (hs : b.length ≤ 1099511627776) (hks : ks.length ≤ 1000000000) :
    Calls Try.prog 9 #[.slice A n c, .slice Ak nk ck] w (PartsOk ks b w) := by
  have HL := Lib.hid (hL.old (t' := 0))
  have HK := Lib.hid (hK.old (t' := 0))
  clear hL hK
  subst hn
  subst hnk
  obtain ⟨i0, hi, iz0, iz1, iz2⟩ := info_parts Try.infoPart
  go_enter Try.func9, Try.ntmps9
  go_wp2_with fail
  refine (read_c HL.out (Nat.le_refl _) rfl hs).mono ?_
  rintro e w0 ⟨p, rfl, hr, hb0⟩
  have HR0 := Lib.hid hr
  clear hr
  go_wp2_with fail
  go_loopw [7, 16] (fun l i wr => ∃ (k : Nat) (A1 : Option Addr) (n1 c1 : Nat) (ms : List MPt) (rest : List UInt8), k ≤ ks.length ∧ i = .int .i64 k ∧ l = .slice A1 n1 c1 ∧ wr.ownsRow w.heap.size 39 6 (.slice A1 n1 c1) ms.length (flat ms) ∧
      (∀ m ∈ ms, wr.ownsRow w.heap.size 5 1 (.slice m.A m.pt.b.length m.c) m.pt.b.length (bcells m.pt.b)) ∧ pts ms = (Cd.rdPs (ks.take k) (some b)).1 ∧ (Cd.rdPs (ks.take k) (some b)).2 = some rest ∧ RS 74 w.heap.size 5 wr p (some rest) ∧ Below w.heap.size w wr)
    (fun _ i _ => ks.length - (intOf i).toNat)
  case atStart => exact ⟨0, none, 0, 0, [], b, by omega, rfl, rfl, World.ownsRow_nil _ _ _ _, by simp, rfl, rfl, HR0.out, hb0⟩
  case round =>
    obtain ⟨k, A1, n1, c1, ms, rest, hk, rfl, rfl, ho, hall, hp, hrest, hr, hb⟩ := hrel
    obtain ⟨rfl, _⟩ := own_room ho
    have hml : ms.length = k := by
      have := congrArg List.length hp
      rw [Cd.rdPs_len, List.length_take, Nat.min_eq_left hk] at this
      simpa [pts] using this
    have ML := Lib.hid hml
    have HO := Lib.hid ho
    have HA := Lib.hid hall
    have HP := Lib.hid hp
    have HE := Lib.hid hrest
    have HR := Lib.hid hr
    have HB := Lib.hid hb
    have hbs := hb.size
    have rl := rest_le hrest
    clear ho hall hp hrest hr hb hml
    by_cases hlt : k < ks.length
    · obtain ⟨ad, x, rfl, hx, d0⟩ := (HK.out.below (Nat.le_refl _) HB.out).int hlt
      have HX := Lib.hid hx
      clear hx
      have hsn := Cd.rdPs_snoc (ks.take k) x (some b)
      rw [← take_next HX.out, HE.out] at hsn
      have HSN := Lib.hid hsn
      clear hsn
      go_wp2_with fail
      refine (part_rd HR.out (by decide) (by decide) (by intro l e; injection e with e; subst e; omega)).mono ?_
      rintro e w1 ⟨m, rfl, hm, hown, hr2, hT⟩
      have HM := Lib.hid hm
      have hz1 := hT.size
      have HOm := Lib.hid (own_less hown hbs)
      have HT := Lib.hid hT
      clear hm hown hT
      cases hs2 : (Cd.rdP x (some rest)).2 with
      | none =>
        rw [hs2] at hr2
        have HR2 := Lib.hid hr2
        have hbad : (Cd.rdPs ks (some b)).2 ≠ some [] := by
          have q : (Cd.rdPs (ks.take (k + 1)) (some b)).2 = none := by rw [HSN.out]; exact hs2
          have q2 := Cd.rdPs_fail (js := ks.drop (k + 1)) q
          rw [List.take_append_drop] at q2
          rw [q2]; simp
        have BAD := Lib.hid (parts_bad hbad)
        clear hr2 hs2 hbad
        go_wp2_with (first | (go_at_call 33; refine (failed_yes (HR2.out.alloc _)).mono ?_; rintro e w' ⟨rfl, rfl⟩) | (go_at_call 30; refine (end_rd (HR2.out.alloc _)).mono ?_; rintro e w' ⟨rfl, rfl⟩))
        go_ret2
        exact ⟨[], none, 0, by rw [BAD.out.2]; rfl, PL.nil, by rw [BAD.out.1]; rfl, (HB.out.trans HT.out.below).alloc (by omega) _⟩
      | some rest2 =>
        rw [hs2] at hr2
        have HR2 := Lib.hid hr2
        have HS2 := Lib.hid hs2
        have own1 := (((own_tch HO.out HT.out (by decide)).alloc (.cells m.cells.toArray 39)).alloc (.cells m.cells.toArray 39))
        have O1 := Lib.hid own1
        clear hr2 hs2 own1
        go_wp2_with (first | (go_at_call 33; refine (failed_no (HR2.out.alloc _)).mono ?_; rintro e w' ⟨rfl, rfl⟩) | (at_builtin; refine wpList_app _ rfl _ _ 22 rfl w.heap.size 39 i0 _ 6 64 Try.underlying22 hi iz0 iz1 iz2 rfl (by decide) _ ms.length (flat ms) rfl O1.out 0 _ 1 1 m.cells 39 rfl rfl (lies_part w1 m) (cells_one m) (by unfold maxLen; have := ML.out; omega) (by have := ML.out; omega) (by simp; omega) ?_))
        intro v' w2 hown' hgrow _
        obtain ⟨A2, k2, rfl⟩ := own_slice hown'
        have T2 := grown_tch (B := w.heap.size) (ts := [39]) O1.out hgrow (Nat.le_refl _) (by simp; omega) (by decide)
        have HT2 := Lib.hid T2
        have O2 := Lib.hid hown'
        clear hown' hgrow T2
        go_wp2
        go_roundw
        case rel =>
          refine ⟨k + 1, A2, _, k2, ms ++ [m], rest2, by omega, by go_num, rfl, ?_, ?_, ?_, ?_, ?_, ?_⟩
          · rw [flat_snoc, List.length_append]; exact O2.out
          · intro q hq
            rw [List.mem_append, List.mem_singleton] at hq
            refine own_tch (((?_ : w1.ownsRow _ _ _ _ _ _).alloc _).alloc _) HT2.out (by decide)
            rcases hq with hq | rfl
            · exact own_tch (HA.out q hq) HT.out (by decide)
            · exact HOm.out
          · rw [HSN.out, ← HP.out, ← HM.out]; simp [pts]
          · rw [HSN.out]; exact HS2.out
          · exact ((HR2.out.alloc _).alloc _).tch HT2.out (by decide) (by decide)
          · exact (((HB.out.trans HT.out.below).alloc (by omega) _).alloc (by simp; omega) _).trans HT2.out.below
        case measure => simp [intOf]; omega
    · obtain rfl : k = ks.length := by omega
      have hp := HP.out
      have he := HE.out
      rw [List.take_length] at hp he
      match rest, HR, he with
      | [], HR, he =>
        have G := Lib.hid (parts_good he)
        have HP2 := Lib.hid hp
        clear he hp
        go_wp2_with (go_at_call 30; refine (end_rd HR.out).mono ?_; rintro e w' ⟨rfl, rfl⟩)
        go_ret2
        refine ⟨ms, A1, c1, by rw [G.out.2]; rfl, ⟨Lies.of_own HO.out, fun m hm => ⟨Lies.of_own (HA.out m hm), (own_room (HA.out m hm)).2⟩⟩, by rw [G.out.1]; exact HP2.out, HB.out⟩
      | y :: t, HR, he =>
        have G := Lib.hid (parts_bad (ks := ks) (b := b) (by rw [he]; simp))
        clear he hp
        go_wp2_with (go_at_call 30; refine (end_rd HR.out).mono ?_; rintro e w' ⟨rfl, rfl⟩)
        go_ret2
        exact ⟨[], none, 0, by rw [G.out.2]; rfl, PL.nil, by rw [G.out.1]; rfl, HB.out⟩
end Go.Proofs.Ytobdaiiojclfkaa
