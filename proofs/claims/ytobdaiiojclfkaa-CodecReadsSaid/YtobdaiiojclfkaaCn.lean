/- The law CodecOnce: two lists of bytes that are read as the same parts are the same. Every input, no condition: the walk. -/
import Derived.Test.YtobdaiiojclfkaaCk
import Derived.Deep.RegionHeld3
namespace Go.Proofs.Ytobdaiiojclfkaa
open Go.RowKit

theorem dec_beq (b c : List UInt8) : (decide (b = c) == (b == c)) = true := by
  by_cases h : b = c
  · subst h; simp
  · have : (b == c) = false := by simpa using h
    rw [this]; simp [h]
theorem put_as {A : Option Addr} {c n : Nat} {ms : List MPt} {w : World} {B : Nat} {tp tb : TypeId} {l : List UInt8} (he : Cd.encs (pts ms) = l) (h : PL w B tp tb A ms) (hn : n = ms.length) (hk : ∀ m ∈ ms, m.pt.ok) (hs : l.length + 9 ≤ 100000000000) (hm : ms.length ≤ 100000000000) :
    Calls Try.prog 11 #[.slice A n c] w (BytesOk w.heap.size l w) := by
  have q := put_c (c := c) h hn hk (by rw [he]; exact hs) hm
  rw [he] at q
  exact q
theorem same_as {A A2 : Option Addr} {n c n2 c2 : Nat} {ms ms2 : List MPt} {w : World} {B : Nat} {tp tb tp2 tb2 : TypeId} {v : Bool} (hv : Cd.sameL (pts ms) (pts ms2) = v) (h : PL w B tp tb A ms) (h2 : PL w B tp2 tb2 A2 ms2) (hn : n = ms.length) (hn2 : n2 = ms2.length)
    (hk : ∀ m ∈ ms, m.pt.ok) (hk2 : ∀ m ∈ ms2, m.pt.ok) (hl : ms.length ≤ 1000000000) :
    Calls Try.prog 13 #[.slice A n c, .slice A2 n2 c2] w fun e w' => e = .returned (.bool v) ∧ Below w.heap.size w w' := by
  have q := sameParts_c (c := c) (c2 := c2) h h2 hn hn2 hk hk2 hl
  rw [hv] at q
  exact q
theorem err_cases (ks : List Int) (b : List UInt8) : (errOf ks b = 0 ∧ Cd.rdPs ks (some b) = (partsOf ks b, some [])) ∨ errOf ks b = 20 := by
  by_cases h : (Cd.rdPs ks (some b)).2 = some []
  · have g := parts_good h
    exact Or.inl ⟨g.2, by rw [g.1]; exact Cd.pair_of h⟩
  · exact Or.inr (parts_bad h).2
theorem parts_as {A Ak : Option Addr} {n c nk ck : Nat} {b : List UInt8} {ks : List Int} {w : World} {B : Nat} {tb tk : TypeId} {er : Int} (he : errOf ks b = er) (hL : Lies w B tb A (bcells b)) (hn : n = b.length) (hK : Lies w B tk Ak (ks.map (Value.int .i64))) (hnk : nk = ks.length)
    (hs : b.length ≤ 1099511627776) (hks : ks.length ≤ 1000000000) :
    Calls Try.prog 9 #[.slice A n c, .slice Ak nk ck] w fun e w' => ∃ (ms : List MPt) (A : Option Addr) (nm c : Nat), e = .returned (.tuple #[.slice A nm c, .int .i64 er]) ∧ Hid (nm = ms.length) ∧ Hid (PL w' w'.heap.size 0 0 A ms) ∧ Hid (pts ms = partsOf ks b) ∧ Below w.heap.size w w' := by
  refine (parts_c (c := c) (ck := ck) hL hn hK hnk hs hks).mono ?_
  rintro e w' ⟨ms, A, c, rfl, hp, hpt, hb⟩
  rw [he]
  exact ⟨ms, A, _, c, rfl, rfl, hp.old, hpt, hb⟩
theorem parts_len {ks : List Int} {b : List UInt8} : (partsOf ks b).length ≤ ks.length := by
  unfold partsOf
  split
  · rw [Cd.rdPs_len]; exact Nat.le_refl _
  · simp
/-- The string that bytes in old memory come to, in this world. -/
theorem conv_at {w : World} {B : Nat} {tb : TypeId} {A : Option Addr} {n c : Nat} {l : List UInt8} (hL : Lies w B tb A (bcells l)) (hn : n = l.length) :
    (convert 23 9 (.slice A n c)).run Try.prog w = .ok (.string (str l)) w :=
  run_conv w _ _ 5 Try.underlying23 Try.underlying5 Try.underlying9 (B := B) (t := tb) A n c l hn hL

set_option maxHeartbeats 8000000 in
set_option maxRecDepth 100000 in
theorem codecOnce_c {A0 A1 A2 : Option Addr} {c0 c1 c2 n0 n1 n2 : Nat} {b c : List UInt8} {ks : List Int} {w : World} (h0 : Lies w w.heap.size 0 A0 (bcells b)) (h1 : Lies w w.heap.size 0 A1 (bcells c)) (h2 : Lies w w.heap.size 0 A2 (ks.map (Value.int .i64))) (e0 : n0 = b.length) (e1 : n1 = c.length) (e2 : n2 = ks.length) :
    Calls Try.prog 5 #[.slice A0 n0 c0, .slice A1 n1 c1, .slice A2 n2 c2] w fun e w' => e = .returned (.bool true) ∧ Below w.heap.size w w' := by
  have H0 := Lib.hid h0
  have H1 := Lib.hid h1
  have H2 := Lib.hid h2
  have E0 := Lib.hid e0
  have E1 := Lib.hid e1
  have E2 := Lib.hid e2
  clear h0 h1 h2 e0 e1 e2
  by_cases big : 500 < n0 ∨ 500 < n1 ∨ 20 < n2
  · rcases big with big | big | big
    all_goals
      go_enter Try.func5, Try.ntmps5
      go_wp2_with (go_at_call 7; refine (awake2_c _).mono ?_; rintro e w1 ⟨rfl, hb1⟩; have HB1 := Lib.hid hb1; clear hb1)
      all_goals first
        | (go_ret; exact ⟨rfl, HB1.out⟩)
        | (exfalso; omega)
  · have b0 : n0 ≤ 500 := by omega
    have b1 : n1 ≤ 500 := by omega
    have b2 : n2 ≤ 20 := by omega
    clear big
    have goodB := err_cases ks b
    have goodC := err_cases ks c
    rcases goodB with ⟨xb, gb⟩ | xb
    · have XB := Lib.hid xb
      have GB := Lib.hid gb
      clear xb gb
      rcases goodC with ⟨xc, gc⟩ | xc
      · have XC := Lib.hid xc
        have GC := Lib.hid gc
        clear xc gc
        go_enter Try.func5, Try.ntmps5
        go_wp2_with (go_at_call 7; refine (awake2_c _).mono ?_; rintro e w1 ⟨rfl, hb1⟩; have HB1 := Lib.hid hb1; have hz1 := hb1.size; clear hb1)
        refine (parts_as XB.out (H0.out.below (Nat.le_refl _) HB1.out) E0.out (H2.out.below (Nat.le_refl _) HB1.out) E2.out (by have := E0.out; omega) (by have := E2.out; omega)).mono ?_
        rintro e w2 ⟨xs, Ax, nx, cx, rfl, HNX, HPX, HQX, hb2⟩
        have HB2 := Lib.hid (HB1.out.trans (hb2.mono hz1))
        have hz2 := hb2.size
        clear hb2
        go_wp2_with fail
        refine (parts_as XC.out (H1.out.below (Nat.le_refl _) HB2.out) E1.out (H2.out.below (Nat.le_refl _) HB2.out) E2.out (by have := E1.out; omega) (by have := E2.out; omega)).mono ?_
        rintro e w3 ⟨ys, Ay, ny, cy, rfl, HNY, HPY, HQY, hb3⟩
        have HB3 := Lib.hid (HB2.out.trans (hb3.mono (by omega)))
        have HPX3 := Lib.hid (HPX.out.below (Nat.le_refl _) hb3)
        have hz3 := hb3.size
        clear hb3
        have hz3' : w.heap.size ≤ w3.heap.size := by omega
        have HPX3d : Hid (PL w3.drew w2.heap.size 0 0 Ax xs) := HPX3.out
        have hz23 : w2.heap.size ≤ w3.heap.size := hz3
        have eb : Cd.encs (pts xs) = b := by
          have q := (Cd.encs_read GB.out).1
          rw [List.append_nil] at q
          rw [HQX.out, ← q]
        have EB := Lib.hid eb
        have okx : ∀ m ∈ xs, m.pt.ok := fun m hm => ((Cd.encs_read GB.out).2 m.pt (by rw [← HQX.out]; exact List.mem_map.2 ⟨m, hm, rfl⟩)).1
        have oky : ∀ m ∈ ys, m.pt.ok := fun m hm => ((Cd.encs_read GC.out).2 m.pt (by rw [← HQY.out]; exact List.mem_map.2 ⟨m, hm, rfl⟩)).1
        have OKX := Lib.hid okx
        have OKY := Lib.hid oky
        have xl : xs.length ≤ 20 := by
          have q := congrArg List.length HQX.out
          have q2 := parts_len (ks := ks) (b := b)
          have q3 := E2.out
          unfold pts at q
          rw [List.length_map] at q
          omega
        have XL : Hid (xs.length ≤ 100000000000) := Nat.le_trans xl (by omega)
        have XL2 : Hid (xs.length ≤ 1000000000) := Nat.le_trans xl (by omega)
        have sv : Cd.sameL (pts xs) (pts ys) = decide (b = c) := by rw [HQX.out, HQY.out]; exact Cd.once GB.out GC.out
        have a1 := conv_at (c := c0) (H0.out.below (Nat.le_refl _) HB3.out.drew) E0.out
        clear eb okx oky xl
        have a2 := conv_at (c := c1) (H1.out.below (Nat.le_refl _) HB3.out.drew) E1.out
        have SV := Lib.hid sv
        clear sv
        go_wp2_with fail
        go_region_held (fun w' => (convert 23 9 (.slice A0 n0 c0)).run Try.prog w' = .ok (.string (str b)) w' ∧ (convert 23 9 (.slice A1 n1 c1)).run Try.prog w' = .ok (.string (str c)) w') (first | exact ⟨a1, a2⟩ | exact ⟨g3, g5⟩ | exact ⟨g7, g9⟩) (first | (go_at_call 11; (refine (put_as (l := b) (B := w2.heap.size) (tp := 0) (tb := 0) EB.out HPX3d.out HNX.out OKX.out (by have := E0.out; omega) XL.out).mono ?_); rintro e w6 ⟨Ab, nb, cb, rfl, hob, hb6⟩; have h36 : Below w3.heap.size w3 w6 := ⟨hb6.os, hb6.tape, hb6.output, hb6.size, hb6.block⟩; have hz6 := h36.size; have HNb := (own_room hob).1; have g1 := conv_at (c := cb) (lies_own (B := 0) hob) HNb; have g3 := conv_at (c := c0) (H0.out.below (Nat.le_refl _) (HB3.out.trans (h36.mono hz3'))) E0.out; have g5 := conv_at (c := c1) (H1.out.below (Nat.le_refl _) (HB3.out.trans (h36.mono hz3'))) E1.out; have H36 := Lib.hid h36; clear h36 hob hb6 HNb) | (go_at_call 13; (refine (same_as (B := w3.heap.size) (tp := 0) (tb := 0) (tp2 := 0) (tb2 := 0) SV.out (HPX3.out.below hz23 H36.out |>.more hz23) (HPY.out.below (Nat.le_refl _) H36.out) HNX.out HNY.out OKX.out OKY.out XL2.out).mono ?_); rintro e w7 ⟨rfl, hb7⟩; have h37 : Below w3.heap.size w3 w7 := H36.out.trans ((⟨hb7.os, hb7.tape, hb7.output, hb7.size, hb7.block⟩ : Below w6.heap.size w6 w7).mono hz6); have g7 := conv_at (c := c0) (H0.out.below (Nat.le_refl _) (HB3.out.trans (h37.mono hz3'))) E0.out; have g9 := conv_at (c := c1) (H1.out.below (Nat.le_refl _) (HB3.out.trans (h37.mono hz3'))) E1.out; have H37 := Lib.hid h37; clear h37 hb7))
        go_wp2
        go_ret
        exact ⟨ret_bool (dec_beq b c), HB3.out.trans (H37.out.mono hz3')⟩
      · have XC := Lib.hid xc
        clear xc
        go_enter Try.func5, Try.ntmps5
        go_wp2_with (go_at_call 7; refine (awake2_c _).mono ?_; rintro e w1 ⟨rfl, hb1⟩; have HB1 := Lib.hid hb1; have hz1 := hb1.size; clear hb1)
        refine (parts_as XB.out (H0.out.below (Nat.le_refl _) HB1.out) E0.out (H2.out.below (Nat.le_refl _) HB1.out) E2.out (by have := E0.out; omega) (by have := E2.out; omega)).mono ?_
        rintro e w2 ⟨xs, Ax, nx, cx, rfl, HNX, HPX, HQX, hb2⟩
        have HB2 := Lib.hid (HB1.out.trans (hb2.mono hz1))
        have hz2 := hb2.size
        clear hb2
        go_wp2_with fail
        refine (parts_as XC.out (H1.out.below (Nat.le_refl _) HB2.out) E1.out (H2.out.below (Nat.le_refl _) HB2.out) E2.out (by have := E1.out; omega) (by have := E2.out; omega)).mono ?_
        rintro e w3 ⟨ys, Ay, ny, cy, rfl, HNY, HPY, HQY, hb3⟩
        have HB3 := Lib.hid (HB2.out.trans (hb3.mono (by omega)))
        have HPX3 := Lib.hid (HPX.out.below (Nat.le_refl _) hb3)
        have hz3 := hb3.size
        clear hb3
        go_wp2
        go_ret
        exact ⟨rfl, HB3.out⟩
    · have XB := Lib.hid xb
      clear xb
      rcases goodC with ⟨xc, gc⟩ | xc
      · have XC := Lib.hid xc
        clear xc gc
        go_enter Try.func5, Try.ntmps5
        go_wp2_with (go_at_call 7; refine (awake2_c _).mono ?_; rintro e w1 ⟨rfl, hb1⟩; have HB1 := Lib.hid hb1; have hz1 := hb1.size; clear hb1)
        refine (parts_as XB.out (H0.out.below (Nat.le_refl _) HB1.out) E0.out (H2.out.below (Nat.le_refl _) HB1.out) E2.out (by have := E0.out; omega) (by have := E2.out; omega)).mono ?_
        rintro e w2 ⟨xs, Ax, nx, cx, rfl, HNX, HPX, HQX, hb2⟩
        have HB2 := Lib.hid (HB1.out.trans (hb2.mono hz1))
        have hz2 := hb2.size
        clear hb2
        go_wp2_with fail
        refine (parts_as XC.out (H1.out.below (Nat.le_refl _) HB2.out) E1.out (H2.out.below (Nat.le_refl _) HB2.out) E2.out (by have := E1.out; omega) (by have := E2.out; omega)).mono ?_
        rintro e w3 ⟨ys, Ay, ny, cy, rfl, HNY, HPY, HQY, hb3⟩
        have HB3 := Lib.hid (HB2.out.trans (hb3.mono (by omega)))
        have HPX3 := Lib.hid (HPX.out.below (Nat.le_refl _) hb3)
        have hz3 := hb3.size
        clear hb3
        go_wp2
        go_ret
        exact ⟨rfl, HB3.out⟩
      · have XC := Lib.hid xc
        clear xc
        go_enter Try.func5, Try.ntmps5
        go_wp2_with (go_at_call 7; refine (awake2_c _).mono ?_; rintro e w1 ⟨rfl, hb1⟩; have HB1 := Lib.hid hb1; have hz1 := hb1.size; clear hb1)
        refine (parts_as XB.out (H0.out.below (Nat.le_refl _) HB1.out) E0.out (H2.out.below (Nat.le_refl _) HB1.out) E2.out (by have := E0.out; omega) (by have := E2.out; omega)).mono ?_
        rintro e w2 ⟨xs, Ax, nx, cx, rfl, HNX, HPX, HQX, hb2⟩
        have HB2 := Lib.hid (HB1.out.trans (hb2.mono hz1))
        have hz2 := hb2.size
        clear hb2
        go_wp2_with fail
        refine (parts_as XC.out (H1.out.below (Nat.le_refl _) HB2.out) E1.out (H2.out.below (Nat.le_refl _) HB2.out) E2.out (by have := E1.out; omega) (by have := E2.out; omega)).mono ?_
        rintro e w3 ⟨ys, Ay, ny, cy, rfl, HNY, HPY, HQY, hb3⟩
        have HB3 := Lib.hid (HB2.out.trans (hb3.mono (by omega)))
        have HPX3 := Lib.hid (HPX.out.below (Nat.le_refl _) hb3)
        have hz3 := hb3.size
        clear hb3
        go_wp2
        go_ret
        exact ⟨rfl, HB3.out⟩
end Go.Proofs.Ytobdaiiojclfkaa
