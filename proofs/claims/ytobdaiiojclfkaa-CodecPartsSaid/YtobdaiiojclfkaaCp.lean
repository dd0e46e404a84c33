/- The law CodecParts: the bytes of any parts, and the parts of any kinds that any bytes are. Every input, no condition: the walk. -/
import Derived.Test.YtobdaiiojclfkaaCn
import Derived.Test.YtobdaiiojclfkaaRu
import Derived.Test.YtobdaiiojclfkaaRp
namespace Go.Proofs.Ytobdaiiojclfkaa
open Go.RowKit

theorem refPut_as {A : Option Addr} {c n : Nat} {ms : List MPt} {w : World} {B : Nat} {tp tb : TypeId} {l : List UInt8} (he : Cd.encs (pts ms) = l) (h : PL w B tp tb A ms) (hn : n = ms.length) (hk : ∀ m ∈ ms, m.pt.ok) (hs : l.length + 9 ≤ 100000000000) (hm : ms.length ≤ 100000000000) :
    Calls Try.prog 12 #[.slice A n c] w (BytesOk w.heap.size l w) := by
  have q := refPut_c (c := c) h hn hk (by rw [he]; exact hs) hm
  rw [he] at q
  exact q
theorem refParts_as {A Ak : Option Addr} {n c nk ck : Nat} {b : List UInt8} {ks : List Int} {w : World} {B : Nat} {tb tk : TypeId} {er : Int} (he : errOf ks b = er) (hL : Lies w B tb A (bcells b)) (hn : n = b.length) (hc : b.length ≤ c) (hK : Lies w B tk Ak (ks.map (Value.int .i64))) (hnk : nk = ks.length)
    (hs : b.length ≤ 1099511627776) (hks : ks.length ≤ 1000000000) :
    Calls Try.prog 10 #[.slice A n c, .slice Ak nk ck] w fun e w' => ∃ (ms : List MPt) (A : Option Addr) (nm c : Nat), e = .returned (.tuple #[.slice A nm c, .int .i64 er]) ∧ Hid (nm = ms.length) ∧ Hid (PL w' w'.heap.size 0 0 A ms) ∧ Hid (pts ms = partsOf ks b) ∧ Below w.heap.size w w' := by
  refine (refParts_c (c := c) (ck := ck) hL hn hc hK hnk hs hks).mono ?_
  rintro e w' ⟨ms, A, c, rfl, hp, hpt, hb⟩
  rw [he]
  exact ⟨ms, A, _, c, rfl, rfl, hp.old, hpt, hb⟩
theorem parts_ok {ks : List Int} {b : List UInt8} : ∀ p ∈ partsOf ks b, p.ok := by
  intro p hp
  rcases err_cases ks b with ⟨_, g⟩ | h
  · exact ((Cd.encs_read g).2 p hp).1
  · by_cases q : (Cd.rdPs ks (some b)).2 = some []
    · have := (parts_good q).2
      omega
    · rw [(parts_bad q).1] at hp; cases hp

set_option maxHeartbeats 8000000 in
set_option maxRecDepth 100000 in
theorem codecParts_c {A0 A1 A2 : Option Addr} {c0 c1 c2 n0 n1 n2 : Nat} {ms : List MPt} {b : List UInt8} {ks : List Int} {w : World} (h0 : PL w w.heap.size 0 0 A0 ms) (hk : ∀ m ∈ ms, m.pt.ok) (h1 : Lies w w.heap.size 0 A1 (bcells b)) (hc1 : b.length ≤ c1) (h2 : Lies w w.heap.size 0 A2 (ks.map (Value.int .i64))) (e0 : n0 = ms.length) (e1 : n1 = b.length) (e2 : n2 = ks.length) (hs : n0 ≤ 9223372036854775807) :
    Calls Try.prog 3 #[.slice A0 n0 c0, .slice A1 n1 c1, .slice A2 n2 c2] w fun e w' => e = .returned (.bool true) ∧ Below w.heap.size w w' := by
  have H0 := Lib.hid h0
  have HK := Lib.hid hk
  have H1 := Lib.hid h1
  have H2 := Lib.hid h2
  have E0 := Lib.hid e0
  have E1 := Lib.hid e1
  have E2 := Lib.hid e2
  have HS := Lib.hid hs
  clear h0 hk h1 h2 e0 e1 e2 hs
  cases hf : fewB (pts ms)
  · have HF := Lib.hid hf
    clear hf
    go_enter Try.func3, Try.ntmps3
    go_wp2_with (first
      | (go_at_call 7; refine (awake2_c _).mono ?_; rintro e w1 ⟨rfl, hb1⟩; have HB1 := Lib.hid hb1; clear hb1)
      | (go_at_call 8; refine (few_at HF.out (H0.out.below (Nat.le_refl _) HB1.out) HB1.out.size E0.out HS.out).mono ?_; rintro e w2 ⟨rfl, hb2⟩; have HB2 := Lib.hid (HB1.out.trans (hb2.mono HB1.out.size)); clear hb2))
    all_goals go_ret
    all_goals exact ⟨rfl, HB2.out⟩
  · have hsm := few_small hf
    have HF := Lib.hid hf
    have HSM := Lib.hid hsm
    clear hf hsm
    by_cases big : 500 < n1 ∨ 20 < n2
    · rcases big with big | big
      all_goals
        go_enter Try.func3, Try.ntmps3
        go_wp2_with (first
          | (go_at_call 7; refine (awake2_c _).mono ?_; rintro e w1 ⟨rfl, hb1⟩; have HB1 := Lib.hid hb1; clear hb1)
          | (go_at_call 8; refine (few_at HF.out (H0.out.below (Nat.le_refl _) HB1.out) HB1.out.size E0.out HS.out).mono ?_; rintro e w2 ⟨rfl, hb2⟩; have HB2 := Lib.hid (HB1.out.trans (hb2.mono HB1.out.size)); clear hb2))
        all_goals first
          | (go_ret; exact ⟨rfl, HB2.out⟩)
          | (exfalso; omega)
    · have b1 : n1 ≤ 500 := by omega
      have b2 : n2 ≤ 20 := by omega
      clear big
      obtain ⟨er, her⟩ : ∃ er, errOf ks b = er := ⟨_, rfl⟩
      have HER := Lib.hid her
      clear her
      go_enter Try.func3, Try.ntmps3
      go_wp2_with (first
        | (go_at_call 7; refine (awake2_c _).mono ?_; rintro e w1 ⟨rfl, hb1⟩; have HB1 := Lib.hid hb1; clear hb1)
        | (go_at_call 8; refine (few_at HF.out (H0.out.below (Nat.le_refl _) HB1.out) HB1.out.size E0.out HS.out).mono ?_; rintro e w2 ⟨rfl, hb2⟩; have HB2 := Lib.hid (HB1.out.trans (hb2.mono HB1.out.size)); clear hb2))
      refine (parts_as HER.out (H1.out.below (Nat.le_refl _) HB2.out) E1.out (H2.out.below (Nat.le_refl _) HB2.out) E2.out (by have := E1.out; omega) (by have := E2.out; omega)).mono ?_
      rintro e w3 ⟨xs, Ax, nx, cx, rfl, HNX, HPX, HQX, hb3⟩
      have HB3 := Lib.hid (HB2.out.trans (hb3.mono HB2.out.size))
      clear hb3
      go_wp2_with fail
      refine (refParts_as HER.out (H1.out.below (Nat.le_refl _) HB3.out) E1.out hc1 (H2.out.below (Nat.le_refl _) HB3.out) E2.out (by have := E1.out; omega) (by have := E2.out; omega)).mono ?_
      rintro e w4 ⟨ys, Ay, ny, cy, rfl, HNY, HPY, HQY, hb4⟩
      have HB4 := Lib.hid (HB3.out.trans (hb4.mono HB3.out.size))
      have HPX4 := Lib.hid (HPX.out.below (Nat.le_refl _) hb4)
      have hz34 := hb4.size
      have hz4 := HB4.out.size
      have H04 : Hid (PL w4 w.heap.size 0 0 A0 ms) := H0.out.below (Nat.le_refl _) HB4.out
      have H04d : Hid (PL w4.drew w.heap.size 0 0 A0 ms) := H0.out.below (Nat.le_refl _) HB4.out.drew
      have okx : ∀ m ∈ xs, m.pt.ok := fun m hm => parts_ok m.pt (by rw [← HQX.out]; exact List.mem_map.2 ⟨m, hm, rfl⟩)
      have oky : ∀ m ∈ ys, m.pt.ok := fun m hm => parts_ok m.pt (by rw [← HQY.out]; exact List.mem_map.2 ⟨m, hm, rfl⟩)
      have OKX := Lib.hid okx
      have OKY := Lib.hid oky
      have xl : xs.length ≤ 20 := by
        have q := congrArg List.length HQX.out
        have q2 := parts_len (ks := ks) (b := b)
        have q3 := E2.out
        unfold pts at q
        rw [List.length_map] at q
        omega
      have XL2 : Hid (xs.length ≤ 1000000000) := Nat.le_trans xl (by omega)
      have SV : Hid (Cd.sameL (pts xs) (pts ys) = true) := by unfold Hid; rw [HQX.out, HQY.out]; exact Cd.sameL_refl _
      obtain ⟨l, hl⟩ : ∃ l, Cd.encs (pts ms) = l := ⟨_, rfl⟩
      have ll : l.length ≤ 4180 := by rw [← hl]; exact HSM.out.2.2
      have HL := Lib.hid hl
      have ML : Hid (ms.length ≤ 100000000000) := Nat.le_trans HSM.out.1 (by omega)
      have hee : (er == er) = true := by simp
      clear hb4 okx oky xl hl
      go_wp2_with fail
      go_region_held (fun _ => True) (trivial) (first
        | (go_at_call 11; refine (put_as (l := l) HL.out H04d.out E0.out HK.out (by omega) ML.out).mono ?_; rintro e w5 ⟨Ab, nb, cb, rfl, hob, hb5⟩; have h45 : Below w4.heap.size w4 w5 := ⟨hb5.os, hb5.tape, hb5.output, hb5.size, hb5.block⟩; have hz5 := h45.size; have HNb := (own_room hob).1; have g1 := conv_at (c := cb) (lies_own (B := 0) hob) HNb; have H45 := Lib.hid h45; have HOb := Lib.hid hob; have HNB := Lib.hid HNb; clear h45 hob hb5 HNb)
        | (go_at_call 12; refine (refPut_as (l := l) HL.out (H04.out.below hz4 H45.out) E0.out HK.out (by omega) ML.out).mono ?_; rintro e w6 ⟨Ac, nc, cc, rfl, hoc, hb6⟩; have h46 : Below w4.heap.size w4 w6 := H45.out.trans (hb6.mono hz5); have hz6 := h46.size; have HNc := (own_room hoc).1; have g2 := conv_at (c := cc) (lies_own (B := 0) hoc) HNc; have g3 := conv_at (c := cb) (lies_own (B := 0) (own_below HOb.out hb6)) HNB.out; have H46 := Lib.hid h46; clear h46 hoc hb6 HNc)
        | (go_at_call 13; refine (same_as (B := w4.heap.size) (tp := 0) (tb := 0) (tp2 := 0) (tb2 := 0) SV.out (HPX4.out.below hz34 H46.out |>.more hz34) (HPY.out.below (Nat.le_refl _) H46.out) HNX.out HNY.out OKX.out OKY.out XL2.out).mono ?_; rintro e w7 ⟨rfl, hb7⟩; have H47 := Lib.hid (H46.out.trans (hb7.mono hz6)); clear hb7))
      all_goals go_wp2
      all_goals go_ret
      all_goals exact ⟨ret_bool (by simp), HB4.out.trans (H47.out.mono hz4)⟩
end Go.Proofs.Ytobdaiiojclfkaa
