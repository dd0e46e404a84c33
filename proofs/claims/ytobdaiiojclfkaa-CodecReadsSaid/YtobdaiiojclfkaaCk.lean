/- The law CodecBack: what is written is read as it was, floats with one NaN and one nought. Every input, no condition: the walk. -/
import Derived.Test.YtobdaiiojclfkaaAw
import Derived.Test.YtobdaiiojclfkaaKo
import Derived.Test.YtobdaiiojclfkaaSp
import Derived.Test.YtobdaiiojclfkaaOpn
import Derived.Test.YtobdaiiojclfkaaRp
namespace Go.Proofs.Ytobdaiiojclfkaa
open Go.RowKit

theorem few_at {A : Option Addr} {c n : Nat} {ms : List MPt} {w : World} {B : Nat} {tp tb : TypeId} {b : Bool} (hb : fewB (pts ms) = b) (h : PL w B tp tb A ms) (hB : B ≤ w.heap.size) (hn : n = ms.length) (hs : n ≤ 9223372036854775807) :
    Calls Try.prog 8 #[.slice A n c] w fun e w' => e = .returned (.bool b) ∧ Below w.heap.size w w' := by
  have q := few_c (c := c) h hB hn hs
  rw [hb] at q
  exact q
theorem known_at {A : Option Addr} {c n : Nat} {ms : List MPt} {w : World} {B : Nat} {tp tb : TypeId} {b : Bool} (hb : knownB (pts ms) = b) (h : PL w B tp tb A ms) (hn : n = ms.length) (hs : n ≤ 1000000000000) :
    Calls Try.prog 14 #[.slice A n c] w fun e w' => e = .returned (.bool b) ∧ Below w.heap.size w w' := by
  have q := known_c (c := c) h hn hs
  rw [hb] at q
  exact q
theorem lies_own {w : World} {B base : Nat} {t : TypeId} {A : Option Addr} {size m n c : Nat} {xs : List Value} (h : w.ownsRow base t size (.slice A m c) n xs) : Lies w B t A xs := by
  obtain ⟨rfl, _⟩ := own_room h
  exact Lies.of_own h
theorem own_ok {p : Cd.Pt} (h : p.ok) : (Cd.own p).ok := by
  have a := h.n0
  have b := h.n1
  have c := h.i0
  have d := h.i1
  have f := Fl.canon_lt h.f1
  unfold Cd.own
  repeat' split
  · exact Cd.okN a b
  · exact Cd.okI c d
  · exact Cd.okF f
  · exact Cd.okB
  · exact Cd.okG
  · exact Cd.okG (g := false)
theorem own_bytes (p : Cd.Pt) : (Cd.own p).b = [] ∨ (Cd.own p).b = p.b := by
  unfold Cd.own
  repeat' split
  all_goals first | exact Or.inl rfl | exact Or.inr rfl

set_option maxHeartbeats 4000000 in
set_option maxRecDepth 100000 in
theorem codecBack_c {A : Option Addr} {c n : Nat} {ms : List MPt} {w : World} (h : PL w w.heap.size 0 0 A ms) (hk : ∀ m ∈ ms, m.pt.ok) (hn : n = ms.length) (hs : n ≤ 9223372036854775807) :
    Calls Try.prog 4 #[.slice A n c] w fun e w' => e = .returned (.bool true) ∧ Below w.heap.size w w' := by
  have HP := Lib.hid h
  have HK := Lib.hid hk
  clear h hk
  subst hn
  cases hf : fewB (pts ms)
  · have HF := Lib.hid hf
    clear hf
    go_enter Try.func4, Try.ntmps4
    go_wp2_with (go_at_call 7; refine (awake2_c _).mono ?_; rintro e w1 ⟨rfl, hb1⟩; have HB1 := Lib.hid hb1; clear hb1)
    refine (few_at HF.out (HP.out.below (Nat.le_refl _) HB1.out) HB1.out.size rfl hs).mono ?_
    rintro e w2 ⟨rfl, hb2⟩
    have HB2 := Lib.hid (HB1.out.trans (hb2.mono HB1.out.size))
    clear hb2
    go_wp2
    go_ret
    exact ⟨rfl, HB2.out⟩
  · have hsm := few_small hf
    have HF := Lib.hid hf
    have s1 := hsm.1
    have HSM := Lib.hid hsm
    clear hf hsm
    cases hkn : knownB (pts ms)
    · have HKN := Lib.hid hkn
      clear hkn
      go_enter Try.func4, Try.ntmps4
      go_wp2_with (go_at_call 7; refine (awake2_c _).mono ?_; rintro e w1 ⟨rfl, hb1⟩; have HB1 := Lib.hid hb1; clear hb1)
      refine (few_at HF.out (HP.out.below (Nat.le_refl _) HB1.out) HB1.out.size rfl hs).mono ?_
      rintro e w2 ⟨rfl, hb2⟩
      have HB2 := Lib.hid (HB1.out.trans (hb2.mono HB1.out.size))
      clear hb2
      go_wp2_with fail
      refine (known_at HKN.out (HP.out.below (Nat.le_refl _) HB2.out) rfl (by omega)).mono ?_
      rintro e w3 ⟨rfl, hb3⟩
      have HB3 := Lib.hid (HB2.out.trans (hb3.mono HB2.out.size))
      clear hb3
      go_wp2
      go_ret
      exact ⟨rfl, HB3.out⟩
    · have HKN := Lib.hid hkn
      clear hkn
      obtain ⟨i0, hi, iz0, iz1, iz2⟩ := info_parts Try.infoPart
      go_enter Try.func4, Try.ntmps4
      go_wp2_with (go_at_call 7; refine (awake2_c _).mono ?_; rintro e w1 ⟨rfl, hb1⟩; have HB1 := Lib.hid hb1; clear hb1)
      refine (few_at HF.out (HP.out.below (Nat.le_refl _) HB1.out) HB1.out.size rfl hs).mono ?_
      rintro e w2 ⟨rfl, hb2⟩
      have HB2 := Lib.hid (HB1.out.trans (hb2.mono HB1.out.size))
      clear hb2
      go_wp2_with fail
      refine (known_at HKN.out (HP.out.below (Nat.le_refl _) HB2.out) rfl (by omega)).mono ?_
      rintro e w3 ⟨rfl, hb3⟩
      have HB3 := Lib.hid (HB2.out.trans (hb3.mono HB2.out.size))
      clear hb3
      go_wp2_with fail
      go_loopw [3, 20] (fun l i wr => ∃ (k : Nat) (A1 : Option Addr) (c1 : Nat) (ws : List MPt), k ≤ ms.length ∧ i = .int .i64 k ∧ l = .slice A1 k c1 ∧ ws.length = k ∧ wr.ownsRow w.heap.size 39 6 (.slice A1 k c1) k (flat ws) ∧ (∀ m ∈ ws, m.fine wr w.heap.size 0) ∧ pts ws = (pts (ms.take k)).map Cd.own ∧ Below w.heap.size w wr)
        (fun _ i _ => ms.length - (intOf i).toNat)
      case atStart => exact ⟨0, none, 0, [], by omega, rfl, rfl, rfl, World.ownsRow_nil _ _ _ _, by simp, rfl, HB3.out⟩
      case round =>
        obtain ⟨k, A1, c1, ws, hk, rfl, rfl, hwl, ho, hfine, hpw, hb⟩ := hrel
        have HWL := Lib.hid hwl
        have HO := Lib.hid ho
        have HFI := Lib.hid hfine
        have HPW := Lib.hid hpw
        have HB := Lib.hid hb
        have hbs := hb.size
        clear hwl ho hfine hpw hb
        by_cases hlt : k < ms.length
        · obtain ⟨ad, m, rfl, hm', hfm, d0, d1, d2, d3, d4, d5⟩ := (HP.out.below (Nat.le_refl _) HB.out).at_ hlt
          have HM := Lib.hid hm'
          have HFM := Lib.hid hfm
          clear hm' hfm
          go_wp2_with fail
          refine (own_c m _).mono ?_
          rintro e w4 ⟨m', rfl, hpt, hdis, hb4⟩
          have hz4 := hb4.size
          simp at hz4
          have HPT := Lib.hid hpt
          have HDI := Lib.hid hdis
          have HB4 := Lib.hid hb4
          clear hpt hdis hb4
          go_wp2_with (at_builtin; refine wpList_app _ rfl _ _ 22 rfl w.heap.size 39 i0 _ 6 64 Try.underlying22 hi iz0 iz1 iz2 rfl (by decide) _ k (flat ws) rfl ((own_below (HO.out.alloc _) HB4.out).alloc _) 0 _ 1 1 m'.cells 39 rfl rfl (lies_part1 w4 m') (cells_one m') (by unfold maxLen; omega) (by omega) (by simp; omega) ?_)
          intro v' w5 hown' hgrow _
          obtain ⟨A2, k2, rfl⟩ := own_slice hown'
          have T2 := grown_tch (B := w.heap.size) (ts := [39]) ((own_below (HO.out.alloc _) HB4.out).alloc _) hgrow (Nat.le_refl _) (by simp; omega) (by decide)
          have HT2 := Lib.hid T2
          have O2 := Lib.hid hown'
          clear hown' hgrow T2
          go_wp2
          go_roundw
          case rel =>
            refine ⟨k + 1, A2, k2, ws ++ [m'], by omega, by go_num, rfl, by simp [HWL.out], ?_, ?_, ?_, ?_⟩
            · rw [flat_snoc]; exact O2.out
            · intro q hq
              rw [List.mem_append, List.mem_singleton] at hq
              have keep : ∀ {q : MPt}, q.fine wr w.heap.size 0 → q.fine w5 w.heap.size 0 := fun {q} hq => by
                have a1 := hq.1.alloc hbs (.cells m.cells.toArray 39)
                have a2 := a1.below (by simp; omega) HB4.out
                have a3 := (a2.alloc (by omega) (.cells m'.cells.toArray 39)).tch HT2.out (by decide)
                exact ⟨a3, hq.2⟩
              rcases hq with hq | rfl
              · exact keep (HFI.out q hq)
              · rcases HDI.out with z | ⟨z1, z2, z3⟩
                · refine ⟨?_, by rw [z]; exact Nat.zero_le _⟩
                  rw [z]
                  exact Lies.nil
                · have := keep HFM.out
                  exact ⟨by rw [z1, z3]; exact this.1, by rw [z2, z3]; exact this.2⟩
            · rw [take_next HM.out]
              have := HPW.out
              unfold pts at this ⊢
              rw [List.map_append, List.map_append, List.map_append, this]
              simp [HPT.out]
            · exact ((((HB.out.alloc hbs _).trans (HB4.out.mono (by simp; omega))).alloc (by omega) _).trans HT2.out.below)
          case measure => simp [intOf]; omega
        · obtain rfl : k = ms.length := by omega
          have hpw := HPW.out
          rw [List.take_length] at hpw
          have HPW2 := Lib.hid hpw
          clear hpw
          go_wp2_with fail
          refine (put_c (HP.out.below (Nat.le_refl _) HB.out) rfl HK.out (by have := HSM.out.2.2; omega) (by omega)).mono ?_
          rintro e w4 ⟨Ab, nb, cb, rfl, hob, hb4⟩
          have HNB := Lib.hid (own_room hob).1
          have hz4 := hb4.size
          have HB4 := Lib.hid (HB.out.trans (hb4.mono hbs))
          have HO4 := Lib.hid (own_below HO.out hb4)
          have HF4 := Lib.hid (fun m hm => (HFI.out m hm).1.below hbs hb4)
          have HOB := Lib.hid hob
          clear hob hb4
          go_wp2_with fail
          refine (kinds_c (HP.out.below (Nat.le_refl _) HB4.out) rfl (by omega)).mono ?_
          rintro e w5 ⟨Ak, nk, ck, rfl, hok, hb5⟩
          have HNK := Lib.hid (own_room hok).1
          have hz5 := hb5.size
          have HB5 := Lib.hid (HB4.out.trans (hb5.mono HB4.out.size))
          have HO5 := Lib.hid (own_below HO4.out hb5)
          have HF5 := Lib.hid (fun m hm => (HF4.out m hm).below HB4.out.size hb5)
          have HOB5 := Lib.hid (own_below HOB.out hb5)
          have HOK := Lib.hid hok
          clear hok hb5
          have kl : ((pts ms).map (·.kind)).length ≤ 1000000000 := by rw [List.length_map, pts, List.length_map]; omega
          have el : (Cd.encs (pts ms)).length ≤ 1099511627776 := by have := HSM.out.2.2; omega
          go_wp2_with fail
          refine (parts_c (B := 0) (tb := 5) (tk := 3) (lies_own HOB5.out) HNB.out (lies_own HOK.out) HNK.out el kl).mono ?_
          rintro e w6 ⟨xs, Ax, cx, rfl, hpx, hptx, hb6⟩
          have hgood : Cd.rdPs ((pts ms).map (·.kind)) (some (Cd.encs (pts ms))) = ((pts ms).map Cd.own, some []) := by
            have q := Cd.read_encs (l := pts ms) (fun p hp => by
              obtain ⟨m, hm, rfl⟩ := List.mem_map.1 hp
              refine ⟨HK.out m hm, ?_, by have := HSM.out.2.1 m hm; omega⟩
              have := HKN.out
              unfold knownB at this
              rw [List.all_eq_true] at this
              simpa using this m.pt hp) []
            rw [List.append_nil] at q
            exact q
          have hg := parts_good (ks := (pts ms).map (·.kind)) (b := Cd.encs (pts ms)) (by rw [hgood])
          rw [hg.2]
          rw [hg.1, hgood] at hptx
          have HPX := Lib.hid hptx
          have HPLX := Lib.hid hpx
          have hz6 := hb6.size
          have HB6 := Lib.hid (HB5.out.trans (hb6.mono HB5.out.size))
          have HO6 := Lib.hid (own_below HO5.out hb6)
          have HF6 := Lib.hid (fun m hm => (HF5.out m hm).below HB5.out.size hb6)
          have xl : xs.length = ms.length := by have := congrArg List.length HPX.out; simpa [pts] using this
          have XLn := Lib.hid xl
          clear hpx hb6 hg hgood hptx xl
          go_wp2_with fail
          refine (sameParts_c (B := w6.heap.size) (tp := 0) (tb := 0) (tp2 := 0) (tb2 := 0) HPLX.out.old (PL.old (B := w.heap.size) (tp := 39) (tb := 0) ⟨Lies.of_own HO6.out, fun m hm => ⟨HF6.out m hm, (HFI.out m hm).2⟩⟩) rfl HWL.out.symm ?_ ?_ (by have := XLn.out; omega)).mono ?_
          · intro m hm
            have : m.pt ∈ (pts ms).map Cd.own := by rw [← HPX.out]; exact List.mem_map.2 ⟨m, hm, rfl⟩
            obtain ⟨p, hp, hpe⟩ := List.mem_map.1 this
            obtain ⟨m0, hm0, rfl⟩ := List.mem_map.1 hp
            rw [← hpe]; exact own_ok (HK.out m0 hm0)
          · intro m hm
            have : m.pt ∈ (pts ms).map Cd.own := by rw [← HPW2.out]; exact List.mem_map.2 ⟨m, hm, rfl⟩
            obtain ⟨p, hp, hpe⟩ := List.mem_map.1 this
            obtain ⟨m0, hm0, rfl⟩ := List.mem_map.1 hp
            rw [← hpe]; exact own_ok (HK.out m0 hm0)
          · rw [HPX.out, HPW2.out, Cd.sameL_refl]
            rintro e w7 ⟨rfl, hb7⟩
            have HB7 := Lib.hid (HB6.out.trans (hb7.mono HB6.out.size))
            clear hb7
            go_wp2
            go_ret
            exact ⟨rfl, HB7.out⟩
end Go.Proofs.Ytobdaiiojclfkaa
