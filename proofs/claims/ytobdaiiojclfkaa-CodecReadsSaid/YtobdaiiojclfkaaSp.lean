/- Contract of the document's own SameParts. -/
import Derived.Test.YtobdaiiojclfkaaPt
import Derived.Test.YtobdaiiojclfkaaFk
namespace Go.Proofs.Ytobdaiiojclfkaa
open Go.RowKit

theorem below_drew {B : Nat} {a b : World} (h : Below B a b) : Below B a b.drew := h.drew
theorem sameL_snoc {xs ys : List Cd.Pt} (h : xs.length = ys.length) (x y : Cd.Pt) : Cd.sameL (xs ++ [x]) (ys ++ [y]) = (Cd.sameL xs ys && Cd.sameP x y) := by
  induction xs generalizing ys with
  | nil =>
    cases ys with
    | nil => simp [Cd.sameL]
    | cons _ _ => simp at h
  | cons a xs ih =>
    cases ys with
    | nil => simp at h
    | cons b ys =>
      simp only [List.cons_append, Cd.sameL]
      rw [ih (by simpa using h), Bool.and_assoc]
theorem sameL_at {xs ys : List Cd.Pt} {k : Nat} {x y : Cd.Pt} (hx : xs[k]? = some x) (hy : ys[k]? = some y) (h : Cd.sameP x y = false) : Cd.sameL xs ys = false := by
  induction xs generalizing ys k with
  | nil => simp at hx
  | cons a xs ih =>
    cases ys with
    | nil => simp at hy
    | cons b ys =>
      cases k with
      | zero =>
        simp only [List.getElem?_cons_zero, Option.some.injEq] at hx hy
        subst hx; subst hy
        simp [Cd.sameL, h]
      | succ k =>
        simp only [List.getElem?_cons_succ] at hx hy
        simp [Cd.sameL, ih hx hy]
theorem same_no {ms ms2 : List MPt} {k : Nat} {x y : MPt} (hx : ms[k]? = some x) (hy : ms2[k]? = some y) (h : Cd.sameP x.pt y.pt = false) : false = Cd.sameL (pts ms) (pts ms2) :=
  (sameL_at (k := k) (x := x.pt) (y := y.pt) (by simp [pts, hx]) (by simp [pts, hy]) h).symm

theorem same_yes {ms ms2 : List MPt} {k : Nat} {x y : MPt} (hx : ms[k]? = some x) (hy : ms2[k]? = some y) (h0 : Cd.sameL (pts (ms.take k)) (pts (ms2.take k)) = true) (h : Cd.sameP x.pt y.pt = true) :
    Cd.sameL (pts (ms.take (k + 1))) (pts (ms2.take (k + 1))) = true := by
  rw [take_next hx, take_next hy]
  have l := Cd.sameL_len h0
  unfold pts at *
  rw [List.map_append, List.map_append, List.map_singleton, List.map_singleton, sameL_snoc l, h0, h]
  rfl

set_option maxHeartbeats 8000000 in
set_option maxRecDepth 100000 in
theorem sameParts_c {A A2 : Option Addr} {n c n2 c2 : Nat} {ms ms2 : List MPt} {w : World} {B : Nat} {tp tb tp2 tb2 : TypeId} (h : PL w B tp tb A ms) (h2 : PL w B tp2 tb2 A2 ms2) (hn : n = ms.length) (hn2 : n2 = ms2.length)
    (hk : ∀ m ∈ ms, m.pt.ok) (hk2 : ∀ m ∈ ms2, m.pt.ok) (hl : ms.length ≤ 1000000000) :
    Calls Try.prog 13 #[.slice A n c, .slice A2 n2 c2] w fun e w' => e = .returned (.bool (Cd.sameL (pts ms) (pts ms2))) ∧ Below w.heap.size w w' := by
  have HP := Lib.hid (h.old (tp' := 0) (tb' := 0))
  have HP2 := Lib.hid (h2.old (tp' := 0) (tb' := 0))
  have HK := Lib.hid hk
  have HK2 := Lib.hid hk2
  clear h h2 hk hk2
  subst hn
  subst hn2
  by_cases hlen : ms.length = ms2.length
  · have HLn := Lib.hid hlen
    clear hlen
    have n1 : ((ms.length : Int) == (ms2.length : Int)) = true := by have := HLn.out; simp; omega
    have n2 : ((ms.length : Int) != (ms2.length : Int)) = false := by have := HLn.out; simp; omega
    go_enter Try.func13, Try.ntmps13
    go_wp2_with fail
    go_loopw [15] (fun i wr => ∃ k : Nat, k ≤ ms.length ∧ i = .int .i64 k ∧ Cd.sameL (pts (ms.take k)) (pts (ms2.take k)) = true ∧ Below w.heap.size w wr) (fun i _ => ms.length - (intOf i).toNat)
    case atStart => exact ⟨0, by omega, rfl, rfl, Below.refl _ _⟩
    case round =>
      obtain ⟨k, hk, rfl, hsame, hb⟩ := hrel
      have HSM := Lib.hid hsame
      clear hsame
      by_cases hlt : k < ms.length
      · obtain ⟨ad, x, rfl, hx, hfx, a0, a1, a2, a3, a4, a5⟩ := (HP.out.below (Nat.le_refl _) hb).at_ hlt
        obtain ⟨bd, y, rfl, hy, hfy, b0, b1, b2, b3, b4, b5⟩ := (HP2.out.below (Nat.le_refl _) hb).at_ (k := k) (by have := HLn.out; omega)
        have HX := Lib.hid hx
        have HY := Lib.hid hy
        have FX := Lib.hid hfx
        have FY := Lib.hid hfy
        have HB := Lib.hid hb
        have OX := Lib.hid (HK.out x (List.mem_of_getElem? hx))
        have OY := Lib.hid (HK2.out y (List.mem_of_getElem? hy))
        have hz := hb.size
        have cx : ∀ o1 o2, (convert 23 9 (.slice x.A x.pt.b.length x.c)).run Try.prog ((wr.alloc o1).alloc o2).drew = .ok (.string (str x.pt.b)) ((wr.alloc o1).alloc o2).drew := fun o1 o2 =>
          run_conv _ _ _ 5 Try.underlying23 Try.underlying5 Try.underlying9 (B := w.heap.size) (t := 0) _ _ _ _ rfl (((hfx.1.alloc hz o1).alloc (by simp; omega) o2).drewN 1)
        have cy : ∀ o1 o2, (convert 23 9 (.slice y.A y.pt.b.length y.c)).run Try.prog ((wr.alloc o1).alloc o2).drew = .ok (.string (str y.pt.b)) ((wr.alloc o1).alloc o2).drew := fun o1 o2 =>
          run_conv _ _ _ 5 Try.underlying23 Try.underlying5 Try.underlying9 (B := w.heap.size) (t := 0) _ _ _ _ rfl (((hfy.1.alloc hz o1).alloc (by simp; omega) o2).drewN 1)
        clear hx hy hfx hfy hb
        have hlt2 : k < ms2.length := by have := HLn.out; omega
        have la := World.block_lt_of_cell? _ _ a0
        have lb := World.block_lt_of_cell? _ _ b0
        go_wp2_with fail
        go_region
        all_goals
          by_cases hkind : (x.pt.kind == y.pt.kind) = true
          rotate_left
          · have hkind : (x.pt.kind == y.pt.kind) = false := by simpa using hkind
            have gkind : (x.pt.kind != y.pt.kind) = true := by unfold bne; rw [hkind]; rfl
            go_wp2_with (go_at_call 44; refine (refSame_c _ _ _ OX.out.f1 OY.out.f1).mono ?_; rintro e w' ⟨rfl, rfl⟩)
            go_ret
            exact ⟨ret_bool (same_no HX.out HY.out (by unfold Cd.sameP; simp [hkind])), (below_drew ((HB.out.alloc HB.out.size _).alloc (by simp; have := HB.out.size; omega) _))⟩
          have gkind : (x.pt.kind != y.pt.kind) = false := by unfold bne; rw [hkind]; rfl
          by_cases hn : (x.pt.n == y.pt.n) = true
          rotate_left
          · have hn : (x.pt.n == y.pt.n) = false := by simpa using hn
            have gn : (x.pt.n != y.pt.n) = true := by unfold bne; rw [hn]; rfl
            go_wp2_with (go_at_call 44; refine (refSame_c _ _ _ OX.out.f1 OY.out.f1).mono ?_; rintro e w' ⟨rfl, rfl⟩)
            go_ret
            exact ⟨ret_bool (same_no HX.out HY.out (by unfold Cd.sameP; simp [hn])), (below_drew ((HB.out.alloc HB.out.size _).alloc (by simp; have := HB.out.size; omega) _))⟩
          have gn : (x.pt.n != y.pt.n) = false := by unfold bne; rw [hn]; rfl
          by_cases hi : (x.pt.i == y.pt.i) = true
          rotate_left
          · have hi : (x.pt.i == y.pt.i) = false := by simpa using hi
            have gi : (x.pt.i != y.pt.i) = true := by unfold bne; rw [hi]; rfl
            go_wp2_with (go_at_call 44; refine (refSame_c _ _ _ OX.out.f1 OY.out.f1).mono ?_; rintro e w' ⟨rfl, rfl⟩)
            go_ret
            exact ⟨ret_bool (same_no HX.out HY.out (by unfold Cd.sameP; simp [hi])), (below_drew ((HB.out.alloc HB.out.size _).alloc (by simp; have := HB.out.size; omega) _))⟩
          have gi : (x.pt.i != y.pt.i) = false := by unfold bne; rw [hi]; rfl
          cases hf : Fl.same x.pt.f y.pt.f
          · go_wp2_with (go_at_call 44; refine (refSame_c _ _ _ OX.out.f1 OY.out.f1).mono ?_; rintro e w' ⟨rfl, rfl⟩)
            go_ret
            exact ⟨ret_bool (same_no HX.out HY.out (by unfold Cd.sameP; simp [hf])), (below_drew ((HB.out.alloc HB.out.size _).alloc (by simp; have := HB.out.size; omega) _))⟩
          by_cases hb : (x.pt.b == y.pt.b) = true
          rotate_left
          · have hb : (x.pt.b == y.pt.b) = false := by simpa using hb
            have gb : (x.pt.b != y.pt.b) = true := by unfold bne; rw [hb]; rfl
            have eb : Cd.sameP x.pt y.pt = false := by unfold Cd.sameP; simp [show ¬ x.pt.b = y.pt.b by simpa using hb]
            have Eb := Lib.hid eb
            clear eb
            go_wp2_with (go_at_call 44; refine (refSame_c _ _ _ OX.out.f1 OY.out.f1).mono ?_; rintro e w' ⟨rfl, rfl⟩)
            go_ret
            exact ⟨ret_bool (same_no HX.out HY.out Eb.out), (below_drew ((HB.out.alloc HB.out.size _).alloc (by simp; have := HB.out.size; omega) _))⟩
          have gb : (x.pt.b != y.pt.b) = false := by unfold bne; rw [hb]; rfl
          by_cases his : (x.pt.is == y.pt.is) = true
          rotate_left
          · have his : (x.pt.is == y.pt.is) = false := by simpa using his
            have gis : (x.pt.is != y.pt.is) = true := by unfold bne; rw [his]; rfl
            have eis : Cd.sameP x.pt y.pt = false := by unfold Cd.sameP; simp [his]
            have Eis := Lib.hid eis
            clear eis
            go_wp2_with (go_at_call 44; refine (refSame_c _ _ _ OX.out.f1 OY.out.f1).mono ?_; rintro e w' ⟨rfl, rfl⟩)
            go_ret
            exact ⟨ret_bool (same_no HX.out HY.out Eis.out), (below_drew ((HB.out.alloc HB.out.size _).alloc (by simp; have := HB.out.size; omega) _))⟩
          have gis : (x.pt.is != y.pt.is) = false := by unfold bne; rw [his]; rfl
          have eall : Cd.sameP x.pt y.pt = true := by
            unfold Cd.sameP
            rw [hkind, hn, hi, hf, his, show x.pt.b = y.pt.b by simpa using hb]
            simp
          have EALL := Lib.hid eall
          clear eall
          go_wp2_with (go_at_call 44; refine (refSame_c _ _ _ OX.out.f1 OY.out.f1).mono ?_; rintro e w' ⟨rfl, rfl⟩)
          go_roundw
          case rel => exact ⟨k + 1, by omega, by go_num, same_yes HX.out HY.out HSM.out EALL.out, (below_drew ((HB.out.alloc HB.out.size _).alloc (by simp; have := HB.out.size; omega) _))⟩
          case measure => simp [intOf]; omega
      · obtain rfl : k = ms.length := by omega
        have hsm := HSM.out
        rw [List.take_length, HLn.out, List.take_length] at hsm
        have HF := Lib.hid hsm
        clear hsm
        go_wp2
        go_ret
        exact ⟨ret_bool HF.out.symm, hb⟩
  · have HLn := Lib.hid hlen
    clear hlen
    have n1 : ((ms.length : Int) == (ms2.length : Int)) = false := by have := HLn.out; simp; omega
    have n2 : ((ms.length : Int) != (ms2.length : Int)) = true := by have := HLn.out; simp; omega
    have e : Cd.sameL (pts ms) (pts ms2) = false := by
      cases hs : Cd.sameL (pts ms) (pts ms2)
      · rfl
      · exact absurd (by have := Cd.sameL_len hs; simpa [pts] using this) HLn.out
    have E := Lib.hid e
    clear e
    go_enter Try.func13, Try.ntmps13
    go_wp2
    go_ret
    exact ⟨ret_bool E.out.symm, Below.refl _ _⟩
end Go.Proofs.Ytobdaiiojclfkaa
