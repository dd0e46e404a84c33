/- Contract of the document's own Unframe. -/
import Derived.Test.YtlemhagckmfpoaaFu
import Derived.Deep.QuietTactic
import Derived.BigQuiet
import Derived.IntWalk
namespace Go.Proofs.Ytlemhagckmfpoaa
open Go.RowKit

/-- The second and the third byte. -/
theorem Fr.two {l : List UInt8} (h : 3 ≤ l.length) : ∃ x y : UInt8, l[1]? = some x ∧ l[2]? = some y ∧ (x.toNat : Int) * 256 + (y.toNat : Int) = (Fr.long l : Int) ∧ Fr.long l < 65536 := by
  obtain ⟨a, b, c, t, rfl⟩ : ∃ a b c t, l = a :: b :: c :: t := by
    rcases l with _ | ⟨a, _ | ⟨b, _ | ⟨c, t⟩⟩⟩
    · simp at h
    · simp at h
    · simp at h
    · exact ⟨a, b, c, t, rfl⟩
  have := b.toNat_lt
  have := c.toNat_lt
  refine ⟨b, c, rfl, rfl, ?_, ?_⟩
  · simp [Fr.long]
  · simp [Fr.long]; omega
theorem Lies.byteAt {w : World} {B : Nat} {t : TypeId} {A : Option Addr} {l : List UInt8} (h : Lies w B t A (bcells l)) {k : Nat} {x : UInt8} (hx : l[k]? = some x) : ∃ ad, A = some ad ∧ w.cell? (ad.add k) = some (.int .u8 (x.toNat : Int)) := by
  have hk : k < l.length := by
    rcases Nat.lt_or_ge k l.length with q | q
    · exact q
    · rw [List.getElem?_eq_none q] at hx; cases hx
  obtain ⟨ad, e, hc⟩ := h.byte hk
  refine ⟨ad, e, ?_⟩
  rw [List.getElem?_eq_getElem hk] at hx
  injection hx with hx
  rw [hc, hx]

/-- What Unframe (and frame.Of) returned: a body that lies below block B or in a block of bytes, how long its frame is, the error's number. -/
def OfOk (B : Nat) (r : Option (List UInt8)) (w : World) (e : Ending) (w' : World) : Prop :=
  ∃ (A : Option Addr) (n c : Nat) (k er : Int), e = .returned (.tuple #[.slice A n c, .int .i64 k, .int .i64 er]) ∧ Below w.heap.size w w' ∧
    n ≤ c ∧ (∀ b, r = some b → n = b.length ∧ Lies w' B 5 A (bcells b) ∧ k = 7 + (b.length : Int) ∧ er = 0) ∧ (r = none → n = 0 ∧ k = 0 ∧ er = 40)
theorem OfOk.bad {w w' : World} {B : Nat} {A : Option Addr} {c : Nat} (h : Below w.heap.size w w') : OfOk B none w (.returned (.tuple #[.slice A 0 c, .int .i64 0, .int .i64 40])) w' :=
  ⟨A, 0, c, 0, 40, rfl, h, Nat.zero_le _, by simp, by simp⟩
theorem OfOk.good {w w' : World} {B : Nat} {A : Option Addr} {b : List UInt8} {n c : Nat} {k : Int} (h : Below w.heap.size w w') (hn : n = b.length) (hc : n ≤ c) (hL : Lies w' B 5 A (bcells b)) (hk : k = 7 + (b.length : Int)) : OfOk B (some b) w (.returned (.tuple #[.slice A n c, .int .i64 k, .int .i64 0])) w' :=
  ⟨A, n, c, k, 0, rfl, h, hc, fun d hd => by injection hd with hd; subst hd; exact ⟨hn, hL, hk, rfl⟩, by simp⟩

set_option maxHeartbeats 2000000 in
theorem unframe_c {A : Option Addr} {n c : Nat} {l : List UInt8} {w : World} {B : Nat} (hL : Lies w B 5 A (bcells l)) (hB : B ≤ w.heap.size) (hn : n = l.length) (hc : n ≤ c) (hs : n ≤ 1000000000) :
    Calls Try.prog 10 #[.slice A n c] w (OfOk B (Fr.unf l) w) := by
  have HL := Lib.hid hL
  have HN := Lib.hid hn
  clear hL hn
  by_cases h3 : n < 3
  · have e : Fr.unf l = none := by
      unfold Fr.unf
      rw [if_neg]
      have := HN.out
      omega
    rw [e]
    go_enter Try.func10, Try.ntmps10
    go_wp2
    refine bodyPost_ret (v := .tuple #[.slice none 0 0, .int .i64 0, .int .i64 40]) (by simp [results, Try.results10, go_sem]) rfl ?_
    exact OfOk.bad (Below.refl _ _)
  · obtain ⟨x, y, hx, hy, hm, hm2⟩ := Fr.two (l := l) (by have := HN.out; omega)
    obtain ⟨ad, rfl, cx⟩ := HL.out.byteAt hx
    obtain ⟨ad', e', cy⟩ := HL.out.byteAt hy
    injection e' with e'
    subst e'
    have cx' : w.cell? ⟨ad.block, ad.off + 1, none⟩ = some (.int .u8 (x.toNat : Int)) := cx
    have cy' : w.cell? ⟨ad.block, ad.off + 2, none⟩ = some (.int .u8 (y.toNat : Int)) := cy
    have n1 : (1 : Int) < n := by omega
    have n2 : (2 : Int) < n := by omega
    clear hx hy cx cy
    obtain ⟨m, em⟩ : ∃ m, m = Fr.long l := ⟨_, rfl⟩
    rw [← em] at hm hm2
    obtain ⟨bd, ebd⟩ : ∃ bd, bd = (l.drop 3).take m := ⟨_, rfl⟩
    obtain ⟨tk, etk⟩ : ∃ tk, tk = l.take (7 + m) := ⟨_, rfl⟩
    have eu : Fr.unf l = if 7 + m ≤ n ∧ m ≤ 60000 ∧ Fr.frame bd = tk then some bd else none := by rw [HN.out, ebd, etk, em]; rfl
    rw [eu]
    by_cases good : m ≤ 60000 ∧ 7 + m ≤ n
    · obtain ⟨g1, g2⟩ := good
      have lb : bd.length = m := by rw [ebd, List.length_take, List.length_drop, ← HN.out]; omega
      have lt : tk.length = 7 + m := by rw [etk, List.length_take, ← HN.out]; omega
      have hBd : Lies w B 5 (some ⟨ad.block, ad.off + 3, none⟩) (bcells bd) := by
        have q := ((HL.out.cut 3 c (by rw [bcells_len, ← HN.out]; exact hc)).take m)
        rw [if_neg (by omega), bcells_drop, bcells_take, ← ebd] at q
        exact q
      have hT : Lies w B 5 (some ad) (bcells tk) := by
        have q := HL.out.take (7 + m)
        rw [bcells_take, ← etk] at q
        exact q
      have HB := Lib.hid hBd
      have HT := Lib.hid hT
      have LB := Lib.hid lb
      have LT := Lib.hid lt
      have cv := conv_at (c := c) hT lt.symm
      clear hBd hT lb lt ebd etk em eu
      have c3 : ¬ c = 3 := by omega
      have t3 : (3 + (m : Int)).toNat - 3 = m := by omega
      have t7 : (7 + (m : Int)).toNat = 7 + m := by omega
      have s3 : IntKind.i64.wrap (3 + (m : Int)) = 3 + (m : Int) := IntWalk.i64_in _ (by omega)
      have s7 : IntKind.i64.wrap (7 + (m : Int)) = 7 + (m : Int) := IntWalk.i64_in _ (by omega)
      have b1 : 0 ≤ 3 + (m : Int) := by omega
      have b2 : 3 + (m : Int) ≤ (c : Int) := by omega
      have b3 : 0 ≤ 7 + (m : Int) := by omega
      have b4 : 7 + (m : Int) ≤ (c : Int) := by omega
      have b5 : (3 : Int) ≤ 3 + (m : Int) := by omega
      cases hf : (Fr.frame bd == tk)
      · have hf' : (Fr.frame bd != tk) = true := by rw [bne, hf]; rfl
        rw [if_neg (by rintro ⟨_, _, e⟩; rw [e] at hf; simp at hf)]
        have HF := Lib.hid hf
        have HF' := Lib.hid hf'
        clear hf hf'
        go_enter Try.func10, Try.ntmps10
        go_wp2_with fail
        go_region
        clear n1 n2 cx' cy'
        go_wp2_with fail
        have hf := HF.out
        have hf' := HF'.out
        go_region_held (fun w' => (convert 22 9 (.slice (some ad) (7 + m) c)).run Try.prog w' = .ok (.string (str tk)) w') (first | exact conv_at (c := c) HT.out LT.out.symm | exact g3) ((go_at_call 12; (refine (refFrame_c (b := bd) (B := B) (t := 5) HB.out.drew.drew LB.out.symm g1).mono ?_); rintro e w6 ⟨Ab, nb, cb, rfl, hob, hb6⟩; have h6 : Below w.heap.size w w6 := ⟨hb6.os, hb6.tape, hb6.output, hb6.size, hb6.block⟩; have gg1 := conv_at (c := cb) (lies_own (B := 0) hob) (own_room hob).1; have g3 := conv_at (c := c) (HT.out.below hB h6) LT.out.symm; have H6 := Lib.hid h6; clear h6 hob hb6))
        go_wp2
        refine bodyPost_ret (v := .tuple #[.slice none 0 0, .int .i64 0, .int .i64 40]) (by simp [results, Try.results10, go_sem]) rfl ?_
        exact OfOk.bad H6.out
      · have hf' : (Fr.frame bd != tk) = false := by rw [bne, hf]; rfl
        rw [if_pos ⟨g2, g1, by simpa using hf⟩]
        have HF := Lib.hid hf
        have HF' := Lib.hid hf'
        clear hf hf'
        go_enter Try.func10, Try.ntmps10
        go_wp2_with fail
        go_region
        clear n1 n2 cx' cy'
        go_wp2_with fail
        have hf := HF.out
        have hf' := HF'.out
        go_region_held (fun w' => (convert 22 9 (.slice (some ad) (7 + m) c)).run Try.prog w' = .ok (.string (str tk)) w') (first | exact conv_at (c := c) HT.out LT.out.symm | exact g3) ((go_at_call 12; (refine (refFrame_c (b := bd) (B := B) (t := 5) HB.out.drew.drew LB.out.symm g1).mono ?_); rintro e w6 ⟨Ab, nb, cb, rfl, hob, hb6⟩; have h6 : Below w.heap.size w w6 := ⟨hb6.os, hb6.tape, hb6.output, hb6.size, hb6.block⟩; have gg1 := conv_at (c := cb) (lies_own (B := 0) hob) (own_room hob).1; have g3 := conv_at (c := c) (HT.out.below hB h6) LT.out.symm; have H6 := Lib.hid h6; clear h6 hob hb6))
        go_wp2
        refine bodyPost_ret (v := .tuple #[.slice (some ⟨ad.block, ad.off + 3, none⟩) m (c - 3), .int .i64 (7 + (m : Int)), .int .i64 0]) (by simp [results, Try.results10, go_sem]) rfl ?_
        exact OfOk.good H6.out LB.out.symm (by omega) (HB.out.below hB H6.out) (by rw [LB.out])
    · rw [if_neg (fun q => good ⟨q.2.1, q.1⟩)]
      clear ebd etk em eu
      by_cases g1 : m ≤ 60000
      · have g2 : ¬ 7 + m ≤ n := fun q => good ⟨g1, q⟩
        clear good
        go_enter Try.func10, Try.ntmps10
        go_wp2_with fail
        go_region
        clear n1 n2 cx' cy'
        go_wp2
        refine bodyPost_ret (v := .tuple #[.slice none 0 0, .int .i64 0, .int .i64 40]) (by simp [results, Try.results10, go_sem]) rfl ?_
        exact OfOk.bad (Below.refl _ _).drew
      · clear good
        go_enter Try.func10, Try.ntmps10
        go_wp2_with fail
        go_region
        clear n1 n2 cx' cy'
        go_wp2
        refine bodyPost_ret (v := .tuple #[.slice none 0 0, .int .i64 0, .int .i64 40]) (by simp [results, Try.results10, go_sem]) rfl ?_
        exact OfOk.bad (Below.refl _ _).drew
end Go.Proofs.Ytlemhagckmfpoaa
