/- Stage 16: going through a row of lasts; the law's all; the code's Copy (written by wip/gen16cp.py). -/
import Derived.Test.YtmcfknnfaokmlaaUe
import Derived.Test.YtmcfknnfaokmlaaAp
namespace Go.Proofs.Ytmcfknnfaokmlaa
set_option maxRecDepth 100000
set_option linter.unusedSimpArgs false
section
open Go.RowKit Go.Lib Go.Shelf
attribute [local go_sem] Oper.semAt_some
/-- Nothing below Z has turned but block bx. -/
structure But16 (bx Z : Nat) (w w' : World) : Prop where
  os : w'.os = w.os
  tape : w'.tape = w.tape
  output : w'.output = w.output
  size : w.heap.size ≤ w'.heap.size
  block : ∀ k, k < Z → k ≠ bx → w'.heap[k]? = w.heap[k]?
theorem But16.trans {bx Z : Nat} {a b c : World} (h : But16 bx Z a b) (k : But16 bx Z b c) : But16 bx Z a c := ⟨k.os.trans h.os, k.tape.trans h.tape, k.output.trans h.output, Nat.le_trans h.size k.size, fun j h1 h2 => (k.block j h1 h2).trans (h.block j h1 h2)⟩
theorem But16.of_below {bx Z B : Nat} {a b : World} (h : Below B a b) (hZ : Z ≤ B) : But16 bx Z a b := ⟨h.os, h.tape, h.output, h.size, fun j h1 _ => h.block j (by omega)⟩
theorem But16.put {bx Z l : Nat} {a : World} (o : Obj) (hl : Z ≤ l) : But16 bx Z a (a.putObj l o) := ⟨rfl, rfl, rfl, by simp, fun j h1 _ => World.putObj_heap_other (by omega)⟩
theorem But16.grown {bx Z : Nat} {a b : World} {row : Option Nat} (h : a.grownBy b row) (hr : ∀ k, row = some k → k = bx ∨ Z ≤ k) (hZ : Z ≤ a.heap.size) : But16 bx Z a b := ⟨h.os, h.tape, h.output, h.size, fun j h1 h2 => h.block j (by omega) (fun e => by rcases hr j e.symm with q | q <;> omega)⟩
def St16 (B : Nat) (a b : World) : Prop := Below a.heap.size a b ∧ B ≤ a.heap.size
set_option maxRecDepth 100000 in
set_option maxHeartbeats 4000000 in
theorem values16_g {m g base bx Z : Nat} {A : Option Addr} {c : Nat} {T : List La} {W : World} {fr : Nat × Nat} (hg : W.heap[g]? = some (.cells #[.slice A T.length c] 22 fr)) (hr : W.ownsRow base 45 2 (.slice A T.length c) T.length (acells T)) (hk : ∀ k, (Value.slice A T.length c).ownBlock = some k → k < Z ∧ k ≠ bx) (hs : T.length ≤ 1000000) :
    Seq14 m Try.prog 25 #[.pointer (some ⟨g, 0, none⟩)] (fun x : La => #[.agg #[.int .u64 (x.who : Int), .int .u64 (x.id : Int)]]) St16 (fun _ => But16 bx Z) (fun _ _ _ => True) (fun _ _ _ => True) (fun xs => xs = T) (fun pre => ∃ r, pre ++ r = T) T.length W := by
  intro l J Jx hJ _ hY h0
  have c0 := cell14 hg
  have HJ := Lib.hid hJ
  have HY := Lib.hid hY
  have HR := Lib.hid hr
  have HK := Lib.hid hk
  have H0 := Lib.hid h0
  clear hg hr hk hJ hY h0
  refine callsIn_of_wp Try.func25 rfl trivial ?_ rfl
  simp only [Try.ntmps25, List.size_toArray, List.length_cons, List.length_nil, Nat.reduceAdd, Nat.reduceSub, Array.replicate_succ, Array.replicate_zero, List.push_toArray, List.append_toArray, List.nil_append, List.cons_append]
  gi_wp2
  gi_loopw [7] (fun i wr => ∃ k : Nat, i = .int .i64 k ∧ k ≤ T.length ∧ Hid (J (T.take k) wr) ∧ Hid (wr.ownsRow base 45 2 (.slice A T.length c) T.length (acells T)) ∧ Hid (W.heap.size ≤ wr.heap.size)) (fun i _ => T.length - (intOf i).toNat)
  case atStart => exact ⟨0, rfl, Nat.zero_le _, H0, HR, Lib.hid (Nat.le_refl _)⟩
  case round =>
    obtain ⟨k, rfl, hk, HJ1, HR1, HS1⟩ := hrel
    by_cases hlt : k < T.length
    · have hltz : (k : Int) < (T.length : Int) := by omega
      have hAL : AL wr A T := (lies_own (B := 0) (t := 45) HR1.out).old
      obtain ⟨ad, x, hA, hx, q0, q1⟩ := hAL.at_ hlt
      subst hA
      have X := Lib.hid hx
      have TK : Hid (T.take k ++ [x] = T.take (k + 1)) := Lib.hid (take_nxt hx).symm
      obtain ⟨w2, hw2⟩ : ∃ u, wr.alloc (.cells #[.int .u64 (x.who : Int), .int .u64 (x.id : Int)] 45) = u := ⟨_, rfl⟩
      obtain ⟨lb, b2, z2⟩ := new_two hw2
      obtain ⟨y0, y1⟩ := two_cells lb
      have J2 := HJ.out (T.take k) wr w2 HJ1.out ⟨b2, HS1.out⟩
      have R2 := Lib.hid (own_below HR1.out b2)
      have S2 : Hid (W.heap.size ≤ w2.heap.size) := Lib.hid (Nat.le_trans HS1.out b2.size)
      obtain ⟨fn, tmps, assign, body, hy, hR⟩ := HY.out (T.take k) x w2 J2 (by rw [List.length_take]; omega) ⟨T.drop (k + 1), by rw [TK.out, List.take_append_drop]⟩ trivial S2.out
      have HRR := Lib.hid hR
      clear hx lb b2 z2 J2 hR hAL
      gi_wp2
      first | refine HRR.out.mono ?_ | (refine ⟨(fun h => by cases h), ?_⟩; refine HRR.out.mono ?_)
      rintro e0 w6 (⟨rfl, hJ6, hT6⟩ | ⟨rfl, hJx6, _⟩)
      · have J6 : Hid (J (T.take (k + 1)) w6) := Lib.hid (by rw [← TK.out]; exact hJ6)
        have R6 := Lib.hid (own_keep R2.out fun j hj => hT6.block j (HK.out j hj).1 (HK.out j hj).2)
        have S6 : Hid (W.heap.size ≤ w6.heap.size) := Lib.hid (Nat.le_trans S2.out hT6.size)
        clear hJ6 hT6 hy
        gi_wp2
        go_roundw
        case rel => exact ⟨k + 1, by go_num, by omega, J6, R6, S6⟩
        case measure => simp [intOf]; omega
      · have HJ6 := Lib.hid hJx6
        clear hJx6 hy
        gi_wp2
        refine bodyPost_ret (results_none rfl _ _ _) rfl ?_
        exact ⟨⟨_, rfl⟩, .inr ⟨T.take k ++ [x], ⟨T.drop (k + 1), by rw [TK.out, List.take_append_drop]⟩, HJ6.out⟩⟩
    · obtain rfl : k = T.length := by omega
      have hltz : ¬ ((T.length : Int) < (T.length : Int)) := by omega
      have J6 : Hid (J T wr) := Lib.hid (by have q := HJ1.out; rwa [List.take_length] at q)
      gi_wp2
      go_end0
      first | exact ⟨⟨_, rfl⟩, .inl J6.out⟩ | exact ⟨⟨_, rfl⟩, .inl ⟨T, rfl, J6.out⟩⟩
/-- What the law's all told: a list of its own. -/
def AllR16 (T : List La) (w : World) (e : Ending) (w' : World) : Prop := ∃ (A : Option Addr) (c : Nat), e = .returned (.slice A T.length c) ∧ w'.ownsRow w.heap.size 45 2 (.slice A T.length c) T.length (acells T) ∧ Below w.heap.size w w'
/-- Between two rounds of all. -/
def CollA16 (w : World) (Z : Nat) (pre : List La) (W : World) : Prop :=
  (∃ A c, W.heap[w.heap.size]? = some (.cells #[.slice A pre.length c] 22 (0, 0)) ∧ W.ownsRow Z 45 2 (.slice A pre.length c) pre.length (acells pre)) ∧ Below w.heap.size w W
theorem CollA16.tch {w : World} {Z : Nat} {pre : List La} {W W' : World} {B : Nat} (h : CollA16 w Z pre W) (hB : w.heap.size ≤ B) (hT : Tch B [] W W') : CollA16 w Z pre W' := by
  obtain ⟨⟨A, c, h1, h2⟩, h3⟩ := h
  exact ⟨⟨A, c, hT.blk h1 (by simp), own_tch h2 hT (by simp)⟩, h3.trans (hT.below.mono hB)⟩
theorem CollA16.below {w : World} {Z : Nat} {pre : List La} {W W' : World} (h : CollA16 w Z pre W) (hb : Below W.heap.size W W') : CollA16 w Z pre W' := h.tch h.2.size (Tch.of_below hb (Nat.le_refl _) [])
set_option maxRecDepth 100000 in
set_option maxHeartbeats 4000000 in
theorem lawall16_g {T : List La} {pv : Option Addr} {w : World} (AC : ∀ u, Below w.heap.size w u → Calls Try.prog 21 #[.pointer pv] u (AllOk16 T u)) (hs : T.length ≤ 1000000) :
    Calls Try.prog 15 #[.pointer pv] w (AllR16 T w) := by
  obtain ⟨w1, hw1⟩ : ∃ u, w.alloc (.cells #[.slice none 0 0] 22) = u := ⟨_, rfl⟩
  have b1 : Below w.heap.size w w1 := by rw [← hw1]; exact (Below.refl _ w).alloc (Nat.le_refl _) _
  have k1 : w1.heap[w.heap.size]? = some (.cells #[.slice none 0 0] 22 (0, 0)) := by rw [← hw1]; exact heap_alloc_new w _
  have Z1 : Hid (w1.heap.size = w.heap.size + 1) := Lib.hid (by rw [← hw1]; simp)
  have AC1 := Lib.hid (AC w1 b1)
  have B1 := Lib.hid b1
  have K1 := Lib.hid k1
  clear AC b1 k1
  refine calls_of_marks14 Try.func15 rfl ?_
  simp only [Try.ntmps15, List.size_toArray, List.length_cons, List.length_nil, Nat.reduceAdd, Nat.reduceSub, Array.replicate_succ, Array.replicate_zero, List.push_toArray, List.append_toArray, List.nil_append, List.cons_append]
  go_wp2_with fail
  refine AC1.out.mono ?_
  rintro e w2 ⟨g, A, c, rfl, hg, hgl, hrow, hb⟩
  have B2 : Hid (Below w.heap.size w w2) := Lib.hid (B1.out.trans (hb.mono B1.out.size))
  have KR : Hid (∀ k, (Value.slice A T.length c).ownBlock = some k → k < w2.heap.size ∧ k ≠ w.heap.size) := Lib.hid fun k hk => by
    obtain ⟨h1, cs, fr, h2⟩ := own_row hrow k hk
    have := lt_of_block h2
    have := Z1.out
    exact ⟨by omega, by omega⟩
  have SG : Hid (∀ W, Below w2.heap.size w2 W → W.heap.size = w2.heap.size + 2 → Seq14 (9 - 1) Try.prog 25 #[.pointer (some ⟨g, 0, none⟩)] (fun x : La => #[.agg #[.int .u64 (x.who : Int), .int .u64 (x.id : Int)]]) St16 (fun _ => But16 w.heap.size w2.heap.size) (fun _ _ _ => True) (fun _ _ _ => True) (fun xs => xs = T) (fun pre => ∃ r, pre ++ r = T) T.length W) := Lib.hid (fun W hW _ => values16_g (blk_keep hg hW) (own_below hrow hW) KR.out hs)
  have I2 : Hid (CollA16 w w2.heap.size [] w2) := Lib.hid ⟨⟨none, 0, blk_keep K1.out hb, World.ownsRow_nil _ _ _ _⟩, B2.out⟩
  have Z2 : Hid (w.heap.size < w2.heap.size) := Lib.hid (by have := Z1.out; have := hb.size; omega)
  clear hg hgl hrow hb
  go_wp2_with fail
  refine (wpIn_wide (n := 9)).1 ?_
  refine' range14 (α := La) (n := 9) (by decide) (gf := 25) rfl (enters_of Try.func25 (by kernel_rfl) rfl) SG.out (fun _ => rfl) (fun h => h.1.mono h.2) (fun h k => h.trans k) (fun o _ => But16.put o (by omega)) (fun _ _ => trivial) (fun _ _ _ => trivial)
    (CollA16 w w2.heap.size) (fun _ _ => False) (fun _ _ _ h hT => h.tch B2.out.size hT) (fun _ _ _ h _ => h) (fun _ _ _ h hT => h.below hT.1) (fun _ _ _ h _ => h) I2.out (fun x b => { tmps := #[.pointer pv, undef, .slice none 0 0, .pointer (some ⟨w.heap.size, 0, none⟩), .pointer (some ⟨b, 0, none⟩), .pointer pv, .func (.func 25) #[] #[.pointer (some ⟨g, 0, none⟩)], .agg #[.int .u64 (x.who : Int), .int .u64 (x.id : Int)], undef, undef, undef, undef, undef], defers := [] })
    (fun pre x b W => CollA16 w w2.heap.size pre W ∧ W.heap[b]? = some (.cells #[.int .u64 (x.who : Int), .int .u64 (x.id : Int)] 45 (0, 0))) (fun pre x b A A' h hT => ⟨h.1.tch B2.out.size hT, hT.blk h.2 (by simp)⟩) ?assign ?body ?done ?stop
  case assign =>
    rintro pre x W hI _ hpn hzW
    obtain ⟨b, hb⟩ : ∃ b, W.heap.size = b := ⟨_, rfl⟩
    obtain ⟨W1, hW1⟩ : ∃ u, W.alloc (.cells #[.int .u64 (x.who : Int), .int .u64 (x.id : Int)] 45) = u := ⟨_, rfl⟩
    obtain ⟨xb, bx, zx⟩ := new_two hW1
    have I1 := Lib.hid (hI.below bx)
    rw [hb] at xb
    have XB := Lib.hid xb
    have BX := Lib.hid bx
    have HZ := Lib.hid hzW
    have HB := Lib.hid hb
    clear xb bx zx hI hb
    gi_wp2
    rw [HB.out]
    exact ⟨⟨BX.out.block _ HZ.out, BX.out.block _ (by have := HZ.out; omega)⟩, But16.of_below BX.out (by have := HZ.out; omega), b, rfl, I1.out, XB.out⟩
  case body =>
    rintro pre x b W ⟨⟨⟨A7, c7, heb, hrow⟩, hlow⟩, hb⟩ hpn hsp hz hn1 hn2
    have ce := cell14 heb
    have fe := blk_free heb 0
    obtain ⟨y0, y1⟩ := two_cells hb
    have hbs := buildSlA15 x.who x.id W
    obtain ⟨i0, hi, iz0, iz1, iz2⟩ := info_parts Try.infoLa15
    have HNW : Hid (∀ j u, (encA x)[j]? = some u → (W.alloc (.cells #[.int .u64 (x.who : Int), .int .u64 (x.id : Int)] 45)).cell? ((⟨W.heap.size, 0, none⟩ : Addr).add j) = some u) := Lib.hid (fun j u hu => by
      obtain ⟨ad, e, _, h⟩ := (Lies.of_blk (B := 0) (heap_alloc_new W (.cells #[.int .u64 (x.who : Int), .int .u64 (x.id : Int)] 45))) (by simp)
      injection e with e
      subst e
      exact h j u hu)
    have HR := Lib.hid hrow
    have HEB := Lib.hid heb
    have HL := Lib.hid hlow
    have N1 := Lib.hid hn1
    have N2 := Lib.hid hn2
    have HZ := Lib.hid hz
    have PN := Lib.hid hpn
    clear hrow heb hb hlow hn1 hn2 hsp hpn hz
    gi_wp2_with (gi_at_builtin; refine wpListIn_append_own _ rfl _ _ 22 rfl w2.heap.size 45 i0 _ 2 16 Try.underlying22 hi iz0 iz1 iz2 rfl (by decide) _ pre.length (acells pre) rfl (HR.out.alloc _) ⟨W.heap.size, 0, none⟩ 1 1 (encA x) rfl rfl HNW.out (encA_one x) (by have := PN.out; unfold maxLen; omega) (by have := PN.out; omega) (by have := HZ.out; simp; omega) ?_)
    intro v' w7 hown' hgrow hor
    obtain ⟨A8, k8, rfl⟩ := own_slice hown'
    have e7 := grown_blk (HR.out.alloc _) hgrow (blk_alloc HEB.out _) (by decide)
    have fe7 := blk_free e7 0
    have ce7 := cell14 e7
    have KB : But16 w.heap.size w2.heap.size W w7 := (But16.of_below ((Below.refl _ W).alloc (Nat.le_refl _) _) (by have := HZ.out; omega)).trans (But16.grown hgrow (fun k hk => .inr (own_row (HR.out.alloc (.cells #[.int .u64 (x.who : Int), .int .u64 (x.id : Int)] 45)) k hk).1) (by have := HZ.out; simp; omega))
    obtain ⟨w8, hw8⟩ : ∃ u, w7.setCell ⟨w.heap.size, 0, none⟩ (.slice A8 (pre.length + 1) k8) = u := ⟨_, rfl⟩
    have KC : But16 w.heap.size w2.heap.size w7 w8 := by
      rw [← hw8]
      exact ⟨rfl, rfl, rfl, by simp, fun k _ hk => Below.heap_setCell _ _ _ k hk⟩
    have e8 : w8.heap[w.heap.size]? = some (.cells #[.slice A8 (pre.length + 1) k8] 22 (0, 0)) := by rw [← hw8]; exact blk_set e7 0 _
    have o8 : w8.ownsRow w2.heap.size 45 2 (.slice A8 (pre.length + 1) k8) (pre.length + 1) (acells pre ++ encA x) := by rw [← hw8]; exact own_far hown' e7 (by decide) _
    have k1 : w7.heap[w2.heap.size]? = W.heap[w2.heap.size]? := keep14 N1.out (by have := HZ.out; omega) HR.out hgrow
    have k2 : w7.heap[w2.heap.size + 1]? = W.heap[w2.heap.size + 1]? := keep14 N2.out HZ.out HR.out hgrow
    have j1 : w8.heap[w2.heap.size]? = w7.heap[w2.heap.size]? := by rw [← hw8]; exact Below.heap_setCell _ _ _ _ (by have := Z2.out; show _ ≠ w.heap.size; omega)
    have j2 : w8.heap[w2.heap.size + 1]? = w7.heap[w2.heap.size + 1]? := by rw [← hw8]; exact Below.heap_setCell _ _ _ _ (by have := Z2.out; show _ ≠ w.heap.size; omega)
    have L8 : Below w.heap.size w w8 := by
      have q := KB.trans KC
      exact ⟨q.os.trans HL.out.os, q.tape.trans HL.out.tape, q.output.trans HL.out.output, Nat.le_trans HL.out.size q.size, fun k hk => (q.block k (by have := Z2.out; omega) (by omega)).trans (HL.out.block k hk)⟩
    have FIN := Lib.hid (And.intro (And.intro (j2.trans k2) (j1.trans k1)) (And.intro (KB.trans KC) (And.intro (And.intro e8 o8) L8)))
    clear hown' hgrow hor e7 KB KC e8 o8 k1 k2 j1 j2 L8
    gi_wp2
    have el : (pre ++ [x]).length = pre.length + 1 := by simp
    exact ⟨FIN.out.1, FIN.out.2.1, ⟨⟨A8, k8, by rw [el]; exact FIN.out.2.2.1.1, by rw [el, acells_snoc]; exact FIN.out.2.2.1.2⟩, FIN.out.2.2.2⟩⟩
  case done =>
    rintro xs W rfl ⟨⟨A7, c7, heb, hrow⟩, hlow⟩ hD
    have ce := cell14 heb
    have HR := Lib.hid hrow
    have HL := Lib.hid hlow
    have HD := Lib.hid hD
    clear heb hrow hlow hD
    go_wp2
    have TF : Tch w.heap.size [] W (W.putObj w2.heap.size (.deferred none)) := tch_shut14 _ HD.out B2.out.size
    refine ⟨by simp, .inl ⟨_, _, rfl, run_takeDeferred HD.out, ?_⟩⟩
    exact ⟨_, results_tmp rfl _ _ _, A7, c7, rfl, own_less (own_tch HR.out TF (by simp)) B2.out.size, HL.out.trans TF.below⟩
  case stop =>
    rintro pre W _ h _
    exact h.elim
theorem lawall16_c {T : List La} {p mb n : Nat} {w : World} (h : TB T p mb n w) (hn : n ≤ 1000000) : Calls Try.prog 15 #[.pointer (some ⟨p, 0, none⟩)] w (AllR16 T w) := lawall16_g (fun _ hu => all16_c (h.below hu) hn) (Nat.le_trans h.c hn)
theorem lawall16_nil (w : World) : Calls Try.prog 15 #[.pointer none] w (AllR16 [] w) := lawall16_g (fun u _ => all16_nil u) (by simp)
end
end Go.Proofs.Ytmcfknnfaokmlaa
