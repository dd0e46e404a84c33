/- Contract of the document's own Wal: put. Wals of plain values: the records lie one behind the other, from the head to the tail, within the ring. Nothing of the program. Disks under a wal: what a change leaves of their bounds. Nothing of the program. Contract of the document's own Wal: Records. -/
import Derived.Test.YtbfkjneidabijaaGreatWm
import Derived.Deep.DeepCutAuto
namespace Go.Proofs.YtbfkjneidabijaaGreat
open Go.RowKit
set_option maxRecDepth 100000

/-- Texts that the caller handed in: none of the disk's blocks. -/
structure Txs (w : World) (F : Nat → Prop) (A : Option Addr) (ms : List MTx) : Prop where
  l : Lies w w.heap.size 57 A (tcells ms)
  lF : tcells ms ≠ [] → InF (fun k => ¬ F k ∧ k < w.heap.size) A
  t : ∀ m ∈ ms, m.fine w w.heap.size 5 ∧ (bcells m.b ≠ [] → InF (fun k => ¬ F k ∧ k < w.heap.size) m.A) ∧ m.b.length ≤ 1000000
theorem Txs.text {w wr : World} {F : Nat → Prop} {A : Option Addr} {ms : List MTx} (h : Txs w F A ms) (hb : But F w.heap.size w wr) {m : MTx} (hm : m ∈ ms) : Lies wr w.heap.size 5 m.A (bcells m.b) := (h.t m hm).1.1.but (h.t m hm).2.1 hb
theorem Txs.at {w wr : World} {F : Nat → Prop} {A : Option Addr} {ms : List MTx} (h : Txs w F A ms) (hb : But F w.heap.size w wr) {k : Nat} {m : MTx} (hm : ms[k]? = some m) : ∃ ad, A = some ad ∧ wr.cell? (ad.add k) = some m.cell := by
  have hk : k < ms.length := (List.getElem?_eq_some_iff.1 hm).1
  obtain ⟨ad, e, hc⟩ := (h.l.but h.lF hb).at_ (k := k) (by rw [tcells_len]; exact hk)
  refine ⟨ad, e, hc.trans ?_⟩
  congr 1
  have : (tcells ms)[k]? = some m.cell := by simp [tcells, hm]
  rw [List.getElem?_eq_getElem (by rw [tcells_len]; exact hk)] at this
  injection this

theorem drop_next {α : Type} {l : List α} {k : Nat} {b : α} (h : l[k]? = some b) : l.drop k = b :: l.drop (k + 1) := by
  obtain ⟨h1, h2⟩ := List.getElem?_eq_some_iff.1 h
  rw [List.drop_eq_getElem_cons h1, h2]
theorem need_cut {b : List UInt8} (h : b.length ≤ 60000) : Wl.need b = (Wl.cut (Fr.frame b)).length := by
  unfold Wl.need
  rw [if_neg (by omega), Wl.cut_len, Fr.frame_len]
  omega
theorem recsAt_snoc (p : Nat) (l : List (List UInt8)) (b : List UInt8) : Wl.recsAt p (l ++ [b]) = Wl.recsAt p l ++ [⟨b, p + Wl.needs l, p + Wl.needs l + Wl.need b⟩] := by
  induction l generalizing p with
  | nil => simp [Wl.recsAt, Wl.needs]
  | cons c l ih =>
    rw [List.cons_append, Wl.recsAt, ih, Wl.recsAt, List.cons_append, show Wl.needs (c :: l) = Wl.need c + Wl.needs l by simp [Wl.needs]]
    simp [Nat.add_assoc]
theorem need_small (b : List UInt8) : Wl.need b ≤ 938 := by unfold Wl.need; split <;> omega
theorem needs_take (l : List (List UInt8)) {k : Nat} {b : List UInt8} (h : l[k]? = some b) : Wl.needs (l.take (k + 1)) = Wl.needs (l.take k) + Wl.need b := by
  rw [take_next h, Wl.needs_app]
  simp [Wl.needs]
theorem needs_small (l : List (List UInt8)) : Wl.needs l ≤ 938 * l.length := by
  induction l with
  | nil => exact Nat.le_refl _
  | cons b l ih =>
    have := need_small b
    show ((b :: l).map Wl.need).sum ≤ _
    rw [List.map_cons, List.sum_cons, List.length_cons]
    have : (l.map Wl.need).sum ≤ 938 * l.length := ih
    omega
theorem need_zero {b : List UInt8} : Wl.need b = 0 ↔ 60000 < b.length := by
  unfold Wl.need
  split
  · simp_all
  · rename_i h
    constructor
    · intro q; omega
    · intro q; exact absurd q h

theorem PW.start {w wr : World} {E F : Nat → Prop} {pw p : Nat} {x : Wl.W} {d : Dk.D} (h : WD w E F pw p x d) (hb : Below w.heap.size w wr) : PW w wr E F F (fun _ => False) p d none 0 [] :=
  ⟨h.rd.keep (fun k hk => hb.block k (h.fo k hk)), fun k hk => Nat.lt_of_lt_of_le (h.fo k hk) hb.size, fun _ _ q => q, fun _ q => q.elim, But.of_below hb F, World.ownsRow_nil _ _ _ _, fun _ e => (by cases e), fun _ q => absurd q (by simp)⟩
theorem PW.bulk {w wr w2 : World} {E F F' O : Nat → Prop} {p cO : Nat} {D : Dk.D} {AO : Option Addr} (h : PW w wr E F F' O p D AO cO []) {ys : List MRc} {A2 : Option Addr} {c2 : Nat} (hg : wr.grownBy w2 (Value.slice AO 0 cO).ownBlock) (ho : w2.ownsRow 0 89 3 (.slice A2 ys.length c2) ys.length (xcells ys))
    (hA : (Value.slice A2 ys.length c2).ownBlock = (Value.slice AO 0 cO).ownBlock ∨ (Value.slice A2 ys.length c2).ownBlock = some wr.heap.size) (hy : ∀ y ∈ ys, HeldR wr E y) :
    PW w w2 E F F' (fun k => O k ∨ wr.heap.size ≤ k ∧ k < w2.heap.size) p D A2 c2 ys := by
  have zw := h.but.size
  have T := grown_tch (B := 0) (ts := [89]) h.out hg (Nat.le_refl _) (Nat.zero_le _) (by simp)
  have hF : ∀ k, F' k → w2.heap[k]? = wr.heap[k]? := fun k f => hg.block k (h.fo k f) (fun e => (h.oo k (h.oF.row k e.symm)).2.2 f)
  have hk : ∀ {y : MRc}, HeldR wr E y → HeldR w2 (fun k => (O k ∨ wr.heap.size ≤ k ∧ k < w2.heap.size) ∨ E k) y := fun {y} hy =>
    HeldR.mono ⟨⟨hy.1.1.keep (fun b hb => hb.elim (fun q => absurd q (Nat.not_lt_zero _)) (fun ⟨_, _, r⟩ => T.typed b _ _ _ r (by decide))), hy.1.2⟩, hy.2⟩ (fun k q => .inr q)
  refine ⟨h.rd.keep hF, fun k f => Nat.lt_of_lt_of_le (h.fo k f) hg.size, h.fn, fun k o => ?_, ?_, ho, ?_, fun y hyy => hk (hy y hyy)⟩
  · rcases o with o | ⟨q1, q2⟩
    · exact ⟨(h.oo k o).1, Nat.lt_of_lt_of_le (h.oo k o).2.1 hg.size, (h.oo k o).2.2⟩
    · exact ⟨by omega, q2, fun f => by have := h.fo k f; omega⟩
  · exact h.but.grown hg zw (fun k e => .inr (h.oo k (h.oF.row k e)).1)
  · intro ad e
    have lt := own_lt ho ad e
    subst e
    rcases hA with q | q
    · exact .inl (h.oF.row ad.block q.symm)
    · have q' : some ad.block = some wr.heap.size := q
      injection q' with q'
      exact .inr ⟨by omega, lt⟩
theorem PW.mine {w wr : World} {E F F' O : Nat → Prop} {p cO : Nat} {D : Dk.D} {AO : Option Addr} {zs : List MRc} (h : PW w wr E F F' O p D AO cO zs) (hE : ∀ k, E k → k < w.heap.size ∧ ¬ F k) : ∀ k, E k → wr.heap[k]? = w.heap[k]? := fun k e => h.but.block k (hE k e).1 (hE k e).2
/-- Disks on which writes of one row of pieces have begun. -/
structure PD (D : Dk.D) (L m : Nat) : Prop where
  ok : D.ok
  left : D.left ≤ 9223372036854775807
  few : D.cache.length ≤ 1000000 + m
  len : D.s.length = L
theorem PD.write {D D' : Dk.D} {L m : Nat} {i e : Int} {b : List UInt8} (h : PD D L m) (hw : Dk.write D i b = (e, D')) : PD D' L (m + 1) := by
  have q1 := Dk.write_ok h.ok i b
  have q2 := Dk.write_left h.left i b
  have q3 := Dk.write_few h.few i b
  have q4 : (Dk.write D i b).2.s.length = D.s.length := by
    unfold Dk.write
    split
    · rfl
    split
    · rfl
    split
    · rfl
    split
    · show (Dk.act D).2.s.length = _
      unfold Dk.act
      split
      · rfl
      · dsimp only
        split <;> rfl
    · unfold Dk.act
      split
      · rfl
      · dsimp only
        split <;> rfl
  rw [hw] at q1 q2 q3 q4
  exact ⟨q1, q2, q3, q4.trans h.len⟩

/-- A write fails: the wal is over. -/
theorem PW.bad {w wr : World} {E F F' O : Nat → Prop} {pw p cO cL : Nat} {x : Wl.W} {d D : Dk.D} {AO AL : Option Addr} {zs xs : List MRc} (h : PW w wr E F F' O p D AO cO zs) (H : WD w E F pw p x d) (r5 : RW5 w E pw p AL cL xs x.gen x.tail x.over) (e5 : xrecs xs = x.recs) :
    WOk E F pw p (50, { x with over := true }, D) w (.returned (.int .i64 50)) (wr.setCell ⟨pw, 4, none⟩ (.bool true)) := by
  have hE : ∀ k, E k → k < w.heap.size ∧ ¬ F k := fun k e => ⟨H.eo k e, H.ap k e⟩
  have zw := h.but.size
  have pl := hE pw r5.fp
  have zs4 : (wr.setCell ⟨pw, 4, none⟩ (.bool true)).heap.size = wr.heap.size := by simp
  have np : ∀ k, F' k → k ≠ pw := fun k f e => by subst e; exact pl.2 (h.fn k pl.1 f)
  refine ⟨rfl, E, F', ⟨h.rd.keep (fun k f => set_off k (np k f)), ⟨AL, cL, xs, ?_, e5⟩, fun k e => by have := (hE k e).1; omega, fun k f => by have := h.fo k f; omega, fun k e f => (hE k e).2 (h.fn k (hE k e).1 f)⟩, fun _ _ q => q, h.fn, ?_⟩
  · refine RW5.turned r5 (h.mine hE) r5.l r5.lF r5.room r5.held r5.gen64 r5.tail64 ?_ set_off
    rw [blk_set ((h.mine hE pw r5.fp).trans r5.cell)]
    rfl
  · exact ⟨h.but.os, h.but.tape, h.but.output, by omega, fun k hk hf => (set_off k (fun e => hf (.inl (e ▸ r5.fp)))).trans (h.but.block k hk (fun f => hf (.inr f)))⟩
/-- All is written: the wal is ready to turn. -/
theorem PW.wd {w wr : World} {E F F' O : Nat → Prop} {pw p cO : Nat} {x : Wl.W} {d D : Dk.D} {AO : Option Addr} {zs : List MRc} (h : PW w wr E F F' O p D AO cO zs) (H : WD w E F pw p x d) : WD wr (fun k => O k ∨ E k) F' pw p x D := by
  have hE : ∀ k, E k → k < w.heap.size ∧ ¬ F k := fun k e => ⟨H.eo k e, H.ap k e⟩
  have zw := h.but.size
  exact ⟨h.rd, (H.rw.keep (h.mine hE)).mono (fun _ => .inr), fun k q => q.elim (fun o => (h.oo k o).2.1) (fun e => by have := (hE k e).1; omega), h.fo, fun k q => q.elim (fun o => (h.oo k o).2.2) (fun e f => (hE k e).2 (h.fn k (hE k e).1 f))⟩
theorem PW.back {w wr w2 : World} {E F F' O : Nat → Prop} {pw p cO : Nat} {y : Int × Wl.W × Dk.D} {D : Dk.D} {AO : Option Addr} {zs : List MRc} {e : Ending} (h : PW w wr E F F' O p D AO cO zs) (q : WOk (fun k => O k ∨ E k) F' pw p y wr e w2) : WOk E F pw p y w e w2 := by
  obtain ⟨q1, E2, F2, q2, q3, q4, q5⟩ := q
  have zw := h.but.size
  refine ⟨q1, E2, F2, q2, fun k hk f => (q3 k (by omega) f).elim (fun o => by have := (h.oo k o).1; omega) id, fun k hk f => h.fn k hk (q4 k (by omega) f), q5.os.trans h.but.os, q5.tape.trans h.but.tape, q5.output.trans h.but.output, Nat.le_trans zw q5.size, fun k hk hf => (q5.block k (by omega) (fun f => ?_)).trans (h.but.block k hk (fun f => hf (.inr f)))⟩
  rcases f with (o | e) | f
  · have := (h.oo k o).1; omega
  · exact hf (.inl e)
  · exact hf (.inr (h.fn k hk f))

set_option maxHeartbeats 16000000 in
theorem refPut_c {w : World} {E F : Nat → Prop} {pw p : Nat} {x : Wl.W} {d : Dk.D} {A : Option Addr} {n c : Nat} {ms : List MTx} (h : WD w E F pw p x d) (hd : d.ok) (hl : d.left ≤ 9223372036854775807) (hcl : d.cache.length ≤ 1000000) (ug : U64 (x.gen + 1)) (ut : U64 (x.tail + Wl.needs (txs ms)))
    (h1 : Wl.headOf x.recs x.tail ≤ x.tail) (h2 : x.tail - Wl.headOf x.recs x.tail ≤ Wl.ring d) (hm : x.recs.length ≤ 1000000) (ht : Txs w F A ms) (hn : n = ms.length) (hs : n ≤ 1000) (sw : Bool) :
    Calls Tryz.prog 43 #[.pointer (some ⟨pw, 0, none⟩), .slice A n c, .bool sw] w (WOk E F pw p (Wl.put x d (txs ms) sw) w) := by
  have HH := Lib.hid h
  have HD := Lib.hid hd
  have HL := Lib.hid hl
  have UG := Lib.hid ug
  have UT := Lib.hid ut
  have H1 := Lib.hid h1
  have H2 := Lib.hid h2
  have HT := Lib.hid ht
  have HN := Lib.hid hn
  have HM := Lib.hid hm
  have hf := hd.few
  obtain ⟨AL, cL, xs, r5, e5⟩ := h.rw
  have R5 := Lib.hid r5
  have E5 := Lib.hid e5
  obtain ⟨c0, _, c2, c3, c4, _⟩ := r5.fields
  clear h hd hl ug ut h1 h2 ht hm r5 e5 hn
  cases ho : x.over
  · rw [ho] at c4
    have HO := Lib.hid ho
    clear ho
    go_enter Tryz.func43, Tryz.ntmps43
    go_wp2_with fail
    go_loopw [7, 23] (fun u7 u23 wr => ∃ k : Nat, u23 = .int .i64 (k : Int) ∧ u7 = .int .i64 (Wl.needs ((txs ms).take k) : Int) ∧ k ≤ n ∧ (∀ b ∈ (txs ms).take k, b.length ≤ 60000) ∧ Below w.heap.size w wr) (fun _ u23 _ => n - (intOf u23).toNat)
    case atStart => exact ⟨0, rfl, rfl, Nat.zero_le _, by simp, Below.refl _ _⟩
    case round =>
      obtain ⟨k, rfl, rfl, hk, hsm, hbw⟩ := hrel
      have HB := Lib.hid hbw
      have HS := Lib.hid hsm
      have ns := needs_small ((txs ms).take k)
      have tl : ((txs ms).take k).length ≤ n := by rw [List.length_take, txs_len, ← HN.out]; omega
      clear hbw hsm
      by_cases hkn : k < n
      · obtain ⟨m, hmk⟩ : ∃ m, ms[k]? = some m := ⟨_, List.getElem?_eq_getElem (by rw [← HN.out]; exact hkn)⟩
        have hmem := List.mem_of_getElem? hmk
        obtain ⟨ad, rfl, hcell⟩ := HT.out.at (But.of_below HB.out F) hmk
        have LT := Lib.hid (HT.out.text (But.of_below HB.out F) hmem)
        have ml := (HT.out.t m hmem).2.2
        have bk : (txs ms)[k]? = some m.b := by simp [txs, hmk]
        have NT := Lib.hid (needs_take _ bk)
        have TK := Lib.hid (take_next bk)
        have nb := need_small m.b
        obtain ⟨N, hN⟩ : ∃ N, N = Wl.needs ((txs ms).take k) := ⟨_, rfl⟩
        obtain ⟨q, hq⟩ : ∃ q, q = Wl.need m.b := ⟨_, rfl⟩
        rw [← hN] at NT ns ⊢
        rw [← hq] at NT nb
        have HQ := Lib.hid hq
        have hcell2 : wr.cell? (ad.add k) = some (.slice m.A m.b.length m.c) := hcell
        clear hcell hN
        by_cases hz : q = 0
        · subst hz
          have PT : Hid (Wl.put x d (txs ms) sw = (2, x, d)) := Lib.hid (Wl.put_long HO.out (List.any_eq_true.2 ⟨m.b, List.mem_of_getElem? bk, decide_eq_true (need_zero.1 HQ.out.symm)⟩))
          clear NT ns nb bk tl TK hmk hmem HQ
          go_wp2_with fail
          refine (refNeed_c LT.out rfl (by omega)).mono ?_
          rintro e w1 ⟨rfl, hb1⟩
          have HB1 := Lib.hid hb1
          clear hb1
          rw [← hq]
          clear hq
          go_wp2
          go_ret
          rw [PT.out]
          exact WOk.same HH.out (HB.out.trans (HB1.out.mono HB.out.size))
        · have qz : ((q : Int) == 0) = false := by simp; omega
          have q6 : m.b.length ≤ 60000 := by
            rcases Nat.lt_or_ge 60000 m.b.length with h6 | h6
            · exact absurd (HQ.out.trans (need_zero.2 h6)) hz
            · exact h6
          have HS1 : Hid (∀ b ∈ (txs ms).take (k + 1), b.length ≤ 60000) := Lib.hid fun b hb => by
            rw [TK.out, List.mem_append, List.mem_singleton] at hb
            rcases hb with hb | rfl
            · exact HS.out b hb
            · exact q6
          have n1 : N ≤ 1000000 := by have : 938 * ((txs ms).take k).length ≤ 938 * 1000 := Nat.mul_le_mul_left _ (by omega); omega
          clear ns bk tl TK hmk hmem HS q6 hz
          go_wp2_with fail
          refine (refNeed_c LT.out rfl (by omega)).mono ?_
          rintro e w1 ⟨rfl, hb1⟩
          have HB1 := Lib.hid hb1
          have LT1 := Lib.hid (LT.out.below HB.out.size hb1)
          clear hb1
          rw [← hq]
          clear hq
          go_wp2_with fail
          refine (refNeed_c LT1.out rfl (by omega)).mono ?_
          rintro e w2 ⟨rfl, hb2⟩
          have HB2 := Lib.hid hb2
          clear hb2
          rw [← HQ.out]
          go_wp2
          go_roundw
          case rel => exact ⟨k + 1, by go_num, by rw [NT.out]; go_num, by omega, HS1.out, HB.out.trans ((HB1.out.mono HB.out.size).trans (HB2.out.mono (by have := HB.out.size; have := HB1.out.size; omega)))⟩
          case measure => simp [intOf]; omega
      · obtain rfl : n = k := by omega
        have tk : (txs ms).take n = txs ms := List.take_of_length_le (by rw [txs_len, ← HN.out]; exact Nat.le_refl _)
        rw [tk] at HS ns tl
        rw [tk]
        clear tk
        have hd1 := HD.out.few
        have HF : Hid (∀ u : World, Below w.heap.size w u → Calls Tryz.prog 27 #[.pointer (some ⟨pw, 0, none⟩)] u fun e w' => e = .returned (.int .i64 (Wl.free d x : Int)) ∧ ∃ n, w' = u.drewN n) := Lib.hid fun u hu => refFree_c (HH.out.keep hu) hd1 H1.out H2.out
        have fr1 : Wl.free d x ≤ 4096 := by unfold Wl.free Wl.ring; omega
        obtain ⟨N, hN⟩ : ∃ N, N = Wl.needs (txs ms) := ⟨_, rfl⟩
        obtain ⟨fr, hfr⟩ : ∃ fr, fr = Wl.free d x := ⟨_, rfl⟩
        rw [← hfr] at HF fr1
        rw [← hN] at ns ⊢
        have n1 : N ≤ 1000000 := by have : 938 * (txs ms).length ≤ 938 * 1000 := Nat.mul_le_mul_left _ (by omega); omega
        have HNN := Lib.hid hN
        have HFR := Lib.hid hfr
        clear hN hfr ns tl hd1
        have pl : pw < w.heap.size := lt_of_block R5.out.cell
        have d0 := (HB.out.cell (p := ⟨pw, 0, none⟩) pl).trans c0
        have d2 := (HB.out.cell (p := ⟨pw, 2, none⟩) pl).trans c2
        have d3 := (HB.out.cell (p := ⟨pw, 3, none⟩) pl).trans c3
        clear pl
        by_cases hz : fr < N
        · have PT : Hid (Wl.put x d (txs ms) sw = (51, x, d)) := Lib.hid (Wl.put_full HO.out HS.out (by rw [← HFR.out, ← HNN.out]; exact hz))
          go_wp2_with fail
          refine (HF.out _ HB.out).mono ?_
          rintro e w1 ⟨rfl, j, rfl⟩
          go_wp2
          go_ret
          rw [PT.out]
          exact WOk.same HH.out (below_drewN HB.out _)
        · obtain ⟨R0, hR0⟩ : ∃ R0, R0 = if sw = true then [] else x.recs := ⟨_, rfl⟩
          have HR0 := Lib.hid hR0
          obtain ⟨L, hLl⟩ : ∃ L, L = xs.length := ⟨_, rfl⟩
          have HLL := Lib.hid hLl
          have l1 : L ≤ 1000000 := by have := HM.out; rw [← E5.out, xrecs_len] at this; omega
          rw [← hLl] at d3
          have hE : Hid (∀ k, E k → k < w.heap.size ∧ ¬ F k) := Lib.hid fun k e => ⟨HH.out.eo k e, HH.out.ap k e⟩
          clear hR0 hLl
          go_wp2_with fail
          refine (HF.out _ HB.out).mono ?_
          rintro e w1 ⟨rfl, j, rfl⟩
          have PS := Lib.hid (PW.start HH.out (below_drewN HB.out j))
          go_upto_if 40 with fail
          go_cut [10] (fun u10 wx => ∃ (AO : Option Addr) (cO nO : Nat) (zs : List MRc) (O : Nat → Prop), u10 = .slice AO nO cO ∧ nO = zs.length ∧ PW w wx E F F O p d AO cO zs ∧ xrecs zs = R0 ∧ nO ≤ 1000000)
          case first =>
            obtain ⟨tr, hr0, ir0, ir1, ir2⟩ := info_parts Tryz.infoRec
            cases sw
            · go_wp2_with (at_builtin; refine wpList_app _ rfl _ _ 53 rfl 0 89 tr _ 3 40 Tryz.underlying53 hr0 ir0 ir1 ir2 rfl (by decide) _ 0 [] rfl (World.ownsRow_nil _ _ _ _) 0 AL L cL (xcells xs) 89 rfl (by rw [xcells_len, HLL.out]) ((R5.out.l.keepF R5.out.lF (PS.out.mine hE.out))) (xcells_one _) (by unfold maxLen; omega) (by omega) (Nat.zero_le _) ?_; intro v4 w4 hown4 hgr4 hbl4)
              rw [Nat.zero_add, List.nil_append] at hown4
              obtain ⟨A4, k4, rfl⟩ := own_slice hown4
              go_meet
              case rel => exact ⟨A4, k4, L, xs, _, rfl, HLL.out, PW.bulk PS.out (by exact hgr4) (by rw [← HLL.out]; exact hown4) (by rw [← HLL.out]; exact hbl4) (fun y hy => (R5.out.held y hy).keepF (PS.out.mine hE.out)), by rw [HR0.out]; exact E5.out, l1⟩
            · go_wp2
              go_meet
              case rel => exact ⟨none, 0, 0, [], _, rfl, rfl, PS.out, by rw [HR0.out]; rfl, by omega⟩
          case rest =>
            obtain ⟨AO, cO, nO, zs, O, rfl, hnO, hpw, hre, nO1⟩ := hcut
            obtain ⟨g0, _, g2, _, _, _⟩ := (R5.out.keep (hpw.mine hE.out)).fields
            have PW0 := Lib.hid hpw
            have NO := Lib.hid hnO
            have RE := Lib.hid hre
            obtain ⟨r, hr⟩ : ∃ r, r = Wl.ring d := ⟨_, rfl⟩
            obtain ⟨Z, hZ⟩ : ∃ Z, Wl.wrs r x.tail (Wl.chunks (txs ms)) d = Z := ⟨_, rfl⟩
            have HR := Lib.hid hr
            have HZ := Lib.hid hZ
            have rN : N ≤ r := by have := HFR.out; rw [hr]; unfold Wl.free at this; omega
            have r1 : r ≤ 4096 := by rw [hr]; unfold Wl.ring; omega
            clear hpw hnO hre hr hZ d0 d2 d3 c0 c2 c3 c4
            go_wp2_with fail
            go_loopw [10, 11, 53] (fun u10 u11 u53 wr => ∃ (k P nO : Nat) (AO : Option Addr) (cO : Nat) (zs : List MRc) (O F' : Nat → Prop) (D : Dk.D), u10 = .slice AO nO cO ∧ u11 = .int .u64 (P : Int) ∧ u53 = .int .i64 (k : Int) ∧ k ≤ n ∧ nO ≤ 1000000 + k ∧ P = x.tail + Wl.needs ((txs ms).take k) ∧ nO = zs.length ∧ PW w wr E F F' O p D AO cO zs ∧ xrecs zs = R0 ++ Wl.recsAt x.tail ((txs ms).take k) ∧ Wl.wrs r P (Wl.chunks ((txs ms).drop k)) D = Z ∧ PD D d.s.length (P - x.tail)) (fun _ _ u53 _ => n - (intOf u53).toNat)
            case atStart => exact ⟨0, x.tail, nO, AO, cO, zs, O, F, d, rfl, rfl, rfl, Nat.zero_le _, by omega, by simp [Wl.needs], NO.out, PW0.out, by rw [RE.out]; simp [Wl.recsAt], HZ.out, HD.out, HL.out, by omega, rfl⟩
            case round =>
              obtain ⟨k, P, nO, AO, cO, zs, O, F', D, rfl, rfl, rfl, hk, nO2, hP, hnO, hpw, hre, hwr, hpd⟩ := hrel
              by_cases hkn : k < n
              · obtain ⟨m, hmk⟩ : ∃ m, ms[k]? = some m := ⟨_, List.getElem?_eq_getElem (by rw [← HN.out]; exact hkn)⟩
                have hmem := List.mem_of_getElem? hmk
                obtain ⟨ad, rfl, hcell⟩ := HT.out.at hpw.but hmk
                have LT := Lib.hid (HT.out.text hpw.but hmem)
                have bk : (txs ms)[k]? = some m.b := by simp [txs, hmk]
                have m6 := HS.out m.b (List.mem_of_getElem? bk)
                have NT := Lib.hid (needs_take _ bk)
                have TK := Lib.hid (take_next bk)
                have DK := Lib.hid (drop_next bk)
                have BK := Lib.hid bk
                have hcell2 : wr.cell? (ad.add k) = some (.slice m.A m.b.length m.c) := hcell
                have PWk := Lib.hid hpw
                have NOk := Lib.hid hnO
                have REk := Lib.hid hre
                have WRk := Lib.hid hwr
                have PDk := Lib.hid hpd
                have HPk := Lib.hid hP
                clear hpw hnO hre hwr hpd hP hcell hmem bk
                go_wp2_with fail
                refine (refFrame_c LT.out rfl m6).mono ?_
                rintro e w1 ⟨A1, n1, c1, rfl, ho, hb⟩
                obtain ⟨hn1, hc1⟩ := own_room ho
                have PW1 := Lib.hid (PWk.out.keep hE.out hb)
                have zk := PWk.out.but.size
                have AF : Hid (InF (fun b => ¬ F' b ∧ b < w1.heap.size) A1) := Lib.hid fun a0 e => by
                  subst e
                  have q := ho.lt a0.block rfl
                  exact ⟨fun f => by have := PWk.out.fo _ f; omega, q.2⟩
                have L1 := Lib.hid (lies_own (B := 0) ho)
                have NE := Lib.hid (need_cut m6)
                have n17 : n1 = 7 + m.b.length := by rw [hn1, Fr.frame_len]
                have HB1 := Lib.hid hb
                have HN1 : Hid (n1 = (Fr.frame m.b).length) := Lib.hid hn1
                have NS := Lib.hid (show Wl.needs (txs ms) = Wl.needs ((txs ms).take k) + Wl.need m.b + Wl.needs ((txs ms).drop (k + 1)) by
                  rw [← NT.out, ← Wl.needs_app, List.take_append_drop])
                have n6 : n1 ≤ 60007 := by omega
                clear ho hb hn1 n17
                go_wp2_with fail
                go_loopw [11, 14] (fun u11 u14 wr2 => ∃ (P2 nf : Nat) (Af : Option Addr) (cf : Nat) (fb : List UInt8) (F2 : Nat → Prop) (D2 : Dk.D), u11 = .int .u64 (P2 : Int) ∧ u14 = .slice Af nf cf ∧ nf = fb.length ∧ nf ≤ 60007 ∧ nf ≤ cf ∧ Lies wr2 0 5 Af (bcells fb) ∧ InF (fun b => ¬ F2 b ∧ b < wr2.heap.size) Af ∧ P ≤ P2 ∧ P2 + (Wl.cut fb).length = P + Wl.need m.b ∧ PW w wr2 E F F2 O p D2 AO cO zs ∧ Wl.wrs r P2 (Wl.cut fb ++ Wl.chunks ((txs ms).drop (k + 1))) D2 = Z ∧ PD D2 d.s.length (P2 - x.tail)) (fun u11 _ _ => P + Wl.need m.b - (intOf u11).toNat)
                case atStart => exact ⟨P, n1, A1, c1, Fr.frame m.b, F', D, rfl, rfl, HN1.out, n6, by rw [HN1.out]; exact hc1, L1.out, AF.out, Nat.le_refl _, by rw [← NE.out], PW1.out, by rw [← WRk.out, DK.out, Wl.chunks_cons], PDk.out⟩
                case round =>
                  obtain ⟨P2, nf, Af, cf, fb, F2, D2, rfl, rfl, hnf, nf6, hcf, hlf, hif, hP2, hPN, hpw2, hwr2, hpd2⟩ := hrel
                  by_cases hz0 : nf = 0
                  · obtain rfl : fb = [] := List.eq_nil_of_length_eq_zero (by omega)
                    obtain ⟨tr, hr0, ir0, ir1, ir2⟩ := info_parts Tryz.infoRec
                    obtain ⟨ti, hi, iz0, iz1, iz2⟩ := info_parts Tryz.infoU8
                    have PW2 := Lib.hid hpw2
                    have WR2 := Lib.hid hwr2
                    have PD2 := Lib.hid hpd2
                    have LT2 := Lib.hid (HT.out.text hpw2.but (List.mem_of_getElem? hmk))
                    have eP : Hid (P2 = P + Wl.need m.b) := Lib.hid (by rw [← hPN, Wl.cut_nil]; rfl)
                    clear hpw2 hwr2 hpd2 hlf hif hnf hPN
                    subst hz0
                    go_wp2_with (first | (at_builtin; refine wpList_app _ rfl _ _ 57 rfl wr.heap.size 5 ti (.int .u8 0) 1 1 Tryz.underlying57 hi iz0 iz1 iz2 rfl (by decide) _ 0 [] rfl (World.ownsRow_nil _ _ _ _) w.heap.size m.A m.b.length m.c (bcells m.b) 5 rfl (by rw [bcells_len, Nat.mul_one]) LT2.out (bcells_one _) (by unfold maxLen; omega) (by omega) (Nat.le_refl _) ?_; intro v6 w6 hown6 hgr6 _; rw [Nat.zero_add, List.nil_append] at hown6; obtain ⟨A6, k6, rfl⟩ := own_slice hown6; have O6 := Lib.hid hown6; have B6 : Hid (Below wr.heap.size wr w6) := Lib.hid ((Below.refl wr.heap.size wr).grown hgr6 (Nat.le_refl _) (fun k e => by cases e)); have PW6 := Lib.hid (PW2.out.keep hE.out B6.out); clear hown6 hgr6) | (at_builtin; refine wpList_app _ rfl _ _ 53 rfl 0 89 tr _ 3 40 Tryz.underlying53 hr0 ir0 ir1 ir2 rfl (by decide) _ nO (xcells zs) rfl (by rw [NOk.out]; exact own_below PW6.out.out ((Below.refl _ _).alloc (Nat.le_refl _) _)) 0 (some ⟨w6.heap.size, 0, none⟩) 1 1 (MRc.cells ⟨⟨m.b, A6, k6⟩, P, P2⟩) 89 rfl rfl (by exact Lies.of_blk (heap_alloc_new w6 (.cells #[.slice A6 m.b.length k6, .int .u64 (P : Int), .int .u64 (P2 : Int)] 89))) (fun u hu2 => xcells_one [⟨⟨m.b, A6, k6⟩, P, P2⟩] u (by simpa [xcells] using hu2)) (by unfold maxLen; omega) (by omega) (Nat.zero_le _) ?_; intro v8 w8 hown8 hgr8 hbl8; obtain ⟨A8, k8, rfl⟩ := own_slice hown8; have O8 := Lib.hid hown8; have G8 := Lib.hid hgr8; have L8 := Lib.hid hbl8; clear hown8 hgr8 hbl8))
                    refine ⟨?_, by simp [intOf]; omega⟩
                    have zw6 := B6.out.size
                    have PW7 := PW6.out.keep hE.out ((Below.refl w6.heap.size w6).alloc (Nat.le_refl _) (.cells #[.slice A6 m.b.length k6, .int .u64 (P : Int), .int .u64 (P2 : Int)] 89))
                    have PWg := PW7.give (B := wr.heap.size) PW2.out.but.size PW2.out.fo
                    have zs7 : (w6.alloc (.cells #[.slice A6 m.b.length k6, .int .u64 (P : Int), .int .u64 (P2 : Int)] 89)).heap.size = w6.heap.size + 1 := by simp
                    have nO3 := NOk.out
                    have ut := UT.out
                    have hh1 := HPk.out
                    have hh2 := eP.out
                    have hh3 := NS.out
                    have hz8 : HeldR (w6.alloc (.cells #[.slice A6 m.b.length k6, .int .u64 (P : Int), .int .u64 (P2 : Int)] 89)) (fun k => (O k ∨ wr.heap.size ≤ k ∧ k < (w6.alloc (.cells #[.slice A6 m.b.length k6, .int .u64 (P : Int), .int .u64 (P2 : Int)] 89)).heap.size) ∨ E k) ⟨⟨m.b, A6, k6⟩, P, P2⟩ := by
                      refine ⟨⟨(lies_own (B := 0) O6.out).alloc (Nat.zero_le _) _, (own_room O6.out).2⟩, fun a0 e => ?_, m6, (show U64 P from Nat.lt_of_le_of_lt (by omega) ut), (show U64 P2 from Nat.lt_of_le_of_lt (by omega) ut)⟩
                      have e' : A6 = some a0 := e
                      subst e'
                      have q := O6.out.lt a0.block rfl
                      exact .inl (.inr ⟨q.1, by rw [zs7]; omega⟩)
                    have PW8 := PWg.more (z := ⟨⟨m.b, A6, k6⟩, P, P2⟩) (A2 := A8) (c2 := k8) (by rw [← nO3]; exact G8.out) (by rw [← nO3]; exact O8.out) (by rw [← nO3]; exact L8.out) hz8
                    refine ⟨k + 1, P2, nO + 1, A8, k8, zs ++ [⟨⟨m.b, A6, k6⟩, P, P2⟩], _, F2, D2, rfl, rfl, by go_num, by omega, by omega, by rw [NT.out]; omega, by rw [List.length_append, nO3]; rfl, PW8, ?_, by rw [← WR2.out, Wl.cut_nil]; rfl, PD2.out⟩
                    rw [xrecs_snoc, REk.out, TK.out, recsAt_snoc, ← List.append_assoc, ← hh1, ← hh2]
                    rfl
                  · have PW2 := Lib.hid hpw2
                    have WR2 := Lib.hid hwr2
                    have PD2 := Lib.hid hpd2
                    have LF2 := Lib.hid hlf
                    have IF2 := Lib.hid hif
                    have NF2 := Lib.hid hnf
                    have PN2 := Lib.hid hPN
                    obtain ⟨q, hq⟩ : ∃ q, q = min nf 64 := ⟨_, rfl⟩
                    have HQ := Lib.hid hq
                    have q1 : q ≤ 64 := by omega
                    have q2 : q ≤ nf := by omega
                    have fne : fb ≠ [] := fun e => hz0 (by rw [hnf, e]; rfl)
                    have CQ : Hid (Wl.cut fb = fb.take q :: Wl.cut (fb.drop q)) := Lib.hid (by
                      rw [Wl.cut_cons fne]
                      rcases Nat.lt_or_ge nf 64 with h64 | h64
                      · rw [show q = nf by omega, List.take_of_length_le (by omega), List.take_of_length_le (by omega), List.drop_eq_nil_of_le (by omega), List.drop_eq_nil_of_le (by omega)]
                      · rw [show q = 64 by omega])
                    have CL : (Wl.cut fb).length = (Wl.cut (fb.drop q)).length + 1 := by rw [CQ.out]; rfl
                    have CLH := Lib.hid CL
                    have hlt : P2 < P + Wl.need m.b := by omega
                    have hmx : P + Wl.need m.b ≤ x.tail + N := by have := HPk.out; have := NS.out; have := HNN.out; omega
                    have hpt : x.tail ≤ P := by have := HPk.out; omega
                    clear hpw2 hwr2 hpd2 hlf hif hnf hPN hq fne CL
                    go_upto_if 66 with fail
                    go_cut [16] (fun u16 wx => u16 = .int .i64 (q : Int) ∧ wx = wr)
                    case first =>
                      by_cases h64 : 64 < nf
                      · have h64' : (64 : Int) < (nf : Int) := by omega
                        have e6 := Lib.hid (show q = 64 by rw [HQ.out]; omega)
                        clear h64
                        go_wp2
                        go_meet
                        case rel => exact ⟨by rw [e6.out]; rfl, rfl⟩
                      · have h64' : ¬ (64 : Int) < (nf : Int) := by omega
                        have e6 := Lib.hid (show q = nf by rw [HQ.out]; omega)
                        clear h64
                        go_wp2
                        go_meet
                        case rel => exact ⟨by rw [e6.out], rfl⟩
                    case rest =>
                      obtain ⟨rfl, rfl⟩ := hcut
                      obtain ⟨g0, _, g2, _, _, _⟩ := (R5.out.keep (PW2.out.mine hE.out)).fields
                      have RW1 := PW2.out.rd
                      have RQ : Hid (∀ u : World, u.heap = wc.heap → Calls Tryz.prog 34 #[.pointer (some ⟨p, 0, none⟩)] u fun e w' => e = .returned (.int .u64 (r : Int)) ∧ w' = u) := Lib.hid fun u hu => by
                        have q := ring_q (RW1.keep (fun k _ => by rw [hu])) (by rw [PD2.out.len]; exact hf)
                        have e : Wl.ring D2 = r := by rw [HR.out]; unfold Wl.ring; rw [PD2.out.len]
                        rw [e] at q
                        exact q
                      have r0 : 1 ≤ r := by have := Wl.need_pos m6; have := NS.out; have := PN2.out; have := HNN.out; have := NE.out; omega
                      obtain ⟨M, hM⟩ : ∃ M, M = P2 % r := ⟨_, rfl⟩
                      have pm : M < r := by rw [hM]; exact Nat.mod_lt _ (by omega)
                      have pt : (P2 : Int).tmod (r : Int) = (M : Int) := by rw [hM, Int.ofNat_tmod]
                      have pm3 : (M : Int) ≤ 4096 := by omega
                      have rz : ¬ r = 0 := by omega
                      obtain ⟨e1, D3, hw3⟩ : ∃ e1 D3, Dk.write D2 ((2 + M : Nat) : Int) (fb.take q) = (e1, D3) := ⟨_, _, rfl⟩
                      have W3 := Lib.hid hw3
                      have HM2 := Lib.hid hM
                      have hq1 : (q : Int) ≤ 64 := by omega
                      have hq2 : (q : Int) ≤ (nf : Int) := by omega
                      have hq3 : (nf : Int) ≤ (cf : Int) := by omega
                      have hq4 : q ≤ cf := by omega
                      have ut := UT.out.int
                      have wP : IntKind.u64.wrap ((P2 : Int) + 1) = ((P2 + 1 : Nat) : Int) := by rw [IntKind.wrap_u64]; have := HNN.out; omega
                      clear hw3 hM ut
                      go_upto_region 26 with fail
                      go_still_tail 16, (by kernel_rfl)
                      still_call (RQ.out _ rfl)
                      repeat still_step
                      refine wpStill_nil ?_
                      change wpList _ _ _ _ _ wc.drew
                      clear pt rz
                      go_wp2_with fail
                      have PWd := PW2.out.keep hE.out (Below.refl wc.heap.size wc).drew
                      have cw := refWrite_c (w := wc.drew) (p := p) (A := Af) (n := q) (c := cf) PWd.rd PD2.out.ok PD2.out.left (by have := PD2.out.few; omega) (by rw [← bcells_take]; exact LF2.out.take q) (fun _ => IF2.out) (by rw [List.length_take, ← NF2.out]; omega) ((2 + M : Nat) : Int)
                      rw [W3.out] at cw
                      refine cw.mono ?_
                      rintro e w3 ⟨rfl, hr3, hb3⟩
                      have hpw3 := PWd.disk hE.out hr3 hb3
                      obtain ⟨g0', _, _, _, g4', gf'⟩ := (R5.out.keep (hpw3.mine hE.out)).fields
                      have gf4 := gf' 4
                      have PW3 := Lib.hid hpw3
                      have PD3 := Lib.hid (PD2.out.write W3.out)
                      have B3 := Lib.hid hb3
                      clear cw hr3 hb3 hpw3 PWd gf'
                      by_cases z1 : e1 = 0
                      · subst z1
                        go_wp2
                        go_roundw
                        case rel =>
                          have L3 : Lies w3 0 5 Af (bcells fb) := LF2.out.keepF IF2.out (fun b hb => B3.out.block b hb.2 hb.1)
                          have z3 := B3.out.size
                          have I3 : InF (fun b => ¬ (Up F2 wc.heap.size b ∧ b < w3.heap.size) ∧ b < w3.heap.size) Af := IF2.out.mono (fun b hb => ⟨fun u => u.1.elim hb.1 (fun t => by have := hb.2; have t' : wc.heap.size ≤ b := t; omega), Nat.lt_of_lt_of_le hb.2 z3⟩)
                          have n3 := NF2.out
                          refine ⟨P2 + 1, nf - q, _, cf - q, fb.drop q, _, D3, rfl, rfl, by rw [List.length_drop, n3], by omega, by omega, by have := L3.cut q cf (by rw [bcells_len]; omega); rwa [bcells_drop] at this, ?_, by omega, by have := CLH.out; have := PN2.out; omega, PW3.out, ?_, ?_⟩
                          · intro a0 e0
                            split at e0
                            · exact I3 a0 e0
                            · cases Af with
                              | none => cases e0
                              | some a1 =>
                                injection e0 with e0
                                subst e0
                                rw [addr_block]
                                exact I3 a1 rfl
                          · have q := WR2.out
                            rw [CQ.out, List.cons_append, Wl.wrs_one (by rw [← HM2.out]; exact W3.out)] at q
                            exact q
                          · rw [show P2 + 1 - x.tail = (P2 - x.tail) + 1 by omega]
                            exact PD3.out
                        case measure => simp [intOf]; omega
                      · have zz : (e1 != 0) = true := by simp [z1]
                        have Z1 := Lib.hid z1
                        clear z1
                        go_wp2
                        go_ret
                        have hZ2 : Z = (e1, D3) := by
                          rw [← WR2.out, CQ.out, List.cons_append]
                          exact Wl.wrs_bad (by rw [← HM2.out]; exact W3.out) Z1.out
                        rw [Wl.put_bad HO.out HS.out (by rw [← HFR.out, ← HNN.out]; exact hz) (by rw [← HR.out, HZ.out]; exact hZ2) Z1.out]
                        exact PW3.out.bad HH.out R5.out E5.out
              · obtain rfl : n = k := by omega
                have tk : (txs ms).take n = txs ms := List.take_of_length_le (by rw [txs_len, ← HN.out]; exact Nat.le_refl _)
                have dk : (txs ms).drop n = [] := List.drop_eq_nil_of_le (by rw [txs_len, ← HN.out]; exact Nat.le_refl _)
                rw [tk] at hP hre
                rw [dk] at hwr
                have hw0 : Z = (0, D) := hwr.symm
                have PWk := Lib.hid hpw
                have PDk := Lib.hid hpd
                have PT : Hid (Wl.put x d (txs ms) sw = Wl.turn x D (xrecs zs) P) := Lib.hid (by
                  rw [Wl.put_turn HO.out HS.out (by rw [← HFR.out, ← HNN.out]; exact hz) (by rw [← HR.out, HZ.out]; exact hw0), hre, HR0.out, hP])
                have UP : Hid (U64 P) := Lib.hid (by rw [hP]; exact UT.out)
                have NOk := Lib.hid hnO
                have fw : D.cache.length ≤ 10000000 := by have := hpd.few; have := HNN.out; omega
                clear hpw hnO hre hwr hpd hP tk dk hw0
                go_wp2_with fail
                refine (refTurn_c (PWk.out.wd HH.out) HO.out PDk.out.ok PDk.out.left fw (lies_own (B := 0) PWk.out.out) (PWk.out.oF.mono (fun _ => .inl)) (own_room PWk.out.out).2 PWk.out.held NOk.out UP.out UG.out).mono ?_
                rintro e w3 hp
                have hp2 := PWk.out.back hp
                rw [← PT.out] at hp2
                obtain ⟨rfl, hq⟩ := hp2
                have HQ := Lib.hid hq
                clear hp hq
                go_wp2
                go_ret
                exact ⟨rfl, HQ.out⟩
  · rw [ho] at c4
    have PT : Hid (Wl.put x d (txs ms) sw = (50, x, d)) := Lib.hid (Wl.put_over ho)
    clear ho
    go_enter Tryz.func43, Tryz.ntmps43
    go_wp2
    go_ret
    rw [PT.out]
    exact WOk.same HH.out (Below.refl _ _)

namespace Wl
/-- What every wal keeps that was opened well, whatever is done with it. -/
structure Tidy (w : W) (r h : Nat) (l : List (List UInt8)) : Prop where
  recs : w.recs = recsAt h l
  tail : w.tail = h + needs l
  fits : needs l ≤ r
theorem Tidy.head {w : W} {r h : Nat} {l : List (List UInt8)} (t : Tidy w r h l) : headOf w.recs w.tail = h := by rw [t.recs, t.tail, headOf_at]
theorem Tidy.le {w : W} {r h : Nat} {l : List (List UInt8)} (t : Tidy w r h l) : headOf w.recs w.tail ≤ w.tail := by rw [t.head, t.tail]; omega
theorem Tidy.room {w : W} {r h : Nat} {l : List (List UInt8)} (t : Tidy w r h l) : w.tail - headOf w.recs w.tail ≤ r := by rw [t.head, t.tail]; have := t.fits; omega
theorem Tidy.over {w : W} {r h : Nat} {l : List (List UInt8)} (t : Tidy w r h l) : Tidy { w with over := true } r h l := ⟨t.recs, t.tail, t.fits⟩
theorem turn_tidy {w : W} {r h h' : Nat} {l l' : List (List UInt8)} (t : Tidy w r h l) (d : Dk.D) {x : List Rec} {p : Nat} (hx : x = recsAt h' l') (hp : p = h' + needs l') (hr : needs l' ≤ r) :
    Tidy (turn w d x p).2.1 r h l ∨ Tidy (turn w d x p).2.1 r h' l' := by
  unfold turn
  split
  · exact .inr ⟨hx, hp, hr⟩
  · exact .inl t.over
theorem put_tidy {w : W} {d : Dk.D} {h : Nat} {l : List (List UInt8)} (t : Tidy w (ring d) h l) (m : List (List UInt8)) (s : Bool) : ∃ h' l', Tidy (put w d m s).2.1 (ring d) h' l' := by
  unfold put
  split
  · exact ⟨h, l, t⟩
  split
  · exact ⟨h, l, t⟩
  split
  · exact ⟨h, l, t⟩
  rename_i _ _ hf
  have fr : needs m ≤ ring d - needs l := by
    unfold free at hf
    rw [t.head, t.tail] at hf
    omega
  have ft := t.fits
  split
  · cases s
    · exact (turn_tidy t _ (h' := h) (l' := l ++ m) (by rw [t.recs, t.tail, recsAt_app]; rfl) (by rw [t.tail, needs_app, Nat.add_assoc]) (by rw [needs_app]; omega)).elim (fun q => ⟨_, _, q⟩) (fun q => ⟨_, _, q⟩)
    · exact (turn_tidy t _ (h' := w.tail) (l' := m) (by simp) rfl (by omega)).elim (fun q => ⟨_, _, q⟩) (fun q => ⟨_, _, q⟩)
  · exact ⟨h, l, t.over⟩
theorem needs_drop (l : List (List UInt8)) (n : Nat) : needs (l.take n) + needs (l.drop n) = needs l := by rw [← needs_app, List.take_append_drop]
theorem drop_tidy {w : W} {r : Nat} {d : Dk.D} {h : Nat} {l : List (List UInt8)} (t : Tidy w r h l) (n : Int) : ∃ h' l', Tidy (drop w d n).2.1 r h' l' := by
  unfold drop
  split
  · exact ⟨h, l, t⟩
  split
  · exact ⟨h, l, t⟩
  have q := needs_drop l n.toNat
  have ft := t.fits
  exact (turn_tidy t d (h' := h + needs (l.take n.toNat)) (l' := l.drop n.toNat) (by rw [t.recs, recsAt_drop]) (by rw [t.tail]; omega) (by omega)).elim (fun q => ⟨_, _, q⟩) (fun q => ⟨_, _, q⟩)
theorem Good.tidy {d : Dk.D} {g h : Nat} {l : List (List UInt8)} (t : Good d g h l) : Tidy ⟨g, h + needs l, recsAt h l, false⟩ (ring d) h l := ⟨rfl, rfl, t.fits⟩
end Wl

theorem PD.up {D : Dk.D} {L m m' : Nat} (h : PD D L m) (hm : m ≤ m') : PD D L m' := ⟨h.ok, h.left, by have := h.few; omega, h.len⟩
theorem PD.flush {D : Dk.D} {L m : Nat} (h : PD D L m) : PD (Dk.flush D).2 L m := by
  refine ⟨Dk.flush_ok h.ok, Dk.flush_left h.left, Dk.flush_few h.few, ?_⟩
  have a : (Dk.act D).2.s.length = D.s.length := by
    unfold Dk.act
    split
    · rfl
    · dsimp only
      split <;> rfl
  unfold Dk.flush
  split
  · show (Dk.keepAll D.s D.cache).length = L
    rw [Dk.keepAll_len]
    exact h.len
  · exact a.trans h.len
theorem PD.then {D : Dk.D} {L m : Nat} (h : PD D L m) (i : Int) (b : List UInt8) : PD (Dk.write D i b).2 L (m + 1) := h.write rfl
theorem PD.save {D : Dk.D} {L m : Nat} (h : PD D L m) (g : Nat) (l : List Nat) : PD (Su.save D g l).2 L (m + 1) := by
  unfold Su.save
  split
  · exact h.up (by omega)
  split
  · split
    · exact (h.flush.then _ _).flush
    · exact h.flush.then _ _
  · exact h.flush.up (by omega)
theorem PD.format {D : Dk.D} {L m : Nat} (h : PD D L m) (l : List Nat) : PD (Su.format D l).2 L (m + 3) := by
  unfold Su.format
  split
  · split
    · exact ((h.then _ _).then _ _).save _ _
    · exact ((h.then _ _).then _ _).up (by omega)
  · exact (h.then _ _).up (by omega)
theorem PD.wrs {r : Nat} (cs : List (List UInt8)) : ∀ {D : Dk.D} {L m : Nat} (p : Nat), PD D L m → PD (Wl.wrs r p cs D).2 L (m + cs.length) := by
  induction cs with
  | nil => intro D L m p h; exact h
  | cons c cs ih =>
    intro D L m p h
    unfold Wl.wrs
    split
    · have q := ih (p + 1) (h.then ((2 + p % r : Nat) : Int) c)
      rw [show m + 1 + cs.length = m + (c :: cs).length by simp; omega] at q
      exact q
    · exact (h.then _ _).up (by simp)
theorem PD.turn {D : Dk.D} {L m : Nat} (h : PD D L m) (w : Wl.W) (x : List Wl.Rec) (t : Nat) : PD (Wl.turn w D x t).2.2 L (m + 1) := by
  unfold Wl.turn
  split
  · exact h.save _ _
  · exact h.save _ _
theorem PD.put {D : Dk.D} {L m : Nat} (h : PD D L m) (w : Wl.W) (l : List (List UInt8)) (s : Bool) (hl : ∀ b ∈ l, b.length ≤ 60000) : PD (Wl.put w D l s).2.2 L (m + Wl.needs l + 1) := by
  have c := PD.wrs (r := Wl.ring D) (Wl.chunks l) w.tail h
  rw [Wl.chunks_len hl] at c
  unfold Wl.put
  split
  · exact h.up (by omega)
  split
  · exact h.up (by omega)
  split
  · exact h.up (by omega)
  split
  · exact c.turn _ _ _
  · exact c.up (by omega)
theorem PD.drop {D : Dk.D} {L m : Nat} (h : PD D L m) (w : Wl.W) (n : Int) : PD (Wl.drop w D n).2.2 L (m + 1) := by
  unfold Wl.drop
  split
  · exact h.up (by omega)
  split
  · exact h.up (by omega)
  exact h.turn _ _ _
namespace Wl
/-- How far a change moves a wal's numbers. -/
theorem turn_far (w : W) (d : Dk.D) (x : List Rec) (t : Nat) : (turn w d x t).2.1.gen ≤ w.gen + 1 ∧ ((turn w d x t).2.1.tail = t ∨ (turn w d x t).2.1.tail = w.tail) := by
  unfold turn
  split
  · exact ⟨Nat.le_refl _, .inl rfl⟩
  · exact ⟨Nat.le_succ _, .inr rfl⟩
theorem put_far (w : W) (d : Dk.D) (l : List (List UInt8)) (s : Bool) : (put w d l s).2.1.gen ≤ w.gen + 1 ∧ (put w d l s).2.1.tail ≤ w.tail + needs l := by
  unfold put
  split
  · exact ⟨Nat.le_succ _, Nat.le_add_right _ _⟩
  split
  · exact ⟨Nat.le_succ _, Nat.le_add_right _ _⟩
  split
  · exact ⟨Nat.le_succ _, Nat.le_add_right _ _⟩
  split
  · obtain ⟨h1, h2⟩ := turn_far w (wrs (ring d) w.tail (chunks l) d).2 ((if s = true then [] else w.recs) ++ recsAt w.tail l) (w.tail + needs l)
    exact ⟨h1, by rcases h2 with h2 | h2 <;> omega⟩
  · exact ⟨Nat.le_succ _, Nat.le_add_right _ _⟩
theorem drop_far (w : W) (d : Dk.D) (n : Int) : (drop w d n).2.1.gen ≤ w.gen + 1 ∧ (drop w d n).2.1.tail ≤ w.tail := by
  unfold drop
  split
  · exact ⟨Nat.le_succ _, Nat.le_refl _⟩
  split
  · exact ⟨Nat.le_succ _, Nat.le_refl _⟩
  obtain ⟨h1, h2⟩ := turn_far w d (w.recs.drop n.toNat) w.tail
  exact ⟨h1, by rcases h2 with h2 | h2 <;> omega⟩
end Wl

open Go.RowKit


/-- What Records hands back: a list of its own; its texts are the wal's. -/
def RecsOk (E : Nat → Prop) (l : List (List UInt8)) (w : World) (e : Ending) (w' : World) : Prop :=
  ∃ (A : Option Addr) (n c : Nat) (ms : List MTx), e = .returned (.slice A n c) ∧ n = ms.length ∧ txs ms = l ∧ w'.ownsRow w.heap.size 57 1 (.slice A n c) n (tcells ms) ∧ Below w.heap.size w w' ∧ ∀ m ∈ ms, m.fine w 0 5 ∧ InF E m.A ∧ m.b.length ≤ 60000

theorem xr_at {w : World} {B : Nat} {t : TypeId} {A : Option Addr} {l : List MRc} (h : Lies w B t A (xcells l)) {k : Nat} {x : MRc} (hx : l[k]? = some x) : ∃ ad, A = some ad ∧
    w.cell? (ad.add (k * 3)) = some x.m.cell ∧ w.cell? ⟨(ad.add (k * 3)).block, (ad.add (k * 3)).off + 1, none⟩ = some (.int .u64 (x.fr : Int)) ∧ w.cell? ⟨(ad.add (k * 3)).block, (ad.add (k * 3)).off + 2, none⟩ = some (.int .u64 (x.to : Int)) := by
  have hk : k < l.length := (List.getElem?_eq_some_iff.1 hx).1
  obtain ⟨ad, e, _, hc⟩ := h (fun q => by
    have := xcells_len l
    rw [q] at this
    simp at this
    omega)
  have c : ∀ j u, j < 3 → x.cells[j]? = some u → w.cell? ((ad.add (k * 3)).add j) = some u := fun j u hj hu => by
    rw [addr_add]
    refine hc _ _ ?_
    have q : ((xcells l).drop (k * 3))[j]? = (xcells l)[k * 3 + j]? := List.getElem?_drop
    rw [← q, xcells_drop, drop_next hx, show xcells (x :: l.drop (k + 1)) = x.cells ++ xcells (l.drop (k + 1)) from rfl, List.getElem?_append_left (by rw [xcells_three]; exact hj)]
    exact hu
  exact ⟨ad, e, c 0 _ (by omega) rfl, c 1 _ (by omega) rfl, c 2 _ (by omega) rfl⟩

set_option maxHeartbeats 4000000 in
theorem refRecords_c {w : World} {E F : Nat → Prop} {pw p : Nat} {x : Wl.W} {d : Dk.D} (h : WD w E F pw p x d) (hm : x.recs.length ≤ 1000000) :
    Calls Tryz.prog 24 #[.pointer (some ⟨pw, 0, none⟩)] w (RecsOk E (x.recs.map (·.b)) w) := by
  have HH := Lib.hid h
  obtain ⟨AL, cL, xs, r5, e5⟩ := h.rw
  have R5 := Lib.hid r5
  obtain ⟨_, _, _, c3, _, _⟩ := r5.fields
  have xl : xs.length = x.recs.length := by rw [← e5, xrecs_len]
  obtain ⟨L, hL⟩ : ∃ L, L = xs.length := ⟨_, rfl⟩
  rw [← hL] at c3
  have HL := Lib.hid hL
  have hl1 : L ≤ 1000000 := by omega
  have EX : Hid (x.recs.map (·.b) = txs (xs.map MRc.m)) := Lib.hid (by rw [← e5]; simp [txs, xrecs, MRc.told])
  clear h r5 e5 xl hL
  go_enter Tryz.func24, Tryz.ntmps24
  go_wp2_with fail
  go_loopw [3, 11] (fun u3 u11 wr => ∃ (k : Nat) (A : Option Addr) (c : Nat), u3 = .slice A k c ∧ u11 = .int .i64 (k : Int) ∧ k ≤ L ∧ wr.ownsRow w.heap.size 57 1 (.slice A k c) k (tcells ((xs.map MRc.m).take k)) ∧ Below w.heap.size w wr) (fun _ u11 _ => L - (intOf u11).toNat)
  case atStart => exact ⟨0, none, 0, rfl, rfl, Nat.zero_le _, World.ownsRow_nil _ _ _ _, Below.refl _ _⟩
  case round =>
    obtain ⟨k, A, c, rfl, rfl, hk, ho, hb⟩ := hrel
    by_cases hkn : k < L
    · obtain ⟨y, hy⟩ : ∃ y, xs[k]? = some y := ⟨_, List.getElem?_eq_getElem (by rw [← HL.out]; exact hkn)⟩
      obtain ⟨ad, rfl, d0, d1, d2⟩ := xr_at ((R5.out.keep (fun q e => hb.block q (HH.out.eo q e))).l) hy
      have HO := Lib.hid ho
      have HB := Lib.hid hb
      have zb := hb.size
      have TK := Lib.hid (take_next (show (xs.map MRc.m)[k]? = some y.m by rw [List.getElem?_map, hy]; rfl))
      have d0' : wr.cell? (ad.add (k * 3)) = some (.slice y.m.A y.m.b.length y.m.c) := d0
      obtain ⟨ti, hi, iz0, iz1, iz2⟩ := info_parts Tryz.infoTexts
      clear ho hb d0 hy
      obtain ⟨wa, hwa⟩ : ∃ wa, wa = (wr.alloc (.cells #[.slice y.m.A y.m.b.length y.m.c, .int .u64 (y.fr : Int), .int .u64 (y.to : Int)] 89)).alloc (.cells #[.slice y.m.A y.m.b.length y.m.c] 57) := ⟨_, rfl⟩
      have ba : Below w.heap.size wr wa := by rw [hwa]; exact ((Below.refl _ _).alloc zb _).alloc (by simp; omega) _
      have ba2 : Below wr.heap.size wr wa := by rw [hwa]; exact ((Below.refl _ _).alloc (Nat.le_refl _) _).alloc (by simp) _
      have OA := Lib.hid (own_below HO.out ba2)
      have HA := Lib.hid (HB.out.trans ba)
      have LA : Hid (Lies wa 0 57 (some ⟨wr.heap.size + 1, 0, none⟩) (tcells [y.m])) := Lib.hid (by
        have q := Lies.of_blk (B := 0) (heap_alloc_new (wr.alloc (.cells #[.slice y.m.A y.m.b.length y.m.c, .int .u64 (y.fr : Int), .int .u64 (y.to : Int)] 89)) (.cells #[.slice y.m.A y.m.b.length y.m.c] 57))
        rw [← hwa] at q
        simpa [tcells, MTx.cell] using q)
      have HW := Lib.hid hwa
      have zwa := ba.size
      clear hwa ba ba2
      go_wp2_with (at_builtin; rw [← HW.out]; refine wpList_app _ rfl _ _ 32 rfl w.heap.size 57 ti (.slice none 0 0) 1 24 Tryz.underlying32 hi iz0 iz1 iz2 rfl (by decide) _ k (tcells ((xs.map MRc.m).take k)) rfl OA.out 0 (some ⟨wr.heap.size + 1, 0, none⟩) 1 1 (tcells [y.m]) 57 rfl rfl LA.out (tcells_one _) (by unfold maxLen; omega) (by omega) (by omega) ?_; intro v8 w8 hown8 hgr8 _; obtain ⟨A8, k8, rfl⟩ := own_slice hown8; have O8 := Lib.hid hown8; have B8 := Lib.hid (HA.out.grown hgr8 (by omega) (fun q e => (OA.out.lt q e).1)); clear hown8 hgr8)
      refine ⟨⟨k + 1, A8, k8, rfl, by go_num, by omega, ?_, B8.out⟩, by simp [intOf]; omega⟩
      rw [TK.out, tcells_snoc]
      exact O8.out
    · obtain rfl : k = L := by omega
      have HO := Lib.hid ho
      have HB := Lib.hid hb
      clear ho hb
      go_wp2
      go_ret
      have tk : (xs.map MRc.m).take k = xs.map MRc.m := List.take_of_length_le (by rw [List.length_map, ← HL.out]; exact Nat.le_refl _)
      refine ⟨A, k, c, xs.map MRc.m, rfl, by rw [List.length_map]; exact HL.out, EX.out.symm, by rw [← tk]; exact HO.out, HB.out, fun m hm2 => ?_⟩
      obtain ⟨y, hy, rfl⟩ := List.mem_map.1 hm2
      have q := R5.out.held y hy
      exact ⟨q.1, q.2.1, q.2.2.1⟩
end Go.Proofs.YtbfkjneidabijaaGreat
