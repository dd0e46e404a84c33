/- Lists of texts in memory: a slice of slices of bytes reads as a list of them; the document's own SameTexts. -/
import Derived.Test.YtbfkjneidabijaaGreatBy
import Derived.RegionTactic
namespace Go.Proofs.YtbfkjneidabijaaGreat
open Go.RowKit
set_option maxRecDepth 100000

/-- A text, and where its bytes lie. -/
structure MTx where
  b : List UInt8
  A : Option Addr
  c : Nat
def MTx.cell (m : MTx) : Value := .slice m.A m.b.length m.c
def tcells (ms : List MTx) : List Value := ms.map MTx.cell
def txs (ms : List MTx) : List (List UInt8) := ms.map (·.b)
def MTx.fine (m : MTx) (w : World) (B : Nat) (tb : TypeId) : Prop := Lies w B tb m.A (bcells m.b) ∧ m.b.length ≤ m.c
def TL (w : World) (B : Nat) (tt tb : TypeId) (A : Option Addr) (ms : List MTx) : Prop := Lies w B tt A (tcells ms) ∧ ∀ m ∈ ms, m.fine w B tb

theorem below_drewN {B : Nat} {w w' : World} (h : Below B w w') (n : Nat) : Below B w (w'.drewN n) := ⟨h.os, h.tape, h.output, h.size, h.block⟩
theorem tcells_len (ms : List MTx) : (tcells ms).length = ms.length := by simp [tcells]
theorem txs_len (ms : List MTx) : (txs ms).length = ms.length := by simp [txs]
theorem tcells_snoc (ms : List MTx) (m : MTx) : tcells (ms ++ [m]) = tcells ms ++ [m.cell] := by simp [tcells]
theorem txs_snoc (ms : List MTx) (m : MTx) : txs (ms ++ [m]) = txs ms ++ [m.b] := by simp [txs]
theorem tcells_take (ms : List MTx) (k : Nat) : (tcells ms).take k = tcells (ms.take k) := by simp [tcells]
theorem txs_take (ms : List MTx) (k : Nat) : (txs ms).take k = txs (ms.take k) := by simp [txs]
theorem tcells_one (ms : List MTx) : ∀ u ∈ tcells ms, u.oneCell' = true := by
  intro u hu
  simp only [tcells, List.mem_map] at hu
  obtain ⟨m, _, rfl⟩ := hu
  rfl
section
variable {w w' : World} {B B' : Nat} {tt tb tt' tb' : TypeId} {A : Option Addr} {ms : List MTx}
theorem TL.nil : TL w B tt tb A [] := ⟨Lies.nil, by simp⟩
theorem MTx.fine.tch {m : MTx} (h : m.fine w B tb) {ts : List TypeId} (hT : Tch B ts w w') (h2 : tb ∉ ts) : m.fine w' B tb := ⟨h.1.tch hT h2, h.2⟩
theorem MTx.fine.below {m : MTx} (h : m.fine w B tb) (hB : B ≤ w.heap.size) (hT : Below w.heap.size w w') : m.fine w' B tb := ⟨h.1.below hB hT, h.2⟩
theorem TL.tch (h : TL w B tt tb A ms) {ts : List TypeId} (hT : Tch B ts w w') (h1 : tt ∉ ts) (h2 : tb ∉ ts) : TL w' B tt tb A ms := ⟨h.1.tch hT h1, fun m hm => (h.2 m hm).tch hT h2⟩
theorem TL.below (h : TL w B tt tb A ms) (hB : B ≤ w.heap.size) (hT : Below w.heap.size w w') : TL w' B tt tb A ms := h.tch (Tch.of_below hT hB []) (by simp) (by simp)
theorem TL.more (h : TL w B tt tb A ms) (hB : B ≤ B') : TL w B' tt tb A ms := ⟨h.1.more hB, fun m hm => ⟨(h.2 m hm).1.more hB, (h.2 m hm).2⟩⟩
theorem TL.old (h : TL w B tt tb A ms) : TL w w.heap.size tt' tb' A ms := ⟨h.1.old, fun m hm => ⟨(h.2 m hm).1.old, (h.2 m hm).2⟩⟩
theorem TL.drewN (h : TL w B tt tb A ms) (n : Nat) : TL (w.drewN n) B tt tb A ms := h
theorem TL.drew (h : TL w B tt tb A ms) : TL w.drew B tt tb A ms := h
theorem TL.take (h : TL w B tt tb A ms) (k : Nat) : TL w B tt tb A (ms.take k) := ⟨by have := h.1.take k; rwa [tcells_take] at this, fun m hm => h.2 m (List.mem_of_mem_take hm)⟩
theorem TL.at_ (h : TL w B tt tb A ms) {k : Nat} (hk : k < ms.length) : ∃ ad m, A = some ad ∧ ms[k]? = some m ∧ m.fine w B tb ∧ w.cell? (ad.add k) = some (.slice m.A m.b.length m.c) := by
  have hx : ms[k]? = some ms[k] := List.getElem?_eq_getElem hk
  obtain ⟨ad, e, hc⟩ := h.1.at_ (k := k) (by rw [tcells_len]; exact hk)
  refine ⟨ad, ms[k], e, hx, h.2 _ (List.getElem_mem hk), ?_⟩
  rw [hc]
  simp [tcells, MTx.cell]
end

/-- One text's cell, in a block of its own. -/
theorem lies_text {w : World} {m : MTx} : Lies (w.alloc (.cells #[m.cell] 57)) 0 57 (some ⟨w.heap.size, 0, none⟩) (tcells [m]) := Lies.of_blk (heap_alloc_new w _)
/-- Behind an append of texts. -/
theorem tapp_step {B : Nat} {w w1 : World} {v : Value} {n : Nat} {xs : List Value} (h : w.ownsRow B 57 1 v n xs) (hg : w.grownBy w1 v.ownBlock) (hB : B ≤ w.heap.size) : Tch B [57] w w1 :=
  grown_tch h hg (Nat.le_refl _) hB (by decide)

set_option maxHeartbeats 2000000 in
theorem sameTexts_c {A A2 : Option Addr} {n c n2 c2 : Nat} {ms ks : List MTx} {w : World} {B B2 : Nat} {tt tb tt2 tb2 : TypeId} (h : TL w B tt tb A ms) (h2 : TL w B2 tt2 tb2 A2 ks) (hn : n = ms.length) (hn2 : n2 = ks.length) (hs : n ≤ 1000000000) :
    Calls Tryz.prog 23 #[.slice A n c, .slice A2 n2 c2] w fun e w' => e = .returned (.bool (decide (txs ms = txs ks))) ∧ ∃ j, w' = w.drewN j := by
  have H := Lib.hid h
  have H2 := Lib.hid h2
  have HN := Lib.hid hn
  have HN2 := Lib.hid hn2
  clear h h2 hn hn2
  by_cases hl : n = n2
  · subst hl
    have HL := Lib.hid (HN.out.symm.trans HN2.out)
    go_enter Tryz.func23, Tryz.ntmps23
    go_wp2_with fail
    go_loopw [13] (fun i wr => ∃ k j : Nat, k ≤ n ∧ i = .int .i64 k ∧ txs (ms.take k) = txs (ks.take k) ∧ wr = w.drewN j) (fun i _ => n - (intOf i).toNat)
    case atStart => exact ⟨0, 0, Nat.zero_le _, rfl, rfl, rfl⟩
    case round =>
      obtain ⟨k, j, hk, rfl, he, rfl⟩ := hrel
      have HE := Lib.hid he
      clear he
      by_cases hlt : k < n
      · obtain ⟨ad, m, rfl, hm, hf, hc⟩ := H.out.at_ (k := k) (by rw [← HN.out]; exact hlt)
        obtain ⟨ad2, m2, rfl, hm2, hf2, hc2⟩ := H2.out.at_ (k := k) (by rw [← HN2.out]; exact hlt)
        have HM := Lib.hid hm
        have HM2 := Lib.hid hm2
        have c1 := conv_at (c := m.c) (hf.1.drewN (j + 1)) rfl
        have c2 := conv_at (c := m2.c) (hf2.1.drewN (j + 1)) rfl
        clear hm hm2 hf hf2
        have k0 : 0 ≤ (k : Int) := by omega
        have k1 : (k : Int) < (n : Int) := by omega
        cases q : (m.b == m2.b)
        · have q' : (m.b != m2.b) = true := by rw [bne, q]; rfl
          have ne : ¬ txs ms = txs ks := fun e => by
            have e1 := congrArg (·[k]?) e
            simp only [txs, List.getElem?_map, HM.out, HM2.out, Option.map_some, Option.some.injEq] at e1
            rw [e1] at q
            simp at q
          have NE := Lib.hid ne
          clear ne
          go_wp2_with fail
          go_region
          go_wp2
          go_ret
          exact ⟨ret_bool (by rw [decide_eq_false NE.out]), j + 1, rfl⟩
        · have q' : (m.b != m2.b) = false := by rw [bne, q]; rfl
          have eq : m.b = m2.b := by simpa using q
          have EQ := Lib.hid eq
          clear eq
          go_wp2_with fail
          go_region
          go_wp2
          go_roundw
          case rel => exact ⟨k + 1, j + 1, by omega, by go_num, by rw [take_next HM.out, take_next HM2.out, txs_snoc, txs_snoc, HE.out, EQ.out], rfl⟩
          case measure => simp [intOf]; omega
      · obtain rfl : k = n := by omega
        have HE2 := HE.out
        rw [HN.out, List.take_length, HL.out, List.take_length] at HE2
        have HE3 := Lib.hid HE2
        clear HE2
        go_wp2
        go_ret
        exact ⟨ret_bool (by rw [decide_eq_true HE3.out]), j, rfl⟩
  · have hl' : ¬ txs ms = txs ks := fun e => hl (by have := congrArg List.length e; rw [txs_len, txs_len, ← HN.out, ← HN2.out] at this; exact this)
    have HL := Lib.hid hl'
    clear hl'
    go_enter Tryz.func23, Tryz.ntmps23
    go_wp2
    go_ret
    exact ⟨ret_bool (by rw [decide_eq_false HL.out]), 0, rfl⟩
end Go.Proofs.YtbfkjneidabijaaGreat
