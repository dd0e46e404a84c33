/- Lists of texts in memory: a slice of slices of bytes reads as a list of them; the document's own SameTexts. -/
import Derived.Test.YthddpenpmjonkaaBy
import Derived.RegionTactic
namespace Go.Proofs.Ythddpenpmjonkaa
open Go.RowKit
set_option maxRecDepth 100000

/-- A text, and where its bytes lie. -/
structure MTx where
  b : List UInt8
  A : Option Addr
  c : Nat
def MTx.cell (m : MTx) : Value := .slice m.A m.b.length m.c
def tcells (ms : List MTx) : List Value := ms.map MTx.cell
def txs (ms : List MTx) : List (List UInt8) := ms.map (·.b)
def MTx.fine (m : MTx) (w : World) (B : Nat) (tb : TypeId) : Prop := Lies w B tb m.A (bcells m.b) ∧ m.b.length ≤ m.c
def TL (w : World) (B : Nat) (tt tb : TypeId) (A : Option Addr) (ms : List MTx) : Prop := Lies w B tt A (tcells ms) ∧ ∀ m ∈ ms, m.fine w B tb

theorem below_drewN {B : Nat} {w w' : World} (h : Below B w w') (n : Nat) : Below B w (w'.drewN n) := ⟨h.os, h.tape, h.output, h.size, h.block⟩
theorem tcells_len (ms : List MTx) : (tcells ms).length = ms.length := by simp [tcells]
theorem txs_len (ms : List MTx) : (txs ms).length = ms.length := by simp [txs]
theorem tcells_snoc (ms : List MTx) (m : MTx) : tcells (ms ++ [m]) = tcells ms ++ [m.cell] := by simp [tcells]
theorem txs_snoc (ms : List MTx) (m : MTx) : txs (ms ++ [m]) = txs ms ++ [m.b] := by simp [txs]
theorem tcells_take (ms : List MTx) (k : Nat) : (tcells ms).take k = tcells (ms.take k) := by simp [tcells]
theorem txs_take (ms : List MTx) (k : Nat) : (txs ms).take k = txs (ms.take k) := by simp [txs]
theorem tcells_one (ms : List MTx) : ∀ u ∈ tcells ms, u.oneCell' = true := by
  intro u hu
  simp only [tcells, List.mem_map] at hu
  obtain ⟨m, _, rfl⟩ := hu
  rfl
section
variable {w w' : World} {B B' : Nat} {tt tb tt' tb' : TypeId} {A : Option Addr} {ms : List MTx}
theorem TL.nil : TL w B tt tb A [] := ⟨Lies.nil, by simp⟩
theorem MTx.fine.tch {m : MTx} (h : m.fine w B tb) {ts : List TypeId} (hT : Tch B ts w w') (h2 : tb ∉ ts) : m.fine w' B tb := ⟨h.1.tch hT h2, h.2⟩
theorem MTx.fine.below {m : MTx} (h : m.fine w B tb) (hB : B ≤ w.heap.size) (hT : Below w.heap.size w w') : m.fine w' B tb := ⟨h.1.below hB hT, h.2⟩
theorem TL.tch (h : TL w B tt tb A ms) {ts : List TypeId} (hT : Tch B ts w w') (h1 : tt ∉ ts) (h2 : tb ∉ ts) : TL w' B tt tb A ms := ⟨h.1.tch hT h1, fun m hm => (h.2 m hm).tch hT h2⟩
theorem TL.below (h : TL w B tt tb A ms) (hB : B ≤ w.heap.size) (hT : Below w.heap.size w w') : TL w' B tt tb A ms := h.tch (Tch.of_below hT hB []) (by simp) (by simp)
theorem TL.more (h : TL w B tt tb A ms) (hB : B ≤ B') : TL w B' tt tb A ms := ⟨h.1.more hB, fun m hm => ⟨(h.2 m hm).1.more hB, (h.2 m hm).2⟩⟩
theorem TL.old (h : TL w B tt tb A ms) : TL w w.heap.size tt' tb' A ms := ⟨h.1.old, fun m hm => ⟨(h.2 m hm).1.old, (h.2 m hm).2⟩⟩
theorem TL.drewN (h : TL w B tt tb A ms) (n : Nat) : TL (w.drewN n) B tt tb A ms := h
theorem TL.drew (h : TL w B tt tb A ms) : TL w.drew B tt tb A ms := h
theorem TL.take (h : TL w B tt tb A ms) (k : Nat) : TL w B tt tb A (ms.take k) := ⟨by have := h.1.take k; rwa [tcells_take] at this, fun m hm => h.2 m (List.mem_of_mem_take hm)⟩
theorem TL.at_ (h : TL w B tt tb A ms) {k : Nat} (hk : k < ms.length) : ∃ ad m, A = some ad ∧ ms[k]? = some m ∧ m.fine w B tb ∧ w.cell? (ad.add k) = some (.slice m.A m.b.length m.c) := by
  have hx : ms[k]? = some ms[k] := List.getElem?_eq_getElem hk
  obtain ⟨ad, e, hc⟩ := h.1.at_ (k := k) (by rw [tcells_len]; exact hk)
  refine ⟨ad, ms[k], e, hx, h.2 _ (List.getElem_mem hk), ?_⟩
  rw [hc]
  simp [tcells, MTx.cell]
end

/-- One text's cell, in a block of its own. -/
theorem lies_text {w : World} {m : MTx} : Lies (w.alloc (.cells #[m.cell] 24)) 0 24 (some ⟨w.heap.size, 0, none⟩) (tcells [m]) := Lies.of_blk (heap_alloc_new w _)
/-- Behind an append of texts. -/
theorem tapp_step {B : Nat} {w w1 : World} {v : Value} {n : Nat} {xs : List Value} (h : w.ownsRow B 24 1 v n xs) (hg : w.grownBy w1 v.ownBlock) (hB : B ≤ w.heap.size) : Tch B [24] w w1 :=
  grown_tch h hg (Nat.le_refl _) hB (by decide)