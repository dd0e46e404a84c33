/- Bytes of a call's own: what returns them, the document's Fixed; bytes to a string. Lists of texts in memory: a slice of slices of bytes reads as a list of them; the document's own SameTexts. -/
import Derived.Test.YtmcfknnfaokmlaaRet
import Derived.Test.YtmcfknnfaokmlaaMem
import Derived.Test.YtmcfknnfaokmlaaRows
import Derived.Deep.Slices
import Derived.Laws.MakeOwn
import Derived.Laws.ShiftsVarLaws
import Derived.Lib.SliceRun
import Derived.RegionTactic
namespace Go.Proofs.Ytmcfknnfaokmlaa
set_option maxRecDepth 100000

section
open Go.RowKit

theorem Try.infoU8 : (Try.prog.info? 5).map (fun i => (i.zero, i.size, i.bytes)) = some (some (.int .u8 0), 1, 1) := by kernel_rfl

section
variable {w : World} {B : Nat} {A : Option Addr}
theorem Lies.old {t t' : TypeId} {xs : List Value} (h : Lies w B t A xs) : Lies w w.heap.size t' A xs := fun q => by
  obtain ⟨ad, e, hb, hc⟩ := h q
  refine ⟨ad, e, .inl ?_, hc⟩
  obtain ⟨u, hu⟩ : ∃ u, xs[0]? = some u := by
    cases xs with
    | nil => exact absurd rfl q
    | cons x xs => exact ⟨x, rfl⟩
  have := World.block_lt_of_cell? _ _ (hc 0 u hu)
  rwa [addr_block] at this
end

theorem lies_own {w : World} {B base : Nat} {t : TypeId} {A : Option Addr} {size m n c : Nat} {xs : List Value} (h : w.ownsRow base t size (.slice A m c) n xs) : Lies w B t A xs := by
  obtain ⟨rfl, _⟩ := own_room h
  exact Lies.of_own h

theorem dec_beq (b c : List UInt8) : (decide (b = c) == (b == c)) = true := by
  by_cases h : b = c
  · subst h; simp
  · have : (b == c) = false := by simpa using h
    rw [this]; simp [h]

theorem byt_int {n : Int} (h : 0 ≤ n) (j : Nat) : n / 2 ^ (8 * j) % 256 = ((Cd.byt n.toNat j).toNat : Int) := by
  obtain ⟨m, rfl⟩ : ∃ m : Nat, n = (m : Int) := ⟨n.toNat, by omega⟩
  rw [Int.toNat_natCast, Cd.byt_nat, Int.pow_mul]
  simp

theorem made_bytes (k : Nat) : madeCells (Value.int .u8 0).cells k = (bcells (List.replicate k 0)).toArray := by
  apply Array.toList_inj.1
  have e := toList_madeCells_one (.int .u8 0) k
  rw [show (Value.int .u8 0).cells = #[.int .u8 0] from rfl, e]
  simp [bcells, bcell]
/-- It returned bytes of its own, and left all older memory alone. -/
def BytesOk (B : Nat) (l : List UInt8) (w : World) (e : Ending) (w' : World) : Prop :=
  ∃ A n c, e = .returned (.slice A n c) ∧ w'.ownsRow B 5 1 (.slice A n c) l.length (bcells l) ∧ Below B w w'

/-- It returned bytes of its own and an error's number, and left all older memory alone. -/
def BErrOk (B : Nat) (er : Int) (l : List UInt8) (w : World) (e : Ending) (w' : World) : Prop :=
  ∃ A n c, e = .returned (.tuple #[.slice A n c, .int .i64 er]) ∧ n = l.length ∧ n ≤ c ∧ w'.ownsRow B 5 1 (.slice A n c) n (bcells l) ∧ Below B w w'
theorem BErrOk.bad {w w' : World} {er : Int} (h : Below w.heap.size w w') : BErrOk w.heap.size er [] w (.returned (.tuple #[.slice none 0 0, .int .i64 er])) w' :=
  ⟨none, 0, 0, rfl, rfl, Nat.le_refl _, World.ownsRow_nil _ _ _ _, h⟩

/-- It returned bytes of its own (from block B on), and touched no blocks but bytes from B on. -/
def AppOk (B : Nat) (l : List UInt8) (w : World) (e : Ending) (w' : World) : Prop :=
  ∃ A n c, e = .returned (.slice A n c) ∧ w'.ownsRow B 5 1 (.slice A n c) l.length (bcells l) ∧ Tch B [5] w w'
theorem AppOk.then {B : Nat} {l : List UInt8} {w w1 w' : World} {e : Ending} (h : AppOk B l w1 e w') (t : Tch B [5] w w1) : AppOk B l w e w' := by
  obtain ⟨A, n, c, h1, h2, h3⟩ := h
  exact ⟨A, n, c, h1, h2, t.trans h3⟩
theorem lies1 {w : World} {b : UInt8} {x : Int} (hx : x = (b.toNat : Int)) {g : Nat} (hg : g = w.heap.size) : Lies (w.alloc (.cells #[.int .u8 x] 5)) 0 5 (some ⟨g, 0, none⟩) (bcells [b]) := by
  subst hx; subst hg
  exact Lies.of_blk (heap_alloc_new w _)
/-- Behind an append of bytes. -/
theorem app_step {B : Nat} {w w1 : World} {v : Value} {n : Nat} {xs : List Value} (h : w.ownsRow B 5 1 v n xs) (hg : w.grownBy w1 v.ownBlock) (hB : B ≤ w.heap.size) : Tch B [5] w w1 :=
  grown_tch h hg (Nat.le_refl _) hB (by decide)

end

section
open Go.RowKit

/-- A text, and where its bytes lie. -/
structure MTx where
  b : List UInt8
  A : Option Addr
  c : Nat
def MTx.cell (m : MTx) : Value := .slice m.A m.b.length m.c
def tcells (ms : List MTx) : List Value := ms.map MTx.cell
def txs (ms : List MTx) : List (List UInt8) := ms.map (·.b)
def MTx.fine (m : MTx) (w : World) (B : Nat) (tb : TypeId) : Prop := Lies w B tb m.A (bcells m.b) ∧ m.b.length ≤ m.c
def TL (w : World) (B : Nat) (tt tb : TypeId) (A : Option Addr) (ms : List MTx) : Prop := Lies w B tt A (tcells ms) ∧ ∀ m ∈ ms, m.fine w B tb

theorem below_drewN {B : Nat} {w w' : World} (h : Below B w w') (n : Nat) : Below B w (w'.drewN n) := ⟨h.os, h.tape, h.output, h.size, h.block⟩
theorem tcells_len (ms : List MTx) : (tcells ms).length = ms.length := by simp [tcells]
theorem txs_len (ms : List MTx) : (txs ms).length = ms.length := by simp [txs]
theorem tcells_snoc (ms : List MTx) (m : MTx) : tcells (ms ++ [m]) = tcells ms ++ [m.cell] := by simp [tcells]
theorem txs_snoc (ms : List MTx) (m : MTx) : txs (ms ++ [m]) = txs ms ++ [m.b] := by simp [txs]
theorem tcells_take (ms : List MTx) (k : Nat) : (tcells ms).take k = tcells (ms.take k) := by simp [tcells]
theorem txs_take (ms : List MTx) (k : Nat) : (txs ms).take k = txs (ms.take k) := by simp [txs]
theorem tcells_one (ms : List MTx) : ∀ u ∈ tcells ms, u.oneCell' = true := by
  intro u hu
  simp only [tcells, List.mem_map] at hu
  obtain ⟨m, _, rfl⟩ := hu
  rfl
section
variable {w w' : World} {B B' : Nat} {tt tb tt' tb' : TypeId} {A : Option Addr} {ms : List MTx}
theorem TL.nil : TL w B tt tb A [] := ⟨Lies.nil, by simp⟩
theorem MTx.fine.tch {m : MTx} (h : m.fine w B tb) {ts : List TypeId} (hT : Tch B ts w w') (h2 : tb ∉ ts) : m.fine w' B tb := ⟨h.1.tch hT h2, h.2⟩
theorem MTx.fine.below {m : MTx} (h : m.fine w B tb) (hB : B ≤ w.heap.size) (hT : Below w.heap.size w w') : m.fine w' B tb := ⟨h.1.below hB hT, h.2⟩
theorem TL.tch (h : TL w B tt tb A ms) {ts : List TypeId} (hT : Tch B ts w w') (h1 : tt ∉ ts) (h2 : tb ∉ ts) : TL w' B tt tb A ms := ⟨h.1.tch hT h1, fun m hm => (h.2 m hm).tch hT h2⟩
theorem TL.below (h : TL w B tt tb A ms) (hB : B ≤ w.heap.size) (hT : Below w.heap.size w w') : TL w' B tt tb A ms := h.tch (Tch.of_below hT hB []) (by simp) (by simp)
theorem TL.more (h : TL w B tt tb A ms) (hB : B ≤ B') : TL w B' tt tb A ms := ⟨h.1.more hB, fun m hm => ⟨(h.2 m hm).1.more hB, (h.2 m hm).2⟩⟩
theorem TL.old (h : TL w B tt tb A ms) : TL w w.heap.size tt' tb' A ms := ⟨h.1.old, fun m hm => ⟨(h.2 m hm).1.old, (h.2 m hm).2⟩⟩
theorem TL.drewN (h : TL w B tt tb A ms) (n : Nat) : TL (w.drewN n) B tt tb A ms := h
theorem TL.drew (h : TL w B tt tb A ms) : TL w.drew B tt tb A ms := h
theorem TL.take (h : TL w B tt tb A ms) (k : Nat) : TL w B tt tb A (ms.take k) := ⟨by have := h.1.take k; rwa [tcells_take] at this, fun m hm => h.2 m (List.mem_of_mem_take hm)⟩
theorem TL.at_ (h : TL w B tt tb A ms) {k : Nat} (hk : k < ms.length) : ∃ ad m, A = some ad ∧ ms[k]? = some m ∧ m.fine w B tb ∧ w.cell? (ad.add k) = some (.slice m.A m.b.length m.c) := by
  have hx : ms[k]? = some ms[k] := List.getElem?_eq_getElem hk
  obtain ⟨ad, e, hc⟩ := h.1.at_ (k := k) (by rw [tcells_len]; exact hk)
  refine ⟨ad, ms[k], e, hx, h.2 _ (List.getElem_mem hk), ?_⟩
  rw [hc]
  simp [tcells, MTx.cell]
end

end
end Go.Proofs.Ytmcfknnfaokmlaa
