/- Bytes of a call's own: what returns them, the document's Fixed; bytes to a string. Lists of texts in memory: a slice of slices of bytes reads as a list of them; the document's own SameTexts. -/
import Derived.Test.YtbgdmmemahfpbaaRet
import Derived.Test.YtbgdmmemahfpbaaMem
import Derived.Test.YtbgdmmemahfpbaaRows
import Derived.Deep.Slices
import Derived.Laws.MakeOwn
import Derived.Laws.ShiftsVarLaws
import Derived.Lib.SliceRun
import Derived.RegionTactic
namespace Go.Proofs.Ytbgdmmemahfpbaa
set_option maxRecDepth 100000

section
open Go.RowKit

theorem Try.infoU8 : (Try.prog.info? 5).map (fun i => (i.zero, i.size, i.bytes)) = some (some (.int .u8 0), 1, 1) := by kernel_rfl

section
variable {w : World} {B : Nat} {A : Option Addr}
theorem Lies.old {t t' : TypeId} {xs : List Value} (h : Lies w B t A xs) : Lies w w.heap.size t' A xs := fun q => by
  obtain ⟨ad, e, hb, hc⟩ := h q
  refine ⟨ad, e, .inl ?_, hc⟩
  obtain ⟨u, hu⟩ : ∃ u, xs[0]? = some u := by
    cases xs with
    | nil => exact absurd rfl q
    | cons x xs => exact ⟨x, rfl⟩
  have := World.block_lt_of_cell? _ _ (hc 0 u hu)
  rwa [addr_block] at this
end

theorem lies_own {w : World} {B base : Nat} {t : TypeId} {A : Option Addr} {size m n c : Nat} {xs : List Value} (h : w.ownsRow base t size (.slice A m c) n xs) : Lies w B t A xs := by
  obtain ⟨rfl, _⟩ := own_room h
  exact Lies.of_own h

theorem dec_beq (b c : List UInt8) : (decide (b = c) == (b == c)) = true := by
  by_cases h : b = c
  · subst h; simp
  · have : (b == c) = false := by simpa using h
    rw [this]; simp [h]

/-- The string that bytes in old memory come to, in this world. -/
theorem conv_at {w : World} {B : Nat} {tb : TypeId} {A : Option Addr} {n c : Nat} {l : List UInt8} (hL : Lies w B tb A (bcells l)) (hn : n = l.length) :
    (convert 47 9 (.slice A n c)).run Try.prog w = .ok (.string (str l)) w :=
  run_conv w _ _ 5 Try.underlying47 Try.underlying5 Try.underlying9 (B := B) (t := tb) A n c l hn hL

theorem byt_int {n : Int} (h : 0 ≤ n) (j : Nat) : n / 2 ^ (8 * j) % 256 = ((Cd.byt n.toNat j).toNat : Int) := by
  obtain ⟨m, rfl⟩ : ∃ m : Nat, n = (m : Int) := ⟨n.toNat, by omega⟩
  rw [Int.toNat_natCast, Cd.byt_nat, Int.pow_mul]
  simp

theorem made_bytes (k : Nat) : madeCells (Value.int .u8 0).cells k = (bcells (List.replicate k 0)).toArray := by
  apply Array.toList_inj.1
  have e := toList_madeCells_one (.int .u8 0) k
  rw [show (Value.int .u8 0).cells = #[.int .u8 0] from rfl, e]
  simp [bcells, bcell]
theorem mk_bytes (k : Nat) (hk : k ≤ 1000000000) (w : World) : (Instr.makeSlice 47 (.int .i64 (k : Int)) (.int .i64 (k : Int))).run Try.prog w = .ok (.slice (some ⟨w.heap.size, 0, none⟩) k k) (w.alloc (.cells (bcells (List.replicate k 0)).toArray 5)) := by
  obtain ⟨ti, hi, iz0, iz1, iz2⟩ := info_parts Try.infoU8
  have q := run_make (P := Try.prog) w 47 5 ti _ Try.underlying47 hi iz0 .i64 .i64 k k (by omega) (Int.le_refl _) (by rw [iz2]; omega) (by omega)
  rw [q, Int.toNat_natCast, iz1, Nat.mul_one, made_bytes]

/-- It returned bytes of its own, and left all older memory alone. -/
def BytesOk (B : Nat) (l : List UInt8) (w : World) (e : Ending) (w' : World) : Prop :=
  ∃ A n c, e = .returned (.slice A n c) ∧ w'.ownsRow B 5 1 (.slice A n c) l.length (bcells l) ∧ Below B w w'

/-- It returned bytes of its own and an error's number, and left all older memory alone. -/
def BErrOk (B : Nat) (er : Int) (l : List UInt8) (w : World) (e : Ending) (w' : World) : Prop :=
  ∃ A n c, e = .returned (.tuple #[.slice A n c, .int .i64 er]) ∧ n = l.length ∧ n ≤ c ∧ w'.ownsRow B 5 1 (.slice A n c) n (bcells l) ∧ Below B w w'
theorem BErrOk.bad {w w' : World} {er : Int} (h : Below w.heap.size w w') : BErrOk w.heap.size er [] w (.returned (.tuple #[.slice none 0 0, .int .i64 er])) w' :=
  ⟨none, 0, 0, rfl, rfl, Nat.le_refl _, World.ownsRow_nil _ _ _ _, h⟩

/-- It returned bytes of its own (from block B on), and touched no blocks but bytes from B on. -/
def AppOk (B : Nat) (l : List UInt8) (w : World) (e : Ending) (w' : World) : Prop :=
  ∃ A n c, e = .returned (.slice A n c) ∧ w'.ownsRow B 5 1 (.slice A n c) l.length (bcells l) ∧ Tch B [5] w w'
theorem AppOk.then {B : Nat} {l : List UInt8} {w w1 w' : World} {e : Ending} (h : AppOk B l w1 e w') (t : Tch B [5] w w1) : AppOk B l w e w' := by
  obtain ⟨A, n, c, h1, h2, h3⟩ := h
  exact ⟨A, n, c, h1, h2, t.trans h3⟩
theorem lies1 {w : World} {b : UInt8} {x : Int} (hx : x = (b.toNat : Int)) {g : Nat} (hg : g = w.heap.size) : Lies (w.alloc (.cells #[.int .u8 x] 5)) 0 5 (some ⟨g, 0, none⟩) (bcells [b]) := by
  subst hx; subst hg
  exact Lies.of_blk (heap_alloc_new w _)
/-- Behind an append of bytes. -/
theorem app_step {B : Nat} {w w1 : World} {v : Value} {n : Nat} {xs : List Value} (h : w.ownsRow B 5 1 v n xs) (hg : w.grownBy w1 v.ownBlock) (hB : B ≤ w.heap.size) : Tch B [5] w w1 :=
  grown_tch h hg (Nat.le_refl _) hB (by decide)

set_option maxHeartbeats 1000000 in
theorem fixed_c {B : Nat} {l : List UInt8} {A : Option Addr} {c m : Nat} {n z : Int} {k : Nat} {w : World} (hz : z = (k : Int)) (h : w.ownsRow B 5 1 (.slice A m c) l.length (bcells l)) (hB : B ≤ w.heap.size)
    (h0 : 0 ≤ n) (h1 : n < 18446744073709551616) (hk : k ≤ 8) (hs : l.length + 8 ≤ 1099511627776) :
    Calls Try.prog 111 #[.slice A m c, .int .u64 n, .int .i64 z] w (AppOk B (l ++ Cd.fix n.toNat k) w) := by
  have H1 := Lib.hid h1
  have HW := Lib.hid h
  obtain ⟨rfl, _⟩ := own_room h
  clear h1 h
  subst hz
  obtain ⟨i0, hi, hz0, hz1, hz2⟩ := info_parts Try.infoU8
  go_enter Try.func111, Try.ntmps111
  go_wp2_with fail
  go_loopw [0, 7] (fun b i wr => ∃ (j : Nat) (d : List UInt8) (A1 : Option Addr) (c1 : Nat), j ≤ k ∧ i = .int .i64 ((j : Int) - 1) ∧ b = .slice A1 (l.length + d.length) c1 ∧ d ++ Cd.fix n.toNat j = Cd.fix n.toNat k ∧ wr.ownsRow B 5 1 (.slice A1 (l.length + d.length) c1) (l.length + d.length) (bcells (l ++ d)) ∧ Tch B [5] w wr) (fun _ i _ => (intOf i + 1).toNat)
  case atStart => exact ⟨k, [], A, c, Nat.le_refl _, rfl, by simp, rfl, by simpa using HW.out, Tch.refl _ _ _⟩
  case round =>
    obtain ⟨j, d, A1, c1, hj, rfl, rfl, hd, ho, ht⟩ := hrel
    have HD := Lib.hid hd
    have dl : d.length + j = k := by have := congrArg List.length hd; simpa [Cd.fix_len] using this
    have dk : d.length ≤ 8 := by omega
    have DL := Lib.hid dl
    have HO := Lib.hid ho
    have hB2 := ht.size
    have HT := Lib.hid ht
    clear hd dl ho ht
    by_cases hz : 0 < j
    · obtain ⟨j, rfl⟩ : ∃ i, j = i + 1 := ⟨j - 1, by omega⟩
      go_wp2_with (at_builtin; refine wpList_app _ rfl _ _ 47 rfl B 5 i0 (.int .u8 0) 1 1 Try.underlying47 hi hz0 hz1 hz2 rfl (by decide) _ (l.length + d.length) (bcells (l ++ d)) rfl (HO.out.alloc _) 0 _ 1 1 (bcells [Cd.byt n.toNat j]) 5 rfl rfl (lies1 (byt_int h0 j) rfl) (bcells_one _) (by unfold maxLen; omega) (by omega) (by simp; omega) ?_)
      intro v' w1 hown' hgrow _
      obtain ⟨A2, k2, rfl⟩ := own_slice hown'
      have T1 := app_step (HO.out.alloc _) hgrow (by simp; omega)
      have HT1 := Lib.hid (HT.out.trans (((Tch.refl B _ wr).alloc (by omega) _).trans T1))
      have HO2 := Lib.hid hown'
      clear hown' hgrow T1
      go_wp2
      go_roundw
      case rel => exact ⟨j, d ++ [Cd.byt n.toNat j], A2, k2, by omega, by go_num, by simp [Nat.add_assoc], by rw [← HD.out, Cd.fix]; simp, by rw [← List.append_assoc, bcells_app (l ++ d)]; simpa [Nat.add_assoc] using HO2.out, HT1.out⟩
      case measure => simp [intOf] <;> omega
    · obtain rfl : j = 0 := by omega
      go_wp2
      go_ret
      have e : d = Cd.fix n.toNat k := by simpa [Cd.fix] using HD.out
      subst e
      exact ⟨A1, _, c1, rfl, by rw [List.length_append]; exact HO.out, HT.out⟩
end

section
open Go.RowKit

/-- A text, and where its bytes lie. -/
structure MTx where
  b : List UInt8
  A : Option Addr
  c : Nat
def MTx.cell (m : MTx) : Value := .slice m.A m.b.length m.c
def tcells (ms : List MTx) : List Value := ms.map MTx.cell
def txs (ms : List MTx) : List (List UInt8) := ms.map (·.b)
def MTx.fine (m : MTx) (w : World) (B : Nat) (tb : TypeId) : Prop := Lies w B tb m.A (bcells m.b) ∧ m.b.length ≤ m.c
def TL (w : World) (B : Nat) (tt tb : TypeId) (A : Option Addr) (ms : List MTx) : Prop := Lies w B tt A (tcells ms) ∧ ∀ m ∈ ms, m.fine w B tb

theorem below_drewN {B : Nat} {w w' : World} (h : Below B w w') (n : Nat) : Below B w (w'.drewN n) := ⟨h.os, h.tape, h.output, h.size, h.block⟩
theorem tcells_len (ms : List MTx) : (tcells ms).length = ms.length := by simp [tcells]
theorem txs_len (ms : List MTx) : (txs ms).length = ms.length := by simp [txs]
theorem tcells_snoc (ms : List MTx) (m : MTx) : tcells (ms ++ [m]) = tcells ms ++ [m.cell] := by simp [tcells]
theorem txs_snoc (ms : List MTx) (m : MTx) : txs (ms ++ [m]) = txs ms ++ [m.b] := by simp [txs]
theorem tcells_take (ms : List MTx) (k : Nat) : (tcells ms).take k = tcells (ms.take k) := by simp [tcells]
theorem txs_take (ms : List MTx) (k : Nat) : (txs ms).take k = txs (ms.take k) := by simp [txs]
theorem tcells_one (ms : List MTx) : ∀ u ∈ tcells ms, u.oneCell' = true := by
  intro u hu
  simp only [tcells, List.mem_map] at hu
  obtain ⟨m, _, rfl⟩ := hu
  rfl
section
variable {w w' : World} {B B' : Nat} {tt tb tt' tb' : TypeId} {A : Option Addr} {ms : List MTx}
theorem TL.nil : TL w B tt tb A [] := ⟨Lies.nil, by simp⟩
theorem MTx.fine.tch {m : MTx} (h : m.fine w B tb) {ts : List TypeId} (hT : Tch B ts w w') (h2 : tb ∉ ts) : m.fine w' B tb := ⟨h.1.tch hT h2, h.2⟩
theorem MTx.fine.below {m : MTx} (h : m.fine w B tb) (hB : B ≤ w.heap.size) (hT : Below w.heap.size w w') : m.fine w' B tb := ⟨h.1.below hB hT, h.2⟩
theorem TL.tch (h : TL w B tt tb A ms) {ts : List TypeId} (hT : Tch B ts w w') (h1 : tt ∉ ts) (h2 : tb ∉ ts) : TL w' B tt tb A ms := ⟨h.1.tch hT h1, fun m hm => (h.2 m hm).tch hT h2⟩
theorem TL.below (h : TL w B tt tb A ms) (hB : B ≤ w.heap.size) (hT : Below w.heap.size w w') : TL w' B tt tb A ms := h.tch (Tch.of_below hT hB []) (by simp) (by simp)
theorem TL.more (h : TL w B tt tb A ms) (hB : B ≤ B') : TL w B' tt tb A ms := ⟨h.1.more hB, fun m hm => ⟨(h.2 m hm).1.more hB, (h.2 m hm).2⟩⟩
theorem TL.old (h : TL w B tt tb A ms) : TL w w.heap.size tt' tb' A ms := ⟨h.1.old, fun m hm => ⟨(h.2 m hm).1.old, (h.2 m hm).2⟩⟩
theorem TL.drewN (h : TL w B tt tb A ms) (n : Nat) : TL (w.drewN n) B tt tb A ms := h
theorem TL.drew (h : TL w B tt tb A ms) : TL w.drew B tt tb A ms := h
theorem TL.take (h : TL w B tt tb A ms) (k : Nat) : TL w B tt tb A (ms.take k) := ⟨by have := h.1.take k; rwa [tcells_take] at this, fun m hm => h.2 m (List.mem_of_mem_take hm)⟩
theorem TL.at_ (h : TL w B tt tb A ms) {k : Nat} (hk : k < ms.length) : ∃ ad m, A = some ad ∧ ms[k]? = some m ∧ m.fine w B tb ∧ w.cell? (ad.add k) = some (.slice m.A m.b.length m.c) := by
  have hx : ms[k]? = some ms[k] := List.getElem?_eq_getElem hk
  obtain ⟨ad, e, hc⟩ := h.1.at_ (k := k) (by rw [tcells_len]; exact hk)
  refine ⟨ad, ms[k], e, hx, h.2 _ (List.getElem_mem hk), ?_⟩
  rw [hc]
  simp [tcells, MTx.cell]
end

/-- One text's cell, in a block of its own. -/
theorem lies_text {w : World} {m : MTx} : Lies (w.alloc (.cells #[m.cell] 47)) 0 47 (some ⟨w.heap.size, 0, none⟩) (tcells [m]) := Lies.of_blk (heap_alloc_new w _)
/-- Behind an append of texts. -/
theorem tapp_step {B : Nat} {w w1 : World} {v : Value} {n : Nat} {xs : List Value} (h : w.ownsRow B 47 1 v n xs) (hg : w.grownBy w1 v.ownBlock) (hB : B ≤ w.heap.size) : Tch B [47] w w1 :=
  grown_tch h hg (Nat.le_refl _) hB (by decide)

end
end Go.Proofs.Ytbgdmmemahfpbaa
