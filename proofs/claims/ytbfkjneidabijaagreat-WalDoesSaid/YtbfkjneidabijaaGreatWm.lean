/- The document's own Wal in memory; contracts of ring, Need, head, Free. Contracts of the document's own Format and FormatWal. Contract of the document's own OpenWal. Contracts of the document's own Wal: Free, turn, Cut, Records. Contracts of the document's own Wal: Cut. The document's own Wal: words for put: what is at hand while records are written. -/
import Derived.Test.YtbfkjneidabijaaGreatWa
import Derived.Test.YtbfkjneidabijaaGreatSv
import Derived.Test.YtbfkjneidabijaaGreatFr
import Derived.Test.YtbfkjneidabijaaGreatMm
import Derived.Test.YtbfkjneidabijaaGreatAp
import Derived.Test.YtbfkjneidabijaaGreatRg
import Derived.Deep.RegionHeld3
import Derived.Deep.QuietTactic
import Derived.BigQuiet
import Derived.StillTailTactics
namespace Go.Proofs.YtbfkjneidabijaaGreat
open Go.RowKit
set_option maxRecDepth 100000

/-- A record: its text, and where it begins and ends. -/
structure MRc where
  m : MTx
  fr : Nat
  to : Nat
def MRc.cells (x : MRc) : List Value := [x.m.cell, .int .u64 (x.fr : Int), .int .u64 (x.to : Int)]
def xcells (l : List MRc) : List Value := l.flatMap MRc.cells
def MRc.told (x : MRc) : Wl.Rec := ⟨x.m.b, x.fr, x.to⟩
def xrecs (l : List MRc) : List Wl.Rec := l.map MRc.told
theorem xcells_three (x : MRc) : x.cells.length = 3 := rfl
theorem xcells_len (l : List MRc) : (xcells l).length = l.length * 3 := cel_len fun _ _ => rfl
theorem xcells_snoc (l : List MRc) (x : MRc) : xcells (l ++ [x]) = xcells l ++ x.cells := by simp [xcells]
theorem xcells_one (l : List MRc) : ∀ u ∈ xcells l, u.oneCell' = true := by
  intro u hu
  simp only [xcells, List.mem_flatMap] at hu
  obtain ⟨x, _, hx⟩ := hu
  simp only [MRc.cells, List.mem_cons, List.not_mem_nil, or_false] at hx
  rcases hx with rfl | rfl | rfl <;> rfl
theorem xrecs_len (l : List MRc) : (xrecs l).length = l.length := by simp [xrecs]
theorem xrecs_snoc (l : List MRc) (x : MRc) : xrecs (l ++ [x]) = xrecs l ++ [x.told] := by simp [xrecs]
theorem xcells_drop (l : List MRc) (k : Nat) : (xcells l).drop (k * 3) = xcells (l.drop k) := by
  induction l generalizing k with
  | nil => simp [xcells]
  | cons x l ih =>
    cases k with
    | zero => simp
    | succ k =>
      rw [List.drop_succ_cons, ← ih k, show xcells (x :: l) = x.cells ++ xcells l from rfl, show (k + 1) * 3 = x.cells.length + k * 3 by rw [xcells_three]; omega, List.drop_length_add_append]

/-- A record's text that the wal holds. -/
def HeldR (w : World) (E : Nat → Prop) (x : MRc) : Prop := x.m.fine w 0 5 ∧ InF E x.m.A ∧ x.m.b.length ≤ 60000 ∧ U64 x.fr ∧ U64 x.to
/-- The document's Wal at block pw, over the disk at block p; all its own blocks are E's. -/
structure RW5 (w : World) (E : Nat → Prop) (pw p : Nat) (AL : Option Addr) (cL : Nat) (xs : List MRc) (gen tail : Nat) (over : Bool) : Prop where
  fp : E pw
  cell : w.heap[pw]? = some (.cells #[.pointer (some ⟨p, 0, none⟩), .int .u64 (gen : Int), .int .u64 (tail : Int), .slice AL xs.length cL, .bool over] 55 (0, 0))
  l : Lies w 0 89 AL (xcells xs)
  lF : InF E AL
  room : xs.length ≤ cL
  held : ∀ x ∈ xs, HeldR w E x
  gen64 : U64 gen
  tail64 : U64 tail
/-- The same of a wal's plain words. -/
def RW (w : World) (E : Nat → Prop) (pw p : Nat) (x : Wl.W) : Prop := ∃ (AL : Option Addr) (cL : Nat) (xs : List MRc), RW5 w E pw p AL cL xs x.gen x.tail x.over ∧ xrecs xs = x.recs

section
variable {w w' : World} {E G : Nat → Prop} {pw p : Nat} {AL : Option Addr} {cL : Nat} {xs : List MRc} {gen tail : Nat} {over : Bool}
theorem HeldR.keepF {x : MRc} (h : HeldR w E x) (hk : ∀ k, E k → w'.heap[k]? = w.heap[k]?) : HeldR w' E x := ⟨⟨h.1.1.keepF h.2.1 hk, h.1.2⟩, h.2⟩
theorem HeldR.mono {x : MRc} (h : HeldR w E x) (hE : ∀ k, E k → G k) : HeldR w G x := ⟨h.1, h.2.1.mono hE, h.2.2⟩
theorem RW5.keep (h : RW5 w E pw p AL cL xs gen tail over) (hk : ∀ k, E k → w'.heap[k]? = w.heap[k]?) : RW5 w' E pw p AL cL xs gen tail over :=
  ⟨h.fp, (hk pw h.fp).trans h.cell, h.l.keepF h.lF hk, h.lF, h.room, fun x hx => (h.held x hx).keepF hk, h.gen64, h.tail64⟩
theorem RW5.mono (h : RW5 w E pw p AL cL xs gen tail over) (hE : ∀ k, E k → G k) : RW5 w G pw p AL cL xs gen tail over :=
  ⟨hE pw h.fp, h.cell, h.l, h.lF.mono hE, h.room, fun x hx => (h.held x hx).mono hE, h.gen64, h.tail64⟩
theorem RW.keep {x : Wl.W} (h : RW w E pw p x) (hk : ∀ k, E k → w'.heap[k]? = w.heap[k]?) : RW w' E pw p x := by
  obtain ⟨AL, cL, xs, r, e⟩ := h
  exact ⟨AL, cL, xs, r.keep hk, e⟩
theorem RW.mono {x : Wl.W} (h : RW w E pw p x) (hE : ∀ k, E k → G k) : RW w G pw p x := by
  obtain ⟨AL, cL, xs, r, e⟩ := h
  exact ⟨AL, cL, xs, r.mono hE, e⟩
theorem RW5.fields (h : RW5 w E pw p AL cL xs gen tail over) :
    w.cell? ⟨pw, 0, none⟩ = some (.pointer (some ⟨p, 0, none⟩)) ∧ w.cell? ⟨pw, 1, none⟩ = some (.int .u64 (gen : Int)) ∧ w.cell? ⟨pw, 2, none⟩ = some (.int .u64 (tail : Int)) ∧ w.cell? ⟨pw, 3, none⟩ = some (.slice AL xs.length cL) ∧ w.cell? ⟨pw, 4, none⟩ = some (.bool over) ∧ (∀ j, w.frozen? ⟨pw, j, none⟩ = false) := by
  have q := h.cell
  refine ⟨?_, ?_, ?_, ?_, ?_, fun j => blk_free q j⟩ <;> simp [World.cell?, q]
end

set_option maxHeartbeats 1000000 in
theorem refRing_c {w : World} {F : Nat → Prop} {p : Nat} {d : Dk.D} (h : RD w F p d) (hf : d.s.length ≤ 4096) :
    Calls Tryz.prog 34 #[.pointer (some ⟨p, 0, none⟩)] w fun e w' => e = .returned (.int .u64 (Wl.ring d : Int)) ∧ w = w' := by
  obtain ⟨AS, AC, AB, cS, cC, cB, ms, cs, r, e1, _⟩ := h
  have c0 := r.fields.1
  have hl : ms.length = d.s.length := by rw [← e1, txs_len]
  obtain ⟨L, hL⟩ : ∃ L, L = ms.length := ⟨_, rfl⟩
  rw [← hL] at c0 hl
  have E : Hid (Wl.ring d = L - 2) := Lib.hid (by unfold Wl.ring; rw [hl])
  rw [← hl] at hf
  clear r e1 hl hL
  by_cases h2 : L < 2
  · have h2' : (L : Int) < 2 := by omega
    go_enter Tryz.func34, Tryz.ntmps34
    go_wp2
    go_ret
    exact ⟨ret_u64 (by rw [E.out]; omega), rfl⟩
  · have h2' : ¬ (L : Int) < 2 := by omega
    have h3 : (L : Int) ≤ 4096 := by omega
    go_enter Tryz.func34, Tryz.ntmps34
    go_wp2
    go_ret
    exact ⟨ret_u64 (by rw [E.out]; omega), rfl⟩

set_option maxHeartbeats 1000000 in
theorem refFrame_long {A : Option Addr} {n c : Nat} {w : World} (hn : 60000 < n) (hs : n ≤ 1000000000) :
    Calls Tryz.prog 63 #[.slice A n c] w fun e w' => e = .returned (.slice none 0 0) ∧ w = w' := by
  have h1 : (60000 : Int) < (n : Int) := by omega
  go_enter Tryz.func63, Tryz.ntmps63
  go_wp2
  go_ret
  exact ⟨rfl, rfl⟩

set_option maxHeartbeats 1000000 in
theorem refNeed_c {A : Option Addr} {n c : Nat} {b : List UInt8} {w : World} {B : Nat} {t : TypeId} (hL : Lies w B t A (bcells b)) (hn : n = b.length) (hs : n ≤ 1000000000) :
    Calls Tryz.prog 72 #[.slice A n c] w fun e w' => e = .returned (.int .i64 (Wl.need b : Int)) ∧ Below w.heap.size w w' := by
  by_cases h6 : 60000 < n
  · have E : Hid (Wl.need b = 0) := Lib.hid (by unfold Wl.need; rw [if_pos (by omega)])
    clear hL hn
    go_enter Tryz.func72, Tryz.ntmps72
    go_wp2_with fail
    refine (refFrame_long h6 hs).mono ?_
    rintro e w1 ⟨rfl, rfl⟩
    go_wp2
    go_ret
    exact ⟨ret_i64 (by rw [E.out]; rfl), Below.refl _ _⟩
  · have E : Hid (Wl.need b = (n + 70) / 64) := Lib.hid (by unfold Wl.need; rw [if_neg (by omega), hn])
    have LL := Lib.hid hL
    have HN := Lib.hid hn
    clear hL hn
    go_enter Tryz.func72, Tryz.ntmps72
    go_wp2_with fail
    refine (refFrame_c LL.out HN.out (by omega)).mono ?_
    rintro e w1 ⟨A1, n1, c1, rfl, ho, hb⟩
    have hn1 : n1 = 7 + n := by rw [(own_room ho).1, Fr.frame_len, ← HN.out]
    subst hn1
    have HB := Lib.hid hb
    clear ho hb
    go_wp2
    go_ret
    exact ⟨ret_i64 (by rw [E.out]; omega), HB.out⟩

set_option maxHeartbeats 1000000 in
theorem refHead_c {w : World} {E : Nat → Prop} {pw p : Nat} {x : Wl.W} (h : RW w E pw p x) :
    Calls Tryz.prog 48 #[.pointer (some ⟨pw, 0, none⟩)] w fun e w' => e = .returned (.int .u64 (Wl.headOf x.recs x.tail : Int)) ∧ w = w' := by
  obtain ⟨AL, cL, xs, r, e⟩ := h
  obtain ⟨_, _, c2, c3, _, _⟩ := r.fields
  rw [← e]
  cases xs with
  | nil =>
    have hz : (([] : List MRc).length : Int) = 0 := rfl
    clear r e
    rw [show ([] : List MRc).length = 0 from rfl] at c3
    go_enter Tryz.func48, Tryz.ntmps48
    go_wp2
    go_ret
    exact ⟨by rfl, rfl⟩
  | cons y ys =>
    obtain ⟨ad, rfl, _, hc⟩ := r.l (by simp [xcells, MRc.cells])
    have hy : w.cell? (ad.add 1) = some (.int .u64 (y.fr : Int)) := hc 1 _ rfl
    have hy2 : w.cell? ⟨ad.block, ad.off + 1, none⟩ = some (.int .u64 (y.fr : Int)) := by
      rw [← hy]
      unfold Addr.add
      rfl
    clear r e hc
    obtain ⟨L, hL⟩ : ∃ L, L = (y :: ys).length := ⟨_, rfl⟩
    have l1 : 1 ≤ (L : Int) := by rw [hL]; simp; omega
    have l2 : ((L : Int) == 0) = false := by simp; omega
    rw [← hL] at c3
    clear hL
    go_enter Tryz.func48, Tryz.ntmps48
    go_wp2
    go_ret
    exact ⟨by rfl, rfl⟩

namespace Su
theorem format_one {d d1 : Dk.D} {l : List Nat} {e : Int} (h : Dk.write d 0 [] = (e, d1)) (hz : e ≠ 0) : format d l = (e, d1) := by unfold format; rw [h, if_neg hz]
theorem format_two {d d1 d2 : Dk.D} {l : List Nat} {e : Int} (h : Dk.write d 0 [] = (0, d1)) (h2 : Dk.write d1 1 [] = (e, d2)) (hz : e ≠ 0) : format d l = (e, d2) := by unfold format; rw [h, if_pos rfl, h2, if_neg hz]
theorem format_all {d d1 d2 : Dk.D} {l : List Nat} (h : Dk.write d 0 [] = (0, d1)) (h2 : Dk.write d1 1 [] = (0, d2)) : format d l = save d2 0 l := by unfold format; rw [h, if_pos rfl, h2, if_pos rfl]
end Su

set_option maxHeartbeats 4000000 in
theorem refFormat_c {w : World} {F : Nat → Prop} {p : Nat} {d : Dk.D} {n c : Nat} {A : Option Addr} {l : List Nat} {t : TypeId} (h : RD w F p d) (hF : ∀ k, F k → k < w.heap.size) (hd : d.ok) (hl : d.left ≤ 9223372036854775807) (hcl : d.cache.length ≤ 1000000)
    (hL : Lies w w.heap.size t A (ncells l)) (hA : ncells l ≠ [] → InF (fun k => ¬ F k ∧ k < w.heap.size) A) (hn : n = l.length) (hx : ∀ x ∈ l, U64 x) (hs : n ≤ 1000000000) :
    Calls Tryz.prog 35 #[.pointer (some ⟨p, 0, none⟩), .slice A n c] w (DiskOk F p (Su.format d l).1 (Su.format d l).2 w) := by
  have H := Lib.hid h
  have HF := Lib.hid hF
  have HD := Lib.hid hd
  have HL := Lib.hid hl
  have LA := Lib.hid hL
  have IA := Lib.hid hA
  have HN := Lib.hid hn
  have HX := Lib.hid hx
  have c1 : d.cache.length ≤ 100000000 := by omega
  obtain ⟨e1, d1, h1⟩ : ∃ e1 d1, Dk.write d 0 [] = (e1, d1) := ⟨_, _, rfl⟩
  have H1 := Lib.hid h1
  have D1 := Lib.hid (show d1.ok by have q := Dk.write_ok hd 0 []; rw [h1] at q; exact q)
  have L1 := Lib.hid (show d1.left ≤ 9223372036854775807 by have q := Dk.write_left hl 0 []; rw [h1] at q; exact q)
  have C1 := Lib.hid (show d1.cache.length ≤ 1000001 by have q := Dk.write_few hcl 0 []; rw [h1] at q; exact q)
  obtain ⟨e2, d2, h2⟩ : ∃ e2 d2, Dk.write d1 1 [] = (e2, d2) := ⟨_, _, rfl⟩
  have H2 := Lib.hid h2
  have D2 := Lib.hid (show d2.ok by have q := Dk.write_ok D1.out 1 []; rw [h2] at q; exact q)
  have L2 := Lib.hid (show d2.left ≤ 9223372036854775807 by have q := Dk.write_left L1.out 1 []; rw [h2] at q; exact q)
  have C2 := Lib.hid (show d2.cache.length ≤ 1000002 by have q := Dk.write_few C1.out 1 []; rw [h2] at q; exact q)
  clear h hF hd hl hL hA hn hx h1 h2 hcl
  go_enter Tryz.func35, Tryz.ntmps35
  go_wp2_with fail
  refine (refWrite_c (b := []) (B := 0) (t := 5) H.out HD.out HL.out c1 Lies.nil (fun q => absurd rfl q) rfl 0).mono ?_
  rw [H1.out]
  rintro e w1 ⟨rfl, hr1, hb1⟩
  have R1 := Lib.hid hr1
  have B1 := Lib.hid hb1
  have z1 := hb1.size
  clear hr1 hb1
  by_cases q1 : e1 = 0
  · subst q1
    have c2 := C1.out
    go_wp2_with fail
    refine (refWrite_c (b := []) (B := 0) (t := 5) R1.out D1.out L1.out (by omega) Lies.nil (fun q => absurd rfl q) rfl 1).mono ?_
    rw [H2.out]
    rintro e w2 ⟨rfl, hr2, hb2⟩
    obtain ⟨q2, q3⟩ := disk_then B1.out hr2 hb2
    have R2 := Lib.hid q2
    have B2 := Lib.hid q3
    have z2 := q3.size
    clear hr2 hb2 q2 q3
    by_cases q4 : e2 = 0
    · subst q4
      have FA := Lib.hid (Su.format_all (l := l) H1.out H2.out)
      have R2c : Hid (RD w2 (fun k => Up F w.heap.size k ∧ k < w2.heap.size) p d2) := Lib.hid R2.out.cap
      have L2c : Hid (Lies w2 w.heap.size t A (ncells l)) := Lib.hid (LA.out.but IA.out B2.out)
      have c3 := C2.out
      go_wp2_with fail
      refine (refSave_c (g := 0) R2c.out (fun k g => g.2) D2.out L2.out (by omega) L2c.out HN.out (U64.of (by decide)) HX.out hs).mono ?_
      rintro e w3 ⟨rfl, hr3, hb3⟩
      have R3 := Lib.hid hr3
      have B3 := Lib.hid hb3
      clear hr3 hb3
      go_wp2
      go_ret
      rw [FA.out]
      refine ⟨rfl, R3.out.mono (fun k g => g.elim (fun q => q.1) (fun q => Or.inr (by omega))), B2.out.call B3.out z2 (fun b g => g.1)⟩
    · have zz : (e2 != 0) = true := by simp [q4]
      have FA := Lib.hid (Su.format_two (l := l) H1.out H2.out q4)
      clear q4
      go_wp2
      go_ret
      rw [FA.out]
      exact ⟨rfl, R2.out, B2.out⟩
  · have zz : (e1 != 0) = true := by simp [q1]
    have FA := Lib.hid (Su.format_one (l := l) H1.out q1)
    clear q1
    go_wp2
    go_ret
    rw [FA.out]
    exact ⟨rfl, R1.out, B1.out⟩

namespace Wl
def format (d : Dk.D) : Int × Dk.D := if ring d < 1 then (51, d) else Su.format d [0, 0]
end Wl

set_option maxHeartbeats 2000000 in
theorem refFormatWal_c {w : World} {F : Nat → Prop} {p : Nat} {d : Dk.D} (h : RD w F p d) (hF : ∀ k, F k → k < w.heap.size) (hd : d.ok) (hl : d.left ≤ 9223372036854775807) (hcl : d.cache.length ≤ 1000000) :
    Calls Tryz.prog 9 #[.pointer (some ⟨p, 0, none⟩)] w (DiskOk F p (Wl.format d).1 (Wl.format d).2 w) := by
  have H := Lib.hid h
  have HD := Lib.hid hd
  have HL := Lib.hid hl
  by_cases h1 : Wl.ring d < 1
  · have E : Hid (Wl.format d = (51, d)) := Lib.hid (by unfold Wl.format; rw [if_pos h1])
    have e0 : Wl.ring d = 0 := by omega
    have E0 := Lib.hid e0
    have hf := hd.few
    clear h hF hd hl hcl h1 e0
    go_enter Tryz.func9, Tryz.ntmps9
    go_wp2_with fail
    refine (refRing_c H.out hf).mono ?_
    rw [E0.out]
    rintro e w1 ⟨rfl, rfl⟩
    go_wp2
    go_ret
    rw [E.out]
    exact ⟨rfl, H.out.mono up_self, But.refl _ _ _⟩
  · have E : Hid (Wl.format d = Su.format d [0, 0]) := Lib.hid (by unfold Wl.format; rw [if_neg h1])
    obtain ⟨r, hr⟩ : ∃ r, r = Wl.ring d := ⟨_, rfl⟩
    have HR := Lib.hid hr
    have r1 : 1 ≤ (r : Int) := by omega
    have r2 : r ≤ 4096 := by rw [hr]; unfold Wl.ring; have := hd.few; omega
    have hf := hd.few
    have wa := (Below.refl w.heap.size w).alloc (Nat.le_refl _) (.cells (ncells [0, 0]).toArray 52)
    have RA : Hid (RD (w.alloc (.cells (ncells [0, 0]).toArray 52)) F p d) := Lib.hid (h.keep fun k hk => wa.block k (hF k hk))
    have FA : Hid (∀ k, F k → k < (w.alloc (.cells (ncells [0, 0]).toArray 52)).heap.size) := Lib.hid fun k hk => Nat.lt_of_lt_of_le (hF k hk) wa.size
    have LA : Hid (Lies (w.alloc (.cells (ncells [0, 0]).toArray 52)) (w.alloc (.cells (ncells [0, 0]).toArray 52)).heap.size 52 (some ⟨w.heap.size, 0, none⟩) (ncells [0, 0])) := Lib.hid (by
      have q := Lies.of_blk (B := (w.alloc (.cells (ncells [0, 0]).toArray 52)).heap.size) (heap_alloc_new w (.cells (ncells [0, 0]).toArray 52))
      rwa [List.toList_toArray] at q)
    have IA : Hid (ncells [0, 0] ≠ [] → InF (fun k => ¬ F k ∧ k < (w.alloc (.cells (ncells [0, 0]).toArray 52)).heap.size) (some ⟨w.heap.size, 0, none⟩)) := Lib.hid fun _ ad e => by
      injection e with e
      subst e
      exact ⟨fun f => Nat.lt_irrefl _ (hF _ f), by simp⟩
    have WA := Lib.hid wa
    clear h hF hd hl h1 wa hr
    go_enter Tryz.func9, Tryz.ntmps9
    go_wp2_with fail
    refine (refRing_c H.out hf).mono ?_
    rw [← HR.out]
    rintro e w1 ⟨rfl, rfl⟩
    go_wp2_with fail
    refine (refFormat_c (l := [0, 0]) RA.out FA.out HD.out HL.out hcl LA.out IA.out rfl (by intro x hx; simp at hx; subst hx; exact U64.of (by decide)) (by decide)).mono ?_
    rintro e w2 ⟨rfl, hr2, hb2⟩
    obtain ⟨q1, q2⟩ := disk_down WA.out hr2 hb2
    have R2 := Lib.hid q1
    have B2 := Lib.hid q2
    clear hr2 hb2 q1 q2
    go_wp2
    go_ret
    rw [E.out]
    exact ⟨rfl, R2.out, B2.out⟩

theorem Tryz.infoRec : (Tryz.prog.info? 89).map (fun i => (i.zero, i.size, i.bytes)) = some (some (.agg #[.slice none 0 0, .int .u64 0, .int .u64 0]), 3, 40) := by kernel_rfl

/-- It opened a wal of its own, or failed with an error's number; all older memory is as it was. -/
def OpenOk (p : Nat) (x : Int × Wl.W) (w : World) (e : Ending) (w' : World) : Prop :=
  Below w.heap.size w w' ∧ ((x.1 = 0 ∧ ∃ pw, e = .returned (.tuple #[.pointer (some ⟨pw, 0, none⟩), .int .i64 0]) ∧ RW w' (fun k => w.heap.size ≤ k ∧ k < w'.heap.size) pw p x.2) ∨ (x.1 ≠ 0 ∧ e = .returned (.tuple #[.pointer none, .int .i64 x.1])))
theorem OpenOk.bad {p : Nat} {x : Int × Wl.W} {w w' : World} (hb : Below w.heap.size w w') (hx : x.1 ≠ 0) : OpenOk p x w (.returned (.tuple #[.pointer none, .int .i64 x.1])) w' := ⟨hb, .inr ⟨hx, rfl⟩⟩

theorem ring_q {w : World} {F : Nat → Prop} {p : Nat} {d : Dk.D} (h : RD w F p d) (hf : d.s.length ≤ 4096) :
    Calls Tryz.prog 34 #[.pointer (some ⟨p, 0, none⟩)] w fun e w' => e = .returned (.int .u64 (Wl.ring d : Int)) ∧ w' = w := (refRing_c h hf).mono fun _ _ ⟨a, b⟩ => ⟨a, b.symm⟩
namespace Su
theorem load_good {d : Dk.D} {g : Nat} {l : List Nat} (h : load d = (g, l, 0)) : Good g l := by
  have pk : ∀ {x : Option (Nat × List Nat)}, ofPick x = (g, l, 0) → x = some (g, l) := fun {x} hx => by
    cases x with
    | none => injection hx with _ hx; injection hx with _ hx; cases hx
    | some y => injection hx with a hx; injection hx with b _; rw [← a, ← b]
  unfold load at h
  split at h
  · split at h
    · have q := pk h
      unfold pick at q
      split at q
      · exact unslot_good q
      · rename_i e _
        exact unslot_good (e.trans q)
      · rename_i e1 e2
        split at q
        · exact unslot_good (e2.trans q)
        · exact unslot_good (e1.trans q)
    · rename_i hz
      injection h with _ h
      injection h with _ h
      exact absurd h hz
  · rename_i hz
    injection h with _ h
    injection h with _ h
    exact absurd h hz
end Su
namespace Wl
theorem open_err {d : Dk.D} {g : Nat} {l : List Nat} {e : Int} (h : Su.load d = (g, l, e)) (he : e ≠ 0) : openIt d = (e, ⟨0, 0, [], false⟩) := by
  unfold openIt
  rw [h]
  simp only
  rw [if_neg he]
theorem open_count {d : Dk.D} {g : Nat} {l : List Nat} (h : Su.load d = (g, l, 0)) (hl : l.length ≠ 2) : openIt d = (70, ⟨0, 0, [], false⟩) := by
  unfold openIt
  rw [h]
  simp only
  rw [if_pos trivial]
  match l, hl with
  | [], _ => rfl
  | [_], _ => rfl
  | _ :: _ :: _ :: _, _ => rfl
theorem open_wrong {d : Dk.D} {g a b : Nat} (h : Su.load d = (g, [a, b], 0)) (hw : ¬ (a ≤ b ∧ b - a ≤ ring d)) : openIt d = (70, ⟨0, 0, [], false⟩) := by
  unfold openIt
  rw [h]
  simp only
  rw [if_pos trivial, if_neg hw]
theorem open_walk {d : Dk.D} {g a b : Nat} (h : Su.load d = (g, [a, b], 0)) (h1 : a ≤ b) (h2 : b - a ≤ ring d) : openIt d = ((walk d (ring d) (b - a) a a [] []).1, ⟨g, b, (walk d (ring d) (b - a) a a [] []).2, false⟩) := by
  unfold openIt
  rw [h]
  simp only
  rw [if_pos trivial, if_pos ⟨h1, h2⟩]
end Wl

/-- What an opening has come to. -/
structure OW (w wr : World) (p pw S : Nat) (AL : Option Addr) (cL : Nat) (xs : List MRc) (g t : Nat) (Aa : Option Addr) (na ca : Nat) (all : List UInt8) : Prop where
  below : Below w.heap.size w wr
  lo : w.heap.size ≤ pw
  low : w.heap.size ≤ S
  hi : S ≤ wr.heap.size
  cell : wr.heap[pw]? = some (.cells #[.pointer (some ⟨p, 0, none⟩), .int .u64 (g : Int), .int .u64 (t : Int), .slice AL xs.length cL, .bool false] 55 (0, 0))
  l : wr.ownsRow w.heap.size 89 3 (.slice AL xs.length cL) xs.length (xcells xs)
  held : ∀ x ∈ xs, HeldR wr (fun k => w.heap.size ≤ k ∧ k < S) x
  all : wr.ownsRow S 5 1 (.slice Aa na ca) na (bcells all)
theorem OW.keep {w wr w2 : World} {p pw S : Nat} {AL : Option Addr} {cL : Nat} {xs : List MRc} {g t : Nat} {Aa : Option Addr} {na ca : Nat} {all : List UInt8} (h : OW w wr p pw S AL cL xs g t Aa na ca all) (hb : Below wr.heap.size wr w2) : OW w w2 p pw S AL cL xs g t Aa na ca all :=
  ⟨h.below.trans (hb.mono h.below.size), h.lo, h.low, Nat.le_trans h.hi hb.size, (hb.block pw (lt_of_block h.cell)).trans h.cell, own_below h.l hb, fun x hx => (h.held x hx).keepF (fun k hk => hb.block k (Nat.lt_of_lt_of_le hk.2 h.hi)), own_below h.all hb⟩

/-- The bytes at hand have grown. -/
theorem OW.grow {w wr w2 : World} {p pw S : Nat} {AL : Option Addr} {cL : Nat} {xs : List MRc} {g t : Nat} {Aa A2 : Option Addr} {na ca n2 c2 : Nat} {all all2 : List UInt8} (h : OW w wr p pw S AL cL xs g t Aa na ca all) (hg : wr.grownBy w2 (Value.slice Aa na ca).ownBlock) (ho : w2.ownsRow S 5 1 (.slice A2 n2 c2) n2 (bcells all2)) : OW w w2 p pw S AL cL xs g t A2 n2 c2 all2 := by
  have T := grown_tch (B := S) (ts := [5]) h.all hg (Nat.le_refl _) h.hi (by simp)
  refine ⟨h.below.trans (T.below.mono h.low), h.lo, h.low, Nat.le_trans h.hi T.size, T.blk h.cell (by decide), own_tch h.l T (by decide), fun x hx => (h.held x hx).keepF (fun k hk => T.below.block k hk.2), ho⟩

set_option maxHeartbeats 16000000 in
set_option maxRecDepth 100000 in
theorem refOpen_c {w : World} {F : Nat → Prop} {p : Nat} {d : Dk.D} (h : RD w F p d) (hF : ∀ k, F k → k < w.heap.size) (hd : d.ok) (hcl : d.cache.length ≤ 1000000) :
    Calls Tryz.prog 11 #[.pointer (some ⟨p, 0, none⟩)] w (OpenOk p (Wl.openIt d) w) := by
  have H := Lib.hid h
  have HF := Lib.hid hF
  have HD := Lib.hid hd
  have hf := hd.few
  obtain ⟨ti, hi, iz0, iz1, iz2⟩ := info_parts Tryz.infoU8
  obtain ⟨tr, hr0, ir0, ir1, ir2⟩ := info_parts Tryz.infoRec
  obtain ⟨g, l, e1, hld⟩ : ∃ g l e1, Su.load d = (g, l, e1) := ⟨_, _, _, rfl⟩
  have LD := Lib.hid hld
  clear h hF hd hld
  go_enter Tryz.func11, Tryz.ntmps11
  go_wp2_with fail
  refine (refLoad_c H.out HF.out HD.out (by omega)).mono ?_
  rw [LD.out]
  rintro e w1 ⟨A1, n1, c1, rfl, hn1, hc1, ho1, hb1⟩
  dsimp only at hn1 ho1 ⊢
  by_cases q1 : e1 = 0
  · subst q1
    by_cases hl2 : n1 = 2
    · subst hl2
      obtain ⟨a, b, rfl⟩ : ∃ a b, l = [a, b] := by
        match l, hn1 with
        | [a, b], _ => exact ⟨a, b, rfl⟩
      have GD := Lib.hid (Su.load_good LD.out)
      obtain ⟨gA, rfl, hgA, hltA, hcA, _⟩ := own_at ho1 (by decide)
      have x0 : w1.cell? ⟨gA, 0, none⟩ = some (.int .u64 (a : Int)) := hcA 0 _ rfl
      have x1 : w1.cell? ⟨gA, 1, none⟩ = some (.int .u64 (b : Int)) := hcA 1 _ rfl
      have R1 := Lib.hid (H.out.keep (fun k hk => hb1.block k (HF.out k hk)))
      have B1 := Lib.hid hb1
      have ua : U64 a := GD.out.nums a (by simp)
      have ub : U64 b := GD.out.nums b (by simp)
      clear hcA ho1 hn1 hb1
      by_cases h1 : a ≤ b
      · have h1' : decide (b < a) = false := decide_eq_false (by omega)
        have wr1 : IntKind.u64.wrap ((b : Int) - (a : Int)) = ((b - a : Nat) : Int) := by have := ua.int; have := ub.int; rw [IntKind.wrap_u64]; omega
        by_cases h2 : b - a ≤ Wl.ring d
        · have OE : Hid (Wl.openIt d = ((Wl.walk d (Wl.ring d) (b - a) a a [] []).1, ⟨g, b, (Wl.walk d (Wl.ring d) (b - a) a a [] []).2, false⟩)) := Lib.hid (Wl.open_walk LD.out h1 h2)
          obtain ⟨R, hR⟩ : ∃ R, R = Wl.walk d (Wl.ring d) (b - a) a a [] [] := ⟨_, rfl⟩
          rw [← hR] at OE
          have hrl : Wl.ring d ≤ 4096 := by unfold Wl.ring; omega
          obtain ⟨r, hr⟩ : ∃ r, r = Wl.ring d := ⟨_, rfl⟩
          rw [← hr] at h2 hR hrl
          have HR := Lib.hid hr
          have WR := Lib.hid hR
          have h2' : decide (r < b - a) = false := decide_eq_false (by omega)
          have RQ : Hid (∀ u : World, u.heap = w1.heap → Calls Tryz.prog 34 #[.pointer (some ⟨p, 0, none⟩)] u fun e w' => e = .returned (.int .u64 (r : Int)) ∧ w' = u) := Lib.hid fun u hu => by
            rw [HR.out]
            exact ring_q (R1.out.keep (fun k _ => by rw [hu])) hf
          clear hr hR
          go_wp2_with fail
          go_quiet ((go_at_call 34; exact Calls.quiet_of_same (RQ.out _ rfl)))
          clear h1' h2' wr1
          have OW0 : Hid (OW w1 ((w1.drewN nq).alloc (.cells #[.pointer (some ⟨p, 0, none⟩), .int .u64 (g : Int), .int .u64 (b : Int), .slice none 0 0, .bool false] 55)) p w1.heap.size (w1.heap.size + 1) none 0 [] g b none 0 0 []) := Lib.hid
            ⟨(below_drewN (Below.refl _ _) nq).alloc (Nat.le_refl _) _, Nat.le_refl _, Nat.le_succ _, by simp, heap_alloc_new (w1.drewN nq) _, World.ownsRow_nil _ _ _ _, by simp, World.ownsRow_nil _ _ _ _⟩
          obtain ⟨xw, hxw⟩ : ∃ xw, xw = ((w1.drewN nq).alloc (.cells #[.pointer (some ⟨p, 0, none⟩), .int .u64 (g : Int), .int .u64 (b : Int), .slice none 0 0, .bool false] 55)) := ⟨_, rfl⟩
          have x1w : ∀ u, Below w1.heap.size w1 u → u.cell? ⟨gA, 1, none⟩ = some (.int .u64 (b : Int)) := fun u hu => (hu.cell (p := ⟨gA, 1, none⟩) hltA).trans x1
          have X1 := Lib.hid x1w
          have c0 : ((w1.drewN nq).alloc (.cells #[.pointer (some ⟨p, 0, none⟩), .int .u64 (g : Int), .int .u64 (b : Int), .slice none 0 0, .bool false] 55)).cell? ⟨gA, 0, none⟩ = some (.int .u64 (a : Int)) := (OW0.out.below.cell (p := ⟨gA, 0, none⟩) hltA).trans x0
          clear x1w hxw
          go_wp2_with fail
          go_loopw [8, 9, 10] (fun u8 u9 u10 wr => ∃ (P S : Nat) (AL : Option Addr) (cL : Nat) (xs : List MRc) (fr : Nat) (Aa : Option Addr) (na ca : Nat) (all : List UInt8), u8 = .int .u64 (P : Int) ∧ u9 = .slice Aa na ca ∧ u10 = .int .u64 (fr : Int) ∧ a ≤ P ∧ P ≤ b ∧ fr ≤ b ∧ na = all.length ∧ all.length ≤ 64 * (P - a) ∧ xs.length ≤ P - a ∧ OW w1 wr p w1.heap.size S AL cL xs g b Aa na ca all ∧ Wl.walk d r (b - P) P fr all (xrecs xs) = R) (fun u8 _ _ _ => b - (intOf u8).toNat)
          case atStart => exact ⟨a, _, none, 0, [], a, none, 0, 0, [], rfl, rfl, rfl, Nat.le_refl _, h1, h1, rfl, by simp, by simp, OW0.out, WR.out.symm⟩
          case round =>
            obtain ⟨P, S, AL, cL, xs, fr, Aa, na, ca, all, rfl, rfl, rfl, hP1, hP2, hfr, hna, hal, hxl, how, hwk⟩ := hrel
            have HO := Lib.hid how
            have HW := Lib.hid hwk
            have HNA := Lib.hid hna
            have y1 := X1.out wr how.below
            have zr := how.below.size
            clear how hwk hna c0 x0 x1
            by_cases hPb : P < b
            · have ne : ((P : Int) != (b : Int)) = true := by simp; omega
              have RW1 := Lib.hid (R1.out.keep (fun k hk => HO.out.below.block k (Nat.lt_of_lt_of_le (HF.out k hk) B1.out.size)))
              have r1 : 1 ≤ (r : Int) := by omega
              have r2 : (r : Int) ≤ 4096 := by omega
              have pm : P % r < r := Nat.mod_lt _ (by omega)
              have pm2 : 0 ≤ (P : Int) % (r : Int) := by omega
              have pm3 : (P : Int) % (r : Int) ≤ 4096 := by omega
              obtain ⟨bb, e2, hrd⟩ : ∃ bb e2, Dk.read d ((2 + P % r : Nat) : Int) = (bb, e2) := ⟨_, _, rfl⟩
              have HRD := Lib.hid hrd
              have wP : IntKind.u64.wrap ((P : Int) + 1) = ((P + 1 : Nat) : Int) := by have := ub.int; rw [IntKind.wrap_u64]; omega
              have bl := read_len HD.out ((2 + P % r : Nat) : Int)
              rw [hrd] at bl
              clear hrd
              go_wp2_with fail
              refine (refRing_c RW1.out hf).mono ?_
              rw [← HR.out]
              rintro e w3 ⟨rfl, rfl⟩
              go_wp2_with fail
              have ei : (2 : Int) + (P : Int) % (r : Int) = ((2 + P % r : Nat) : Int) := by omega
              refine (refRead_c RW1.out HD.out (by omega) _).mono ?_
              rw [ei, HRD.out]
              rintro e w3 ⟨A3, n3, c3, rfl, hn3, hc3, ho3, hb3⟩
              dsimp only at hn3 ho3 ⊢
              subst hn3
              have O3 := Lib.hid (HO.out.keep hb3)
              have B3 := Lib.hid hb3
              have L3 := Lib.hid ho3
              have z3 := hb3.size
              have wk := HW.out
              rw [show b - P = (b - (P + 1)) + 1 by omega, Wl.walk_succ, HRD.out] at wk
              dsimp only at wk
              clear hb3 ho3 ei pm2 pm3 pm
              by_cases q2 : e2 = 0
              · subst q2
                rw [if_pos rfl] at wk
                have WK := Lib.hid wk
                have ALL := O3.out.all
                have na1 : na ≤ 300000 := by rw [HNA.out]; omega
                clear wk
                go_wp2_with (at_builtin; refine wpList_app _ rfl _ _ 57 rfl S 5 ti (.int .u8 0) 1 1 Tryz.underlying57 hi iz0 iz1 iz2 rfl (by decide) _ na _ rfl ALL 0 A3 bb.length c3 (bcells bb) 5 rfl (by rw [bcells_len, Nat.mul_one]) (lies_own L3.out) (bcells_one _) (by unfold maxLen; omega) (by omega) O3.out.hi ?_; intro v4 w4 hown4 hgr4 hbl4)
                obtain ⟨A4, k4, rfl⟩ := own_slice hown4
                rw [← bcells_app] at hown4
                have O4 := Lib.hid (O3.out.grow hgr4 hown4)
                have z4 := O4.out.below.size
                have rm4 := (own_room hown4).2
                have LA4 : Hid (Lies w4 w4.heap.size 5 A4 (bcells (all ++ bb))) := Lib.hid ((lies_own (B := 0) hown4).old)
                have nn4 : na + bb.length = (all ++ bb).length := by rw [List.length_append, HNA.out]
                have NN4 := Lib.hid nn4
                clear ALL hown4 hgr4 hbl4 nn4
                go_wp2_with fail
                refine (unframe_c LA4.out (Nat.le_refl _) NN4.out rm4 (by omega)).mono ?_
                rintro e w5 ⟨A5, n5, c5, k5, er5, rfl, hb5, hc5, hs5, hn5⟩
                have O5 := Lib.hid (O4.out.keep hb5)
                have z5 := hb5.size
                cases hu : Fr.unf (all ++ bb) with
                | none =>
                  obtain ⟨rfl, rfl, rfl⟩ := hn5 hu
                  rw [hu] at WK
                  clear hs5 hn5 hb5 hu
                  go_wp2
                  go_roundw
                  case rel => exact ⟨P + 1, S, AL, cL, xs, fr, A4, na + bb.length, k4, all ++ bb, by go_num, rfl, rfl, by omega, by omega, hfr, NN4.out, by rw [List.length_append]; omega, by omega, O5.out, WK.out⟩
                  case measure => simp [intOf]; omega
                | some xb =>
                  obtain ⟨hn6, hl6, rfl, rfl⟩ := hs5 xb hu
                  rw [hu] at WK
                  have ub6 : xb.length ≤ 60000 := (Fr.unf_some hu).2.1
                  subst hn6
                  have LX := Lib.hid hl6
                  have B5 := Lib.hid hb5
                  clear hs5 hn5 hb5 hu hl6
                  have c3' := (show w5.cell? ⟨w1.heap.size, 3, none⟩ = some (.slice AL xs.length cL) by simp [World.cell?, O5.out.cell])
                  have xl : xs.length ≤ 5000 := by omega
                  have pl : w1.heap.size < w5.heap.size := lt_of_block O5.out.cell
                  go_wp2_with fail
                  refine Any.begin (S := fun u => u.cell? ⟨w1.heap.size, 3, none⟩ = some (.slice AL xs.length cL)) (st := 14) (by kernel_rfl) ?_
                  have S0 : w5.drew.cell? ⟨w1.heap.size, 3, none⟩ = some (.slice AL xs.length cL) := c3'
                  refine Any.take (st := 14) (i := 0) (v := ?_) rfl (by kernel_rfl) (by kernel_rfl) (by kernel_rfl) rfl (by kernel_rfl) (fun _ _ _ h => h) (Or.inl ⟨by rfl, ?_⟩) (by assumption) ?_
                  rotate_left
                  · intro u hu
                    go_simp
                    try rfl
                  simp only [Act.put, List.setIfInBounds_toArray, List.set_cons_zero, List.set_cons_succ, List.getElem_toArray, List.getElem_cons_zero]
                  refine Any.take (st := 14) (i := 1) (v := ?_) rfl (by kernel_rfl) (by kernel_rfl) (by kernel_rfl) rfl (by kernel_rfl) (fun _ _ _ h => h) (Or.inl ⟨by rfl, ?_⟩) (by assumption) ?_
                  rotate_left
                  · intro u hu
                    go_simp
                    try rfl
                  simp only [Act.put, List.setIfInBounds_toArray, List.set_cons_zero, List.set_cons_succ, List.getElem_toArray, List.getElem_cons_zero, List.getElem_cons_succ]
                  refine Any.take (st := 14) (i := 2) (v := ?_) rfl (by kernel_rfl) (by kernel_rfl) (by kernel_rfl) rfl (by kernel_rfl) (fun _ _ _ h => h) (Or.inl ⟨by rfl, ?_⟩) (by assumption) ?_
                  rotate_left
                  · intro u hu
                    go_simp
                    try rfl
                  simp only [Act.put, List.setIfInBounds_toArray, List.set_cons_zero, List.set_cons_succ, List.getElem_toArray, List.getElem_cons_zero, List.getElem_cons_succ]
                  refine Any.take (st := 14) (i := 3) (v := ?_) rfl (by kernel_rfl) (by kernel_rfl) (by kernel_rfl) rfl (by kernel_rfl) (fun _ _ _ h => h) (Or.inl ⟨by rfl, ?_⟩) (by assumption) ?_
                  rotate_left
                  · intro u hu
                    go_simp
                    try rfl
                  simp only [Act.put, List.setIfInBounds_toArray, List.set_cons_zero, List.set_cons_succ, List.getElem_toArray, List.getElem_cons_zero, List.getElem_cons_succ]
                  refine Any.take (st := 14) (i := 4) (v := ?_) rfl (by kernel_rfl) (by kernel_rfl) (by kernel_rfl) rfl (by kernel_rfl) (fun _ _ _ h => h) (Or.inl ⟨by rfl, ?_⟩) (by assumption) ?_
                  rotate_left
                  · intro u hu
                    go_simp
                    try rfl
                  simp only [Act.put, List.setIfInBounds_toArray, List.set_cons_zero, List.set_cons_succ, List.getElem_toArray, List.getElem_cons_zero, List.getElem_cons_succ]
                  refine Any.take (st := 14) (i := 5) (v := ?_) rfl (by kernel_rfl) (by kernel_rfl) (by kernel_rfl) rfl (by kernel_rfl) (fun _ _ _ h => h) (Or.inl ⟨by rfl, ?_⟩) (by assumption) ?_
                  rotate_left
                  · intro u hu
                    go_simp
                    try rfl
                  simp only [Act.put, List.setIfInBounds_toArray, List.set_cons_zero, List.set_cons_succ, List.getElem_toArray, List.getElem_cons_zero, List.getElem_cons_succ]
                  refine Any.take (st := 14) (i := 7) (v := ?_) rfl (by kernel_rfl) (by kernel_rfl) (by kernel_rfl) rfl (by kernel_rfl) (fun _ _ _ h => h) (Or.inl ⟨by rfl, ?_⟩) (by assumption) ?_
                  rotate_left
                  · intro u hu
                    go_simp
                    try rfl
                  simp only [Act.put, List.setIfInBounds_toArray, List.set_cons_zero, List.set_cons_succ, List.getElem_toArray, List.getElem_cons_zero, List.getElem_cons_succ]
                  refine Any.take (st := 14) (i := 8) (v := ?_) rfl (by kernel_rfl) (by kernel_rfl) (by kernel_rfl) rfl (by kernel_rfl) (fun _ _ _ h => h) (Or.inl ⟨by rfl, ?_⟩) (by assumption) ?_
                  rotate_left
                  · intro u hu
                    go_simp
                    try rfl
                  simp only [Act.put, List.setIfInBounds_toArray, List.set_cons_zero, List.set_cons_succ, List.getElem_toArray, List.getElem_cons_zero, List.getElem_cons_succ]
                  refine Any.one (i := 6) (by kernel_rfl) rfl (fun K hK => ?_)
                  refine step_own rfl _ _ 57 rfl w5.heap.size 5 ti (.int .u8 0) 1 1 Tryz.underlying57 hi iz0 iz1 iz2 rfl (by decide) _ 0 [] rfl (World.ownsRow_nil _ _ _ _) w4.heap.size A5 xb.length c5 (bcells xb) 5 rfl (by rw [bcells_len, Nat.mul_one]) (by exact LX.out) (bcells_one _) (by unfold maxLen; omega) (by omega) (Nat.le_refl _) ?_
                  intro v6 w6 hown6 hgrow6 _
                  rw [Nat.zero_add, List.nil_append] at hown6
                  obtain ⟨A6, k6, rfl⟩ := own_slice hown6
                  have b6 : Below w5.heap.size w5 w6 := (Below.refl w5.heap.size w5).drew.grown hgrow6 (Nat.le_refl _) (fun k e => by cases e)
                  have s6 : w6.cell? ⟨w1.heap.size, 3, none⟩ = some (.slice AL xs.length cL) := (b6.cell (p := ⟨w1.heap.size, 3, none⟩) pl).trans c3'
                  refine hK _ _ (fun _ => s6) ?_
                  clear hK K hgrow6
                  try simp only [Act.put, List.setIfInBounds_toArray, List.set_cons_zero, List.set_cons_succ, List.getElem_toArray, List.getElem_cons_zero, List.getElem_cons_succ]
                  refine Any.one (i := 9) (by kernel_rfl) rfl (fun K hK => ?_)
                  go_simp
                  refine hK _ _ (fun _ => s6) ?_
                  clear hK K
                  try simp only [Act.put, List.setIfInBounds_toArray, List.set_cons_zero, List.set_cons_succ, List.getElem_toArray, List.getElem_cons_zero, List.getElem_cons_succ]
                  refine Any.one (i := 10) (by kernel_rfl) rfl (fun K hK => ?_)
                  go_simp
                  have b7 : Below w5.heap.size w5 (w6.alloc (.cells #[.slice A6 xb.length k6, .int .u64 (fr : Int), .int .u64 ((P : Int) + 1)] 89)) := b6.alloc b6.size _
                  refine hK _ _ (fun _ => (b7.cell (p := ⟨w1.heap.size, 3, none⟩) pl).trans c3') ?_
                  clear hK K
                  try simp only [Act.put, List.setIfInBounds_toArray, List.set_cons_zero, List.set_cons_succ, List.getElem_toArray, List.getElem_cons_zero, List.getElem_cons_succ]
                  refine Any.one (i := 11) (by kernel_rfl) rfl (fun K hK => ?_)
                  refine step_own rfl _ _ 53 rfl w1.heap.size 89 tr _ 3 40 Tryz.underlying53 hr0 ir0 ir1 ir2 rfl (by decide) _ xs.length (xcells xs) rfl (by exact own_below O5.out.l b7) 0 (some ⟨w6.heap.size, 0, none⟩) 1 1 (MRc.cells ⟨⟨xb, A6, k6⟩, fr, P + 1⟩) 89 rfl rfl (by exact Lies.of_blk (heap_alloc_new w6 (.cells #[.slice A6 xb.length k6, .int .u64 (fr : Int), .int .u64 ((P : Int) + 1)] 89))) (fun u hu2 => xcells_one [⟨⟨xb, A6, k6⟩, fr, P + 1⟩] u (by simpa [xcells] using hu2)) (by unfold maxLen; omega) (by omega) (by have := b7.size; omega) ?_
                  intro v7 w7 hown7 hgrow7 _
                  rw [← xcells_snoc] at hown7
                  obtain ⟨A7, k7, rfl⟩ := own_slice hown7
                  have b67 := grown_tch (B := w1.heap.size) (ts := [89]) (own_below O5.out.l b7) hgrow7 (Nat.le_refl _) (by have := b7.size; omega) (by simp)
                  have q7 := b67.blk ((b7.block _ pl).trans O5.out.cell) (by decide)
                  have c7 : w7.cell? ⟨w1.heap.size, 3, none⟩ = some (.slice AL xs.length cL) := by simp [World.cell?, q7]
                  have f7 := blk_free q7 3
                  refine hK _ _ (fun _ => c7) ?_
                  clear hK K hgrow7
                  try simp only [Act.put, List.setIfInBounds_toArray, List.set_cons_zero, List.set_cons_succ, List.getElem_toArray, List.getElem_cons_zero, List.getElem_cons_succ]
                  refine Any.one (i := 12) (by kernel_rfl) rfl (fun K hK => ?_)
                  go_simp
                  refine hK _ _ (fun _ => c7) ?_
                  clear hK K
                  try simp only [Act.put, List.setIfInBounds_toArray, List.set_cons_zero, List.set_cons_succ, List.getElem_toArray, List.getElem_cons_zero, List.getElem_cons_succ]
                  refine Any.one (i := 13) (by kernel_rfl) rfl (fun K hK => ?_)
                  go_simp
                  refine hK _ _ (fun _ => c7) ?_
                  clear hK K
                  try simp only [Act.put, List.setIfInBounds_toArray, List.set_cons_zero, List.set_cons_succ, List.getElem_toArray, List.getElem_cons_zero, List.getElem_cons_succ]
                  refine Any.one (i := 14) (by kernel_rfl) rfl (fun K hK => ?_)
                  go_simp
                  refine hK _ _ (fun q => absurd rfl q) ?_
                  clear hK K
                  try simp only [Act.put]
                  refine Any.done (by kernel_rfl) ?_
                  have l7 := hown7
                  have e7 : (xs ++ [(⟨⟨xb, A6, k6⟩, fr, P + 1⟩ : MRc)]).length = xs.length + 1 := by simp
                  have z67 := b67.size
                  have z57 := b7.size
                  have tx6 : HeldR w7 (fun k => w5.heap.size ≤ k ∧ k < w7.heap.size) ⟨⟨xb, A6, k6⟩, fr, P + 1⟩ := by
                    have l6 : Lies w6 0 5 A6 (bcells xb) := lies_own hown6
                    have i6 := own_lt (own_less hown6 (Nat.zero_le _))
                    have k67 : ∀ b, (b < 0 ∨ ∃ cs fr, w6.heap[b]? = some (.cells cs 5 fr)) → w7.heap[b]? = w6.heap[b]? := fun b hb => by
                      rcases hb with hb | ⟨cs, fr, hb⟩
                      · omega
                      · exact (b67.typed b _ _ _ (blk_alloc hb _) (by decide)).trans (Below.heap_alloc _ _ _ (lt_of_block hb))
                    refine ⟨⟨l6.keep k67, (own_room hown6).2⟩, fun ad e => ⟨InF.of_own hown6 (fun k hk => hk) ad e, Nat.lt_of_lt_of_le (i6 ad e) ?_⟩, ub6, ?_, ?_⟩
                    · have := z67; simp at this; omega
                    · exact Nat.lt_of_le_of_lt hfr ub
                    · exact Nat.lt_of_le_of_lt (show P + 1 ≤ b by omega) ub
                  have OW8 : Hid (OW w1 (w7.setCell ⟨w1.heap.size, 3, none⟩ (.slice A7 (xs.length + 1) k7)) p w1.heap.size w7.heap.size A7 k7 (xs ++ [⟨⟨xb, A6, k6⟩, fr, P + 1⟩]) g b none 0 0 []) := Lib.hid (by
                    refine ⟨((O5.out.below.trans (b7.mono O5.out.below.size)).trans b67.below).setCell (Nat.le_refl _) _, Nat.le_refl _, ?_, by simp, ?_, ?_, ?_, World.ownsRow_nil _ _ _ _⟩
                    · have := O5.out.below.size; omega
                    · rw [blk_set q7, e7]; rfl
                    · rw [e7]
                      exact own_off l7 q7 (by decide) set_off
                    · intro y hy
                      rw [List.mem_append, List.mem_singleton] at hy
                      have far : ∀ k, k ≠ w1.heap.size → (w7.setCell ⟨w1.heap.size, 3, none⟩ (.slice A7 (xs.length + 1) k7)).heap[k]? = w7.heap[k]? := fun k hk => set_off k hk
                      have far2 : ∀ {y : MRc} {E : Nat → Prop}, HeldR w7 E y → HeldR (w7.setCell ⟨w1.heap.size, 3, none⟩ (.slice A7 (xs.length + 1) k7)) E y := fun {y E} hy => ⟨⟨hy.1.1.keep fun b hb => far b (hb.elim (fun q => absurd q (Nat.not_lt_zero _)) (fun ⟨_, _, r⟩ => blk_ne r q7 (by decide))), hy.1.2⟩, hy.2⟩
                      refine far2 ?_
                      rcases hy with hy | rfl
                      · have h5 := O5.out.held y hy
                        have h7 : HeldR w7 (fun k => w1.heap.size ≤ k ∧ k < S) y := ⟨⟨h5.1.1.keep (fun b hb => by
                          rcases hb with hb | ⟨cs, fr, hb⟩
                          · omega
                          · exact (b67.typed b _ _ _ ((b7.block b (lt_of_block hb)).trans hb) (by decide)).trans (b7.block b (lt_of_block hb))), h5.1.2⟩, h5.2⟩
                        exact h7.mono (fun k hk => ⟨hk.1, by have := O5.out.hi; omega⟩)
                      · exact tx6.mono (fun k hk => ⟨by omega, hk.2⟩))
                  have WK5 := WK.out
                  have XS : Hid (xrecs xs ++ [⟨xb, fr, P + 1⟩] = xrecs (xs ++ [⟨⟨xb, A6, k6⟩, fr, P + 1⟩])) := Lib.hid (by rw [xrecs_snoc]; rfl)
                  rw [XS.out] at WK5
                  have WK6 := Lib.hid WK5
                  clear WK5 tx6 l7 q7 c7 f7 b67 b7 b6 hown6 hown7 s6 S0 c3' hc5
                  go_wp2
                  go_roundw
                  case rel => exact ⟨P + 1, w7.heap.size, A7, k7, xs ++ [⟨⟨xb, A6, k6⟩, fr, P + 1⟩], P + 1, none, 0, 0, [], by go_num, rfl, by go_num, by omega, by omega, by omega, rfl, by simp, by rw [e7]; omega, OW8.out, WK6.out⟩
                  case measure => simp [intOf]; omega
              · rw [if_neg q2] at wk
                have zz : (e2 != 0) = true := by simp [q2]
                have WK := Lib.hid wk
                have Q2 := Lib.hid q2
                clear q2 wk
                go_wp2
                go_ret2
                rw [OE.out, ← WK.out]
                exact OpenOk.bad (x := (e2, _)) (B1.out.trans ((HO.out.below.trans (B3.out.mono zr)).mono B1.out.size)) Q2.out
            · obtain rfl : P = b := by omega
              have ne : ((P : Int) != (P : Int)) = false := by simp
              have w0 := HW.out
              rw [Nat.sub_self] at w0
              by_cases hz : na = 0
              · have hall : all = [] := List.eq_nil_of_length_eq_zero (by rw [← HNA.out]; exact hz)
                have w1' : R = (0, xrecs xs) := by rw [← w0]; unfold Wl.walk; rw [if_pos hall]
                have W1 := Lib.hid w1'
                subst hz
                clear w0 w1' hall
                go_wp2
                go_ret2
                rw [OE.out, W1.out]
                refine ⟨B1.out.trans (HO.out.below.mono B1.out.size), .inl ⟨rfl, w1.heap.size, rfl, AL, cL, xs, ⟨⟨B1.out.size, lt_of_block HO.out.cell⟩, HO.out.cell, Lies.of_own HO.out.l, fun ad e => ⟨InF.of_own (F := fun k => w.heap.size ≤ k) HO.out.l (fun k hk => Nat.le_trans B1.out.size hk) ad e, own_lt HO.out.l ad e⟩, (own_room HO.out.l).2, fun x hx => (HO.out.held x hx).mono (fun k hk => ⟨Nat.le_trans B1.out.size hk.1, Nat.lt_of_lt_of_le hk.2 HO.out.hi⟩), GD.out.gen, GD.out.nums P (by simp)⟩, rfl⟩⟩
              · have hall : all ≠ [] := fun e => hz (by rw [HNA.out, e]; rfl)
                have w1' : R = (70, []) := by rw [← w0]; unfold Wl.walk; rw [if_neg hall]
                have W1 := Lib.hid w1'
                have nz : (0 : Int) < (na : Int) := by omega
                clear w0 w1' hall
                go_wp2
                go_ret2
                rw [OE.out, W1.out]
                exact OpenOk.bad (x := (70, _)) (B1.out.trans (HO.out.below.mono B1.out.size)) (show (70 : Int) ≠ 0 by decide)
        · have OE : Hid (Wl.openIt d = (70, ⟨0, 0, [], false⟩)) := Lib.hid (Wl.open_wrong LD.out (by omega))
          obtain ⟨r, hr⟩ : ∃ r, r = Wl.ring d := ⟨_, rfl⟩
          rw [← hr] at h2
          have HR := Lib.hid hr
          have h2' : decide (r < b - a) = true := decide_eq_true (by omega)
          clear hr h1 h2 ua ub
          go_wp2_with fail
          have RQ : Hid (∀ u : World, u.heap = w1.heap → Calls Tryz.prog 34 #[.pointer (some ⟨p, 0, none⟩)] u fun e w' => e = .returned (.int .u64 (r : Int)) ∧ w' = u) := Lib.hid fun u hu => by
            rw [HR.out]
            exact ring_q (R1.out.keep (fun k _ => by rw [hu])) hf
          go_quiet ((go_at_call 34; exact Calls.quiet_of_same (RQ.out _ rfl)))
          go_wp2
          go_ret2
          rw [OE.out]
          exact OpenOk.bad (x := (70, _)) (below_drewN B1.out _) (by decide)
      · have OE : Hid (Wl.openIt d = (70, ⟨0, 0, [], false⟩)) := Lib.hid (Wl.open_wrong LD.out (by omega))
        have h1' : decide (b < a) = true := decide_eq_true (by omega)
        clear h1 ua ub
        go_wp2_with fail
        go_quiet ((go_at_call 34; exact Calls.quiet_of_same (ring_q R1.out hf)))
        go_wp2
        go_ret2
        rw [OE.out]
        exact OpenOk.bad (x := (70, _)) (below_drewN B1.out _) (by decide)
    · have OE : Hid (Wl.openIt d = (70, ⟨0, 0, [], false⟩)) := Lib.hid (Wl.open_count LD.out (by rw [← hn1]; exact hl2))
      have ne : ((n1 : Int) != 2) = true := by simp; omega
      have B1 := Lib.hid hb1
      clear hn1 ho1 hl2
      go_wp2_with fail
      go_quiet ((go_at_call 34; exact Calls.quiet_of_same (ring_q H.out hf)))
      go_wp2
      go_ret2
      rw [OE.out]
      exact OpenOk.bad (x := (70, _)) (below_drewN B1.out _) (by decide)
  · have zz : (e1 != 0) = true := by simp [q1]
    have OE : Hid (Wl.openIt d = (e1, ⟨0, 0, [], false⟩)) := Lib.hid (Wl.open_err LD.out q1)
    have Q1 := Lib.hid q1
    clear q1
    go_wp2
    go_ret2
    rw [OE.out]
    exact OpenOk.bad (x := (e1, _)) hb1 Q1.out

/-- A wal's and its disk's blocks are there, and apart. -/
structure WD (w : World) (E F : Nat → Prop) (pw p : Nat) (x : Wl.W) (d : Dk.D) : Prop where
  rd : RD w F p d
  rw : RW w E pw p x
  eo : ∀ k, E k → k < w.heap.size
  fo : ∀ k, F k → k < w.heap.size
  ap : ∀ k, E k → ¬ F k
theorem WD.keep {w w' : World} {E F : Nat → Prop} {pw p : Nat} {x : Wl.W} {d : Dk.D} (h : WD w E F pw p x d) (hb : Below w.heap.size w w') : WD w' E F pw p x d :=
  ⟨h.rd.keep (fun k hk => hb.block k (h.fo k hk)), h.rw.keep (fun k hk => hb.block k (h.eo k hk)), fun k hk => Nat.lt_of_lt_of_le (h.eo k hk) hb.size, fun k hk => Nat.lt_of_lt_of_le (h.fo k hk) hb.size, h.ap⟩
/-- What a method of the document's Wal that answers an error's number leaves. -/
def WOk (E F : Nat → Prop) (pw p : Nat) (y : Int × Wl.W × Dk.D) (w : World) (e : Ending) (w' : World) : Prop :=
  e = .returned (.int .i64 y.1) ∧ ∃ E' F', WD w' E' F' pw p y.2.1 y.2.2 ∧ (∀ k, k < w.heap.size → E' k → E k) ∧ (∀ k, k < w.heap.size → F' k → F k) ∧ But (fun k => E k ∨ F k) w.heap.size w w'
theorem WOk.same {E F : Nat → Prop} {pw p : Nat} {x : Wl.W} {d : Dk.D} {w w' : World} {er : Int} (h : WD w E F pw p x d) (hb : Below w.heap.size w w') : WOk E F pw p (er, x, d) w (.returned (.int .i64 er)) w' :=
  ⟨rfl, E, F, h.keep hb, fun _ _ q => q, fun _ _ q => q, But.of_below hb _⟩

set_option maxHeartbeats 1000000 in
theorem refFree_c {w : World} {E F : Nat → Prop} {pw p : Nat} {x : Wl.W} {d : Dk.D} (h : WD w E F pw p x d) (hf : d.s.length ≤ 4096) (h1 : Wl.headOf x.recs x.tail ≤ x.tail) (h2 : x.tail - Wl.headOf x.recs x.tail ≤ Wl.ring d) :
    Calls Tryz.prog 27 #[.pointer (some ⟨pw, 0, none⟩)] w fun e w' => e = .returned (.int .i64 (Wl.free d x : Int)) ∧ ∃ n, w' = w.drewN n := by
  obtain ⟨r, hr⟩ : ∃ r, r = Wl.ring d := ⟨_, rfl⟩
  obtain ⟨g, hg⟩ : ∃ g, g = Wl.headOf x.recs x.tail := ⟨_, rfl⟩
  have FR : Hid (Wl.free d x = r - (x.tail - g)) := Lib.hid (by unfold Wl.free; rw [hr, hg])
  have RQ : Hid (∀ u : World, u.heap = w.heap → Calls Tryz.prog 34 #[.pointer (some ⟨p, 0, none⟩)] u fun e w' => e = .returned (.int .u64 (r : Int)) ∧ w' = u) := Lib.hid fun u hu => by
    rw [hr]
    exact ring_q (h.rd.keep (fun k _ => by rw [hu])) hf
  have HQ : Hid (∀ u : World, u.heap = w.heap → Calls Tryz.prog 48 #[.pointer (some ⟨pw, 0, none⟩)] u fun e w' => e = .returned (.int .u64 (g : Int)) ∧ w' = u) := Lib.hid fun u hu => by
    rw [hg]
    exact (refHead_c (h.rw.keep (fun k _ => by rw [hu]))).mono fun _ _ ⟨a, b⟩ => ⟨a, b.symm⟩
  have hrl : r ≤ 4096 := by rw [hr]; unfold Wl.ring; omega
  obtain ⟨AL, cL, xs, r5, _⟩ := h.rw
  obtain ⟨c0, _, c2, _, _, _⟩ := r5.fields
  have ut := r5.tail64
  rw [← hg] at h1 h2
  rw [← hr] at h2
  clear r5 h hr hg
  have w1 : IntKind.u64.wrap ((x.tail : Int) - (g : Int)) = ((x.tail - g : Nat) : Int) := by have := ut.int; rw [IntKind.wrap_u64]; omega
  have w2 : IntKind.u64.wrap ((r : Int) - ((x.tail - g : Nat) : Int)) = ((r - (x.tail - g) : Nat) : Int) := by rw [IntKind.wrap_u64]; omega
  obtain ⟨N, hN⟩ : ∃ N, N = x.tail - g := ⟨_, rfl⟩
  rw [← hN] at w1 w2 FR
  obtain ⟨M, hM⟩ : ∃ M, M = r - N := ⟨_, rfl⟩
  rw [← hM] at w2 FR
  have m1 : (M : Int) ≤ 4096 := by omega
  clear hN hM h1 h2 ut
  go_enter Tryz.func27, Tryz.ntmps27
  go_wp2_with fail
  go_quiet ((first | (go_at_call 34; exact Calls.quiet_of_same (RQ.out _ rfl)) | (go_at_call 48; exact Calls.quiet_of_same (HQ.out _ rfl))))
  go_wp2
  go_ret
  exact ⟨ret_i64 (by rw [FR.out]), nq, rfl⟩
/-- The wal's own cell has turned: new records, or the mark of its end. -/
theorem RW5.turned {w w3 w4 : World} {E : Nat → Prop} {pw p : Nat} {AL AN : Option Addr} {cL cN : Nat} {xs ys : List MRc} {gen tail gen' t : Nat} {over over' : Bool} (h : RW5 w E pw p AL cL xs gen tail over) (h3 : ∀ k, E k → w3.heap[k]? = w.heap[k]?)
    (hL : Lies w 0 89 AN (xcells ys)) (hI : InF E AN) (hr : ys.length ≤ cN) (hy : ∀ y ∈ ys, HeldR w E y) (ug : U64 gen') (ut : U64 t)
    (hp : w4.heap[pw]? = some (.cells #[.pointer (some ⟨p, 0, none⟩), .int .u64 (gen' : Int), .int .u64 (t : Int), .slice AN ys.length cN, .bool over'] 55 (0, 0))) (hk : ∀ k, k ≠ pw → w4.heap[k]? = w3.heap[k]?) : RW5 w4 E pw p AN cN ys gen' t over' := by
  have q3 := (h3 pw h.fp).trans h.cell
  refine ⟨h.fp, hp, ?_, hI, hr, fun y hyy => ?_, ug, ut⟩
  · exact (hL.keepF hI h3).keep fun b hb => hk b (hb.elim (fun q => absurd q (Nat.not_lt_zero _)) (fun ⟨_, _, r⟩ => blk_ne r q3 (by decide)))
  · have y3 := (hy y hyy).keepF h3
    exact ⟨⟨y3.1.1.keep fun b hb => hk b (hb.elim (fun q => absurd q (Nat.not_lt_zero _)) (fun ⟨_, _, r⟩ => blk_ne r q3 (by decide))), y3.1.2⟩, y3.2⟩

set_option maxHeartbeats 8000000 in
theorem refTurn_c {w : World} {E F : Nat → Prop} {pw p : Nat} {x : Wl.W} {d : Dk.D} (h : WD w E F pw p x d) (hx : x.over = false) (hd : d.ok) (hl : d.left ≤ 9223372036854775807) (hcl : d.cache.length ≤ 10000000)
    {AN : Option Addr} {nN cN : Nat} {ys : List MRc} (hL : Lies w 0 89 AN (xcells ys)) (hI : InF E AN) (hr : ys.length ≤ cN) (hy : ∀ y ∈ ys, HeldR w E y) (hn : nN = ys.length) {t : Nat} (ut : U64 t) (ug : U64 (x.gen + 1)) :
    Calls Tryz.prog 45 #[.pointer (some ⟨pw, 0, none⟩), .slice AN nN cN, .int .u64 (t : Int)] w (WOk E F pw p (Wl.turn x d (xrecs ys) t) w) := by
  obtain ⟨g0, hg0⟩ : ∃ g0, g0 = Wl.headOf (xrecs ys) t := ⟨_, rfl⟩
  have u0 : U64 g0 := by
    rw [hg0]
    cases ys with
    | nil => exact ut
    | cons y l => exact (hy y (by simp)).2.2.2.1
  obtain ⟨e1, d1, hs1⟩ : ∃ e1 d1, Su.save d (x.gen + 1) [g0, t] = (e1, d1) := ⟨_, _, rfl⟩
  have TN : Hid (Wl.turn x d (xrecs ys) t = if e1 = 0 then (0, ⟨x.gen + 1, t, xrecs ys, false⟩, d1) else (50, { x with over := true }, d1)) := Lib.hid (by unfold Wl.turn; rw [← hg0, hs1])
  have SV := Lib.hid hs1
  have HH := Lib.hid h
  have HD := Lib.hid hd
  have HL := Lib.hid hl
  have HLL := Lib.hid hL
  have HI := Lib.hid hI
  have HY := Lib.hid hy
  have HN := Lib.hid hn
  have U0 := Lib.hid u0
  have UT := Lib.hid ut
  have UG := Lib.hid ug
  have HG0 := Lib.hid hg0
  obtain ⟨AL, cL, xs, r5, e5⟩ := h.rw
  have R5 := Lib.hid r5
  have E5 := Lib.hid e5
  have pl : pw < w.heap.size := lt_of_block r5.cell
  obtain ⟨f0, f1, _, _, _, _⟩ := r5.fields
  have wg : IntKind.u64.wrap ((x.gen : Int) + 1) = ((x.gen + 1 : Nat) : Int) := by have := ug.int; rw [IntKind.wrap_u64]; omega
  have goal0 : nN = 0 ∨ (0 < nN ∧ ∃ ad, AN = some ad ∧ w.cell? ⟨ad.block, ad.off + 1, none⟩ = some (.int .u64 (g0 : Int))) := by
    rw [hg0]
    cases ys with
    | nil => exact .inl hn
    | cons y l =>
      obtain ⟨ad, e, _, hc⟩ := hL (by simp [xcells, MRc.cells])
      exact .inr ⟨by rw [hn]; simp, ad, e, hc 1 _ rfl⟩
  have z0 : nN = 0 → g0 = t := fun e => by
    have : ys = [] := List.eq_nil_of_length_eq_zero (by rw [← hn]; exact e)
    rw [hg0, this]
    rfl
  clear h hd hl hL hI hy hs1 r5 e5 hg0 ut ug u0
  rcases goal0 with hz | ⟨hz, ad, rfl, ch⟩
  · obtain rfl : g0 = t := z0 hz
    subst hz
    clear z0 hn
    go_enter Tryz.func45, Tryz.ntmps45
    go_wp2_with fail
    refine wp_region_held (S := fun u => u.cell? ⟨pw, 0, none⟩ = some (.pointer (some ⟨p, 0, none⟩)) ∧ u.cell? ⟨pw, 1, none⟩ = some (.int .u64 (x.gen : Int))) (by kernel_rfl) ?_
    change wpAnyH _ _ _ _ _ _ _ _ w.drew
    have S0 : w.drew.cell? ⟨pw, 0, none⟩ = some (.pointer (some ⟨p, 0, none⟩)) ∧ w.drew.cell? ⟨pw, 1, none⟩ = some (.int .u64 (x.gen : Int)) := ⟨f0, f1⟩
    refine wpAnyH_take (i := 0) (v := ?_) rfl (by kernel_rfl) (by kernel_rfl) (by kernel_rfl) (fun _ _ _ h => h) (Or.inl ⟨by rfl, ?_⟩) (by assumption) ?_
    rotate_left
    · intro u hu
      have c0 := hu.1
      have c1 := hu.2
      clear hu
      go_simp
      try rfl
    simp only [Act.put, List.setIfInBounds_toArray, List.set_cons_zero, List.set_cons_succ, List.getElem_toArray, List.getElem_cons_zero]
    refine wpAnyH_take (i := 1) (v := ?_) rfl (by kernel_rfl) (by kernel_rfl) (by kernel_rfl) (fun _ _ _ h => h) (Or.inl ⟨by rfl, ?_⟩) (by assumption) ?_
    rotate_left
    · intro u hu
      have c0 := hu.1
      have c1 := hu.2
      clear hu
      go_simp
      try rfl
    simp only [Act.put, List.setIfInBounds_toArray, List.set_cons_zero, List.set_cons_succ, List.getElem_toArray, List.getElem_cons_zero, List.getElem_cons_succ]
    refine wpAnyH_take (i := 2) (v := ?_) rfl (by kernel_rfl) (by kernel_rfl) (by kernel_rfl) (fun _ _ _ h => h) (Or.inl ⟨by rfl, ?_⟩) (by assumption) ?_
    rotate_left
    · intro u hu
      have c0 := hu.1
      have c1 := hu.2
      clear hu
      go_simp
      try rfl
    simp only [Act.put, List.setIfInBounds_toArray, List.set_cons_zero, List.set_cons_succ, List.getElem_toArray, List.getElem_cons_zero, List.getElem_cons_succ]
    refine wpAnyH_take (i := 3) (v := ?_) rfl (by kernel_rfl) (by kernel_rfl) (by kernel_rfl) (fun _ _ _ h => h) (Or.inl ⟨by rfl, ?_⟩) (by assumption) ?_
    rotate_left
    · intro u hu
      have c0 := hu.1
      have c1 := hu.2
      clear hu
      go_simp
      try rfl
    simp only [Act.put, List.setIfInBounds_toArray, List.set_cons_zero, List.set_cons_succ, List.getElem_toArray, List.getElem_cons_zero, List.getElem_cons_succ]
    refine wpAnyH_take (i := 4) (v := ?_) rfl (by kernel_rfl) (by kernel_rfl) (by kernel_rfl) (fun _ _ _ h => h) (Or.inl ⟨by rfl, ?_⟩) (by assumption) ?_
    rotate_left
    · intro u hu
      have c0 := hu.1
      have c1 := hu.2
      clear hu
      go_simp
      try rfl
    simp only [Act.put, List.setIfInBounds_toArray, List.set_cons_zero, List.set_cons_succ, List.getElem_toArray, List.getElem_cons_zero, List.getElem_cons_succ]
    refine wpAnyH_take (i := 5) (v := ?_) rfl (by kernel_rfl) (by kernel_rfl) (by kernel_rfl) (fun _ _ _ h => h) (Or.inl ⟨by rfl, ?_⟩) (by assumption) ?_
    rotate_left
    · intro u hu
      have c0 := hu.1
      have c1 := hu.2
      clear hu
      go_simp
      try rfl
    simp only [Act.put, List.setIfInBounds_toArray, List.set_cons_zero, List.set_cons_succ, List.getElem_toArray, List.getElem_cons_zero, List.getElem_cons_succ]
    refine wpAnyH_take (i := 6) (v := ?_) rfl (by kernel_rfl) (by kernel_rfl) (by kernel_rfl) (fun _ _ _ h => h) (Or.inl ⟨by rfl, ?_⟩) (by assumption) ?_
    rotate_left
    · intro u hu
      have c0 := hu.1
      have c1 := hu.2
      clear hu
      go_simp
      try rfl
    simp only [Act.put, List.setIfInBounds_toArray, List.set_cons_zero, List.set_cons_succ, List.getElem_toArray, List.getElem_cons_zero, List.getElem_cons_succ]
    refine wpAnyH_take (i := 7) (v := ?_) rfl (by kernel_rfl) (by kernel_rfl) (by kernel_rfl) (fun _ _ _ h => h) (Or.inl ⟨by rfl, ?_⟩) (by assumption) ?_
    rotate_left
    · intro u hu
      have c0 := hu.1
      have c1 := hu.2
      clear hu
      go_simp
      try rfl
    simp only [Act.put, List.setIfInBounds_toArray, List.set_cons_zero, List.set_cons_succ, List.getElem_toArray, List.getElem_cons_zero, List.getElem_cons_succ]
    refine wpAnyH_take (i := 8) (v := ?_) rfl (by kernel_rfl) (by kernel_rfl) (by kernel_rfl) (fun _ _ _ h => h) (Or.inl ⟨by rfl, ?_⟩) (by assumption) ?_
    rotate_left
    · intro u hu
      have c0 := hu.1
      have c1 := hu.2
      clear hu
      go_simp
      try rfl
    simp only [Act.put, List.setIfInBounds_toArray, List.set_cons_zero, List.set_cons_succ, List.getElem_toArray, List.getElem_cons_zero, List.getElem_cons_succ]
    refine wpAnyH_take (i := 9) (v := ?_) rfl (by kernel_rfl) (by kernel_rfl) (by kernel_rfl) (fun _ _ _ h => h) (Or.inl ⟨by rfl, ?_⟩) (by assumption) ?_
    rotate_left
    · intro u hu
      have c0 := hu.1
      have c1 := hu.2
      clear hu
      go_simp
      try rfl
    simp only [Act.put, List.setIfInBounds_toArray, List.set_cons_zero, List.set_cons_succ, List.getElem_toArray, List.getElem_cons_zero, List.getElem_cons_succ]
    refine wpAnyH_take (i := 10) (v := ?_) rfl (by kernel_rfl) (by kernel_rfl) (by kernel_rfl) (fun _ _ _ h => h) (Or.inl ⟨by rfl, ?_⟩) (by assumption) ?_
    rotate_left
    · intro u hu
      have c0 := hu.1
      have c1 := hu.2
      clear hu
      go_simp
      try rfl
    simp only [Act.put, List.setIfInBounds_toArray, List.set_cons_zero, List.set_cons_succ, List.getElem_toArray, List.getElem_cons_zero, List.getElem_cons_succ]
    refine wpAnyH_all (rs := [11]) (by kernel_rfl) (by simp) ?_
    intro j8 h8
    obtain rfl : j8 = 11 := by simpa using h8
    refine wpOp_step rfl (fun K hK => ?_)
    go_simp
    have ba : Below w.heap.size w (w.drew.alloc (.cells (ncells [g0, g0]).toArray 52)) := (Below.refl _ _).drew.alloc (Nat.le_refl _) _
    refine hK _ _ ⟨⟨(ba.cell (p := ⟨pw, 0, none⟩) pl).trans f0, (ba.cell (p := ⟨pw, 1, none⟩) pl).trans f1⟩, ?_⟩
    clear hK K h8
    try simp only [Act.put, List.setIfInBounds_toArray, List.set_cons_zero, List.set_cons_succ, List.getElem_toArray, List.getElem_cons_zero, List.getElem_cons_succ]
    refine wpAnyH_all (rs := [12]) (by kernel_rfl) (by simp) ?_
    intro j8 h8
    obtain rfl : j8 = 12 := by simpa using h8
    refine wpOp_step rfl (fun K hK => ?_)
    go_simp
    have cs := refSave_c (w := (w.drew.alloc (.cells (ncells [g0, g0]).toArray 52))) (B := 0) (t := 52) (g := x.gen + 1) (A := some ⟨w.heap.size, 0, none⟩) (n := 2) (c := 2) (l := [g0, g0]) (HH.out.rd.keep (fun k hk => ba.block k (HH.out.fo k hk))) (fun k hk => Nat.lt_of_lt_of_le (HH.out.fo k hk) ba.size) HD.out HL.out hcl (by have q := Lies.of_blk (B := 0) (heap_alloc_new w.drew (.cells (ncells [g0, g0]).toArray 52)); rw [List.toList_toArray] at q; exact q) rfl UG.out (by intro n hn; simp at hn; rcases hn with rfl | rfl <;> first | exact U0.out | exact UT.out) (by decide)
    rw [SV.out] at cs
    go_at_call 56
    refine cs.mono ?_
    rintro e w3 ⟨rfl, hr3, hb3⟩
    have za := ba.size
    have keep3 : ∀ k, k < w.heap.size → ¬ F k → w3.heap[k]? = w.heap[k]? := fun k hk hf => (hb3.block k (by omega) hf).trans (ba.block k hk)
    have p3 := (keep3 pw pl (HH.out.ap pw R5.out.fp)).trans R5.out.cell
    have d0 : w3.cell? ⟨pw, 0, none⟩ = some (.pointer (some ⟨p, 0, none⟩)) := by simp [World.cell?, p3]
    have d1' : w3.cell? ⟨pw, 1, none⟩ = some (.int .u64 (x.gen : Int)) := by simp [World.cell?, p3]
    have d2 : w3.cell? ⟨pw, 2, none⟩ = some (.int .u64 (x.tail : Int)) := by simp [World.cell?, p3]
    have d3 : w3.cell? ⟨pw, 3, none⟩ = some (.slice AL xs.length cL) := by simp [World.cell?, p3]
    have d4 : w3.cell? ⟨pw, 4, none⟩ = some (.bool x.over) := by simp [World.cell?, p3]
    have z1 := blk_free p3 1
    have z2 := blk_free p3 2
    have z3 := blk_free p3 3
    have z4 := blk_free p3 4
    have K3 := Lib.hid (show ∀ k, E k → w3.heap[k]? = w.heap[k]? from fun k hk => keep3 k (HH.out.eo k hk) (HH.out.ap k hk))
    have P3 := Lib.hid p3
    have RD3 : Hid (RD w3 (fun k => Up F (w.drew.alloc (.cells (ncells [g0, g0]).toArray 52)).heap.size k ∧ k < w3.heap.size) p d1) := Lib.hid hr3.cap
    have BT3 : Hid (But (fun k => E k ∨ F k) w.heap.size w w3) := Lib.hid ((But.of_below ba _).trans (hb3.mono za (fun k hk => .inr hk)))
    have ZA := Lib.hid za
    have ZB := Lib.hid hb3.size
    refine hK _ _ ⟨⟨d0, d1'⟩, ?_⟩
    clear hK K h8 hr3 hb3 cs ba keep3 p3
    refine wpAnyH_take (i := 13) (v := ?_) rfl (by kernel_rfl) (by kernel_rfl) (by kernel_rfl) (fun _ _ _ h => h) (Or.inl ⟨by rfl, ?_⟩) (show w3.cell? ⟨pw, 0, none⟩ = some (.pointer (some ⟨p, 0, none⟩)) ∧ w3.cell? ⟨pw, 1, none⟩ = some (.int .u64 (x.gen : Int)) from ⟨d0, d1'⟩) ?_
    rotate_left
    · intro u hu
      clear hu
      go_simp
      try rfl
    simp only [Act.put, List.setIfInBounds_toArray, List.set_cons_zero, List.set_cons_succ, List.getElem_toArray, List.getElem_cons_zero, List.getElem_cons_succ]
    refine wpAnyH_done (by kernel_rfl) ?_ _
    have FIN : Hid (∀ (w4 : World) (x' : Wl.W), RW w4 E pw p x' → (∀ k, k ≠ pw → w4.heap[k]? = w3.heap[k]?) → w4.os = w3.os → w4.tape = w3.tape → w4.output = w3.output → w4.heap.size = w3.heap.size → ∃ E' F', WD w4 E' F' pw p x' d1 ∧ (∀ k, k < w.heap.size → E' k → E k) ∧ (∀ k, k < w.heap.size → F' k → F k) ∧ But (fun k => E k ∨ F k) w.heap.size w w4) := Lib.hid fun w4 x' hx' hk h1 h2 h3 h4 => by
      have apw : ∀ k, (Up F (w.drew.alloc (.cells (ncells [g0, g0]).toArray 52)).heap.size k ∧ k < w3.heap.size) → k ≠ pw := fun k hk5 e => hk5.1.elim (fun f => HH.out.ap pw R5.out.fp (e ▸ f)) (fun q => by have := ZA.out; omega)
      refine ⟨E, _, ⟨RD3.out.keep (fun k hk2 => hk k (apw k hk2)), hx', fun k hk2 => by have := HH.out.eo k hk2; have := ZA.out; have := ZB.out; omega, fun k hk2 => by rw [h4]; exact hk2.2, fun k he hf => hf.1.elim (HH.out.ap k he) (fun q => by have := HH.out.eo k he; have := ZA.out; omega)⟩, fun _ _ q => q, fun k hk2 hf => hf.1.elim id (fun q => by have := ZA.out; omega), ?_⟩
      exact ⟨h1.trans BT3.out.os, h2.trans BT3.out.tape, h3.trans BT3.out.output, by rw [h4]; exact BT3.out.size, fun k hk2 hf => (hk k (fun e => hf (.inl (e ▸ R5.out.fp)))).trans (BT3.out.block k hk2 hf)⟩
    clear d0 ZA ZB za
    by_cases q1 : e1 = 0
    · subst q1
      have TN1 : Hid (Wl.turn x d (xrecs ys) g0 = (0, ⟨x.gen + 1, g0, xrecs ys, false⟩, d1)) := Lib.hid (by rw [TN.out, if_pos rfl])
      clear TN
      go_wp2
      go_ret
      rw [TN1.out]
      refine ⟨rfl, FIN.out _ _ ⟨_, cN, ys, RW5.turned R5.out K3.out HLL.out HI.out hr HY.out UG.out UT.out ?_ ?_, rfl⟩ ?_ rfl rfl rfl (by simp)⟩
      · rw [blk_set (blk_set (blk_set P3.out 1 _) 3 _) 2 _, hx, ← HN.out]; rfl
      · exact fun k hk => (set_off k hk).trans ((set_off k hk).trans (set_off k hk))
      · exact fun k hk => (set_off k hk).trans ((set_off k hk).trans (set_off k hk))
    · have zz : (e1 != 0) = true := by simp [q1]
      have TN2 : Hid (Wl.turn x d (xrecs ys) g0 = (50, { x with over := true }, d1)) := Lib.hid (by rw [TN.out, if_neg q1])
      clear q1
      go_wp2
      go_ret
      rw [TN2.out]
      refine ⟨rfl, FIN.out _ _ ⟨AL, cL, xs, RW5.turned R5.out K3.out R5.out.l R5.out.lF R5.out.room R5.out.held R5.out.gen64 R5.out.tail64 ?_ set_off, E5.out⟩ set_off rfl rfl rfl (by simp)⟩
      rw [blk_set P3.out]; rfl
  · have n0 : (0 : Int) < (nN : Int) := by omega
    clear z0 hn
    go_enter Tryz.func45, Tryz.ntmps45
    go_wp2_with fail
    refine wp_region_held (S := fun u => u.cell? ⟨pw, 0, none⟩ = some (.pointer (some ⟨p, 0, none⟩)) ∧ u.cell? ⟨pw, 1, none⟩ = some (.int .u64 (x.gen : Int))) (by kernel_rfl) ?_
    change wpAnyH _ _ _ _ _ _ _ _ w.drew
    have S0 : w.drew.cell? ⟨pw, 0, none⟩ = some (.pointer (some ⟨p, 0, none⟩)) ∧ w.drew.cell? ⟨pw, 1, none⟩ = some (.int .u64 (x.gen : Int)) := ⟨f0, f1⟩
    refine wpAnyH_take (i := 0) (v := ?_) rfl (by kernel_rfl) (by kernel_rfl) (by kernel_rfl) (fun _ _ _ h => h) (Or.inl ⟨by rfl, ?_⟩) (by assumption) ?_
    rotate_left
    · intro u hu
      have c0 := hu.1
      have c1 := hu.2
      clear hu
      go_simp
      try rfl
    simp only [Act.put, List.setIfInBounds_toArray, List.set_cons_zero, List.set_cons_succ, List.getElem_toArray, List.getElem_cons_zero]
    refine wpAnyH_take (i := 1) (v := ?_) rfl (by kernel_rfl) (by kernel_rfl) (by kernel_rfl) (fun _ _ _ h => h) (Or.inl ⟨by rfl, ?_⟩) (by assumption) ?_
    rotate_left
    · intro u hu
      have c0 := hu.1
      have c1 := hu.2
      clear hu
      go_simp
      try rfl
    simp only [Act.put, List.setIfInBounds_toArray, List.set_cons_zero, List.set_cons_succ, List.getElem_toArray, List.getElem_cons_zero, List.getElem_cons_succ]
    refine wpAnyH_take (i := 2) (v := ?_) rfl (by kernel_rfl) (by kernel_rfl) (by kernel_rfl) (fun _ _ _ h => h) (Or.inl ⟨by rfl, ?_⟩) (by assumption) ?_
    rotate_left
    · intro u hu
      have c0 := hu.1
      have c1 := hu.2
      clear hu
      go_simp
      try rfl
    simp only [Act.put, List.setIfInBounds_toArray, List.set_cons_zero, List.set_cons_succ, List.getElem_toArray, List.getElem_cons_zero, List.getElem_cons_succ]
    refine wpAnyH_take (i := 3) (v := ?_) rfl (by kernel_rfl) (by kernel_rfl) (by kernel_rfl) (fun _ _ _ h => h) (Or.inl ⟨by rfl, ?_⟩) (by assumption) ?_
    rotate_left
    · intro u hu
      have c0 := hu.1
      have c1 := hu.2
      clear hu
      go_simp
      try rfl
    simp only [Act.put, List.setIfInBounds_toArray, List.set_cons_zero, List.set_cons_succ, List.getElem_toArray, List.getElem_cons_zero, List.getElem_cons_succ]
    refine wpAnyH_take (i := 4) (v := ?_) rfl (by kernel_rfl) (by kernel_rfl) (by kernel_rfl) (fun _ _ _ h => h) (Or.inl ⟨by rfl, ?_⟩) (by assumption) ?_
    rotate_left
    · intro u hu
      have c0 := hu.1
      have c1 := hu.2
      clear hu
      go_simp
      try rfl
    simp only [Act.put, List.setIfInBounds_toArray, List.set_cons_zero, List.set_cons_succ, List.getElem_toArray, List.getElem_cons_zero, List.getElem_cons_succ]
    refine wpAnyH_take (i := 5) (v := ?_) rfl (by kernel_rfl) (by kernel_rfl) (by kernel_rfl) (fun _ _ _ h => h) (Or.inl ⟨by rfl, ?_⟩) (by assumption) ?_
    rotate_left
    · intro u hu
      have c0 := hu.1
      have c1 := hu.2
      clear hu
      go_simp
      try rfl
    simp only [Act.put, List.setIfInBounds_toArray, List.set_cons_zero, List.set_cons_succ, List.getElem_toArray, List.getElem_cons_zero, List.getElem_cons_succ]
    refine wpAnyH_take (i := 6) (v := ?_) rfl (by kernel_rfl) (by kernel_rfl) (by kernel_rfl) (fun _ _ _ h => h) (Or.inl ⟨by rfl, ?_⟩) (by assumption) ?_
    rotate_left
    · intro u hu
      have c0 := hu.1
      have c1 := hu.2
      clear hu
      go_simp
      try rfl
    simp only [Act.put, List.setIfInBounds_toArray, List.set_cons_zero, List.set_cons_succ, List.getElem_toArray, List.getElem_cons_zero, List.getElem_cons_succ]
    refine wpAnyH_take (i := 7) (v := ?_) rfl (by kernel_rfl) (by kernel_rfl) (by kernel_rfl) (fun _ _ _ h => h) (Or.inl ⟨by rfl, ?_⟩) (by assumption) ?_
    rotate_left
    · intro u hu
      have c0 := hu.1
      have c1 := hu.2
      clear hu
      go_simp
      try rfl
    simp only [Act.put, List.setIfInBounds_toArray, List.set_cons_zero, List.set_cons_succ, List.getElem_toArray, List.getElem_cons_zero, List.getElem_cons_succ]
    refine wpAnyH_take (i := 8) (v := ?_) rfl (by kernel_rfl) (by kernel_rfl) (by kernel_rfl) (fun _ _ _ h => h) (Or.inl ⟨by rfl, ?_⟩) (by assumption) ?_
    rotate_left
    · intro u hu
      have c0 := hu.1
      have c1 := hu.2
      clear hu
      go_simp
      try rfl
    simp only [Act.put, List.setIfInBounds_toArray, List.set_cons_zero, List.set_cons_succ, List.getElem_toArray, List.getElem_cons_zero, List.getElem_cons_succ]
    refine wpAnyH_take (i := 9) (v := ?_) rfl (by kernel_rfl) (by kernel_rfl) (by kernel_rfl) (fun _ _ _ h => h) (Or.inl ⟨by rfl, ?_⟩) (by assumption) ?_
    rotate_left
    · intro u hu
      have c0 := hu.1
      have c1 := hu.2
      clear hu
      go_simp
      try rfl
    simp only [Act.put, List.setIfInBounds_toArray, List.set_cons_zero, List.set_cons_succ, List.getElem_toArray, List.getElem_cons_zero, List.getElem_cons_succ]
    refine wpAnyH_take (i := 10) (v := ?_) rfl (by kernel_rfl) (by kernel_rfl) (by kernel_rfl) (fun _ _ _ h => h) (Or.inl ⟨by rfl, ?_⟩) (by assumption) ?_
    rotate_left
    · intro u hu
      have c0 := hu.1
      have c1 := hu.2
      clear hu
      go_simp
      try rfl
    simp only [Act.put, List.setIfInBounds_toArray, List.set_cons_zero, List.set_cons_succ, List.getElem_toArray, List.getElem_cons_zero, List.getElem_cons_succ]
    refine wpAnyH_all (rs := [11]) (by kernel_rfl) (by simp) ?_
    intro j8 h8
    obtain rfl : j8 = 11 := by simpa using h8
    refine wpOp_step rfl (fun K hK => ?_)
    go_simp
    have ba : Below w.heap.size w (w.drew.alloc (.cells (ncells [g0, t]).toArray 52)) := (Below.refl _ _).drew.alloc (Nat.le_refl _) _
    refine hK _ _ ⟨⟨(ba.cell (p := ⟨pw, 0, none⟩) pl).trans f0, (ba.cell (p := ⟨pw, 1, none⟩) pl).trans f1⟩, ?_⟩
    clear hK K h8
    try simp only [Act.put, List.setIfInBounds_toArray, List.set_cons_zero, List.set_cons_succ, List.getElem_toArray, List.getElem_cons_zero, List.getElem_cons_succ]
    refine wpAnyH_all (rs := [12]) (by kernel_rfl) (by simp) ?_
    intro j8 h8
    obtain rfl : j8 = 12 := by simpa using h8
    refine wpOp_step rfl (fun K hK => ?_)
    go_simp
    have cs := refSave_c (w := (w.drew.alloc (.cells (ncells [g0, t]).toArray 52))) (B := 0) (t := 52) (g := x.gen + 1) (A := some ⟨w.heap.size, 0, none⟩) (n := 2) (c := 2) (l := [g0, t]) (HH.out.rd.keep (fun k hk => ba.block k (HH.out.fo k hk))) (fun k hk => Nat.lt_of_lt_of_le (HH.out.fo k hk) ba.size) HD.out HL.out hcl (by have q := Lies.of_blk (B := 0) (heap_alloc_new w.drew (.cells (ncells [g0, t]).toArray 52)); rw [List.toList_toArray] at q; exact q) rfl UG.out (by intro n hn; simp at hn; rcases hn with rfl | rfl <;> first | exact U0.out | exact UT.out) (by decide)
    rw [SV.out] at cs
    go_at_call 56
    refine cs.mono ?_
    rintro e w3 ⟨rfl, hr3, hb3⟩
    have za := ba.size
    have keep3 : ∀ k, k < w.heap.size → ¬ F k → w3.heap[k]? = w.heap[k]? := fun k hk hf => (hb3.block k (by omega) hf).trans (ba.block k hk)
    have p3 := (keep3 pw pl (HH.out.ap pw R5.out.fp)).trans R5.out.cell
    have d0 : w3.cell? ⟨pw, 0, none⟩ = some (.pointer (some ⟨p, 0, none⟩)) := by simp [World.cell?, p3]
    have d1' : w3.cell? ⟨pw, 1, none⟩ = some (.int .u64 (x.gen : Int)) := by simp [World.cell?, p3]
    have d2 : w3.cell? ⟨pw, 2, none⟩ = some (.int .u64 (x.tail : Int)) := by simp [World.cell?, p3]
    have d3 : w3.cell? ⟨pw, 3, none⟩ = some (.slice AL xs.length cL) := by simp [World.cell?, p3]
    have d4 : w3.cell? ⟨pw, 4, none⟩ = some (.bool x.over) := by simp [World.cell?, p3]
    have z1 := blk_free p3 1
    have z2 := blk_free p3 2
    have z3 := blk_free p3 3
    have z4 := blk_free p3 4
    have K3 := Lib.hid (show ∀ k, E k → w3.heap[k]? = w.heap[k]? from fun k hk => keep3 k (HH.out.eo k hk) (HH.out.ap k hk))
    have P3 := Lib.hid p3
    have RD3 : Hid (RD w3 (fun k => Up F (w.drew.alloc (.cells (ncells [g0, t]).toArray 52)).heap.size k ∧ k < w3.heap.size) p d1) := Lib.hid hr3.cap
    have BT3 : Hid (But (fun k => E k ∨ F k) w.heap.size w w3) := Lib.hid ((But.of_below ba _).trans (hb3.mono za (fun k hk => .inr hk)))
    have ZA := Lib.hid za
    have ZB := Lib.hid hb3.size
    refine hK _ _ ⟨⟨d0, d1'⟩, ?_⟩
    clear hK K h8 hr3 hb3 cs ba keep3 p3
    refine wpAnyH_take (i := 13) (v := ?_) rfl (by kernel_rfl) (by kernel_rfl) (by kernel_rfl) (fun _ _ _ h => h) (Or.inl ⟨by rfl, ?_⟩) (show w3.cell? ⟨pw, 0, none⟩ = some (.pointer (some ⟨p, 0, none⟩)) ∧ w3.cell? ⟨pw, 1, none⟩ = some (.int .u64 (x.gen : Int)) from ⟨d0, d1'⟩) ?_
    rotate_left
    · intro u hu
      clear hu
      go_simp
      try rfl
    simp only [Act.put, List.setIfInBounds_toArray, List.set_cons_zero, List.set_cons_succ, List.getElem_toArray, List.getElem_cons_zero, List.getElem_cons_succ]
    refine wpAnyH_done (by kernel_rfl) ?_ _
    have FIN : Hid (∀ (w4 : World) (x' : Wl.W), RW w4 E pw p x' → (∀ k, k ≠ pw → w4.heap[k]? = w3.heap[k]?) → w4.os = w3.os → w4.tape = w3.tape → w4.output = w3.output → w4.heap.size = w3.heap.size → ∃ E' F', WD w4 E' F' pw p x' d1 ∧ (∀ k, k < w.heap.size → E' k → E k) ∧ (∀ k, k < w.heap.size → F' k → F k) ∧ But (fun k => E k ∨ F k) w.heap.size w w4) := Lib.hid fun w4 x' hx' hk h1 h2 h3 h4 => by
      have apw : ∀ k, (Up F (w.drew.alloc (.cells (ncells [g0, t]).toArray 52)).heap.size k ∧ k < w3.heap.size) → k ≠ pw := fun k hk5 e => hk5.1.elim (fun f => HH.out.ap pw R5.out.fp (e ▸ f)) (fun q => by have := ZA.out; omega)
      refine ⟨E, _, ⟨RD3.out.keep (fun k hk2 => hk k (apw k hk2)), hx', fun k hk2 => by have := HH.out.eo k hk2; have := ZA.out; have := ZB.out; omega, fun k hk2 => by rw [h4]; exact hk2.2, fun k he hf => hf.1.elim (HH.out.ap k he) (fun q => by have := HH.out.eo k he; have := ZA.out; omega)⟩, fun _ _ q => q, fun k hk2 hf => hf.1.elim id (fun q => by have := ZA.out; omega), ?_⟩
      exact ⟨h1.trans BT3.out.os, h2.trans BT3.out.tape, h3.trans BT3.out.output, by rw [h4]; exact BT3.out.size, fun k hk2 hf => (hk k (fun e => hf (.inl (e ▸ R5.out.fp)))).trans (BT3.out.block k hk2 hf)⟩
    clear d0 ZA ZB za
    by_cases q1 : e1 = 0
    · subst q1
      have TN1 : Hid (Wl.turn x d (xrecs ys) t = (0, ⟨x.gen + 1, t, xrecs ys, false⟩, d1)) := Lib.hid (by rw [TN.out, if_pos rfl])
      clear TN
      go_wp2
      go_ret
      rw [TN1.out]
      refine ⟨rfl, FIN.out _ _ ⟨_, cN, ys, RW5.turned R5.out K3.out HLL.out HI.out hr HY.out UG.out UT.out ?_ ?_, rfl⟩ ?_ rfl rfl rfl (by simp)⟩
      · rw [blk_set (blk_set (blk_set P3.out 1 _) 3 _) 2 _, hx, ← HN.out]; rfl
      · exact fun k hk => (set_off k hk).trans ((set_off k hk).trans (set_off k hk))
      · exact fun k hk => (set_off k hk).trans ((set_off k hk).trans (set_off k hk))
    · have zz : (e1 != 0) = true := by simp [q1]
      have TN2 : Hid (Wl.turn x d (xrecs ys) t = (50, { x with over := true }, d1)) := Lib.hid (by rw [TN.out, if_neg q1])
      clear q1
      go_wp2
      go_ret
      rw [TN2.out]
      refine ⟨rfl, FIN.out _ _ ⟨AL, cL, xs, RW5.turned R5.out K3.out R5.out.l R5.out.lF R5.out.room R5.out.held R5.out.gen64 R5.out.tail64 ?_ set_off, E5.out⟩ set_off rfl rfl rfl (by simp)⟩
      rw [blk_set P3.out]; rfl

namespace Wl
theorem drop_over {w : W} {d : Dk.D} {n : Int} (h : w.over = true) : drop w d n = (50, w, d) := by unfold drop; rw [if_pos h]
theorem drop_range {w : W} {d : Dk.D} {n : Int} (h : w.over = false) (hn : n < 0 ∨ (w.recs.length : Int) < n) : drop w d n = (1, w, d) := by unfold drop; rw [if_neg (by rw [h]; simp), if_pos hn]
theorem drop_turn {w : W} {d : Dk.D} {n : Nat} (h : w.over = false) (hn : n ≤ w.recs.length) : drop w d (n : Int) = turn w d (w.recs.drop n) w.tail := by unfold drop; rw [if_neg (by rw [h]; simp), if_neg (by omega), Int.toNat_natCast]
end Wl
theorem WOk.of_drew {E F : Nat → Prop} {pw p : Nat} {y : Int × Wl.W × Dk.D} {w : World} {e : Ending} {w' : World} (h : WOk E F pw p y w.drew e w') : WOk E F pw p y w e w' := by
  obtain ⟨h1, E', F', h2, h3, h4, h5⟩ := h
  exact ⟨h1, E', F', h2, h3, h4, ⟨h5.os, h5.tape, h5.output, h5.size, h5.block⟩⟩

set_option maxHeartbeats 4000000 in
theorem refCut_c {w : World} {E F : Nat → Prop} {pw p : Nat} {x : Wl.W} {d : Dk.D} (h : WD w E F pw p x d) (hd : d.ok) (hl : d.left ≤ 9223372036854775807) (hcl : d.cache.length ≤ 10000000) (ug : U64 (x.gen + 1)) (hm : x.recs.length ≤ 1000000) (n : Int) :
    Calls Tryz.prog 18 #[.pointer (some ⟨pw, 0, none⟩), .int .i64 n] w (WOk E F pw p (Wl.drop x d n) w) := by
  have HH := Lib.hid h
  have HD := Lib.hid hd
  have HL := Lib.hid hl
  have UG := Lib.hid ug
  obtain ⟨AL, cL, xs, r5, e5⟩ := h.rw
  have R5 := Lib.hid r5
  have E5 := Lib.hid e5
  obtain ⟨_, _, c2, c3, c4, _⟩ := r5.fields
  have xl : xs.length = x.recs.length := by rw [← e5, xrecs_len]
  obtain ⟨L, hLl⟩ : ∃ L, L = xs.length := ⟨_, rfl⟩
  rw [← hLl] at c3 xl
  have rm := r5.room
  rw [← hLl] at rm
  have HLL := Lib.hid hLl
  clear h hd hl r5 e5 ug hLl
  cases ho : x.over
  · rw [ho] at c4
    have HO := Lib.hid ho
    by_cases h1 : n < 0
    · have DR : Hid (Wl.drop x d n = (1, x, d)) := Lib.hid (Wl.drop_range ho (.inl h1))
      clear ho xl hm
      go_enter Tryz.func18, Tryz.ntmps18
      go_wp2
      go_ret
      rw [DR.out]
      exact WOk.same HH.out (Below.refl _ _)
    · obtain ⟨k, rfl⟩ := Int.eq_ofNat_of_zero_le (show 0 ≤ n by omega)
      by_cases h2 : k ≤ L
      · have DR : Hid (Wl.drop x d (k : Int) = Wl.turn x d (xrecs (xs.drop k)) x.tail) := Lib.hid (by
          rw [Wl.drop_turn ho (by omega), ← E5.out]
          unfold xrecs
          rw [List.map_drop])
        have h3 : ¬ (L : Int) < (k : Int) := by omega
        have h4 : (L : Int) ≤ 1000000 := by omega
        have h5 : (k : Int) ≤ (L : Int) := by omega
        have LC : Hid (Lies w 0 89 (if cL = k then AL else AL.map (·.add (k * 3))) (xcells (xs.drop k))) := Lib.hid (by
          rw [← xcells_drop]
          by_cases e : cL = k
          · rw [if_pos e]
            have : (xcells xs).drop (k * 3) = [] := List.drop_eq_nil_of_le (by rw [xcells_len, ← HLL.out]; omega)
            rw [this]
            exact Lies.nil
          · rw [if_neg e]
            by_cases hz : (xcells xs).drop (k * 3) = []
            · rw [hz]; exact Lies.nil
            · have q := R5.out.l.cut (k * 3) (k * 3 + (xcells xs).length + 1) (by omega)
              rwa [if_neg (by omega)] at q)
        have IC : Hid (InF E (if cL = k then AL else AL.map (·.add (k * 3)))) := Lib.hid fun ad e => by
          split at e
          · exact R5.out.lF ad e
          · cases AL with
            | none => cases e
            | some a0 =>
              injection e with e
              subst e
              rw [addr_block]
              exact R5.out.lF a0 rfl
        have NL : Hid (L - k = (xs.drop k).length) := Lib.hid (by rw [List.length_drop, HLL.out])
        have HY : Hid (∀ y ∈ xs.drop k, HeldR w E y) := Lib.hid fun y hy => R5.out.held y (List.mem_of_mem_drop hy)
        have UT := Lib.hid R5.out.tail64
        have h6 : ((k : Int)).toNat = k := Int.toNat_natCast k
        obtain ⟨AC, hAC⟩ : ∃ AC, (if cL = k then AL else AL.map (·.add (k * 3))) = AC := ⟨_, rfl⟩
        rw [hAC] at LC IC
        clear ho xl hm h1 h2
        go_enter Tryz.func18, Tryz.ntmps18
        go_wp2_with fail
        go_still_tail 11, (by kernel_rfl)
        change wpList _ _ _ _ _ w.drew
        go_wp2_with fail
        refine (refTurn_c (w := w.drew) (HH.out.keep (Below.refl _ _).drew) HO.out HD.out HL.out hcl LC.out IC.out (by have := NL.out; omega) HY.out NL.out UT.out UG.out).mono ?_
        rintro e w3 hp
        obtain ⟨rfl, hq⟩ := hp
        have HQ := Lib.hid hq
        clear hq
        go_wp2
        go_ret
        rw [DR.out]
        exact WOk.of_drew ⟨rfl, HQ.out⟩
      · have DR : Hid (Wl.drop x d (k : Int) = (1, x, d)) := Lib.hid (Wl.drop_range ho (.inr (by omega)))
        have h3 : (L : Int) < (k : Int) := by omega
        clear ho xl hm h1 h2
        go_enter Tryz.func18, Tryz.ntmps18
        go_wp2
        go_ret
        rw [DR.out]
        exact WOk.same HH.out (Below.refl _ _)
  · rw [ho] at c4
    have DR : Hid (Wl.drop x d n = (50, x, d)) := Lib.hid (Wl.drop_over ho)
    clear ho xl hm
    go_enter Tryz.func18, Tryz.ntmps18
    go_wp2
    go_ret
    rw [DR.out]
    exact WOk.same HH.out (Below.refl _ _)

/-- Records on their way: the disk, and the list of records that is being made; O: that list's blocks. -/
structure PW (w wr : World) (E F F' O : Nat → Prop) (p : Nat) (D : Dk.D) (AO : Option Addr) (cO : Nat) (zs : List MRc) : Prop where
  rd : RD wr F' p D
  fo : ∀ k, F' k → k < wr.heap.size
  fn : ∀ k, k < w.heap.size → F' k → F k
  oo : ∀ k, O k → w.heap.size ≤ k ∧ k < wr.heap.size ∧ ¬ F' k
  but : But F w.heap.size w wr
  out : wr.ownsRow 0 89 3 (.slice AO zs.length cO) zs.length (xcells zs)
  oF : InF O AO
  held : ∀ z ∈ zs, HeldR wr (fun k => O k ∨ E k) z

section
variable {w wr w2 : World} {E F F' O : Nat → Prop} {p : Nat} {D D' : Dk.D} {AO : Option Addr} {cO : Nat} {zs : List MRc}
theorem PW.keep (h : PW w wr E F F' O p D AO cO zs) (hE : ∀ k, E k → k < w.heap.size ∧ ¬ F k) (hb : Below wr.heap.size wr w2) : PW w w2 E F F' O p D AO cO zs := by
  have zw := h.but.size
  exact ⟨h.rd.keep (fun k hk => hb.block k (h.fo k hk)), fun k hk => Nat.lt_of_lt_of_le (h.fo k hk) hb.size, h.fn, fun k hk => ⟨(h.oo k hk).1, Nat.lt_of_lt_of_le (h.oo k hk).2.1 hb.size, (h.oo k hk).2.2⟩, h.but.trans ((But.of_below hb F).mono zw (fun _ q => q)), own_below h.out hb, h.oF,
    fun z hz => (h.held z hz).keepF (fun k hk => hb.block k (hk.elim (fun o => (h.oo k o).2.1) (fun e => Nat.lt_of_lt_of_le (hE k e).1 zw)))⟩
/-- Behind a call on the disk. -/
theorem PW.disk (h : PW w wr E F F' O p D AO cO zs) (hE : ∀ k, E k → k < w.heap.size ∧ ¬ F k) (hr : RD w2 (Up F' wr.heap.size) p D') (hb : But F' wr.heap.size wr w2) : PW w w2 E F (fun k => Up F' wr.heap.size k ∧ k < w2.heap.size) O p D' AO cO zs := by
  have zw := h.but.size
  have hO : ∀ k, O k → w2.heap[k]? = wr.heap[k]? := fun k o => hb.block k (h.oo k o).2.1 (h.oo k o).2.2
  refine ⟨hr.cap, fun k hk => hk.2, fun k hk hf => hf.1.elim (h.fn k hk) (fun q => by omega), fun k o => ⟨(h.oo k o).1, Nat.lt_of_lt_of_le (h.oo k o).2.1 hb.size, fun hf => hf.1.elim (h.oo k o).2.2 (fun q => by have := (h.oo k o).2.1; omega)⟩, ?_, own_keep h.out (fun k e => hO k (h.oF.row k e)), h.oF, fun z hz => (h.held z hz).keepF (fun k hk => hk.elim (hO k) (fun e => hb.block k (Nat.lt_of_lt_of_le (hE k e).1 zw) (fun f => (hE k e).2 (h.fn k (hE k e).1 f))))⟩
  exact ⟨hb.os.trans h.but.os, hb.tape.trans h.but.tape, hb.output.trans h.but.output, Nat.le_trans zw hb.size, fun k hk hf => (hb.block k (by omega) (fun f => hf (h.fn k hk f))).trans (h.but.block k hk hf)⟩
/-- One record more in the list: the list's row has grown, the record's text lies in a block of the list's own. -/
theorem PW.more (h : PW w wr E F F' O p D AO cO zs) {z : MRc} {A2 : Option Addr} {c2 : Nat} (hg : wr.grownBy w2 (Value.slice AO zs.length cO).ownBlock) (ho : w2.ownsRow 0 89 3 (.slice A2 (zs.length + 1) c2) (zs.length + 1) (xcells zs ++ z.cells))
    (hA : (Value.slice A2 (zs.length + 1) c2).ownBlock = (Value.slice AO zs.length cO).ownBlock ∨ (Value.slice A2 (zs.length + 1) c2).ownBlock = some wr.heap.size) (hz : HeldR wr (fun k => O k ∨ E k) z) :
    PW w w2 E F F' (fun k => O k ∨ wr.heap.size ≤ k ∧ k < w2.heap.size) p D A2 c2 (zs ++ [z]) := by
  have zw := h.but.size
  have T := grown_tch (B := 0) (ts := [89]) h.out hg (Nat.le_refl _) (Nat.zero_le _) (by simp)
  have hF : ∀ k, F' k → w2.heap[k]? = wr.heap[k]? := fun k f => hg.block k (h.fo k f) (fun e => (h.oo k (h.oF.row k e.symm)).2.2 f)
  have el : (zs ++ [z]).length = zs.length + 1 := by simp
  have hk : ∀ {y : MRc}, HeldR wr (fun k => O k ∨ E k) y → HeldR w2 (fun k => (O k ∨ wr.heap.size ≤ k ∧ k < w2.heap.size) ∨ E k) y := fun {y} hy =>
    HeldR.mono ⟨⟨hy.1.1.keep (fun b hb => hb.elim (fun q => absurd q (Nat.not_lt_zero _)) (fun ⟨_, _, r⟩ => T.typed b _ _ _ r (by decide))), hy.1.2⟩, hy.2⟩ (fun k q => q.elim (fun o => .inl (.inl o)) .inr)
  refine ⟨h.rd.keep hF, fun k f => Nat.lt_of_lt_of_le (h.fo k f) hg.size, h.fn, fun k o => ?_, ?_, ?_, ?_, fun y hy => ?_⟩
  · rcases o with o | ⟨q1, q2⟩
    · exact ⟨(h.oo k o).1, Nat.lt_of_lt_of_le (h.oo k o).2.1 hg.size, (h.oo k o).2.2⟩
    · exact ⟨by omega, q2, fun f => by have := h.fo k f; omega⟩
  · exact h.but.grown hg zw (fun k e => .inr (h.oo k (h.oF.row k e)).1)
  · rw [el, xcells_snoc]; exact ho
  · intro ad e
    have lt := own_lt ho ad e
    subst e
    rcases hA with q | q
    · exact .inl (h.oF.row ad.block q.symm)
    · have q' : some ad.block = some wr.heap.size := q
      injection q' with q'
      exact .inr ⟨by omega, lt⟩
  · rw [List.mem_append, List.mem_singleton] at hy
    rcases hy with hy | rfl
    · exact hk (h.held y hy)
    · exact hk hz
/-- New blocks may be given to the list. -/
theorem PW.give (h : PW w wr E F F' O p D AO cO zs) {B : Nat} (hB : w.heap.size ≤ B) (hF : ∀ k, F' k → k < B) : PW w wr E F F' (fun k => O k ∨ B ≤ k ∧ k < wr.heap.size) p D AO cO zs :=
  ⟨h.rd, h.fo, h.fn, fun k o => o.elim (fun q => h.oo k q) (fun q => ⟨by omega, q.2, fun f => by have := hF k f; omega⟩), h.but, h.out, h.oF.mono (fun _ => .inl), fun z hz => (h.held z hz).mono (fun k q => q.elim (fun o => .inl (.inl o)) .inr)⟩
end

namespace Wl
theorem chunks_cons (b : List UInt8) (l : List (List UInt8)) : chunks (b :: l) = cut (Fr.frame b) ++ chunks l := rfl
theorem wrs_one {r p : Nat} {c : List UInt8} {cs : List (List UInt8)} {d d' : Dk.D} (h : Dk.write d ((2 + p % r : Nat) : Int) c = (0, d')) : wrs r p (c :: cs) d = wrs r (p + 1) cs d' := by
  show (if (Dk.write d ((2 + p % r : Nat) : Int) c).1 = 0 then wrs r (p + 1) cs (Dk.write d ((2 + p % r : Nat) : Int) c).2 else Dk.write d ((2 + p % r : Nat) : Int) c) = _
  rw [h, if_pos rfl]
theorem wrs_bad {r p : Nat} {c : List UInt8} {cs : List (List UInt8)} {d d' : Dk.D} {e : Int} (h : Dk.write d ((2 + p % r : Nat) : Int) c = (e, d')) (he : e ≠ 0) : wrs r p (c :: cs) d = (e, d') := by
  show (if (Dk.write d ((2 + p % r : Nat) : Int) c).1 = 0 then wrs r (p + 1) cs (Dk.write d ((2 + p % r : Nat) : Int) c).2 else Dk.write d ((2 + p % r : Nat) : Int) c) = _
  rw [h, if_neg he]
theorem put_over {w : W} {d : Dk.D} {l : List (List UInt8)} {s : Bool} (h : w.over = true) : put w d l s = (50, w, d) := by unfold put; rw [if_pos h]
theorem put_long {w : W} {d : Dk.D} {l : List (List UInt8)} {s : Bool} (h : w.over = false) (hl : l.any (fun b => decide (60000 < b.length)) = true) : put w d l s = (2, w, d) := by unfold put; rw [if_neg (by rw [h]; simp), if_pos hl]
theorem put_full {w : W} {d : Dk.D} {l : List (List UInt8)} {s : Bool} (h : w.over = false) (hl : ∀ b ∈ l, b.length ≤ 60000) (hf : free d w < needs l) : put w d l s = (51, w, d) := by
  unfold put
  rw [if_neg (by rw [h]; simp), if_neg (by simpa using hl), if_pos hf]
theorem put_bad {w : W} {d d' : Dk.D} {l : List (List UInt8)} {s : Bool} {e : Int} (h : w.over = false) (hl : ∀ b ∈ l, b.length ≤ 60000) (hf : ¬ free d w < needs l) (hw : wrs (ring d) w.tail (chunks l) d = (e, d')) (he : e ≠ 0) : put w d l s = (50, { w with over := true }, d') := by
  unfold put
  rw [if_neg (by rw [h]; simp), if_neg (by simpa using hl), if_neg hf, hw, if_neg he]
theorem put_turn {w : W} {d d' : Dk.D} {l : List (List UInt8)} {s : Bool} (h : w.over = false) (hl : ∀ b ∈ l, b.length ≤ 60000) (hf : ¬ free d w < needs l) (hw : wrs (ring d) w.tail (chunks l) d = (0, d')) : put w d l s = turn w d' ((if s = true then [] else w.recs) ++ recsAt w.tail l) (w.tail + needs l) := by
  unfold put
  rw [if_neg (by rw [h]; simp), if_neg (by simpa using hl), if_neg hf, hw, if_pos rfl]
end Wl
end Go.Proofs.YtbfkjneidabijaaGreat
