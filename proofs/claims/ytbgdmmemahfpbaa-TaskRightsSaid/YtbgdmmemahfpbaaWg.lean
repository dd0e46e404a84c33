/- Bytes written of a string (a Writer whose own bytes lie elsewhere than in a block), of no program's own. -/
import Derived.Test.YtbgdmmemahfpbaaEa
import Derived.Test.YtbgdmmemahfpbaaCw
import Derived.Laws.IdiomStrings
namespace Go.Proofs.Ytbgdmmemahfpbaa
set_option maxRecDepth 100000

section
open Go.RowKit

/-- A string's bytes, laid anew, behind a draw. -/
theorem conv_str (l : List UInt8) (w : World) : ∃ c, (convert 9 47 (.string (str l))).run Try.prog w = .ok (.slice (some ⟨w.heap.size, 0, none⟩) l.length c)
    (w.drew.alloc (.cells (bytesRow (str l) c) 5 ((bytesRow (str l) c).size, (bytesRow (str l) c).size + 1))) ∧ l.length ≤ c := by
  have q := run_bytes_of_string (P := Try.prog) w 9 47 5 (str l) Try.underlying9 Try.underlying47 Try.underlying5
  have e : (str l).size = l.length := rfl
  rw [e] at q
  exact ⟨_, q, grownCap_ge _ _ _ _⟩
theorem lies_str (l : List UInt8) (c : Nat) (w : World) {fr : Nat × Nat} : Lies (w.alloc (.cells (bytesRow (str l) c) 5 fr)) 0 5 (some ⟨w.heap.size, 0, none⟩) (bcells l) := by
  have h := Lies.of_blk (B := 0) (heap_alloc_new w (.cells (bytesRow (str l) c) 5 fr))
  have e : (bytesRow (str l) c).toList = bcells l ++ List.replicate (c - l.length) (.int .u8 0) := by
    unfold bytesRow
    rw [Array.toList_append, Array.toList_replicate, Array.toList_map]
    rfl
  rw [e] at h
  have q := h.take l.length
  rwa [List.take_left' (bcells_len l)] at q

/-- A Writer whose own bytes lie elsewhere than in block g. -/
def WG (g : Nat) (B : Nat) (w : World) (p : Nat) (l : List UInt8) : Prop :=
  B ≤ p ∧ ∃ A c, w.heap[p]? = some (.cells #[.slice A l.length c] 86 (0, 0)) ∧ w.ownsRow B 5 1 (.slice A l.length c) l.length (bcells l) ∧ ∀ k, (Value.slice A l.length c).ownBlock = some k → k ≠ g
section
variable {g B p : Nat} {w w' : World} {l : List UInt8}
theorem WG.ws (h : WG g B w p l) : WS B w p l := by
  obtain ⟨hB, A, c, hp, ho, _⟩ := h
  exact ⟨hB, A, c, hp, ho⟩
theorem WG.alloc (h : WG g B w p l) (o : Obj) : WG g B (w.alloc o) p l := by
  obtain ⟨hB, A, c, hp, ho, hg⟩ := h
  exact ⟨hB, A, c, blk_alloc hp o, ho.alloc o, hg⟩
theorem WS.apart (h : WS B w p l) (o : Obj) : WG w.heap.size B (w.alloc o) p l := by
  obtain ⟨hB, A, c, hp, ho⟩ := h
  refine ⟨hB, A, c, blk_alloc hp o, ho.alloc o, fun k hk e => ?_⟩
  obtain ⟨_, cs, fr, r⟩ := own_row ho k hk
  have := lt_of_block r
  omega
end

set_option maxHeartbeats 1000000 in
theorem addg_c {g B p : Nat} {l m : List UInt8} {A : Option Addr} {n c : Nat} {w : World} {D : Nat} {t' : TypeId} (h : WG g B w p l) (hg : g < w.heap.size) (hgp : g ≠ p) (hL : Lies w D t' A (bcells m)) (hn : n = m.length) (hs : l.length + m.length ≤ 1099511627776) :
    Calls Try.prog 108 #[.pointer (some ⟨p, 0, none⟩), .slice A n c] w fun e w' => e = .returned (.tuple #[]) ∧ WG g B w' p (l ++ m) ∧ w'.heap[g]? = w.heap[g]? ∧ Tch B [86, 5] w w' := by
  have hz := h.ws.size
  obtain ⟨hB, A0, c0, hp, hown, hne⟩ := h
  have c1 := cell_of_one hp
  have f1 := free_of_one hp
  obtain ⟨i0, hi, hz0, hz1, hz2⟩ := info_parts Try.infoU8
  have HL := Lib.hid hL
  have HS := Lib.hid hs
  have HN := Lib.hid hne
  clear hL hs hne
  subst hn
  go_enter Try.func108, Try.ntmps108
  go_wp2_with (at_builtin; refine wpList_app _ rfl _ _ 47 rfl B 5 i0 (.int .u8 0) 1 1 Try.underlying47 hi hz0 hz1 hz2 rfl (by decide) _ l.length (bcells l) rfl hown D A m.length c (bcells m) t' rfl (by rw [bcells_len]; omega) HL.out (bcells_one _) (by unfold maxLen; have := HS.out; omega) (by have := HS.out; omega) hz ?_)
  intro v' w1 hown' hgrow hor
  obtain ⟨A1, k1, rfl⟩ := own_slice hown'
  have hp1 := grown_blk hown hgrow hp (by decide)
  have c2 := cell_of_one hp1
  have f2 := free_of_one hp1
  have T1 := grown_tch (B := B) (ts := [86, 5]) hown hgrow (Nat.le_refl _) hz (by decide)
  have G1 := Lib.hid (hgrow.block g hg (fun q => HN.out g q.symm rfl))
  have G2 : Hid (∀ k, (Value.slice A1 (l.length + m.length) k1).ownBlock = some k → k ≠ g) := by
    intro k hk e
    rcases hor with q | q
    · exact HN.out k (q.symm.trans hk) e
    · rw [q] at hk
      injection hk with hk
      omega
  clear hgrow hown hor
  have HO := Lib.hid hown'
  clear hown'
  go_wp2
  go_end0
  refine ⟨rfl, ⟨hB, A1, k1, ?_, ?_, ?_⟩, ?_, ?_⟩
  · rw [List.length_append]
    exact one_setCell hp1
  · rw [List.length_append, bcells_app]
    exact own_far HO.out hp1 (by decide) _
  · rw [List.length_append]
    exact G2
  · exact (Below.heap_setCell w1 _ _ g hgp).trans G1.out
  · exact T1.setCell hp1 (by decide) hB _

set_option maxHeartbeats 1000000 in
/-- One small number, where a block is to stay as it is. -/
theorem wNg_c {g B p : Nat} {l : List UInt8} {w : World} (m : Nat) (h : WG g B w p l) (hg : g < w.heap.size) (hgp : g ≠ p) (hm : m < 128) (hs : l.length + 9 ≤ 1000000000000) :
    Calls Try.prog 62 #[.pointer (some ⟨p, 0, none⟩), .slice (some ⟨w.heap.size, 0, none⟩) 1 1] (w.alloc (.cells #[.int .u64 (m : Int)] 33)) fun e w' => e = .returned (.tuple #[]) ∧ WG g B w' p (l ++ Cd.num m) ∧ w'.heap[g]? = w.heap[g]? ∧ Tch B [86, 5] w w' := by
  have hz := h.ws.size
  have h0 : (w.alloc (.cells #[.int .u64 (m : Int)] 33)).heap[w.heap.size]? = some (.cells #[.int .u64 (m : Int)] 33 (0, 0)) := heap_alloc_new w _
  have HW := Lib.hid (h.alloc (.cells #[.int .u64 (m : Int)] 33))
  have HT0 := Lib.hid ((Tch.refl B [86, 5] w).alloc hz (.cells #[.int .u64 (m : Int)] 33))
  have HG0 := Lib.hid (Below.heap_alloc w (.cells #[.int .u64 (m : Int)] 33) g hg)
  obtain ⟨w0, hw0⟩ : ∃ w0, w.alloc (.cells #[.int .u64 (m : Int)] 33) = w0 := ⟨_, rfl⟩
  have hz0 : w0.heap.size = w.heap.size + 1 := by rw [← hw0]; simp
  have hne : w.heap.size ≠ p := by
    obtain ⟨_, _, _, hp, _⟩ := h
    have := lt_of_block hp
    omega
  rw [hw0] at h0 HW HT0 HG0 ⊢
  clear h hw0
  have E := Lib.hid (num_lo (n := (m : Int)) (by omega) (by omega))
  rw [Int.toNat_natCast] at E
  have hlo : (m : Int) < 128 := by omega
  have q0 : 0 ≤ (m : Int) := by omega
  go_enter Try.func62, Try.ntmps62
  go_wp2_with fail
  go_loopw [9] (fun i wr => ∃ k : Nat, k ≤ 1 ∧ i = .int .i64 (k : Int) ∧ WG g B wr p (l ++ (Cd.num m).take k) ∧ wr.heap[g]? = w0.heap[g]? ∧ Tch B [86, 5] w0 wr) (fun i _ => 1 - (intOf i).toNat)
  case atStart => exact ⟨0, Nat.zero_le _, rfl, by simpa using HW.out, rfl, Tch.refl _ _ _⟩
  case round =>
    obtain ⟨k, hk, rfl, hws, hgb, ht⟩ := hrel
    by_cases hz1 : k < 1
    · obtain rfl : k = 0 := by omega
      have hc : wr.cell? ⟨w.heap.size, 0, none⟩ = some (.int .u64 (m : Int)) := cell_of_one (ht.blk h0 (by decide))
      have hws' : WG g B wr p l := by simpa using hws
      have hgs : g < wr.heap.size := by have := ht.size; omega
      have HT := Lib.hid ht
      have HGB := Lib.hid hgb
      clear hws ht hgb
      go_wp2_with (go_at_call 96; refine (first_lo _ _ q0 hlo).mono ?_; rintro e w' ⟨rfl, rfl⟩)
      have hL : Lies (wr.alloc (.cells #[.int .u8 (m : Int)] 5)) 0 5 (some ⟨wr.heap.size, 0, none⟩) (bcells [Cd.byt m 0]) := lies1 E.out.1 rfl
      refine (addg_c (hws'.alloc _) (by simp; omega) hgp hL rfl (by simp; omega)).mono ?_
      rintro e w' ⟨rfl, hw2, hg2, t2⟩
      have HT2 := Lib.hid t2
      have HG2 := Lib.hid hg2
      clear t2 hg2
      go_wp2
      go_roundw
      case rel =>
        refine ⟨1, by omega, by go_num, ?_, (HG2.out.trans (Below.heap_alloc wr _ g hgs)).trans HGB.out, (HT.out.alloc (by have := HT.out.size; omega) _).trans HT2.out⟩
        rw [E.out.2]
        exact hw2
      case measure => simp [intOf]
    · obtain rfl : k = 1 := by omega
      have e1 : (Cd.num m).take 1 = Cd.num m := by rw [E.out.2]; rfl
      rw [e1] at hws
      go_wp2
      go_end0
      exact ⟨rfl, hws, hgb.trans HG0.out, HT0.out.trans ht⟩

set_option maxHeartbeats 1000000 in
/-- Few bytes, in a block of their own. -/
theorem wBg_c {g B p : Nat} {l b : List UInt8} {n c : Nat} {w : World} (h : WG g B w p l) (hg : g < w.heap.size) (hgp : g ≠ p) (hL : Lies w 0 5 (some ⟨g, 0, none⟩) (bcells b)) (hn : n = b.length) (hb : n < 128) (hs : l.length + b.length + 9 ≤ 1000000000000) :
    Calls Try.prog 63 #[.pointer (some ⟨p, 0, none⟩), .slice (some ⟨g, 0, none⟩) n c] w fun e w' => e = .returned (.tuple #[]) ∧ WS B w' p (l ++ St.wb b) ∧ Tch B [86, 5] w w' := by
  have HL := Lib.hid hL
  clear hL
  subst hn
  have nl := num_len b.length
  go_enter Try.func63, Try.ntmps63
  go_wp2_with fail
  refine (wNg_c b.length h hg hgp hb (by omega)).mono ?_
  rintro e w' ⟨rfl, hw, hg2, t⟩
  have HT := Lib.hid t
  have HL2 : Hid (Lies w' 0 5 (some ⟨g, 0, none⟩) (bcells b)) := fun q => by
    obtain ⟨ad, e1, h1, h2⟩ := HL.out q
    injection e1 with e1
    subst e1
    refine ⟨_, rfl, .inr ?_, fun j u hu => (World.cell?_of_block (by rw [addr_block]; exact hg2)).trans (h2 j u hu)⟩
    rcases h1 with h1 | ⟨cs, fr, h1⟩
    · omega
    · exact ⟨cs, fr, hg2.trans h1⟩
  clear t
  go_wp2_with fail
  refine (add_c hw.ws HL2.out rfl (by rw [List.length_append]; omega)).mono ?_
  rintro e w' ⟨rfl, hw2, t2⟩
  have HT2 := Lib.hid t2
  clear t2
  go_wp2
  go_end0
  exact ⟨rfl, by unfold St.wb; rw [← List.append_assoc]; exact hw2, HT.out.trans HT2.out⟩
theorem apart_at {B : Nat} {w0 : World} {p : Nat} {l : List UInt8} (h : WS B w0 p l) (o : Obj) {g : Nat} (hg : g = w0.heap.size) : WG g B (w0.alloc o).drew p l := by
  subst hg
  exact h.apart o
theorem lies_str_at (l : List UInt8) (c : Nat) (w0 : World) {fr : Nat × Nat} {g : Nat} (hg : g = w0.heap.size) : Lies (w0.alloc (.cells (bytesRow (str l) c) 5 fr)).drew 0 5 (some ⟨g, 0, none⟩) (bcells l) := by
  subst hg
  exact lies_str l c w0
end
end Go.Proofs.Ytbgdmmemahfpbaa
