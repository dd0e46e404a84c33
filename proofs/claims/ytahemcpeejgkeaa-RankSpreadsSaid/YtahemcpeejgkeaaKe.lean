/- Stage 10: where a task stands (rank.place, the document's Place), math.Inf. -/
import Derived.Test.YtahemcpeejgkeaaKd
namespace Go.Proofs.Ytahemcpeejgkeaa
open Go.Shelf Go.RowKit Go.Lib Go.Sort
set_option maxRecDepth 100000

namespace T9
theorem plc_hit {l : List Tk} {i id : Nat} {t : Tk} (h : ∀ x ∈ l.take i, x.id ≠ id) (hx : l[i]? = some t) (e : t.id = id) : plc l id = some i := by
  obtain ⟨hi, et⟩ := List.getElem?_eq_some_iff.1 hx
  unfold plc
  rw [List.findIdx?_eq_some_iff_getElem]
  refine ⟨hi, by simp [et, e], fun j hj => ?_⟩
  have q := h l[j] (List.mem_iff_getElem.2 ⟨j, by rw [List.length_take]; omega, List.getElem_take⟩)
  simpa using q
theorem plc_miss {l : List Tk} {i id : Nat} {t : Tk} (h : ∀ x ∈ l.take i, x.id ≠ id) (hx : l[i]? = some t) (e : t.id ≠ id) : ∀ x ∈ l.take (i + 1), x.id ≠ id := fun x hm => by
  rw [take_next hx] at hm
  rcases List.mem_append.1 hm with q | q
  · exact h x q
  · simp only [List.mem_cons, List.not_mem_nil, or_false] at q
    subst q
    exact e
/-- As Go tells it: -1 where there is none. -/
def plcI (l : List Tk) (id : Nat) : Int := match plc l id with | some k => (k : Int) | none => -1
theorem plcI_some {l : List Tk} {id k : Nat} (h : plc l id = some k) : plcI l id = (k : Int) := by unfold plcI; rw [h]
theorem plcI_none {l : List Tk} {id : Nat} (h : plc l id = none) : plcI l id = -1 := by unfold plcI; rw [h]
end T9
theorem placeIs_c {bx id : Nat} (m : MTk) (W : World) (hb : W.cell? ⟨bx, 0, none⟩ = some (.int .u64 (id : Int))) (hlt : bx < W.heap.size) :
    Calls Try.prog 45 #[.agg (encK m).toArray, .pointer (some ⟨bx, 0, none⟩)] W fun e w' => e = .returned (.bool (m.t.id == id)) ∧ Below W.heap.size W w' := by
  obtain ⟨w1, hw1⟩ : ∃ u, W.alloc (.cells (encK m).toArray 36) = u := ⟨_, rfl⟩
  unfold encK at hw1 ⊢
  obtain ⟨lb, b1, z1⟩ := new_seven hw1
  obtain ⟨l0, l1, l2, l3, l4, l5, l6⟩ := seven_cells lb
  have hb1 := (b1.cell (p := ⟨bx, 0, none⟩) hlt).trans hb
  have B1 := Lib.hid b1
  have e : ((m.t.id : Int) == (id : Int)) = (m.t.id == id) := by
    rw [Bool.eq_iff_iff, beq_iff_eq, beq_iff_eq]
    omega
  have E := Lib.hid e
  clear b1 lb z1 e hb hlt
  go_enter Try.func45, Try.ntmps45
  go_wp2
  go_ret
  exact ⟨ret_bool (by first | exact E.out | simp), B1.out⟩

set_option maxHeartbeats 2000000 in
theorem indexF_c {A : Option Addr} {n c bx id : Nat} {ms : List MTk} {w : World} (hk : KL w A ms) (hn : n = ms.length) (hs : n ≤ 1000000) (hb : w.cell? ⟨bx, 0, none⟩ = some (.int .u64 (id : Int))) (hlt : bx < w.heap.size) :
    Calls Try.prog 44 #[.slice A n c, .func (.func 45) #[] #[.pointer (some ⟨bx, 0, none⟩)]] w fun e w' => e = .returned (.int .i64 (T9.plcI (tks ms) id)) ∧ Below w.heap.size w w' := by
  have HK := Lib.hid hk
  have HN := Lib.hid hn
  have HB := Lib.hid hb
  have HT := Lib.hid hlt
  clear hk hn hb hlt
  go_enter Try.func44, Try.ntmps44
  go_wp2_with fail
  go_loopw [8] (fun s8 wr => ∃ i : Nat, s8 = .int .i64 i ∧ i ≤ n ∧ Hid (∀ x ∈ (tks ms).take i, x.id ≠ id) ∧ Aside (Below w.heap.size w wr)) (fun s8 _ => n - (intOf s8).toNat)
  case atStart => exact ⟨0, rfl, Nat.zero_le _, Lib.hid (by simp), Below.refl _ _⟩
  case round =>
    obtain ⟨i, rfl, hi, HU, hB⟩ := hrel
    have BR := Lib.hid hB.out
    clear hB
    by_cases hlt : i < n
    · have hltz : (i : Int) < (n : Int) := by omega
      obtain ⟨ad, m, hA, hx, hf, r0, r1, r2, r3, r4, r5, r6⟩ := (HK.out.stay BR.out).at_ (k := i) (by have := HN.out; omega)
      subst hA
      have X : Hid ((tks ms)[i]? = some m.t) := Lib.hid (tks_at hx)
      have PC := Lib.hid (placeIs_c (bx := bx) (id := id) m wr ((BR.out.cell (p := ⟨bx, 0, none⟩) HT.out).trans HB.out) (Nat.lt_of_lt_of_le HT.out BR.out.size))
      unfold encK at PC
      clear hx hf
      by_cases he : m.t.id = id
      · have hez : (m.t.id == id) = true := by simp [he]
        have F : Hid (T9.plcI (tks ms) id = (i : Int)) := Lib.hid (T9.plcI_some (T9.plc_hit HU.out X.out he))
        rw [hez] at PC
        clear he hez
        go_wp2_with fail
        refine PC.out.mono ?_
        rintro e w2 ⟨rfl, h2⟩
        have H2 := Lib.hid h2
        clear h2
        go_wp2
        go_ret
        exact ⟨by rw [F.out]; rfl, BR.out.trans (H2.out.mono BR.out.size)⟩
      · have hez : (m.t.id == id) = false := by simp [he]
        have F : Hid (∀ x ∈ (tks ms).take (i + 1), x.id ≠ id) := Lib.hid (T9.plc_miss HU.out X.out he)
        rw [hez] at PC
        clear he hez
        go_wp2_with fail
        refine PC.out.mono ?_
        rintro e w2 ⟨rfl, h2⟩
        have H2 := Lib.hid h2
        clear h2
        go_wp2
        go_roundw
        case rel => exact ⟨i + 1, by go_num, by omega, F, BR.out.trans (H2.out.mono BR.out.size)⟩
        case measure => simp [intOf]; omega
    · obtain rfl : i = n := by omega
      have hltz : ¬ ((i : Int) < (i : Int)) := by omega
      have F : Hid (T9.plcI (tks ms) id = -1) := Lib.hid (T9.plcI_none (T9.plc_none.2 fun t ht => HU.out t (by rw [List.take_of_length_le (by rw [tks_len, HN.out]; exact Nat.le_refl _)]; exact ht)))
      go_wp2
      go_ret
      exact ⟨by rw [F.out]; rfl, BR.out⟩

set_option maxHeartbeats 1000000 in
theorem rankPlace_c {A : Option Addr} {n c id : Nat} {ms : List MTk} {w : World} (hk : KL w A ms) (hn : n = ms.length) (hs : n ≤ 1000000) :
    Calls Try.prog 27 #[.slice A n c, .int .u64 (id : Int)] w fun e w' => e = .returned (.int .i64 (T9.plcI (tks ms) id)) ∧ Below w.heap.size w w' := by
  obtain ⟨w1, hw1⟩ : ∃ u, w.alloc (.cells #[.int .u64 (id : Int)] 26) = u := ⟨_, rfl⟩
  have b1 : Below w.heap.size w w1 := by rw [← hw1]; exact (Below.refl _ w).alloc (Nat.le_refl _) _
  have k1 : w1.heap[w.heap.size]? = some (.cells #[.int .u64 (id : Int)] 26 (0, 0)) := by rw [← hw1]; exact heap_alloc_new w _
  have IC := Lib.hid (indexF_c (c := c) (hk.stay b1) hn hs (cell_of_one k1) (lt_of_block k1))
  have B1 := Lib.hid b1
  clear b1 k1 hk hn hs
  go_enter Try.func27, Try.ntmps27
  go_wp2_with fail
  refine IC.out.mono ?_
  rintro e w2 ⟨rfl, h2⟩
  have H2 := Lib.hid h2
  clear h2
  go_wp2
  go_ret
  exact ⟨rfl, B1.out.trans (H2.out.mono B1.out.size)⟩

set_option maxHeartbeats 2000000 in
theorem refPlace_c {A : Option Addr} {n c id : Nat} {ms : List MTk} {w : World} (hk : KL w A ms) (hn : n = ms.length) (hs : n ≤ 1000000) :
    Calls Try.prog 12 #[.slice A n c, .int .u64 (id : Int)] w fun e w' => e = .returned (.int .i64 (T9.plcI (tks ms) id)) ∧ Below w.heap.size w w' := by
  have HK := Lib.hid hk
  have HN := Lib.hid hn
  clear hk hn
  go_enter Try.func12, Try.ntmps12
  go_wp2_with fail
  go_loopw [9] (fun s9 wr => ∃ i : Nat, s9 = .int .i64 i ∧ i ≤ n ∧ Hid (∀ x ∈ (tks ms).take i, x.id ≠ id) ∧ Aside (Below w.heap.size w wr)) (fun s9 _ => n - (intOf s9).toNat)
  case atStart => exact ⟨0, rfl, Nat.zero_le _, Lib.hid (by simp), Below.refl _ _⟩
  case round =>
    obtain ⟨i, rfl, hi, HU, hB⟩ := hrel
    have BR := Lib.hid hB.out
    clear hB
    by_cases hlt : i < n
    · have hltz : (i : Int) < (n : Int) := by omega
      obtain ⟨ad, m, hA, hx, hf, r0, r1, r2, r3, r4, r5, r6⟩ := (HK.out.stay BR.out).at_ (k := i) (by have := HN.out; omega)
      subst hA
      have X : Hid ((tks ms)[i]? = some m.t) := Lib.hid (tks_at hx)
      obtain ⟨w2, hw2⟩ : ∃ u, wr.alloc (.cells #[.int .u64 (m.t.id : Int), .int .u64 (m.t.list : Int), .string (str m.t.title), .bool m.t.done, .float .f64 m.t.rank, .float .f64 m.t.est, .slice m.A m.t.tags.length m.c] 36) = u := ⟨_, rfl⟩
      obtain ⟨lb, b2, z2⟩ := new_seven hw2
      have B2 := Lib.hid b2
      obtain ⟨l0, l1, l2, l3, l4, l5, l6⟩ := seven_cells lb
      clear hx hf lb b2 z2
      by_cases he : m.t.id = id
      · have hez : ((m.t.id : Int) == (id : Int)) = true := by simp [he]
        have F : Hid (T9.plcI (tks ms) id = (i : Int)) := Lib.hid (T9.plcI_some (T9.plc_hit HU.out X.out he))
        clear he
        go_wp2
        go_ret
        exact ⟨by rw [F.out]; rfl, BR.out.trans (B2.out.mono BR.out.size)⟩
      · have hez : ((m.t.id : Int) == (id : Int)) = false := by simp; omega
        have F : Hid (∀ x ∈ (tks ms).take (i + 1), x.id ≠ id) := Lib.hid (T9.plc_miss HU.out X.out he)
        clear he
        go_wp2
        go_roundw
        case rel => exact ⟨i + 1, by go_num, by omega, F, BR.out.trans (B2.out.mono BR.out.size)⟩
        case measure => simp [intOf]; omega
    · obtain rfl : i = n := by omega
      have hltz : ¬ ((i : Int) < (i : Int)) := by omega
      have F : Hid (T9.plcI (tks ms) id = -1) := Lib.hid (T9.plcI_none (T9.plc_none.2 fun t ht => HU.out t (by rw [List.take_of_length_le (by rw [tks_len, HN.out]; exact Nat.le_refl _)]; exact ht)))
      go_wp2
      go_ret
      exact ⟨by rw [F.out]; rfl, BR.out⟩

theorem infP10_c (w : World) : Calls Try.prog 26 #[.int .i64 1] w fun e w' => e = .returned (.float .f64 Fl.pInf) ∧ w = w' := by
  go_enter Try.func26, Try.ntmps26
  go_wp2_with fail
  go_ret
  exact ⟨rfl, rfl⟩
theorem infM10_c (w : World) : Calls Try.prog 26 #[.int .i64 (-1)] w fun e w' => e = .returned (.float .f64 Fl.nInf) ∧ w = w' := by
  go_enter Try.func26, Try.ntmps26
  go_wp2_with fail
  go_ret
  exact ⟨rfl, rfl⟩
end Go.Proofs.Ytahemcpeejgkeaa
