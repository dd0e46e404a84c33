/- The document's Fixed, N and B, where a block is to stay as it is that none of the caller's own bytes lie in (bytes of a string laid ahead of them). -/
import Derived.Test.YtbgdmmemahfpbaaCw
namespace Go.Proofs.Ytbgdmmemahfpbaa
open Go.RowKit
set_option maxRecDepth 100000

/-- Bytes of a call's own, elsewhere than in block g, which is as it was. -/
def AppG (g B : Nat) (l : List UInt8) (w : World) (e : Ending) (w' : World) : Prop :=
  ∃ A n c, e = .returned (.slice A n c) ∧ w'.ownsRow B 5 1 (.slice A n c) l.length (bcells l) ∧ Tch B [5] w w' ∧ w'.heap[g]? = w.heap[g]? ∧ ∀ k, (Value.slice A n c).ownBlock = some k → k ≠ g

theorem apart_app {g z : Nat} {v v' : Value} (hne : ∀ k, v.ownBlock = some k → k ≠ g) (hor : v'.ownBlock = v.ownBlock ∨ v'.ownBlock = some z) (hz : g < z) : ∀ k, v'.ownBlock = some k → k ≠ g := by
  intro k hk e
  rcases hor with q | q
  · exact hne k (q.symm.trans hk) e
  · rw [q] at hk
    injection hk with hk
    omega

set_option maxHeartbeats 1000000 in
theorem fixedG_c {g B : Nat} {l : List UInt8} {A : Option Addr} {c m : Nat} {n z : Int} {k : Nat} {w : World} (hz : z = (k : Int)) (h : w.ownsRow B 5 1 (.slice A m c) l.length (bcells l)) (hB : B ≤ w.heap.size) (hg : g < w.heap.size) (hne : ∀ k, (Value.slice A m c).ownBlock = some k → k ≠ g)
    (h0 : 0 ≤ n) (h1 : n < 18446744073709551616) (hk : k ≤ 8) (hs : l.length + 8 ≤ 1099511627776) :
    Calls Try.prog 111 #[.slice A m c, .int .u64 n, .int .i64 z] w (AppG g B (l ++ Cd.fix n.toNat k) w) := by
  have H1 := Lib.hid h1
  have HW := Lib.hid h
  obtain ⟨rfl, _⟩ := own_room h
  have HNE := Lib.hid hne
  clear h1 h hne
  subst hz
  obtain ⟨i0, hi, hz0, hz1, hz2⟩ := info_parts Try.infoU8
  go_enter Try.func111, Try.ntmps111
  go_wp2_with fail
  go_loopw [0, 7] (fun b i wr => ∃ (j : Nat) (d : List UInt8) (A1 : Option Addr) (c1 : Nat), j ≤ k ∧ i = .int .i64 ((j : Int) - 1) ∧ b = .slice A1 (l.length + d.length) c1 ∧ d ++ Cd.fix n.toNat j = Cd.fix n.toNat k ∧ wr.ownsRow B 5 1 (.slice A1 (l.length + d.length) c1) (l.length + d.length) (bcells (l ++ d)) ∧ Tch B [5] w wr ∧ wr.heap[g]? = w.heap[g]? ∧ ∀ q, (Value.slice A1 (l.length + d.length) c1).ownBlock = some q → q ≠ g) (fun _ i _ => (intOf i + 1).toNat)
  case atStart => exact ⟨k, [], A, c, Nat.le_refl _, rfl, by simp, rfl, by simpa using HW.out, Tch.refl _ _ _, rfl, by simpa using HNE.out⟩
  case round =>
    obtain ⟨j, d, A1, c1, hj, rfl, rfl, hd, ho, ht, hgb, hng⟩ := hrel
    have HD := Lib.hid hd
    have dl : d.length + j = k := by have := congrArg List.length hd; simpa [Cd.fix_len] using this
    have dk : d.length ≤ 8 := by omega
    have DL := Lib.hid dl
    have HO := Lib.hid ho
    have hB2 := ht.size
    have hgr : g < wr.heap.size := by have := ht.size; omega
    have HT := Lib.hid ht
    have HGB := Lib.hid hgb
    have HNG := Lib.hid hng
    clear hd dl ho ht hgb hng
    by_cases hz : 0 < j
    · obtain ⟨j, rfl⟩ : ∃ i, j = i + 1 := ⟨j - 1, by omega⟩
      go_wp2_with (at_builtin; refine wpList_app _ rfl _ _ 47 rfl B 5 i0 (.int .u8 0) 1 1 Try.underlying47 hi hz0 hz1 hz2 rfl (by decide) _ (l.length + d.length) (bcells (l ++ d)) rfl (HO.out.alloc _) 0 _ 1 1 (bcells [Cd.byt n.toNat j]) 5 rfl rfl (lies1 (byt_int h0 j) rfl) (bcells_one _) (by unfold maxLen; omega) (by omega) (by simp; omega) ?_)
      intro v' w1 hown' hgrow hor
      obtain ⟨A2, k2, rfl⟩ := own_slice hown'
      have T1 := app_step (HO.out.alloc _) hgrow (by simp; omega)
      have HT1 := Lib.hid (HT.out.trans (((Tch.refl B _ wr).alloc (by omega) _).trans T1))
      have G1 := Lib.hid (((hgrow.block g (by simp; omega) (fun q => HNG.out g q.symm rfl)).trans (Below.heap_alloc wr _ g hgr)).trans HGB.out)
      have G2 := Lib.hid (apart_app (g := g) HNG.out hor (by first | omega | (simp; omega)))
      have HO2 := Lib.hid hown'
      clear hown' hgrow hor T1
      go_wp2
      go_roundw
      case rel => exact ⟨j, d ++ [Cd.byt n.toNat j], A2, k2, by omega, by go_num, by simp [Nat.add_assoc], by rw [← HD.out, Cd.fix]; simp, by rw [← List.append_assoc, bcells_app (l ++ d)]; simpa [Nat.add_assoc] using HO2.out, HT1.out, G1.out, by simpa [Nat.add_assoc] using G2.out⟩
      case measure => simp [intOf] <;> omega
    · obtain rfl : j = 0 := by omega
      go_wp2
      go_ret
      have e : d = Cd.fix n.toNat k := by simpa [Cd.fix] using HD.out
      subst e
      exact ⟨A1, _, c1, rfl, by rw [List.length_append]; exact HO.out, HT.out, HGB.out, HNG.out⟩

set_option maxHeartbeats 1000000 in
set_option maxRecDepth 100000 in
theorem rNG_c {g B : Nat} {l : List UInt8} {A : Option Addr} {c m : Nat} {n : Int} {w : World} (h : w.ownsRow B 5 1 (.slice A m c) l.length (bcells l)) (hB : B ≤ w.heap.size) (hg : g < w.heap.size) (hne : ∀ k, (Value.slice A m c).ownBlock = some k → k ≠ g)
    (h0 : 0 ≤ n) (h1 : n < 18446744073709551616) (hs : l.length + 9 ≤ 1000000000000) :
    Calls Try.prog 67 #[.slice A m c, .int .u64 n] w (AppG g B (l ++ Cd.num n.toNat) w) := by
  have H1 := Lib.hid h1
  have HO := Lib.hid h
  obtain ⟨rfl, _⟩ := own_room h
  have HNE := Lib.hid hne
  clear h1 h hne
  obtain ⟨i0, hi, hz0, hz1, hz2⟩ := info_parts Try.infoU8
  by_cases hlo : n < 128
  · have E := Lib.hid (num_lo h0 hlo)
    go_enter Try.func67, Try.ntmps67
    go_wp2_with (at_builtin; refine wpList_app _ rfl _ _ 47 rfl B 5 i0 (.int .u8 0) 1 1 Try.underlying47 hi hz0 hz1 hz2 rfl (by decide) _ l.length (bcells l) rfl (HO.out.alloc _) 0 _ 1 1 (bcells [Cd.byt n.toNat 0]) 5 rfl rfl (lies1 E.out.1 rfl) (bcells_one _) (by unfold maxLen; omega) (by omega) (by simp; omega) ?_)
    intro v' w1 hown' hgrow hor
    obtain ⟨A2, k2, rfl⟩ := own_slice hown'
    have T1 := app_step (HO.out.alloc _) hgrow (by simp; omega)
    have HT1 := Lib.hid (((Tch.refl B _ w).alloc (by omega) _).trans T1)
    have G1 := Lib.hid ((hgrow.block g (by simp; omega) (fun q => HNE.out g q.symm rfl)).trans (Below.heap_alloc w _ g hg))
    have G2 := Lib.hid (apart_app (g := g) HNE.out hor (by first | omega | (simp; omega)))
    have HO2 := Lib.hid hown'
    clear hown' hgrow hor T1
    go_wp2
    go_ret
    exact ⟨A2, _, k2, rfl, by rw [E.out.2, bcells_app, List.length_append]; exact HO2.out, HT1.out, G1.out, G2.out⟩
  · obtain ⟨b, E⟩ : ∃ b : UInt8, Hid (128 + (Cd.wid n.toNat : Int) = (b.toNat : Int) ∧ Cd.num n.toNat = [b] ++ Cd.fix n.toNat (Cd.wid n.toNat)) := ⟨_, num_hi (by omega)⟩
    have wp := Cd.wid_pos n.toNat
    go_enter Try.func67, Try.ntmps67
    go_wp2_with (first
      | (go_at_call 105; refine (wide_c _ _ h0).mono ?_; rintro e w' ⟨rfl, rfl⟩)
      | (at_builtin; refine wpList_app _ rfl _ _ 47 rfl B 5 i0 (.int .u8 0) 1 1 Try.underlying47 hi hz0 hz1 hz2 rfl (by decide) _ l.length (bcells l) rfl (HO.out.alloc _) 0 _ 1 1 (bcells [b]) 5 rfl rfl (lies1 E.out.1 rfl) (bcells_one _) (by unfold maxLen; omega) (by omega) (by simp; omega) ?_))
    intro v' w1 hown' hgrow hor
    obtain ⟨A2, k2, rfl⟩ := own_slice hown'
    have T1 := app_step (HO.out.alloc _) hgrow (by simp; omega)
    have hz1 := T1.size
    have g1 : g < w1.heap.size := by have := T1.size; simp at this; omega
    have HT1 := Lib.hid (((Tch.refl B _ w).alloc (by omega) _).trans T1)
    have G1 := Lib.hid ((hgrow.block g (by simp; omega) (fun q => HNE.out g q.symm rfl)).trans (Below.heap_alloc w _ g hg))
    have G2 := Lib.hid (apart_app (g := g) HNE.out hor (by first | omega | (simp; omega)))
    have ho2 : w1.ownsRow B 5 1 (.slice A2 (l.length + 1) k2) (l ++ [b]).length (bcells (l ++ [b])) := by
      rw [bcells_app, List.length_append]; exact hown'
    have HO2 := Lib.hid ho2
    clear hown' hgrow hor T1 ho2
    go_wp2_with fail
    refine (fixedG_c (g := g) (l := l ++ [b]) (k := Cd.wid n.toNat) rfl HO2.out (by simp at hz1; omega) g1 G2.out h0 H1.out wp.2 (by simp; omega)).mono ?_
    rintro e w' ⟨A3, m3, k3, rfl, ho3, t3, g3, n3⟩
    have HO3 := Lib.hid ho3
    have HT3 := Lib.hid t3
    have G3 := Lib.hid (g3.trans G1.out)
    have N3 := Lib.hid n3
    clear ho3 t3 g3 n3
    go_wp2
    go_ret
    exact ⟨A3, m3, k3, rfl, by rw [E.out.2, ← List.append_assoc]; exact HO3.out, HT1.out.trans HT3.out, G3.out, N3.out⟩

set_option maxHeartbeats 1000000 in
theorem rBG_c {B g : Nat} {l b : List UInt8} {A : Option Addr} {c m n cb : Nat} {w : World} (h : w.ownsRow B 5 1 (.slice A m c) l.length (bcells l)) (hB : B ≤ w.heap.size) (hg : g < w.heap.size) (hne : ∀ k, (Value.slice A m c).ownBlock = some k → k ≠ g)
    (hL : Lies w 0 5 (some ⟨g, 0, none⟩) (bcells b)) (hn : n = b.length) (hs : l.length + b.length + 9 ≤ 1000000000000) :
    Calls Try.prog 68 #[.slice A m c, .slice (some ⟨g, 0, none⟩) n cb] w (AppOk B (l ++ (Cd.num b.length ++ b)) w) := by
  have HO := Lib.hid h
  have HL := Lib.hid hL
  have HNE := Lib.hid hne
  clear h hL hne
  subst hn
  have nl := num_len b.length
  obtain ⟨i0, hi, hz0, hz1, hz2⟩ := info_parts Try.infoU8
  go_enter Try.func68, Try.ntmps68
  go_wp2_with fail
  refine (rNG_c (g := g) (n := (b.length : Int)) HO.out hB hg HNE.out (by omega) (by omega) (by omega)).mono ?_
  rintro e w' ⟨A3, m3, k3, rfl, ho3, t3, hg3, _⟩
  rw [Int.toNat_natCast] at ho3
  have hz3 := t3.size
  have HO3 := Lib.hid ho3
  have HT3 := Lib.hid t3
  have HL3 : Hid (Lies w' 0 5 (some ⟨g, 0, none⟩) (bcells b)) := fun q => by
    obtain ⟨ad, e1, h1, h2⟩ := HL.out q
    injection e1 with e1
    subst e1
    refine ⟨_, rfl, .inr ?_, fun j u hu => (World.cell?_of_block (by rw [addr_block]; exact hg3)).trans (h2 j u hu)⟩
    rcases h1 with h1 | ⟨cs, fr, h1⟩
    · omega
    · exact ⟨cs, fr, hg3.trans h1⟩
  clear ho3 t3 hg3
  go_wp2_with (at_builtin; refine wpList_app _ rfl _ _ 47 rfl B 5 i0 (.int .u8 0) 1 1 Try.underlying47 hi hz0 hz1 hz2 rfl (by decide) _ (l ++ Cd.num b.length).length (bcells (l ++ Cd.num b.length)) rfl HO3.out 0 _ b.length _ (bcells b) 5 rfl (by rw [bcells_len]; omega) HL3.out (bcells_one _) (by rw [List.length_append]; unfold maxLen; omega) (by rw [List.length_append]; omega) (by omega) ?_)
  intro v' w1 hown' hgrow _
  obtain ⟨A2, k2, rfl⟩ := own_slice hown'
  have T1 := app_step HO3.out hgrow (by omega)
  have HT1 := Lib.hid (HT3.out.trans T1)
  have ho2 : w1.ownsRow B 5 1 (.slice A2 (l.length + (Cd.num b.length).length + b.length) k2) (l ++ (Cd.num b.length ++ b)).length (bcells (l ++ (Cd.num b.length ++ b))) := by
    rw [← List.append_assoc, bcells_app (l ++ Cd.num b.length) b]; simp only [List.length_append]; simpa using hown'
  have HO2 := Lib.hid ho2
  clear hown' hgrow T1 ho2
  go_wp2
  go_ret
  exact ⟨A2, _, k2, rfl, HO2.out, HT1.out⟩
end Go.Proofs.Ytbgdmmemahfpbaa
