/- Stage 13: slices.Reverse; why nothing is told; the tasks that hold. -/
import Derived.Test.YtnhpkcphgdkdiaaGd
import Derived.Test.YtnhpkcphgdkdiaaTah
namespace Go.Proofs.Ytnhpkcphgdkdiaa
set_option maxRecDepth 100000
set_option linter.unusedSimpArgs false
section
open Go.RowKit Go.Lib Go.Shelf Go.Sort
set_option maxHeartbeats 8000000 in
set_option maxRecDepth 1000000 in
theorem reverseK13 (k : Nat) (aE : ∀ w, (isAgg 32).run Try.prog w = .ok true w) (zE : ∀ w, (Go.sizeOf 32).run Try.prog w = .ok k w) {α : Type} [Inhabited α] {enc : α → List Value} {blk off cap : Nat} {d0 d : Array α} {w0 w : World} (R : RowK enc k w0 blk off d0) (hs : d0.size = d.size) (S : SWK enc k w0 blk off d w) (hsz : d.size < 4611686018427387904) (n : Nat) (hn : n = d.size) :
    Calls Try.prog 22 #[.slice (some ⟨blk, off, none⟩) n cap] w fun e w' => e = .returned (.tuple #[]) ∧ ∃ dk, SWK enc k w0 blk off dk w' ∧ dk.size = d.size ∧ dk.toList = d.toList.reverse := by
  have HN := Lib.hid hn
  have HL : Hid (d.toList.length = n) := Lib.hid (by rw [hn, Array.length_toList])
  have S0 : Aside _ := S
  have r0 : IntKind.i64.wrap ((n : Int) - 1) = (n : Int) - 1 := by rw [IntKind.wrap_i64]; omega
  clear S
  rw [← hn] at hs hsz
  clear hn
  have mixed := mixed9
  go_enter Try.func22, Try.ntmps22
  go_wp2
  go_loopw [2, 3] (fun s2 s3 wr => ∃ (i : Nat) (jz : Int) (dk : Array α), s2 = .int .i64 i ∧ s3 = .int .i64 jz ∧ jz = (n : Int) - 1 - (i : Int) ∧ 2 * i ≤ n ∧ dk.size = n ∧ Aside (SWK enc k w0 blk off dk wr) ∧ Hid (∃ p m q, d.toList = p ++ (m ++ q) ∧ p.length = i ∧ q.length = i ∧ dk.toList = q.reverse ++ (m ++ p.reverse))) (fun s2 _ _ => n - (intOf s2).toNat)
  case atStart => exact ⟨0, (n : Int) - 1, d, rfl, rfl, by omega, by omega, HN.out.symm, S0, Lib.hid ⟨[], d.toList, [], by simp, rfl, rfl, by simp⟩⟩
  case round =>
    obtain ⟨i, jz, dk, rfl, rfl, hj, hi, hds, S1, HE⟩ := hrel
    clear S0
    by_cases hlt : (i : Int) < jz
    · obtain ⟨j, rfl⟩ : ∃ j : Nat, jz = (j : Int) := ⟨jz.toNat, by omega⟩
      obtain ⟨p, x, m, y, q, e1, e2, e3, e4⟩ : ∃ p x m y q, d.toList = p ++ (x :: (m ++ [y]) ++ q) ∧ p.length = i ∧ q.length = i ∧ dk.toList = q.reverse ++ (x :: (m ++ [y]) ++ p.reverse) := by
        obtain ⟨p, m, q, e1, e2, e3, e4⟩ := HE.out
        have l1 := HL.out
        rw [e1, List.length_append, List.length_append] at l1
        match m with
        | [] => simp at l1; omega
        | [x] => simp at l1; omega
        | x :: z :: m =>
          have hne : z :: m ≠ [] := by simp
          have e := List.dropLast_concat_getLast hne
          refine ⟨p, x, (z :: m).dropLast, (z :: m).getLast hne, q, ?_, e2, e3, ?_⟩
          · rw [e]; exact e1
          · rw [e]; exact e4
      have hm : i + (m.length + 2) + i = n := by
        have l1 := HL.out
        rw [e1] at l1
        simp at l1
        omega
      have HSW : Hid ((swp dk i j).toList = (y :: q).reverse ++ (m ++ (p ++ [x]).reverse) ∧ d.toList = (p ++ [x]) ++ (m ++ y :: q)) := Lib.hid (by
        have h1 : dk.toList = q.reverse ++ x :: (m ++ y :: p.reverse) := by rw [e4]; simp
        have q1 := (Sr.swp_list (i := i) (j := j) h1 (by rw [List.length_reverse, e3]) (by rw [List.length_reverse, e3]; omega)).1
        exact ⟨by rw [q1]; simp, by rw [e1]; simp⟩)
      have HP : Hid (p.length = i ∧ q.length = i) := Lib.hid ⟨e2, e3⟩
      clear e1 e2 e3 e4
      have pa1 : (0 : Int) ≤ (i : Int) := by omega
      have ba1 : (i : Int) < (n : Int) := by omega
      have pc1 : (0 : Int) ≤ (j : Int) := by omega
      have bc1 : (j : Int) < (n : Int) := by omega
      have wj : IntKind.i64.wrap ((j : Int) - 1) = (j : Int) - 1 := by rw [IntKind.wrap_i64]; omega
      have S2 : Aside (SWK enc k w0 blk off (swp dk i j) ((wr.drew.setCells blk (off + i * k) (enc dk[j]!)).setCells blk (off + j * k) (enc dk[i]!))) := S1.out.swapped R i j (by omega) (by omega)
      have l1a := S1.out.ld1 R (by omega) Try.prog i (by omega)
      have l1b := S1.out.ld1 R (by omega) Try.prog j (by omega)
      have s1a := S1.out.st1 R (by omega) Try.prog i (by omega) dk[j]!
      have s1b := S1.out.st2 R (by omega) Try.prog i j (by omega) (by omega) dk[j]! dk[i]!
      have n1a : (enc dk[i]!).length = k := R.hk _
      have n1b : (enc dk[j]!).length = k := R.hk _
      generalize enc dk[i]! = cI1 at S2 l1a s1b n1a
      generalize enc dk[j]! = cJ1 at S2 l1b s1a s1b n1b
      have HJ := Lib.hid hj
      clear S1 hj
      go_wp2_with fail
      go_big_region_o
      clear l1a l1b s1a s1b
      generalize (wr.drew.setCells blk (off + i * k) cJ1).setCells blk (off + j * k) cI1 = w2 at S2 ⊢
      go_wp2
      go_roundw
      case rel => exact ⟨i + 1, (j : Int) - 1, _, by go_num, rfl, by have := HJ.out; omega, by omega, by rw [size_swp]; exact hds, S2, Lib.hid ⟨p ++ [x], m, y :: q, HSW.out.2, by rw [List.length_append, HP.out.1]; rfl, by rw [List.length_cons, HP.out.2], HSW.out.1⟩⟩
      case measure => simp [intOf]; omega
    · go_wp2
      go_end0
      obtain ⟨p, m, q, e1, e2, e3, e4⟩ := HE.out
      have l1 := HL.out
      refine ⟨rfl, dk, S1.out, by rw [hds, HN.out], ?_⟩
      rw [e4, e1]
      rw [e1, List.length_append, List.length_append] at l1
      have hr : m.reverse = m := by
        match m, l1 with
        | [], _ => rfl
        | [x], _ => rfl
        | x :: z :: m, l1 => simp at l1; omega
      simp [hr]
theorem reverse13_c {α : Type} [Inhabited α] {enc : α → List Value} {blk cap : Nat} {d0 d : Array α} {w0 w : World} (R : RowK enc 7 w0 blk 0 d0) (hs : d0.size = d.size) (S : SWK enc 7 w0 blk 0 d w) (hsz : d.size < 4611686018427387904) (n : Nat) (hn : n = d.size) :
    Calls Try.prog 22 #[.slice (some ⟨blk, 0, none⟩) n cap] w fun e w' => e = .returned (.tuple #[]) ∧ ∃ dk, SWK enc 7 w0 blk 0 dk w' ∧ dk.size = d.size ∧ dk.toList = d.toList.reverse := reverseK13 7 Try.isAgg32 Try.sizeOf32 R hs S hsz n hn
end
end Go.Proofs.Ytnhpkcphgdkdiaa
