/- Contracts of the document's own Disk: Write, Wipe. -/
import Derived.Test.YtogobeinckgjmaaDh
namespace Go.Proofs.Ytogobeinckgjmaa
open Go.RowKit

set_option maxHeartbeats 2000000 in
theorem refWrite_c {w : World} {F : Nat → Prop} {p : Nat} {d : Dk.D} {A : Option Addr} {n c : Nat} {b : List UInt8} {B : Nat} {t : TypeId} (h : RD w F p d) (hd : d.ok) (hl : d.left ≤ 9223372036854775807) (hcl : d.cache.length ≤ 100000000)
    (hL : Lies w B t A (bcells b)) (hBF : bcells b ≠ [] → InF (fun k => ¬ F k ∧ k < w.heap.size) A) (hn : n = b.length) (i : Int) :
    Calls Try.prog 12 #[.pointer (some ⟨p, 0, none⟩), .int .i64 i, .slice A n c] w (DiskOk F p (Dk.write d i b).1 (Dk.write d i b).2 w) := by
  have H := Lib.hid h
  have c4 := (show w.cell? ⟨p, 4, none⟩ = some (.bool d.dead) by
    obtain ⟨AS, AC, AB, cS, cC, cB, ms, cs, r, _, _⟩ := h
    exact r.fields.2.2.2.2.1)
  have same : ∀ er, DiskOk F p er d w (.returned (.int .i64 er)) w := fun er => ⟨rfl, h.mono up_self, But.refl _ _ _⟩
  have SM := Lib.hid same
  clear same
  cases hdd : d.dead
  · cases hh : Dk.has d i
    · have he : Dk.write d i b = (1, d) := by unfold Dk.write; rw [if_neg (by rw [hdd]; simp), if_pos hh]
      rw [he]
      rw [hdd] at c4
      have HH := Lib.hid hh
      clear he hh hdd hcl hl hd hL hBF hn h
      go_enter Try.func12, Try.ntmps12
      go_wp2_with fail
      refine (refHas_c H.out i).mono ?_
      rw [HH.out]
      rintro e w1 ⟨rfl, rfl⟩
      go_wp2
      go_ret
      exact SM.out 1
    · by_cases hb : 64 < b.length
      · have he : Dk.write d i b = (2, d) := by unfold Dk.write; rw [if_neg (by rw [hdd]; simp), if_neg (by rw [hh]; simp), if_pos hb]
        rw [he]
        rw [hdd] at c4
        have HH := Lib.hid hh
        have hb2 : (64 : Int) < (n : Int) := by omega
        clear he hh hdd hcl hl hd hL hBF hn h hb
        go_enter Try.func12, Try.ntmps12
        go_wp2_with fail
        refine (refHas_c H.out i).mono ?_
        rw [HH.out]
        rintro e w1 ⟨rfl, rfl⟩
        go_wp2
        go_ret
        exact SM.out 2
      · obtain ⟨k, rfl⟩ := Int.eq_ofNat_of_zero_le (Dk.has_iff.1 hh).1
        by_cases ha : (Dk.act d).1 = 0
        · have he : Dk.write d (k : Int) b = (0, Dk.put (Dk.act d).2 (k : Int) b) := by unfold Dk.write; rw [if_neg (by rw [hdd]; simp), if_neg (by rw [hh]; simp), if_neg hb, if_pos ha]
          rw [he]
          exact refWrite_ok h hd hl hcl hL hBF hn k hh hdd (by omega) ha
        · have he : Dk.write d (k : Int) b = (50, (Dk.act d).2) := by
            unfold Dk.write; rw [if_neg (by rw [hdd]; simp), if_neg (by rw [hh]; simp), if_neg hb, if_neg ha]
            exact Prod.ext (Dk.act_no ha).1 rfl
          rw [he]
          have HA := Lib.hid (Dk.act_no ha).1
          rw [hdd] at c4
          have HH := Lib.hid hh
          have HD := Lib.hid hd
          have HL := Lib.hid hl
          have hb2 : (n : Int) ≤ 64 := by omega
          clear he hh hdd hcl hl hd hL hBF hn h hb ha
          go_enter Try.func12, Try.ntmps12
          go_wp2_with fail
          refine (refHas_c H.out k).mono ?_
          rw [HH.out]
          rintro e w1 ⟨rfl, rfl⟩
          go_wp2_with fail
          refine (refAct_c H.out HD.out HL.out).mono ?_
          rw [HA.out]
          rintro e w1 ⟨rfl, hr1, hb1⟩
          go_wp2
          go_ret
          exact ⟨rfl, hr1, hb1⟩
  · have he : Dk.write d i b = (50, d) := by unfold Dk.write; rw [if_pos hdd]
    rw [he]
    rw [hdd] at c4
    clear he hdd hcl hl hd hL hBF hn h
    go_enter Try.func12, Try.ntmps12
    go_wp2
    go_ret
    exact SM.out 50
end Go.Proofs.Ytogobeinckgjmaa
