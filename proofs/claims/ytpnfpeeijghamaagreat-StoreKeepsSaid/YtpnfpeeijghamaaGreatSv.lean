/- Contracts of the document's own Save and Load. -/
import Derived.Test.YtpnfpeeijghamaaGreatSo
import Derived.Test.YtpnfpeeijghamaaGreatDe
import Derived.Test.YtpnfpeeijghamaaGreatDh
namespace Go.Proofs.YtpnfpeeijghamaaGreat
open Go.RowKit
set_option maxRecDepth 100000

namespace Su
theorem save_long {d : Dk.D} {g : Nat} {l : List Nat} (h : 4 < l.length) : save d g l = (2, d) := by unfold save; rw [if_pos h]
theorem save_one {d d1 : Dk.D} {g : Nat} {l : List Nat} {e1 : Int} (h : ¬ 4 < l.length) (h1 : Dk.flush d = (e1, d1)) (hz : e1 ≠ 0) : save d g l = (e1, d1) := by unfold save; rw [if_neg h, h1, if_neg hz]
theorem save_two {d d1 d2 : Dk.D} {g : Nat} {l : List Nat} {e2 : Int} (h : ¬ 4 < l.length) (h1 : Dk.flush d = (0, d1)) (h2 : Dk.write d1 ((g % 2 : Nat) : Int) (slot g l) = (e2, d2)) (hz : e2 ≠ 0) : save d g l = (e2, d2) := by
  unfold save; rw [if_neg h, h1, if_pos rfl, h2, if_neg hz]
theorem save_three {d d1 d2 : Dk.D} {g : Nat} {l : List Nat} (h : ¬ 4 < l.length) (h1 : Dk.flush d = (0, d1)) (h2 : Dk.write d1 ((g % 2 : Nat) : Int) (slot g l) = (0, d2)) : save d g l = Dk.flush d2 := by
  unfold save; rw [if_neg h, h1, if_pos rfl, h2, if_pos rfl]
end Su
namespace Dk
theorem flush_left {d : D} (h : d.left ≤ 9223372036854775807) : (flush d).2.left ≤ 9223372036854775807 := by
  have q : (act d).2.left ≤ 9223372036854775807 := by
    unfold act
    split
    · exact h
    · split
      · show d.left - 1 ≤ _; omega
      · exact h
  unfold flush
  split
  all_goals exact q
theorem flush_few {d : D} {k : Nat} (h : d.cache.length ≤ k) : (flush d).2.cache.length ≤ k := by
  unfold flush
  split
  · exact Nat.zero_le _
  · rw [act_cache]; exact h
theorem write_left {d : D} (h : d.left ≤ 9223372036854775807) (i : Int) (b : List UInt8) : (write d i b).2.left ≤ 9223372036854775807 := by
  have q : (act d).2.left ≤ 9223372036854775807 := by
    unfold act
    split
    · exact h
    · split
      · show d.left - 1 ≤ _; omega
      · exact h
  unfold write
  repeat' split
  all_goals first | exact h | exact q
theorem write_few {d : D} {k : Nat} (h : d.cache.length ≤ k) (i : Int) (b : List UInt8) : (write d i b).2.cache.length ≤ k + 1 := by
  unfold write
  repeat' split
  all_goals first | exact Nat.le_succ_of_le h | (rw [act_cache]; exact Nat.le_succ_of_le h) | skip
  show ((act d).2.cache ++ [_]).length ≤ k + 1
  rw [List.length_append, act_cache]
  simp; omega
end Dk

namespace Su
theorem load_one {d : Dk.D} {b : List UInt8} {e : Int} (h : Dk.read d 0 = (b, e)) (hz : e ≠ 0) : load d = (0, [], e) := by unfold load; rw [h, if_neg hz]
theorem load_two {d : Dk.D} {b c : List UInt8} {e : Int} (h : Dk.read d 0 = (b, 0)) (h2 : Dk.read d 1 = (c, e)) (hz : e ≠ 0) : load d = (0, [], e) := by unfold load; rw [h, if_pos rfl, h2, if_neg hz]
theorem load_all {d : Dk.D} {b c : List UInt8} (h : Dk.read d 0 = (b, 0)) (h2 : Dk.read d 1 = (c, 0)) : load d = ofPick (pick (unslot b) (unslot c)) := by unfold load; rw [h, if_pos rfl, h2, if_pos rfl]
end Su
theorem read_len {d : Dk.D} (h : d.ok) (i : Int) : (Dk.read d i).1.length ≤ 64 := by
  unfold Dk.read
  repeat' split
  all_goals first | exact Nat.zero_le _ | skip
  rename_i h1 _
  have := Dk.has_iff.1 (show Dk.has d i = true by simpa using h1)
  exact Nat.le_of_eq (Dk.look_len h (by omega))

end Go.Proofs.YtpnfpeeijghamaaGreat
