/- The law FramePuts: its three cases together. -/
import Derived.Test.YtlemhagckmfpoaaFya
import Derived.Test.YtlemhagckmfpoaaFyb
import Derived.Test.YtlemhagckmfpoaaFyc
namespace Go.Proofs.Ytlemhagckmfpoaa
open Go.RowKit

set_option maxHeartbeats 1000000 in
theorem framePuts_c {A A2 : Option Addr} {n c n2 c2 : Nat} {l l2 : List UInt8} {w : World} (h0 : Lies w w.heap.size 0 A (bcells l)) (hn : n = l.length) (h2 : Lies w w.heap.size 0 A2 (bcells l2)) (hn2 : n2 = l2.length) (hc2 : n2 ≤ c2) (hs : n ≤ 9223372036854775807) (hs2 : n2 ≤ 9223372036854775807) :
    Calls Try.prog 3 #[.slice A n c, .slice A2 n2 c2] w fun e w' => e = .returned (.bool true) ∧ Below w.heap.size w w' := by
  by_cases big : 500 < n ∨ 1000 < n2
  · clear hn hn2 h0 h2 hc2
    rcases big with big | big
    all_goals
      go_enter Try.func3, Try.ntmps3
      go_wp2_with (go_at_call 7; refine (awake4_c _).mono ?_; rintro e w1 ⟨rfl, hb1⟩; have HB1 := Lib.hid hb1; clear hb1)
    all_goals first
      | (go_ret; exact ⟨rfl, HB1.out⟩)
      | (exfalso; omega)
  · cases hu : Fr.unf l2 with
    | none => exact framePuts_none h0 hn h2 hn2 hc2 (by omega) (by omega) hu
    | some b =>
      by_cases hl : 7 + b.length = l2.length
      · exact framePuts_some h0 hn h2 hn2 hc2 (by omega) (by omega) hu hl
      · exact framePuts_long h0 hn h2 hn2 hc2 (by omega) (by omega) hu hl
end Go.Proofs.Ytlemhagckmfpoaa
