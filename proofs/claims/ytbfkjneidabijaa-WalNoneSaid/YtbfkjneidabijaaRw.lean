/- Contracts of the document's own writers (factotumref01: Fixed, N, I, F, B, Flag). -/
import Derived.Test.YtbfkjneidabijaaCw
namespace Go.Proofs.Ytbfkjneidabijaa
open Go.RowKit
set_option maxRecDepth 100000

theorem zig_minus2 {n : Int} (h0 : -9223372036854775808 ≤ n) (h1 : n < 0) : IntKind.u64.wrap (IntKind.u64.wrap (IntKind.u64.wrap (wrap64 (-wrap64 (n + 1))) * 2) + 1) = (Cd.zig n : Int) := by
  rw [← zig_minus h0 h1, Int.mul_comm 2]
theorem zig_plus2 {n : Int} (h1 : n < 9223372036854775808) (h0 : 0 ≤ n) : IntKind.u64.wrap (IntKind.u64.wrap n * 2) = (Cd.zig n : Int) := by
  rw [← zig_plus h1 h0, Int.mul_comm 2]

end Go.Proofs.Ytbfkjneidabijaa
