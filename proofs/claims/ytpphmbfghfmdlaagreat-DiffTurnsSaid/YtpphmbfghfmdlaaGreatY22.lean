import Derived.Test.YtpphmbfghfmdlaaGreatY12
import Derived.Test.YtpphmbfghfmdlaaGreatY21
import Derived.Test.YtpphmbfghfmdlaaGreatY13
import Derived.Deep.Slices
import Derived.Laws.ShiftsVarLaws
import Derived.Sort.KeysCollected
namespace Go.Proofs.YtpphmbfghfmdlaaGreat
set_option linter.unusedSimpArgs false
set_option maxRecDepth 100000
section
namespace Cd
structure Pt where
 kind : Int
 n : Int
 i : Int
 f : Nat
 b : List UInt8
 is : Bool
end Cd
open Go.RowKit
def hd (n : Nat) : Nat := if n < 128 then n else 128 + Cd.wid n
end
section
namespace St
end St
end
end Go.Proofs.YtpphmbfghfmdlaaGreat
