/- Contract of the document's own Disk: Write. Contracts of the document's own Disk: Write, Wipe. Contracts of the document's own Disk: Wipe. -/
import Derived.Test.YtpnfpeeijghamaaGreatDe
import Derived.Test.YtpnfpeeijghamaaGreatRg
namespace Go.Proofs.YtpnfpeeijghamaaGreat
open Go.RowKit
set_option maxRecDepth 100000

theorem put_as_sec {d : Dk.D} {i : Nat} {b : List UInt8} : Dk.put d (i : Int) b = { d with cache := d.cache ++ [(i, Dk.sec b)] } := rfl

theorem new_len {n : Nat} (h : n ≤ 4096) : Dk.new (n : Int) = Dk.fresh n := by
  unfold Dk.new Dk.count
  rw [Int.toNat_natCast, Nat.min_eq_left h]

end Go.Proofs.YtpnfpeeijghamaaGreat
