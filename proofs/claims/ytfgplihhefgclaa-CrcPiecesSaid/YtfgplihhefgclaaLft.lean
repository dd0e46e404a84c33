/- Two closed facts of the program, for the lifts. -/
import Derived.Test.YtfgplihhefgclaaLaw
import Derived.Test.YtfgplihhefgclaaOpb
namespace Go.Proofs.Ytfgplihhefgclaa

theorem Try.laidOut2 : laidOutB Try.prog = true := by kernel_rfl
theorem Try.own2 : ownKnob Try.prog.godebug = none := by kernel_rfl

end Go.Proofs.Ytfgplihhefgclaa
