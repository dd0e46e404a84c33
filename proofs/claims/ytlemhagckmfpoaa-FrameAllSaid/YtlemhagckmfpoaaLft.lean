/- Two closed facts of the program, for the lifts. -/
import Derived.Test.YtlemhagckmfpoaaLaw
import Derived.Test.YtlemhagckmfpoaaOpb
namespace Go.Proofs.Ytlemhagckmfpoaa

theorem Try.laidOut2 : laidOutB Try.prog = true := by kernel_rfl
theorem Try.own2 : ownKnob Try.prog.godebug = none := by kernel_rfl

end Go.Proofs.Ytlemhagckmfpoaa
