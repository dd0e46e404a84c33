import Derived.Test.YtmcfknnfaokmlaaGreatZ10
import Derived.Test.YtmcfknnfaokmlaaGreatZ5
import Derived.Test.YtmcfknnfaokmlaaGreatZ1
import Derived.Test.YtmcfknnfaokmlaaGreatZ2
import Derived.Shelf.SlSortCmp.KitK
import Derived.Shelf.SlSortCmp.Kit1
import Derived.Test.YtmcfknnfaokmlaaGreatProg
import Derived.Sort.WalkB2
import Derived.Sort.WalkB12
import Derived.Deep.LoopGhost
import Derived.BigRegion
import Derived.WalkKit
import Derived.Lib.Hide
import Derived.Deep.DeepCutAuto
import Derived.Sort.WalkA
namespace Go.Proofs.YtmcfknnfaokmlaaGreat
set_option maxHeartbeats 16000000
open Go.Proofs.Tryz
set_option linter.unusedSimpArgs false
set_option maxRecDepth 100000
section
namespace Sr
section
variable {α : Type} {lt : α → α → Bool}
end
end Sr
namespace Fl
end Fl
namespace T9
end T9
end
section
open Go.Shelf Go.RowKit Go.Lib Go.Sort
namespace Sr
section
variable {α : Type} {eq : α → α → Bool}
variable [Inhabited α]
end
end Sr
section
variable {P : Program} {α : Type} [Inhabited α] {enc : α → List Value} {k : Nat} {w0 W : World} {blk off : Nat} {dk d0 : Array α}
end
section
variable {P : Program} {α : Type} [Inhabited α] {enc : α → Value} {w0 W : World} {blk off : Nat} {dk d0 : Array α}
end
end
section
section
open Go.Shelf Go.RowKit Go.Lib Go.Sort
variable {bo : Bool} {P : Program} {α : Type} [Inhabited α]
end
end
section
section
open Go.Shelf Go.RowKit Go.Lib Go.Sort
variable {bo : Bool} {P : Program} {α : Type} [Inhabited α]
end
section
open Go.Shelf Go.RowKit Go.Lib Go.Sort
variable {bo : Bool} {P : Program} {α : Type} [Inhabited α]
end
end
section
section
open Go.Shelf Go.RowKit Go.Lib Go.Sort
variable {bo : Bool} {P : Program} {α : Type} [Inhabited α]
end
end
section
section
open Go.Shelf Go.RowKit Go.Lib Go.Sort
variable {bo : Bool} {P : Program} {α : Type} [Inhabited α]
end
section
open Go.Shelf Go.RowKit Go.Lib Go.Sort
variable {bo : Bool} {P : Program} {α : Type} [Inhabited α]
end
end
section
section
open Go.Shelf Go.RowKit Go.Lib Go.Sort
variable {bo : Bool} {P : Program} {α : Type} [Inhabited α]
end
section
open Go.Shelf Go.RowKit Go.Lib Go.Sort
variable {bo : Bool} {P : Program} {α : Type} [Inhabited α]
end
end
section
open Go.Shelf Go.RowKit Go.Lib Go.Sort
variable {P : Program} {α : Type} [Inhabited α]
end
section
section
open Go.Shelf Go.RowKit Go.Lib Go.Sort
variable {P : Program} {α : Type} [Inhabited α]
end
section
open Go.Shelf Go.RowKit Go.Lib Go.Sort
variable {P : Program} {α : Type} [Inhabited α]
end
section
open Go.Shelf Go.RowKit Go.Lib Go.Sort
variable {P : Program} {α : Type} [Inhabited α]
end
end
section
open Go.Shelf Go.RowKit Go.Lib Go.Sort
theorem CW {a b:List UInt8} (h:a<b):Op.bytesLess a b=true:=by rw [Go.Proofs.bytesLess_eq];exact decide_eq_true h
theorem yS {a b:List UInt8} (h:¬ a<b):Op.bytesLess a b=false:=by rw [Go.Proofs.bytesLess_eq];exact decide_eq_false h
theorem pM:prog.follows .mixedOrders=true:=by kernel_rfl
end
end Go.Proofs.YtmcfknnfaokmlaaGreat
