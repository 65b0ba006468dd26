/- The law that takes no argument, reckoned: the evaluator says that it returns true. -/
import Derived.Test.YtljjooaplpkmcaaGreatDoorProg
import Derived.Test.YtljjooaplpkmcaaGreatDoorEv23
namespace Go.Proofs.YtljjooaplpkmcaaGreatDoor
open Go.Ev

set_option maxRecDepth 10000000 in
theorem runNames : trulyC Tryz.prog 1000 3 ⟨.leaf, 4, .leaf⟩ = true := by kernel_rfl

end Go.Proofs.YtljjooaplpkmcaaGreatDoor
