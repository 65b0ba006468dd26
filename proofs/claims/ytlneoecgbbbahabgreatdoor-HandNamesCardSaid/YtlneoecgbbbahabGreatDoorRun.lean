/- The law that takes no argument, reckoned: the evaluator says that it returns true. -/
import Derived.Test.YtlneoecgbbbahabGreatDoorProg
import Derived.Test.YtlneoecgbbbahabGreatDoorEv23
namespace Go.Proofs.YtlneoecgbbbahabGreatDoor
open Go.Ev

set_option maxRecDepth 10000000 in
theorem runNames : trulyC Tryz.prog 1000 3 ⟨.leaf, 4, .leaf⟩ = true := by kernel_rfl

end Go.Proofs.YtlneoecgbbbahabGreatDoor
