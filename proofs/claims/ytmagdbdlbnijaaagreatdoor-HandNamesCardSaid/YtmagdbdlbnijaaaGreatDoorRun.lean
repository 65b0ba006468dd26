/- The law that takes no argument, reckoned: the evaluator says that it returns true. -/
import Derived.Test.YtmagdbdlbnijaaaGreatDoorProg
import Derived.Test.YtmagdbdlbnijaaaGreatDoorEv2
namespace Go.Proofs.YtmagdbdlbnijaaaGreatDoor
open Go.Ev

set_option maxRecDepth 10000000 in
theorem runNames : truly Tryz.prog 1000 8 ⟨.leaf, 4, .leaf⟩ = true := by kernel_rfl

end Go.Proofs.YtmagdbdlbnijaaaGreatDoor
