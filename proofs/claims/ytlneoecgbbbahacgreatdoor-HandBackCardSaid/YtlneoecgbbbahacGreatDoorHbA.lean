import Derived.Test.YtlneoecgbbbahacGreatDoorProg
import Derived.Test.YtlneoecgbbbahacGreatDoorEv23
namespace Go.Proofs
open Go Go.Ev

set_option maxRecDepth 10000000 in
theorem run_awake : trulyC Tryz.prog 1000 4 ⟨.leaf, 4, .leaf⟩ = true := by kernel_rfl
end Go.Proofs
