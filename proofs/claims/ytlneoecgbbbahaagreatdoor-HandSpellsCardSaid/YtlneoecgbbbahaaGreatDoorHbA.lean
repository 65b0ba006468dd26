import Derived.Test.YtlneoecgbbbahaaGreatDoorProg
import Derived.Test.YtlneoecgbbbahaaGreatDoorEvC
namespace Go.Proofs
open Go Go.Ev

set_option maxRecDepth 10000000 in
theorem run_awake : trulyC Tryz.prog 1000 5 ⟨.leaf, 4, .leaf⟩ = true := by kernel_rfl
end Go.Proofs
