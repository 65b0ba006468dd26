/- A part of the run around the call. -/
import Derived.Test.YtljjooaplpkmcacGreatDoorAwX
namespace Go.Proofs.YtljjooaplpkmcacGreatDoor.aw
open Go Go.Ev
set_option maxRecDepth 10000000
theorem p4 : (execDW Tryz.prog prim3 cut 1000).run lawN none (nthC 4 lawC) t4 h4 [] (Chk t5 h5 []) = true := by kernel_rfl
end Go.Proofs.YtljjooaplpkmcacGreatDoor.aw
