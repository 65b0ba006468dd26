/- Parts of the run: each statement from one written-out state to the next. -/
import Derived.Test.YtljjooaplpkmcacGreatDoorAwD
namespace Go.Proofs.YtljjooaplpkmcacGreatDoor.aw
open Go Go.Ev
set_option maxRecDepth 10000000
theorem p8 : (execXW Tryz.prog prim3 1000).run lawN none (restC 8 lawC) t8 h8 [] (finish Tryz.prog lawF Kt) = true := by kernel_rfl
end Go.Proofs.YtljjooaplpkmcacGreatDoor.aw
