/- The rounds of the call. -/
import Derived.Test.YtljjooaplpkmcacGreatDoorAwX
namespace Go.Proofs.YtljjooaplpkmcacGreatDoor.aw
open Go Go.Ev
set_option maxRecDepth 10000000
theorem r0 : (execXW Tryz.prog prim3 1000).run n0 none lb lu0 lg0 [] (Chk lu1 lg1 []) = true := by kernel_rfl
theorem r1 : (execXW Tryz.prog prim3 1000).run n0 none lb lu1 lg1 [] (Chk lu2 lg2 []) = true := by kernel_rfl
theorem r2 : (execXW Tryz.prog prim3 1000).run n0 none lb lu2 lg2 [] (Chk lu3 lg3 []) = true := by kernel_rfl
theorem r3 : (execXW Tryz.prog prim3 1000).run n0 none lb lu3 lg3 [] (Chk lu4 lg4 []) = true := by kernel_rfl
theorem r4 : (execXW Tryz.prog prim3 1000).run n0 none (.loop lb) lu4 lg4 [] KX = true := by kernel_rfl
end Go.Proofs.YtljjooaplpkmcacGreatDoor.aw
