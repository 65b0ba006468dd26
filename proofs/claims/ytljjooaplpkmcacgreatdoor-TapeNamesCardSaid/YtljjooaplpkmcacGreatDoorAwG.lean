/- The parts of the call. -/
import Derived.Test.YtljjooaplpkmcacGreatDoorAwX
namespace Go.Proofs.YtljjooaplpkmcacGreatDoor.aw
open Go Go.Ev
set_option maxRecDepth 10000000
theorem q0 : (execXW Tryz.prog prim3 1000).run n0 none (nthC 0 b0) (argsT cut.l) cut.hIn [] (Chk u1 g1 []) = true := by kernel_rfl
theorem q1 : (execXW Tryz.prog prim3 1000).run n0 none (nthC 1 b0) u1 g1 [] (Chk u2 g2 []) = true := by kernel_rfl
theorem q2 : (execXW Tryz.prog prim3 1000).run n0 none (nthC 0 a0) u2 g2 [] (Chk lu0 lg0 []) = true := by kernel_rfl
theorem q3 : (execXW Tryz.prog prim3 1000).run n0 none (restC 3 b0) u3 g3 [] (finish Tryz.prog f0 (KCut cut.v cut.hOut)) = true := by kernel_rfl
end Go.Proofs.YtljjooaplpkmcacGreatDoor.aw
