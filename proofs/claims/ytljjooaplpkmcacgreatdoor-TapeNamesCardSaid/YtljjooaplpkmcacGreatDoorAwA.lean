/- Parts of the run: each statement from one written-out state to the next. -/
import Derived.Test.YtljjooaplpkmcacGreatDoorAwD
namespace Go.Proofs.YtljjooaplpkmcacGreatDoor.aw
open Go Go.Ev
set_option maxRecDepth 10000000
theorem p0 : (execXW Tryz.prog prim3 1000).run lawN none (nthC 0 lawC) t0 h0 [] (Chk t1 h1 []) = true := by kernel_rfl
theorem p1 : (execXW Tryz.prog prim3 1000).run lawN none (nthC 1 lawC) t1 h1 [] (Chk t2 h2 []) = true := by kernel_rfl
theorem p3 : (execXW Tryz.prog prim3 1000).run lawN none (nthC 3 lawC) t3 h3 [] (Chk t4 h4 []) = true := by kernel_rfl
theorem p6 : (execXW Tryz.prog prim3 1000).run lawN none (nthC 6 lawC) t6 h6 [] (Chk t7 h7 []) = true := by kernel_rfl
theorem p7 : (execXW Tryz.prog prim3 1000).run lawN none (nthC 7 lawC) t7 h7 [] (Chk t8 h8 []) = true := by kernel_rfl
end Go.Proofs.YtljjooaplpkmcacGreatDoor.aw
