/- Parts of the run: each statement from one written-out state to the next. -/
import Derived.Test.YthgengjgkhobcaaGreatRunD
namespace Go.Proofs.YthgengjgkhobcaaGreat.run
open Go Go.Ev
set_option maxRecDepth 10000000
theorem p25 : (execXW Tryz.prog prim1 1000).run lawN none (nthC 25 lawC) t25 h25 [] (Chk t26 h26 []) = true := by kernel_rfl
end Go.Proofs.YthgengjgkhobcaaGreat.run
