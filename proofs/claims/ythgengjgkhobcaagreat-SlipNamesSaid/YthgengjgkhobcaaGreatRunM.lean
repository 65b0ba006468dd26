/- Parts of the run: each statement from one written-out state to the next. -/
import Derived.Test.YthgengjgkhobcaaGreatRunD
namespace Go.Proofs.YthgengjgkhobcaaGreat.run
open Go Go.Ev
set_option maxRecDepth 10000000
theorem p11 : (execXW Tryz.prog prim0 1000).run lawN none (nthC 11 lawC) t11 h11 [] (Chk t12 h12 []) = true := by kernel_rfl
end Go.Proofs.YthgengjgkhobcaaGreat.run
