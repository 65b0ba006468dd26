/- Parts of the run: each statement from one written-out state to the next. -/
import Derived.Test.YthgengjgkhobcaaGreatRunD
namespace Go.Proofs.YthgengjgkhobcaaGreat.run
open Go Go.Ev
set_option maxRecDepth 10000000
theorem p10 : (execXW Tryz.prog prim0 1000).run lawN none (nthC 10 lawC) t10 h10 [] (Chk t11 h11 []) = true := by kernel_rfl
end Go.Proofs.YthgengjgkhobcaaGreat.run
