/- Parts of the run: each statement from one written-out state to the next. -/
import Derived.Test.YthgengjgkhobcaaGreatRunD
namespace Go.Proofs.YthgengjgkhobcaaGreat.run
open Go Go.Ev
set_option maxRecDepth 10000000
theorem p24 : (execXW Tryz.prog prim0 1000).run lawN none (nthC 24 lawC) t24 h24 [] (Chk t25 h25 []) = true := by kernel_rfl
end Go.Proofs.YthgengjgkhobcaaGreat.run
