/- Parts of the run: each statement from one written-out state to the next. -/
import Derived.Test.YtnlmonmeapbblaaGreatRunD
namespace Go.Proofs.YtnlmonmeapbblaaGreat.run
open Go Go.Ev
set_option maxRecDepth 10000000
theorem p28 : (execXW Tryz.prog prim1 1000).run lawN none (nthC 28 lawC) t28 h28 [] (Chk t29 h29 []) = true := by kernel_rfl
end Go.Proofs.YtnlmonmeapbblaaGreat.run
