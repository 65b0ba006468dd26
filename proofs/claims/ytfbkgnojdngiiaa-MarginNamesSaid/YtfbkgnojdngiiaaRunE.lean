/- Parts of the run: each statement from one written-out state to the next. -/
import Derived.Test.YtfbkgnojdngiiaaRunD
namespace Go.Proofs.Ytfbkgnojdngiiaa.run
open Go Go.Ev
set_option maxRecDepth 10000000
theorem p16 : (execXW Try.prog prim0 1000).run lawN none (nthC 16 lawC) t16 h16 [] (Chk t17 h17 []) = true := by kernel_rfl
end Go.Proofs.Ytfbkgnojdngiiaa.run
