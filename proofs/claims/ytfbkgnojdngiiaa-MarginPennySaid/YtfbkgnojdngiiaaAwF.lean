import Derived.Test.YtfbkgnojdngiiaaAwD
/- Parts of the run: each statement from one written-out state to the next. -/
namespace Go.Proofs.Ytfbkgnojdngiiaa.aw
open Go Go.Ev
set_option maxRecDepth 10000000
theorem p6 : (execXW Try.prog prim0 1000).run lawN none (restC 6 lawC) t6 h6 [] (finish Try.prog lawF Kt) = true := by kernel_rfl
end Go.Proofs.Ytfbkgnojdngiiaa.aw
