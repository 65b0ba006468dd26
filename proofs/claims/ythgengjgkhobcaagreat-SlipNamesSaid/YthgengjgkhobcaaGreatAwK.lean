/- Parts of the run: each statement from one written-out state to the next. -/
import Derived.Test.YthgengjgkhobcaaGreatAwD
namespace Go.Proofs.YthgengjgkhobcaaGreat.aw
open Go Go.Ev
set_option maxRecDepth 10000000
theorem p9 : (execXW Tryz.prog prim0 1000).run lawN none (restC 9 lawC) t9 h9 [] (finish Tryz.prog lawF Kt) = true := by kernel_rfl
end Go.Proofs.YthgengjgkhobcaaGreat.aw
