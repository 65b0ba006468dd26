/- Parts of the run: each statement from one written-out state to the next. -/
import Derived.Test.YtjedggkiiplohaaRunD
namespace Go.Proofs.Ytjedggkiiplohaa.run
open Go Go.Ev
set_option maxRecDepth 10000000
theorem p11 : (execXW Try.prog prim1 1000).run lawN none (nthC 11 lawC) t11 h11 [] (Chk t12 h12 []) = true := by kernel_rfl
end Go.Proofs.Ytjedggkiiplohaa.run
