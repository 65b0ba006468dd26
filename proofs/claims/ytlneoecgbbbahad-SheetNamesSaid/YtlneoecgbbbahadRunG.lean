/- Parts of the run: each statement from one written-out state to the next. -/
import Derived.Test.YtlneoecgbbbahadRunD
namespace Go.Proofs.Ytlneoecgbbbahad.run
open Go Go.Ev
set_option maxRecDepth 10000000
theorem p5 : (execXW Try.prog prim0 1000).run lawN none (nthC 5 lawC) t5 h5 [] (Chk t6 h6 []) = true := by kernel_rfl
end Go.Proofs.Ytlneoecgbbbahad.run
