/- Parts of the run: each statement from one written-out state to the next. -/
import Derived.Test.YtlneoecgbbbahadRunD
namespace Go.Proofs.Ytlneoecgbbbahad.run
open Go Go.Ev
set_option maxRecDepth 10000000
theorem p2 : (execXW Try.prog prim0 1000).run lawN none (nthC 2 lawC) t2 h2 [] (Chk t3 h3 []) = true := by kernel_rfl
end Go.Proofs.Ytlneoecgbbbahad.run
