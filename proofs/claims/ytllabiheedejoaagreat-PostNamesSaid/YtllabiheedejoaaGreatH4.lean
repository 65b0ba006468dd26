/- Runs of calls that only read. -/
import Derived.Test.YtllabiheedejoaaGreatHD
import Derived.Test.YtllabiheedejoaaGreatTS
import Derived.Test.YtllabiheedejoaaGreatProg
namespace Go.Proofs
open Go Go.Ev
set_option maxRecDepth 10000000
theorem run_ra4 : (execXW Tryz.prog prim0 1000).run Tryz.f31.ntmps none ((Tryz.f31.body).getD .skip) (argsT ra4.l) (hH 0 ra4) [] (finish Tryz.prog Tryz.f31 fun v _ => veq v ra4.v) = true := by kernel_rfl
end Go.Proofs
