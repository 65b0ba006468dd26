/- Runs of calls that only read. -/
import Derived.Test.YtllabiheedejoaaGreatHD
import Derived.Test.YtllabiheedejoaaGreatTS
import Derived.Test.YtllabiheedejoaaGreatProg
namespace Go.Proofs
open Go Go.Ev
set_option maxRecDepth 10000000
theorem run_ra2 : (execXW Tryz.prog prim0 1000).run Tryz.f21.ntmps none ((Tryz.f21.body).getD .skip) (argsT ra2.l) (hH 0 ra2) [] (finish Tryz.prog Tryz.f21 fun v _ => veq v ra2.v) = true := by kernel_rfl
end Go.Proofs
