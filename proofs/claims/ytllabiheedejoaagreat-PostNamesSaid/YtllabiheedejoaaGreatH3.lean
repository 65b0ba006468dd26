/- Runs of calls that only read. -/
import Derived.Test.YtllabiheedejoaaGreatHD
import Derived.Test.YtllabiheedejoaaGreatTS
import Derived.Test.YtllabiheedejoaaGreatProg
namespace Go.Proofs
open Go Go.Ev
set_option maxRecDepth 10000000
theorem run_ra3 : (execXW Tryz.prog prim0 1000).run Tryz.f21.ntmps none ((Tryz.f21.body).getD .skip) (argsT ra3.l) (hH 0 ra3) [] (finish Tryz.prog Tryz.f21 fun v _ => veq v ra3.v) = true := by kernel_rfl
end Go.Proofs
