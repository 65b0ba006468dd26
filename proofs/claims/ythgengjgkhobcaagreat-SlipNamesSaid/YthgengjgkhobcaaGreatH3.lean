/- Runs of calls that only read. -/
import Derived.Test.YthgengjgkhobcaaGreatHD
import Derived.Test.YthgengjgkhobcaaGreatTS
import Derived.Test.YthgengjgkhobcaaGreatProg
namespace Go.Proofs
open Go Go.Ev
set_option maxRecDepth 10000000
theorem run_ra3 : (execXW Tryz.prog prim0 1000).run Tryz.f10.ntmps none ((Tryz.f10.body).getD .skip) (argsT ra3.l) (hH 1 ra3) [] (finish Tryz.prog Tryz.f10 fun v _ => veq v ra3.v) = true := by kernel_rfl
end Go.Proofs
