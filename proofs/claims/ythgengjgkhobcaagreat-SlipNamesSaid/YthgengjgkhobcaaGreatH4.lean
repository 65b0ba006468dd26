/- Runs of calls that only read. -/
import Derived.Test.YthgengjgkhobcaaGreatHD
import Derived.Test.YthgengjgkhobcaaGreatTS
import Derived.Test.YthgengjgkhobcaaGreatProg
namespace Go.Proofs
open Go Go.Ev
set_option maxRecDepth 10000000
theorem run_ra4 : (execXW Tryz.prog prim0 1000).run Tryz.f11.ntmps none ((Tryz.f11.body).getD .skip) (argsT ra4.l) (hH 1 ra4) [] (finish Tryz.prog Tryz.f11 fun v _ => veq v ra4.v) = true := by kernel_rfl
end Go.Proofs
