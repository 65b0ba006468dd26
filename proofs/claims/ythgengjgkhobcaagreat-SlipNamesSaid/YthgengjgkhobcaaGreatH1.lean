/- Runs of calls that only read. -/
import Derived.Test.YthgengjgkhobcaaGreatHD
import Derived.Test.YthgengjgkhobcaaGreatTS
import Derived.Test.YthgengjgkhobcaaGreatProg
namespace Go.Proofs
open Go Go.Ev
set_option maxRecDepth 10000000
theorem run_ra1 : (execXW Tryz.prog prim0 1000).run Tryz.f10.ntmps none ((Tryz.f10.body).getD .skip) (argsT ra1.l) (hH 1 ra1) [] (finish Tryz.prog Tryz.f10 fun v _ => veq v ra1.v) = true := by kernel_rfl
end Go.Proofs
