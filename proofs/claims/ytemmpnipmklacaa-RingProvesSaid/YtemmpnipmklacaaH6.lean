import Derived.Test.YtemmpnipmklacaaHD
import Derived.Test.YtemmpnipmklacaaTS
import Derived.Test.YtemmpnipmklacaaChecked
/- Runs of calls that only read. -/
namespace Go.Proofs
open Go Go.Ev
set_option maxRecDepth 10000000
theorem run_ra18 : (execXW Try.prog prim0 1000).run Try.f62.ntmps none ((Try.f62.body).getD .skip) (argsT ra18.l) (hH 0 ra18) [] (finish Try.prog Try.f62 fun v _ => veq v ra18.v) = true := by kernel_rfl
end Go.Proofs
