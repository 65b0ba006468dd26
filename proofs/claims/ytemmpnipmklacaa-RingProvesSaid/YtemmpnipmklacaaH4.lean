import Derived.Test.YtemmpnipmklacaaHD
import Derived.Test.YtemmpnipmklacaaTS
import Derived.Test.YtemmpnipmklacaaChecked
/- Runs of calls that only read. -/
namespace Go.Proofs
open Go Go.Ev
set_option maxRecDepth 10000000
theorem run_ra12 : (execXW Try.prog prim0 1000).run Try.f62.ntmps none ((Try.f62.body).getD .skip) (argsT ra12.l) (hH 0 ra12) [] (finish Try.prog Try.f62 fun v _ => veq v ra12.v) = true := by kernel_rfl
theorem run_ra13 : (execXW Try.prog prim0 1000).run Try.f62.ntmps none ((Try.f62.body).getD .skip) (argsT ra13.l) (hH 0 ra13) [] (finish Try.prog Try.f62 fun v _ => veq v ra13.v) = true := by kernel_rfl
theorem run_ra14 : (execXW Try.prog prim0 1000).run Try.f62.ntmps none ((Try.f62.body).getD .skip) (argsT ra14.l) (hH 0 ra14) [] (finish Try.prog Try.f62 fun v _ => veq v ra14.v) = true := by kernel_rfl
end Go.Proofs
