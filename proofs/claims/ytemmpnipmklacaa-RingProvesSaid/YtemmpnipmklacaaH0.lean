import Derived.Test.YtemmpnipmklacaaHD
import Derived.Test.YtemmpnipmklacaaTS
import Derived.Test.YtemmpnipmklacaaChecked
/- Runs of calls that only read. -/
namespace Go.Proofs
open Go Go.Ev
set_option maxRecDepth 10000000
theorem run_ra0 : (execXW Try.prog prim0 1000).run Try.f62.ntmps none ((Try.f62.body).getD .skip) (argsT ra0.l) (hH 0 ra0) [] (finish Try.prog Try.f62 fun v _ => veq v ra0.v) = true := by kernel_rfl
theorem run_ra1 : (execXW Try.prog prim0 1000).run Try.f62.ntmps none ((Try.f62.body).getD .skip) (argsT ra1.l) (hH 0 ra1) [] (finish Try.prog Try.f62 fun v _ => veq v ra1.v) = true := by kernel_rfl
theorem run_ra2 : (execXW Try.prog prim0 1000).run Try.f62.ntmps none ((Try.f62.body).getD .skip) (argsT ra2.l) (hH 0 ra2) [] (finish Try.prog Try.f62 fun v _ => veq v ra2.v) = true := by kernel_rfl
end Go.Proofs
