import Derived.Test.YtemmpnipmklacaaHD
import Derived.Test.YtemmpnipmklacaaTS
import Derived.Test.YtemmpnipmklacaaChecked
/- Runs of calls that only read. -/
namespace Go.Proofs
open Go Go.Ev
set_option maxRecDepth 10000000
theorem run_ra15 : (execXW Try.prog prim0 1000).run Try.f62.ntmps none ((Try.f62.body).getD .skip) (argsT ra15.l) (hH 0 ra15) [] (finish Try.prog Try.f62 fun v _ => veq v ra15.v) = true := by kernel_rfl
theorem run_ra16 : (execXW Try.prog prim0 1000).run Try.f62.ntmps none ((Try.f62.body).getD .skip) (argsT ra16.l) (hH 0 ra16) [] (finish Try.prog Try.f62 fun v _ => veq v ra16.v) = true := by kernel_rfl
theorem run_ra17 : (execXW Try.prog prim0 1000).run Try.f62.ntmps none ((Try.f62.body).getD .skip) (argsT ra17.l) (hH 0 ra17) [] (finish Try.prog Try.f62 fun v _ => veq v ra17.v) = true := by kernel_rfl
end Go.Proofs
