import Derived.Test.YtemmpnipmklacaaHD
import Derived.Test.YtemmpnipmklacaaTS
import Derived.Test.YtemmpnipmklacaaChecked
/- Runs of calls that only read. -/
namespace Go.Proofs
open Go Go.Ev
set_option maxRecDepth 10000000
theorem run_ra3 : (execXW Try.prog prim0 1000).run Try.f62.ntmps none ((Try.f62.body).getD .skip) (argsT ra3.l) (hH 0 ra3) [] (finish Try.prog Try.f62 fun v _ => veq v ra3.v) = true := by kernel_rfl
theorem run_ra4 : (execXW Try.prog prim0 1000).run Try.f62.ntmps none ((Try.f62.body).getD .skip) (argsT ra4.l) (hH 0 ra4) [] (finish Try.prog Try.f62 fun v _ => veq v ra4.v) = true := by kernel_rfl
theorem run_ra5 : (execXW Try.prog prim0 1000).run Try.f62.ntmps none ((Try.f62.body).getD .skip) (argsT ra5.l) (hH 0 ra5) [] (finish Try.prog Try.f62 fun v _ => veq v ra5.v) = true := by kernel_rfl
end Go.Proofs
