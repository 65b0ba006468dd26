import Derived.Test.YtemmpnipmklacaaHD
import Derived.Test.YtemmpnipmklacaaTS
import Derived.Test.YtemmpnipmklacaaChecked
/- Runs of calls that only read. -/
namespace Go.Proofs
open Go Go.Ev
set_option maxRecDepth 10000000
theorem run_ra9 : (execXW Try.prog prim0 1000).run Try.f62.ntmps none ((Try.f62.body).getD .skip) (argsT ra9.l) (hH 0 ra9) [] (finish Try.prog Try.f62 fun v _ => veq v ra9.v) = true := by kernel_rfl
theorem run_ra10 : (execXW Try.prog prim0 1000).run Try.f62.ntmps none ((Try.f62.body).getD .skip) (argsT ra10.l) (hH 0 ra10) [] (finish Try.prog Try.f62 fun v _ => veq v ra10.v) = true := by kernel_rfl
theorem run_ra11 : (execXW Try.prog prim0 1000).run Try.f62.ntmps none ((Try.f62.body).getD .skip) (argsT ra11.l) (hH 0 ra11) [] (finish Try.prog Try.f62 fun v _ => veq v ra11.v) = true := by kernel_rfl
end Go.Proofs
