import Derived.Test.YtemmpnipmklacaaHD
import Derived.Test.YtemmpnipmklacaaTS
import Derived.Test.YtemmpnipmklacaaChecked
/- Runs of calls that only read. -/
namespace Go.Proofs
open Go Go.Ev
set_option maxRecDepth 10000000
theorem run_ra6 : (execXW Try.prog prim0 1000).run Try.f62.ntmps none ((Try.f62.body).getD .skip) (argsT ra6.l) (hH 0 ra6) [] (finish Try.prog Try.f62 fun v _ => veq v ra6.v) = true := by kernel_rfl
theorem run_ra7 : (execXW Try.prog prim0 1000).run Try.f62.ntmps none ((Try.f62.body).getD .skip) (argsT ra7.l) (hH 0 ra7) [] (finish Try.prog Try.f62 fun v _ => veq v ra7.v) = true := by kernel_rfl
theorem run_ra8 : (execXW Try.prog prim0 1000).run Try.f62.ntmps none ((Try.f62.body).getD .skip) (argsT ra8.l) (hH 0 ra8) [] (finish Try.prog Try.f62 fun v _ => veq v ra8.v) = true := by kernel_rfl
end Go.Proofs
