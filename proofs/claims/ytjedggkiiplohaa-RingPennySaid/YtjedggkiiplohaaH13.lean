import Derived.Test.YtjedggkiiplohaaHD
import Derived.Test.YtjedggkiiplohaaTS
import Derived.Test.YtjedggkiiplohaaChecked
/- Runs of calls that only read. -/
namespace Go.Proofs
open Go Go.Ev
set_option maxRecDepth 10000000
theorem run_ra13 : (execXW Try.prog prim0 1000).run Try.f62.ntmps none ((Try.f62.body).getD .skip) (argsT ra13.l) (hH 0 ra13) [] (finish Try.prog Try.f62 fun v _ => veq v ra13.v) = true := by kernel_rfl
end Go.Proofs
