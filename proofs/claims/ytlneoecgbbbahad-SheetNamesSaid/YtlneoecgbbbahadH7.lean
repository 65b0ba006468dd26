/- Runs of calls that only read. -/
import Derived.Test.YtlneoecgbbbahadHD
import Derived.Test.YtlneoecgbbbahadTS
import Derived.Test.YtlneoecgbbbahadProg
namespace Go.Proofs
open Go Go.Ev
set_option maxRecDepth 10000000
theorem run_ra7 : (execXW Try.prog prim0 1000).run Try.f35.ntmps none ((Try.f35.body).getD .skip) (argsT ra7.l) (hH 0 ra7) [] (finish Try.prog Try.f35 fun v _ => veq v ra7.v) = true := by kernel_rfl
end Go.Proofs
