/- Runs of calls that only read. -/
import Derived.Test.YtlneoecgbbbahadHD
import Derived.Test.YtlneoecgbbbahadTS
import Derived.Test.YtlneoecgbbbahadProg
namespace Go.Proofs
open Go Go.Ev
set_option maxRecDepth 10000000
theorem run_ra4 : (execXW Try.prog prim0 1000).run Try.f35.ntmps none ((Try.f35.body).getD .skip) (argsT ra4.l) (hH 0 ra4) [] (finish Try.prog Try.f35 fun v _ => veq v ra4.v) = true := by kernel_rfl
end Go.Proofs
