import Derived.Test.YthgmipngikdknaaGreatPt3
import Derived.Test.YthgmipngikdknaaGreatPoP
import Derived.Test.YthgmipngikdknaaGreatPoT
/- Records are explained sale by sale exactly if none is recorded more often than it happened. Pure. -/
namespace Go.Proofs.Po
set_option linter.unusedSimpArgs false
end Go.Proofs.Po

/- PostProves. -/
namespace Go.Proofs.Po
open Go Go.Ev Go.RowKit
set_option linter.unusedSimpArgs false
variable {pr:Prim} {R:ExT}
end Go.Proofs.Po
