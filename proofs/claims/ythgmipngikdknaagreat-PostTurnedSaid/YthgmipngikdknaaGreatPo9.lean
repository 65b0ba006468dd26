import Derived.Test.YthgmipngikdknaaGreatPo8
/- The opening price, by the reference; PostOpens. -/
namespace Go.Proofs.Po
open Go Go.Ev Go.RowKit
set_option linter.unusedSimpArgs false
variable {pr:Prim} {R:ExT}
/-! ## The best price -/
end Go.Proofs.Po
