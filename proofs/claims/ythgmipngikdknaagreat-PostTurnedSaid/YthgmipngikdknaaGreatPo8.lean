import Derived.Test.YthgmipngikdknaaGreatPo7
/- The opening price, by the program. -/
namespace Go.Proofs.Po
open Go Go.Ev Go.RowKit
set_option linter.unusedSimpArgs false
variable {pr:Prim} {R:ExT}
/-! ## The best offer -/
/-! ## Open -/
end Go.Proofs.Po
