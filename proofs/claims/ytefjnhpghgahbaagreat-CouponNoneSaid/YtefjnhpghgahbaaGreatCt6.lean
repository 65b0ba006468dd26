import Derived.Test.YtefjnhpghgahbaaGreatCt5
/- The reference: the claims. -/
namespace Go.Proofs.Cp
open Go Go.Ev Go.RowKit
set_option linter.unusedSimpArgs false

variable {pr:Prim} {R:ExT}
end Go.Proofs.Cp
