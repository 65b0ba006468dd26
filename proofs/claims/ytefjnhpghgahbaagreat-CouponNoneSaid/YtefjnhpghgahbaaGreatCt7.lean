import Derived.Test.YtefjnhpghgahbaaGreatCt6
/- The reference: the rights. -/
namespace Go.Proofs.Cp
open Go Go.Ev Go.RowKit
set_option linter.unusedSimpArgs false

variable {pr:Prim} {R:ExT}
end Go.Proofs.Cp
