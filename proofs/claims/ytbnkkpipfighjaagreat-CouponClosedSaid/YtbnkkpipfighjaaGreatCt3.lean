import Derived.Test.YtbnkkpipfighjaaGreatCt2
namespace Go.Ev
open Go.RowKit
end Go.Ev
namespace Go.Proofs.Cp
open Go Go.Ev
set_option linter.unusedSimpArgs false
variable {pr : Prim} {R : ExT}
end Go.Proofs.Cp
