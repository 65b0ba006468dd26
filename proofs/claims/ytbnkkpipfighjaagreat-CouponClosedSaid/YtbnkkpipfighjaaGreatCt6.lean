import Derived.Test.YtbnkkpipfighjaaGreatCt5
namespace Go.Proofs.Cp
open Go Go.Ev Go.RowKit
set_option linter.unusedSimpArgs false
variable {pr : Prim} {R : ExT}
end Go.Proofs.Cp
