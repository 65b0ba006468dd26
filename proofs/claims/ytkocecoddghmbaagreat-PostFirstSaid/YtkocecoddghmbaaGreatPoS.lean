import Derived.Test.YtkocecoddghmbaaGreatPoR
/- A truth of valid orders, by words. -/
namespace Go.Proofs.Po
open Go Go.Ev Go.RowKit
set_option linter.unusedSimpArgs false
variable {pr : Prim} {R : ExT}
abbrev i1 (l : List Int) : List (List Value) := l.map fun n => [iv n]
end Go.Proofs.Po
