import Derived.Test.YtfbkgnojdngiiaaMg5
/- The parts, or the error, by the words of the document. -/
namespace Go.Proofs.Mg
open Go Go.Ev
set_option linter.unusedSimpArgs false
variable {pr : Prim} {R : ExT}
abbrev i1 (l : List Int) : List (List Value) := l.map fun n => [iv n]
end Go.Proofs.Mg
