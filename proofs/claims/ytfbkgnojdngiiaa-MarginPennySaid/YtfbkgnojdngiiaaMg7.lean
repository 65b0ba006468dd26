import Derived.Test.YtfbkgnojdngiiaaMg6
/- MarginParts: the parts of any sum, or the error, are as the document says. -/
namespace Go.Proofs.Mg
open Go Go.Ev
set_option linter.unusedSimpArgs false
variable {pr : Prim} {R : ExT}
end Go.Proofs.Mg
