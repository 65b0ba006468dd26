import Derived.Test.YtfbkgnojdngiiaaMh5
/- The debts and calls of a loan, by the words of the document. -/
namespace Go.Proofs.Mg
open Go Go.Ev Go.RowKit
set_option linter.unusedSimpArgs false
variable {pr : Prim} {R : ExT}
end Go.Proofs.Mg
