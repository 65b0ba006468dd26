import Derived.Test.YtfbkgnojdngiiaaMg2
import Derived.Test.YtfbkgnojdngiiaaEvE
/- The index of the first of the greatest numbers. -/
namespace Go.Proofs.Mg
open Go Go.Ev
set_option linter.unusedSimpArgs false
variable {pr : Prim} {R : ExT}
end Go.Proofs.Mg
