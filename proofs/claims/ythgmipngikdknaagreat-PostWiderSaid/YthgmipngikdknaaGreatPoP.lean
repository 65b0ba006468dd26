import Derived.Test.YthgmipngikdknaaGreatPoO
import Derived.Test.YthgmipngikdknaaGreatPwA
/- The sales of a truth, by the reference. -/
namespace Go.Proofs.Po
open Go Go.Ev Go.RowKit
set_option linter.unusedSimpArgs false
variable {pr:Prim} {R:ExT}
theorem tf (b:Bool):b = true ∨ b = false:=by cases b<;>simp
end Go.Proofs.Po
