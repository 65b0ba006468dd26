import Derived.Test.YthgmipngikdknaaGreatPo6
/- The offer at a price; the opening price. -/
namespace Go.Proofs.Po
open Go Go.Ev Go.RowKit
set_option linter.unusedSimpArgs false
variable {pr:Prim} {R:ExT}
/-- An offer: the price, what is bought, what is sold. -/
abbrev I3:=Int × Int × Int
def c3 (x:I3):List Value:=[iv x.1,iv x.2.1,iv x.2.2]
/-! ## An offer -/
end Go.Proofs.Po

/- The opening price, by the program. -/
namespace Go.Proofs.Po
open Go Go.Ev Go.RowKit
set_option linter.unusedSimpArgs false
variable {pr:Prim} {R:ExT}
/-! ## The best offer -/
/-! ## Open -/
end Go.Proofs.Po

/- The opening price, by the reference; PostOpens. -/
namespace Go.Proofs.Po
open Go Go.Ev Go.RowKit
set_option linter.unusedSimpArgs false
variable {pr:Prim} {R:ExT}
/-! ## The best price -/
end Go.Proofs.Po
