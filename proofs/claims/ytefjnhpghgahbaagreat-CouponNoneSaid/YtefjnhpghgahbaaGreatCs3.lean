import Derived.Test.YtefjnhpghgahbaaGreatCs2
import Derived.Test.YtefjnhpghgahbaaGreatCn8
/- CouponWhole: what each house has registered, in shares and units, is as the document says. -/
namespace Go.Proofs.Cp
open Go Go.Ev Go.RowKit
set_option linter.unusedSimpArgs false

theorem prU2 (x y:Value):partL Tryz.prog 36 [x,y] 0 = some (.agg ⟨[x,y]⟩):=part_0 (l:=[x,y]) prU rfl
variable {pr:Prim} {R:ExT}
end Go.Proofs.Cp
