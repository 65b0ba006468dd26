/- The table without rows is right. -/
import Derived.Test.YtlneoecgbbbahadTZ
import Derived.Test.YtlneoecgbbbahadChecked
namespace Go.Proofs
open Go Go.Ev
theorem hmixT : Try.prog.follows .mixedOrders = true := Try.checked.mixed
theorem prim0_sound : PrimSound Try.prog prim0 := fun _ _ _ _ e => by cases e
end Go.Proofs
