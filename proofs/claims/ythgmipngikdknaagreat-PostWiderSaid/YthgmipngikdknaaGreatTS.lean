import Derived.Test.YthgmipngikdknaaGreatTZ
import Derived.Test.YthgmipngikdknaaGreatChecked
/- The table without rows is right. -/
namespace Go.Proofs
open Go Go.Ev
theorem hmixT:Tryz.prog.follows .mixedOrders = true:=Tryz.checked.mixed
theorem prim0_sound:kK Tryz.prog prim0:=fun _ _ _ _ e=>by cases e
end Go.Proofs
