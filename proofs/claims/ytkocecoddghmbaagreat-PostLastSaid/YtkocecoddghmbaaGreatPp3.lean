import Derived.Test.YtkocecoddghmbaaGreatPp2
/- What the reference does with the same orders (nothing of the program in it). -/
namespace Go.Proofs.Po
open Go Go.Ev
/-! ## The same steps -/
end Go.Proofs.Po
