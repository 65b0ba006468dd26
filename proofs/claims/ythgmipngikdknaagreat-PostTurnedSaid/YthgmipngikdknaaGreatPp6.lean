import Derived.Test.YthgmipngikdknaaGreatPp5
/- One more order, that comes after all others. Pure. -/
namespace Go.Proofs.Po
set_option linter.unusedSimpArgs false
section
variable {O:List Od} {m:Od} {lf lf':List Int}
end
end Go.Proofs.Po
