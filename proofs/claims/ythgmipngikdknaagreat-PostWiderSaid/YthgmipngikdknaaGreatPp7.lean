import Derived.Test.YthgmipngikdknaaGreatPwB
/- Where all orders of one side come first, the best of them, and of these the first, are filled first. Pure. -/
namespace Go.Proofs.Po
set_option linter.unusedSimpArgs false
section
variable {O:List Od} {lf:List Int} {a:Nat} {S:Bool}
end
section
variable {O:List Od} {S:Bool} {l1 x:List Nat}
end
end Go.Proofs.Po
