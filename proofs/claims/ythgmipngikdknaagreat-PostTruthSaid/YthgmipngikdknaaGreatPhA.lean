import Derived.Test.YthgmipngikdknaaGreatPoN
import Derived.Test.YthgmipngikdknaaGreatPoS
import Derived.Test.YthgmipngikdknaaGreatPwB
import Derived.Test.YthgmipngikdknaaGreatEvE
/- Copies onto which can be appended; structs compared in the program's regions that draw their order. -/
namespace Go.Proofs.Po
open Go Go.Ev Go.RowKit
set_option linter.unusedSimpArgs false
variable {pr:Prim} {R:ExT}
section
variable {P:Program} {h:AHeap} {call:CallT} {ops:Array Oper} {n:Nat} {rest:List Oper} {t:T Value} {KR:T Value → AHeap → Bool} {dst:Option Tmp} {v:Value} {l:List Int} {a e:TypeId} {x:Operand}
end
section
variable {P:Program} {n:Nat} {t:T Value} {h:AHeap} {ops:Array Oper} {call:CallT} {fl:Nat} {ids:List (Nat × Nat)} {f:Nat} {l:List Info} {i m done:Nat} {hist:List Seen} {KR:T Value → AHeap → Bool} {ty:TypeId} {pos:String} {af:Array Edge} {g:Option (Nat × Bool)} {d:Tmp}
end
theorem kSaC:lH Tryz.prog 73 = some 4:=by kernel_rfl
end Go.Proofs.Po
