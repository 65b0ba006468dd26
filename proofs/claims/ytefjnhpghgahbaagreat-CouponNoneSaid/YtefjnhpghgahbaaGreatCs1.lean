import Derived.Test.YtefjnhpghgahbaaGreatCr2
import Derived.Test.YtefjnhpghgahbaaGreatEvD
/- Two lists of ints that grow beside each other; a slice of an array. -/
namespace Go.Ev
open Go.RowKit
section
variable {P:Program} {n:Nat} {t:T Value} {h:AHeap} {ops:Array Oper} {call:CallT} {dst:Option Tmp} {rest:List Oper} {KR:T Value → AHeap → Bool}
end
section
variable {lo:Nat} {h h':AHeap} {xs ys:List (List Value)} {xv yv xv':Value} {F1 F2 F1':Nat} {c:List Value}
end
end Go.Ev
namespace Go.Proofs.Cp
open Go Go.Ev
end Go.Proofs.Cp
