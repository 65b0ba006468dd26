import Derived.Test.YtkocecoddghmbaaGreatPo5
import Derived.Test.YtkocecoddghmbaaGreatPoL
/- Words, truths picked by them, orders that are ready. -/
namespace Go.Proofs.Po
open Go Go.Ev Go.RowKit
set_option linter.unusedSimpArgs false
section
variable {P : Program} {ops : Array Oper} {n f : Nat} {l : List Info} {done i m : Nat} {hist : List Seen} {t : T Value} {h : AHeap} {KR : T Value → AHeap → Bool} {call : CallT}
end
theorem s8 : sizeB Tryz.prog 5 = some 1 := by kernel_rfl
theorem p8 (c : List Value) (o : Nat) : partL Tryz.prog 5 c o = c[o]? := by kernel_rfl
variable {pr : Prim} {R : ExT}
end Go.Proofs.Po
