import Derived.Test.YtllabiheedejoaaGreatPoM
/- The law's helpers; whether a list is a truth, and how orders come, by the reference. -/
namespace Go.Proofs.Po
open Go Go.Ev Go.RowKit
set_option linter.unusedSimpArgs false
variable {pr : Prim} {R : ExT}
section
variable {P : Program} {h : AHeap} {call : CallT} {ops : Array Oper} {n : Nat} {rest : List Oper} {t : T Value} {KR : T Value → AHeap → Bool} {dst : Option Tmp} {v : Value} {l : List Int} {a e : TypeId} {x : Operand}
end

/-! ## Structs of integers, compared -/
/-! ## Whether a list is a truth, by the reference -/
end Go.Proofs.Po
