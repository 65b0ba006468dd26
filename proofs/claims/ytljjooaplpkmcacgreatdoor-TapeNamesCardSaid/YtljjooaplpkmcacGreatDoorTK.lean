/- The table with the first examples of the document. -/
import Derived.Test.YtljjooaplpkmcacGreatDoorTJ
namespace Go.Ev
def prim4 : Prim := fun g l h =>
  bif Nat.beq g 16 then (match l with | [] => some (.bool true) | _ => none)
  else prim3 g l h
end Go.Ev
