import Derived.Test.YthgmipngikdknaaGreatEvD
/- A table without rows, and one with the first examples of the document. -/
namespace Go.Ev
def prim0:Prim:=fun _ _ _=>none
def prim1:Prim:=fun g l _=>bif Nat.beq g 11 then (match l with|[]=>some (.bool true)|_=>none) else none
end Go.Ev
