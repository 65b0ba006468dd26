import Derived.Test.YtkocecoddghmbaaGreatPoR
/- What is filled of an order, by the reference. -/
namespace Go.Proofs.Po
open Go Go.Ev Go.RowKit
set_option linter.unusedSimpArgs false
variable {pr : Prim} {R : ExT}
def hitB (s : Sa) (w : Int) : Bool := decide (s.bu = w) || decide (s.se = w)
def fnZ (w : Int) : List Sa → Int
  | [] => 0
  | s :: l => (bif hitB s w then s.nu else 0) + fnZ w l
theorem fnZ_snoc (w : Int) (s : Sa) : ∀ l, fnZ w (l ++ [s]) = fnZ w l + bif hitB s w then s.nu else 0
  | [] => by simp [fnZ]
  | x :: l => by simp only [List.cons_append, fnZ, fnZ_snoc w s l]; omega
end Go.Proofs.Po
