import Derived.Test.YthgmipngikdknaaGreatPrD
/- What is filled of an order, by the reference. -/
namespace Go.Proofs.Po
open Go Go.Ev Go.RowKit
set_option linter.unusedSimpArgs false
variable {pr:Prim} {R:ExT}
def hitB (s:Sa) (w:Int):Bool:=decide (s.bu = w) || decide (s.se = w)
def fnZ (w:Int):List Sa → Int
 | []=>0
 | s :: l=>(bif hitB s w then s.nu else 0) + fnZ w l
theorem fnZ_snoc (w:Int) (s:Sa):∀ l,fnZ w (l ++ [s]) = fnZ w l + bif hitB s w then s.nu else 0
 | []=>by simp [fnZ]
 | x :: l=>by simp only [List.cons_append,fnZ,fnZ_snoc w s l]; omega
/-- Sales of use: their numbers and prices are small. -/
structure SaOk (s:Sa):Prop where
 n0:0 ≤ s.nu
 n1:s.nu ≤ 20
 p0:0 ≤ s.pr
 p1:s.pr ≤ 100
theorem sa_mul {s:Sa} (h:SaOk s):0 ≤ s.nu * s.pr ∧ s.nu * s.pr ≤ 2000:=by
 refine ⟨Int.mul_nonneg h.n0 h.p0,?_⟩
 have h1:=Int.mul_le_mul_of_nonneg_right h.n1 h.p0
 have:=h.p1
 omega
end Go.Proofs.Po
