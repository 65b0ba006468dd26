import Derived.Test.YtfbkgnojdngiiaaMg7
/- MarginDivides: what the parts of any sum have. -/
namespace Go.Proofs.Mg
open Go Go.Ev
set_option linter.unusedSimpArgs false
variable {pr : Prim} {R : ExT}
theorem getD_lt {l : List Int} {k : Nat} (hk : k < l.length) : l.getD k 0 = l[k] := by rw [List.getD_eq_getElem?_getD, List.getElem?_eq_getElem hk]; rfl
end Go.Proofs.Mg
