import Derived.Test.YtfbkgnojdngiiaaMg4
/- The parts, or the error: by the program, and by the words of the document. -/
namespace Go.Proofs.Mg
open Go Go.Ev
set_option linter.unusedSimpArgs false
variable {pr : Prim} {R : ExT}
abbrev nl : Value := .slice none 0 0
theorem tup0 (a b : Value) : (⟨[a, b]⟩ : Array Value)[0]? = some a := rfl
theorem tup1 (a b : Value) : (⟨[a, b]⟩ : Array Value)[1]? = some b := rfl
def okP (l : List Int) (sum : Int) : Bool := monB l && decide (0 < sumL l) && inB sum 0 (sumL l)
end Go.Proofs.Mg
