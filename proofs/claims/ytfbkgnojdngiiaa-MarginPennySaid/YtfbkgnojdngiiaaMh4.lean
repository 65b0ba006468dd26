import Derived.Test.YtfbkgnojdngiiaaMh3
/- Whether a truth is one of a bank, by the words of the document. -/
namespace Go.Proofs.Mg
open Go Go.Ev Go.RowKit
set_option linter.unusedSimpArgs false
variable {pr : Prim} {R : ExT}
def pricesB (rs : List R2) (ps : List Int) : Bool := (List.zip rs ps).all fun z => inB z.2 z.1.1 z.1.2
def okT1 (st : Int) (z : PD × PT × Int) : Bool := decide ((z.2.1.2.length : Int) = st) && inB z.2.2 z.1.2.2.1 z.1.2.2.2
def okT (st : Int) (z : PD × PT × Int) : Bool := okT1 st z && pricesB z.1.2.1 z.2.1.2
def truthB (st : Int) (D : List PD) (T : List PT) (rt : List Int) : Bool :=
  decide ((T.length : Int) = (D.length : Int)) && (decide ((rt.length : Int) = (D.length : Int)) && (List.zip D (List.zip T rt)).all (okT st))
end Go.Proofs.Mg
