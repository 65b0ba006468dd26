/-
  No cell of these rows narrows 'for every input' (looked for: loops, veiled, ifaces, maps, wideKeys, modest, calm, conditions, laid).
  DERIVED. THE GIVEN ROWS OF THIS SEAT. 6 by the template 'for every input the law returns true; each argument reads behind the call as it read before'; 0 by the template 'total and deterministic' (their statements: YtfbkgnojdngiiaaTotals.lean).
  GIVEN WITH THE SEED: the statements are not yours to turn. If you find one false, say at which input.
  Laid BY PROGRAM, IN A SANDBOX (cutbox-rows.mjs): the forced cells as the released guide's own fill.sh prints them over the translation 898c9c7eb76f463d… (all of the seat's roots in one cut). By AI agents, Wed Nov 11 2026. No macro, syntax, notation, axiom, sorry.
-/
import Derived.Test.YtfbkgnojdngiiaaChecked
import GoSem.Claim
import GoSem.ClaimJoined
import GoSem.ClaimMapViews
import Derived.JoinedTies
import Derived.KernelRfl
namespace Go.Proofs.Ytfbkgnojdngiiaa
/- THE CELL 'sum', in the pinned program and in every row, IS THE sha256 OF THE DUMP (.gsa) THAT YtfbkgnojdngiiaaProg.lean LOADS. Nothing in Lean hashes anything: it is a label: what it is worth is what the hold of that sum in a sandbox is worth. -/
noncomputable def Try.pinned : Pinned := { name := "ytfbkgnojdngiiaa", sum := "898c9c7eb76f463db84b6f17f7dc2d271aebba7518c6ca8a63d75443c2020cc6", checked := Try.checked }
namespace Rows
def none {H : Type} : Left H := { results := [], args := [] }

/-- 'contangolaw09.MarginParts': WHATEVER THE INPUT: true; the input reads as it did. -/
def marginPartsSpec : ChangeSpec := { name := "marginParts", fn := fun _ => fun
  | [d1, d2] => { results := [.lit (.bool true)], args := [d1, d2] }
  | _ => none }
def marginPartsRow : OpenClaim := { program := "ytfbkgnojdngiiaa", sum := "898c9c7eb76f463db84b6f17f7dc2d271aebba7518c6ca8a63d75443c2020cc6", func := "contango/contangolaw09.MarginParts", spec := "marginParts", unfollowed := true, recurses := true, plainKeys := false, apart := false }
def MarginPartsSaid : Prop := marginPartsRow.holds Try.pinned (OpenSpec.ofChange marginPartsSpec)

/-- ITS FALSE NEIGHBOUR: 'it returns false'. Refute it at one input. -/
def marginPartsWrong : ChangeSpec := { name := "marginParts", fn := fun _ => fun
  | [d1, d2] => { results := [.lit (.bool false)], args := [d1, d2] }
  | _ => none }
def MarginPartsWrongFalsely : Prop := marginPartsRow.holds Try.pinned (OpenSpec.ofChange marginPartsWrong)

/-- 'contangolaw09.MarginDivides': WHATEVER THE INPUT: true; the input reads as it did. -/
def marginDividesSpec : ChangeSpec := { name := "marginDivides", fn := fun _ => fun
  | [d1, d2] => { results := [.lit (.bool true)], args := [d1, d2] }
  | _ => none }
def marginDividesRow : OpenClaim := { program := "ytfbkgnojdngiiaa", sum := "898c9c7eb76f463db84b6f17f7dc2d271aebba7518c6ca8a63d75443c2020cc6", func := "contango/contangolaw09.MarginDivides", spec := "marginDivides", unfollowed := true, recurses := true, plainKeys := false, apart := false }
def MarginDividesSaid : Prop := marginDividesRow.holds Try.pinned (OpenSpec.ofChange marginDividesSpec)

/-- ITS FALSE NEIGHBOUR: 'it returns false'. Refute it at one input. -/
def marginDividesWrong : ChangeSpec := { name := "marginDivides", fn := fun _ => fun
  | [d1, d2] => { results := [.lit (.bool false)], args := [d1, d2] }
  | _ => none }
def MarginDividesWrongFalsely : Prop := marginDividesRow.holds Try.pinned (OpenSpec.ofChange marginDividesWrong)

/-- 'contangolaw09.MarginNames': WHATEVER THE INPUT: true; the input reads as it did. -/
def marginNamesSpec : ChangeSpec := { name := "marginNames", fn := fun _ => fun
  | [] => { results := [.lit (.bool true)], args := [] }
  | _ => none }
def marginNamesRow : OpenClaim := { program := "ytfbkgnojdngiiaa", sum := "898c9c7eb76f463db84b6f17f7dc2d271aebba7518c6ca8a63d75443c2020cc6", func := "contango/contangolaw09.MarginNames", spec := "marginNames", unfollowed := true, recurses := true, plainKeys := false, apart := false }
def MarginNamesSaid : Prop := marginNamesRow.holds Try.pinned (OpenSpec.ofChange marginNamesSpec)

/-- ITS FALSE NEIGHBOUR: 'it returns false'. Refute it at one input. -/
def marginNamesWrong : ChangeSpec := { name := "marginNames", fn := fun _ => fun
  | [] => { results := [.lit (.bool false)], args := [] }
  | _ => none }
def MarginNamesWrongFalsely : Prop := marginNamesRow.holds Try.pinned (OpenSpec.ofChange marginNamesWrong)

/-- 'contangolaw09.MarginPlays': WHATEVER THE INPUT: true; the input reads as it did. -/
def marginPlaysSpec : ChangeSpec := { name := "marginPlays", fn := fun _ => fun
  | [d1, d2] => { results := [.lit (.bool true)], args := [d1, d2] }
  | _ => none }
def marginPlaysRow : OpenClaim := { program := "ytfbkgnojdngiiaa", sum := "898c9c7eb76f463db84b6f17f7dc2d271aebba7518c6ca8a63d75443c2020cc6", func := "contango/contangolaw09.MarginPlays", spec := "marginPlays", unfollowed := true, recurses := true, plainKeys := false, apart := false }
def MarginPlaysSaid : Prop := marginPlaysRow.holds Try.pinned (OpenSpec.ofChange marginPlaysSpec)

/-- ITS FALSE NEIGHBOUR: 'it returns false'. Refute it at one input. -/
def marginPlaysWrong : ChangeSpec := { name := "marginPlays", fn := fun _ => fun
  | [d1, d2] => { results := [.lit (.bool false)], args := [d1, d2] }
  | _ => none }
def MarginPlaysWrongFalsely : Prop := marginPlaysRow.holds Try.pinned (OpenSpec.ofChange marginPlaysWrong)

/-- 'contangolaw09.MarginPenny': WHATEVER THE INPUT: true; the input reads as it did. -/
def marginPennySpec : ChangeSpec := { name := "marginPenny", fn := fun _ => fun
  | [d1, d2, d3, d4] => { results := [.lit (.bool true)], args := [d1, d2, d3, d4] }
  | _ => none }
def marginPennyRow : OpenClaim := { program := "ytfbkgnojdngiiaa", sum := "898c9c7eb76f463db84b6f17f7dc2d271aebba7518c6ca8a63d75443c2020cc6", func := "contango/contangolaw09.MarginPenny", spec := "marginPenny", unfollowed := true, recurses := true, plainKeys := false, apart := false }
def MarginPennySaid : Prop := marginPennyRow.holds Try.pinned (OpenSpec.ofChange marginPennySpec)

/-- ITS FALSE NEIGHBOUR: 'it returns false'. Refute it at one input. -/
def marginPennyWrong : ChangeSpec := { name := "marginPenny", fn := fun _ => fun
  | [d1, d2, d3, d4] => { results := [.lit (.bool false)], args := [d1, d2, d3, d4] }
  | _ => none }
def MarginPennyWrongFalsely : Prop := marginPennyRow.holds Try.pinned (OpenSpec.ofChange marginPennyWrong)

/-- 'contangolaw09.MarginPrices': WHATEVER THE INPUT: true; the input reads as it did. -/
def marginPricesSpec : ChangeSpec := { name := "marginPrices", fn := fun _ => fun
  | [d1, d2, d3, d4] => { results := [.lit (.bool true)], args := [d1, d2, d3, d4] }
  | _ => none }
def marginPricesRow : OpenClaim := { program := "ytfbkgnojdngiiaa", sum := "898c9c7eb76f463db84b6f17f7dc2d271aebba7518c6ca8a63d75443c2020cc6", func := "contango/contangolaw09.MarginPrices", spec := "marginPrices", unfollowed := true, recurses := true, plainKeys := false, apart := false }
def MarginPricesSaid : Prop := marginPricesRow.holds Try.pinned (OpenSpec.ofChange marginPricesSpec)

/-- ITS FALSE NEIGHBOUR: 'it returns false'. Refute it at one input. -/
def marginPricesWrong : ChangeSpec := { name := "marginPrices", fn := fun _ => fun
  | [d1, d2, d3, d4] => { results := [.lit (.bool false)], args := [d1, d2, d3, d4] }
  | _ => none }
def MarginPricesWrongFalsely : Prop := marginPricesRow.holds Try.pinned (OpenSpec.ofChange marginPricesWrong)

/- THE SECOND FORM. 'bulk': how many values and letters a reading holds, each counted each time it is reached (what is shared counts as often as it is met; a slice's spare places count too). A statement '..UptoSaid' is the law's where the arguments, and the package variables that the reading takes, are together of bulk at most 1048576: NARROWER than '..Said'. Prove '..Said' where nothing that the law and all that it calls make is longer than what came in: it says more and counts as full. Else prove '..UptoSaid'. A law counts once. -/
mutual
def uptoBulk {H : Type} : DataW H → Nat
  | .lit (.string bytes) => bytes.length + 1
  | .lit _ => 1
  | .nil => 1
  | .ptr d => uptoBulk d + 1
  | .slice elems spare => uptoBulkAll elems + uptoBulkAll spare + 1
  | .agg parts => uptoBulkAll parts + 1
  | .iface _ d => uptoBulk d + 1
  | .map entries => uptoBulkEntries entries + 1
  | .held _ => 1
def uptoBulkAll {H : Type} : List (DataW H) → Nat
  | [] => 0
  | d :: r => uptoBulk d + uptoBulkAll r
def uptoBulkEntries {H : Type} : List (Lit × DataW H) → Nat
  | [] => 0
  | x :: r => uptoBulkEntry x + uptoBulkEntries r
def uptoBulkEntry {H : Type} : Lit × DataW H → Nat
  | (.string bytes, d) => bytes.length + uptoBulk d + 1
  | (_, d) => uptoBulk d + 1
 end
def uptoSmall : (H : Type) → List (DataW H) → Bool := fun _ ds => decide (uptoBulkAll ds ≤ 1048576)
def OpenSpec.upto (s : _root_.Go.ChangeSpec) : _root_.Go.OpenSpec := { _root_.Go.OpenSpec.ofChange s with cond := some uptoSmall }

/-- 'contangolaw09.MarginParts', WHERE WHAT IT READS IS OF BULK AT MOST 1048576: true; the input reads as it did. -/
def marginPartsUptoRow : OpenClaim := { program := "ytfbkgnojdngiiaa", sum := "898c9c7eb76f463db84b6f17f7dc2d271aebba7518c6ca8a63d75443c2020cc6", func := "contango/contangolaw09.MarginParts", spec := "marginParts", unfollowed := true, recurses := true, plainKeys := false, apart := false, narrowed := true }
def MarginPartsUptoSaid : Prop := marginPartsUptoRow.holds Try.pinned (OpenSpec.upto marginPartsSpec)

/-- 'contangolaw09.MarginDivides', WHERE WHAT IT READS IS OF BULK AT MOST 1048576: true; the input reads as it did. -/
def marginDividesUptoRow : OpenClaim := { program := "ytfbkgnojdngiiaa", sum := "898c9c7eb76f463db84b6f17f7dc2d271aebba7518c6ca8a63d75443c2020cc6", func := "contango/contangolaw09.MarginDivides", spec := "marginDivides", unfollowed := true, recurses := true, plainKeys := false, apart := false, narrowed := true }
def MarginDividesUptoSaid : Prop := marginDividesUptoRow.holds Try.pinned (OpenSpec.upto marginDividesSpec)

/-- 'contangolaw09.MarginNames', WHERE WHAT IT READS IS OF BULK AT MOST 1048576: true; the input reads as it did. -/
def marginNamesUptoRow : OpenClaim := { program := "ytfbkgnojdngiiaa", sum := "898c9c7eb76f463db84b6f17f7dc2d271aebba7518c6ca8a63d75443c2020cc6", func := "contango/contangolaw09.MarginNames", spec := "marginNames", unfollowed := true, recurses := true, plainKeys := false, apart := false, narrowed := true }
def MarginNamesUptoSaid : Prop := marginNamesUptoRow.holds Try.pinned (OpenSpec.upto marginNamesSpec)

/-- 'contangolaw09.MarginPlays', WHERE WHAT IT READS IS OF BULK AT MOST 1048576: true; the input reads as it did. -/
def marginPlaysUptoRow : OpenClaim := { program := "ytfbkgnojdngiiaa", sum := "898c9c7eb76f463db84b6f17f7dc2d271aebba7518c6ca8a63d75443c2020cc6", func := "contango/contangolaw09.MarginPlays", spec := "marginPlays", unfollowed := true, recurses := true, plainKeys := false, apart := false, narrowed := true }
def MarginPlaysUptoSaid : Prop := marginPlaysUptoRow.holds Try.pinned (OpenSpec.upto marginPlaysSpec)

/-- 'contangolaw09.MarginPenny', WHERE WHAT IT READS IS OF BULK AT MOST 1048576: true; the input reads as it did. -/
def marginPennyUptoRow : OpenClaim := { program := "ytfbkgnojdngiiaa", sum := "898c9c7eb76f463db84b6f17f7dc2d271aebba7518c6ca8a63d75443c2020cc6", func := "contango/contangolaw09.MarginPenny", spec := "marginPenny", unfollowed := true, recurses := true, plainKeys := false, apart := false, narrowed := true }
def MarginPennyUptoSaid : Prop := marginPennyUptoRow.holds Try.pinned (OpenSpec.upto marginPennySpec)

/-- 'contangolaw09.MarginPrices', WHERE WHAT IT READS IS OF BULK AT MOST 1048576: true; the input reads as it did. -/
def marginPricesUptoRow : OpenClaim := { program := "ytfbkgnojdngiiaa", sum := "898c9c7eb76f463db84b6f17f7dc2d271aebba7518c6ca8a63d75443c2020cc6", func := "contango/contangolaw09.MarginPrices", spec := "marginPrices", unfollowed := true, recurses := true, plainKeys := false, apart := false, narrowed := true }
def MarginPricesUptoSaid : Prop := marginPricesUptoRow.holds Try.pinned (OpenSpec.upto marginPricesSpec)

end Rows
end Go.Proofs.Ytfbkgnojdngiiaa
