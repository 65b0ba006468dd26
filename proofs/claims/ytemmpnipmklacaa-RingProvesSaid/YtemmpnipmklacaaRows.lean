/-
  No cell of these rows narrows 'for every input' (looked for: loops, veiled, ifaces, maps, wideKeys, modest, calm, conditions, laid).
  DERIVED. THE GIVEN ROWS OF THIS SEAT. 5 by the template 'for every input the law returns true; each argument reads behind the call as it read before'; 0 by the template 'total and deterministic' (their statements: YtemmpnipmklacaaTotals.lean).
  GIVEN WITH THE SEED: the statements are not yours to turn. If you find one false, say at which input.
  Laid BY PROGRAM, IN A SANDBOX (cutbox-rows.mjs): the forced cells as the released guide's own fill.sh prints them over the translation 12c96bbf0436f508… (all of the seat's roots in one cut). By AI agents, Wed Nov 11 2026. No macro, syntax, notation, axiom, sorry.
-/
import Derived.Test.YtemmpnipmklacaaChecked
import GoSem.Claim
import GoSem.ClaimJoined
import GoSem.ClaimMapViews
import Derived.JoinedTies
import Derived.KernelRfl
namespace Go.Proofs.Ytemmpnipmklacaa
/- THE CELL 'sum', in the pinned program and in every row, IS THE sha256 OF THE DUMP (.gsa) THAT YtemmpnipmklacaaProg.lean LOADS. Nothing in Lean hashes anything: it is a label: what it is worth is what the hold of that sum in a sandbox is worth. -/
noncomputable def Try.pinned : Pinned := { name := "ytemmpnipmklacaa", sum := "12c96bbf0436f508b7025acb19a7370f3c1f876ab0804e43cec9ecb6238c9d59", checked := Try.checked }
namespace Rows
def none {H : Type} : Left H := { results := [], args := [] }

/-- 'contangolaw06.RingMoney': WHATEVER THE INPUT: true; the input reads as it did. -/
def ringMoneySpec : ChangeSpec := { name := "ringMoney", fn := fun _ => fun
  | [d1, d2, d3] => { results := [.lit (.bool true)], args := [d1, d2, d3] }
  | _ => none }
def ringMoneyRow : OpenClaim := { program := "ytemmpnipmklacaa", sum := "12c96bbf0436f508b7025acb19a7370f3c1f876ab0804e43cec9ecb6238c9d59", func := "contango/contangolaw06.RingMoney", spec := "ringMoney", unfollowed := true, recurses := true, plainKeys := false, apart := false }
def RingMoneySaid : Prop := ringMoneyRow.holds Try.pinned (OpenSpec.ofChange ringMoneySpec)

/-- ITS FALSE NEIGHBOUR: 'it returns false'. Refute it at one input. -/
def ringMoneyWrong : ChangeSpec := { name := "ringMoney", fn := fun _ => fun
  | [d1, d2, d3] => { results := [.lit (.bool false)], args := [d1, d2, d3] }
  | _ => none }
def RingMoneyWrongFalsely : Prop := ringMoneyRow.holds Try.pinned (OpenSpec.ofChange ringMoneyWrong)

/-- 'contangolaw06.RingPenny': WHATEVER THE INPUT: true; the input reads as it did. -/
def ringPennySpec : ChangeSpec := { name := "ringPenny", fn := fun _ => fun
  | [d1, d2, d3, d4] => { results := [.lit (.bool true)], args := [d1, d2, d3, d4] }
  | _ => none }
def ringPennyRow : OpenClaim := { program := "ytemmpnipmklacaa", sum := "12c96bbf0436f508b7025acb19a7370f3c1f876ab0804e43cec9ecb6238c9d59", func := "contango/contangolaw06.RingPenny", spec := "ringPenny", unfollowed := true, recurses := true, plainKeys := false, apart := false }
def RingPennySaid : Prop := ringPennyRow.holds Try.pinned (OpenSpec.ofChange ringPennySpec)

/-- ITS FALSE NEIGHBOUR: 'it returns false'. Refute it at one input. -/
def ringPennyWrong : ChangeSpec := { name := "ringPenny", fn := fun _ => fun
  | [d1, d2, d3, d4] => { results := [.lit (.bool false)], args := [d1, d2, d3, d4] }
  | _ => none }
def RingPennyWrongFalsely : Prop := ringPennyRow.holds Try.pinned (OpenSpec.ofChange ringPennyWrong)

/-- 'contangolaw06.RingCosts': WHATEVER THE INPUT: true; the input reads as it did. -/
def ringCostsSpec : ChangeSpec := { name := "ringCosts", fn := fun _ => fun
  | [d1, d2, d3, d4] => { results := [.lit (.bool true)], args := [d1, d2, d3, d4] }
  | _ => none }
def ringCostsRow : OpenClaim := { program := "ytemmpnipmklacaa", sum := "12c96bbf0436f508b7025acb19a7370f3c1f876ab0804e43cec9ecb6238c9d59", func := "contango/contangolaw06.RingCosts", spec := "ringCosts", unfollowed := true, recurses := true, plainKeys := false, apart := false }
def RingCostsSaid : Prop := ringCostsRow.holds Try.pinned (OpenSpec.ofChange ringCostsSpec)

/-- ITS FALSE NEIGHBOUR: 'it returns false'. Refute it at one input. -/
def ringCostsWrong : ChangeSpec := { name := "ringCosts", fn := fun _ => fun
  | [d1, d2, d3, d4] => { results := [.lit (.bool false)], args := [d1, d2, d3, d4] }
  | _ => none }
def RingCostsWrongFalsely : Prop := ringCostsRow.holds Try.pinned (OpenSpec.ofChange ringCostsWrong)

/-- 'contangolaw06.RingProves': WHATEVER THE INPUT: true; the input reads as it did. -/
def ringProvesSpec : ChangeSpec := { name := "ringProves", fn := fun _ => fun
  | [d1, d2, d3, d4, d5, d6] => { results := [.lit (.bool true)], args := [d1, d2, d3, d4, d5, d6] }
  | _ => none }
def ringProvesRow : OpenClaim := { program := "ytemmpnipmklacaa", sum := "12c96bbf0436f508b7025acb19a7370f3c1f876ab0804e43cec9ecb6238c9d59", func := "contango/contangolaw06.RingProves", spec := "ringProves", unfollowed := true, recurses := true, plainKeys := false, apart := false }
def RingProvesSaid : Prop := ringProvesRow.holds Try.pinned (OpenSpec.ofChange ringProvesSpec)

/-- ITS FALSE NEIGHBOUR: 'it returns false'. Refute it at one input. -/
def ringProvesWrong : ChangeSpec := { name := "ringProves", fn := fun _ => fun
  | [d1, d2, d3, d4, d5, d6] => { results := [.lit (.bool false)], args := [d1, d2, d3, d4, d5, d6] }
  | _ => none }
def RingProvesWrongFalsely : Prop := ringProvesRow.holds Try.pinned (OpenSpec.ofChange ringProvesWrong)

/-- 'contangolaw06.RingNames': WHATEVER THE INPUT: true; the input reads as it did. -/
def ringNamesSpec : ChangeSpec := { name := "ringNames", fn := fun _ => fun
  | [] => { results := [.lit (.bool true)], args := [] }
  | _ => none }
def ringNamesRow : OpenClaim := { program := "ytemmpnipmklacaa", sum := "12c96bbf0436f508b7025acb19a7370f3c1f876ab0804e43cec9ecb6238c9d59", func := "contango/contangolaw06.RingNames", spec := "ringNames", unfollowed := true, recurses := true, plainKeys := false, apart := false }
def RingNamesSaid : Prop := ringNamesRow.holds Try.pinned (OpenSpec.ofChange ringNamesSpec)

/-- ITS FALSE NEIGHBOUR: 'it returns false'. Refute it at one input. -/
def ringNamesWrong : ChangeSpec := { name := "ringNames", fn := fun _ => fun
  | [] => { results := [.lit (.bool false)], args := [] }
  | _ => none }
def RingNamesWrongFalsely : Prop := ringNamesRow.holds Try.pinned (OpenSpec.ofChange ringNamesWrong)

/- THE SECOND FORM. 'bulk': how many values and letters a reading holds, each counted each time it is reached (what is shared counts as often as it is met; a slice's spare places count too). A statement '..UptoSaid' is the law's where the arguments, and the package variables that the reading takes, are together of bulk at most 1048576: NARROWER than '..Said'. Prove '..Said' where nothing that the law and all that it calls make is longer than what came in: it says more and counts as full. Else prove '..UptoSaid'. A law counts once. -/
mutual
def uptoBulk {H : Type} : DataW H → Nat
  | .lit (.string bytes) => bytes.length + 1
  | .lit _ => 1
  | .nil => 1
  | .ptr d => uptoBulk d + 1
  | .slice elems spare => uptoBulkAll elems + uptoBulkAll spare + 1
  | .agg parts => uptoBulkAll parts + 1
  | .iface _ d => uptoBulk d + 1
  | .map entries => uptoBulkEntries entries + 1
  | .held _ => 1
def uptoBulkAll {H : Type} : List (DataW H) → Nat
  | [] => 0
  | d :: r => uptoBulk d + uptoBulkAll r
def uptoBulkEntries {H : Type} : List (Lit × DataW H) → Nat
  | [] => 0
  | x :: r => uptoBulkEntry x + uptoBulkEntries r
def uptoBulkEntry {H : Type} : Lit × DataW H → Nat
  | (.string bytes, d) => bytes.length + uptoBulk d + 1
  | (_, d) => uptoBulk d + 1
 end
def uptoSmall : (H : Type) → List (DataW H) → Bool := fun _ ds => decide (uptoBulkAll ds ≤ 1048576)
def OpenSpec.upto (s : _root_.Go.ChangeSpec) : _root_.Go.OpenSpec := { _root_.Go.OpenSpec.ofChange s with cond := some uptoSmall }

/-- 'contangolaw06.RingMoney', WHERE WHAT IT READS IS OF BULK AT MOST 1048576: true; the input reads as it did. -/
def ringMoneyUptoRow : OpenClaim := { program := "ytemmpnipmklacaa", sum := "12c96bbf0436f508b7025acb19a7370f3c1f876ab0804e43cec9ecb6238c9d59", func := "contango/contangolaw06.RingMoney", spec := "ringMoney", unfollowed := true, recurses := true, plainKeys := false, apart := false, narrowed := true }
def RingMoneyUptoSaid : Prop := ringMoneyUptoRow.holds Try.pinned (OpenSpec.upto ringMoneySpec)

/-- 'contangolaw06.RingPenny', WHERE WHAT IT READS IS OF BULK AT MOST 1048576: true; the input reads as it did. -/
def ringPennyUptoRow : OpenClaim := { program := "ytemmpnipmklacaa", sum := "12c96bbf0436f508b7025acb19a7370f3c1f876ab0804e43cec9ecb6238c9d59", func := "contango/contangolaw06.RingPenny", spec := "ringPenny", unfollowed := true, recurses := true, plainKeys := false, apart := false, narrowed := true }
def RingPennyUptoSaid : Prop := ringPennyUptoRow.holds Try.pinned (OpenSpec.upto ringPennySpec)

/-- 'contangolaw06.RingCosts', WHERE WHAT IT READS IS OF BULK AT MOST 1048576: true; the input reads as it did. -/
def ringCostsUptoRow : OpenClaim := { program := "ytemmpnipmklacaa", sum := "12c96bbf0436f508b7025acb19a7370f3c1f876ab0804e43cec9ecb6238c9d59", func := "contango/contangolaw06.RingCosts", spec := "ringCosts", unfollowed := true, recurses := true, plainKeys := false, apart := false, narrowed := true }
def RingCostsUptoSaid : Prop := ringCostsUptoRow.holds Try.pinned (OpenSpec.upto ringCostsSpec)

/-- 'contangolaw06.RingProves', WHERE WHAT IT READS IS OF BULK AT MOST 1048576: true; the input reads as it did. -/
def ringProvesUptoRow : OpenClaim := { program := "ytemmpnipmklacaa", sum := "12c96bbf0436f508b7025acb19a7370f3c1f876ab0804e43cec9ecb6238c9d59", func := "contango/contangolaw06.RingProves", spec := "ringProves", unfollowed := true, recurses := true, plainKeys := false, apart := false, narrowed := true }
def RingProvesUptoSaid : Prop := ringProvesUptoRow.holds Try.pinned (OpenSpec.upto ringProvesSpec)

/-- 'contangolaw06.RingNames', WHERE WHAT IT READS IS OF BULK AT MOST 1048576: true; the input reads as it did. -/
def ringNamesUptoRow : OpenClaim := { program := "ytemmpnipmklacaa", sum := "12c96bbf0436f508b7025acb19a7370f3c1f876ab0804e43cec9ecb6238c9d59", func := "contango/contangolaw06.RingNames", spec := "ringNames", unfollowed := true, recurses := true, plainKeys := false, apart := false, narrowed := true }
def RingNamesUptoSaid : Prop := ringNamesUptoRow.holds Try.pinned (OpenSpec.upto ringNamesSpec)

end Rows
end Go.Proofs.Ytemmpnipmklacaa
