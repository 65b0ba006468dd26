/-
  No cell of these rows narrows 'for every input' (looked for: loops, veiled, ifaces, maps, wideKeys, modest, calm, conditions, laid).
  DERIVED. THE GIVEN ROWS OF THIS SEAT. 3 by the template 'for every input the law returns true; each argument reads behind the call as it read before'; 0 by the template 'total and deterministic' (their statements: YtefjnhpghgahbaaGreatTotals.lean).
  GIVEN WITH THE SEED: the statements are not yours to turn. If you find one false, say at which input.
  Laid BY PROGRAM, IN A SANDBOX (cutbox-rows.mjs): the forced cells as the released guide's own fill.sh prints them over the translation fc288b16ec04d433… (all of the seat's roots in one cut). By AI agents, Wed Nov 11 2026. No macro, syntax, notation, axiom, sorry.
-/
import Derived.Test.YtefjnhpghgahbaaGreatChecked
import GoSem.Claim
import GoSem.ClaimJoined
import GoSem.ClaimMapViews
import Derived.JoinedTies
import Derived.KernelRfl
namespace Go.Proofs.YtefjnhpghgahbaaGreat
/- THE CELL 'sum', in the pinned program and in every row, IS THE sha256 OF THE DUMP (.gsa) THAT YtefjnhpghgahbaaGreatProg.lean LOADS. Nothing in Lean hashes anything: it is a label: what it is worth is what the hold of that sum in a sandbox is worth. -/
noncomputable def Tryz.pinned : Pinned := { name := "ytefjnhpghgahbaagreat", sum := "fc288b16ec04d433302fd018c96e7e16c7f78c9067e074fcdd7468b9049d39bb", checked := Tryz.checked }
namespace Rows
def none {H : Type} : Left H := { results := [], args := [] }

/-- 'contangolaw07.CouponClosed': WHATEVER THE INPUT: true; the input reads as it did. -/
def couponClosedSpec : ChangeSpec := { name := "couponClosed", fn := fun _ => fun
  | [d1, d2, d3, d4, d5] => { results := [.lit (.bool true)], args := [d1, d2, d3, d4, d5] }
  | _ => none }
def couponClosedRow : OpenClaim := { program := "ytefjnhpghgahbaagreat", sum := "fc288b16ec04d433302fd018c96e7e16c7f78c9067e074fcdd7468b9049d39bb", func := "contango/contangolaw07.CouponClosed", spec := "couponClosed", unfollowed := true, recurses := true, plainKeys := false, apart := false }
def CouponClosedSaid : Prop := couponClosedRow.holds Tryz.pinned (OpenSpec.ofChange couponClosedSpec)

/-- ITS FALSE NEIGHBOUR: 'it returns false'. Refute it at one input. -/
def couponClosedWrong : ChangeSpec := { name := "couponClosed", fn := fun _ => fun
  | [d1, d2, d3, d4, d5] => { results := [.lit (.bool false)], args := [d1, d2, d3, d4, d5] }
  | _ => none }
def CouponClosedWrongFalsely : Prop := couponClosedRow.holds Tryz.pinned (OpenSpec.ofChange couponClosedWrong)

/-- 'contangolaw07.CouponUnits': WHATEVER THE INPUT: true; the input reads as it did. -/
def couponUnitsSpec : ChangeSpec := { name := "couponUnits", fn := fun _ => fun
  | [d1, d2, d3, d4, d5, d6] => { results := [.lit (.bool true)], args := [d1, d2, d3, d4, d5, d6] }
  | _ => none }
def couponUnitsRow : OpenClaim := { program := "ytefjnhpghgahbaagreat", sum := "fc288b16ec04d433302fd018c96e7e16c7f78c9067e074fcdd7468b9049d39bb", func := "contango/contangolaw07.CouponUnits", spec := "couponUnits", unfollowed := true, recurses := true, plainKeys := false, apart := false }
def CouponUnitsSaid : Prop := couponUnitsRow.holds Tryz.pinned (OpenSpec.ofChange couponUnitsSpec)

/-- ITS FALSE NEIGHBOUR: 'it returns false'. Refute it at one input. -/
def couponUnitsWrong : ChangeSpec := { name := "couponUnits", fn := fun _ => fun
  | [d1, d2, d3, d4, d5, d6] => { results := [.lit (.bool false)], args := [d1, d2, d3, d4, d5, d6] }
  | _ => none }
def CouponUnitsWrongFalsely : Prop := couponUnitsRow.holds Tryz.pinned (OpenSpec.ofChange couponUnitsWrong)

/-- 'contangolaw07.CouponNone': WHATEVER THE INPUT: true; the input reads as it did. -/
def couponNoneSpec : ChangeSpec := { name := "couponNone", fn := fun _ => fun
  | [d1, d2, d3, d4] => { results := [.lit (.bool true)], args := [d1, d2, d3, d4] }
  | _ => none }
def couponNoneRow : OpenClaim := { program := "ytefjnhpghgahbaagreat", sum := "fc288b16ec04d433302fd018c96e7e16c7f78c9067e074fcdd7468b9049d39bb", func := "contango/contangolaw07.CouponNone", spec := "couponNone", unfollowed := true, recurses := true, plainKeys := false, apart := false }
def CouponNoneSaid : Prop := couponNoneRow.holds Tryz.pinned (OpenSpec.ofChange couponNoneSpec)

/-- ITS FALSE NEIGHBOUR: 'it returns false'. Refute it at one input. -/
def couponNoneWrong : ChangeSpec := { name := "couponNone", fn := fun _ => fun
  | [d1, d2, d3, d4] => { results := [.lit (.bool false)], args := [d1, d2, d3, d4] }
  | _ => none }
def CouponNoneWrongFalsely : Prop := couponNoneRow.holds Tryz.pinned (OpenSpec.ofChange couponNoneWrong)

/- THE SECOND FORM. 'bulk': how many values and letters a reading holds, each counted each time it is reached (what is shared counts as often as it is met; a slice's spare places count too). A statement '..UptoSaid' is the law's where the arguments, and the package variables that the reading takes, are together of bulk at most 1048576: NARROWER than '..Said'. Prove '..Said' where nothing that the law and all that it calls make is longer than what came in: it says more and counts as full. Else prove '..UptoSaid'. A law counts once. -/
mutual
def uptoBulk {H : Type} : DataW H → Nat
  | .lit (.string bytes) => bytes.length + 1
  | .lit _ => 1
  | .nil => 1
  | .ptr d => uptoBulk d + 1
  | .slice elems spare => uptoBulkAll elems + uptoBulkAll spare + 1
  | .agg parts => uptoBulkAll parts + 1
  | .iface _ d => uptoBulk d + 1
  | .map entries => uptoBulkEntries entries + 1
  | .held _ => 1
def uptoBulkAll {H : Type} : List (DataW H) → Nat
  | [] => 0
  | d :: r => uptoBulk d + uptoBulkAll r
def uptoBulkEntries {H : Type} : List (Lit × DataW H) → Nat
  | [] => 0
  | x :: r => uptoBulkEntry x + uptoBulkEntries r
def uptoBulkEntry {H : Type} : Lit × DataW H → Nat
  | (.string bytes, d) => bytes.length + uptoBulk d + 1
  | (_, d) => uptoBulk d + 1
 end
def uptoSmall : (H : Type) → List (DataW H) → Bool := fun _ ds => decide (uptoBulkAll ds ≤ 1048576)
def OpenSpec.upto (s : _root_.Go.ChangeSpec) : _root_.Go.OpenSpec := { _root_.Go.OpenSpec.ofChange s with cond := some uptoSmall }

/-- 'contangolaw07.CouponClosed', WHERE WHAT IT READS IS OF BULK AT MOST 1048576: true; the input reads as it did. -/
def couponClosedUptoRow : OpenClaim := { program := "ytefjnhpghgahbaagreat", sum := "fc288b16ec04d433302fd018c96e7e16c7f78c9067e074fcdd7468b9049d39bb", func := "contango/contangolaw07.CouponClosed", spec := "couponClosed", unfollowed := true, recurses := true, plainKeys := false, apart := false, narrowed := true }
def CouponClosedUptoSaid : Prop := couponClosedUptoRow.holds Tryz.pinned (OpenSpec.upto couponClosedSpec)

/-- 'contangolaw07.CouponUnits', WHERE WHAT IT READS IS OF BULK AT MOST 1048576: true; the input reads as it did. -/
def couponUnitsUptoRow : OpenClaim := { program := "ytefjnhpghgahbaagreat", sum := "fc288b16ec04d433302fd018c96e7e16c7f78c9067e074fcdd7468b9049d39bb", func := "contango/contangolaw07.CouponUnits", spec := "couponUnits", unfollowed := true, recurses := true, plainKeys := false, apart := false, narrowed := true }
def CouponUnitsUptoSaid : Prop := couponUnitsUptoRow.holds Tryz.pinned (OpenSpec.upto couponUnitsSpec)

/-- 'contangolaw07.CouponNone', WHERE WHAT IT READS IS OF BULK AT MOST 1048576: true; the input reads as it did. -/
def couponNoneUptoRow : OpenClaim := { program := "ytefjnhpghgahbaagreat", sum := "fc288b16ec04d433302fd018c96e7e16c7f78c9067e074fcdd7468b9049d39bb", func := "contango/contangolaw07.CouponNone", spec := "couponNone", unfollowed := true, recurses := true, plainKeys := false, apart := false, narrowed := true }
def CouponNoneUptoSaid : Prop := couponNoneUptoRow.holds Tryz.pinned (OpenSpec.upto couponNoneSpec)

end Rows
end Go.Proofs.YtefjnhpghgahbaaGreat
