/-
  No cell of these rows narrows 'for every input' (looked for: loops, veiled, ifaces, maps, wideKeys, modest, calm, conditions, laid).
  DERIVED. THE GIVEN ROWS OF THIS SEAT. 5 by the template 'for every input the law returns true; each argument reads behind the call as it read before'; 0 by the template 'total and deterministic' (their statements: YtbhflnhkmhmolaaGreatTotals.lean).
  GIVEN WITH THE SEED: the statements are not yours to turn. If you find one false, say at which input.
  Laid BY PROGRAM, IN A SANDBOX (cutbox-rows.mjs): the forced cells as the released guide's own fill.sh prints them over the translation 87845f3ff7f353b1… (all of the seat's roots in one cut). By AI agents, Wed Nov 11 2026. No macro, syntax, notation, axiom, sorry.
-/
import Derived.Test.YtbhflnhkmhmolaaGreatChecked
import GoSem.Claim
import GoSem.ClaimJoined
import GoSem.ClaimMapViews
import Derived.JoinedTies
import Derived.KernelRfl
namespace Go.Proofs.YtbhflnhkmhmolaaGreat
/- THE CELL 'sum', in the pinned program and in every row, IS THE sha256 OF THE DUMP (.gsa) THAT YtbhflnhkmhmolaaGreatProg.lean LOADS. Nothing in Lean hashes anything: it is a label: what it is worth is what the hold of that sum in a sandbox is worth. -/
noncomputable def Tryz.pinned : Pinned := { name := "ytbhflnhkmhmolaagreat", sum := "87845f3ff7f353b1d46618411b09b29572f330030e830c65a2c4a6c8296ee5f4", checked := Tryz.checked }
namespace Rows
def none {H : Type} : Left H := { results := [], args := [] }

/-- 'contangolaw07.CouponRegisters': WHATEVER THE INPUT: true; the input reads as it did. -/
def couponRegistersSpec : ChangeSpec := { name := "couponRegisters", fn := fun _ => fun
  | [d1, d2, d3] => { results := [.lit (.bool true)], args := [d1, d2, d3] }
  | _ => none }
def couponRegistersRow : OpenClaim := { program := "ytbhflnhkmhmolaagreat", sum := "87845f3ff7f353b1d46618411b09b29572f330030e830c65a2c4a6c8296ee5f4", func := "contango/contangolaw07.CouponRegisters", spec := "couponRegisters", unfollowed := true, recurses := true, plainKeys := false, apart := false }
def CouponRegistersSaid : Prop := couponRegistersRow.holds Tryz.pinned (OpenSpec.ofChange couponRegistersSpec)

/-- ITS FALSE NEIGHBOUR: 'it returns false'. Refute it at one input. -/
def couponRegistersWrong : ChangeSpec := { name := "couponRegisters", fn := fun _ => fun
  | [d1, d2, d3] => { results := [.lit (.bool false)], args := [d1, d2, d3] }
  | _ => none }
def CouponRegistersWrongFalsely : Prop := couponRegistersRow.holds Tryz.pinned (OpenSpec.ofChange couponRegistersWrong)

/-- 'contangolaw07.CouponWhole': WHATEVER THE INPUT: true; the input reads as it did. -/
def couponWholeSpec : ChangeSpec := { name := "couponWhole", fn := fun _ => fun
  | [d1, d2, d3] => { results := [.lit (.bool true)], args := [d1, d2, d3] }
  | _ => none }
def couponWholeRow : OpenClaim := { program := "ytbhflnhkmhmolaagreat", sum := "87845f3ff7f353b1d46618411b09b29572f330030e830c65a2c4a6c8296ee5f4", func := "contango/contangolaw07.CouponWhole", spec := "couponWhole", unfollowed := true, recurses := true, plainKeys := false, apart := false }
def CouponWholeSaid : Prop := couponWholeRow.holds Tryz.pinned (OpenSpec.ofChange couponWholeSpec)

/-- ITS FALSE NEIGHBOUR: 'it returns false'. Refute it at one input. -/
def couponWholeWrong : ChangeSpec := { name := "couponWhole", fn := fun _ => fun
  | [d1, d2, d3] => { results := [.lit (.bool false)], args := [d1, d2, d3] }
  | _ => none }
def CouponWholeWrongFalsely : Prop := couponWholeRow.holds Tryz.pinned (OpenSpec.ofChange couponWholeWrong)

/-- 'contangolaw07.CouponPays': WHATEVER THE INPUT: true; the input reads as it did. -/
def couponPaysSpec : ChangeSpec := { name := "couponPays", fn := fun _ => fun
  | [d1, d2, d3] => { results := [.lit (.bool true)], args := [d1, d2, d3] }
  | _ => none }
def couponPaysRow : OpenClaim := { program := "ytbhflnhkmhmolaagreat", sum := "87845f3ff7f353b1d46618411b09b29572f330030e830c65a2c4a6c8296ee5f4", func := "contango/contangolaw07.CouponPays", spec := "couponPays", unfollowed := true, recurses := true, plainKeys := false, apart := false }
def CouponPaysSaid : Prop := couponPaysRow.holds Tryz.pinned (OpenSpec.ofChange couponPaysSpec)

/-- ITS FALSE NEIGHBOUR: 'it returns false'. Refute it at one input. -/
def couponPaysWrong : ChangeSpec := { name := "couponPays", fn := fun _ => fun
  | [d1, d2, d3] => { results := [.lit (.bool false)], args := [d1, d2, d3] }
  | _ => none }
def CouponPaysWrongFalsely : Prop := couponPaysRow.holds Tryz.pinned (OpenSpec.ofChange couponPaysWrong)

/-- 'contangolaw07.CouponNames': WHATEVER THE INPUT: true; the input reads as it did. -/
def couponNamesSpec : ChangeSpec := { name := "couponNames", fn := fun _ => fun
  | [] => { results := [.lit (.bool true)], args := [] }
  | _ => none }
def couponNamesRow : OpenClaim := { program := "ytbhflnhkmhmolaagreat", sum := "87845f3ff7f353b1d46618411b09b29572f330030e830c65a2c4a6c8296ee5f4", func := "contango/contangolaw07.CouponNames", spec := "couponNames", unfollowed := true, recurses := true, plainKeys := false, apart := false }
def CouponNamesSaid : Prop := couponNamesRow.holds Tryz.pinned (OpenSpec.ofChange couponNamesSpec)

/-- ITS FALSE NEIGHBOUR: 'it returns false'. Refute it at one input. -/
def couponNamesWrong : ChangeSpec := { name := "couponNames", fn := fun _ => fun
  | [] => { results := [.lit (.bool false)], args := [] }
  | _ => none }
def CouponNamesWrongFalsely : Prop := couponNamesRow.holds Tryz.pinned (OpenSpec.ofChange couponNamesWrong)

/-- 'contangolaw07.CouponLater': WHATEVER THE INPUT: true; the input reads as it did. -/
def couponLaterSpec : ChangeSpec := { name := "couponLater", fn := fun _ => fun
  | [d1, d2, d3, d4] => { results := [.lit (.bool true)], args := [d1, d2, d3, d4] }
  | _ => none }
def couponLaterRow : OpenClaim := { program := "ytbhflnhkmhmolaagreat", sum := "87845f3ff7f353b1d46618411b09b29572f330030e830c65a2c4a6c8296ee5f4", func := "contango/contangolaw07.CouponLater", spec := "couponLater", unfollowed := true, recurses := true, plainKeys := false, apart := false }
def CouponLaterSaid : Prop := couponLaterRow.holds Tryz.pinned (OpenSpec.ofChange couponLaterSpec)

/-- ITS FALSE NEIGHBOUR: 'it returns false'. Refute it at one input. -/
def couponLaterWrong : ChangeSpec := { name := "couponLater", fn := fun _ => fun
  | [d1, d2, d3, d4] => { results := [.lit (.bool false)], args := [d1, d2, d3, d4] }
  | _ => none }
def CouponLaterWrongFalsely : Prop := couponLaterRow.holds Tryz.pinned (OpenSpec.ofChange couponLaterWrong)

/- THE SECOND FORM. 'bulk': how many values and letters a reading holds, each counted each time it is reached (what is shared counts as often as it is met; a slice's spare places count too). A statement '..UptoSaid' is the law's where the arguments, and the package variables that the reading takes, are together of bulk at most 1048576: NARROWER than '..Said'. Prove '..Said' where nothing that the law and all that it calls make is longer than what came in: it says more and counts as full. Else prove '..UptoSaid'. A law counts once. -/
mutual
def uptoBulk {H : Type} : DataW H → Nat
  | .lit (.string bytes) => bytes.length + 1
  | .lit _ => 1
  | .nil => 1
  | .ptr d => uptoBulk d + 1
  | .slice elems spare => uptoBulkAll elems + uptoBulkAll spare + 1
  | .agg parts => uptoBulkAll parts + 1
  | .iface _ d => uptoBulk d + 1
  | .map entries => uptoBulkEntries entries + 1
  | .held _ => 1
def uptoBulkAll {H : Type} : List (DataW H) → Nat
  | [] => 0
  | d :: r => uptoBulk d + uptoBulkAll r
def uptoBulkEntries {H : Type} : List (Lit × DataW H) → Nat
  | [] => 0
  | x :: r => uptoBulkEntry x + uptoBulkEntries r
def uptoBulkEntry {H : Type} : Lit × DataW H → Nat
  | (.string bytes, d) => bytes.length + uptoBulk d + 1
  | (_, d) => uptoBulk d + 1
 end
def uptoSmall : (H : Type) → List (DataW H) → Bool := fun _ ds => decide (uptoBulkAll ds ≤ 1048576)
def OpenSpec.upto (s : _root_.Go.ChangeSpec) : _root_.Go.OpenSpec := { _root_.Go.OpenSpec.ofChange s with cond := some uptoSmall }

/-- 'contangolaw07.CouponRegisters', WHERE WHAT IT READS IS OF BULK AT MOST 1048576: true; the input reads as it did. -/
def couponRegistersUptoRow : OpenClaim := { program := "ytbhflnhkmhmolaagreat", sum := "87845f3ff7f353b1d46618411b09b29572f330030e830c65a2c4a6c8296ee5f4", func := "contango/contangolaw07.CouponRegisters", spec := "couponRegisters", unfollowed := true, recurses := true, plainKeys := false, apart := false, narrowed := true }
def CouponRegistersUptoSaid : Prop := couponRegistersUptoRow.holds Tryz.pinned (OpenSpec.upto couponRegistersSpec)

/-- 'contangolaw07.CouponWhole', WHERE WHAT IT READS IS OF BULK AT MOST 1048576: true; the input reads as it did. -/
def couponWholeUptoRow : OpenClaim := { program := "ytbhflnhkmhmolaagreat", sum := "87845f3ff7f353b1d46618411b09b29572f330030e830c65a2c4a6c8296ee5f4", func := "contango/contangolaw07.CouponWhole", spec := "couponWhole", unfollowed := true, recurses := true, plainKeys := false, apart := false, narrowed := true }
def CouponWholeUptoSaid : Prop := couponWholeUptoRow.holds Tryz.pinned (OpenSpec.upto couponWholeSpec)

/-- 'contangolaw07.CouponPays', WHERE WHAT IT READS IS OF BULK AT MOST 1048576: true; the input reads as it did. -/
def couponPaysUptoRow : OpenClaim := { program := "ytbhflnhkmhmolaagreat", sum := "87845f3ff7f353b1d46618411b09b29572f330030e830c65a2c4a6c8296ee5f4", func := "contango/contangolaw07.CouponPays", spec := "couponPays", unfollowed := true, recurses := true, plainKeys := false, apart := false, narrowed := true }
def CouponPaysUptoSaid : Prop := couponPaysUptoRow.holds Tryz.pinned (OpenSpec.upto couponPaysSpec)

/-- 'contangolaw07.CouponNames', WHERE WHAT IT READS IS OF BULK AT MOST 1048576: true; the input reads as it did. -/
def couponNamesUptoRow : OpenClaim := { program := "ytbhflnhkmhmolaagreat", sum := "87845f3ff7f353b1d46618411b09b29572f330030e830c65a2c4a6c8296ee5f4", func := "contango/contangolaw07.CouponNames", spec := "couponNames", unfollowed := true, recurses := true, plainKeys := false, apart := false, narrowed := true }
def CouponNamesUptoSaid : Prop := couponNamesUptoRow.holds Tryz.pinned (OpenSpec.upto couponNamesSpec)

/-- 'contangolaw07.CouponLater', WHERE WHAT IT READS IS OF BULK AT MOST 1048576: true; the input reads as it did. -/
def couponLaterUptoRow : OpenClaim := { program := "ytbhflnhkmhmolaagreat", sum := "87845f3ff7f353b1d46618411b09b29572f330030e830c65a2c4a6c8296ee5f4", func := "contango/contangolaw07.CouponLater", spec := "couponLater", unfollowed := true, recurses := true, plainKeys := false, apart := false, narrowed := true }
def CouponLaterUptoSaid : Prop := couponLaterUptoRow.holds Tryz.pinned (OpenSpec.upto couponLaterSpec)

end Rows
end Go.Proofs.YtbhflnhkmhmolaaGreat
