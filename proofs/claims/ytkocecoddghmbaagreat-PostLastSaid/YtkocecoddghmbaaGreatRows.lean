/-
  No cell of these rows narrows 'for every input' (looked for: loops, veiled, ifaces, maps, wideKeys, modest, calm, conditions, laid).
  DERIVED. THE GIVEN ROWS OF THIS SEAT. 7 by the template 'for every input the law returns true; each argument reads behind the call as it read before'; 0 by the template 'total and deterministic' (their statements: YtkocecoddghmbaaGreatTotals.lean).
  GIVEN WITH THE SEED: the statements are not yours to turn. If you find one false, say at which input.
  Laid BY PROGRAM, IN A SANDBOX (cutbox-rows.mjs): the forced cells as the released guide's own fill.sh prints them over the translation 240cfe909d791623… (all of the seat's roots in one cut). By AI agents, Wed Nov 11 2026. No macro, syntax, notation, axiom, sorry.
-/
import Derived.Test.YtkocecoddghmbaaGreatChecked
import GoSem.Claim
import GoSem.ClaimJoined
import GoSem.ClaimMapViews
import Derived.JoinedTies
import Derived.KernelRfl
namespace Go.Proofs.YtkocecoddghmbaaGreat
/- THE CELL 'sum', in the pinned program and in every row, IS THE sha256 OF THE DUMP (.gsa) THAT YtkocecoddghmbaaGreatProg.lean LOADS. Nothing in Lean hashes anything: it is a label: what it is worth is what the hold of that sum in a sandbox is worth. -/
noncomputable def Tryz.pinned : Pinned := { name := "ytkocecoddghmbaagreat", sum := "240cfe909d7916239f1639fada4e14990f18cc05907d4ac3d4d56075f2726e4a", checked := Tryz.checked }
namespace Rows
def none {H : Type} : Left H := { results := [], args := [] }

/-- 'contangolaw10.PostPlays': WHATEVER THE INPUT: true; the input reads as it did. -/
def postPlaysSpec : ChangeSpec := { name := "postPlays", fn := fun _ => fun
  | [d1, d2] => { results := [.lit (.bool true)], args := [d1, d2] }
  | _ => none }
def postPlaysRow : OpenClaim := { program := "ytkocecoddghmbaagreat", sum := "240cfe909d7916239f1639fada4e14990f18cc05907d4ac3d4d56075f2726e4a", func := "contango/contangolaw10.PostPlays", spec := "postPlays", unfollowed := true, recurses := true, plainKeys := false, apart := false }
def PostPlaysSaid : Prop := postPlaysRow.holds Tryz.pinned (OpenSpec.ofChange postPlaysSpec)

/-- ITS FALSE NEIGHBOUR: 'it returns false'. Refute it at one input. -/
def postPlaysWrong : ChangeSpec := { name := "postPlays", fn := fun _ => fun
  | [d1, d2] => { results := [.lit (.bool false)], args := [d1, d2] }
  | _ => none }
def PostPlaysWrongFalsely : Prop := postPlaysRow.holds Tryz.pinned (OpenSpec.ofChange postPlaysWrong)

/-- 'contangolaw10.PostOpens': WHATEVER THE INPUT: true; the input reads as it did. -/
def postOpensSpec : ChangeSpec := { name := "postOpens", fn := fun _ => fun
  | [d] => { results := [.lit (.bool true)], args := [d] }
  | _ => none }
def postOpensRow : OpenClaim := { program := "ytkocecoddghmbaagreat", sum := "240cfe909d7916239f1639fada4e14990f18cc05907d4ac3d4d56075f2726e4a", func := "contango/contangolaw10.PostOpens", spec := "postOpens", unfollowed := true, recurses := true, plainKeys := false, apart := false }
def PostOpensSaid : Prop := postOpensRow.holds Tryz.pinned (OpenSpec.ofChange postOpensSpec)

/-- ITS FALSE NEIGHBOUR: 'it returns false'. Refute it at one input. -/
def postOpensWrong : ChangeSpec := { name := "postOpens", fn := fun _ => fun
  | [d] => { results := [.lit (.bool false)], args := [d] }
  | _ => none }
def PostOpensWrongFalsely : Prop := postOpensRow.holds Tryz.pinned (OpenSpec.ofChange postOpensWrong)

/-- 'contangolaw10.PostProves': WHATEVER THE INPUT: true; the input reads as it did. -/
def postProvesSpec : ChangeSpec := { name := "postProves", fn := fun _ => fun
  | [d1, d2, d3] => { results := [.lit (.bool true)], args := [d1, d2, d3] }
  | _ => none }
def postProvesRow : OpenClaim := { program := "ytkocecoddghmbaagreat", sum := "240cfe909d7916239f1639fada4e14990f18cc05907d4ac3d4d56075f2726e4a", func := "contango/contangolaw10.PostProves", spec := "postProves", unfollowed := true, recurses := true, plainKeys := false, apart := false }
def PostProvesSaid : Prop := postProvesRow.holds Tryz.pinned (OpenSpec.ofChange postProvesSpec)

/-- ITS FALSE NEIGHBOUR: 'it returns false'. Refute it at one input. -/
def postProvesWrong : ChangeSpec := { name := "postProves", fn := fun _ => fun
  | [d1, d2, d3] => { results := [.lit (.bool false)], args := [d1, d2, d3] }
  | _ => none }
def PostProvesWrongFalsely : Prop := postProvesRow.holds Tryz.pinned (OpenSpec.ofChange postProvesWrong)

/-- 'contangolaw10.PostNames': WHATEVER THE INPUT: true; the input reads as it did. -/
def postNamesSpec : ChangeSpec := { name := "postNames", fn := fun _ => fun
  | [] => { results := [.lit (.bool true)], args := [] }
  | _ => none }
def postNamesRow : OpenClaim := { program := "ytkocecoddghmbaagreat", sum := "240cfe909d7916239f1639fada4e14990f18cc05907d4ac3d4d56075f2726e4a", func := "contango/contangolaw10.PostNames", spec := "postNames", unfollowed := true, recurses := true, plainKeys := false, apart := false }
def PostNamesSaid : Prop := postNamesRow.holds Tryz.pinned (OpenSpec.ofChange postNamesSpec)

/-- ITS FALSE NEIGHBOUR: 'it returns false'. Refute it at one input. -/
def postNamesWrong : ChangeSpec := { name := "postNames", fn := fun _ => fun
  | [] => { results := [.lit (.bool false)], args := [] }
  | _ => none }
def PostNamesWrongFalsely : Prop := postNamesRow.holds Tryz.pinned (OpenSpec.ofChange postNamesWrong)

/-- 'contangolaw10.PostFair': WHATEVER THE INPUT: true; the input reads as it did. -/
def postFairSpec : ChangeSpec := { name := "postFair", fn := fun _ => fun
  | [d1, d2] => { results := [.lit (.bool true)], args := [d1, d2] }
  | _ => none }
def postFairRow : OpenClaim := { program := "ytkocecoddghmbaagreat", sum := "240cfe909d7916239f1639fada4e14990f18cc05907d4ac3d4d56075f2726e4a", func := "contango/contangolaw10.PostFair", spec := "postFair", unfollowed := true, recurses := true, plainKeys := false, apart := false }
def PostFairSaid : Prop := postFairRow.holds Tryz.pinned (OpenSpec.ofChange postFairSpec)

/-- ITS FALSE NEIGHBOUR: 'it returns false'. Refute it at one input. -/
def postFairWrong : ChangeSpec := { name := "postFair", fn := fun _ => fun
  | [d1, d2] => { results := [.lit (.bool false)], args := [d1, d2] }
  | _ => none }
def PostFairWrongFalsely : Prop := postFairRow.holds Tryz.pinned (OpenSpec.ofChange postFairWrong)

/-- 'contangolaw10.PostFirst': WHATEVER THE INPUT: true; the input reads as it did. -/
def postFirstSpec : ChangeSpec := { name := "postFirst", fn := fun _ => fun
  | [d1, d2, d3] => { results := [.lit (.bool true)], args := [d1, d2, d3] }
  | _ => none }
def postFirstRow : OpenClaim := { program := "ytkocecoddghmbaagreat", sum := "240cfe909d7916239f1639fada4e14990f18cc05907d4ac3d4d56075f2726e4a", func := "contango/contangolaw10.PostFirst", spec := "postFirst", unfollowed := true, recurses := true, plainKeys := false, apart := false }
def PostFirstSaid : Prop := postFirstRow.holds Tryz.pinned (OpenSpec.ofChange postFirstSpec)

/-- ITS FALSE NEIGHBOUR: 'it returns false'. Refute it at one input. -/
def postFirstWrong : ChangeSpec := { name := "postFirst", fn := fun _ => fun
  | [d1, d2, d3] => { results := [.lit (.bool false)], args := [d1, d2, d3] }
  | _ => none }
def PostFirstWrongFalsely : Prop := postFirstRow.holds Tryz.pinned (OpenSpec.ofChange postFirstWrong)

/-- 'contangolaw10.PostLast': WHATEVER THE INPUT: true; the input reads as it did. -/
def postLastSpec : ChangeSpec := { name := "postLast", fn := fun _ => fun
  | [d1, d2, d3] => { results := [.lit (.bool true)], args := [d1, d2, d3] }
  | _ => none }
def postLastRow : OpenClaim := { program := "ytkocecoddghmbaagreat", sum := "240cfe909d7916239f1639fada4e14990f18cc05907d4ac3d4d56075f2726e4a", func := "contango/contangolaw10.PostLast", spec := "postLast", unfollowed := true, recurses := true, plainKeys := false, apart := false }
def PostLastSaid : Prop := postLastRow.holds Tryz.pinned (OpenSpec.ofChange postLastSpec)

/-- ITS FALSE NEIGHBOUR: 'it returns false'. Refute it at one input. -/
def postLastWrong : ChangeSpec := { name := "postLast", fn := fun _ => fun
  | [d1, d2, d3] => { results := [.lit (.bool false)], args := [d1, d2, d3] }
  | _ => none }
def PostLastWrongFalsely : Prop := postLastRow.holds Tryz.pinned (OpenSpec.ofChange postLastWrong)

/- THE SECOND FORM. 'bulk': how many values and letters a reading holds, each counted each time it is reached (what is shared counts as often as it is met; a slice's spare places count too). A statement '..UptoSaid' is the law's where the arguments, and the package variables that the reading takes, are together of bulk at most 1048576: NARROWER than '..Said'. Prove '..Said' where nothing that the law and all that it calls make is longer than what came in: it says more and counts as full. Else prove '..UptoSaid'. A law counts once. -/
mutual
def uptoBulk {H : Type} : DataW H → Nat
  | .lit (.string bytes) => bytes.length + 1
  | .lit _ => 1
  | .nil => 1
  | .ptr d => uptoBulk d + 1
  | .slice elems spare => uptoBulkAll elems + uptoBulkAll spare + 1
  | .agg parts => uptoBulkAll parts + 1
  | .iface _ d => uptoBulk d + 1
  | .map entries => uptoBulkEntries entries + 1
  | .held _ => 1
def uptoBulkAll {H : Type} : List (DataW H) → Nat
  | [] => 0
  | d :: r => uptoBulk d + uptoBulkAll r
def uptoBulkEntries {H : Type} : List (Lit × DataW H) → Nat
  | [] => 0
  | x :: r => uptoBulkEntry x + uptoBulkEntries r
def uptoBulkEntry {H : Type} : Lit × DataW H → Nat
  | (.string bytes, d) => bytes.length + uptoBulk d + 1
  | (_, d) => uptoBulk d + 1
 end
def uptoSmall : (H : Type) → List (DataW H) → Bool := fun _ ds => decide (uptoBulkAll ds ≤ 1048576)
def OpenSpec.upto (s : _root_.Go.ChangeSpec) : _root_.Go.OpenSpec := { _root_.Go.OpenSpec.ofChange s with cond := some uptoSmall }

/-- 'contangolaw10.PostPlays', WHERE WHAT IT READS IS OF BULK AT MOST 1048576: true; the input reads as it did. -/
def postPlaysUptoRow : OpenClaim := { program := "ytkocecoddghmbaagreat", sum := "240cfe909d7916239f1639fada4e14990f18cc05907d4ac3d4d56075f2726e4a", func := "contango/contangolaw10.PostPlays", spec := "postPlays", unfollowed := true, recurses := true, plainKeys := false, apart := false, narrowed := true }
def PostPlaysUptoSaid : Prop := postPlaysUptoRow.holds Tryz.pinned (OpenSpec.upto postPlaysSpec)

/-- 'contangolaw10.PostOpens', WHERE WHAT IT READS IS OF BULK AT MOST 1048576: true; the input reads as it did. -/
def postOpensUptoRow : OpenClaim := { program := "ytkocecoddghmbaagreat", sum := "240cfe909d7916239f1639fada4e14990f18cc05907d4ac3d4d56075f2726e4a", func := "contango/contangolaw10.PostOpens", spec := "postOpens", unfollowed := true, recurses := true, plainKeys := false, apart := false, narrowed := true }
def PostOpensUptoSaid : Prop := postOpensUptoRow.holds Tryz.pinned (OpenSpec.upto postOpensSpec)

/-- 'contangolaw10.PostProves', WHERE WHAT IT READS IS OF BULK AT MOST 1048576: true; the input reads as it did. -/
def postProvesUptoRow : OpenClaim := { program := "ytkocecoddghmbaagreat", sum := "240cfe909d7916239f1639fada4e14990f18cc05907d4ac3d4d56075f2726e4a", func := "contango/contangolaw10.PostProves", spec := "postProves", unfollowed := true, recurses := true, plainKeys := false, apart := false, narrowed := true }
def PostProvesUptoSaid : Prop := postProvesUptoRow.holds Tryz.pinned (OpenSpec.upto postProvesSpec)

/-- 'contangolaw10.PostNames', WHERE WHAT IT READS IS OF BULK AT MOST 1048576: true; the input reads as it did. -/
def postNamesUptoRow : OpenClaim := { program := "ytkocecoddghmbaagreat", sum := "240cfe909d7916239f1639fada4e14990f18cc05907d4ac3d4d56075f2726e4a", func := "contango/contangolaw10.PostNames", spec := "postNames", unfollowed := true, recurses := true, plainKeys := false, apart := false, narrowed := true }
def PostNamesUptoSaid : Prop := postNamesUptoRow.holds Tryz.pinned (OpenSpec.upto postNamesSpec)

/-- 'contangolaw10.PostFair', WHERE WHAT IT READS IS OF BULK AT MOST 1048576: true; the input reads as it did. -/
def postFairUptoRow : OpenClaim := { program := "ytkocecoddghmbaagreat", sum := "240cfe909d7916239f1639fada4e14990f18cc05907d4ac3d4d56075f2726e4a", func := "contango/contangolaw10.PostFair", spec := "postFair", unfollowed := true, recurses := true, plainKeys := false, apart := false, narrowed := true }
def PostFairUptoSaid : Prop := postFairUptoRow.holds Tryz.pinned (OpenSpec.upto postFairSpec)

/-- 'contangolaw10.PostFirst', WHERE WHAT IT READS IS OF BULK AT MOST 1048576: true; the input reads as it did. -/
def postFirstUptoRow : OpenClaim := { program := "ytkocecoddghmbaagreat", sum := "240cfe909d7916239f1639fada4e14990f18cc05907d4ac3d4d56075f2726e4a", func := "contango/contangolaw10.PostFirst", spec := "postFirst", unfollowed := true, recurses := true, plainKeys := false, apart := false, narrowed := true }
def PostFirstUptoSaid : Prop := postFirstUptoRow.holds Tryz.pinned (OpenSpec.upto postFirstSpec)

/-- 'contangolaw10.PostLast', WHERE WHAT IT READS IS OF BULK AT MOST 1048576: true; the input reads as it did. -/
def postLastUptoRow : OpenClaim := { program := "ytkocecoddghmbaagreat", sum := "240cfe909d7916239f1639fada4e14990f18cc05907d4ac3d4d56075f2726e4a", func := "contango/contangolaw10.PostLast", spec := "postLast", unfollowed := true, recurses := true, plainKeys := false, apart := false, narrowed := true }
def PostLastUptoSaid : Prop := postLastUptoRow.holds Tryz.pinned (OpenSpec.upto postLastSpec)

end Rows
end Go.Proofs.YtkocecoddghmbaaGreat
