/-
  No cell of these rows narrows 'for every input' (looked for: loops, veiled, ifaces, maps, wideKeys, modest, calm, conditions, laid).
  DERIVED. THE GIVEN ROWS OF THIS SEAT. 7 by the template 'for every input the law returns true; each argument reads behind the call as it read before'; 0 by the template 'total and deterministic' (their statements: YthgmipngikdknaaGreatTotals.lean).
  GIVEN WITH THE SEED: the statements are not yours to turn. If you find one false, say at which input.
  Laid BY PROGRAM, IN A SANDBOX (cutbox-rows.mjs): the forced cells as the released guide's own fill.sh prints them over the translation f0ed272605a7727e… (all of the seat's roots in one cut). By AI agents, Wed Nov 11 2026. No macro, syntax, notation, axiom, sorry.
-/
import Derived.Test.YthgmipngikdknaaGreatChecked
import GoSem.Claim
import GoSem.ClaimJoined
import GoSem.ClaimMapViews
import Derived.JoinedTies
import Derived.KernelRfl
namespace Go.Proofs.YthgmipngikdknaaGreat
/- THE CELL 'sum', in the pinned program and in every row, IS THE sha256 OF THE DUMP (.gsa) THAT YthgmipngikdknaaGreatProg.lean LOADS. Nothing in Lean hashes anything: it is a label: what it is worth is what the hold of that sum in a sandbox is worth. -/
noncomputable def Tryz.pinned : Pinned := { name := "ythgmipngikdknaagreat", sum := "f0ed272605a7727e67ea19ded69c683952989f1470899b5de61606dc51f73b37", checked := Tryz.checked }
namespace Rows
def none {H : Type} : Left H := { results := [], args := [] }

/-- 'contangolaw10.PostFills': WHATEVER THE INPUT: true; the input reads as it did. -/
def postFillsSpec : ChangeSpec := { name := "postFills", fn := fun _ => fun
  | [d] => { results := [.lit (.bool true)], args := [d] }
  | _ => none }
def postFillsRow : OpenClaim := { program := "ythgmipngikdknaagreat", sum := "f0ed272605a7727e67ea19ded69c683952989f1470899b5de61606dc51f73b37", func := "contango/contangolaw10.PostFills", spec := "postFills", unfollowed := true, recurses := true, plainKeys := false, apart := false }
def PostFillsSaid : Prop := postFillsRow.holds Tryz.pinned (OpenSpec.ofChange postFillsSpec)

/-- ITS FALSE NEIGHBOUR: 'it returns false'. Refute it at one input. -/
def postFillsWrong : ChangeSpec := { name := "postFills", fn := fun _ => fun
  | [d] => { results := [.lit (.bool false)], args := [d] }
  | _ => none }
def PostFillsWrongFalsely : Prop := postFillsRow.holds Tryz.pinned (OpenSpec.ofChange postFillsWrong)

/-- 'contangolaw10.PostExplains': WHATEVER THE INPUT: true; the input reads as it did. -/
def postExplainsSpec : ChangeSpec := { name := "postExplains", fn := fun _ => fun
  | [d1, d2] => { results := [.lit (.bool true)], args := [d1, d2] }
  | _ => none }
def postExplainsRow : OpenClaim := { program := "ythgmipngikdknaagreat", sum := "f0ed272605a7727e67ea19ded69c683952989f1470899b5de61606dc51f73b37", func := "contango/contangolaw10.PostExplains", spec := "postExplains", unfollowed := true, recurses := true, plainKeys := false, apart := false }
def PostExplainsSaid : Prop := postExplainsRow.holds Tryz.pinned (OpenSpec.ofChange postExplainsSpec)

/-- ITS FALSE NEIGHBOUR: 'it returns false'. Refute it at one input. -/
def postExplainsWrong : ChangeSpec := { name := "postExplains", fn := fun _ => fun
  | [d1, d2] => { results := [.lit (.bool false)], args := [d1, d2] }
  | _ => none }
def PostExplainsWrongFalsely : Prop := postExplainsRow.holds Tryz.pinned (OpenSpec.ofChange postExplainsWrong)

/-- 'contangolaw10.PostTruth': WHATEVER THE INPUT: true; the input reads as it did. -/
def postTruthSpec : ChangeSpec := { name := "postTruth", fn := fun _ => fun
  | [d1, d2, d3] => { results := [.lit (.bool true)], args := [d1, d2, d3] }
  | _ => none }
def postTruthRow : OpenClaim := { program := "ythgmipngikdknaagreat", sum := "f0ed272605a7727e67ea19ded69c683952989f1470899b5de61606dc51f73b37", func := "contango/contangolaw10.PostTruth", spec := "postTruth", unfollowed := true, recurses := true, plainKeys := false, apart := false }
def PostTruthSaid : Prop := postTruthRow.holds Tryz.pinned (OpenSpec.ofChange postTruthSpec)

/-- ITS FALSE NEIGHBOUR: 'it returns false'. Refute it at one input. -/
def postTruthWrong : ChangeSpec := { name := "postTruth", fn := fun _ => fun
  | [d1, d2, d3] => { results := [.lit (.bool false)], args := [d1, d2, d3] }
  | _ => none }
def PostTruthWrongFalsely : Prop := postTruthRow.holds Tryz.pinned (OpenSpec.ofChange postTruthWrong)

/-- 'contangolaw10.PostTurned': WHATEVER THE INPUT: true; the input reads as it did. -/
def postTurnedSpec : ChangeSpec := { name := "postTurned", fn := fun _ => fun
  | [d1, d2] => { results := [.lit (.bool true)], args := [d1, d2] }
  | _ => none }
def postTurnedRow : OpenClaim := { program := "ythgmipngikdknaagreat", sum := "f0ed272605a7727e67ea19ded69c683952989f1470899b5de61606dc51f73b37", func := "contango/contangolaw10.PostTurned", spec := "postTurned", unfollowed := true, recurses := true, plainKeys := false, apart := false }
def PostTurnedSaid : Prop := postTurnedRow.holds Tryz.pinned (OpenSpec.ofChange postTurnedSpec)

/-- ITS FALSE NEIGHBOUR: 'it returns false'. Refute it at one input. -/
def postTurnedWrong : ChangeSpec := { name := "postTurned", fn := fun _ => fun
  | [d1, d2] => { results := [.lit (.bool false)], args := [d1, d2] }
  | _ => none }
def PostTurnedWrongFalsely : Prop := postTurnedRow.holds Tryz.pinned (OpenSpec.ofChange postTurnedWrong)

/-- 'contangolaw10.PostWider': WHATEVER THE INPUT: true; the input reads as it did. -/
def postWiderSpec : ChangeSpec := { name := "postWider", fn := fun _ => fun
  | [d1, d2, d3, d4] => { results := [.lit (.bool true)], args := [d1, d2, d3, d4] }
  | _ => none }
def postWiderRow : OpenClaim := { program := "ythgmipngikdknaagreat", sum := "f0ed272605a7727e67ea19ded69c683952989f1470899b5de61606dc51f73b37", func := "contango/contangolaw10.PostWider", spec := "postWider", unfollowed := true, recurses := true, plainKeys := false, apart := false }
def PostWiderSaid : Prop := postWiderRow.holds Tryz.pinned (OpenSpec.ofChange postWiderSpec)

/-- ITS FALSE NEIGHBOUR: 'it returns false'. Refute it at one input. -/
def postWiderWrong : ChangeSpec := { name := "postWider", fn := fun _ => fun
  | [d1, d2, d3, d4] => { results := [.lit (.bool false)], args := [d1, d2, d3, d4] }
  | _ => none }
def PostWiderWrongFalsely : Prop := postWiderRow.holds Tryz.pinned (OpenSpec.ofChange postWiderWrong)

/-- 'contangolaw10.PostCertain': WHATEVER THE INPUT: true; the input reads as it did. -/
def postCertainSpec : ChangeSpec := { name := "postCertain", fn := fun _ => fun
  | [d1, d2] => { results := [.lit (.bool true)], args := [d1, d2] }
  | _ => none }
def postCertainRow : OpenClaim := { program := "ythgmipngikdknaagreat", sum := "f0ed272605a7727e67ea19ded69c683952989f1470899b5de61606dc51f73b37", func := "contango/contangolaw10.PostCertain", spec := "postCertain", unfollowed := true, recurses := true, plainKeys := false, apart := false }
def PostCertainSaid : Prop := postCertainRow.holds Tryz.pinned (OpenSpec.ofChange postCertainSpec)

/-- ITS FALSE NEIGHBOUR: 'it returns false'. Refute it at one input. -/
def postCertainWrong : ChangeSpec := { name := "postCertain", fn := fun _ => fun
  | [d1, d2] => { results := [.lit (.bool false)], args := [d1, d2] }
  | _ => none }
def PostCertainWrongFalsely : Prop := postCertainRow.holds Tryz.pinned (OpenSpec.ofChange postCertainWrong)

/-- 'contangolaw10.PostLeft': WHATEVER THE INPUT: true; the input reads as it did. -/
def postLeftSpec : ChangeSpec := { name := "postLeft", fn := fun _ => fun
  | [d1, d2, d3] => { results := [.lit (.bool true)], args := [d1, d2, d3] }
  | _ => none }
def postLeftRow : OpenClaim := { program := "ythgmipngikdknaagreat", sum := "f0ed272605a7727e67ea19ded69c683952989f1470899b5de61606dc51f73b37", func := "contango/contangolaw10.PostLeft", spec := "postLeft", unfollowed := true, recurses := true, plainKeys := false, apart := false }
def PostLeftSaid : Prop := postLeftRow.holds Tryz.pinned (OpenSpec.ofChange postLeftSpec)

/-- ITS FALSE NEIGHBOUR: 'it returns false'. Refute it at one input. -/
def postLeftWrong : ChangeSpec := { name := "postLeft", fn := fun _ => fun
  | [d1, d2, d3] => { results := [.lit (.bool false)], args := [d1, d2, d3] }
  | _ => none }
def PostLeftWrongFalsely : Prop := postLeftRow.holds Tryz.pinned (OpenSpec.ofChange postLeftWrong)

/- THE SECOND FORM. 'bulk': how many values and letters a reading holds, each counted each time it is reached (what is shared counts as often as it is met; a slice's spare places count too). A statement '..UptoSaid' is the law's where the arguments, and the package variables that the reading takes, are together of bulk at most 1048576: NARROWER than '..Said'. Prove '..Said' where nothing that the law and all that it calls make is longer than what came in: it says more and counts as full. Else prove '..UptoSaid'. A law counts once. -/
mutual
def uptoBulk {H : Type} : DataW H → Nat
  | .lit (.string bytes) => bytes.length + 1
  | .lit _ => 1
  | .nil => 1
  | .ptr d => uptoBulk d + 1
  | .slice elems spare => uptoBulkAll elems + uptoBulkAll spare + 1
  | .agg parts => uptoBulkAll parts + 1
  | .iface _ d => uptoBulk d + 1
  | .map entries => uptoBulkEntries entries + 1
  | .held _ => 1
def uptoBulkAll {H : Type} : List (DataW H) → Nat
  | [] => 0
  | d :: r => uptoBulk d + uptoBulkAll r
def uptoBulkEntries {H : Type} : List (Lit × DataW H) → Nat
  | [] => 0
  | x :: r => uptoBulkEntry x + uptoBulkEntries r
def uptoBulkEntry {H : Type} : Lit × DataW H → Nat
  | (.string bytes, d) => bytes.length + uptoBulk d + 1
  | (_, d) => uptoBulk d + 1
 end
def uptoSmall : (H : Type) → List (DataW H) → Bool := fun _ ds => decide (uptoBulkAll ds ≤ 1048576)
def OpenSpec.upto (s : _root_.Go.ChangeSpec) : _root_.Go.OpenSpec := { _root_.Go.OpenSpec.ofChange s with cond := some uptoSmall }

/-- 'contangolaw10.PostFills', WHERE WHAT IT READS IS OF BULK AT MOST 1048576: true; the input reads as it did. -/
def postFillsUptoRow : OpenClaim := { program := "ythgmipngikdknaagreat", sum := "f0ed272605a7727e67ea19ded69c683952989f1470899b5de61606dc51f73b37", func := "contango/contangolaw10.PostFills", spec := "postFills", unfollowed := true, recurses := true, plainKeys := false, apart := false, narrowed := true }
def PostFillsUptoSaid : Prop := postFillsUptoRow.holds Tryz.pinned (OpenSpec.upto postFillsSpec)

/-- 'contangolaw10.PostExplains', WHERE WHAT IT READS IS OF BULK AT MOST 1048576: true; the input reads as it did. -/
def postExplainsUptoRow : OpenClaim := { program := "ythgmipngikdknaagreat", sum := "f0ed272605a7727e67ea19ded69c683952989f1470899b5de61606dc51f73b37", func := "contango/contangolaw10.PostExplains", spec := "postExplains", unfollowed := true, recurses := true, plainKeys := false, apart := false, narrowed := true }
def PostExplainsUptoSaid : Prop := postExplainsUptoRow.holds Tryz.pinned (OpenSpec.upto postExplainsSpec)

/-- 'contangolaw10.PostTruth', WHERE WHAT IT READS IS OF BULK AT MOST 1048576: true; the input reads as it did. -/
def postTruthUptoRow : OpenClaim := { program := "ythgmipngikdknaagreat", sum := "f0ed272605a7727e67ea19ded69c683952989f1470899b5de61606dc51f73b37", func := "contango/contangolaw10.PostTruth", spec := "postTruth", unfollowed := true, recurses := true, plainKeys := false, apart := false, narrowed := true }
def PostTruthUptoSaid : Prop := postTruthUptoRow.holds Tryz.pinned (OpenSpec.upto postTruthSpec)

/-- 'contangolaw10.PostTurned', WHERE WHAT IT READS IS OF BULK AT MOST 1048576: true; the input reads as it did. -/
def postTurnedUptoRow : OpenClaim := { program := "ythgmipngikdknaagreat", sum := "f0ed272605a7727e67ea19ded69c683952989f1470899b5de61606dc51f73b37", func := "contango/contangolaw10.PostTurned", spec := "postTurned", unfollowed := true, recurses := true, plainKeys := false, apart := false, narrowed := true }
def PostTurnedUptoSaid : Prop := postTurnedUptoRow.holds Tryz.pinned (OpenSpec.upto postTurnedSpec)

/-- 'contangolaw10.PostWider', WHERE WHAT IT READS IS OF BULK AT MOST 1048576: true; the input reads as it did. -/
def postWiderUptoRow : OpenClaim := { program := "ythgmipngikdknaagreat", sum := "f0ed272605a7727e67ea19ded69c683952989f1470899b5de61606dc51f73b37", func := "contango/contangolaw10.PostWider", spec := "postWider", unfollowed := true, recurses := true, plainKeys := false, apart := false, narrowed := true }
def PostWiderUptoSaid : Prop := postWiderUptoRow.holds Tryz.pinned (OpenSpec.upto postWiderSpec)

/-- 'contangolaw10.PostCertain', WHERE WHAT IT READS IS OF BULK AT MOST 1048576: true; the input reads as it did. -/
def postCertainUptoRow : OpenClaim := { program := "ythgmipngikdknaagreat", sum := "f0ed272605a7727e67ea19ded69c683952989f1470899b5de61606dc51f73b37", func := "contango/contangolaw10.PostCertain", spec := "postCertain", unfollowed := true, recurses := true, plainKeys := false, apart := false, narrowed := true }
def PostCertainUptoSaid : Prop := postCertainUptoRow.holds Tryz.pinned (OpenSpec.upto postCertainSpec)

/-- 'contangolaw10.PostLeft', WHERE WHAT IT READS IS OF BULK AT MOST 1048576: true; the input reads as it did. -/
def postLeftUptoRow : OpenClaim := { program := "ythgmipngikdknaagreat", sum := "f0ed272605a7727e67ea19ded69c683952989f1470899b5de61606dc51f73b37", func := "contango/contangolaw10.PostLeft", spec := "postLeft", unfollowed := true, recurses := true, plainKeys := false, apart := false, narrowed := true }
def PostLeftUptoSaid : Prop := postLeftUptoRow.holds Tryz.pinned (OpenSpec.upto postLeftSpec)

end Rows
end Go.Proofs.YthgmipngikdknaaGreat
