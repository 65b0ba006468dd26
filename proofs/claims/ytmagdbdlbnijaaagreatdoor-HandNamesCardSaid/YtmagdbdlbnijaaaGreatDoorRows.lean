/-
  NARROWER THAN 'FOR EVERY INPUT', by the rows' own cells (each row's printed sentence says how): HandSpells: laid · HandMisreads: laid · HandWrites: laid · HandFurther: laid · HandLeaves: laid · HandNames: laid · HandTruth: laid · HandBack: laid · HandMore: laid · HandErrors: laid · HandLooks: laid · HandLeft: laid.
  DERIVED. THE GIVEN ROWS OF THIS SEAT. 12 by the template 'for every input the law returns true; each argument reads behind the call as it read before'; 0 by the template 'total and deterministic' (their statements: YtmagdbdlbnijaaaGreatDoorTotals.lean).
  GIVEN WITH THE SEED: the statements are not yours to turn. If you find one false, say at which input.
  Laid BY PROGRAM, IN A SANDBOX (cutbox-rows.mjs): the forced cells as the released guide's own fill.sh prints them over the translation d7269db8f6390d7e… (all of the seat's roots in one cut). By AI agents, Wed Nov 11 2026. No macro, syntax, notation, axiom, sorry.
-/
import Derived.Test.YtmagdbdlbnijaaaGreatDoorChecked
import GoSem.Claim
import GoSem.ClaimJoined
import GoSem.ClaimMapViews
import Derived.JoinedTies
import Derived.KernelRfl
namespace Go.Proofs.YtmagdbdlbnijaaaGreatDoor
/- THE CELL 'sum', in the pinned program and in every row, IS THE sha256 OF THE DUMP (.gsa) THAT YtmagdbdlbnijaaaGreatDoorProg.lean LOADS. Nothing in Lean hashes anything: it is a label: what it is worth is what the hold of that sum in a sandbox is worth. -/
noncomputable def Tryz.pinned : Pinned := { name := "ytmagdbdlbnijaaagreatdoor", sum := "d7269db8f6390d7edb89bba7e57bc219179860addcbaa7ee6c3014de31e016f9", checked := Tryz.checked }
namespace Rows
def none {H : Type} : Left H := { results := [], args := [] }

/- WHAT THE LISTED PACKAGE-LEVEL VARIABLES READ AS WHEN THE CALL BEGINS. Each datum BY PROGRAM (the guide's laid-datum.mjs) off the statement by which the dump's own 'gosem.cut.vars' lays the variable. In a bare row this is a premise. The card (YtmagdbdlbnijaaaGreatDoorCards.lean) ties it to the program's text. -/
def laid_math_bits_deBruijn32tab {H : Type} : DataW H := .agg [.lit (.int .u8 0), .lit (.int .u8 1), .lit (.int .u8 28), .lit (.int .u8 2), .lit (.int .u8 29), .lit (.int .u8 14), .lit (.int .u8 24), .lit (.int .u8 3), .lit (.int .u8 30), .lit (.int .u8 22), .lit (.int .u8 20), .lit (.int .u8 15), .lit (.int .u8 25), .lit (.int .u8 17), .lit (.int .u8 4), .lit (.int .u8 8), .lit (.int .u8 31), .lit (.int .u8 27), .lit (.int .u8 13), .lit (.int .u8 23), .lit (.int .u8 21), .lit (.int .u8 19), .lit (.int .u8 16), .lit (.int .u8 7), .lit (.int .u8 26), .lit (.int .u8 12), .lit (.int .u8 18), .lit (.int .u8 6), .lit (.int .u8 11), .lit (.int .u8 5), .lit (.int .u8 10), .lit (.int .u8 9)]
def laid_math_bits_deBruijn64tab {H : Type} : DataW H := .agg [.lit (.int .u8 0), .lit (.int .u8 1), .lit (.int .u8 56), .lit (.int .u8 2), .lit (.int .u8 57), .lit (.int .u8 49), .lit (.int .u8 28), .lit (.int .u8 3), .lit (.int .u8 61), .lit (.int .u8 58), .lit (.int .u8 42), .lit (.int .u8 50), .lit (.int .u8 38), .lit (.int .u8 29), .lit (.int .u8 17), .lit (.int .u8 4), .lit (.int .u8 62), .lit (.int .u8 47), .lit (.int .u8 59), .lit (.int .u8 36), .lit (.int .u8 45), .lit (.int .u8 43), .lit (.int .u8 51), .lit (.int .u8 22), .lit (.int .u8 53), .lit (.int .u8 39), .lit (.int .u8 33), .lit (.int .u8 30), .lit (.int .u8 24), .lit (.int .u8 18), .lit (.int .u8 12), .lit (.int .u8 5), .lit (.int .u8 63), .lit (.int .u8 55), .lit (.int .u8 48), .lit (.int .u8 27), .lit (.int .u8 60), .lit (.int .u8 41), .lit (.int .u8 37), .lit (.int .u8 16), .lit (.int .u8 46), .lit (.int .u8 35), .lit (.int .u8 44), .lit (.int .u8 21), .lit (.int .u8 52), .lit (.int .u8 32), .lit (.int .u8 23), .lit (.int .u8 11), .lit (.int .u8 54), .lit (.int .u8 26), .lit (.int .u8 40), .lit (.int .u8 15), .lit (.int .u8 34), .lit (.int .u8 20), .lit (.int .u8 31), .lit (.int .u8 10), .lit (.int .u8 25), .lit (.int .u8 14), .lit (.int .u8 19), .lit (.int .u8 9), .lit (.int .u8 13), .lit (.int .u8 8), .lit (.int .u8 7), .lit (.int .u8 6)]
def laid_internal_strconv_uint64pow10 {H : Type} : DataW H := .agg [.lit (.int .u64 1), .lit (.int .u64 10), .lit (.int .u64 100), .lit (.int .u64 1000), .lit (.int .u64 10000), .lit (.int .u64 100000), .lit (.int .u64 1000000), .lit (.int .u64 10000000), .lit (.int .u64 100000000), .lit (.int .u64 1000000000), .lit (.int .u64 10000000000), .lit (.int .u64 100000000000), .lit (.int .u64 1000000000000), .lit (.int .u64 10000000000000), .lit (.int .u64 100000000000000), .lit (.int .u64 1000000000000000), .lit (.int .u64 10000000000000000), .lit (.int .u64 100000000000000000), .lit (.int .u64 1000000000000000000), .lit (.int .u64 10000000000000000000)]

/-- 'contangolaw01.HandSpells': WHATEVER THE INPUT: true; the input reads as it did. -/
def handSpellsSpec : ChangeSpec := { name := "handSpells", fn := fun _ => fun
  | [d1, d2, d3] => { results := [.lit (.bool true)], args := [d1, d2, d3] }
  | _ => none }
def handSpellsRow : OpenClaim := { program := "ytmagdbdlbnijaaagreatdoor", sum := "d7269db8f6390d7edb89bba7e57bc219179860addcbaa7ee6c3014de31e016f9", func := "contango/contangolaw01.HandSpells", spec := "handSpells", inPlace := ["internal/bytealg.IndexByteString", "internal/bytealg.IndexString"], unfollowed := true, recurses := true, named := ["internal/bytealg.MaxLen", "internal/strconv.uint64pow10", "math/bits.deBruijn32tab", "math/bits.deBruijn64tab"], plainKeys := false, apart := false, laid := [("math/bits.deBruijn32tab", laid_math_bits_deBruijn32tab), ("math/bits.deBruijn64tab", laid_math_bits_deBruijn64tab), ("internal/strconv.uint64pow10", laid_internal_strconv_uint64pow10)] }
def HandSpellsSaid : Prop := handSpellsRow.holds Tryz.pinned (OpenSpec.ofChange handSpellsSpec)

/-- ITS FALSE NEIGHBOUR: 'it returns false'. Refute it at one input. -/
def handSpellsWrong : ChangeSpec := { name := "handSpells", fn := fun _ => fun
  | [d1, d2, d3] => { results := [.lit (.bool false)], args := [d1, d2, d3] }
  | _ => none }
def HandSpellsWrongFalsely : Prop := handSpellsRow.holds Tryz.pinned (OpenSpec.ofChange handSpellsWrong)

/-- 'contangolaw01.HandMisreads': WHATEVER THE INPUT: true; the input reads as it did. -/
def handMisreadsSpec : ChangeSpec := { name := "handMisreads", fn := fun _ => fun
  | [d1, d2, d3, d4, d5] => { results := [.lit (.bool true)], args := [d1, d2, d3, d4, d5] }
  | _ => none }
def handMisreadsRow : OpenClaim := { program := "ytmagdbdlbnijaaagreatdoor", sum := "d7269db8f6390d7edb89bba7e57bc219179860addcbaa7ee6c3014de31e016f9", func := "contango/contangolaw01.HandMisreads", spec := "handMisreads", inPlace := ["internal/bytealg.IndexByteString", "internal/bytealg.IndexString"], unfollowed := true, recurses := true, named := ["internal/bytealg.MaxLen", "internal/strconv.uint64pow10", "math/bits.deBruijn32tab", "math/bits.deBruijn64tab"], plainKeys := false, apart := false, laid := [("math/bits.deBruijn32tab", laid_math_bits_deBruijn32tab), ("math/bits.deBruijn64tab", laid_math_bits_deBruijn64tab), ("internal/strconv.uint64pow10", laid_internal_strconv_uint64pow10)] }
def HandMisreadsSaid : Prop := handMisreadsRow.holds Tryz.pinned (OpenSpec.ofChange handMisreadsSpec)

/-- ITS FALSE NEIGHBOUR: 'it returns false'. Refute it at one input. -/
def handMisreadsWrong : ChangeSpec := { name := "handMisreads", fn := fun _ => fun
  | [d1, d2, d3, d4, d5] => { results := [.lit (.bool false)], args := [d1, d2, d3, d4, d5] }
  | _ => none }
def HandMisreadsWrongFalsely : Prop := handMisreadsRow.holds Tryz.pinned (OpenSpec.ofChange handMisreadsWrong)

/-- 'contangolaw01.HandWrites': WHATEVER THE INPUT: true; the input reads as it did. -/
def handWritesSpec : ChangeSpec := { name := "handWrites", fn := fun _ => fun
  | [d1, d2] => { results := [.lit (.bool true)], args := [d1, d2] }
  | _ => none }
def handWritesRow : OpenClaim := { program := "ytmagdbdlbnijaaagreatdoor", sum := "d7269db8f6390d7edb89bba7e57bc219179860addcbaa7ee6c3014de31e016f9", func := "contango/contangolaw01.HandWrites", spec := "handWrites", inPlace := ["internal/bytealg.IndexByteString", "internal/bytealg.IndexString"], unfollowed := true, recurses := true, named := ["internal/bytealg.MaxLen", "internal/strconv.uint64pow10", "math/bits.deBruijn32tab", "math/bits.deBruijn64tab"], plainKeys := false, apart := false, laid := [("math/bits.deBruijn32tab", laid_math_bits_deBruijn32tab), ("math/bits.deBruijn64tab", laid_math_bits_deBruijn64tab), ("internal/strconv.uint64pow10", laid_internal_strconv_uint64pow10)] }
def HandWritesSaid : Prop := handWritesRow.holds Tryz.pinned (OpenSpec.ofChange handWritesSpec)

/-- ITS FALSE NEIGHBOUR: 'it returns false'. Refute it at one input. -/
def handWritesWrong : ChangeSpec := { name := "handWrites", fn := fun _ => fun
  | [d1, d2] => { results := [.lit (.bool false)], args := [d1, d2] }
  | _ => none }
def HandWritesWrongFalsely : Prop := handWritesRow.holds Tryz.pinned (OpenSpec.ofChange handWritesWrong)

/-- 'contangolaw01.HandFurther': WHATEVER THE INPUT: true; the input reads as it did. -/
def handFurtherSpec : ChangeSpec := { name := "handFurther", fn := fun _ => fun
  | [d1, d2, d3] => { results := [.lit (.bool true)], args := [d1, d2, d3] }
  | _ => none }
def handFurtherRow : OpenClaim := { program := "ytmagdbdlbnijaaagreatdoor", sum := "d7269db8f6390d7edb89bba7e57bc219179860addcbaa7ee6c3014de31e016f9", func := "contango/contangolaw01.HandFurther", spec := "handFurther", inPlace := ["internal/bytealg.IndexByteString", "internal/bytealg.IndexString"], unfollowed := true, recurses := true, named := ["internal/bytealg.MaxLen", "internal/strconv.uint64pow10", "math/bits.deBruijn32tab", "math/bits.deBruijn64tab"], plainKeys := false, apart := false, laid := [("math/bits.deBruijn32tab", laid_math_bits_deBruijn32tab), ("math/bits.deBruijn64tab", laid_math_bits_deBruijn64tab), ("internal/strconv.uint64pow10", laid_internal_strconv_uint64pow10)] }
def HandFurtherSaid : Prop := handFurtherRow.holds Tryz.pinned (OpenSpec.ofChange handFurtherSpec)

/-- ITS FALSE NEIGHBOUR: 'it returns false'. Refute it at one input. -/
def handFurtherWrong : ChangeSpec := { name := "handFurther", fn := fun _ => fun
  | [d1, d2, d3] => { results := [.lit (.bool false)], args := [d1, d2, d3] }
  | _ => none }
def HandFurtherWrongFalsely : Prop := handFurtherRow.holds Tryz.pinned (OpenSpec.ofChange handFurtherWrong)

/-- 'contangolaw01.HandLeaves': WHATEVER THE INPUT: true; the input reads as it did. -/
def handLeavesSpec : ChangeSpec := { name := "handLeaves", fn := fun _ => fun
  | [d1, d2] => { results := [.lit (.bool true)], args := [d1, d2] }
  | _ => none }
def handLeavesRow : OpenClaim := { program := "ytmagdbdlbnijaaagreatdoor", sum := "d7269db8f6390d7edb89bba7e57bc219179860addcbaa7ee6c3014de31e016f9", func := "contango/contangolaw01.HandLeaves", spec := "handLeaves", inPlace := ["internal/bytealg.IndexByteString", "internal/bytealg.IndexString"], unfollowed := true, recurses := true, named := ["internal/bytealg.MaxLen", "internal/strconv.uint64pow10", "math/bits.deBruijn32tab", "math/bits.deBruijn64tab"], plainKeys := false, apart := false, laid := [("math/bits.deBruijn32tab", laid_math_bits_deBruijn32tab), ("math/bits.deBruijn64tab", laid_math_bits_deBruijn64tab), ("internal/strconv.uint64pow10", laid_internal_strconv_uint64pow10)] }
def HandLeavesSaid : Prop := handLeavesRow.holds Tryz.pinned (OpenSpec.ofChange handLeavesSpec)

/-- ITS FALSE NEIGHBOUR: 'it returns false'. Refute it at one input. -/
def handLeavesWrong : ChangeSpec := { name := "handLeaves", fn := fun _ => fun
  | [d1, d2] => { results := [.lit (.bool false)], args := [d1, d2] }
  | _ => none }
def HandLeavesWrongFalsely : Prop := handLeavesRow.holds Tryz.pinned (OpenSpec.ofChange handLeavesWrong)

/-- 'contangolaw01.HandNames': WHATEVER THE INPUT: true; the input reads as it did. -/
def handNamesSpec : ChangeSpec := { name := "handNames", fn := fun _ => fun
  | [] => { results := [.lit (.bool true)], args := [] }
  | _ => none }
def handNamesRow : OpenClaim := { program := "ytmagdbdlbnijaaagreatdoor", sum := "d7269db8f6390d7edb89bba7e57bc219179860addcbaa7ee6c3014de31e016f9", func := "contango/contangolaw01.HandNames", spec := "handNames", inPlace := ["internal/bytealg.IndexByteString", "internal/bytealg.IndexString"], unfollowed := true, recurses := true, named := ["internal/strconv.uint64pow10", "math/bits.deBruijn32tab", "math/bits.deBruijn64tab", "internal/bytealg.MaxLen"], plainKeys := false, apart := false, laid := [("math/bits.deBruijn32tab", laid_math_bits_deBruijn32tab), ("math/bits.deBruijn64tab", laid_math_bits_deBruijn64tab), ("internal/strconv.uint64pow10", laid_internal_strconv_uint64pow10)] }
def HandNamesSaid : Prop := handNamesRow.holds Tryz.pinned (OpenSpec.ofChange handNamesSpec)

/-- ITS FALSE NEIGHBOUR: 'it returns false'. Refute it at one input. -/
def handNamesWrong : ChangeSpec := { name := "handNames", fn := fun _ => fun
  | [] => { results := [.lit (.bool false)], args := [] }
  | _ => none }
def HandNamesWrongFalsely : Prop := handNamesRow.holds Tryz.pinned (OpenSpec.ofChange handNamesWrong)

/-- 'contangolaw01.HandTruth': WHATEVER THE INPUT: true; the input reads as it did. -/
def handTruthSpec : ChangeSpec := { name := "handTruth", fn := fun _ => fun
  | [d1, d2, d3, d4] => { results := [.lit (.bool true)], args := [d1, d2, d3, d4] }
  | _ => none }
def handTruthRow : OpenClaim := { program := "ytmagdbdlbnijaaagreatdoor", sum := "d7269db8f6390d7edb89bba7e57bc219179860addcbaa7ee6c3014de31e016f9", func := "contango/contangolaw01.HandTruth", spec := "handTruth", inPlace := ["internal/bytealg.IndexByteString", "internal/bytealg.IndexString"], unfollowed := true, recurses := true, named := ["internal/bytealg.MaxLen", "internal/strconv.uint64pow10", "math/bits.deBruijn32tab", "math/bits.deBruijn64tab"], plainKeys := false, apart := false, laid := [("math/bits.deBruijn32tab", laid_math_bits_deBruijn32tab), ("math/bits.deBruijn64tab", laid_math_bits_deBruijn64tab), ("internal/strconv.uint64pow10", laid_internal_strconv_uint64pow10)] }
def HandTruthSaid : Prop := handTruthRow.holds Tryz.pinned (OpenSpec.ofChange handTruthSpec)

/-- ITS FALSE NEIGHBOUR: 'it returns false'. Refute it at one input. -/
def handTruthWrong : ChangeSpec := { name := "handTruth", fn := fun _ => fun
  | [d1, d2, d3, d4] => { results := [.lit (.bool false)], args := [d1, d2, d3, d4] }
  | _ => none }
def HandTruthWrongFalsely : Prop := handTruthRow.holds Tryz.pinned (OpenSpec.ofChange handTruthWrong)

/-- 'contangolaw01.HandBack': WHATEVER THE INPUT: true; the input reads as it did. -/
def handBackSpec : ChangeSpec := { name := "handBack", fn := fun _ => fun
  | [d1, d2] => { results := [.lit (.bool true)], args := [d1, d2] }
  | _ => none }
def handBackRow : OpenClaim := { program := "ytmagdbdlbnijaaagreatdoor", sum := "d7269db8f6390d7edb89bba7e57bc219179860addcbaa7ee6c3014de31e016f9", func := "contango/contangolaw01.HandBack", spec := "handBack", inPlace := ["internal/bytealg.IndexByteString", "internal/bytealg.IndexString"], unfollowed := true, recurses := true, named := ["internal/bytealg.MaxLen", "internal/strconv.uint64pow10", "math/bits.deBruijn32tab", "math/bits.deBruijn64tab"], plainKeys := false, apart := false, laid := [("math/bits.deBruijn32tab", laid_math_bits_deBruijn32tab), ("math/bits.deBruijn64tab", laid_math_bits_deBruijn64tab), ("internal/strconv.uint64pow10", laid_internal_strconv_uint64pow10)] }
def HandBackSaid : Prop := handBackRow.holds Tryz.pinned (OpenSpec.ofChange handBackSpec)

/-- ITS FALSE NEIGHBOUR: 'it returns false'. Refute it at one input. -/
def handBackWrong : ChangeSpec := { name := "handBack", fn := fun _ => fun
  | [d1, d2] => { results := [.lit (.bool false)], args := [d1, d2] }
  | _ => none }
def HandBackWrongFalsely : Prop := handBackRow.holds Tryz.pinned (OpenSpec.ofChange handBackWrong)

/-- 'contangolaw01.HandMore': WHATEVER THE INPUT: true; the input reads as it did. -/
def handMoreSpec : ChangeSpec := { name := "handMore", fn := fun _ => fun
  | [d1, d2, d3, d4, d5, d6, d7] => { results := [.lit (.bool true)], args := [d1, d2, d3, d4, d5, d6, d7] }
  | _ => none }
def handMoreRow : OpenClaim := { program := "ytmagdbdlbnijaaagreatdoor", sum := "d7269db8f6390d7edb89bba7e57bc219179860addcbaa7ee6c3014de31e016f9", func := "contango/contangolaw01.HandMore", spec := "handMore", inPlace := ["internal/bytealg.IndexByteString", "internal/bytealg.IndexString"], unfollowed := true, recurses := true, named := ["internal/bytealg.MaxLen", "internal/strconv.uint64pow10", "math/bits.deBruijn32tab", "math/bits.deBruijn64tab"], plainKeys := false, apart := false, laid := [("math/bits.deBruijn32tab", laid_math_bits_deBruijn32tab), ("math/bits.deBruijn64tab", laid_math_bits_deBruijn64tab), ("internal/strconv.uint64pow10", laid_internal_strconv_uint64pow10)] }
def HandMoreSaid : Prop := handMoreRow.holds Tryz.pinned (OpenSpec.ofChange handMoreSpec)

/-- ITS FALSE NEIGHBOUR: 'it returns false'. Refute it at one input. -/
def handMoreWrong : ChangeSpec := { name := "handMore", fn := fun _ => fun
  | [d1, d2, d3, d4, d5, d6, d7] => { results := [.lit (.bool false)], args := [d1, d2, d3, d4, d5, d6, d7] }
  | _ => none }
def HandMoreWrongFalsely : Prop := handMoreRow.holds Tryz.pinned (OpenSpec.ofChange handMoreWrong)

/-- 'contangolaw01.HandErrors': WHATEVER THE INPUT: true; the input reads as it did. -/
def handErrorsSpec : ChangeSpec := { name := "handErrors", fn := fun _ => fun
  | [d1, d2, d3, d4, d5, d6, d7] => { results := [.lit (.bool true)], args := [d1, d2, d3, d4, d5, d6, d7] }
  | _ => none }
def handErrorsRow : OpenClaim := { program := "ytmagdbdlbnijaaagreatdoor", sum := "d7269db8f6390d7edb89bba7e57bc219179860addcbaa7ee6c3014de31e016f9", func := "contango/contangolaw01.HandErrors", spec := "handErrors", inPlace := ["internal/bytealg.IndexByteString", "internal/bytealg.IndexString"], unfollowed := true, recurses := true, named := ["internal/bytealg.MaxLen", "internal/strconv.uint64pow10", "math/bits.deBruijn32tab", "math/bits.deBruijn64tab"], plainKeys := false, apart := false, laid := [("math/bits.deBruijn32tab", laid_math_bits_deBruijn32tab), ("math/bits.deBruijn64tab", laid_math_bits_deBruijn64tab), ("internal/strconv.uint64pow10", laid_internal_strconv_uint64pow10)] }
def HandErrorsSaid : Prop := handErrorsRow.holds Tryz.pinned (OpenSpec.ofChange handErrorsSpec)

/-- ITS FALSE NEIGHBOUR: 'it returns false'. Refute it at one input. -/
def handErrorsWrong : ChangeSpec := { name := "handErrors", fn := fun _ => fun
  | [d1, d2, d3, d4, d5, d6, d7] => { results := [.lit (.bool false)], args := [d1, d2, d3, d4, d5, d6, d7] }
  | _ => none }
def HandErrorsWrongFalsely : Prop := handErrorsRow.holds Tryz.pinned (OpenSpec.ofChange handErrorsWrong)

/-- 'contangolaw01.HandLooks': WHATEVER THE INPUT: true; the input reads as it did. -/
def handLooksSpec : ChangeSpec := { name := "handLooks", fn := fun _ => fun
  | [d1, d2, d3, d4, d5] => { results := [.lit (.bool true)], args := [d1, d2, d3, d4, d5] }
  | _ => none }
def handLooksRow : OpenClaim := { program := "ytmagdbdlbnijaaagreatdoor", sum := "d7269db8f6390d7edb89bba7e57bc219179860addcbaa7ee6c3014de31e016f9", func := "contango/contangolaw01.HandLooks", spec := "handLooks", inPlace := ["internal/bytealg.IndexByteString", "internal/bytealg.IndexString"], unfollowed := true, recurses := true, named := ["internal/bytealg.MaxLen", "internal/strconv.uint64pow10", "math/bits.deBruijn32tab", "math/bits.deBruijn64tab"], plainKeys := false, apart := false, laid := [("math/bits.deBruijn32tab", laid_math_bits_deBruijn32tab), ("math/bits.deBruijn64tab", laid_math_bits_deBruijn64tab), ("internal/strconv.uint64pow10", laid_internal_strconv_uint64pow10)] }
def HandLooksSaid : Prop := handLooksRow.holds Tryz.pinned (OpenSpec.ofChange handLooksSpec)

/-- ITS FALSE NEIGHBOUR: 'it returns false'. Refute it at one input. -/
def handLooksWrong : ChangeSpec := { name := "handLooks", fn := fun _ => fun
  | [d1, d2, d3, d4, d5] => { results := [.lit (.bool false)], args := [d1, d2, d3, d4, d5] }
  | _ => none }
def HandLooksWrongFalsely : Prop := handLooksRow.holds Tryz.pinned (OpenSpec.ofChange handLooksWrong)

/-- 'contangolaw01.HandLeft': WHATEVER THE INPUT: true; the input reads as it did. -/
def handLeftSpec : ChangeSpec := { name := "handLeft", fn := fun _ => fun
  | [d1, d2, d3, d4, d5, d6] => { results := [.lit (.bool true)], args := [d1, d2, d3, d4, d5, d6] }
  | _ => none }
def handLeftRow : OpenClaim := { program := "ytmagdbdlbnijaaagreatdoor", sum := "d7269db8f6390d7edb89bba7e57bc219179860addcbaa7ee6c3014de31e016f9", func := "contango/contangolaw01.HandLeft", spec := "handLeft", inPlace := ["internal/bytealg.IndexByteString", "internal/bytealg.IndexString"], unfollowed := true, recurses := true, named := ["internal/bytealg.MaxLen", "internal/strconv.uint64pow10", "math/bits.deBruijn32tab", "math/bits.deBruijn64tab"], plainKeys := false, apart := false, laid := [("math/bits.deBruijn32tab", laid_math_bits_deBruijn32tab), ("math/bits.deBruijn64tab", laid_math_bits_deBruijn64tab), ("internal/strconv.uint64pow10", laid_internal_strconv_uint64pow10)] }
def HandLeftSaid : Prop := handLeftRow.holds Tryz.pinned (OpenSpec.ofChange handLeftSpec)

/-- ITS FALSE NEIGHBOUR: 'it returns false'. Refute it at one input. -/
def handLeftWrong : ChangeSpec := { name := "handLeft", fn := fun _ => fun
  | [d1, d2, d3, d4, d5, d6] => { results := [.lit (.bool false)], args := [d1, d2, d3, d4, d5, d6] }
  | _ => none }
def HandLeftWrongFalsely : Prop := handLeftRow.holds Tryz.pinned (OpenSpec.ofChange handLeftWrong)

/- THE SECOND FORM. 'bulk': how many values and letters a reading holds, each counted each time it is reached (what is shared counts as often as it is met; a slice's spare places count too). A statement '..UptoSaid' is the law's where the arguments, and the package variables that the reading takes, are together of bulk at most 1048576: NARROWER than '..Said'. Prove '..Said' where nothing that the law and all that it calls make is longer than what came in: it says more and counts as full. Else prove '..UptoSaid'. A law counts once. -/
mutual
def uptoBulk {H : Type} : DataW H → Nat
  | .lit (.string bytes) => bytes.length + 1
  | .lit _ => 1
  | .nil => 1
  | .ptr d => uptoBulk d + 1
  | .slice elems spare => uptoBulkAll elems + uptoBulkAll spare + 1
  | .agg parts => uptoBulkAll parts + 1
  | .iface _ d => uptoBulk d + 1
  | .map entries => uptoBulkEntries entries + 1
  | .held _ => 1
def uptoBulkAll {H : Type} : List (DataW H) → Nat
  | [] => 0
  | d :: r => uptoBulk d + uptoBulkAll r
def uptoBulkEntries {H : Type} : List (Lit × DataW H) → Nat
  | [] => 0
  | x :: r => uptoBulkEntry x + uptoBulkEntries r
def uptoBulkEntry {H : Type} : Lit × DataW H → Nat
  | (.string bytes, d) => bytes.length + uptoBulk d + 1
  | (_, d) => uptoBulk d + 1
 end
def uptoSmall : (H : Type) → List (DataW H) → Bool := fun _ ds => decide (uptoBulkAll ds ≤ 1048576)
def OpenSpec.upto (s : _root_.Go.ChangeSpec) : _root_.Go.OpenSpec := { _root_.Go.OpenSpec.ofChange s with cond := some uptoSmall }

/-- 'contangolaw01.HandSpells', WHERE WHAT IT READS IS OF BULK AT MOST 1048576: true; the input reads as it did. -/
def handSpellsUptoRow : OpenClaim := { program := "ytmagdbdlbnijaaagreatdoor", sum := "d7269db8f6390d7edb89bba7e57bc219179860addcbaa7ee6c3014de31e016f9", func := "contango/contangolaw01.HandSpells", spec := "handSpells", inPlace := ["internal/bytealg.IndexByteString", "internal/bytealg.IndexString"], unfollowed := true, recurses := true, named := ["internal/bytealg.MaxLen", "internal/strconv.uint64pow10", "math/bits.deBruijn32tab", "math/bits.deBruijn64tab"], plainKeys := false, apart := false, laid := [("math/bits.deBruijn32tab", laid_math_bits_deBruijn32tab), ("math/bits.deBruijn64tab", laid_math_bits_deBruijn64tab), ("internal/strconv.uint64pow10", laid_internal_strconv_uint64pow10)], narrowed := true }
def HandSpellsUptoSaid : Prop := handSpellsUptoRow.holds Tryz.pinned (OpenSpec.upto handSpellsSpec)

/-- 'contangolaw01.HandMisreads', WHERE WHAT IT READS IS OF BULK AT MOST 1048576: true; the input reads as it did. -/
def handMisreadsUptoRow : OpenClaim := { program := "ytmagdbdlbnijaaagreatdoor", sum := "d7269db8f6390d7edb89bba7e57bc219179860addcbaa7ee6c3014de31e016f9", func := "contango/contangolaw01.HandMisreads", spec := "handMisreads", inPlace := ["internal/bytealg.IndexByteString", "internal/bytealg.IndexString"], unfollowed := true, recurses := true, named := ["internal/bytealg.MaxLen", "internal/strconv.uint64pow10", "math/bits.deBruijn32tab", "math/bits.deBruijn64tab"], plainKeys := false, apart := false, laid := [("math/bits.deBruijn32tab", laid_math_bits_deBruijn32tab), ("math/bits.deBruijn64tab", laid_math_bits_deBruijn64tab), ("internal/strconv.uint64pow10", laid_internal_strconv_uint64pow10)], narrowed := true }
def HandMisreadsUptoSaid : Prop := handMisreadsUptoRow.holds Tryz.pinned (OpenSpec.upto handMisreadsSpec)

/-- 'contangolaw01.HandWrites', WHERE WHAT IT READS IS OF BULK AT MOST 1048576: true; the input reads as it did. -/
def handWritesUptoRow : OpenClaim := { program := "ytmagdbdlbnijaaagreatdoor", sum := "d7269db8f6390d7edb89bba7e57bc219179860addcbaa7ee6c3014de31e016f9", func := "contango/contangolaw01.HandWrites", spec := "handWrites", inPlace := ["internal/bytealg.IndexByteString", "internal/bytealg.IndexString"], unfollowed := true, recurses := true, named := ["internal/bytealg.MaxLen", "internal/strconv.uint64pow10", "math/bits.deBruijn32tab", "math/bits.deBruijn64tab"], plainKeys := false, apart := false, laid := [("math/bits.deBruijn32tab", laid_math_bits_deBruijn32tab), ("math/bits.deBruijn64tab", laid_math_bits_deBruijn64tab), ("internal/strconv.uint64pow10", laid_internal_strconv_uint64pow10)], narrowed := true }
def HandWritesUptoSaid : Prop := handWritesUptoRow.holds Tryz.pinned (OpenSpec.upto handWritesSpec)

/-- 'contangolaw01.HandFurther', WHERE WHAT IT READS IS OF BULK AT MOST 1048576: true; the input reads as it did. -/
def handFurtherUptoRow : OpenClaim := { program := "ytmagdbdlbnijaaagreatdoor", sum := "d7269db8f6390d7edb89bba7e57bc219179860addcbaa7ee6c3014de31e016f9", func := "contango/contangolaw01.HandFurther", spec := "handFurther", inPlace := ["internal/bytealg.IndexByteString", "internal/bytealg.IndexString"], unfollowed := true, recurses := true, named := ["internal/bytealg.MaxLen", "internal/strconv.uint64pow10", "math/bits.deBruijn32tab", "math/bits.deBruijn64tab"], plainKeys := false, apart := false, laid := [("math/bits.deBruijn32tab", laid_math_bits_deBruijn32tab), ("math/bits.deBruijn64tab", laid_math_bits_deBruijn64tab), ("internal/strconv.uint64pow10", laid_internal_strconv_uint64pow10)], narrowed := true }
def HandFurtherUptoSaid : Prop := handFurtherUptoRow.holds Tryz.pinned (OpenSpec.upto handFurtherSpec)

/-- 'contangolaw01.HandLeaves', WHERE WHAT IT READS IS OF BULK AT MOST 1048576: true; the input reads as it did. -/
def handLeavesUptoRow : OpenClaim := { program := "ytmagdbdlbnijaaagreatdoor", sum := "d7269db8f6390d7edb89bba7e57bc219179860addcbaa7ee6c3014de31e016f9", func := "contango/contangolaw01.HandLeaves", spec := "handLeaves", inPlace := ["internal/bytealg.IndexByteString", "internal/bytealg.IndexString"], unfollowed := true, recurses := true, named := ["internal/bytealg.MaxLen", "internal/strconv.uint64pow10", "math/bits.deBruijn32tab", "math/bits.deBruijn64tab"], plainKeys := false, apart := false, laid := [("math/bits.deBruijn32tab", laid_math_bits_deBruijn32tab), ("math/bits.deBruijn64tab", laid_math_bits_deBruijn64tab), ("internal/strconv.uint64pow10", laid_internal_strconv_uint64pow10)], narrowed := true }
def HandLeavesUptoSaid : Prop := handLeavesUptoRow.holds Tryz.pinned (OpenSpec.upto handLeavesSpec)

/-- 'contangolaw01.HandNames', WHERE WHAT IT READS IS OF BULK AT MOST 1048576: true; the input reads as it did. -/
def handNamesUptoRow : OpenClaim := { program := "ytmagdbdlbnijaaagreatdoor", sum := "d7269db8f6390d7edb89bba7e57bc219179860addcbaa7ee6c3014de31e016f9", func := "contango/contangolaw01.HandNames", spec := "handNames", inPlace := ["internal/bytealg.IndexByteString", "internal/bytealg.IndexString"], unfollowed := true, recurses := true, named := ["internal/strconv.uint64pow10", "math/bits.deBruijn32tab", "math/bits.deBruijn64tab", "internal/bytealg.MaxLen"], plainKeys := false, apart := false, laid := [("math/bits.deBruijn32tab", laid_math_bits_deBruijn32tab), ("math/bits.deBruijn64tab", laid_math_bits_deBruijn64tab), ("internal/strconv.uint64pow10", laid_internal_strconv_uint64pow10)], narrowed := true }
def HandNamesUptoSaid : Prop := handNamesUptoRow.holds Tryz.pinned (OpenSpec.upto handNamesSpec)

/-- 'contangolaw01.HandTruth', WHERE WHAT IT READS IS OF BULK AT MOST 1048576: true; the input reads as it did. -/
def handTruthUptoRow : OpenClaim := { program := "ytmagdbdlbnijaaagreatdoor", sum := "d7269db8f6390d7edb89bba7e57bc219179860addcbaa7ee6c3014de31e016f9", func := "contango/contangolaw01.HandTruth", spec := "handTruth", inPlace := ["internal/bytealg.IndexByteString", "internal/bytealg.IndexString"], unfollowed := true, recurses := true, named := ["internal/bytealg.MaxLen", "internal/strconv.uint64pow10", "math/bits.deBruijn32tab", "math/bits.deBruijn64tab"], plainKeys := false, apart := false, laid := [("math/bits.deBruijn32tab", laid_math_bits_deBruijn32tab), ("math/bits.deBruijn64tab", laid_math_bits_deBruijn64tab), ("internal/strconv.uint64pow10", laid_internal_strconv_uint64pow10)], narrowed := true }
def HandTruthUptoSaid : Prop := handTruthUptoRow.holds Tryz.pinned (OpenSpec.upto handTruthSpec)

/-- 'contangolaw01.HandBack', WHERE WHAT IT READS IS OF BULK AT MOST 1048576: true; the input reads as it did. -/
def handBackUptoRow : OpenClaim := { program := "ytmagdbdlbnijaaagreatdoor", sum := "d7269db8f6390d7edb89bba7e57bc219179860addcbaa7ee6c3014de31e016f9", func := "contango/contangolaw01.HandBack", spec := "handBack", inPlace := ["internal/bytealg.IndexByteString", "internal/bytealg.IndexString"], unfollowed := true, recurses := true, named := ["internal/bytealg.MaxLen", "internal/strconv.uint64pow10", "math/bits.deBruijn32tab", "math/bits.deBruijn64tab"], plainKeys := false, apart := false, laid := [("math/bits.deBruijn32tab", laid_math_bits_deBruijn32tab), ("math/bits.deBruijn64tab", laid_math_bits_deBruijn64tab), ("internal/strconv.uint64pow10", laid_internal_strconv_uint64pow10)], narrowed := true }
def HandBackUptoSaid : Prop := handBackUptoRow.holds Tryz.pinned (OpenSpec.upto handBackSpec)

/-- 'contangolaw01.HandMore', WHERE WHAT IT READS IS OF BULK AT MOST 1048576: true; the input reads as it did. -/
def handMoreUptoRow : OpenClaim := { program := "ytmagdbdlbnijaaagreatdoor", sum := "d7269db8f6390d7edb89bba7e57bc219179860addcbaa7ee6c3014de31e016f9", func := "contango/contangolaw01.HandMore", spec := "handMore", inPlace := ["internal/bytealg.IndexByteString", "internal/bytealg.IndexString"], unfollowed := true, recurses := true, named := ["internal/bytealg.MaxLen", "internal/strconv.uint64pow10", "math/bits.deBruijn32tab", "math/bits.deBruijn64tab"], plainKeys := false, apart := false, laid := [("math/bits.deBruijn32tab", laid_math_bits_deBruijn32tab), ("math/bits.deBruijn64tab", laid_math_bits_deBruijn64tab), ("internal/strconv.uint64pow10", laid_internal_strconv_uint64pow10)], narrowed := true }
def HandMoreUptoSaid : Prop := handMoreUptoRow.holds Tryz.pinned (OpenSpec.upto handMoreSpec)

/-- 'contangolaw01.HandErrors', WHERE WHAT IT READS IS OF BULK AT MOST 1048576: true; the input reads as it did. -/
def handErrorsUptoRow : OpenClaim := { program := "ytmagdbdlbnijaaagreatdoor", sum := "d7269db8f6390d7edb89bba7e57bc219179860addcbaa7ee6c3014de31e016f9", func := "contango/contangolaw01.HandErrors", spec := "handErrors", inPlace := ["internal/bytealg.IndexByteString", "internal/bytealg.IndexString"], unfollowed := true, recurses := true, named := ["internal/bytealg.MaxLen", "internal/strconv.uint64pow10", "math/bits.deBruijn32tab", "math/bits.deBruijn64tab"], plainKeys := false, apart := false, laid := [("math/bits.deBruijn32tab", laid_math_bits_deBruijn32tab), ("math/bits.deBruijn64tab", laid_math_bits_deBruijn64tab), ("internal/strconv.uint64pow10", laid_internal_strconv_uint64pow10)], narrowed := true }
def HandErrorsUptoSaid : Prop := handErrorsUptoRow.holds Tryz.pinned (OpenSpec.upto handErrorsSpec)

/-- 'contangolaw01.HandLooks', WHERE WHAT IT READS IS OF BULK AT MOST 1048576: true; the input reads as it did. -/
def handLooksUptoRow : OpenClaim := { program := "ytmagdbdlbnijaaagreatdoor", sum := "d7269db8f6390d7edb89bba7e57bc219179860addcbaa7ee6c3014de31e016f9", func := "contango/contangolaw01.HandLooks", spec := "handLooks", inPlace := ["internal/bytealg.IndexByteString", "internal/bytealg.IndexString"], unfollowed := true, recurses := true, named := ["internal/bytealg.MaxLen", "internal/strconv.uint64pow10", "math/bits.deBruijn32tab", "math/bits.deBruijn64tab"], plainKeys := false, apart := false, laid := [("math/bits.deBruijn32tab", laid_math_bits_deBruijn32tab), ("math/bits.deBruijn64tab", laid_math_bits_deBruijn64tab), ("internal/strconv.uint64pow10", laid_internal_strconv_uint64pow10)], narrowed := true }
def HandLooksUptoSaid : Prop := handLooksUptoRow.holds Tryz.pinned (OpenSpec.upto handLooksSpec)

/-- 'contangolaw01.HandLeft', WHERE WHAT IT READS IS OF BULK AT MOST 1048576: true; the input reads as it did. -/
def handLeftUptoRow : OpenClaim := { program := "ytmagdbdlbnijaaagreatdoor", sum := "d7269db8f6390d7edb89bba7e57bc219179860addcbaa7ee6c3014de31e016f9", func := "contango/contangolaw01.HandLeft", spec := "handLeft", inPlace := ["internal/bytealg.IndexByteString", "internal/bytealg.IndexString"], unfollowed := true, recurses := true, named := ["internal/bytealg.MaxLen", "internal/strconv.uint64pow10", "math/bits.deBruijn32tab", "math/bits.deBruijn64tab"], plainKeys := false, apart := false, laid := [("math/bits.deBruijn32tab", laid_math_bits_deBruijn32tab), ("math/bits.deBruijn64tab", laid_math_bits_deBruijn64tab), ("internal/strconv.uint64pow10", laid_internal_strconv_uint64pow10)], narrowed := true }
def HandLeftUptoSaid : Prop := handLeftUptoRow.holds Tryz.pinned (OpenSpec.upto handLeftSpec)

end Rows
end Go.Proofs.YtmagdbdlbnijaaaGreatDoor
