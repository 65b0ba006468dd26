/-
  DERIVED. GIVEN WITH THE SEED: THE CARDS: each row of YtmagdbdlbnijaaaGreatDoorRows.lean that lists a variable, with what it lists TIED to the program's text (the seventh form; the later family's looks); each row that meets fmt, with fmt's text TOLD by the authors' own Lean function (tested against real Go, not proved from fmt's source: count such statements apart). THE CARD IS WHAT COUNTS. Prove the row's statement (the work); the ties are given (YtmagdbdlbnijaaaGreatDoorTie.lean); close each card by the builder's one call (the guide's Derived/Test/ToyasCard.lean, 'card_holds'). Laid BY PROGRAM, IN A SANDBOX (cutbox-door.mjs). By AI agents, Wed Nov 11 2026. No macro, syntax, notation, axiom, sorry.
-/
import Derived.Test.YtmagdbdlbnijaaaGreatDoorRows
import GoSem.ClaimSeven
namespace Go.Proofs.YtmagdbdlbnijaaaGreatDoor
namespace Rows

/-- THE TIED CARD OF 'contangolaw01.HandSpells'. -/
def handSpellsCard : Claim7 := { stood := { row := handSpellsRow, standIns := [], harness := (true, "530efc0ca9fb226bc231e314e82646f0de3be9c86ca882e75642a9199f1a5ae5"), looks := false }, kinds := [], alts := [], laidByText := true, laidKinds := [.data, .data, .data], laidTests := true, laidLooks := .later }
def HandSpellsCardSaid : Prop := Claim7.holds Tryz.pinned (.plain (OpenSpec.ofChange handSpellsSpec)) handSpellsCard

/-- THE TIED CARD OF 'contangolaw01.HandMisreads'. -/
def handMisreadsCard : Claim7 := { stood := { row := handMisreadsRow, standIns := [], harness := (true, "530efc0ca9fb226bc231e314e82646f0de3be9c86ca882e75642a9199f1a5ae5"), looks := false }, kinds := [], alts := [], laidByText := true, laidKinds := [.data, .data, .data], laidTests := true, laidLooks := .later }
def HandMisreadsCardSaid : Prop := Claim7.holds Tryz.pinned (.plain (OpenSpec.ofChange handMisreadsSpec)) handMisreadsCard

/-- THE TIED CARD OF 'contangolaw01.HandWrites'. -/
def handWritesCard : Claim7 := { stood := { row := handWritesRow, standIns := [], harness := (true, "530efc0ca9fb226bc231e314e82646f0de3be9c86ca882e75642a9199f1a5ae5"), looks := false }, kinds := [], alts := [], laidByText := true, laidKinds := [.data, .data, .data], laidTests := true, laidLooks := .later }
def HandWritesCardSaid : Prop := Claim7.holds Tryz.pinned (.plain (OpenSpec.ofChange handWritesSpec)) handWritesCard

/-- THE TIED CARD OF 'contangolaw01.HandFurther'. -/
def handFurtherCard : Claim7 := { stood := { row := handFurtherRow, standIns := [], harness := (true, "530efc0ca9fb226bc231e314e82646f0de3be9c86ca882e75642a9199f1a5ae5"), looks := false }, kinds := [], alts := [], laidByText := true, laidKinds := [.data, .data, .data], laidTests := true, laidLooks := .later }
def HandFurtherCardSaid : Prop := Claim7.holds Tryz.pinned (.plain (OpenSpec.ofChange handFurtherSpec)) handFurtherCard

/-- THE TIED CARD OF 'contangolaw01.HandLeaves'. -/
def handLeavesCard : Claim7 := { stood := { row := handLeavesRow, standIns := [], harness := (true, "530efc0ca9fb226bc231e314e82646f0de3be9c86ca882e75642a9199f1a5ae5"), looks := false }, kinds := [], alts := [], laidByText := true, laidKinds := [.data, .data, .data], laidTests := true, laidLooks := .later }
def HandLeavesCardSaid : Prop := Claim7.holds Tryz.pinned (.plain (OpenSpec.ofChange handLeavesSpec)) handLeavesCard

/-- THE TIED CARD OF 'contangolaw01.HandNames'. -/
def handNamesCard : Claim7 := { stood := { row := handNamesRow, standIns := [], harness := (true, "530efc0ca9fb226bc231e314e82646f0de3be9c86ca882e75642a9199f1a5ae5"), looks := false }, kinds := [], alts := [], laidByText := true, laidKinds := [.data, .data, .data], laidTests := true, laidLooks := .later }
def HandNamesCardSaid : Prop := Claim7.holds Tryz.pinned (.plain (OpenSpec.ofChange handNamesSpec)) handNamesCard

/-- THE TIED CARD OF 'contangolaw01.HandTruth'. -/
def handTruthCard : Claim7 := { stood := { row := handTruthRow, standIns := [], harness := (true, "530efc0ca9fb226bc231e314e82646f0de3be9c86ca882e75642a9199f1a5ae5"), looks := false }, kinds := [], alts := [], laidByText := true, laidKinds := [.data, .data, .data], laidTests := true, laidLooks := .later }
def HandTruthCardSaid : Prop := Claim7.holds Tryz.pinned (.plain (OpenSpec.ofChange handTruthSpec)) handTruthCard

/-- THE TIED CARD OF 'contangolaw01.HandBack'. -/
def handBackCard : Claim7 := { stood := { row := handBackRow, standIns := [], harness := (true, "530efc0ca9fb226bc231e314e82646f0de3be9c86ca882e75642a9199f1a5ae5"), looks := false }, kinds := [], alts := [], laidByText := true, laidKinds := [.data, .data, .data], laidTests := true, laidLooks := .later }
def HandBackCardSaid : Prop := Claim7.holds Tryz.pinned (.plain (OpenSpec.ofChange handBackSpec)) handBackCard

/-- THE TIED CARD OF 'contangolaw01.HandMore'. -/
def handMoreCard : Claim7 := { stood := { row := handMoreRow, standIns := [], harness := (true, "530efc0ca9fb226bc231e314e82646f0de3be9c86ca882e75642a9199f1a5ae5"), looks := false }, kinds := [], alts := [], laidByText := true, laidKinds := [.data, .data, .data], laidTests := true, laidLooks := .later }
def HandMoreCardSaid : Prop := Claim7.holds Tryz.pinned (.plain (OpenSpec.ofChange handMoreSpec)) handMoreCard

/-- THE TIED CARD OF 'contangolaw01.HandErrors'. -/
def handErrorsCard : Claim7 := { stood := { row := handErrorsRow, standIns := [], harness := (true, "530efc0ca9fb226bc231e314e82646f0de3be9c86ca882e75642a9199f1a5ae5"), looks := false }, kinds := [], alts := [], laidByText := true, laidKinds := [.data, .data, .data], laidTests := true, laidLooks := .later }
def HandErrorsCardSaid : Prop := Claim7.holds Tryz.pinned (.plain (OpenSpec.ofChange handErrorsSpec)) handErrorsCard

/-- THE TIED CARD OF 'contangolaw01.HandLooks'. -/
def handLooksCard : Claim7 := { stood := { row := handLooksRow, standIns := [], harness := (true, "530efc0ca9fb226bc231e314e82646f0de3be9c86ca882e75642a9199f1a5ae5"), looks := false }, kinds := [], alts := [], laidByText := true, laidKinds := [.data, .data, .data], laidTests := true, laidLooks := .later }
def HandLooksCardSaid : Prop := Claim7.holds Tryz.pinned (.plain (OpenSpec.ofChange handLooksSpec)) handLooksCard

/-- THE TIED CARD OF 'contangolaw01.HandLeft'. -/
def handLeftCard : Claim7 := { stood := { row := handLeftRow, standIns := [], harness := (true, "530efc0ca9fb226bc231e314e82646f0de3be9c86ca882e75642a9199f1a5ae5"), looks := false }, kinds := [], alts := [], laidByText := true, laidKinds := [.data, .data, .data], laidTests := true, laidLooks := .later }
def HandLeftCardSaid : Prop := Claim7.holds Tryz.pinned (.plain (OpenSpec.ofChange handLeftSpec)) handLeftCard

/-- THE SECOND FORM's CARD OF 'contangolaw01.HandSpells'. -/
def handSpellsUptoCard : Claim7 := { stood := { row := handSpellsUptoRow, standIns := [], harness := (true, "530efc0ca9fb226bc231e314e82646f0de3be9c86ca882e75642a9199f1a5ae5"), looks := false }, kinds := [], alts := [], laidByText := true, laidKinds := [.data, .data, .data], laidTests := true, laidLooks := .later }
def HandSpellsUptoCardSaid : Prop := Claim7.holds Tryz.pinned (.plain (OpenSpec.upto handSpellsSpec)) handSpellsUptoCard

/-- THE SECOND FORM's CARD OF 'contangolaw01.HandMisreads'. -/
def handMisreadsUptoCard : Claim7 := { stood := { row := handMisreadsUptoRow, standIns := [], harness := (true, "530efc0ca9fb226bc231e314e82646f0de3be9c86ca882e75642a9199f1a5ae5"), looks := false }, kinds := [], alts := [], laidByText := true, laidKinds := [.data, .data, .data], laidTests := true, laidLooks := .later }
def HandMisreadsUptoCardSaid : Prop := Claim7.holds Tryz.pinned (.plain (OpenSpec.upto handMisreadsSpec)) handMisreadsUptoCard

/-- THE SECOND FORM's CARD OF 'contangolaw01.HandWrites'. -/
def handWritesUptoCard : Claim7 := { stood := { row := handWritesUptoRow, standIns := [], harness := (true, "530efc0ca9fb226bc231e314e82646f0de3be9c86ca882e75642a9199f1a5ae5"), looks := false }, kinds := [], alts := [], laidByText := true, laidKinds := [.data, .data, .data], laidTests := true, laidLooks := .later }
def HandWritesUptoCardSaid : Prop := Claim7.holds Tryz.pinned (.plain (OpenSpec.upto handWritesSpec)) handWritesUptoCard

/-- THE SECOND FORM's CARD OF 'contangolaw01.HandFurther'. -/
def handFurtherUptoCard : Claim7 := { stood := { row := handFurtherUptoRow, standIns := [], harness := (true, "530efc0ca9fb226bc231e314e82646f0de3be9c86ca882e75642a9199f1a5ae5"), looks := false }, kinds := [], alts := [], laidByText := true, laidKinds := [.data, .data, .data], laidTests := true, laidLooks := .later }
def HandFurtherUptoCardSaid : Prop := Claim7.holds Tryz.pinned (.plain (OpenSpec.upto handFurtherSpec)) handFurtherUptoCard

/-- THE SECOND FORM's CARD OF 'contangolaw01.HandLeaves'. -/
def handLeavesUptoCard : Claim7 := { stood := { row := handLeavesUptoRow, standIns := [], harness := (true, "530efc0ca9fb226bc231e314e82646f0de3be9c86ca882e75642a9199f1a5ae5"), looks := false }, kinds := [], alts := [], laidByText := true, laidKinds := [.data, .data, .data], laidTests := true, laidLooks := .later }
def HandLeavesUptoCardSaid : Prop := Claim7.holds Tryz.pinned (.plain (OpenSpec.upto handLeavesSpec)) handLeavesUptoCard

/-- THE SECOND FORM's CARD OF 'contangolaw01.HandNames'. -/
def handNamesUptoCard : Claim7 := { stood := { row := handNamesUptoRow, standIns := [], harness := (true, "530efc0ca9fb226bc231e314e82646f0de3be9c86ca882e75642a9199f1a5ae5"), looks := false }, kinds := [], alts := [], laidByText := true, laidKinds := [.data, .data, .data], laidTests := true, laidLooks := .later }
def HandNamesUptoCardSaid : Prop := Claim7.holds Tryz.pinned (.plain (OpenSpec.upto handNamesSpec)) handNamesUptoCard

/-- THE SECOND FORM's CARD OF 'contangolaw01.HandTruth'. -/
def handTruthUptoCard : Claim7 := { stood := { row := handTruthUptoRow, standIns := [], harness := (true, "530efc0ca9fb226bc231e314e82646f0de3be9c86ca882e75642a9199f1a5ae5"), looks := false }, kinds := [], alts := [], laidByText := true, laidKinds := [.data, .data, .data], laidTests := true, laidLooks := .later }
def HandTruthUptoCardSaid : Prop := Claim7.holds Tryz.pinned (.plain (OpenSpec.upto handTruthSpec)) handTruthUptoCard

/-- THE SECOND FORM's CARD OF 'contangolaw01.HandBack'. -/
def handBackUptoCard : Claim7 := { stood := { row := handBackUptoRow, standIns := [], harness := (true, "530efc0ca9fb226bc231e314e82646f0de3be9c86ca882e75642a9199f1a5ae5"), looks := false }, kinds := [], alts := [], laidByText := true, laidKinds := [.data, .data, .data], laidTests := true, laidLooks := .later }
def HandBackUptoCardSaid : Prop := Claim7.holds Tryz.pinned (.plain (OpenSpec.upto handBackSpec)) handBackUptoCard

/-- THE SECOND FORM's CARD OF 'contangolaw01.HandMore'. -/
def handMoreUptoCard : Claim7 := { stood := { row := handMoreUptoRow, standIns := [], harness := (true, "530efc0ca9fb226bc231e314e82646f0de3be9c86ca882e75642a9199f1a5ae5"), looks := false }, kinds := [], alts := [], laidByText := true, laidKinds := [.data, .data, .data], laidTests := true, laidLooks := .later }
def HandMoreUptoCardSaid : Prop := Claim7.holds Tryz.pinned (.plain (OpenSpec.upto handMoreSpec)) handMoreUptoCard

/-- THE SECOND FORM's CARD OF 'contangolaw01.HandErrors'. -/
def handErrorsUptoCard : Claim7 := { stood := { row := handErrorsUptoRow, standIns := [], harness := (true, "530efc0ca9fb226bc231e314e82646f0de3be9c86ca882e75642a9199f1a5ae5"), looks := false }, kinds := [], alts := [], laidByText := true, laidKinds := [.data, .data, .data], laidTests := true, laidLooks := .later }
def HandErrorsUptoCardSaid : Prop := Claim7.holds Tryz.pinned (.plain (OpenSpec.upto handErrorsSpec)) handErrorsUptoCard

/-- THE SECOND FORM's CARD OF 'contangolaw01.HandLooks'. -/
def handLooksUptoCard : Claim7 := { stood := { row := handLooksUptoRow, standIns := [], harness := (true, "530efc0ca9fb226bc231e314e82646f0de3be9c86ca882e75642a9199f1a5ae5"), looks := false }, kinds := [], alts := [], laidByText := true, laidKinds := [.data, .data, .data], laidTests := true, laidLooks := .later }
def HandLooksUptoCardSaid : Prop := Claim7.holds Tryz.pinned (.plain (OpenSpec.upto handLooksSpec)) handLooksUptoCard

/-- THE SECOND FORM's CARD OF 'contangolaw01.HandLeft'. -/
def handLeftUptoCard : Claim7 := { stood := { row := handLeftUptoRow, standIns := [], harness := (true, "530efc0ca9fb226bc231e314e82646f0de3be9c86ca882e75642a9199f1a5ae5"), looks := false }, kinds := [], alts := [], laidByText := true, laidKinds := [.data, .data, .data], laidTests := true, laidLooks := .later }
def HandLeftUptoCardSaid : Prop := Claim7.holds Tryz.pinned (.plain (OpenSpec.upto handLeftSpec)) handLeftUptoCard
end Rows
end Go.Proofs.YtmagdbdlbnijaaaGreatDoor
