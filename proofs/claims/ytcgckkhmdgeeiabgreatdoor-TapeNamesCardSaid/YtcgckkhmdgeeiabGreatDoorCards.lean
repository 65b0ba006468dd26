/-
  DERIVED. GIVEN WITH THE SEED: THE CARDS: each row of YtcgckkhmdgeeiabGreatDoorRows.lean that lists a variable, with what it lists TIED to the program's text (the seventh form; the later family's looks); each row that meets fmt, with fmt's text TOLD by the authors' own Lean function (tested against real Go, not proved from fmt's source: count such statements apart). THE CARD IS WHAT COUNTS. Prove the row's statement (the work); the ties are given (YtcgckkhmdgeeiabGreatDoorTie.lean); close each card by the builder's one call (the guide's Derived/Test/ToyasCard.lean, 'card_holds'). Laid BY PROGRAM, IN A SANDBOX (cutbox-door.mjs). By AI agents, Wed Nov 11 2026. No macro, syntax, notation, axiom, sorry.
-/
import Derived.Test.YtcgckkhmdgeeiabGreatDoorRows
import GoSem.ClaimSeven
namespace Go.Proofs.YtcgckkhmdgeeiabGreatDoor
namespace Rows

/-- THE TIED CARD OF 'contangolaw01.HandExact'. -/
def handExactCard : Claim7 := { stood := { row := handExactRow, standIns := [], harness := (true, "61693f53db030950033639839bdf2314749aef59deecd31b6b072d586e3ed23f"), looks := false }, kinds := [], alts := [], laidByText := true, laidKinds := [.data, .data, .data], laidTests := true, laidLooks := .later }
def HandExactCardSaid : Prop := Claim7.holds Tryz.pinned (.plain (OpenSpec.ofChange handExactSpec)) handExactCard

/-- THE TIED CARD OF 'contangolaw02.TapeReads'. -/
def tapeReadsCard : Claim7 := { stood := { row := tapeReadsRow, standIns := [], harness := (true, "61693f53db030950033639839bdf2314749aef59deecd31b6b072d586e3ed23f"), looks := false }, kinds := [], alts := [], laidByText := true, laidKinds := [.data, .data, .data, .data, .pinned], laidTests := true, laidLooks := .later }
def TapeReadsCardSaid : Prop := Claim7.holds Tryz.pinned (.plain (OpenSpec.ofChange tapeReadsSpec)) tapeReadsCard

/-- THE TIED CARD OF 'contangolaw02.TapePrices'. -/
def tapePricesCard : Claim7 := { stood := { row := tapePricesRow, standIns := [], harness := (true, "61693f53db030950033639839bdf2314749aef59deecd31b6b072d586e3ed23f"), looks := false }, kinds := [], alts := [], laidByText := true, laidKinds := [.data, .data, .data, .data, .pinned], laidTests := true, laidLooks := .later }
def TapePricesCardSaid : Prop := Claim7.holds Tryz.pinned (.plain (OpenSpec.ofChange tapePricesSpec)) tapePricesCard

/-- THE TIED CARD OF 'contangolaw02.TapeMinutes'. -/
def tapeMinutesCard : Claim7 := { stood := { row := tapeMinutesRow, standIns := [], harness := (true, "61693f53db030950033639839bdf2314749aef59deecd31b6b072d586e3ed23f"), looks := false }, kinds := [], alts := [], laidByText := true, laidKinds := [.data, .data, .data, .data, .pinned], laidTests := true, laidLooks := .later }
def TapeMinutesCardSaid : Prop := Claim7.holds Tryz.pinned (.plain (OpenSpec.ofChange tapeMinutesSpec)) tapeMinutesCard

/-- THE TIED CARD OF 'contangolaw02.TapeFinds'. -/
def tapeFindsCard : Claim7 := { stood := { row := tapeFindsRow, standIns := [], harness := (true, "61693f53db030950033639839bdf2314749aef59deecd31b6b072d586e3ed23f"), looks := false }, kinds := [], alts := [], laidByText := true, laidKinds := [.data, .data, .data, .data, .pinned], laidTests := true, laidLooks := .later }
def TapeFindsCardSaid : Prop := Claim7.holds Tryz.pinned (.plain (OpenSpec.ofChange tapeFindsSpec)) tapeFindsCard

/-- THE TIED CARD OF 'contangolaw02.TapeMisprints'. -/
def tapeMisprintsCard : Claim7 := { stood := { row := tapeMisprintsRow, standIns := [], harness := (true, "61693f53db030950033639839bdf2314749aef59deecd31b6b072d586e3ed23f"), looks := false }, kinds := [], alts := [], laidByText := true, laidKinds := [.data, .data, .data, .data, .pinned], laidTests := true, laidLooks := .later }
def TapeMisprintsCardSaid : Prop := Claim7.holds Tryz.pinned (.plain (OpenSpec.ofChange tapeMisprintsSpec)) tapeMisprintsCard

/-- THE TIED CARD OF 'contangolaw02.TapeWrites'. -/
def tapeWritesCard : Claim7 := { stood := { row := tapeWritesRow, standIns := [], harness := (true, "61693f53db030950033639839bdf2314749aef59deecd31b6b072d586e3ed23f"), looks := false }, kinds := [], alts := [], laidByText := true, laidKinds := [.data, .data, .data, .data, .pinned], laidTests := true, laidLooks := .later }
def TapeWritesCardSaid : Prop := Claim7.holds Tryz.pinned (.plain (OpenSpec.ofChange tapeWritesSpec)) tapeWritesCard

/-- THE TIED CARD OF 'contangolaw02.TapeProves'. -/
def tapeProvesCard : Claim7 := { stood := { row := tapeProvesRow, standIns := [], harness := (true, "61693f53db030950033639839bdf2314749aef59deecd31b6b072d586e3ed23f"), looks := false }, kinds := [], alts := [], laidByText := true, laidKinds := [.data, .data, .data, .data, .pinned], laidTests := true, laidLooks := .later }
def TapeProvesCardSaid : Prop := Claim7.holds Tryz.pinned (.plain (OpenSpec.ofChange tapeProvesSpec)) tapeProvesCard

/-- THE TIED CARD OF 'contangolaw02.TapeNames'. -/
def tapeNamesCard : Claim7 := { stood := { row := tapeNamesRow, standIns := [], harness := (true, "61693f53db030950033639839bdf2314749aef59deecd31b6b072d586e3ed23f"), looks := false }, kinds := [], alts := [], laidByText := true, laidKinds := [.data, .data, .data, .data, .pinned], laidTests := true, laidLooks := .later }
def TapeNamesCardSaid : Prop := Claim7.holds Tryz.pinned (.plain (OpenSpec.ofChange tapeNamesSpec)) tapeNamesCard

/-- THE TIED CARD OF 'contangolaw02.TapeTruth'. -/
def tapeTruthCard : Claim7 := { stood := { row := tapeTruthRow, standIns := [], harness := (true, "61693f53db030950033639839bdf2314749aef59deecd31b6b072d586e3ed23f"), looks := false }, kinds := [], alts := [], laidByText := true, laidKinds := [.data, .data, .data, .data, .pinned], laidTests := true, laidLooks := .later }
def TapeTruthCardSaid : Prop := Claim7.holds Tryz.pinned (.plain (OpenSpec.ofChange tapeTruthSpec)) tapeTruthCard

/-- THE TIED CARD OF 'contangolaw02.TapeEnds'. -/
def tapeEndsCard : Claim7 := { stood := { row := tapeEndsRow, standIns := [], harness := (true, "61693f53db030950033639839bdf2314749aef59deecd31b6b072d586e3ed23f"), looks := false }, kinds := [], alts := [], laidByText := true, laidKinds := [.data, .data, .data, .data, .pinned], laidTests := true, laidLooks := .later }
def TapeEndsCardSaid : Prop := Claim7.holds Tryz.pinned (.plain (OpenSpec.ofChange tapeEndsSpec)) tapeEndsCard

/-- THE TIED CARD OF 'contangolaw02.TapeMore'. -/
def tapeMoreCard : Claim7 := { stood := { row := tapeMoreRow, standIns := [], harness := (true, "61693f53db030950033639839bdf2314749aef59deecd31b6b072d586e3ed23f"), looks := false }, kinds := [], alts := [], laidByText := true, laidKinds := [.data, .data, .data, .data, .pinned], laidTests := true, laidLooks := .later }
def TapeMoreCardSaid : Prop := Claim7.holds Tryz.pinned (.plain (OpenSpec.ofChange tapeMoreSpec)) tapeMoreCard

/-- THE SECOND FORM's CARD OF 'contangolaw01.HandExact'. -/
def handExactUptoCard : Claim7 := { stood := { row := handExactUptoRow, standIns := [], harness := (true, "61693f53db030950033639839bdf2314749aef59deecd31b6b072d586e3ed23f"), looks := false }, kinds := [], alts := [], laidByText := true, laidKinds := [.data, .data, .data], laidTests := true, laidLooks := .later }
def HandExactUptoCardSaid : Prop := Claim7.holds Tryz.pinned (.plain (OpenSpec.upto handExactSpec)) handExactUptoCard

/-- THE SECOND FORM's CARD OF 'contangolaw02.TapeReads'. -/
def tapeReadsUptoCard : Claim7 := { stood := { row := tapeReadsUptoRow, standIns := [], harness := (true, "61693f53db030950033639839bdf2314749aef59deecd31b6b072d586e3ed23f"), looks := false }, kinds := [], alts := [], laidByText := true, laidKinds := [.data, .data, .data, .data, .pinned], laidTests := true, laidLooks := .later }
def TapeReadsUptoCardSaid : Prop := Claim7.holds Tryz.pinned (.plain (OpenSpec.upto tapeReadsSpec)) tapeReadsUptoCard

/-- THE SECOND FORM's CARD OF 'contangolaw02.TapePrices'. -/
def tapePricesUptoCard : Claim7 := { stood := { row := tapePricesUptoRow, standIns := [], harness := (true, "61693f53db030950033639839bdf2314749aef59deecd31b6b072d586e3ed23f"), looks := false }, kinds := [], alts := [], laidByText := true, laidKinds := [.data, .data, .data, .data, .pinned], laidTests := true, laidLooks := .later }
def TapePricesUptoCardSaid : Prop := Claim7.holds Tryz.pinned (.plain (OpenSpec.upto tapePricesSpec)) tapePricesUptoCard

/-- THE SECOND FORM's CARD OF 'contangolaw02.TapeMinutes'. -/
def tapeMinutesUptoCard : Claim7 := { stood := { row := tapeMinutesUptoRow, standIns := [], harness := (true, "61693f53db030950033639839bdf2314749aef59deecd31b6b072d586e3ed23f"), looks := false }, kinds := [], alts := [], laidByText := true, laidKinds := [.data, .data, .data, .data, .pinned], laidTests := true, laidLooks := .later }
def TapeMinutesUptoCardSaid : Prop := Claim7.holds Tryz.pinned (.plain (OpenSpec.upto tapeMinutesSpec)) tapeMinutesUptoCard

/-- THE SECOND FORM's CARD OF 'contangolaw02.TapeFinds'. -/
def tapeFindsUptoCard : Claim7 := { stood := { row := tapeFindsUptoRow, standIns := [], harness := (true, "61693f53db030950033639839bdf2314749aef59deecd31b6b072d586e3ed23f"), looks := false }, kinds := [], alts := [], laidByText := true, laidKinds := [.data, .data, .data, .data, .pinned], laidTests := true, laidLooks := .later }
def TapeFindsUptoCardSaid : Prop := Claim7.holds Tryz.pinned (.plain (OpenSpec.upto tapeFindsSpec)) tapeFindsUptoCard

/-- THE SECOND FORM's CARD OF 'contangolaw02.TapeMisprints'. -/
def tapeMisprintsUptoCard : Claim7 := { stood := { row := tapeMisprintsUptoRow, standIns := [], harness := (true, "61693f53db030950033639839bdf2314749aef59deecd31b6b072d586e3ed23f"), looks := false }, kinds := [], alts := [], laidByText := true, laidKinds := [.data, .data, .data, .data, .pinned], laidTests := true, laidLooks := .later }
def TapeMisprintsUptoCardSaid : Prop := Claim7.holds Tryz.pinned (.plain (OpenSpec.upto tapeMisprintsSpec)) tapeMisprintsUptoCard

/-- THE SECOND FORM's CARD OF 'contangolaw02.TapeWrites'. -/
def tapeWritesUptoCard : Claim7 := { stood := { row := tapeWritesUptoRow, standIns := [], harness := (true, "61693f53db030950033639839bdf2314749aef59deecd31b6b072d586e3ed23f"), looks := false }, kinds := [], alts := [], laidByText := true, laidKinds := [.data, .data, .data, .data, .pinned], laidTests := true, laidLooks := .later }
def TapeWritesUptoCardSaid : Prop := Claim7.holds Tryz.pinned (.plain (OpenSpec.upto tapeWritesSpec)) tapeWritesUptoCard

/-- THE SECOND FORM's CARD OF 'contangolaw02.TapeProves'. -/
def tapeProvesUptoCard : Claim7 := { stood := { row := tapeProvesUptoRow, standIns := [], harness := (true, "61693f53db030950033639839bdf2314749aef59deecd31b6b072d586e3ed23f"), looks := false }, kinds := [], alts := [], laidByText := true, laidKinds := [.data, .data, .data, .data, .pinned], laidTests := true, laidLooks := .later }
def TapeProvesUptoCardSaid : Prop := Claim7.holds Tryz.pinned (.plain (OpenSpec.upto tapeProvesSpec)) tapeProvesUptoCard

/-- THE SECOND FORM's CARD OF 'contangolaw02.TapeNames'. -/
def tapeNamesUptoCard : Claim7 := { stood := { row := tapeNamesUptoRow, standIns := [], harness := (true, "61693f53db030950033639839bdf2314749aef59deecd31b6b072d586e3ed23f"), looks := false }, kinds := [], alts := [], laidByText := true, laidKinds := [.data, .data, .data, .data, .pinned], laidTests := true, laidLooks := .later }
def TapeNamesUptoCardSaid : Prop := Claim7.holds Tryz.pinned (.plain (OpenSpec.upto tapeNamesSpec)) tapeNamesUptoCard

/-- THE SECOND FORM's CARD OF 'contangolaw02.TapeTruth'. -/
def tapeTruthUptoCard : Claim7 := { stood := { row := tapeTruthUptoRow, standIns := [], harness := (true, "61693f53db030950033639839bdf2314749aef59deecd31b6b072d586e3ed23f"), looks := false }, kinds := [], alts := [], laidByText := true, laidKinds := [.data, .data, .data, .data, .pinned], laidTests := true, laidLooks := .later }
def TapeTruthUptoCardSaid : Prop := Claim7.holds Tryz.pinned (.plain (OpenSpec.upto tapeTruthSpec)) tapeTruthUptoCard

/-- THE SECOND FORM's CARD OF 'contangolaw02.TapeEnds'. -/
def tapeEndsUptoCard : Claim7 := { stood := { row := tapeEndsUptoRow, standIns := [], harness := (true, "61693f53db030950033639839bdf2314749aef59deecd31b6b072d586e3ed23f"), looks := false }, kinds := [], alts := [], laidByText := true, laidKinds := [.data, .data, .data, .data, .pinned], laidTests := true, laidLooks := .later }
def TapeEndsUptoCardSaid : Prop := Claim7.holds Tryz.pinned (.plain (OpenSpec.upto tapeEndsSpec)) tapeEndsUptoCard

/-- THE SECOND FORM's CARD OF 'contangolaw02.TapeMore'. -/
def tapeMoreUptoCard : Claim7 := { stood := { row := tapeMoreUptoRow, standIns := [], harness := (true, "61693f53db030950033639839bdf2314749aef59deecd31b6b072d586e3ed23f"), looks := false }, kinds := [], alts := [], laidByText := true, laidKinds := [.data, .data, .data, .data, .pinned], laidTests := true, laidLooks := .later }
def TapeMoreUptoCardSaid : Prop := Claim7.holds Tryz.pinned (.plain (OpenSpec.upto tapeMoreSpec)) tapeMoreUptoCard
end Rows
end Go.Proofs.YtcgckkhmdgeeiabGreatDoor
