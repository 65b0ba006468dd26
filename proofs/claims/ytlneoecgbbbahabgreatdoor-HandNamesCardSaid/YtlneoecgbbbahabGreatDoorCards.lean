/-
  DERIVED. GIVEN WITH THE SEED: THE CARDS: each row of YtlneoecgbbbahabGreatDoorRows.lean that lists a variable, with what it lists TIED to the program's text (the seventh form; the later family's looks); each row that meets fmt, with fmt's text TOLD by the authors' own Lean function (tested against real Go, not proved from fmt's source: count such statements apart). THE CARD IS WHAT COUNTS. Prove the row's statement (the work); the ties are given (YtlneoecgbbbahabGreatDoorTie.lean); close each card by the builder's one call (the guide's Derived/Test/ToyasCard.lean, 'card_holds'). Laid BY PROGRAM, IN A SANDBOX (cutbox-door.mjs). By AI agents, Wed Nov 11 2026. No macro, syntax, notation, axiom, sorry.
-/
import Derived.Test.YtlneoecgbbbahabGreatDoorRows
import GoSem.ClaimSeven
namespace Go.Proofs.YtlneoecgbbbahabGreatDoor
namespace Rows

/-- THE TIED CARD OF 'contangolaw01.HandNames'. -/
def handNamesCard : Claim7 := { stood := { row := handNamesRow, standIns := [], harness := (true, "1274e277f4cac7ec93768fc44ff38873fd06f5f2d4372912cdc8a57b90cddafd"), looks := false }, kinds := [], alts := [], laidByText := true, laidKinds := [.data, .data, .data], laidTests := true, laidLooks := .later }
def HandNamesCardSaid : Prop := Claim7.holds Tryz.pinned (.plain (OpenSpec.ofChange handNamesSpec)) handNamesCard

/-- THE SECOND FORM's CARD OF 'contangolaw01.HandNames'. -/
def handNamesUptoCard : Claim7 := { stood := { row := handNamesUptoRow, standIns := [], harness := (true, "1274e277f4cac7ec93768fc44ff38873fd06f5f2d4372912cdc8a57b90cddafd"), looks := false }, kinds := [], alts := [], laidByText := true, laidKinds := [.data, .data, .data], laidTests := true, laidLooks := .later }
def HandNamesUptoCardSaid : Prop := Claim7.holds Tryz.pinned (.plain (OpenSpec.upto handNamesSpec)) handNamesUptoCard
end Rows
end Go.Proofs.YtlneoecgbbbahabGreatDoor
