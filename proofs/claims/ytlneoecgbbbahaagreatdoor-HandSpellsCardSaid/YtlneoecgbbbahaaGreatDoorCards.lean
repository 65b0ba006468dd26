/-
  DERIVED. GIVEN WITH THE SEED: THE CARDS: each row of YtlneoecgbbbahaaGreatDoorRows.lean that lists a variable, with what it lists TIED to the program's text (the seventh form; the later family's looks); each row that meets fmt, with fmt's text TOLD by the authors' own Lean function (tested against real Go, not proved from fmt's source: count such statements apart). THE CARD IS WHAT COUNTS. Prove the row's statement (the work); the ties are given (YtlneoecgbbbahaaGreatDoorTie.lean); close each card by the builder's one call (the guide's Derived/Test/ToyasCard.lean, 'card_holds'). Laid BY PROGRAM, IN A SANDBOX (cutbox-door.mjs). By AI agents, Wed Nov 11 2026. No macro, syntax, notation, axiom, sorry.
-/
import Derived.Test.YtlneoecgbbbahaaGreatDoorRows
import GoSem.ClaimSeven
namespace Go.Proofs.YtlneoecgbbbahaaGreatDoor
namespace Rows

/-- THE TIED CARD OF 'contangolaw01.HandSpells'. -/
def handSpellsCard : Claim7 := { stood := { row := handSpellsRow, standIns := [], harness := (true, "6906ce584f6a8bcf1829eabd81f5e2b6612ace23407d633eb79f408f1da5f66f"), looks := false }, kinds := [], alts := [], laidByText := true, laidKinds := [.data, .data, .data], laidTests := true, laidLooks := .later }
def HandSpellsCardSaid : Prop := Claim7.holds Tryz.pinned (.plain (OpenSpec.ofChange handSpellsSpec)) handSpellsCard

/-- THE SECOND FORM's CARD OF 'contangolaw01.HandSpells'. -/
def handSpellsUptoCard : Claim7 := { stood := { row := handSpellsUptoRow, standIns := [], harness := (true, "6906ce584f6a8bcf1829eabd81f5e2b6612ace23407d633eb79f408f1da5f66f"), looks := false }, kinds := [], alts := [], laidByText := true, laidKinds := [.data, .data, .data], laidTests := true, laidLooks := .later }
def HandSpellsUptoCardSaid : Prop := Claim7.holds Tryz.pinned (.plain (OpenSpec.upto handSpellsSpec)) handSpellsUptoCard
end Rows
end Go.Proofs.YtlneoecgbbbahaaGreatDoor
