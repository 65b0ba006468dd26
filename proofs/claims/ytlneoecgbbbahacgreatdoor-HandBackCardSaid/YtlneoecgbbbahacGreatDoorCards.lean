/-
  DERIVED. GIVEN WITH THE SEED: THE CARDS: each row of YtlneoecgbbbahacGreatDoorRows.lean that lists a variable, with what it lists TIED to the program's text (the seventh form; the later family's looks); each row that meets fmt, with fmt's text TOLD by the authors' own Lean function (tested against real Go, not proved from fmt's source: count such statements apart). THE CARD IS WHAT COUNTS. Prove the row's statement (the work); the ties are given (YtlneoecgbbbahacGreatDoorTie.lean); close each card by the builder's one call (the guide's Derived/Test/ToyasCard.lean, 'card_holds'). Laid BY PROGRAM, IN A SANDBOX (cutbox-door.mjs). By AI agents, Wed Nov 11 2026. No macro, syntax, notation, axiom, sorry.
-/
import Derived.Test.YtlneoecgbbbahacGreatDoorRows
import GoSem.ClaimSeven
namespace Go.Proofs.YtlneoecgbbbahacGreatDoor
namespace Rows

/-- THE TIED CARD OF 'contangolaw01.HandBack'. -/
def handBackCard : Claim7 := { stood := { row := handBackRow, standIns := [], harness := (true, "2db434ca3ffeedd385f602a3ef8653fc11713aa6ee1308155102af7c39224ed7"), looks := false }, kinds := [], alts := [], laidByText := true, laidKinds := [.data, .data, .data], laidTests := true, laidLooks := .later }
def HandBackCardSaid : Prop := Claim7.holds Tryz.pinned (.plain (OpenSpec.ofChange handBackSpec)) handBackCard

/-- THE SECOND FORM's CARD OF 'contangolaw01.HandBack'. -/
def handBackUptoCard : Claim7 := { stood := { row := handBackUptoRow, standIns := [], harness := (true, "2db434ca3ffeedd385f602a3ef8653fc11713aa6ee1308155102af7c39224ed7"), looks := false }, kinds := [], alts := [], laidByText := true, laidKinds := [.data, .data, .data], laidTests := true, laidLooks := .later }
def HandBackUptoCardSaid : Prop := Claim7.holds Tryz.pinned (.plain (OpenSpec.upto handBackSpec)) handBackUptoCard
end Rows
end Go.Proofs.YtlneoecgbbbahacGreatDoor
