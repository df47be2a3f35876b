/-
  DERIVED. GIVEN WITH THE SEED: THE CARDS: each row of YtpbekdkobmgndaaGreatDoorRows.lean that lists a variable, with what it lists TIED to the program's text (the seventh form; the later family's looks); each row that meets fmt, with fmt's text TOLD by the authors' own Lean function (tested against real Go, not proved from fmt's source: count such statements apart). THE CARD IS WHAT COUNTS. Prove the row's statement (the work); the ties are given (YtpbekdkobmgndaaGreatDoorTie.lean); close each card by the builder's one call (the guide's Derived/Test/ToyasCard.lean, 'card_holds'). Laid BY PROGRAM, IN A SANDBOX (cutbox-door.mjs). By AI agents, Wed Nov 11 2026. No macro, syntax, notation, axiom, sorry.
-/
import Derived.Test.YtpbekdkobmgndaaGreatDoorRows
import GoSem.ClaimSeven
namespace Go.Proofs.YtpbekdkobmgndaaGreatDoor
namespace Rows

/-- THE TIED CARD OF 'landfalllaw27.GsaPuts'. -/
def gsaPutsCard : Claim7 := { stood := { row := gsaPutsRow, standIns := [], harness := (true, "507e30b3f09c68fd8403451445b722d0b18987f722fd6675b6e3c3c6363312f2"), looks := false }, kinds := [], alts := [], laidByText := true, laidKinds := [.data, .data, .data, .data, .pinned], laidTests := true, laidLooks := .later }
def GsaPutsCardSaid : Prop := Claim7.holds Tryz.pinned (.plain (OpenSpec.ofChange gsaPutsSpec)) gsaPutsCard

/-- THE SECOND FORM's CARD OF 'landfalllaw27.GsaPuts'. -/
def gsaPutsUptoCard : Claim7 := { stood := { row := gsaPutsUptoRow, standIns := [], harness := (true, "507e30b3f09c68fd8403451445b722d0b18987f722fd6675b6e3c3c6363312f2"), looks := false }, kinds := [], alts := [], laidByText := true, laidKinds := [.data, .data, .data, .data, .pinned], laidTests := true, laidLooks := .later }
def GsaPutsUptoCardSaid : Prop := Claim7.holds Tryz.pinned (.plain (OpenSpec.upto gsaPutsSpec)) gsaPutsUptoCard
end Rows
end Go.Proofs.YtpbekdkobmgndaaGreatDoor
