/-
  DERIVED. GIVEN WITH THE SEED: THE CARDS: each row of YthnoomdhgbaecaaGreatDoorRows.lean that lists a variable, with what it lists TIED to the program's text (the seventh form; the later family's looks); each row that meets fmt, with fmt's text TOLD by the authors' own Lean function (tested against real Go, not proved from fmt's source: count such statements apart). THE CARD IS WHAT COUNTS. Prove the row's statement (the work); the ties are given (YthnoomdhgbaecaaGreatDoorTie.lean); close each card by the builder's one call (the guide's Derived/Test/ToyasCard.lean, 'card_holds'). Laid BY PROGRAM, IN A SANDBOX (cutbox-door.mjs). By AI agents, Wed Nov 11 2026. No macro, syntax, notation, axiom, sorry.
-/
import Derived.Test.YthnoomdhgbaecaaGreatDoorRows
import GoSem.ClaimSeven
namespace Go.Proofs.YthnoomdhgbaecaaGreatDoor
namespace Rows

/-- THE TIED CARD OF 'landfalllaw26.RmcPuts'. -/
def rmcPutsCard : Claim7 := { stood := { row := rmcPutsRow, standIns := [], harness := (true, "0c1ef69001fef280d862ddf83bc6a8b1a87d53b3418c3f1168277efd24125028"), looks := false }, kinds := [], alts := [], laidByText := true, laidKinds := [.data, .data, .data, .data, .pinned], laidTests := true, laidLooks := .later }
def RmcPutsCardSaid : Prop := Claim7.holds Tryz.pinned (.plain (OpenSpec.ofChange rmcPutsSpec)) rmcPutsCard

/-- THE TIED CARD OF 'landfalllaw26.RmcTakes'. -/
def rmcTakesCard : Claim7 := { stood := { row := rmcTakesRow, standIns := [], harness := (true, "0c1ef69001fef280d862ddf83bc6a8b1a87d53b3418c3f1168277efd24125028"), looks := false }, kinds := [], alts := [], laidByText := true, laidKinds := [.data, .data, .data, .data, .pinned], laidTests := true, laidLooks := .later }
def RmcTakesCardSaid : Prop := Claim7.holds Tryz.pinned (.plain (OpenSpec.ofChange rmcTakesSpec)) rmcTakesCard

/-- THE TIED CARD OF 'landfalllaw26.RmcBack'. -/
def rmcBackCard : Claim7 := { stood := { row := rmcBackRow, standIns := [], harness := (true, "0c1ef69001fef280d862ddf83bc6a8b1a87d53b3418c3f1168277efd24125028"), looks := false }, kinds := [], alts := [], laidByText := true, laidKinds := [.data, .data, .data, .data, .pinned], laidTests := true, laidLooks := .later }
def RmcBackCardSaid : Prop := Claim7.holds Tryz.pinned (.plain (OpenSpec.ofChange rmcBackSpec)) rmcBackCard

/-- THE SECOND FORM's CARD OF 'landfalllaw26.RmcPuts'. -/
def rmcPutsUptoCard : Claim7 := { stood := { row := rmcPutsUptoRow, standIns := [], harness := (true, "0c1ef69001fef280d862ddf83bc6a8b1a87d53b3418c3f1168277efd24125028"), looks := false }, kinds := [], alts := [], laidByText := true, laidKinds := [.data, .data, .data, .data, .pinned], laidTests := true, laidLooks := .later }
def RmcPutsUptoCardSaid : Prop := Claim7.holds Tryz.pinned (.plain (OpenSpec.upto rmcPutsSpec)) rmcPutsUptoCard

/-- THE SECOND FORM's CARD OF 'landfalllaw26.RmcTakes'. -/
def rmcTakesUptoCard : Claim7 := { stood := { row := rmcTakesUptoRow, standIns := [], harness := (true, "0c1ef69001fef280d862ddf83bc6a8b1a87d53b3418c3f1168277efd24125028"), looks := false }, kinds := [], alts := [], laidByText := true, laidKinds := [.data, .data, .data, .data, .pinned], laidTests := true, laidLooks := .later }
def RmcTakesUptoCardSaid : Prop := Claim7.holds Tryz.pinned (.plain (OpenSpec.upto rmcTakesSpec)) rmcTakesUptoCard

/-- THE SECOND FORM's CARD OF 'landfalllaw26.RmcBack'. -/
def rmcBackUptoCard : Claim7 := { stood := { row := rmcBackUptoRow, standIns := [], harness := (true, "0c1ef69001fef280d862ddf83bc6a8b1a87d53b3418c3f1168277efd24125028"), looks := false }, kinds := [], alts := [], laidByText := true, laidKinds := [.data, .data, .data, .data, .pinned], laidTests := true, laidLooks := .later }
def RmcBackUptoCardSaid : Prop := Claim7.holds Tryz.pinned (.plain (OpenSpec.upto rmcBackSpec)) rmcBackUptoCard
end Rows
end Go.Proofs.YthnoomdhgbaecaaGreatDoor
