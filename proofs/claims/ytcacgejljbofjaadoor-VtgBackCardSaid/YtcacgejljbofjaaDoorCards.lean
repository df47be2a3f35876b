/-
  DERIVED. GIVEN WITH THE SEED: THE CARDS: each row of YtcacgejljbofjaaDoorRows.lean that lists a variable, with what it lists TIED to the program's text (the seventh form; the later family's looks); each row that meets fmt, with fmt's text TOLD by the authors' own Lean function (tested against real Go, not proved from fmt's source: count such statements apart). THE CARD IS WHAT COUNTS. Prove the row's statement (the work); the ties are given (YtcacgejljbofjaaDoorTie.lean); close each card by the builder's one call (the guide's Derived/Test/ToyasCard.lean, 'card_holds'). Laid BY PROGRAM, IN A SANDBOX (cutbox-door.mjs). By AI agents, Wed Nov 11 2026. No macro, syntax, notation, axiom, sorry.
-/
import Derived.Test.YtcacgejljbofjaaDoorRows
import GoSem.ClaimSeven
namespace Go.Proofs.YtcacgejljbofjaaDoor
namespace Rows

/-- THE TIED CARD OF 'landfalllaw28.VtgPuts'. -/
def vtgPutsCard : Claim7 := { stood := { row := vtgPutsRow, standIns := [], harness := (true, "75197deed4c166d3ed11c9458c69ecbf2d50619f3c3e2dc429e09c7540c79caa"), looks := false }, kinds := [], alts := [], laidByText := true, laidKinds := [.data, .data, .data, .data, .pinned], laidTests := true, laidLooks := .later }
def VtgPutsCardSaid : Prop := Claim7.holds Tryd.pinned (.plain (OpenSpec.ofChange vtgPutsSpec)) vtgPutsCard

/-- THE TIED CARD OF 'landfalllaw28.VtgBack'. -/
def vtgBackCard : Claim7 := { stood := { row := vtgBackRow, standIns := [], harness := (true, "75197deed4c166d3ed11c9458c69ecbf2d50619f3c3e2dc429e09c7540c79caa"), looks := false }, kinds := [], alts := [], laidByText := true, laidKinds := [.data, .data, .data, .data, .pinned], laidTests := true, laidLooks := .later }
def VtgBackCardSaid : Prop := Claim7.holds Tryd.pinned (.plain (OpenSpec.ofChange vtgBackSpec)) vtgBackCard

/-- THE SECOND FORM's CARD OF 'landfalllaw28.VtgPuts'. -/
def vtgPutsUptoCard : Claim7 := { stood := { row := vtgPutsUptoRow, standIns := [], harness := (true, "75197deed4c166d3ed11c9458c69ecbf2d50619f3c3e2dc429e09c7540c79caa"), looks := false }, kinds := [], alts := [], laidByText := true, laidKinds := [.data, .data, .data, .data, .pinned], laidTests := true, laidLooks := .later }
def VtgPutsUptoCardSaid : Prop := Claim7.holds Tryd.pinned (.plain (OpenSpec.upto vtgPutsSpec)) vtgPutsUptoCard

/-- THE SECOND FORM's CARD OF 'landfalllaw28.VtgBack'. -/
def vtgBackUptoCard : Claim7 := { stood := { row := vtgBackUptoRow, standIns := [], harness := (true, "75197deed4c166d3ed11c9458c69ecbf2d50619f3c3e2dc429e09c7540c79caa"), looks := false }, kinds := [], alts := [], laidByText := true, laidKinds := [.data, .data, .data, .data, .pinned], laidTests := true, laidLooks := .later }
def VtgBackUptoCardSaid : Prop := Claim7.holds Tryd.pinned (.plain (OpenSpec.upto vtgBackSpec)) vtgBackUptoCard
end Rows
end Go.Proofs.YtcacgejljbofjaaDoor
