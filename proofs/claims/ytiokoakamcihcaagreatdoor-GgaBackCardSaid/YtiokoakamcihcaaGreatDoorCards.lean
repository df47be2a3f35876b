/-
  DERIVED. GIVEN WITH THE SEED: THE CARDS: each row of YtiokoakamcihcaaGreatDoorRows.lean that lists a variable, with what it lists TIED to the program's text (the seventh form; the later family's looks); each row that meets fmt, with fmt's text TOLD by the authors' own Lean function (tested against real Go, not proved from fmt's source: count such statements apart). THE CARD IS WHAT COUNTS. Prove the row's statement (the work); the ties are given (YtiokoakamcihcaaGreatDoorTie.lean); close each card by the builder's one call (the guide's Derived/Test/ToyasCard.lean, 'card_holds'). Laid BY PROGRAM, IN A SANDBOX (cutbox-door.mjs). By AI agents, Wed Nov 11 2026. No macro, syntax, notation, axiom, sorry.
-/
import Derived.Test.YtiokoakamcihcaaGreatDoorRows
import GoSem.ClaimSeven
namespace Go.Proofs.YtiokoakamcihcaaGreatDoor
namespace Rows

/-- THE TIED CARD OF 'landfalllaw25.GgaPuts'. -/
def ggaPutsCard : Claim7 := { stood := { row := ggaPutsRow, standIns := [], harness := (true, "fa5369552173779a416a9ac4c2c8be5b56317ace5314b37293078da9c725e6f3"), looks := false }, kinds := [], alts := [], laidByText := true, laidKinds := [.data, .data, .data, .data, .pinned], laidTests := true, laidLooks := .later }
def GgaPutsCardSaid : Prop := Claim7.holds Tryz.pinned (.plain (OpenSpec.ofChange ggaPutsSpec)) ggaPutsCard

/-- THE TIED CARD OF 'landfalllaw25.GgaTakes'. -/
def ggaTakesCard : Claim7 := { stood := { row := ggaTakesRow, standIns := [], harness := (true, "fa5369552173779a416a9ac4c2c8be5b56317ace5314b37293078da9c725e6f3"), looks := false }, kinds := [], alts := [], laidByText := true, laidKinds := [.data, .data, .data, .data, .pinned], laidTests := true, laidLooks := .later }
def GgaTakesCardSaid : Prop := Claim7.holds Tryz.pinned (.plain (OpenSpec.ofChange ggaTakesSpec)) ggaTakesCard

/-- THE TIED CARD OF 'landfalllaw25.GgaBack'. -/
def ggaBackCard : Claim7 := { stood := { row := ggaBackRow, standIns := [], harness := (true, "fa5369552173779a416a9ac4c2c8be5b56317ace5314b37293078da9c725e6f3"), looks := false }, kinds := [], alts := [], laidByText := true, laidKinds := [.data, .data, .data, .data, .pinned], laidTests := true, laidLooks := .later }
def GgaBackCardSaid : Prop := Claim7.holds Tryz.pinned (.plain (OpenSpec.ofChange ggaBackSpec)) ggaBackCard

/-- THE SECOND FORM's CARD OF 'landfalllaw25.GgaPuts'. -/
def ggaPutsUptoCard : Claim7 := { stood := { row := ggaPutsUptoRow, standIns := [], harness := (true, "fa5369552173779a416a9ac4c2c8be5b56317ace5314b37293078da9c725e6f3"), looks := false }, kinds := [], alts := [], laidByText := true, laidKinds := [.data, .data, .data, .data, .pinned], laidTests := true, laidLooks := .later }
def GgaPutsUptoCardSaid : Prop := Claim7.holds Tryz.pinned (.plain (OpenSpec.upto ggaPutsSpec)) ggaPutsUptoCard

/-- THE SECOND FORM's CARD OF 'landfalllaw25.GgaTakes'. -/
def ggaTakesUptoCard : Claim7 := { stood := { row := ggaTakesUptoRow, standIns := [], harness := (true, "fa5369552173779a416a9ac4c2c8be5b56317ace5314b37293078da9c725e6f3"), looks := false }, kinds := [], alts := [], laidByText := true, laidKinds := [.data, .data, .data, .data, .pinned], laidTests := true, laidLooks := .later }
def GgaTakesUptoCardSaid : Prop := Claim7.holds Tryz.pinned (.plain (OpenSpec.upto ggaTakesSpec)) ggaTakesUptoCard

/-- THE SECOND FORM's CARD OF 'landfalllaw25.GgaBack'. -/
def ggaBackUptoCard : Claim7 := { stood := { row := ggaBackUptoRow, standIns := [], harness := (true, "fa5369552173779a416a9ac4c2c8be5b56317ace5314b37293078da9c725e6f3"), looks := false }, kinds := [], alts := [], laidByText := true, laidKinds := [.data, .data, .data, .data, .pinned], laidTests := true, laidLooks := .later }
def GgaBackUptoCardSaid : Prop := Claim7.holds Tryz.pinned (.plain (OpenSpec.upto ggaBackSpec)) ggaBackUptoCard
end Rows
end Go.Proofs.YtiokoakamcihcaaGreatDoor
