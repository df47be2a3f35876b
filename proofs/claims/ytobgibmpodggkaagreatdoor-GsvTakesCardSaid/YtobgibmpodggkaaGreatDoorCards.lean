/-
  DERIVED. GIVEN WITH THE SEED: THE CARDS: each row of YtobgibmpodggkaaGreatDoorRows.lean that lists a variable, with what it lists TIED to the program's text (the seventh form; the later family's looks); each row that meets fmt, with fmt's text TOLD by the authors' own Lean function (tested against real Go, not proved from fmt's source: count such statements apart). THE CARD IS WHAT COUNTS. Prove the row's statement (the work); the ties are given (YtobgibmpodggkaaGreatDoorTie.lean); close each card by the builder's one call (the guide's Derived/Test/ToyasCard.lean, 'card_holds'). Laid BY PROGRAM, IN A SANDBOX (cutbox-door.mjs). By AI agents, Wed Nov 11 2026. No macro, syntax, notation, axiom, sorry.
-/
import Derived.Test.YtobgibmpodggkaaGreatDoorRows
import GoSem.ClaimSeven
namespace Go.Proofs.YtobgibmpodggkaaGreatDoor
namespace Rows

/-- THE TIED CARD OF 'landfalllaw29.GsvTakes'. -/
def gsvTakesCard : Claim7 := { stood := { row := gsvTakesRow, standIns := [], harness := (true, "1cb5dbdebcd7f26a75fb391ecdd3695e0c55bd36f20ebd92236aa29db76c32e8"), looks := false }, kinds := [], alts := [], laidByText := true, laidKinds := [.data, .data, .data, .data, .pinned], laidTests := true, laidLooks := .later }
def GsvTakesCardSaid : Prop := Claim7.holds Tryz.pinned (.plain (OpenSpec.ofChange gsvTakesSpec)) gsvTakesCard

/-- THE SECOND FORM's CARD OF 'landfalllaw29.GsvTakes'. -/
def gsvTakesUptoCard : Claim7 := { stood := { row := gsvTakesUptoRow, standIns := [], harness := (true, "1cb5dbdebcd7f26a75fb391ecdd3695e0c55bd36f20ebd92236aa29db76c32e8"), looks := false }, kinds := [], alts := [], laidByText := true, laidKinds := [.data, .data, .data, .data, .pinned], laidTests := true, laidLooks := .later }
def GsvTakesUptoCardSaid : Prop := Claim7.holds Tryz.pinned (.plain (OpenSpec.upto gsvTakesSpec)) gsvTakesUptoCard
end Rows
end Go.Proofs.YtobgibmpodggkaaGreatDoor
