/-
  DERIVED. GIVEN WITH THE SEED: THE CARDS: each row of YtelffhelelbfiaaGreatDoorRows.lean that lists a variable, with what it lists TIED to the program's text (the seventh form; the later family's looks); each row that meets fmt, with fmt's text TOLD by the authors' own Lean function (tested against real Go, not proved from fmt's source: count such statements apart). THE CARD IS WHAT COUNTS. Prove the row's statement (the work); the ties are given (YtelffhelelbfiaaGreatDoorTie.lean); close each card by the builder's one call (the guide's Derived/Test/ToyasCard.lean, 'card_holds'). Laid BY PROGRAM, IN A SANDBOX (cutbox-door.mjs). By AI agents, Wed Nov 11 2026. No macro, syntax, notation, axiom, sorry.
-/
import Derived.Test.YtelffhelelbfiaaGreatDoorRows
import GoSem.ClaimSeven
namespace Go.Proofs.YtelffhelelbfiaaGreatDoor
namespace Rows

/-- THE TIED CARD OF 'landfalllaw23.DecimRows'. -/
def decimRowsCard : Claim7 := { stood := { row := decimRowsRow, standIns := [], harness := (true, "aab695a96d0097e63682c73c9b91c4519ca71dd33120bcf1548220b063402d1b"), looks := false }, kinds := [], alts := [], laidByText := true, laidKinds := [.data, .data, .data, .data, .pinned], laidTests := true, laidLooks := .later }
def DecimRowsCardSaid : Prop := Claim7.holds Tryz.pinned (.plain (OpenSpec.ofChange decimRowsSpec)) decimRowsCard

/-- THE SECOND FORM's CARD OF 'landfalllaw23.DecimRows'. -/
def decimRowsUptoCard : Claim7 := { stood := { row := decimRowsUptoRow, standIns := [], harness := (true, "aab695a96d0097e63682c73c9b91c4519ca71dd33120bcf1548220b063402d1b"), looks := false }, kinds := [], alts := [], laidByText := true, laidKinds := [.data, .data, .data, .data, .pinned], laidTests := true, laidLooks := .later }
def DecimRowsUptoCardSaid : Prop := Claim7.holds Tryz.pinned (.plain (OpenSpec.upto decimRowsSpec)) decimRowsUptoCard
end Rows
end Go.Proofs.YtelffhelelbfiaaGreatDoor
