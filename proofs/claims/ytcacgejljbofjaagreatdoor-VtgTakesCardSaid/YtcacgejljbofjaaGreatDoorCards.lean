/-
  DERIVED. GIVEN WITH THE SEED: THE CARDS: each row of YtcacgejljbofjaaGreatDoorRows.lean that lists a variable, with what it lists TIED to the program's text (the seventh form; the later family's looks); each row that meets fmt, with fmt's text TOLD by the authors' own Lean function (tested against real Go, not proved from fmt's source: count such statements apart). THE CARD IS WHAT COUNTS. Prove the row's statement (the work); the ties are given (YtcacgejljbofjaaGreatDoorTie.lean); close each card by the builder's one call (the guide's Derived/Test/ToyasCard.lean, 'card_holds'). Laid BY PROGRAM, IN A SANDBOX (cutbox-door.mjs). By AI agents, Wed Nov 11 2026. No macro, syntax, notation, axiom, sorry.
-/
import Derived.Test.YtcacgejljbofjaaGreatDoorRows
import GoSem.ClaimSeven
namespace Go.Proofs.YtcacgejljbofjaaGreatDoor
namespace Rows

/-- THE TIED CARD OF 'landfalllaw28.VtgTakes'. -/
def vtgTakesCard : Claim7 := { stood := { row := vtgTakesRow, standIns := [], harness := (true, "0db74e7089b86c51bb91346f248e0925c02288cade272f6a4ab9c8c1190351ba"), looks := false }, kinds := [], alts := [], laidByText := true, laidKinds := [.data, .data, .data, .data, .pinned], laidTests := true, laidLooks := .later }
def VtgTakesCardSaid : Prop := Claim7.holds Tryz.pinned (.plain (OpenSpec.ofChange vtgTakesSpec)) vtgTakesCard

/-- THE SECOND FORM's CARD OF 'landfalllaw28.VtgTakes'. -/
def vtgTakesUptoCard : Claim7 := { stood := { row := vtgTakesUptoRow, standIns := [], harness := (true, "0db74e7089b86c51bb91346f248e0925c02288cade272f6a4ab9c8c1190351ba"), looks := false }, kinds := [], alts := [], laidByText := true, laidKinds := [.data, .data, .data, .data, .pinned], laidTests := true, laidLooks := .later }
def VtgTakesUptoCardSaid : Prop := Claim7.holds Tryz.pinned (.plain (OpenSpec.upto vtgTakesSpec)) vtgTakesUptoCard
end Rows
end Go.Proofs.YtcacgejljbofjaaGreatDoor
