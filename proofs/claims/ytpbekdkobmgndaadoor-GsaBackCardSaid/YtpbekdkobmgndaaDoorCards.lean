/-
  DERIVED. GIVEN WITH THE SEED: THE CARDS: each row of YtpbekdkobmgndaaDoorRows.lean that lists a variable, with what it lists TIED to the program's text (the seventh form; the later family's looks); each row that meets fmt, with fmt's text TOLD by the authors' own Lean function (tested against real Go, not proved from fmt's source: count such statements apart). THE CARD IS WHAT COUNTS. Prove the row's statement (the work); the ties are given (YtpbekdkobmgndaaDoorTie.lean); close each card by the builder's one call (the guide's Derived/Test/ToyasCard.lean, 'card_holds'). Laid BY PROGRAM, IN A SANDBOX (cutbox-door.mjs). By AI agents, Wed Nov 11 2026. No macro, syntax, notation, axiom, sorry.
-/
import Derived.Test.YtpbekdkobmgndaaDoorRows
import GoSem.ClaimSeven
namespace Go.Proofs.YtpbekdkobmgndaaDoor
namespace Rows

/-- THE TIED CARD OF 'landfalllaw27.GsaBack'. -/
def gsaBackCard : Claim7 := { stood := { row := gsaBackRow, standIns := [], harness := (true, "cfb458701fac06e879c7fa9e8949e4c8ee818aac15e106da97a63c1dfee6affc"), looks := false }, kinds := [], alts := [], laidByText := true, laidKinds := [.data, .data, .data, .data, .pinned], laidTests := true, laidLooks := .later }
def GsaBackCardSaid : Prop := Claim7.holds Tryd.pinned (.plain (OpenSpec.ofChange gsaBackSpec)) gsaBackCard

/-- THE SECOND FORM's CARD OF 'landfalllaw27.GsaBack'. -/
def gsaBackUptoCard : Claim7 := { stood := { row := gsaBackUptoRow, standIns := [], harness := (true, "cfb458701fac06e879c7fa9e8949e4c8ee818aac15e106da97a63c1dfee6affc"), looks := false }, kinds := [], alts := [], laidByText := true, laidKinds := [.data, .data, .data, .data, .pinned], laidTests := true, laidLooks := .later }
def GsaBackUptoCardSaid : Prop := Claim7.holds Tryd.pinned (.plain (OpenSpec.upto gsaBackSpec)) gsaBackUptoCard
end Rows
end Go.Proofs.YtpbekdkobmgndaaDoor
